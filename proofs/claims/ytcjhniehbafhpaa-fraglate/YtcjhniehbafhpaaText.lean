/- The contracts of sum.put and of the document's Text: each returns the bytes of the number, the highest first; nothing that was there turns. -/
import Derived.Test.YtcjhniehbafhpaaCalls
namespace Go.Proofs.Ytcjhniehbafhpaa
open Go.RowKit
set_option maxRecDepth 100000

theorem Try.info5 : (Try.prog.info? 5).map (fun i => (i.zero, i.size, i.bytes)) = some (some (.int .u8 0), 1, 1) := by kernel_rfl

end Go.Proofs.Ytcjhniehbafhpaa
