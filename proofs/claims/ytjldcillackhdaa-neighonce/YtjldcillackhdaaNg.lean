/- Take. -/
import Derived.Test.YtjldcillackhdaaNga
import Derived.Test.YtjldcillackhdaaNgb
import Derived.Test.YtjldcillackhdaaNgc
import Derived.Test.YtjldcillackhdaaNgd
import Derived.Test.YtjldcillackhdaaNge
import Derived.Test.YtjldcillackhdaaNgf
namespace Go.Proofs.Ytjldcillackhdaa
open Go.RowKit Go.Maps Go.Proofs.Ytjldcillackhdaa.Eth Go.Proofs.Ytjldcillackhdaa.Eth.Arp
set_option maxRecDepth 100000
set_option linter.unusedVariables false
set_option linter.unusedSimpArgs false

end Go.Proofs.Ytjldcillackhdaa
