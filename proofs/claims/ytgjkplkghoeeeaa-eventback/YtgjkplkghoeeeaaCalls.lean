/- The contracts of the functions of package sum, and of the document's answer for layer 2, that make no memory: each returns just the values named here. -/
import Derived.Test.YtgjkplkghoeeeaaRows
import Derived.Test.YtgjkplkghoeeeaaPlain
import Derived.WalkKit
import Derived.WalkSpells
namespace Go.Proofs.Ytgjkplkghoeeeaa
open Go.RowKit

theorem ret_int {k : IntKind} {a b : Int} (h : a = b) : Ending.returned (.int k a) = .returned (.int k b) := by rw [h]
theorem ret_str {a b : ByteArray} (h : a = b) : Ending.returned (.string a) = .returned (.string b) := by rw [h]

end Go.Proofs.Ytgjkplkghoeeeaa
