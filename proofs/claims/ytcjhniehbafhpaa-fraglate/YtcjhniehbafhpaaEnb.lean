/- The contracts of Encode of package ip, and of the chapter's example: each returns just the values named here; nothing that was there turns. -/
import Derived.Test.YtcjhniehbafhpaaEnc
import Derived.Test.YtcjhniehbafhpaaChk
namespace Go.Proofs.Ytcjhniehbafhpaa
open Go.RowKit
set_option maxRecDepth 100000

theorem encP_le {f t tl pr id fr : Int} {mo dn : Bool} {op da : ByteArray} (h : mayP f t tl pr id fr mo op.size da.size = true) : (encP f t tl pr id fr mo dn op da).size ≤ 65535 := by
  rw [encP_size]; have := mayP_q h; obtain ⟨-, -, -, -, -, -, -, -, -, hz, -⟩ := this; exact hz
theorem ex_is : encP 10 11 64 6 0 0 false false ⟨#[]⟩ ⟨#[97, 98]⟩ = ⟨#[69, 0, 0, 22, 0, 0, 0, 0, 64, 6, 122, 206, 0, 0, 0, 10, 0, 0, 0, 11, 97, 98]⟩ := by decide +kernel
theorem ex_may : mayP 10 11 64 6 0 0 false (⟨#[]⟩ : ByteArray).size (⟨#[97, 98]⟩ : ByteArray).size = true := by decide +kernel
theorem ex_a : ((⟨#[69, 0, 0, 22, 0, 0, 0, 0, 64, 6, 122, 206, 0, 0, 0, 10, 0, 0, 0, 11, 97, 98]⟩ : ByteArray).extract 0 10).toList = [69, 0, 0, 22, 0, 0, 0, 0, 64, 6] := by decide +kernel
theorem ex_b : ((⟨#[69, 0, 0, 22, 0, 0, 0, 0, 64, 6, 122, 206, 0, 0, 0, 10, 0, 0, 0, 11, 97, 98]⟩ : ByteArray).extract 12 22).toList = [0, 0, 0, 10, 0, 0, 0, 11, 97, 98] := by decide +kernel
end Go.Proofs.Ytcjhniehbafhpaa
