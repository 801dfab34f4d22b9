/- the texts Plain, More, TxtNum, in part, merged by program -/
import Derived.Test.YtcjhniehbafhpaaRows
import Derived.WalkKit
import Derived.WalkSpells
namespace Go.Proofs.Ytcjhniehbafhpaa
open Go.RowKit
set_option maxRecDepth 100000
def numL (l : List UInt8) : Int := l.foldl (fun n b => n * 256 + (b.toNat : Int)) 0
def numS (s : ByteArray) : Int := numL s.data.toList
def outB (n a b : Int) : Bool := decide (n < a ∨ b < n)
def codeB (b : Bool) : Int := if b = true then 0 else 1
theorem outB_t {n a b : Int} (h : n < a ∨ b < n) : outB n a b = true := decide_eq_true h
theorem outB_f {n a b : Int} (h : a ≤ n ∧ n ≤ b) : outB n a b = false := decide_eq_false (by omega)
theorem tmod_round (n m : Int) (hm : 0 < m) : (n.tmod m + m) % m = n % m ∧ -m < n.tmod m ∧ n.tmod m < m := by
  refine ⟨?_, ?_, Int.tmod_lt_of_pos n hm⟩
  · rw [Int.add_emod_right]
    by_cases h0 : 0 ≤ n
    · rw [Int.tmod_eq_emod_of_nonneg h0, Int.emod_emod]
    · obtain ⟨k, rfl⟩ : ∃ k : Int, n = -k := ⟨-n, by omega⟩
      rw [Int.neg_tmod, Int.tmod_eq_emod_of_nonneg (by omega : 0 ≤ k)]
      have e : -k = -(k % m) + m * (-(k / m)) := by have := Int.emod_add_mul_ediv k m; rw [Int.mul_neg]; omega
      have h := Int.add_mul_emod_self_left (-(k % m)) m (-(k / m))
      rw [← e] at h; exact h.symm
  · by_cases h0 : 0 ≤ n
    · have := Int.tmod_nonneg m h0; omega
    · obtain ⟨k, rfl⟩ : ∃ k : Int, n = -k := ⟨-n, by omega⟩
      rw [Int.neg_tmod]; have := Int.tmod_lt_of_pos k hm; omega

theorem ba_toList {a b : ByteArray} (h : a.data.toList = b.data.toList) : a = b := ByteArray.ext (Array.ext' h)
theorem app_toList (a b : ByteArray) : (a ++ b).data.toList = a.data.toList ++ b.data.toList := by rw [ByteArray.data_append, Array.toList_append]
theorem ext_toList (s : ByteArray) (a b : Nat) : (s.extract a b).data.toList = (s.data.toList.drop a).take (b - a) := by simp
theorem len_toList (s : ByteArray) : s.data.toList.length = s.size := by simp
end Go.Proofs.Ytcjhniehbafhpaa

namespace Go.Proofs.Ytcjhniehbafhpaa
open Go.RowKit
set_option maxRecDepth 100000

theorem bt {a b c : World} (h : Below a.heap.size a b) (k : Below b.heap.size b c) : Below a.heap.size a c := h.trans (k.mono h.size)

theorem among_any (n m : Int) (w : World) (m0 : 0 < m) (m1 : m ≤ 1000000000000) :
    Calls Try.prog 10 #[.int .i64 n, .int .i64 m] w fun e w' => e = .returned (.int .i64 (n % m)) ∧ w' = w := by
  obtain ⟨h, h1, h2⟩ := tmod_round n m m0
  rw [← h]; clear h
  go_enter Try.func10, Try.ntmps10
  go_wp2
  go_ret
  exact ⟨rfl, rfl⟩

theorem rcheck_any (a : Int) (w : World) : Calls Try.prog 41 #[.int .i64 a] w fun e w' => e = .returned (.int .i64 (codeB (!outB a 0 4294967295))) ∧ w' = w := by
  by_cases h : a < 0
  · rw [outB_t (Or.inl h)]
    go_enter Try.func41, Try.ntmps41
    go_wp2
    go_ret
    exact ⟨rfl, rfl⟩
  · by_cases h2 : 4294967295 < a
    · rw [outB_t (Or.inr h2)]
      go_enter Try.func41, Try.ntmps41
      go_wp2
      go_ret
      exact ⟨rfl, rfl⟩
    · rw [outB_f (by omega)]
      go_enter Try.func41, Try.ntmps41
      go_wp2
      go_ret
      exact ⟨rfl, rfl⟩

end Go.Proofs.Ytcjhniehbafhpaa

namespace Go.Proofs.Ytcjhniehbafhpaa
open Go.RowKit
set_option maxRecDepth 100000
theorem list_inj {a b : ByteArray} (h : a.toList = b.toList) : a = b := by rw [ByteArray.toList_eq, ByteArray.toList_eq] at h; exact ba_toList h
theorem cut_join (l : List UInt8) (a k m : Nat) : (l.drop a).take k ++ (l.drop (a + k)).take m = (l.drop a).take (k + m) := by
  rw [List.take_add, List.drop_drop]
end Go.Proofs.Ytcjhniehbafhpaa
