/- The contracts of echo and May of package icmp, and of the document's May: each returns just the values named here; nothing that was there turns. -/
import Derived.Test.YtbbeepkcejiafaaIcs
import Derived.Test.YtbbeepkcejiafaaChk
namespace Go.Proofs.Ytbbeepkcejiafaa
open Go.RowKit

def b0 (s : ByteArray) : Int := if h : 0 < s.size then (s[0].toNat : Int) else 256
def echoB (s : ByteArray) : Bool := b0 s == 0 || b0 s == 8
def tellB (f t pr fr : Int) (da : ByteArray) (m : Bool) : Bool := m && fr == 0 && !(f == 0) && !(t == 4294967295) && (pr != 1 || echoB da)
theorem b0_is (s : ByteArray) (h : 0 < s.size) : (s[0].toNat : Int) = b0 s := by unfold b0; rw [dif_pos h]
theorem some_bytes (s : ByteArray) (h : 0 < s.size) : s.toList ≠ [] := by
  intro e
  rw [ByteArray.toList_eq] at e
  have h2 : s.data.toList.length = 0 := by rw [e]; rfl
  rw [len_toList] at h2
  omega
theorem no_bytes (s : ByteArray) (h : s.size = 0) : s = ⟨#[]⟩ := by
  apply ba_toList
  have : s.data.toList.length = 0 := by rw [len_toList]; omega
  rw [List.length_eq_zero_iff.1 this]
theorem ech_any (s : ByteArray) (w : World) (hs : s.size ≤ 1125899906842624) :
    Calls Try.prog 36 #[.string s] w fun e w' => e = .returned (.bool (echoB s)) ∧ w' = w := by
  have hs' : (s.size : Int) ≤ 1125899906842624 := by omega
  by_cases h : 0 < s.size
  · have h' : 0 < (s.size : Int) := by omega
    have e0 := b0_is s h
    have hne := some_bytes s h
    have hne' : (s.toList == []) = false := by simpa using hne
    unfold echoB
    cases k1 : (b0 s == 0)
    · cases k2 : (b0 s == 8)
      all_goals
        go_enter Try.func36, Try.ntmps36
        go_wp2
        go_ret
        exact ⟨rfl, rfl⟩
    · go_enter Try.func36, Try.ntmps36
      go_wp2
      go_ret
      exact ⟨rfl, rfl⟩
  · have hs0 := no_bytes s (by omega)
    subst hs0
    go_enter Try.func36, Try.ntmps36
    go_wp2
    go_ret
    exact ⟨rfl, rfl⟩

theorem tell_ways (f t pr fr : Int) (da : ByteArray) (m : Bool) : (tellB f t pr fr da m = false ∧ m = false) ∨ (m = true ∧ ((tellB f t pr fr da m = false ∧ (fr != 0) = true) ∨ (fr != 0) = false ∧ ((tellB f t pr fr da m = false ∧ (f == 0) = true) ∨ (f == 0) = false ∧ ((tellB f t pr fr da m = false ∧ (t == 4294967295) = true) ∨ (t == 4294967295) = false ∧ ((tellB f t pr fr da m = true ∧ (pr != 1) = true) ∨ (pr != 1) = false ∧ tellB f t pr fr da m = echoB da))))) := by
  unfold tellB
  cases m
  · exact .inl ⟨rfl, rfl⟩
  · refine .inr ⟨rfl, ?_⟩
    cases k1 : (fr == 0)
    · exact .inl ⟨rfl, by simpa using k1⟩
    · refine .inr ⟨by simpa using k1, ?_⟩
      cases k2 : (f == 0)
      · refine .inr ⟨rfl, ?_⟩
        cases k3 : (t == 4294967295)
        · refine .inr ⟨rfl, ?_⟩
          cases k4 : (pr != 1)
          · exact .inr ⟨rfl, by simp⟩
          · exact .inl ⟨by simp, rfl⟩
        · exact .inl ⟨rfl, rfl⟩
      · exact .inl ⟨rfl, rfl⟩

set_option maxRecDepth 100000 in
set_option maxHeartbeats 2000000 in
theorem tell_any (f t tl pr id fr : Int) (mo dn : Bool) (op da : ByteArray) (w : World) (ho : op.size ≤ 1125899906842624) (hd : da.size ≤ 1125899906842624) :
    Calls Try.prog 20 #[.agg #[.int .i64 f, .int .i64 t, .int .i64 tl, .int .i64 pr, .int .i64 id, .int .i64 fr, .bool mo, .bool dn, .string op, .string da]] w fun e w' => e = .returned (.bool (tellB f t pr fr da (mayP f t tl pr id fr mo op.size da.size))) ∧ Below w.heap.size w w' := by
  have hA := At.box w #[.int .i64 f, .int .i64 t, .int .i64 tl, .int .i64 pr, .int .i64 id, .int .i64 fr, .bool mo, .bool dn, .string op, .string da] 35
  have hl := bel1 w (.cells #[.int .i64 f, .int .i64 t, .int .i64 tl, .int .i64 pr, .int .i64 id, .int .i64 fr, .bool mo, .bool dn, .string op, .string da] 35)
  rcases tell_ways f t pr fr da (mayP f t tl pr id fr mo op.size da.size) with ⟨hm, h⟩ | ⟨h, ⟨hm, k1⟩ | ⟨k1, ⟨hm, k2⟩ | ⟨k2, ⟨hm, k3⟩ | ⟨k3, ⟨hm, k4⟩ | ⟨k4, hm⟩⟩⟩⟩⟩
  all_goals
    rw [hm]; clear hm
    go_enter Try.func20, Try.ntmps20
    go_wp2_with fail
    first | refine (chk_t h _ ho hd).mono ?_ | refine (chk_f h _ ho hd).mono ?_
    rintro e w1 ⟨rfl, hb⟩
    have hl := bt hl hb
    obtain ⟨⟨c0, c1, c2, c3, c4, c5, c6, c7, c8, c9⟩, -, -⟩ := (hA.later hb).ten
    clear hA hb
    go_wp2_with (first | (go_at_call 36; refine (ech_any _ _ hd).mono ?_; rintro e w' ⟨rfl, rfl⟩))
    go_ret
    exact ⟨rfl, hl⟩
set_option maxRecDepth 100000 in
set_option maxHeartbeats 2000000 in
theorem rtell_any (f t tl pr id fr : Int) (mo dn : Bool) (op da : ByteArray) (w : World) (ho : op.size ≤ 1125899906842624) (hd : da.size ≤ 1125899906842624) :
    Calls Try.prog 21 #[.agg #[.int .i64 f, .int .i64 t, .int .i64 tl, .int .i64 pr, .int .i64 id, .int .i64 fr, .bool mo, .bool dn, .string op, .string da]] w fun e w' => e = .returned (.bool (tellB f t pr fr da (mayP f t tl pr id fr mo op.size da.size))) ∧ Below w.heap.size w w' := by
  have hA := At.box w #[.int .i64 f, .int .i64 t, .int .i64 tl, .int .i64 pr, .int .i64 id, .int .i64 fr, .bool mo, .bool dn, .string op, .string da] 35
  have hl := bel1 w (.cells #[.int .i64 f, .int .i64 t, .int .i64 tl, .int .i64 pr, .int .i64 id, .int .i64 fr, .bool mo, .bool dn, .string op, .string da] 35)
  have hd' : (da.size : Int) ≤ 1125899906842624 := by omega
  rcases tell_ways f t pr fr da (mayP f t tl pr id fr mo op.size da.size) with ⟨hm, h⟩ | ⟨h, ⟨hm, k1⟩ | ⟨k1, ⟨hm, k2⟩ | ⟨k2, ⟨hm, k3⟩ | ⟨k3, ⟨hm, k4⟩ | ⟨k4, hm⟩⟩⟩⟩⟩
  iterate 5
    · rw [hm]; clear hm
      go_enter Try.func21, Try.ntmps21
      go_wp2_with fail
      first | refine (rchk_t h _ ho hd).mono ?_ | refine (rchk_f h _ ho hd).mono ?_
      rintro e w1 ⟨rfl, hb⟩
      have hl := bt hl hb
      obtain ⟨⟨c0, c1, c2, c3, c4, c5, c6, c7, c8, c9⟩, -, -⟩ := (hA.later hb).ten
      clear hA hb
      go_wp2
      go_ret
      exact ⟨rfl, hl⟩
  · rw [hm]; clear hm
    by_cases g : 0 < da.size
    · have g' : 0 < (da.size : Int) := by omega
      have e0 := b0_is da g
      have hne := some_bytes da g
      have hne' : (da.toList == []) = false := by simpa using hne
      unfold echoB
      cases q1 : (b0 da == 0)
      · cases q2 : (b0 da == 8)
        all_goals
          go_enter Try.func21, Try.ntmps21
          go_wp2_with fail
          refine (rchk_t h _ ho hd).mono ?_
          rintro e w1 ⟨rfl, hb⟩
          have hl := bt hl hb
          obtain ⟨⟨c0, c1, c2, c3, c4, c5, c6, c7, c8, c9⟩, -, -⟩ := (hA.later hb).ten
          clear hA hb
          go_wp2
          go_ret
          exact ⟨rfl, hl⟩
      · go_enter Try.func21, Try.ntmps21
        go_wp2_with fail
        refine (rchk_t h _ ho hd).mono ?_
        rintro e w1 ⟨rfl, hb⟩
        have hl := bt hl hb
        obtain ⟨⟨c0, c1, c2, c3, c4, c5, c6, c7, c8, c9⟩, -, -⟩ := (hA.later hb).ten
        clear hA hb
        go_wp2
        go_ret
        exact ⟨rfl, hl⟩
    · have hs0 := no_bytes da (by omega)
      subst hs0
      go_enter Try.func21, Try.ntmps21
      go_wp2_with fail
      refine (rchk_t h _ ho hd).mono ?_
      rintro e w1 ⟨rfl, hb⟩
      have hl := bt hl hb
      obtain ⟨⟨c0, c1, c2, c3, c4, c5, c6, c7, c8, c9⟩, -, -⟩ := (hA.later hb).ten
      clear hA hb
      go_wp2
      go_ret
      exact ⟨rfl, hl⟩
end Go.Proofs.Ytbbeepkcejiafaa
