/- The contract of complete. -/
import Derived.Test.YtcjhniehbafhpaaFi
namespace Go.Proofs.Ytcjhniehbafhpaa
open Go.RowKit Go.Maps
set_option maxRecDepth 100000
set_option linter.unusedVariables false
set_option linter.unusedSimpArgs false

def gapless : Int → List Pk → Bool
  | _, [] => true
  | a, q :: r => decide (q.st = a) && gapless q.en r
theorem gapless_cons (a : Int) (q : Pk) (r : List Pk) : gapless a (q :: r) = (decide (q.fr * 8 = a) && gapless (q.fr * 8 + (q.da.size : Int)) r) := rfl
def lastB (ps : List Pk) : Bool := match ps.getLast? with | some q => !q.mo | none => false
def completeB (ps : List Pk) : Bool := gapless 0 ps && lastB ps
theorem oneQ (q : Pk) : (#[.int .i64 q.f, .int .i64 q.t, .int .i64 q.tl, .int .i64 q.pr, .int .i64 q.id, .int .i64 q.fr, .bool q.mo, .bool q.dn, .string q.op, .string q.da] : Array Value).all (·.oneCell') = true := by simp [Value.oneCell']
set_option maxHeartbeats 4000000 in
theorem complete_any (ps : List Pk) (at_ tu : Int) (v : Value) (R : Nat) (w : World) (hr : RW w R v ps) (hn : ps.length < 100) (h0 : ps ≠ []) (hk : ∀ q ∈ ps, q.Fine) :
    Calls Try.prog 39 #[.agg #[.int .i64 at_, .int .i64 tu, v]] w fun e w' => e = .returned (.bool (completeB ps)) ∧ Below w.heap.size w w' := by
  have hX := At.box w #[.int .i64 at_, .int .i64 tu, v] 61
  have hl := bel1 w (.cells #[.int .i64 at_, .int .i64 tu, v] 61)
  have hr0 := hr.later hl
  obtain ⟨g, c, cur, rfl, -⟩ := hr.real h0
  have HK : Hid (∀ q ∈ ps, q.Fine) := hk
  have H0 : Hid (ps ≠ []) := h0
  clear hr hk h0
  go_enter Try.func39, Try.ntmps39
  go_upto_region 1 with fail
  generalize w.alloc (.cells #[.int .i64 at_, .int .i64 tu, .slice (some ⟨g, 0, none⟩) ps.length c] 61) = W0 at *
  have x2 := (hX.2 2 _ rfl).1
  go_wp2
  go_loopw [3, 9] (fun s3 s9 W => ∃ (j : Nat) (a : Int), j ≤ ps.length ∧ (0 ≤ a ∧ a ≤ 200000) ∧ s3 = .int .i64 a ∧ s9 = .int .i64 (j : Int) ∧ Below W0.heap.size W0 W ∧ Hid (gapless 0 ps = gapless a (ps.drop j))) (fun _ s9 _ => ps.length - (intOf s9).toNat)
  case atStart => exact ⟨0, 0, Nat.zero_le _, by decide, rfl, rfl, Below.refl _ _, rfl⟩
  case round =>
    obtain ⟨j, a, hj, ⟨ha0, ha1⟩, rfl, rfl, hb, HG⟩ := hrel
    by_cases hlt : j < ps.length
    · obtain ⟨q, he⟩ : ∃ q, ps[j]? = some q := ⟨_, List.getElem?_eq_getElem hlt⟩
      have hcl := (hr0.later hb).cells he
      have hrg : wr.rangeAt g (j * 10) [.int .i64 q.f, .int .i64 q.t, .int .i64 q.tl, .int .i64 q.pr, .int .i64 q.id, .int .i64 q.fr, .bool q.mo, .bool q.dn, .string q.op, .string q.da] := fun i u hu => hcl i u hu
      have hq := HK.out q (List.mem_of_getElem? he)
      have hdr : ps.drop j = q :: ps.drop (j + 1) := by
        obtain ⟨h1, h2⟩ := List.getElem?_eq_some_iff.1 he
        rw [← h2]
        exact List.drop_eq_getElem_cons h1
      have HD : Hid (ps.drop j = q :: ps.drop (j + 1)) := hdr
      have hlt' : (j : Int) < (ps.length : Int) := by omega
      have hone := oneQ q
      clear hcl he hdr x2
      go_upto_region 5 with (first
        | (refine wpList_load_mid rfl 32 _ rfl g (j * 10) (by first | rfl | simp) _ _ hrg Try.underlying32 rfl (by kernel_rfl) ?_)
        | (refine wpList_store_at rfl 32 _ _ rfl _ wr.heap.size #[.int .i64 0, .int .i64 0, .int .i64 0, .int .i64 0, .int .i64 0, .int .i64 0, .bool false, .bool false, .string ⟨#[]⟩, .string ⟨#[]⟩] #[.int .i64 q.f, .int .i64 q.t, .int .i64 q.tl, .int .i64 q.pr, .int .i64 q.id, .int .i64 q.fr, .bool q.mo, .bool q.dn, .string q.op, .string q.da] rfl rfl (At.box wr #[.int .i64 0, .int .i64 0, .int .i64 0, .int .i64 0, .int .i64 0, .int .i64 0, .bool false, .bool false, .string ⟨#[]⟩, .string ⟨#[]⟩] 32) rfl (by kernel_rfl) hone ?_; intro w1 hB1 ht1)
        | go_in)
      have q1 : Below wr.heap.size wr w1 := (bel1 wr (.cells #[.int .i64 0, .int .i64 0, .int .i64 0, .int .i64 0, .int .i64 0, .int .i64 0, .bool false, .bool false, .string ⟨#[]⟩, .string ⟨#[]⟩] 32)).trans (ht1.below (bel1 wr (.cells #[.int .i64 0, .int .i64 0, .int .i64 0, .int .i64 0, .int .i64 0, .int .i64 0, .bool false, .bool false, .string ⟨#[]⟩, .string ⟨#[]⟩] 32)).size (fun k hk e => by omega))
      replace hb := bt hb q1
      have q0 := hq.f0
      have q1' := hq.f1
      have q2 := hq.dl
      go_wp2_with (first | (refine wpList_load_at rfl 32 _ rfl _ wr.heap.size #[.int .i64 q.f, .int .i64 q.t, .int .i64 q.tl, .int .i64 q.pr, .int .i64 q.id, .int .i64 q.fr, .bool q.mo, .bool q.dn, .string q.op, .string q.da] _ rfl hB1 Try.underlying32 (by kernel_rfl) ?_) | fail)
      refine (start_any q _ hq).mono ?_
      rintro e w2 ⟨rfl, l2⟩
      by_cases hst : q.fr * 8 = a
      · have hst' : (q.fr * 8 != a) = false := by simp [hst]
        have HS : Hid (q.fr * 8 = a) := hst
        clear hst
        have hB2 := hB1.later l2
        go_wp2_with (first | (refine wpList_load_at rfl 32 _ rfl _ wr.heap.size #[.int .i64 q.f, .int .i64 q.t, .int .i64 q.tl, .int .i64 q.pr, .int .i64 q.id, .int .i64 q.fr, .bool q.mo, .bool q.dn, .string q.op, .string q.da] _ rfl hB2 Try.underlying32 (by kernel_rfl) ?_) | fail)
        refine (end_any q _ hq).mono ?_
        rintro e w3 ⟨rfl, l3⟩
        clear hrg hB1 hB2 hone q1 ht1
        go_wp2
        go_roundw
        case rel => exact ⟨j + 1, q.fr * 8 + (q.da.size : Int), by omega, by omega, rfl, by simp, bt (bt hb l2) l3, by have h1 := HG.out; rw [HD.out, gapless_cons, decide_eq_true HS.out, Bool.true_and] at h1; exact h1⟩
        case measure => simp [intOf]; omega
      · have hst' : (q.fr * 8 != a) = true := by simp [hst]
        have HS : Hid (¬ q.fr * 8 = a) := hst
        clear hst hrg hB1 hone q1 ht1
        go_wp2
        go_ret
        refine ⟨?_, bt hl (bt hb l2)⟩
        have h1 := HG.out
        rw [HD.out, gapless_cons, decide_eq_false HS.out, Bool.false_and] at h1
        unfold completeB
        rw [h1]
        rfl
    · have hje : j = ps.length := by omega
      subst hje
      have hl0 : 0 < ps.length := List.length_pos_iff.2 H0.out
      obtain ⟨q, he⟩ : ∃ q, ps[ps.length - 1]? = some q := ⟨_, List.getElem?_eq_getElem (by omega)⟩
      have hcl := ((hr0.later hb).cells he) 6 _ rfl
      have x2' := ((hX.later hb).2 2 _ rfl).1
      have HLq : Hid (lastB ps = !q.mo) := by
        show lastB ps = _
        unfold lastB
        rw [List.getLast?_eq_getElem?, he]
      have HG' : Hid (gapless 0 ps = true) := by
        have := HG.out
        rw [List.drop_length] at this
        exact this
      have hi0 : (0 : Int) ≤ (ps.length : Int) - 1 := by omega
      have hi1 : (ps.length : Int) - 1 < (ps.length : Int) := by omega
      have hi2 : ((ps.length : Int) - 1).toNat = ps.length - 1 := by omega
      clear x2 he
      go_wp2
      go_ret
      refine ⟨?_, bt hl hb⟩
      unfold completeB
      rw [HG'.out, HLq.out]
      rfl
end Go.Proofs.Ytcjhniehbafhpaa
