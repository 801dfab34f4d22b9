/- A wheel in plain lists; New, Set, Drop, At, Now. -/
import Derived.Test.YtbdloehdhdifpaaWa
namespace Go.Proofs.Ytbdloehdhdifpaa
open Go.RowKit Go.Maps
set_option maxRecDepth 100000
set_option linter.unusedVariables false
set_option linter.unusedSimpArgs false

/-- A timer: its number, and the tick at which it is due. -/
abbrev Tm := Int × Int
def tV (e : Tm) : Vn := (e.1, .int .i64 e.2)
def bef (x y : Tm) : Prop := x.2 < y.2 ∨ x.2 = y.2 ∧ x.1 < y.1
/-- The timers of a wheel, in order. -/
structure WL (L : List Tm) : Prop where
  srt : L.Pairwise bef
  nod : (L.map (·.1)).Nodup
  ok : ∀ e ∈ L, (0 ≤ e.1 ∧ e.1 ≤ 1073741824) ∧ 0 ≤ e.2 ∧ e.2 ≤ 1099511627776
  len : L.length ≤ 1024
def lkT (L : List Tm) (n : Int) : Option Int := (L.find? (fun e => e.1 == n)).map (·.2)
def delT (L : List Tm) (n : Int) : List Tm := L.filter fun e => e.1 != n
def insT (e : Tm) : List Tm → List Tm
  | [] => [e]
  | y :: r => if y.2 < e.2 ∨ y.2 = e.2 ∧ y.1 < e.1 then y :: insT e r else e :: y :: r
def putT (L : List Tm) (e : Tm) : List Tm := insT e (delT L e.1)
theorem WL.nil : WL [] := ⟨List.Pairwise.nil, List.nodup_nil, fun e he => (by cases he), by simp⟩
theorem lkT_mem {L : List Tm} {n t : Int} (h : lkT L n = some t) : (n, t) ∈ L := by
  unfold lkT at h
  cases hf : L.find? (fun e => e.1 == n) with
  | none => rw [hf] at h; cases h
  | some e =>
    rw [hf] at h
    have h1 := List.find?_some hf
    have h2 := List.mem_of_find?_eq_some hf
    simp at h1 h
    subst h1 h
    exact h2
theorem key_one {L : List Tm} (hn : (L.map (·.1)).Nodup) {x y : Tm} (hx : x ∈ L) (hy : y ∈ L) (e : x.1 = y.1) : x = y := by
  induction L with
  | nil => cases hx
  | cons z r ih =>
    rw [List.map_cons, List.nodup_cons] at hn
    rcases List.mem_cons.1 hx with h1 | h1
    · rcases List.mem_cons.1 hy with h2 | h2
      · rw [h1, h2]
      · exact absurd (List.mem_map.2 ⟨y, h2, by rw [← h1]; exact e.symm⟩) hn.1
    · rcases List.mem_cons.1 hy with h2 | h2
      · exact absurd (List.mem_map.2 ⟨x, h1, by rw [← h2]; exact e⟩) hn.1
      · exact ih hn.2 h1 h2
theorem lkT_of {L : List Tm} (hn : (L.map (·.1)).Nodup) {n t : Int} (h : (n, t) ∈ L) : lkT L n = some t := by
  unfold lkT
  cases hf : L.find? (fun e => e.1 == n) with
  | none =>
    rw [List.find?_eq_none] at hf
    have := hf _ h
    simp at this
  | some e =>
    have h1 := List.find?_some hf
    have h2 := List.mem_of_find?_eq_some hf
    simp at h1
    have := key_one hn h2 h h1
    subst this
    rfl
theorem lkT_none {L : List Tm} {n : Int} (h : lkT L n = none) : ∀ e ∈ L, e.1 ≠ n := by
  intro e he hk
  unfold lkT at h
  rw [Option.map_eq_none_iff, List.find?_eq_none] at h
  have := h e he
  simp [hk] at this
theorem mem_insT {e x : Tm} : ∀ {L : List Tm}, x ∈ insT e L ↔ x = e ∨ x ∈ L
  | [] => by simp [insT]
  | y :: r => by
    unfold insT
    split
    · simp only [List.mem_cons, mem_insT (L := r)]
      constructor
      · rintro (h | h | h) <;> simp [h]
      · rintro (h | h | h) <;> simp [h]
    · simp
theorem perm_insT (e : Tm) : ∀ L : List Tm, (insT e L).Perm (e :: L)
  | [] => List.Perm.refl _
  | y :: r => by
    unfold insT
    split
    · exact ((perm_insT e r).cons y).trans (List.Perm.swap _ _ _)
    · exact List.Perm.refl _
theorem bef_total {x y : Tm} (h : ¬ bef y x) (hk : y.1 ≠ x.1) : bef x y := by unfold bef at *; omega
theorem srt_insT {e : Tm} : ∀ {L : List Tm}, L.Pairwise bef → (∀ y ∈ L, y.1 ≠ e.1) → (insT e L).Pairwise bef
  | [], _, _ => by simp [insT]
  | y :: r, h, hk => by
    have hy := List.pairwise_cons.1 h
    unfold insT
    split
    · rename_i hb
      refine List.pairwise_cons.2 ⟨fun x hx => ?_, srt_insT hy.2 (fun z hz => hk z (List.mem_cons_of_mem _ hz))⟩
      rcases mem_insT.1 hx with rfl | h2
      · exact hb
      · exact hy.1 x h2
    · rename_i hb
      have h1 : bef e y := bef_total hb (hk y (List.mem_cons_self ..))
      refine List.pairwise_cons.2 ⟨fun x hx => ?_, h⟩
      rcases List.mem_cons.1 hx with rfl | h2
      · exact h1
      · have := hy.1 x h2
        unfold bef at *
        omega
theorem WL.del {L : List Tm} (h : WL L) (n : Int) : WL (delT L n) :=
  ⟨List.Pairwise.filter _ h.srt, (List.filter_sublist.map _).nodup h.nod, fun e he => h.ok e (List.mem_filter.1 he).1, Nat.le_trans (List.length_filter_le _ _) h.len⟩
theorem WL.part {L : List Tm} (h : WL L) (p : Tm → Bool) : WL (L.filter p) :=
  ⟨List.Pairwise.filter _ h.srt, (List.filter_sublist.map _).nodup h.nod, fun e he => h.ok e (List.mem_filter.1 he).1, Nat.le_trans (List.length_filter_le _ _) h.len⟩
theorem delT_key {L : List Tm} {n : Int} : ∀ e ∈ delT L n, e.1 ≠ n := fun e he => by simpa using (List.mem_filter.1 he).2
theorem len_del {L : List Tm} {n t : Int} (h : lkT L n = some t) : (delT L n).length + 1 ≤ L.length := by
  have hm := lkT_mem h
  have h1 : (delT L n).length < L.length := by
    unfold delT
    exact List.length_filter_lt_length_iff_exists.2 ⟨(n, t), hm, by simp⟩
  omega
theorem WL.put {L : List Tm} (h : WL L) {e : Tm} (he : (0 ≤ e.1 ∧ e.1 ≤ 1073741824) ∧ 0 ≤ e.2 ∧ e.2 ≤ 1099511627776) (hr : lkT L e.1 ≠ none ∨ L.length < 1024) : WL (putT L e) := by
  have hd := h.del e.1
  refine ⟨srt_insT hd.srt delT_key, ?_, fun x hx => ?_, ?_⟩
  · refine (((perm_insT e _).map (·.1)).nodup_iff).2 ?_
    rw [List.map_cons, List.nodup_cons]
    refine ⟨fun hm => ?_, hd.nod⟩
    obtain ⟨x, hx, hk⟩ := List.mem_map.1 hm
    exact delT_key x hx hk
  · rcases mem_insT.1 hx with rfl | h2
    · exact he
    · exact hd.ok x h2
  · have h1 := (perm_insT e (delT L e.1)).length_eq
    unfold putT
    rw [h1, List.length_cons]
    rcases hr with h2 | h2
    · cases hq : lkT L e.1 with
      | none => exact absurd hq h2
      | some t => have := len_del hq; have := h.len; omega
    · have := List.length_filter_le (fun x : Tm => x.1 != e.1) L
      unfold delT
      omega
/-- A wheel in memory. -/
def WH (w : World) (B M : Nat) (now : Int) (L : List Tm) : Prop := At w B #[.int .i64 now, .map (some M)] ∧ ∃ l, VM w M l ∧ l.Perm (L.map tV)
theorem WH.turn {S : Nat → Prop} {w w' : World} {B M : Nat} {now : Int} {L : List Tm} (h : WH w B M now L) (ht : Turn S w w') (hB : ¬ S B) (hM : ¬ S M) : WH w' B M now L := by
  obtain ⟨h1, l, h2, h3⟩ := h
  exact ⟨h1.turn ht hB, l, h2.turn ht hM, h3⟩
theorem WH.later {w w' : World} {B M : Nat} {now : Int} {L : List Tm} (h : WH w B M now L) (hb : Below w.heap.size w w') : WH w' B M now L := h.turn (S := fun _ => False) (Turn.of_below hb) (fun h => h) (fun h => h)
theorem WH.lt {w : World} {B M : Nat} {now : Int} {L : List Tm} (h : WH w B M now L) : B < w.heap.size ∧ M < w.heap.size := by
  obtain ⟨h1, l, h2, h3⟩ := h
  exact ⟨h1.1, h2.lt⟩
theorem WH.ne {w : World} {B M : Nat} {now : Int} {L : List Tm} (h : WH w B M now L) : B ≠ M := by
  obtain ⟨h1, l, h2, h3⟩ := h
  exact ne_at_vm h1 rfl h2
theorem vlk_is {l : List Vn} {L : List Tm} (hr : VRise l) (hp : l.Perm (L.map tV)) (hn : (L.map (·.1)).Nodup) (n : Int) : vlk l n = (lkT L n).map (Value.int .i64) := by
  cases hq : lkT L n with
  | some t => exact vlk_of hr (hp.mem_iff.2 (List.mem_map.2 ⟨(n, t), lkT_mem hq, rfl⟩))
  | none =>
    cases hv : vlk l n with
    | none => rfl
    | some v =>
      obtain ⟨e, he, hk⟩ := List.mem_map.1 (hp.mem_iff.1 (vlk_mem hv))
      exact absurd (congrArg Prod.fst hk) (lkT_none hq e he)
theorem del_perm {l : List Vn} {L : List Tm} (hp : l.Perm (L.map tV)) (n : Int) : (vdel l n).Perm ((delT L n).map tV) := by
  have := hp.filter (fun x : Vn => x.1 != n)
  rw [List.filter_map] at this
  exact this
theorem vins_perm (e : Vn) : ∀ l : List Vn, (vins e l).Perm (e :: l)
  | [] => List.Perm.refl _
  | y :: r => by
    unfold vins
    split
    · exact List.Perm.refl _
    · exact ((vins_perm e r).cons y).trans (List.Perm.swap _ _ _)
theorem put_perm {l : List Vn} {L : List Tm} (hp : l.Perm (L.map tV)) (e : Tm) : (vput l (tV e)).Perm ((putT L e).map tV) := by
  refine (vins_perm _ _).trans (List.Perm.trans ?_ ((perm_insT e _).map tV).symm)
  rw [List.map_cons]
  exact (del_perm hp e.1).cons _
theorem zeroI (w : World) : (zeroValue 3).run Try.prog w = .ok (.int .i64 0) w := by kernel_rfl
def tickB (n : Int) : Bool := decide (0 ≤ n ∧ n ≤ 1099511627776)
theorem tick_any (n : Int) (w : World) : Calls Try.prog 23 #[.int .i64 n] w fun e w' => e = .returned (.bool (tickB n)) ∧ w' = w := by
  unfold tickB
  by_cases h0 : 0 ≤ n
  · by_cases h1 : n ≤ 1099511627776
    · rw [decide_eq_true ⟨h0, h1⟩]
      go_enter Try.func23, Try.ntmps23
      go_wp2
      go_ret
      exact ⟨rfl, rfl⟩
    · rw [decide_eq_false (fun h => h1 h.2)]
      go_enter Try.func23, Try.ntmps23
      go_wp2
      go_ret
      exact ⟨rfl, rfl⟩
  · rw [decide_eq_false (fun h => h0 h.1)]
    go_enter Try.func23, Try.ntmps23
    go_wp2
    go_ret
    exact ⟨rfl, rfl⟩
theorem new_f (n : Int) (w : World) (h : tickB n = false) : Calls Try.prog 6 #[.int .i64 n] w fun e w' => e = .returned (.tuple #[.pointer none, .int .i64 1]) ∧ w' = w := by
  go_enter Try.func6, Try.ntmps6
  go_wp2_with fail
  refine (tick_any n w).mono ?_
  rintro e w1 ⟨rfl, rfl⟩
  rw [h]
  go_wp2
  go_ret2
  exact ⟨rfl, rfl⟩
theorem new_t (n : Int) (w : World) (h : tickB n = true) : Calls Try.prog 6 #[.int .i64 n] w fun e w' => ∃ B M, e = .returned (.tuple #[.pointer (some ⟨B, 0, none⟩), .int .i64 0]) ∧ w.heap.size ≤ B ∧ w.heap.size ≤ M ∧ WH w' B M n [] ∧ Below w.heap.size w w' := by
  have hmm := @run_makeMap Try.prog
  go_enter Try.func6, Try.ntmps6
  go_wp2_with fail
  refine (tick_any n w).mono ?_
  rintro e w1 ⟨rfl, rfl⟩
  rw [h]
  go_wp2
  go_ret2
  have q1 := bel1 w1 (.map #[] 0)
  have q2 := bel1 (w1.alloc (.map #[] 0)) (.cells #[.int .i64 n, .map (some w1.heap.size)] 54)
  have hs : (w1.alloc (.map #[] 0)).heap.size = w1.heap.size + 1 := World.size_alloc _ _
  refine ⟨(w1.alloc (.map #[] 0)).heap.size, w1.heap.size, by first | rfl | (rw [hs]; rfl), by omega, Nat.le_refl _, ⟨At.box _ _ _, [], (VM.made w1).later q2, List.Perm.refl _⟩, bt q1 q2⟩
def setOk (n t : Int) : Bool := decide (0 ≤ n ∧ n ≤ 1073741824) && tickB t
theorem set_f (B : Nat) (n t : Int) (w : World) (h : setOk n t = false) : Calls Try.prog 10 #[.pointer (some ⟨B, 0, none⟩), .int .i64 n, .int .i64 t] w fun e w' => e = .returned (.int .i64 1) ∧ w' = w := by
  unfold setOk at h
  by_cases h0 : 0 ≤ n
  · by_cases h1 : n ≤ 1073741824
    · rw [decide_eq_true ⟨h0, h1⟩, Bool.true_and] at h
      go_enter Try.func10, Try.ntmps10
      go_wp2_with fail
      refine (tick_any t w).mono ?_
      rintro e w1 ⟨rfl, rfl⟩
      rw [h]
      go_wp2
      go_ret
      exact ⟨rfl, rfl⟩
    · go_enter Try.func10, Try.ntmps10
      go_wp2
      go_ret
      exact ⟨rfl, rfl⟩
  · go_enter Try.func10, Try.ntmps10
    go_wp2
    go_ret
    exact ⟨rfl, rfl⟩
set_option maxHeartbeats 1000000 in
theorem set_full (B M : Nat) (now n t : Int) (L : List Tm) (w : World) (hW : WH w B M now L) (hL : WL L) (h : setOk n t = true) (hn : lkT L n = none) (hf : 1024 ≤ L.length) : Calls Try.prog 10 #[.pointer (some ⟨B, 0, none⟩), .int .i64 n, .int .i64 t] w fun e w' => e = .returned (.int .i64 2) ∧ w' = w := by
  obtain ⟨hB, l, hM, hp⟩ := hW
  unfold setOk at h
  rw [Bool.and_eq_true] at h
  obtain ⟨h0, h1⟩ := of_decide_eq_true h.1
  have hv := vlk_is hM.2 hp hL.nod n
  rw [hn] at hv
  have hll : l.length = L.length := by rw [hp.length_eq, List.length_map]
  have c1 : w.cell? ⟨B, 1, none⟩ = some (.map (some M)) := (hB.2 1 _ rfl).1
  have hlen : ∀ ty : TypeId, (Builtin.len_ #[49] ty #[.map (some M)]).run Try.prog w = .ok (.int .i64 l.length) w := fun ty => hM.len Try.underlying49 ty
  have hge : (1024 : Int) ≤ (l.length : Int) := by omega
  have hwf : (Lit.int .i64 n).wf = true := WalkArith.wf_i64 (by omega)
  generalize (l.length : Int) = len at *
  go_enter Try.func10, Try.ntmps10
  go_wp2_with fail
  refine (tick_any t w).mono ?_
  rintro e w1 ⟨rfl, rfl⟩
  rw [h.2]
  go_wp2_with (first
    | (at_lookup; refine wpList_lookup_vm rfl _ _ rfl M l n hwf Try.underlying49 zeroI rfl hM rfl ?_; rw [hv])
    | go_in)
  go_ret
  exact ⟨rfl, rfl⟩
set_option maxHeartbeats 1000000 in
theorem set_t (B M : Nat) (now n t : Int) (L : List Tm) (w : World) (hW : WH w B M now L) (hL : WL L) (h : setOk n t = true) (hn : lkT L n ≠ none ∨ L.length < 1024) : Calls Try.prog 10 #[.pointer (some ⟨B, 0, none⟩), .int .i64 n, .int .i64 t] w fun e w' => e = .returned (.int .i64 0) ∧ WH w' B M now (putT L (n, t)) ∧ WL (putT L (n, t)) ∧ Turn (fun k => k = M) w w' := by
  have hBM := hW.ne
  obtain ⟨hB, l, hM, hp⟩ := hW
  unfold setOk at h
  rw [Bool.and_eq_true] at h
  obtain ⟨h0, h1⟩ := of_decide_eq_true h.1
  obtain ⟨t0, t1⟩ := of_decide_eq_true h.2
  have hWL := hL.put (e := (n, t)) ⟨⟨h0, h1⟩, t0, t1⟩ hn
  have hv := vlk_is hM.2 hp hL.nod n
  have hll : l.length = L.length := by rw [hp.length_eq, List.length_map]
  have hl9 := hL.len
  have c1 : w.cell? ⟨B, 1, none⟩ = some (.map (some M)) := (hB.2 1 _ rfl).1
  have hlen : ∀ ty : TypeId, (Builtin.len_ #[49] ty #[.map (some M)]).run Try.prog w = .ok (.int .i64 l.length) w := fun ty => hM.len Try.underlying49 ty
  have hwf : (Lit.int .i64 n).wf = true := WalkArith.wf_i64 (by omega)
  have hmil : l.length < 1000000 := by omega
  cases hq : lkT L n with
  | some c =>
    rw [hq] at hv
    go_enter Try.func10, Try.ntmps10
    go_wp2_with fail
    refine (tick_any t w).mono ?_
    rintro e w1 ⟨rfl, rfl⟩
    rw [h.2]
    go_wp2_with (first
      | (at_lookup; refine wpList_lookup_vm rfl _ _ rfl M l n hwf Try.underlying49 zeroI rfl hM rfl ?_; rw [hv])
      | (at_mapUpdate; refine wpList_put_vm rfl _ _ _ rfl M l n (.int .i64 t) hwf Try.underlying49 hmil rfl hM rfl rfl ?_; intro w2 hM2 ht2)
      | go_in)
    go_ret
    exact ⟨rfl, ⟨hB.turn ht2 hBM, _, hM2, put_perm hp (n, t)⟩, hWL, ht2⟩
  | none =>
    rw [hq] at hv
    have hlt : (l.length : Int) < 1024 := by
      rcases hn with h | h
      · exact absurd hq h
      · omega
    obtain ⟨len, hlen'⟩ : ∃ x : Int, x = (l.length : Int) := ⟨_, rfl⟩
    rw [← hlen'] at hlen hlt
    have hlen2 : Hid (len = (l.length : Int)) := hlen'
    clear hlen'
    go_enter Try.func10, Try.ntmps10
    go_wp2_with fail
    refine (tick_any t w).mono ?_
    rintro e w1 ⟨rfl, rfl⟩
    rw [h.2]
    go_wp2_with (first
      | (at_lookup; refine wpList_lookup_vm rfl _ _ rfl M l n hwf Try.underlying49 zeroI rfl hM rfl ?_; rw [hv])
      | (at_mapUpdate; refine wpList_put_vm rfl _ _ _ rfl M l n (.int .i64 t) hwf Try.underlying49 hmil rfl hM rfl rfl ?_; intro w2 hM2 ht2)
      | go_in)
    go_ret
    exact ⟨rfl, ⟨hB.turn ht2 hBM, _, hM2, put_perm hp (n, t)⟩, hWL, ht2⟩
theorem drop_n (B M : Nat) (now n : Int) (L : List Tm) (w : World) (hW : WH w B M now L) (hL : WL L) (hwf : (Lit.int .i64 n).wf = true) (hq : lkT L n = none) : Calls Try.prog 12 #[.pointer (some ⟨B, 0, none⟩), .int .i64 n] w fun e w' => e = .returned (.int .i64 5) ∧ w' = w := by
  obtain ⟨hB, l, hM, hp⟩ := hW
  have hv := vlk_is hM.2 hp hL.nod n
  rw [hq] at hv
  have c1 : w.cell? ⟨B, 1, none⟩ = some (.map (some M)) := (hB.2 1 _ rfl).1
  go_enter Try.func12, Try.ntmps12
  go_wp2_with (first
    | (at_lookup; refine wpList_lookup_vm rfl _ _ rfl M l n hwf Try.underlying49 zeroI rfl hM rfl ?_; rw [hv])
    | go_in)
  go_ret
  exact ⟨rfl, rfl⟩
theorem drop_s (B M : Nat) (now n c : Int) (L : List Tm) (w : World) (hW : WH w B M now L) (hL : WL L) (hwf : (Lit.int .i64 n).wf = true) (hq : lkT L n = some c) : Calls Try.prog 12 #[.pointer (some ⟨B, 0, none⟩), .int .i64 n] w fun e w' => e = .returned (.int .i64 0) ∧ WH w' B M now (delT L n) ∧ Turn (fun k => k = M) w w' := by
  have hBM := hW.ne
  obtain ⟨hB, l, hM, hp⟩ := hW
  have hv := vlk_is hM.2 hp hL.nod n
  rw [hq] at hv
  have c1 : w.cell? ⟨B, 1, none⟩ = some (.map (some M)) := (hB.2 1 _ rfl).1
  go_enter Try.func12, Try.ntmps12
  go_wp2_with (first
    | (at_lookup; refine wpList_lookup_vm rfl _ _ rfl M l n hwf Try.underlying49 zeroI rfl hM rfl ?_; rw [hv])
    | (at_delete; refine wpList_delete_vm rfl _ _ rfl M l n hwf Try.underlying49 rfl hM rfl ?_; intro w2 hM2 ht2)
    | go_in)
  go_ret
  exact ⟨rfl, ⟨hB.turn ht2 hBM, _, hM2, del_perm hp n⟩, ht2⟩
def atR (L : List Tm) (n : Int) : Int × Bool := match lkT L n with | some t => (t, true) | none => (0, false)
theorem at_any (B M : Nat) (now n : Int) (L : List Tm) (w : World) (hW : WH w B M now L) (hL : WL L) (hwf : (Lit.int .i64 n).wf = true) : Calls Try.prog 18 #[.pointer (some ⟨B, 0, none⟩), .int .i64 n] w fun e w' => e = .returned (.tuple #[.int .i64 (atR L n).1, .bool (atR L n).2]) ∧ w' = w := by
  obtain ⟨hB, l, hM, hp⟩ := hW
  have hv := vlk_is hM.2 hp hL.nod n
  have c1 : w.cell? ⟨B, 1, none⟩ = some (.map (some M)) := (hB.2 1 _ rfl).1
  unfold atR
  cases hq : lkT L n with
  | none =>
    rw [hq] at hv
    go_enter Try.func18, Try.ntmps18
    go_wp2_with (first
      | (at_lookup; refine wpList_lookup_vm rfl _ _ rfl M l n hwf Try.underlying49 zeroI rfl hM rfl ?_; rw [hv])
      | go_in)
    go_ret2
    exact ⟨rfl, rfl⟩
  | some c =>
    rw [hq] at hv
    go_enter Try.func18, Try.ntmps18
    go_wp2_with (first
      | (at_lookup; refine wpList_lookup_vm rfl _ _ rfl M l n hwf Try.underlying49 zeroI rfl hM rfl ?_; rw [hv])
      | go_in)
    go_ret2
    exact ⟨rfl, rfl⟩
theorem now_any (B M : Nat) (now : Int) (L : List Tm) (w : World) (hW : WH w B M now L) : Calls Try.prog 22 #[.pointer (some ⟨B, 0, none⟩)] w fun e w' => e = .returned (.int .i64 now) ∧ w' = w := by
  have c0 : w.cell? ⟨B, 0, none⟩ = some (.int .i64 now) := (hW.1.2 0 _ rfl).1
  go_enter Try.func22, Try.ntmps22
  go_wp2
  go_ret
  exact ⟨rfl, rfl⟩
end Go.Proofs.Ytbdloehdhdifpaa
