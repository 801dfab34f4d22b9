/- Steps on the map; append of bytes, and where they lie; goOn. -/
import Derived.Test.YtkclookpdngkoaaVc
namespace Go.Proofs.Ytkclookpdngkoaa.V
open Go.RowKit Go.Maps Go.Lib
set_option maxRecDepth 100000
set_option linter.unusedVariables false
set_option linter.unusedSimpArgs false


theorem wf_num {k : Int} (h0 : 0 ≤ k) (h1 : k < 4294967296) : (Lit.int .i64 k).wf = true := WalkArith.wf_i64 (by omega)
theorem VM.look2 {w : World} {M : Nat} {l : List Vn} {k : Int} (h : VM w M l) (hk : (Lit.int .i64 k).wf = true) : (Instr.lookup 54 (.map (some M)) (.int .i64 k) true).run Try.prog w = .ok (.tuple #[(vlk l k).getD (.int .u8 0), .bool (vlk l k).isSome]) w := by
  obtain ⟨v, ps, hr, hv⟩ := h.1.look_ok law3 Try.underlying54 (zero5 w) (zd := .held (.int .u8 0)) (zp := []) rfl (keyOf_int_mk Try.underlying3 hk)
  rw [at_vD] at hv
  unfold hE at hv
  injection hv with hv
  injection hv with h1 h2
  injection h1 with h1
  rw [hr, has_vD, h1]
section
variable {w w' : World} {ops : Array Oper} {o : Oper} {a : Act} {K : Act → World → Prop} {Q : Exit → Act → World → Prop} {E : Prop} {v vs v' u : Value} {t t' : TypeId}
theorem step_delete (hgd : o.guard = none) (m x : Operand) (ho : o.op = .call { callee := .builtin .delete, args := #[m, x], argTypes := #[t, t'] })
    (hs : a.eval m = v) (hx : a.eval x = vs) (hr : (Builtin.delete_ #[t, t'] o.type #[v, vs]).run Try.prog w = .ok v' w') (h : K (a.put o.dst v') w') : if Region.wanted o (yielded ops a.tmps) = true then Oper.wp Try.prog o a w K Q else E := by
  have hw : Region.wanted o (yielded ops a.tmps) = true := by simp [Region.wanted, hgd]
  rw [if_pos hw]
  unfold Oper.wp execOp
  simp only [ho, resolve, invoke, builtin, Sem.run_bind, Sem.run_pure, Result.andThen_ok, List.map_toArray, List.map_cons, List.map_nil, hs, hx, hr]
  exact h
theorem step_update (hgd : o.guard = none) (m x y : Operand) (ho : o.op = .mapUpdate t m x y)
    (hs : a.eval m = v) (hx : a.eval x = vs) (hy : a.eval y = u) (hr : (Instr.mapUpdate t v vs u).run Try.prog w = .ok () w') (h : K (a.put o.dst undef) w') : if Region.wanted o (yielded ops a.tmps) = true then Oper.wp Try.prog o a w K Q else E := by
  have hw : Region.wanted o (yielded ops a.tmps) = true := by simp [Region.wanted, hgd]
  rw [if_pos hw]
  unfold Oper.wp
  simp [execOp, ho, hs, hx, hy, hr, Result.andThen]
  exact h
end
/-- append of a string's bytes, and where they lie. -/
theorem apps {w : World} {v : Value} {bs : List UInt8} (h : BO w 0 v bs) (s : ByteArray) (hl : bs.length + s.size ≤ 1000000) (ty : TypeId) :
    ∃ v' w', (Builtin.append_ #[50, 9] ty #[v, .string s]).run Try.prog w = .ok v' w' ∧ BO w' 0 v' (bs ++ s.data.toList) ∧ w.grownBy w' v.ownBlock ∧ (v'.ownBlock = v.ownBlock ∨ v'.ownBlock = some w.heap.size) := by
  obtain ⟨i0, hi, hz0, hz1, hz2⟩ := info_parts info5
  obtain ⟨v', w', e1, e2, e3, e4⟩ := run_append_own_string (P := Try.prog) w 0 50 9 ty 5 i0 Try.underlying50 Try.underlying9 hi hz0 hz1 hz2 v bs.length (bs.map byV) h s (by unfold maxLen; omega) (by omega) (Nat.zero_le _)
  refine ⟨v', w', e1, ?_, e3, ?_⟩
  · have hs : (bs ++ s.data.toList).length = bs.length + s.size := by rw [List.length_append, Array.length_toList]; rfl
    unfold BO
    rw [hs, List.map_append]
    exact e2
  · rcases h.2 with ⟨rfl, h0⟩ | ⟨g, cap, cur, rfl, hg, hb, h1, h2, h3, h4⟩
    · by_cases hm : s.size = 0
      · rw [e4.2 ⟨rfl, hm⟩]; exact Or.inl rfl
      · have hr := run_append_nil_string (P := Try.prog) w 50 9 ty 5 i0 (.int .u8 0) Try.underlying50 Try.underlying9 hi hz0 s (by omega) (by omega) (by rw [hz2]; omega)
        rw [e1] at hr
        injection hr with hr1 hr2
        rw [hr1]
        exact Or.inr rfl
    · by_cases hroom : bs.length + s.size ≤ cap
      · have hr := run_append_room_string (P := Try.prog) w 50 9 ty 5 i0 Try.underlying50 Try.underlying9 hi hz1 g bs.length cap cur hb s hroom (by omega)
        rw [e1] at hr
        injection hr with hr1 hr2
        rw [hr1]
        exact Or.inl rfl
      · have holds : ∀ j u, (bs.map byV)[j]? = some u → w.cell? ((⟨g, 0, none⟩ : Addr).add j) = some u := h.cells (g := g) rfl
        have hr := run_append_grow_string (P := Try.prog) w 50 9 ty 5 i0 (.int .u8 0) Try.underlying50 Try.underlying9 hi hz0 ⟨g, 0, none⟩ bs.length cap (bs.map byV) (by rw [hz1, List.length_map, Nat.mul_one]) holds s (by omega) (by omega) (by rw [hz2]; exact growslice_fits (by omega) (by omega))
        rw [e1] at hr
        injection hr with hr1 hr2
        rw [hr1]
        exact Or.inr rfl
/-- append of one byte that was boxed, and where they lie. -/
theorem app1 {w : World} {v : Value} {bs : List UInt8} (h : BO w 0 v bs) (b : UInt8) (hl : bs.length ≤ 1000000) (ty : TypeId) :
    ∃ v' w', (Builtin.append_ #[50, 50] ty #[v, .slice (some ⟨w.heap.size, 0, none⟩) 1 1]).run Try.prog (w.alloc (.cells #[byV b] 5)) = .ok v' w' ∧ BO w' 0 v' (bs ++ [b]) ∧ Turn (fun k => v.ownBlock = some k) w w' ∧ (v'.ownBlock = v.ownBlock ∨ v'.ownBlock = some (w.heap.size + 1)) := by
  obtain ⟨i0, hi, hz0, hz1, hz2⟩ := info_parts info5
  obtain ⟨v', w', e1, e2, e3, -, e5⟩ := run_append_own_at (P := Try.prog) (w.alloc (.cells #[byV b] 5)) 0 50 ty 5 i0 _ 1 1 Try.underlying50 hi hz0 hz1 hz2 rfl (by decide) v bs.length (bs.map byV) (row_later h (bel1 w _)) ⟨w.heap.size, 0, none⟩ 1 1 [byV b] rfl (fun j u hu => by
    have hj : j = 0 := by have := (List.getElem?_eq_some_iff.1 hu).1; simpa using this
    subst hj
    obtain rfl : u = byV b := by simpa using hu.symm
    rw [Addr.add_mid]
    exact ((At.box w #[byV b] 5).2 0 _ rfl).1) (fun u hu => by simp at hu; subst hu; rfl) (by unfold maxLen; omega) (by omega) (Nat.zero_le _)
  refine ⟨v', w', e1, ?_, (Turn.of_below (bel1 w _)).and e3 (fun j hj => Or.inl hj), ?_⟩
  · unfold BO
    rw [List.length_append, List.map_append]
    exact e2
  · have : (w.alloc (.cells #[byV b] 5)).heap.size = w.heap.size + 1 := by simp
    rw [this] at e5
    exact e5
theorem BO.lt {w : World} {base : Nat} {v : Value} {bs : List UInt8} (h : BO w base v bs) {k : Nat} (hk : v.ownBlock = some k) : k < w.heap.size := by
  rcases h.2 with ⟨rfl, -⟩ | ⟨g, cap, cur, rfl, hg, hb, -⟩
  · cases hk
  · cases hk; exact (Array.getElem?_eq_some_iff.1 hb).1
/-- A set with the blocks of one more value. -/
def withB (B : Bk) (v : Value) : Bk := fun k => B k ∨ v.ownBlock = some k
theorem withB_gr {n m : Nat} {A B : Bk} {v v' : Value} (hg : Gr n A B) (hv : ∀ k, v.ownBlock = some k → B k) (hl : v'.ownBlock = v.ownBlock ∨ v'.ownBlock = some m) (hm : n ≤ m) : Gr n A (withB B v') := by
  rintro k (hk | hk)
  · exact hg k hk
  · rcases hl with e | e
    · exact hg k (hv k (e ▸ hk))
    · rw [e] at hk; cases hk; exact Or.inr hm
theorem withB_av {m q M : Nat} {B : Bk} {v v' : Value} (hv : ∀ k, v.ownBlock = some k → B k ∧ k ≠ q ∧ k ≠ M) (hl : v'.ownBlock = v.ownBlock ∨ v'.ownBlock = some m) (hq : q < m) (hM : M < m) : ∀ k, v'.ownBlock = some k → withB B v' k ∧ k ≠ q ∧ k ≠ M := by
  intro k hk
  refine ⟨Or.inr hk, ?_⟩
  rcases hl with e | e
  · exact (hv k (e ▸ hk)).2
  · rw [e] at hk; cases hk; omega
theorem withB_lw {w w2 w' : World} {B : Bk} {v' : Value} {bs : List UInt8} (h : Lw w B) (hb : BO w2 0 v' bs) (h1 : w.heap.size ≤ w'.heap.size) (h2 : w2.heap.size ≤ w'.heap.size) : Lw w' (withB B v') := by
  rintro k (hk | hk)
  · exact Nat.lt_of_lt_of_le (h k hk) h1
  · exact Nat.lt_of_lt_of_le (hb.lt hk) h2
def slen : Option Value → Nat
  | some (.slice _ n _) => n
  | _ => 0
def stQ (Q : Rq) (L : List UInt8) (i : Nat) : Rq := ⟨Q.room, (Q.next + (i : Int)) % 4294967296, Q.bs ++ L.take i, fun x => Q.ap (x + i)⟩
theorem stQ_zero {Q : Rq} (L : List UInt8) (n0 : 0 ≤ Q.next) (n1 : Q.next ≤ 4294967295) : stQ Q L 0 = Q := by
  unfold stQ
  have : (Q.next + ((0 : Nat) : Int)) % 4294967296 = Q.next := by omega
  rw [this]
  simp
theorem stQ_end {Q : Rq} (L : List UInt8) : stQ Q L L.length = goQ Q Q.ap L := by unfold stQ goQ; rw [List.take_length]
def bAt (o : Option UInt8) : Value := (o.map byV).getD (.int .u8 0)
set_option maxHeartbeats 1000000 in
theorem goOn_any {w : World} {A : Bk} {q : Nat} {Q : Rq} {M : Nat} {v : Value} {l : List Vn} (h : QY w A q Q M v l) (n0 : 0 ≤ Q.next) (n1 : Q.next ≤ 4294967295) (hb : ∀ d, (Q.ap d).isSome = true → d < 65537) (L : List UInt8) (hL : Run Q.ap L) (hl : Q.bs.length + L.length ≤ 70000) :
    Calls Try.prog 36 #[PQ q] w fun e w' => e = .returned (.tuple #[]) ∧ ∃ A' v' l', QY w' A' q (goQ Q Q.ap L) M v' l' ∧ Turn A w w' ∧ Gr w.heap.size A A' := by
  have hlook : ∀ (W : World) (B : Bk) (i : Nat) (v' : Value) (l' : List Vn), QY W B q (stQ Q L i) M v' l' → (Instr.lookup 54 (.map (some M)) (.int .i64 ((Q.next + (i : Int)) % 4294967296)) true).run Try.prog W = .ok (.tuple #[bAt (Q.ap i), .bool (Q.ap i).isSome]) W := by
    intro W B i v' l' hq
    have hr := hq.vm.look2 (k := (Q.next + (i : Int)) % 4294967296) (wf_num (by omega) (by omega))
    have e : vlk l' ((Q.next + (i : Int)) % 4294967296) = (Q.ap i).map byV := by
      have := rep_at hq.rep 0 (by omega) (show 0 ≤ (Q.next + (i : Int)) % 4294967296 by omega) (by show (Q.next + (i : Int)) % 4294967296 < 4294967296; omega)
      have e2 : ((Q.next + (i : Int)) % 4294967296 + ((0 : Nat) : Int)) % 4294967296 = (Q.next + (i : Int)) % 4294967296 := by omega
      rw [show (stQ Q L i).next = (Q.next + (i : Int)) % 4294967296 from rfl, e2] at this
      rw [this]
      show (Q.ap (0 + i)).map byV = _
      rw [Nat.zero_add]
    rw [hr, e]
    cases Q.ap i <;> rfl
  have HQ : QY w A q (stQ Q L 0) M v l := by rw [stQ_zero L n0 n1]; exact h
  have hk0 : ∀ W, Below w.heap.size w W → (Instr.lookup 54 (.map (some M)) (.int .i64 Q.next) true).run Try.prog W = .ok (.tuple #[bAt (Q.ap 0), .bool (Q.ap 0).isSome]) W := by
    intro W hW
    have := hlook W A 0 v l (HQ.later hW)
    rwa [show (Q.next + ((0 : Nat) : Int)) % 4294967296 = Q.next by omega] at this
  obtain ⟨⟨c0, c1, c2, c3⟩, -⟩ := h.at4.four
  have hc1 : ∀ W, Below w.heap.size w W → W.cell? ⟨q, 1, none⟩ = some (.int .i64 Q.next) := fun W hW => later hW c1
  have hc3 : ∀ W, Below w.heap.size w W → W.cell? ⟨q, 3, none⟩ = some (.map (some M)) := fun W hW => later hW c3
  have hmeas : ∀ (W : World) (B : Bk) (i : Nat) (v' : Value) (l' : List Vn), i ≤ L.length → QY W B q (stQ Q L i) M v' l' → slen (W.cell? ⟨q, 2, none⟩) = Q.bs.length + i := by
    intro W B i v' l' hi hq
    obtain ⟨⟨-, -, c2, -⟩, -⟩ := hq.at4.four
    obtain ⟨a, c, rfl, -⟩ := hq.bo.shape
    rw [c2]
    show (Q.bs ++ L.take i).length = _
    rw [List.length_append, List.length_take]
    omega
  clear c0 c1 c2 c3
  obtain ⟨bt0, hbt0⟩ : ∃ x, x = bAt (Q.ap 0) := ⟨_, rfl⟩
  obtain ⟨tt0, htt0⟩ : ∃ x, x = (Q.ap 0).isSome := ⟨_, rfl⟩
  rw [← hbt0, ← htt0] at hk0
  have HB0 : Hid (bt0 = bAt (Q.ap 0)) := hbt0
  have HT0 : Hid (tt0 = (Q.ap 0).isSome) := htt0
  clear hbt0 htt0 h
  go_enter Try.func36, Try.ntmps36
  go_upto_region 0 with fail
  refine wp_region_held_drew (S := (fun W => Below w.heap.size w W)) (by kernel_rfl) ?_ (fun hHeld => ?_)
  · first | exact (Below.refl _ _).drew | assumption
  refine wpAnyH_take (i := 0) (oi := ({ dst := some 5, op := Go.Op.move (Go.Operand.tmp 0), type := 28, pos := "recvq.go:103", after := #[], guard := none } : Go.Oper)) (v := .pointer (some ⟨q, 0, none⟩)) rfl (by kernel_rfl) (by kernel_rfl) (by kernel_rfl) (fun _ _ _ h => h) (Or.inl ⟨by rfl, ?_⟩) (by assumption) ?_
  · intro wx hSw
    try dsimp only at hSw
    have u1 := hc1 wx hSw
    have u3 := hc3 wx hSw
    have u4 := hk0 wx hSw
    go_simp
    try with_reducible rfl
  try simp only [Act.put, List.setIfInBounds_toArray, List.set_cons_zero, List.set_cons_succ]
  refine wpAnyH_take (i := 1) (oi := ({ dst := some 6, op := Go.Op.nilCheck (Go.Operand.tmp 5), type := 0, pos := "recvq.go:103", after := #[{ on := 0, ground := Go.Ground.data }], guard := none } : Go.Oper)) (v := .pointer (some ⟨q, 0, none⟩)) rfl (by kernel_rfl) (by kernel_rfl) (by kernel_rfl) (fun _ _ _ h => h) (Or.inl ⟨by rfl, ?_⟩) (by assumption) ?_
  · intro wx hSw
    try dsimp only at hSw
    have u1 := hc1 wx hSw
    have u3 := hc3 wx hSw
    have u4 := hk0 wx hSw
    go_simp
    try with_reducible rfl
  try simp only [Act.put, List.setIfInBounds_toArray, List.set_cons_zero, List.set_cons_succ]
  refine wpAnyH_take (i := 2) (oi := ({ dst := some 7, op := Go.Op.fieldAddr 56 (Go.Operand.tmp 6) 3, type := 0, pos := "recvq.go:103", after := #[{ on := 1, ground := Go.Ground.data }], guard := none } : Go.Oper)) (v := .pointer (some ⟨q, 3, none⟩)) rfl (by kernel_rfl) (by kernel_rfl) (by kernel_rfl) (fun _ _ _ h => h) (Or.inl ⟨by rfl, ?_⟩) (by assumption) ?_
  · intro wx hSw
    try dsimp only at hSw
    have u1 := hc1 wx hSw
    have u3 := hc3 wx hSw
    have u4 := hk0 wx hSw
    go_simp
    try with_reducible rfl
  try simp only [Act.put, List.setIfInBounds_toArray, List.set_cons_zero, List.set_cons_succ]
  refine wpAnyH_take (i := 3) (oi := ({ dst := some 8, op := Go.Op.load 54 (Go.Operand.tmp 7), type := 54, pos := "recvq.go:103", after := #[{ on := 2, ground := Go.Ground.data }], guard := none } : Go.Oper)) (v := .map (some M)) rfl (by kernel_rfl) (by kernel_rfl) (by kernel_rfl) (fun _ _ _ h => h) (Or.inl ⟨by rfl, ?_⟩) (by assumption) ?_
  · intro wx hSw
    try dsimp only at hSw
    have u1 := hc1 wx hSw
    have u3 := hc3 wx hSw
    have u4 := hk0 wx hSw
    go_simp
    try with_reducible rfl
  try simp only [Act.put, List.setIfInBounds_toArray, List.set_cons_zero, List.set_cons_succ]
  refine wpAnyH_take (i := 4) (oi := ({ dst := some 9, op := Go.Op.move (Go.Operand.tmp 0), type := 28, pos := "recvq.go:103", after := #[], guard := none } : Go.Oper)) (v := .pointer (some ⟨q, 0, none⟩)) rfl (by kernel_rfl) (by kernel_rfl) (by kernel_rfl) (fun _ _ _ h => h) (Or.inl ⟨by rfl, ?_⟩) (by assumption) ?_
  · intro wx hSw
    try dsimp only at hSw
    have u1 := hc1 wx hSw
    have u3 := hc3 wx hSw
    have u4 := hk0 wx hSw
    go_simp
    try with_reducible rfl
  try simp only [Act.put, List.setIfInBounds_toArray, List.set_cons_zero, List.set_cons_succ]
  refine wpAnyH_take (i := 5) (oi := ({ dst := some 10, op := Go.Op.nilCheck (Go.Operand.tmp 9), type := 0, pos := "recvq.go:103", after := #[{ on := 4, ground := Go.Ground.data }], guard := none } : Go.Oper)) (v := .pointer (some ⟨q, 0, none⟩)) rfl (by kernel_rfl) (by kernel_rfl) (by kernel_rfl) (fun _ _ _ h => h) (Or.inl ⟨by rfl, ?_⟩) (by assumption) ?_
  · intro wx hSw
    try dsimp only at hSw
    have u1 := hc1 wx hSw
    have u3 := hc3 wx hSw
    have u4 := hk0 wx hSw
    go_simp
    try with_reducible rfl
  try simp only [Act.put, List.setIfInBounds_toArray, List.set_cons_zero, List.set_cons_succ]
  refine wpAnyH_take (i := 6) (oi := ({ dst := some 11, op := Go.Op.fieldAddr 56 (Go.Operand.tmp 10) 1, type := 0, pos := "recvq.go:103", after := #[{ on := 5, ground := Go.Ground.data }], guard := none } : Go.Oper)) (v := .pointer (some ⟨q, 1, none⟩)) rfl (by kernel_rfl) (by kernel_rfl) (by kernel_rfl) (fun _ _ _ h => h) (Or.inl ⟨by rfl, ?_⟩) (by assumption) ?_
  · intro wx hSw
    try dsimp only at hSw
    have u1 := hc1 wx hSw
    have u3 := hc3 wx hSw
    have u4 := hk0 wx hSw
    go_simp
    try with_reducible rfl
  try simp only [Act.put, List.setIfInBounds_toArray, List.set_cons_zero, List.set_cons_succ]
  refine wpAnyH_take (i := 7) (oi := ({ dst := some 12, op := Go.Op.load 3 (Go.Operand.tmp 11), type := 3, pos := "recvq.go:103", after := #[{ on := 6, ground := Go.Ground.data }], guard := none } : Go.Oper)) (v := .int .i64 Q.next) rfl (by kernel_rfl) (by kernel_rfl) (by kernel_rfl) (fun _ _ _ h => h) (Or.inl ⟨by rfl, ?_⟩) (by assumption) ?_
  · intro wx hSw
    try dsimp only at hSw
    have u1 := hc1 wx hSw
    have u3 := hc3 wx hSw
    have u4 := hk0 wx hSw
    go_simp
    try with_reducible rfl
  try simp only [Act.put, List.setIfInBounds_toArray, List.set_cons_zero, List.set_cons_succ]
  refine wpAnyH_take (i := 8) (oi := ({ dst := some 13, op := Go.Op.lookup 54 (Go.Operand.tmp 8) (Go.Operand.tmp 12) true, type := 75, pos := "recvq.go:103", after := #[{ on := 3, ground := Go.Ground.data }, { on := 7, ground := Go.Ground.data }], guard := none } : Go.Oper)) (v := .tuple #[bt0, .bool tt0]) rfl (by kernel_rfl) (by kernel_rfl) (by kernel_rfl) (fun _ _ _ h => h) (Or.inl ⟨by rfl, ?_⟩) (by assumption) ?_
  · intro wx hSw
    try dsimp only at hSw
    have u1 := hc1 wx hSw
    have u3 := hc3 wx hSw
    have u4 := hk0 wx hSw
    go_simp
    try with_reducible rfl
  try simp only [Act.put, List.setIfInBounds_toArray, List.set_cons_zero, List.set_cons_succ]
  refine wpAnyH_take (i := 9) (oi := ({ dst := some 4, op := Go.Op.move (Go.Operand.tmp 13), type := 75, pos := "recvq.go:103", after := #[{ on := 8, ground := Go.Ground.data }], guard := none } : Go.Oper)) (v := .tuple #[bt0, .bool tt0]) rfl (by kernel_rfl) (by kernel_rfl) (by kernel_rfl) (fun _ _ _ h => h) (Or.inl ⟨by rfl, ?_⟩) (by assumption) ?_
  · intro wx hSw
    try dsimp only at hSw
    have u1 := hc1 wx hSw
    have u3 := hc3 wx hSw
    have u4 := hk0 wx hSw
    go_simp
    try with_reducible rfl
  try simp only [Act.put, List.setIfInBounds_toArray, List.set_cons_zero, List.set_cons_succ]
  refine wpAnyH_take (i := 10) (oi := ({ dst := some 14, op := Go.Op.extract (Go.Operand.tmp 4) 0, type := 5, pos := "recvq.go:103", after := #[{ on := 9, ground := Go.Ground.data }], guard := none } : Go.Oper)) (v := bt0) rfl (by kernel_rfl) (by kernel_rfl) (by kernel_rfl) (fun _ _ _ h => h) (Or.inl ⟨by rfl, ?_⟩) (by assumption) ?_
  · intro wx hSw
    try dsimp only at hSw
    have u1 := hc1 wx hSw
    have u3 := hc3 wx hSw
    have u4 := hk0 wx hSw
    go_simp
    try with_reducible rfl
  try simp only [Act.put, List.setIfInBounds_toArray, List.set_cons_zero, List.set_cons_succ]
  refine wpAnyH_take (i := 11) (oi := ({ dst := some 15, op := Go.Op.extract (Go.Operand.tmp 4) 1, type := 4, pos := "recvq.go:103", after := #[{ on := 9, ground := Go.Ground.data }, { on := 12, ground := Go.Ground.gcOnly Go.Departure.lateStores }], guard := none } : Go.Oper)) (v := .bool tt0) rfl (by kernel_rfl) (by kernel_rfl) (by kernel_rfl) (fun _ _ _ h => h) (Or.inl ⟨by rfl, ?_⟩) (by assumption) ?_
  · intro wx hSw
    try dsimp only at hSw
    have u1 := hc1 wx hSw
    have u3 := hc3 wx hSw
    have u4 := hk0 wx hSw
    go_simp
    try with_reducible rfl
  try simp only [Act.put, List.setIfInBounds_toArray, List.set_cons_zero, List.set_cons_succ]
  refine wpAnyH_take (i := 12) (oi := ({ dst := some 2, op := Go.Op.assign (Go.Operand.tmp 14), type := 5, pos := "recvq.go:103", after := #[{ on := 10, ground := Go.Ground.data }, { on := 0, ground := Go.Ground.phase }, { on := 1, ground := Go.Ground.phase }, { on := 2, ground := Go.Ground.phase }, { on := 3, ground := Go.Ground.phase }, { on := 4, ground := Go.Ground.phase }, { on := 5, ground := Go.Ground.phase }, { on := 6, ground := Go.Ground.phase }, { on := 7, ground := Go.Ground.phase }, { on := 8, ground := Go.Ground.phase }, { on := 9, ground := Go.Ground.phase }, { on := 10, ground := Go.Ground.phase }, { on := 11, ground := Go.Ground.textOnly Go.Departure.lateStores }], guard := none } : Go.Oper)) (v := bt0) rfl (by kernel_rfl) (by kernel_rfl) (by kernel_rfl) (fun _ _ _ h => h) (Or.inl ⟨by rfl, ?_⟩) (by assumption) ?_
  · intro wx hSw
    try dsimp only at hSw
    have u1 := hc1 wx hSw
    have u3 := hc3 wx hSw
    have u4 := hk0 wx hSw
    go_simp
    try with_reducible rfl
  try simp only [Act.put, List.setIfInBounds_toArray, List.set_cons_zero, List.set_cons_succ]
  refine wpAnyH_take (i := 13) (oi := ({ dst := some 3, op := Go.Op.assign (Go.Operand.tmp 15), type := 4, pos := "recvq.go:103", after := #[{ on := 11, ground := Go.Ground.data }, { on := 12, ground := Go.Ground.chain }, { on := 0, ground := Go.Ground.phase }, { on := 1, ground := Go.Ground.phase }, { on := 2, ground := Go.Ground.phase }, { on := 3, ground := Go.Ground.phase }, { on := 4, ground := Go.Ground.phase }, { on := 5, ground := Go.Ground.phase }, { on := 6, ground := Go.Ground.phase }, { on := 7, ground := Go.Ground.phase }, { on := 8, ground := Go.Ground.phase }, { on := 9, ground := Go.Ground.phase }, { on := 10, ground := Go.Ground.phase }, { on := 11, ground := Go.Ground.phase }, { on := 12, ground := Go.Ground.phase }], guard := none } : Go.Oper)) (v := .bool tt0) rfl (by kernel_rfl) (by kernel_rfl) (by kernel_rfl) (fun _ _ _ h => h) (Or.inl ⟨by rfl, ?_⟩) (by assumption) ?_
  · intro wx hSw
    try dsimp only at hSw
    have u1 := hc1 wx hSw
    have u3 := hc3 wx hSw
    have u4 := hk0 wx hSw
    go_simp
    try with_reducible rfl
  try simp only [Act.put, List.setIfInBounds_toArray, List.set_cons_zero, List.set_cons_succ]
  refine wpAnyH_done (by kernel_rfl) ?_ _
  clear hk0 hc1 hc3
  have HQ := HQ.later hHeld
  generalize w.drew = w0 at *
  go_wp2_with fail
  try go_frame
  go_loopw [2, 3] (fun b t wr => ∃ i B v' l', i ≤ L.length ∧ b = bAt (Q.ap i) ∧ t = .bool (Q.ap i).isSome ∧ QY wr B q (stQ Q L i) M v' l' ∧ Turn A w wr ∧ Gr w.heap.size A B)
    (fun _ _ wr => Q.bs.length + L.length - slen (wr.cell? ⟨q, 2, none⟩))
  case atStart => exact ⟨0, A, v, l, Nat.zero_le _, HB0.out, by rw [HT0.out], HQ, Turn.of_below hHeld, Gr.refl _ _⟩
  case round =>
    obtain ⟨i, B, v', l', hi, rfl, rfl, hq, ht, hg⟩ := hrel
    have hms := hmeas wr B i v' l' hi hq
    cases hap : Q.ap i with
    | none =>
      have hie : i = L.length := by
        rcases Nat.lt_or_ge i L.length with hlt | hge
        · have := hL.has i _ (List.getElem?_eq_getElem hlt)
          rw [hap] at this; cases this
        · omega
      subst hie
      rw [stQ_end] at hq
      go_wp2
      go_end0
      exact ⟨rfl, B, v', l', hq, ht, hg⟩
    | some bb =>
      have hlt : i < L.length := by
        rcases Nat.lt_or_ge i L.length with hlt | hge
        · exact hlt
        · have : i = L.length := by omega
          rw [this, hL.fin] at hap; cases hap
      have hLi : L[i]? = some bb := by
        have h1 := hL.has i _ (List.getElem?_eq_getElem hlt)
        rw [hap] at h1
        rw [List.getElem?_eq_getElem hlt, Option.some.inj h1]
      obtain ⟨⟨c0, c1, c2, c3⟩, -⟩ := hq.at4.four
      obtain ⟨av, cv, rfl, -⟩ := hq.bo.shape
      have hnx0 : 0 ≤ (Q.next + (i : Int)) % 4294967296 := by omega
      have hnx1 : (Q.next + (i : Int)) % 4294967296 < 4294967296 := by omega
      have enx : ((Q.next + (i : Int)) % 4294967296 + 1) % 4294967296 = (Q.next + ((i + 1 : Nat) : Int)) % 4294967296 := by omega
      have hbs : (stQ Q L i).bs ++ [bb] = (stQ Q L (i + 1)).bs := by
        show (Q.bs ++ L.take i) ++ [bb] = Q.bs ++ L.take (i + 1)
        rw [List.append_assoc, List.take_add_one, hLi]
        rfl
      have hlen : (stQ Q L i).bs.length = Q.bs.length + i := by
        show (Q.bs ++ L.take i).length = _
        rw [List.length_append, List.length_take]; omega
      obtain ⟨w1, hr1, hvm1, htn1⟩ := (hq.later (w' := wr.drew) (Below.refl _ _).drew).vm.del (k := (Q.next + (i : Int)) % 4294967296) Try.underlying54 (wf_num hnx0 hnx1) 0
      have htn1 : Turn (fun j => j = M) wr w1 := htn1.undrew
      have h41 := hq.at4.turn htn1 hq.ne
      have hbo1 : BO w1 0 (.slice av (stQ Q L i).bs.length cv) (stQ Q L i).bs := row_turn hq.bo htn1 (fun k hk e => (hq.av k hk).2.2 e)
      obtain ⟨v2, w2, e1, hbo2, ht2, hloc⟩ := app1 hbo1 bb (by rw [hlen]; omega) 50
      have h42 := h41.turn ht2 (fun e => (hq.av q e).2.1 rfl)
      have hvm2 := hvm1.turn ht2 (fun e => (hq.av M e).2.2 rfl)
      rw [hbs] at hbo2
      obtain ⟨a2, b2, rfl, -⟩ := hbo2.shape
      have hs21 : w1.heap.size ≤ w2.heap.size := ht2.size
      have hs1r : wr.heap.size ≤ w1.heap.size := htn1.size
      have hswr : w.heap.size ≤ wr.heap.size := ht.size
      have hql := hq.at4.1
      have hMl := hq.vm.lt
      have h43 := h42.set 2 (.slice a2 (stQ Q L (i + 1)).bs.length b2)
      have h4f := (h42.2 2 _ rfl)
      have hrep4 : Rep ((Q.next + ((i + 1 : Nat) : Int)) % 4294967296) (fun x => Q.ap (x + (i + 1))) (vdel l' ((Q.next + (i : Int)) % 4294967296)) := by
        have := rep_del hq.rep hq.vm.2 hnx0 hnx1 (fun d hd => by have := hb _ hd; omega)
        rw [show ((stQ Q L i).next + 1) % 4294967296 = (Q.next + ((i + 1 : Nat) : Int)) % 4294967296 from enx] at this
        have e9 : (fun x => (stQ Q L i).ap (x + 1)) = (fun x => Q.ap (x + (i + 1))) := by
          funext x
          show Q.ap (x + 1 + i) = _
          congr 1
          omega
        rw [e9] at this
        exact this
      have HQ4 : Hid (QY ((w2.setCell ⟨q, 2, none⟩ (.slice a2 (stQ Q L (i + 1)).bs.length b2)).setCell ⟨q, 1, none⟩ (.int .i64 ((Q.next + ((i + 1 : Nat) : Int)) % 4294967296))) (withB B (.slice a2 (stQ Q L (i + 1)).bs.length b2)) q (stQ Q L (i + 1)) M (.slice a2 (stQ Q L (i + 1)).bs.length b2) (vdel l' ((Q.next + (i : Int)) % 4294967296))) := by
        have hav := withB_av (B := B) hq.av hloc (show q < w1.heap.size + 1 by omega) (show M < w1.heap.size + 1 by omega)
        have hqM : ¬ M = q := fun e => hq.ne e.symm
        exact ⟨(h42.set 2 _).set 1 _, (hvm2.turn (turn_set w2 q 2 _) hqM).turn (turn_set _ q 1 _) hqM, hrep4, row_turn (row_turn hbo2 (turn_set w2 q 2 _) (fun k hk e => (hav k hk).2.1 e)) (turn_set _ q 1 _) (fun k hk e => (hav k hk).2.1 e), Or.inl hq.aq, Or.inl hq.aM, hav, withB_lw hq.lw hbo2 (by simp; omega) (by simp)⟩
      have HT4 : Hid (Turn A w ((w2.setCell ⟨q, 2, none⟩ (.slice a2 (stQ Q L (i + 1)).bs.length b2)).setCell ⟨q, 1, none⟩ (.int .i64 ((Q.next + ((i + 1 : Nat) : Int)) % 4294967296)))) := by
        refine ht.step (S' := B) ?_ hg
        exact (((htn1.mono (fun k e => by rw [e]; exact hq.aM)).trans (ht2.mono (fun k e => (hq.av k e).1))).trans (turnA hq.aq 2 _ _)).trans (turnA hq.aq 1 _ _)
      have HG4 : Hid (Gr w.heap.size A (withB B (.slice a2 (stQ Q L (i + 1)).bs.length b2))) := withB_gr hg (fun k hk => (hq.av k hk).1) hloc (by omega)
      have hnum := number_any ((Q.next + (i : Int)) % 4294967296) 1 (w2.setCell ⟨q, 2, none⟩ (.slice a2 (stQ Q L (i + 1)).bs.length b2)) hnx0 (by omega) (by omega)
      rw [show ((1 : Nat) : Int) = 1 from rfl, enx] at hnum
      obtain ⟨nx1, hnx1e⟩ : ∃ x, x = (Q.next + ((i + 1 : Nat) : Int)) % 4294967296 := ⟨_, rfl⟩
      rw [← hnx1e] at HQ4 HT4 hnum
      have HNX : Hid (nx1 = (Q.next + ((i + 1 : Nat) : Int)) % 4294967296) := hnx1e
      clear hnx1e
      have k1 : w1.cell? ⟨q, 1, none⟩ = some (.int .i64 ((Q.next + (i : Int)) % 4294967296)) := (h41.2 1 _ rfl).1
      have k2 : w1.cell? ⟨q, 2, none⟩ = some (.slice av (stQ Q L i).bs.length cv) := (h41.2 2 _ rfl).1
      have k3 : w1.cell? ⟨q, 3, none⟩ = some (.map (some M)) := (h41.2 3 _ rfl).1
      obtain ⟨d2, d2f⟩ := h4f
      obtain ⟨m1, m1f⟩ := h43.2 1 _ rfl
      clear hlen hbs enx hap hLi hrep4 hvm1 hvm2 hbo1 hbo2 h41 htn1 ht2 hloc
      rw [show (Option.isSome (some bb)) = true from rfl, show bAt (some bb) = .int .u8 (bb.toNat : Int) from rfl]
      have c1' : wr.drew.cell? ⟨q, 1, none⟩ = some (.int .i64 ((Q.next + (i : Int)) % 4294967296)) := c1
      have c3' : wr.drew.cell? ⟨q, 3, none⟩ = some (.map (some M)) := c3
      clear c0 c1 c2 c3
      go_upto_region 3 with fail
      refine wp_region_held_drew (S := (fun W => W.cell? ⟨q, 1, none⟩ = some (.int .i64 ((Q.next + (i : Int)) % 4294967296)) ∧ W.cell? ⟨q, 3, none⟩ = some (.map (some M)))) (by kernel_rfl) ?_ (fun hHeld => ?_)
      · first | exact ⟨c1', c3'⟩ | assumption
      refine wpAnyH_take (i := 0) (oi := ({ dst := some 29, op := Go.Op.move (Go.Operand.tmp 0), type := 28, pos := "recvq.go:104", after := #[], guard := none } : Go.Oper)) (v := .pointer (some ⟨q, 0, none⟩)) rfl (by kernel_rfl) (by kernel_rfl) (by kernel_rfl) (fun _ _ _ h => h) (Or.inl ⟨by rfl, ?_⟩) (by assumption) ?_
      · intro wx hSw
        try dsimp only at hSw
        obtain ⟨u1, u3⟩ := hSw
        go_simp
        try with_reducible rfl
      try simp only [Act.put, List.setIfInBounds_toArray, List.set_cons_zero, List.set_cons_succ]
      refine wpAnyH_take (i := 1) (oi := ({ dst := some 30, op := Go.Op.nilCheck (Go.Operand.tmp 29), type := 0, pos := "recvq.go:104", after := #[{ on := 0, ground := Go.Ground.data }], guard := none } : Go.Oper)) (v := .pointer (some ⟨q, 0, none⟩)) rfl (by kernel_rfl) (by kernel_rfl) (by kernel_rfl) (fun _ _ _ h => h) (Or.inl ⟨by rfl, ?_⟩) (by assumption) ?_
      · intro wx hSw
        try dsimp only at hSw
        obtain ⟨u1, u3⟩ := hSw
        go_simp
        try with_reducible rfl
      try simp only [Act.put, List.setIfInBounds_toArray, List.set_cons_zero, List.set_cons_succ]
      refine wpAnyH_take (i := 2) (oi := ({ dst := some 31, op := Go.Op.fieldAddr 56 (Go.Operand.tmp 30) 3, type := 0, pos := "recvq.go:104", after := #[{ on := 1, ground := Go.Ground.data }], guard := none } : Go.Oper)) (v := .pointer (some ⟨q, 3, none⟩)) rfl (by kernel_rfl) (by kernel_rfl) (by kernel_rfl) (fun _ _ _ h => h) (Or.inl ⟨by rfl, ?_⟩) (by assumption) ?_
      · intro wx hSw
        try dsimp only at hSw
        obtain ⟨u1, u3⟩ := hSw
        go_simp
        try with_reducible rfl
      try simp only [Act.put, List.setIfInBounds_toArray, List.set_cons_zero, List.set_cons_succ]
      refine wpAnyH_take (i := 3) (oi := ({ dst := some 32, op := Go.Op.load 54 (Go.Operand.tmp 31), type := 54, pos := "recvq.go:104", after := #[{ on := 2, ground := Go.Ground.data }], guard := none } : Go.Oper)) (v := .map (some M)) rfl (by kernel_rfl) (by kernel_rfl) (by kernel_rfl) (fun _ _ _ h => h) (Or.inl ⟨by rfl, ?_⟩) (by assumption) ?_
      · intro wx hSw
        try dsimp only at hSw
        obtain ⟨u1, u3⟩ := hSw
        go_simp
        try with_reducible rfl
      try simp only [Act.put, List.setIfInBounds_toArray, List.set_cons_zero, List.set_cons_succ]
      refine wpAnyH_take (i := 4) (oi := ({ dst := some 33, op := Go.Op.move (Go.Operand.tmp 0), type := 28, pos := "recvq.go:104", after := #[], guard := none } : Go.Oper)) (v := .pointer (some ⟨q, 0, none⟩)) rfl (by kernel_rfl) (by kernel_rfl) (by kernel_rfl) (fun _ _ _ h => h) (Or.inl ⟨by rfl, ?_⟩) (by assumption) ?_
      · intro wx hSw
        try dsimp only at hSw
        obtain ⟨u1, u3⟩ := hSw
        go_simp
        try with_reducible rfl
      try simp only [Act.put, List.setIfInBounds_toArray, List.set_cons_zero, List.set_cons_succ]
      refine wpAnyH_take (i := 5) (oi := ({ dst := some 34, op := Go.Op.nilCheck (Go.Operand.tmp 33), type := 0, pos := "recvq.go:104", after := #[{ on := 4, ground := Go.Ground.data }], guard := none } : Go.Oper)) (v := .pointer (some ⟨q, 0, none⟩)) rfl (by kernel_rfl) (by kernel_rfl) (by kernel_rfl) (fun _ _ _ h => h) (Or.inl ⟨by rfl, ?_⟩) (by assumption) ?_
      · intro wx hSw
        try dsimp only at hSw
        obtain ⟨u1, u3⟩ := hSw
        go_simp
        try with_reducible rfl
      try simp only [Act.put, List.setIfInBounds_toArray, List.set_cons_zero, List.set_cons_succ]
      refine wpAnyH_take (i := 6) (oi := ({ dst := some 35, op := Go.Op.fieldAddr 56 (Go.Operand.tmp 34) 1, type := 0, pos := "recvq.go:104", after := #[{ on := 5, ground := Go.Ground.data }], guard := none } : Go.Oper)) (v := .pointer (some ⟨q, 1, none⟩)) rfl (by kernel_rfl) (by kernel_rfl) (by kernel_rfl) (fun _ _ _ h => h) (Or.inl ⟨by rfl, ?_⟩) (by assumption) ?_
      · intro wx hSw
        try dsimp only at hSw
        obtain ⟨u1, u3⟩ := hSw
        go_simp
        try with_reducible rfl
      try simp only [Act.put, List.setIfInBounds_toArray, List.set_cons_zero, List.set_cons_succ]
      refine wpAnyH_take (i := 7) (oi := ({ dst := some 36, op := Go.Op.load 3 (Go.Operand.tmp 35), type := 3, pos := "recvq.go:104", after := #[{ on := 6, ground := Go.Ground.data }], guard := none } : Go.Oper)) (v := .int .i64 ((Q.next + (i : Int)) % 4294967296)) rfl (by kernel_rfl) (by kernel_rfl) (by kernel_rfl) (fun _ _ _ h => h) (Or.inl ⟨by rfl, ?_⟩) (by assumption) ?_
      · intro wx hSw
        try dsimp only at hSw
        obtain ⟨u1, u3⟩ := hSw
        go_simp
        try with_reducible rfl
      try simp only [Act.put, List.setIfInBounds_toArray, List.set_cons_zero, List.set_cons_succ]
      refine wpAnyH_ready (rs := [8]) (by kernel_rfl) (by simp) ?_
      refine AllReadyH.cons (o := ({ dst := none, op := Go.Op.call { callee := Go.Callee.builtin Go.Builtin.delete, args := #[Go.Operand.tmp 32, Go.Operand.tmp 36], argTypes := #[54, 3] }, type := 0, pos := "recvq.go:104", after := #[{ on := 3, ground := Go.Ground.data }, { on := 7, ground := Go.Ground.data }], guard := none } : Go.Oper)) rfl (fun K hK => ?_) AllReadyH.nil
      refine step_delete (by rfl) _ _ (by rfl) (by rfl) (by rfl) hr1 ?_
      refine hK.out _ _ ⟨k1, k3⟩ (fun hHeld => ?_)
      clear hK K
      try simp only [Act.put, List.setIfInBounds_toArray, List.set_cons_zero, List.set_cons_succ]
      refine wpAnyH_done (by kernel_rfl) ?_ _
      clear c1' c3' k1 k3
      go_upto_region 5 with (first | (at_builtin; refine wpList_append_eq rfl _ _ rfl rfl rfl e1 ?_) | go_in)
      clear k2 d2 d2f h42
      generalize w2.setCell ⟨q, 2, none⟩ (.slice a2 (stQ Q L (i + 1)).bs.length b2) = w3 at *
      go_wp2_with fail
      refine hnum.mono ?_
      rintro e wz ⟨rfl, rfl⟩
      go_upto_region 2 with fail
      clear m1 m1f h43
      generalize wz.setCell ⟨q, 1, none⟩ (.int .i64 nx1) = w4 at *
      have hq4 := HQ4.out
      have hk4 : ∀ W, Below w4.heap.size w4 W → (Instr.lookup 54 (.map (some M)) (.int .i64 ((Q.next + ((i + 1 : Nat) : Int)) % 4294967296)) true).run Try.prog W = .ok (.tuple #[bAt (Q.ap (i + 1)), .bool (Q.ap (i + 1)).isSome]) W := fun W hW => hlook W _ (i + 1) _ _ (hq4.later hW)
      obtain ⟨⟨-, e1', -, e3'⟩, -⟩ := hq4.at4.four
      have hc1 : ∀ W, Below w4.heap.size w4 W → W.cell? ⟨q, 1, none⟩ = some (.int .i64 ((Q.next + ((i + 1 : Nat) : Int)) % 4294967296)) := fun W hW => later hW e1'
      have hc3 : ∀ W, Below w4.heap.size w4 W → W.cell? ⟨q, 3, none⟩ = some (.map (some M)) := fun W hW => later hW e3'
      obtain ⟨bt1, hbt1⟩ : ∃ x, x = bAt (Q.ap (i + 1)) := ⟨_, rfl⟩
      obtain ⟨tt1, htt1⟩ : ∃ x, x = (Q.ap (i + 1)).isSome := ⟨_, rfl⟩
      rw [← hbt1, ← htt1] at hk4
      have HB1 : Hid (bt1 = bAt (Q.ap (i + 1))) := hbt1
      have HT1 : Hid (tt1 = (Q.ap (i + 1)).isSome) := htt1
      have HM : Hid (slen (wr.cell? ⟨q, 2, none⟩) = Q.bs.length + i) := hms
      clear hbt1 htt1 e1' e3' hms
      rw [← HNX.out] at hk4 hc1
      refine wp_region_held_drew (S := (fun W => Below w4.heap.size w4 W)) (by kernel_rfl) ?_ (fun hHeld => ?_)
      · first | exact (Below.refl _ _).drew | assumption
      refine wpAnyH_take (i := 0) (oi := ({ dst := some 18, op := Go.Op.move (Go.Operand.tmp 0), type := 28, pos := "recvq.go:103", after := #[], guard := none } : Go.Oper)) (v := .pointer (some ⟨q, 0, none⟩)) rfl (by kernel_rfl) (by kernel_rfl) (by kernel_rfl) (fun _ _ _ h => h) (Or.inl ⟨by rfl, ?_⟩) (by assumption) ?_
      · intro wx hSw
        try dsimp only at hSw
        have u1 := hc1 wx hSw
        have u3 := hc3 wx hSw
        have u4 := hk4 wx hSw
        go_simp
        try with_reducible rfl
      try simp only [Act.put, List.setIfInBounds_toArray, List.set_cons_zero, List.set_cons_succ]
      refine wpAnyH_take (i := 1) (oi := ({ dst := some 19, op := Go.Op.nilCheck (Go.Operand.tmp 18), type := 0, pos := "recvq.go:103", after := #[{ on := 0, ground := Go.Ground.data }], guard := none } : Go.Oper)) (v := .pointer (some ⟨q, 0, none⟩)) rfl (by kernel_rfl) (by kernel_rfl) (by kernel_rfl) (fun _ _ _ h => h) (Or.inl ⟨by rfl, ?_⟩) (by assumption) ?_
      · intro wx hSw
        try dsimp only at hSw
        have u1 := hc1 wx hSw
        have u3 := hc3 wx hSw
        have u4 := hk4 wx hSw
        go_simp
        try with_reducible rfl
      try simp only [Act.put, List.setIfInBounds_toArray, List.set_cons_zero, List.set_cons_succ]
      refine wpAnyH_take (i := 2) (oi := ({ dst := some 20, op := Go.Op.fieldAddr 56 (Go.Operand.tmp 19) 3, type := 0, pos := "recvq.go:103", after := #[{ on := 1, ground := Go.Ground.data }], guard := none } : Go.Oper)) (v := .pointer (some ⟨q, 3, none⟩)) rfl (by kernel_rfl) (by kernel_rfl) (by kernel_rfl) (fun _ _ _ h => h) (Or.inl ⟨by rfl, ?_⟩) (by assumption) ?_
      · intro wx hSw
        try dsimp only at hSw
        have u1 := hc1 wx hSw
        have u3 := hc3 wx hSw
        have u4 := hk4 wx hSw
        go_simp
        try with_reducible rfl
      try simp only [Act.put, List.setIfInBounds_toArray, List.set_cons_zero, List.set_cons_succ]
      refine wpAnyH_take (i := 3) (oi := ({ dst := some 21, op := Go.Op.load 54 (Go.Operand.tmp 20), type := 54, pos := "recvq.go:103", after := #[{ on := 2, ground := Go.Ground.data }], guard := none } : Go.Oper)) (v := .map (some M)) rfl (by kernel_rfl) (by kernel_rfl) (by kernel_rfl) (fun _ _ _ h => h) (Or.inl ⟨by rfl, ?_⟩) (by assumption) ?_
      · intro wx hSw
        try dsimp only at hSw
        have u1 := hc1 wx hSw
        have u3 := hc3 wx hSw
        have u4 := hk4 wx hSw
        go_simp
        try with_reducible rfl
      try simp only [Act.put, List.setIfInBounds_toArray, List.set_cons_zero, List.set_cons_succ]
      refine wpAnyH_take (i := 4) (oi := ({ dst := some 22, op := Go.Op.move (Go.Operand.tmp 0), type := 28, pos := "recvq.go:103", after := #[], guard := none } : Go.Oper)) (v := .pointer (some ⟨q, 0, none⟩)) rfl (by kernel_rfl) (by kernel_rfl) (by kernel_rfl) (fun _ _ _ h => h) (Or.inl ⟨by rfl, ?_⟩) (by assumption) ?_
      · intro wx hSw
        try dsimp only at hSw
        have u1 := hc1 wx hSw
        have u3 := hc3 wx hSw
        have u4 := hk4 wx hSw
        go_simp
        try with_reducible rfl
      try simp only [Act.put, List.setIfInBounds_toArray, List.set_cons_zero, List.set_cons_succ]
      refine wpAnyH_take (i := 5) (oi := ({ dst := some 23, op := Go.Op.nilCheck (Go.Operand.tmp 22), type := 0, pos := "recvq.go:103", after := #[{ on := 4, ground := Go.Ground.data }], guard := none } : Go.Oper)) (v := .pointer (some ⟨q, 0, none⟩)) rfl (by kernel_rfl) (by kernel_rfl) (by kernel_rfl) (fun _ _ _ h => h) (Or.inl ⟨by rfl, ?_⟩) (by assumption) ?_
      · intro wx hSw
        try dsimp only at hSw
        have u1 := hc1 wx hSw
        have u3 := hc3 wx hSw
        have u4 := hk4 wx hSw
        go_simp
        try with_reducible rfl
      try simp only [Act.put, List.setIfInBounds_toArray, List.set_cons_zero, List.set_cons_succ]
      refine wpAnyH_take (i := 6) (oi := ({ dst := some 24, op := Go.Op.fieldAddr 56 (Go.Operand.tmp 23) 1, type := 0, pos := "recvq.go:103", after := #[{ on := 5, ground := Go.Ground.data }], guard := none } : Go.Oper)) (v := .pointer (some ⟨q, 1, none⟩)) rfl (by kernel_rfl) (by kernel_rfl) (by kernel_rfl) (fun _ _ _ h => h) (Or.inl ⟨by rfl, ?_⟩) (by assumption) ?_
      · intro wx hSw
        try dsimp only at hSw
        have u1 := hc1 wx hSw
        have u3 := hc3 wx hSw
        have u4 := hk4 wx hSw
        go_simp
        try with_reducible rfl
      try simp only [Act.put, List.setIfInBounds_toArray, List.set_cons_zero, List.set_cons_succ]
      refine wpAnyH_take (i := 7) (oi := ({ dst := some 25, op := Go.Op.load 3 (Go.Operand.tmp 24), type := 3, pos := "recvq.go:103", after := #[{ on := 6, ground := Go.Ground.data }], guard := none } : Go.Oper)) (v := .int .i64 nx1) rfl (by kernel_rfl) (by kernel_rfl) (by kernel_rfl) (fun _ _ _ h => h) (Or.inl ⟨by rfl, ?_⟩) (by assumption) ?_
      · intro wx hSw
        try dsimp only at hSw
        have u1 := hc1 wx hSw
        have u3 := hc3 wx hSw
        have u4 := hk4 wx hSw
        go_simp
        try with_reducible rfl
      try simp only [Act.put, List.setIfInBounds_toArray, List.set_cons_zero, List.set_cons_succ]
      refine wpAnyH_take (i := 8) (oi := ({ dst := some 26, op := Go.Op.lookup 54 (Go.Operand.tmp 21) (Go.Operand.tmp 25) true, type := 75, pos := "recvq.go:103", after := #[{ on := 3, ground := Go.Ground.data }, { on := 7, ground := Go.Ground.data }], guard := none } : Go.Oper)) (v := .tuple #[bt1, .bool tt1]) rfl (by kernel_rfl) (by kernel_rfl) (by kernel_rfl) (fun _ _ _ h => h) (Or.inl ⟨by rfl, ?_⟩) (by assumption) ?_
      · intro wx hSw
        try dsimp only at hSw
        have u1 := hc1 wx hSw
        have u3 := hc3 wx hSw
        have u4 := hk4 wx hSw
        go_simp
        try with_reducible rfl
      try simp only [Act.put, List.setIfInBounds_toArray, List.set_cons_zero, List.set_cons_succ]
      refine wpAnyH_take (i := 9) (oi := ({ dst := some 17, op := Go.Op.move (Go.Operand.tmp 26), type := 75, pos := "recvq.go:103", after := #[{ on := 8, ground := Go.Ground.data }], guard := none } : Go.Oper)) (v := .tuple #[bt1, .bool tt1]) rfl (by kernel_rfl) (by kernel_rfl) (by kernel_rfl) (fun _ _ _ h => h) (Or.inl ⟨by rfl, ?_⟩) (by assumption) ?_
      · intro wx hSw
        try dsimp only at hSw
        have u1 := hc1 wx hSw
        have u3 := hc3 wx hSw
        have u4 := hk4 wx hSw
        go_simp
        try with_reducible rfl
      try simp only [Act.put, List.setIfInBounds_toArray, List.set_cons_zero, List.set_cons_succ]
      refine wpAnyH_take (i := 10) (oi := ({ dst := some 27, op := Go.Op.extract (Go.Operand.tmp 17) 0, type := 5, pos := "recvq.go:103", after := #[{ on := 9, ground := Go.Ground.data }], guard := none } : Go.Oper)) (v := bt1) rfl (by kernel_rfl) (by kernel_rfl) (by kernel_rfl) (fun _ _ _ h => h) (Or.inl ⟨by rfl, ?_⟩) (by assumption) ?_
      · intro wx hSw
        try dsimp only at hSw
        have u1 := hc1 wx hSw
        have u3 := hc3 wx hSw
        have u4 := hk4 wx hSw
        go_simp
        try with_reducible rfl
      try simp only [Act.put, List.setIfInBounds_toArray, List.set_cons_zero, List.set_cons_succ]
      refine wpAnyH_take (i := 11) (oi := ({ dst := some 28, op := Go.Op.extract (Go.Operand.tmp 17) 1, type := 4, pos := "recvq.go:103", after := #[{ on := 9, ground := Go.Ground.data }, { on := 12, ground := Go.Ground.gcOnly Go.Departure.lateStores }], guard := none } : Go.Oper)) (v := .bool tt1) rfl (by kernel_rfl) (by kernel_rfl) (by kernel_rfl) (fun _ _ _ h => h) (Or.inl ⟨by rfl, ?_⟩) (by assumption) ?_
      · intro wx hSw
        try dsimp only at hSw
        have u1 := hc1 wx hSw
        have u3 := hc3 wx hSw
        have u4 := hk4 wx hSw
        go_simp
        try with_reducible rfl
      try simp only [Act.put, List.setIfInBounds_toArray, List.set_cons_zero, List.set_cons_succ]
      refine wpAnyH_take (i := 12) (oi := ({ dst := some 2, op := Go.Op.assign (Go.Operand.tmp 27), type := 5, pos := "recvq.go:103", after := #[{ on := 10, ground := Go.Ground.data }, { on := 0, ground := Go.Ground.phase }, { on := 1, ground := Go.Ground.phase }, { on := 2, ground := Go.Ground.phase }, { on := 3, ground := Go.Ground.phase }, { on := 4, ground := Go.Ground.phase }, { on := 5, ground := Go.Ground.phase }, { on := 6, ground := Go.Ground.phase }, { on := 7, ground := Go.Ground.phase }, { on := 8, ground := Go.Ground.phase }, { on := 9, ground := Go.Ground.phase }, { on := 10, ground := Go.Ground.phase }, { on := 11, ground := Go.Ground.textOnly Go.Departure.lateStores }], guard := none } : Go.Oper)) (v := bt1) rfl (by kernel_rfl) (by kernel_rfl) (by kernel_rfl) (fun _ _ _ h => h) (Or.inl ⟨by rfl, ?_⟩) (by assumption) ?_
      · intro wx hSw
        try dsimp only at hSw
        have u1 := hc1 wx hSw
        have u3 := hc3 wx hSw
        have u4 := hk4 wx hSw
        go_simp
        try with_reducible rfl
      try simp only [Act.put, List.setIfInBounds_toArray, List.set_cons_zero, List.set_cons_succ]
      refine wpAnyH_take (i := 13) (oi := ({ dst := some 3, op := Go.Op.assign (Go.Operand.tmp 28), type := 4, pos := "recvq.go:103", after := #[{ on := 11, ground := Go.Ground.data }, { on := 12, ground := Go.Ground.chain }, { on := 0, ground := Go.Ground.phase }, { on := 1, ground := Go.Ground.phase }, { on := 2, ground := Go.Ground.phase }, { on := 3, ground := Go.Ground.phase }, { on := 4, ground := Go.Ground.phase }, { on := 5, ground := Go.Ground.phase }, { on := 6, ground := Go.Ground.phase }, { on := 7, ground := Go.Ground.phase }, { on := 8, ground := Go.Ground.phase }, { on := 9, ground := Go.Ground.phase }, { on := 10, ground := Go.Ground.phase }, { on := 11, ground := Go.Ground.phase }, { on := 12, ground := Go.Ground.phase }], guard := none } : Go.Oper)) (v := .bool tt1) rfl (by kernel_rfl) (by kernel_rfl) (by kernel_rfl) (fun _ _ _ h => h) (Or.inl ⟨by rfl, ?_⟩) (by assumption) ?_
      · intro wx hSw
        try dsimp only at hSw
        have u1 := hc1 wx hSw
        have u3 := hc3 wx hSw
        have u4 := hk4 wx hSw
        go_simp
        try with_reducible rfl
      try simp only [Act.put, List.setIfInBounds_toArray, List.set_cons_zero, List.set_cons_succ]
      refine wpAnyH_done (by kernel_rfl) ?_ _
      try go_wp2_with fail
      go_roundw
      case rel => exact ⟨i + 1, _, _, _, by omega, HB1.out, by rw [HT1.out], hq4.later hHeld, HT4.out.later hHeld, HG4.out⟩
      case measure =>
        have h1 := hmeas _ _ (i + 1) _ _ (by omega) (hq4.later hHeld)
        rw [h1, HM.out]
        omega
end Go.Proofs.Ytkclookpdngkoaa.V
