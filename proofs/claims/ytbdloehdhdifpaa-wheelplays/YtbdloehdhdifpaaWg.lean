/- SortFunc of a row of numbers, by the order of a wheel; a range over the timers. -/
import Derived.Test.YtbdloehdhdifpaaWf
import Derived.Sort.OwnSortedInts
namespace Go.Proofs.Ytbdloehdhdifpaa
open Go.Shelf Go.RowKit Go.Maps Go.Lib Go.Sort Go.Proofs
set_option maxRecDepth 100000
set_option linter.unusedVariables false
set_option linter.unusedSimpArgs false

/-- What a sort is asked for. -/
def Sorts (L : List Tm) (w0 : World) (blk off n : Nat) (d : Array Nm) (w' : World) : Prop := ∃ d', PermIn 0 n d d' ∧ SortedIn (ltN L) 0 n d' ∧ SW eN w0 blk off d' w'
set_option maxHeartbeats 1000000 in
theorem sortf_of {w0 : World} {B M blk off : Nat} {L : List Tm} (cap n : Nat) (d : Array Nm) (w : World) (hz : n < 1000000) (hp : Calls Try.prog 29 #[.slice (some ⟨blk, off, none⟩) n cap, .int .i64 ((0 : Nat) : Int), .int .i64 (n : Int), .int .i64 (Lib.bitLen n : Nat), .func (.func 28) #[.pointer (some ⟨B, 0, none⟩)] #[]] w fun e w' => e = .returned (.tuple #[]) ∧ Sorts L w0 blk off n d w') :
    Calls Try.prog 27 #[.slice (some ⟨blk, off, none⟩) n cap, .func (.func 28) #[.pointer (some ⟨B, 0, none⟩)] #[]] w fun e w' => e = .returned (.tuple #[]) ∧ Sorts L w0 blk off n d w' := by
  have hl := len_any n hz w
  have wr : IntKind.u64.wrap (n : Int) = n := by simp [IntKind.wrap, IntKind.bits, IntKind.signed]; omega
  have hbl : Hid (Lib.bitLen n = Lib.bitLen n) := rfl
  generalize Lib.bitLen n = bl at *
  clear hbl
  go_enter Try.func27, Try.ntmps27
  go_wp2_with (first | (go_at_call 30; refine hl.mono ?_; rintro e w' ⟨rfl, rfl⟩) | (go_at_call 29; refine hp.mono ?_; rintro e w' ⟨rfl, hS⟩))
  go_end0
  exact ⟨rfl, hS⟩
theorem sortf_few {w0 : World} {B M blk off : Nat} {now : Int} {L : List Tm} {d0 : Array Nm} (C : Sx w0 B M blk off now L d0) (cap : Nat) (d : Array Nm) (w : World) (S : SW eN w0 blk off d w) (n : Nat) (hs : Hid (d.size = n ∧ d0.size = n)) (hz : n ≤ 12) : Calls Try.prog 27 #[.slice (some ⟨blk, off, none⟩) n cap, .func (.func 28) #[.pointer (some ⟨B, 0, none⟩)] #[]] w fun e w' => e = .returned (.tuple #[]) ∧ Sorts L w0 blk off n d w' := by
  refine sortf_of (M := M) cap n d w (by omega) ((pdq_few C cap d w S n hs 0 n (Lib.bitLen n : Nat) (Nat.zero_le _) (Nat.le_refl _) (by omega) (by omega)).mono ?_)
  rintro e w' ⟨rfl, S'⟩
  obtain ⟨h1, h2⟩ := insertionSort_holds (swoN L) d 0 n (Nat.zero_le _) (by have := hs.out.1; omega)
  exact ⟨rfl, _, h1, h2, S'⟩
def toNm (z : Int) : Nm := Fin.ofNat _ z.toNat
theorem toNm_val {z : Int} (h0 : 0 ≤ z) (h1 : z ≤ 1073741824) : ((toNm z).val : Int) = z := by
  show ((z.toNat % 1073741825 : Nat) : Int) = z
  omega
def valN (x : Nm) : Int := (x.val : Int)
theorem putRow_val (w : World) (blk off : Nat) (d : Array Nm) : putRow eN w blk off d = putRow (Value.int .i64) w blk off (d.map valN) := by
  unfold putRow
  congr 1
  funext c
  unfold putCells
  congr 1
  funext k x
  by_cases h : off ≤ k ∧ k < off + d.size
  · have h' : off ≤ k ∧ k < off + (d.map valN).size := by rw [Array.size_map]; exact h
    have e : (if off ≤ k ∧ k < off + d.size then eN d[k - off]! else x) = eN d[k - off]! := if_pos h
    have e' : (if off ≤ k ∧ k < off + (d.map valN).size then Value.int .i64 (d.map valN)[k - off]! else x) = Value.int .i64 (d.map valN)[k - off]! := if_pos h'
    rw [e, e', getElem!_pos d (k - off) (by omega), getElem!_pos (d.map valN) (k - off) (by rw [Array.size_map]; omega), Array.getElem_map]
    rfl
  · have h' : ¬ (off ≤ k ∧ k < off + (d.map valN).size) := by rw [Array.size_map]; exact h
    have e : (if off ≤ k ∧ k < off + d.size then eN d[k - off]! else x) = x := if_neg h
    have e' : (if off ≤ k ∧ k < off + (d.map valN).size then Value.int .i64 (d.map valN)[k - off]! else x) = x := if_neg h'
    rw [e, e']
/-- The same numbers, in the order of a wheel. -/
def InOrder (L : List Tm) (zs : List Int) : Prop := zs.Pairwise fun x y => ¬ bef (y, tkT L y) (x, tkT L x)
theorem sort_ints (B M base : Nat) (now : Int) (L : List Tm) (v : Value) (zs : List Int) (w : World) (hW : WH w B M now L) (hL : WL L) (hI : Ints w base v zs) (hB : B < base) (hM : M < base) (hz : ∀ z ∈ zs, 0 ≤ z ∧ z ≤ 1073741824) (hn : zs.length ≤ 12) :
    Calls Try.prog 27 #[v, .func (.func 28) #[.pointer (some ⟨B, 0, none⟩)] #[]] w fun e w' => e = .returned (.tuple #[]) ∧ ∃ ts, ts.Perm zs ∧ InOrder L ts ∧ Ints w' base v ts ∧ Turn (fun k => base ≤ k) w w' := by
  rcases hI.2 with ⟨rfl, h0⟩ | ⟨g, cap, cur, rfl, hg, hb, h1, h2, h3, h4⟩
  · obtain rfl : zs = [] := List.length_eq_zero_iff.1 h0
    refine (sort_none none 0 _ w).mono ?_
    rintro e w' ⟨rfl, rfl⟩
    exact ⟨rfl, [], List.Perm.refl _, List.Pairwise.nil, hI, Turn.refl _⟩
  · rw [Nat.mul_one] at h4
    have hH := holds_of_blockI (ss := zs) hb h4
    have hgl : g < w.heap.size := (Array.getElem?_eq_some_iff.1 hb).1
    obtain ⟨d, hd⟩ : ∃ d : Array Nm, d = (zs.map toNm).toArray := ⟨_, rfl⟩
    have hds : d.size = zs.length := by rw [hd]; simp
    have hdi : ∀ j, j < zs.length → ((d[j]!).val : Int) = zs.toArray[j]! := fun j hj => by
      have hj' : j < zs.toArray.size := by simpa using hj
      rw [getElem!_pos d j (by omega), getElem!_pos zs.toArray j hj']
      have hm : zs[j] ∈ zs := List.getElem_mem hj
      have := hz _ hm
      subst hd
      simp only [List.getElem_toArray, List.getElem_map]
      exact toNm_val this.1 this.2
    have hHd : Holds eN w g 0 d := fun j hj => by
      have hj' : j < zs.length := by omega
      obtain ⟨a1, a2⟩ := hH j (by simpa using hj')
      exact ⟨by rw [a1]; show _ = some (Value.int .i64 ((d[j]!).val : Int)); rw [hdi j hj'], a2⟩
    have C : Sx w B M g 0 now L d := ⟨hW, hL, by omega, by omega, ⟨oneN, hHd, hgl⟩⟩
    refine (sortf_few C cap d w (SW.start hHd) zs.length (show Hid _ from ⟨hds, hds⟩) hn).mono ?_
    rintro e w' ⟨rfl, d', hp, hs, m, os, rfl⟩
    have hsz : d'.size = zs.length := by rw [hp.1, hds]
    have hpl : d'.toList.Perm d.toList := by
      have := hp.2.2
      rw [← hds] at this
      have e1 : d.extract 0 d.size = d := by simp
      have e2 : d'.extract 0 d.size = d' := by rw [hds, ← hsz]; simp
      rwa [e1, e2] at this
    have hperm : (d'.toList.map valN).Perm zs := by
      have h5 := hpl.map valN
      have h6 : d.toList.map valN = zs := by
        rw [hd, List.toList_toArray, List.map_map]
        conv => rhs; rw [← List.map_id zs]
        refine List.map_congr_left fun z hzm => ?_
        have := hz z hzm
        exact toNm_val this.1 this.2
      rwa [h6] at h5
    refine ⟨rfl, d'.toList.map valN, hperm, ?_, ?_, ?_⟩
    · unfold InOrder
      rw [List.pairwise_map, List.pairwise_iff_getElem]
      intro i j hi hj hij
      have hi' : i < d'.size := by simpa using hi
      have hj' : j < d'.size := by simpa using hj
      have h7 := hs i j (Nat.zero_le _) hij (by omega)
      rw [getElem!_pos d' j hj', getElem!_pos d' i hi'] at h7
      intro h8
      have h9 := (ltN_iff L d'[j] d'[i]).2 h8
      rw [h9] at h7
      cases h7
    · have e1 : sortWorld eN w g 0 m d' os = grow (putRow (Value.int .i64) (Sort.ahead w m) g 0 (d'.toList.map valN).toArray) os := by
        unfold sortWorld
        rw [putRow_val]
        congr 2
        apply Array.ext'
        simp
      have hl : (d'.toList.map valN).length = zs.length := by rw [List.length_map, Array.length_toList, hsz]
      have := ownsRow_sortedI (w := w) (base := base) (n := m) (os := os) (ss := zs) (ts := d'.toList.map valN) hl hg hb h1 h2 h3
      rw [e1]
      unfold Ints
      rw [hl]
      exact this
    · exact (turn_row hgl).mono (fun k hk => by omega)
theorem order_eq {L : List Tm} (hL : WL L) {now : Int} {ts : List Int} (hp : ts.Perm ((L.filter fun e => decide (e.2 ≤ now)).map (·.1))) (ho : InOrder L ts) : ts = (L.filter fun e => decide (e.2 ≤ now)).map (·.1) := by
  have hr : ((L.filter fun e => decide (e.2 ≤ now)).map (·.1)).Pairwise fun x y => ¬ bef (y, tkT L y) (x, tkT L x) := by
    rw [List.pairwise_map]
    refine List.Pairwise.imp_of_mem (R := bef) ?_ (List.Pairwise.filter _ hL.srt)
    intro x y hx hy hb
    have e1 : tkT L x.1 = x.2 := by unfold tkT; rw [lkT_of hL.nod (t := x.2) (List.mem_filter.1 hx).1]; rfl
    have e2 : tkT L y.1 = y.2 := by unfold tkT; rw [lkT_of hL.nod (t := y.2) (List.mem_filter.1 hy).1]; rfl
    rw [e1, e2]
    unfold bef at *
    omega
  refine hp.eq_of_pairwise ?_ ho hr
  intro x y _ _ h1 h2
  unfold bef at h1 h2
  simp only at h1 h2
  omega
/-- The step of a range over a map of numbers. -/
theorem wpList_next_vm {w : World} {ops : Array Oper} {rest : List Oper} {o : Oper} {a : Act} {Q : Exit → Act → World → Prop} (hg : o.guard = none) (it : Operand) (hop : o.op = Op.next it false) (M r n : Nat) (l : List Vn) (left : Lit → Bool) (cnt : Nat)
    (hit : a.eval it = .pointer (some ⟨r, 0, none⟩)) (h : w.ranges Try.prog 3 hE M r n (vD l) left cnt)
    (hDone : cnt = 0 → (∀ kl, left kl = false) → wpList Try.prog ops Q rest (a.put o.dst (.tuple #[.bool false])) w)
    (hMore : ∀ (x : Int) (v : Value) (w' : World) (cnt' : Nat), (x, v) ∈ l → left (.int .i64 x) = true → w'.ranges Try.prog 3 hE M r n (vD l) (fun z => left z && !z.sameKey (.int .i64 x)) cnt' → cnt' < cnt →
      w.grownBy w' (some r) → w'.heap.size = w.heap.size → (Instr.entry (.pointer (some ⟨r, 0, none⟩))).run Try.prog w' = .ok (.tuple #[.int .i64 x, v]) w' → wpList Try.prog ops Q rest (a.put o.dst (.tuple #[.bool true, .int .i64 x, v])) w') :
    wpList Try.prog ops Q (o :: rest) a w := by
  refine wpList_plain hg fun K' hK' => ?_
  unfold Oper.wp
  rcases h.next law3 o.type with ⟨h0, hl, hrun⟩ | ⟨key, v, kl, y, w', cnt', hkey, hlk, hv, hat, hrun, hrg, hlt, hgr, hsz, hen⟩
  · simp [execOp, hop, hit, hrun, Result.andThen]
    exact hK' _ _ (hDone h0 hl)
  · unfold hE at hv
    injection hv with hv
    subst hv
    obtain ⟨x, rfl, rfl, hwx⟩ := Maps.keyOf_int_inv Try.underlying3 hkey
    have h1 := hat (.held (.bool true))
    have h2 := hat (.held (.bool false))
    rw [at_vD] at h1 h2
    have hm : (x, v) ∈ l := by
      cases hq : vlk l x with
      | none =>
        rw [hq] at h1 h2
        simp only [Option.getD_none] at h1 h2
        rw [← h2] at h1
        cases h1
      | some u =>
        rw [hq] at h1
        have h3 : DataW.held u = .held v := h1
        injection h3 with h3
        rw [h3] at hq
        exact vlk_mem hq
    simp [execOp, hop, hit, hrun, Result.andThen]
    exact hK' _ _ (hMore x v w' cnt' hm hlk hrg hlt hgr hsz hen)
theorem rg_turn {S : Nat → Prop} {w w' : World} {M r n cnt : Nat} {D : DataW Value} {left : Lit → Bool} (h : w.ranges Try.prog 3 hE M r n D left cnt) (ht : Turn S w w') (hM : ¬ S M) (hr : ¬ S r) : w'.ranges Try.prog 3 hE M r n D left cnt := by
  obtain ⟨es, clock, since, seen, c0, hb, F, hs, hD, hr', rest⟩ := h
  exact ⟨es, clock, since, seen, c0, (ht.block M (Array.getElem?_eq_some_iff.1 hb).1 hM).trans hb, F, hs, hD, (ht.block r (Array.getElem?_eq_some_iff.1 hr').1 hr).trans hr', rest⟩
theorem left_all {l : List Vn} {e : Vn} (he : e ∈ l) : Maps.has (vD l) (.int .i64 e.1) = true := by
  rw [has_vD]
  cases hq : vlk l e.1 with
  | some _ => rfl
  | none =>
    unfold vlk at hq
    rw [Option.map_eq_none_iff, List.find?_eq_none] at hq
    have := hq e he
    simp at this
end Go.Proofs.Ytbdloehdhdifpaa
