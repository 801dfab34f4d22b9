/- The document's side: set. -/
import Derived.Test.YtadmpdeegnppjaaGreatDoorRf
import Derived.Laws.OwnMore
namespace Go.Proofs.YtadmpdeegnppjaaGreatDoor
open Go.RowKit Go.Maps Go.Shelf Go.Lib
set_option maxRecDepth 100000
set_option linter.unusedVariables false
set_option linter.unusedSimpArgs false


theorem less_yes : ∀ {a b : By}, bytesBefore a b = true → Op.bytesLess a b = true
  | [], [], h => by simp [bytesBefore] at h
  | [], _ :: _, _ => rfl
  | _ :: _, [], h => by simp [bytesBefore] at h
  | x :: a, y :: b, h => by
    simp only [bytesBefore, Bool.or_eq_true, Bool.and_eq_true, decide_eq_true_eq, beq_iff_eq] at h
    unfold Op.bytesLess
    rcases h with h | ⟨h1, h2⟩
    · simp [h]
    · subst h1
      simp [less_yes h2]
theorem less_of : ∀ {a b : By}, bytesBefore a b = false → Op.bytesLess a b = false
  | [], [], _ => rfl
  | [], _ :: _, h => by simp [bytesBefore] at h
  | _ :: _, [], _ => rfl
  | x :: a, y :: b, h => by
    simp only [bytesBefore, Bool.or_eq_false_iff, Bool.and_eq_false_imp, decide_eq_false_iff_not, beq_iff_eq] at h
    unfold Op.bytesLess
    obtain ⟨h1, h2⟩ := h
    by_cases e : x = y
    · have := less_of (h2 e)
      subst e
      simp [this, UInt8.lt_irrefl]
    · have q : (x == y) = false := beq_eq_false_iff_ne.2 e
      simp [h1, q]
section
variable {w w' : World} {v : Value} {m : Mp}
theorem appK2 {y : Mp} {a : Option Addr} {n c : Nat} (h : PR w v m) (hy : SrcK w a y) (ha : a = none → y = [] ∧ c = 0) (hn : n = y.length) (hl : m.length + y.length ≤ 1000000) (ty : TypeId) :
    ∃ v' w', (Builtin.append_ #[26, 26] ty #[v, .slice a n c]).run Tryz.prog w = .ok v' w' ∧ PR w' v' (m ++ y) ∧ w.grownBy w' v.ownBlock ∧ (v'.ownBlock = v.ownBlock ∨ v'.ownBlock = some w.heap.size) := by
  subst hn
  exact appK h hy ha hl ty
theorem PR.cutT (h : PR w v m) {i : Nat} (hi : i ≤ m.length) : ∃ a n c, (∀ W, (Instr.slice 26 v none (some (.int .i64 (i : Int))) none).run Tryz.prog W = .ok (.slice a n c) W) ∧ n = (m.take i).length ∧ SrcK w a (m.take i) ∧ (a = none → m.take i = [] ∧ c = 0) := by
  obtain ⟨a, c, rfl, h0, hc, hg⟩ := h.shape
  cases a with
  | none =>
    obtain ⟨rfl, rfl⟩ := h0 rfl
    obtain rfl : i = 0 := by simpa using hi
    exact ⟨none, 0, 0, fun W => by simp [Instr.slice, Instr.sliceBounds, Instr.sliceBound, asIntOf, run_underlying Tryz.underlying26, Result.andThen], rfl, Or.inl rfl, fun _ => ⟨rfl, rfl⟩⟩
  | some ad =>
    obtain ⟨g, rfl, -⟩ := hg ad rfl
    refine ⟨some ⟨g, 0, none⟩, i, c, fun W => ?_, by rw [List.length_take]; omega, Or.inr ⟨g, 0, rfl, fun j e he => ?_⟩, fun e => by cases e⟩
    · simp [Instr.slice, Instr.sliceBounds, Instr.sliceBound, asIntOf, run_underlying Tryz.underlying26, Tryz.sizeOf66, Result.andThen, Addr.add_mid, show i ≤ c by omega]
    · rw [Nat.zero_add]
      refine h.cell (e := e) ?_
      rw [List.getElem?_take] at he
      split at he
      · exact he
      · cases he
theorem PR.cutF (h : PR w v m) {i : Nat} (hi : i ≤ m.length) : ∃ a n c, (∀ W, (Instr.slice 26 v (some (.int .i64 (i : Int))) none none).run Tryz.prog W = .ok (.slice a n c) W) ∧ n = (m.drop i).length ∧ SrcK w a (m.drop i) ∧ (a = none → m.drop i = [] ∧ c = 0) := by
  obtain ⟨a, c, rfl, h0, hc, hg⟩ := h.shape
  cases a with
  | none =>
    obtain ⟨rfl, rfl⟩ := h0 rfl
    obtain rfl : i = 0 := by simpa using hi
    exact ⟨none, 0, 0, fun W => by simp [Instr.slice, Instr.sliceBounds, Instr.sliceBound, asIntOf, run_underlying Tryz.underlying26, Result.andThen], rfl, Or.inl rfl, fun _ => ⟨rfl, rfl⟩⟩
  | some ad =>
    obtain ⟨g, rfl, -⟩ := hg ad rfl
    refine ⟨if c = i then some ⟨g, 0, none⟩ else some ⟨g, i * 2, none⟩, m.length - i, c - i, fun W => ?_, by rw [List.length_drop], ?_, fun e => by split at e <;> cases e⟩
    · (simp [Instr.slice, Instr.sliceBounds, Instr.sliceBound, asIntOf, run_underlying Tryz.underlying26, Tryz.sizeOf66, Result.andThen, Addr.add_mid, show i ≤ c by omega, hi]; try (split <;> simp [Addr.add_mid, *]))
    · by_cases hci : c = i
      · left
        exact List.drop_eq_nil_of_le (by omega)
      · right
        rw [if_neg hci]
        refine ⟨g, i * 2, rfl, fun j e he => ?_⟩
        rw [List.getElem?_drop] at he
        have := h.cell he
        rw [show i * 2 + j * 2 = (i + j) * 2 by omega]
        exact this
theorem PR.put {g n c : Nat} (h : PR w (.slice (some ⟨g, 0, none⟩) n c) m) (hn : n = m.length) {i : Nat} {k x : By} (he : m[i]? = some (k, x)) (t : By) : PR (w.setCell ⟨g, i * 2 + 1, none⟩ (.string (B t))) (.slice (some ⟨g, 0, none⟩) n c) (m.set i (k, t)) := by
  subst hn
  have := (World.ownsRow.stored h (i * 2 + 1) (.string (B t))).1
  unfold PR
  rw [List.length_set, ← kflat_set m i k x t he]
  exact this
theorem PR.thaw {g n c : Nat} (h : PR w (.slice (some ⟨g, 0, none⟩) n c) m) (i : Nat) : w.frozen? ⟨g, i, none⟩ = false := by
  rcases h.2 with ⟨e, -⟩ | ⟨g', cap, cur, e, hg, hb, -⟩
  · cases e
  · cases e
    exact Lib.frozen_of_heap hb i
theorem SrcK.one (w : World) (k t : By) : SrcK (w.alloc (.cells #[.string (B k), .string (B t)] 66)) (some ⟨w.heap.size, 0, none⟩) [(k, t)] :=
  Or.inr ⟨_, 0, rfl, fun j e he => by
    have hj : j = 0 := by have := (List.getElem?_eq_some_iff.1 he).1; simpa using this
    subst hj
    have : (k, t) = e := by simpa using he
    subst this
    constructor <;> simp [World.cell?_alloc_new]⟩
end
def setF (m : Mp) (k t : By) : Bool × Mp := if mget m k = none ∧ 64 ≤ m.length then (false, m) else (true, mput m (k, t))
theorem keep_set (m : Mp) (k t told : By) : keepF m k t told = (if (setF m k t).1 = true then told else bFULL, (setF m k t).2) := by
  unfold keepF setF
  split <;> rfl
theorem grown_below {w w' : World} {n : Nat} {row : Option Nat} (h : w.grownBy w' row) (hn : n ≤ w.heap.size) (hr : ∀ k, row = some k → n ≤ k) : Below n w w' :=
  (Turn.of_grown (S := fun k => row = some k) h (fun j hj => Or.inl hj)).below hn (fun k hk e => by have := hr k e; omega)
theorem Below.to {n : Nat} {w w' : World} (h : Below n w w') {m : Nat} (hm : m ≤ n) : Below m w w' := h.mono hm
section
variable {w : World} {b : Nat} {v : Value} {s : St}
set_option maxHeartbeats 8000000 in
theorem rset_any (h : RY w b v s) (hO : OkM s.m) (k t : By) : Calls Tryz.prog 36 #[PB b, .string (B k), .string (B t)] w fun e w' => e = .returned (.bool (setF s.m k t).1) ∧ ∃ v', RY w' b v' ⟨(setF s.m k t).2, s.line, s.long, s.over⟩ ∧ Turn (fun j => j = b) w w' ∧ Lies v v' w.heap.size := by
  have hms := hO.size
  have HO : Hid (Rise s.m) := hO.rise
  have hb0 : b < w.heap.size := h.at_.1
  have hw0 := bel1 w (.cells #[] 66)
  obtain ⟨a, c, rfl, h0, hc, hg⟩ := h.pr.shape
  obtain ⟨v1, w1, e1, p1, g1, o1⟩ := appK (PR.empty w) (h.pr.src.later hw0) h0 (by simp; omega) 26
  rw [List.nil_append] at p1
  have t1 : Below w.heap.size w w1 := hw0.trans (grown_below g1 (by simp) (fun k hk => by cases hk; exact Nat.le_refl _))
  have ob1 : ∀ k, v1.ownBlock = some k → w.heap.size ≤ k := fun k hk => by
    rcases o1 with e | e
    · rw [e] at hk; cases hk; exact Nat.le_refl _
    · rw [e] at hk; cases hk; simp
  have HR1 : Hid (RY w1 b (.slice a s.m.length c) s) := h.later t1
  have hfind := rfind_any HR1.out hO k
  obtain ⟨hlt, ⟨c0, -⟩, -⟩ := h.at_.four
  have hsz1 := t1.size
  obtain ⟨R, hR⟩ : ∃ R, R = setF s.m k t := ⟨_, rfl⟩
  rw [← hR]
  have HR : Hid _ := hR
  have HT1 : Hid _ := t1
  have HP1 : Hid (PR w1 v1 s.m) := p1
  have HO1 : Hid _ := ob1
  have HH : Hid _ := h
  clear hR p1 g1 o1 t1 ob1 hw0 h0 hc hg hO h
  go_enter Tryz.func36, Tryz.ntmps36
  go_wp2_with (at_builtin; refine wpList_appE rfl _ _ rfl rfl rfl e1 ?_)
  refine hfind.mono ?_
  rintro e w2 ⟨⟨j, rfl, hj⟩, hb2⟩
  clear hfind e1 c0
  have hp2 := HP1.out.later hb2
  have hR2 := HR1.out.later hb2
  have hbw2 : Below w.heap.size w w2 := bt HT1.out hb2
  have hs2 := hbw2.size
  rcases hj with ⟨rfl, hn⟩ | ⟨i, x, rfl, he, hm⟩
  · obtain ⟨a1, c1, rfl, h01, hc1, hg1⟩ := hp2.shape
    by_cases hl : 64 ≤ s.m.length
    · have hset : R = (false, s.m) := by
        rw [HR.out]
        unfold setF
        rw [if_pos ⟨hn, hl⟩]
      have hl' : (64 : Int) ≤ (s.m.length : Int) := by omega
      clear HR
      subst hset
      have HF : Hid _ := And.intro hR2 (Turn.of_below (S := fun j => j = b) hbw2)
      clear hR2 hp2 hn hl
      go_wp2
      go_ret
      exact ⟨rfl, _, HF.out.1, HF.out.2, fun q hq => Or.inl hq⟩
    · have hl' : ¬ (64 : Int) ≤ (s.m.length : Int) := by omega
      have HN : Hid _ := hn
      go_wp2
      go_loopw [9] (fun x wr => ∃ i : Nat, x = .int .i64 (i : Int) ∧ Below w2.heap.size w2 wr ∧ (∀ j e, j < i → s.m[j]? = some e → bytesBefore e.1 k = true) ∧ i ≤ s.m.length) (fun x wr => s.m.length - natOf x)
      case atStart => exact ⟨0, rfl, Below.refl _ _, (by intro j e hj; omega), Nat.zero_le _⟩
      case round =>
        obtain ⟨i, rfl, hbr, hno, hle⟩ := hrel
        have hsr := hbr.size
        have hi1 : ((i + 1 : Nat) : Int) = (i : Int) + 1 := by omega
        have hi0 : (0 : Int) ≤ (i : Int) := by omega
        have hle' : (i : Int) ≤ (s.m.length : Int) := by omega
        by_cases hp : i < s.m.length
        · obtain ⟨e, he⟩ : ∃ e, s.m[i]? = some e := ⟨_, List.getElem?_eq_getElem hp⟩
          have hp' : (i : Int) < (s.m.length : Int) := by omega
          cases a1 with
          | none => have := (h01 rfl).1; rw [this] at hp; simp at hp
          | some ad =>
            obtain ⟨g, rfl, hgl⟩ := hg1 ad rfl
            obtain ⟨k0, -⟩ := (hp2.later hbr).cell he
            by_cases hb : bytesBefore e.1 k = true
            · have qq : Op.bytesLess (B e.1).toList (B k).toList = true := by rw [B_tl, B_tl]; exact less_yes hb
              have HNO : Hid (∀ j e, j < i + 1 → s.m[j]? = some e → bytesBefore e.1 k = true) := by
                intro j e' hj he'
                rcases Nat.lt_succ_iff_lt_or_eq.1 hj with h | h
                · exact hno j e' h he'
                · subst h
                  rw [he] at he'
                  cases he'
                  exact hb
              clear hno he hb h01 hg1
              go_wp2
              go_roundw
              case rel => exact ⟨i + 1, by rw [hi1], hbr, HNO.out, hp⟩
              case measure => simp only [natOf]; omega
            · have qq : Op.bytesLess (B e.1).toList (B k).toList = false := by rw [B_tl, B_tl]; exact less_of (by simpa using hb)
              have hpr : PR wr (.slice (some ⟨g, 0, none⟩) s.m.length c1) s.m := hp2.later hbr
              obtain ⟨a3, n3, c3, sl3, hn3, hy3, hz3⟩ := hpr.cutT hle
              obtain ⟨v3, w3, e3, p3, g3, o3⟩ := appK2 (PR.nil wr) hy3 hz3 hn3 (by simp; omega) 26
              rw [List.nil_append] at p3
              have t3 : Below wr.heap.size wr w3 := grown_below g3 (Nat.le_refl _) (fun k hk => by cases hk)
              have ob3 : ∀ q, v3.ownBlock = some q → wr.heap.size ≤ q := fun q hq => by
                rcases o3 with e | e
                · rw [e] at hq; cases hq
                · rw [e] at hq; cases hq; exact Nat.le_refl _
              have s3 := t3.size
              obtain ⟨v5, w5, e5, p5, g5, o5⟩ := appK2 (c := 1) (p3.later (bel1 w3 _)) (SrcK.one w3 k t) (fun e => by cases e) (rfl : 1 = [(k, t)].length) (by simp; omega) 26
              have t5 : Below wr.heap.size wr w5 := (bt t3 (bel1 w3 _)).trans (grown_below g5 (by simp; omega) ob3)
              have s5 := t5.size
              have ob5 : ∀ q, v5.ownBlock = some q → wr.heap.size ≤ q := fun q hq => by
                rcases o5 with e | e
                · exact ob3 q (by rw [← e]; exact hq)
                · rw [e] at hq; cases hq; simp; omega
              obtain ⟨a6, n6, c6, sl6, hn6, hy6, hz6⟩ := hpr.cutF hle
              obtain ⟨v7, w7, e7, p7, g7, o7⟩ := appK2 p5 (hy6.later t5) hz6 hn6 (by simp; omega) 26
              have t7 : Below wr.heap.size wr w7 := t5.trans (grown_below g7 (by omega) ob5)
              have ob7 : ∀ q, v7.ownBlock = some q → wr.heap.size ≤ q := fun q hq => by
                rcases o7 with e | e
                · exact ob5 q (by rw [← e]; exact hq)
                · rw [e] at hq; cases hq; omega
              rw [List.append_assoc, List.singleton_append] at p7
              have hR7 := hR2.later (bt hbr t7)
              have hlt7 := hR7.at_.1
              obtain ⟨-, ⟨d0, -⟩, ⟨f0, -⟩⟩ := hR7.at_.four
              obtain ⟨a8, c8, rfl, -⟩ := p7.shape
              have hfin := hR7.row p7 (fun e => by have := ob7 b e; omega)
              have tt := (Turn.of_below (S := fun j => j = b) (bt hbw2 (bt hbr t7))).trans (turn_set w7 b 0 (.slice a8 (s.m.take i ++ (k, t) :: s.m.drop i).length c8))
              have hset : R = (true, s.m.take i ++ (k, t) :: s.m.drop i) := by
                rw [HR.out]
                unfold setF
                rw [if_neg (fun q => hl q.2), mput_at hn hno (fun y hy => by rw [he] at hy; cases hy; exact hb) hle]
              have HF : Hid _ := And.intro hfin (And.intro tt ob7)
              clear HR
              subst hset
              generalize (s.m.take i ++ (k, t) :: s.m.drop i).length = n8 at e7 HF
              clear hfin tt hR7 p7 p5 p3 hpr hy3 hy6 hz3 hz6 hn3 hn6 g3 g5 g7 o3 o5 o7 ob3 ob5 ob7 t3 t5 t7 hno hp2 hR2
              go_wp2_with (first
                | (at_builtin; refine wpList_appE rfl _ _ rfl rfl rfl e3 ?_)
                | (at_builtin; refine wpList_appE rfl _ _ rfl rfl rfl e5 ?_)
                | (at_builtin; refine wpList_appE rfl _ _ rfl rfl rfl e7 ?_))
              go_ret
              exact ⟨rfl, _, HF.out.1, HF.out.2.1, fun q hq => Or.inr (Nat.le_trans hs2 (Nat.le_trans hsr (HF.out.2.2 q hq)))⟩
        · have hp' : ¬ (i : Int) < (s.m.length : Int) := by omega
          have hpr : PR wr (.slice a1 s.m.length c1) s.m := hp2.later hbr
          obtain ⟨a3, n3, c3, sl3, hn3, hy3, hz3⟩ := hpr.cutT hle
          obtain ⟨v3, w3, e3, p3, g3, o3⟩ := appK2 (PR.nil wr) hy3 hz3 hn3 (by simp; omega) 26
          rw [List.nil_append] at p3
          have t3 : Below wr.heap.size wr w3 := grown_below g3 (Nat.le_refl _) (fun k hk => by cases hk)
          have ob3 : ∀ q, v3.ownBlock = some q → wr.heap.size ≤ q := fun q hq => by
            rcases o3 with e | e
            · rw [e] at hq; cases hq
            · rw [e] at hq; cases hq; exact Nat.le_refl _
          have s3 := t3.size
          obtain ⟨v5, w5, e5, p5, g5, o5⟩ := appK2 (c := 1) (p3.later (bel1 w3 _)) (SrcK.one w3 k t) (fun e => by cases e) (rfl : 1 = [(k, t)].length) (by simp; omega) 26
          have t5 : Below wr.heap.size wr w5 := (bt t3 (bel1 w3 _)).trans (grown_below g5 (by simp; omega) ob3)
          have s5 := t5.size
          have ob5 : ∀ q, v5.ownBlock = some q → wr.heap.size ≤ q := fun q hq => by
            rcases o5 with e | e
            · exact ob3 q (by rw [← e]; exact hq)
            · rw [e] at hq; cases hq; simp; omega
          obtain ⟨a6, n6, c6, sl6, hn6, hy6, hz6⟩ := hpr.cutF hle
          obtain ⟨v7, w7, e7, p7, g7, o7⟩ := appK2 p5 (hy6.later t5) hz6 hn6 (by simp; omega) 26
          have t7 : Below wr.heap.size wr w7 := t5.trans (grown_below g7 (by omega) ob5)
          have ob7 : ∀ q, v7.ownBlock = some q → wr.heap.size ≤ q := fun q hq => by
            rcases o7 with e | e
            · exact ob5 q (by rw [← e]; exact hq)
            · rw [e] at hq; cases hq; omega
          rw [List.append_assoc, List.singleton_append] at p7
          have hR7 := hR2.later (bt hbr t7)
          have hlt7 := hR7.at_.1
          obtain ⟨-, ⟨d0, -⟩, ⟨f0, -⟩⟩ := hR7.at_.four
          obtain ⟨a8, c8, rfl, -⟩ := p7.shape
          have hfin := hR7.row p7 (fun e => by have := ob7 b e; omega)
          have tt := (Turn.of_below (S := fun j => j = b) (bt hbw2 (bt hbr t7))).trans (turn_set w7 b 0 (.slice a8 (s.m.take i ++ (k, t) :: s.m.drop i).length c8))
          have hset : R = (true, s.m.take i ++ (k, t) :: s.m.drop i) := by
            rw [HR.out]
            unfold setF
            rw [if_neg (fun q => hl q.2), mput_at hn hno (fun y hy => absurd (List.getElem?_eq_some_iff.1 hy).1 hp) hle]
          have HF : Hid _ := And.intro hfin (And.intro tt ob7)
          clear HR
          subst hset
          generalize (s.m.take i ++ (k, t) :: s.m.drop i).length = n8 at e7 HF
          clear hfin tt hR7 p7 p5 p3 hpr hy3 hy6 hz3 hz6 hn3 hn6 g3 g5 g7 o3 o5 o7 ob3 ob5 ob7 t3 t5 t7 hno hp2 hR2
          go_wp2_with (first
            | (at_builtin; refine wpList_appE rfl _ _ rfl rfl rfl e3 ?_)
            | (at_builtin; refine wpList_appE rfl _ _ rfl rfl rfl e5 ?_)
            | (at_builtin; refine wpList_appE rfl _ _ rfl rfl rfl e7 ?_))
          go_ret
          exact ⟨rfl, _, HF.out.1, HF.out.2.1, fun q hq => Or.inr (Nat.le_trans hs2 (Nat.le_trans hsr (HF.out.2.2 q hq)))⟩
  · have hset : R = (true, s.m.set i (k, t)) := by
      rw [HR.out]
      unfold setF
      rw [if_neg (fun q => by rw [hm] at q; cases q.1), mput_set s.m i k x t HO.out he]
    clear HR
    subst hset
    obtain ⟨a1, c1, rfl, h01, hc1, hg1⟩ := hp2.shape
    have hil : i < s.m.length := (List.getElem?_eq_some_iff.1 he).1
    cases a1 with
    | none => rw [(h01 rfl).1] at hil; simp at hil
    | some ad =>
      obtain ⟨g, rfl, hgl⟩ := hg1 ad rfl
      have hgw : w.heap.size ≤ g := HO1.out g rfl
      have hc2 := (hp2.cell he).2
      have hf2 := hp2.thaw (i * 2 + 1)
      have hgb : g ≠ b := by omega
      have tg := turn_set w2 g (i * 2 + 1) (.string (B t))
      have hR3 := hR2.turn tg (fun e => hgb e.symm) (fun q hq e => by
        have hlv := HH.out.pr.shape
        obtain ⟨a9, c9, e9, -, -, hg9⟩ := hlv
        cases e9
        cases a with
        | none => cases hq
        | some ad9 =>
          obtain ⟨g9, rfl, hl9⟩ := hg9 ad9 rfl
          cases hq
          have e9 : g9 = g := e
          omega)
      have hfin := hR3.row (hp2.put rfl he t) (fun e => by cases e; exact hgb rfl)
      obtain ⟨-, ⟨d0, -⟩, ⟨f0, -⟩⟩ := hR3.at_.four
      have hlt3 := hR3.at_.1
      have tt : Turn (fun j => j = b) w ((w2.setCell ⟨g, i * 2 + 1, none⟩ (.string (B t))).setCell ⟨b, 0, none⟩ (.slice (some ⟨g, 0, none⟩) s.m.length c1)) :=
        ((Turn.of_below hbw2).step tg (fun j e => Or.inr (by omega))).trans (turn_set _ b 0 _)
      have HF : Hid _ := And.intro hfin tt
      have hi0 : (0 : Int) ≤ (i : Int) := by omega
      have hil' : (i : Int) < (s.m.length : Int) := by omega
      clear hfin tt hR3 tg hR2 hp2 he hm h01 hg1 HP1 HR1
      go_wp2
      go_ret
      exact ⟨rfl, _, HF.out.1, HF.out.2, fun q hq => Or.inr (by cases hq; exact hgw)⟩
end
end Go.Proofs.YtadmpdeegnppjaaGreatDoor
