/- The document's Names; SameTexts, SpoilTexts. -/
import Derived.Test.YtadmpdeegnppjaaGreatDoorRk
import Derived.Test.YtadmpdeegnppjaaGreatDoorAm
namespace Go.Proofs.YtadmpdeegnppjaaGreatDoor
open Go.RowKit Go.Maps Go.Shelf Go.Lib
set_option maxRecDepth 100000
set_option linter.unusedVariables false
set_option linter.unusedSimpArgs false


theorem SO.one (w : World) (t : By) : SO (w.alloc (.cells #[.string (B t)] 9)) 0 (.slice (some ⟨w.heap.size, 0, none⟩) 1 1) [t] :=
  ⟨rfl, Or.inr ⟨w.heap.size, 1, #[.string (B t)], rfl, Nat.zero_le _, (MapKept.heap_alloc w _).1, Nat.le_refl _, (by unfold maxLen; omega), rfl, rfl⟩⟩
theorem so_pr {w : World} {ov vv : Value} {xs : List By} {m : Mp} (h : SO w 0 ov xs) (k : PR w vv m) : ∀ j, ov.ownBlock = some j → vv.ownBlock = some j → False := by
  intro j e1 e2
  rcases h.2 with ⟨rfl, -⟩ | ⟨g, cap, cur, rfl, -, hb, -⟩
  · cases e1
  · cases e1
    rcases k.2 with ⟨rfl, -⟩ | ⟨g', cap', cur', rfl, -, hb', -⟩
    · cases e2
    · cases e2
      rw [hb] at hb'
      injection hb' with hb'
      injection hb' with _ ht
      exact absurd ht (by decide)
section
variable {w w' : World} {b : Nat} {v : Value} {s : St}
set_option maxHeartbeats 2000000 in
theorem rnames_any (h : RY w b v s) (hO : OkM s.m) : Calls Tryz.prog 13 #[PB b] w fun e w' => ∃ y, e = .returned y ∧ SO w' 0 y (s.m.map (·.1)) ∧ (∀ k, y.ownBlock = some k → w.heap.size ≤ k) ∧ Below w.heap.size w w' := by
  have hms := hO.size
  have HR : Hid _ := h
  obtain ⟨hlt, ⟨c0, -⟩, -⟩ := h.at_.four
  obtain ⟨a, c, rfl, h0, hc0, hg⟩ := h.pr.shape
  clear h hO
  go_enter Tryz.func13, Tryz.ntmps13
  go_wp2
  go_loopw [3, 4] (fun x y wr => ∃ i : Nat, y = .int .i64 (i : Int) ∧ SO wr 0 x ((s.m.take i).map (·.1)) ∧ (∀ k, x.ownBlock = some k → w.heap.size ≤ k) ∧ Below w.heap.size w wr ∧ i ≤ s.m.length) (fun x y wr => s.m.length - natOf y)
  case atStart => exact ⟨0, rfl, SO.nil _ _, (fun k hk => by cases hk), Below.refl _ _, Nat.zero_le _⟩
  case round =>
    obtain ⟨i, rfl, hso, hge, hbw, hle⟩ := hrel
    have hsz := hbw.size
    have hi1 : ((i + 1 : Nat) : Int) = (i : Int) + 1 := by omega
    have c0' := later hbw c0
    have hltr : b < wr.heap.size := by omega
    obtain ⟨a9, c9, rfl, -⟩ := hso.shape
    by_cases hp : i < s.m.length
    · obtain ⟨e, he⟩ : ∃ e, s.m[i]? = some e := ⟨_, List.getElem?_eq_getElem hp⟩
      have hp' : (i : Int) < (s.m.length : Int) := by omega
      cases a with
      | none => have := (h0 rfl).1; rw [this] at hp; simp at hp
      | some ad =>
        obtain ⟨g, rfl, hgl⟩ := hg ad rfl
        obtain ⟨k0, k1⟩ := (HR.out.pr.later hbw).cell he
        obtain ⟨v', w3, e3, p3, g3, o3⟩ := apps_str (hso.later (bel1 wr (.cells #[.string (B e.1)] 9))) (SO.one wr e.1) (by simp; omega) 22
        have hb3 : Below w.heap.size w w3 := (bt hbw (bel1 wr _)).trans (grown_below g3 (by simp; omega) hge)
        have hge3 : ∀ k, v'.ownBlock = some k → w.heap.size ≤ k := fun k hk => by
          rcases o3 with q | q
          · exact hge k (by rw [← q]; exact hk)
          · rw [q] at hk; cases hk; simp; omega
        have hmm : (s.m.take i).map (·.1) ++ [e.1] = (s.m.take (i + 1)).map (·.1) := by rw [List.take_add_one, he]; simp
        rw [hmm] at p3
        have HN : Hid _ := And.intro p3 (And.intro hge3 hb3)
        have e3' := e3
        clear he h0 hg hbw hso hge p3 g3 o3 hb3 hge3 hmm e3
        generalize ((s.m.take i).map (·.1)).length = n9 at e3' ⊢
        go_wp2_with (at_builtin; refine wpList_appE rfl _ _ rfl rfl rfl e3' ?_)
        go_roundw
        case rel => exact ⟨i + 1, by rw [hi1], HN.out.1, HN.out.2.1, HN.out.2.2, hp⟩
        case measure => simp only [natOf]; omega
    · have hp' : ¬ (i : Int) < (s.m.length : Int) := by omega
      have htk : s.m.take i = s.m := List.take_of_length_le (by omega)
      rw [htk] at hso hge ⊢
      simp only [List.length_map] at hso hge ⊢
      have HN : Hid _ := And.intro hso (And.intro hge hbw)
      clear hso hge hbw h0 hg
      go_wp2
      go_ret
      exact ⟨_, rfl, HN.out⟩
set_option maxHeartbeats 2000000 in
theorem sametexts_any {y1 y2 : Value} {xs : List By} (h1 : SO w 0 y1 xs) (h2 : SO w 0 y2 xs) (hx : xs.length ≤ 1000000) : Calls Tryz.prog 12 #[y1, y2] w fun e w' => e = .returned (.bool true) ∧ Below w.heap.size w w' := by
  have H1 : Hid (SO w 0 y1 xs) := h1
  have H2 : Hid (SO w 0 y2 xs) := h2
  obtain ⟨a1, c1, rfl, z1, -, g1⟩ := h1.shape
  obtain ⟨a2, c2, rfl, z2, -, g2⟩ := h2.shape
  clear h1 h2
  go_enter Tryz.func12, Tryz.ntmps12
  go_wp2
  go_loopw [5] (fun x wr => ∃ i : Nat, x = .int .i64 (i : Int) ∧ Below w.heap.size w wr ∧ i ≤ xs.length) (fun x wr => xs.length - natOf x)
  case atStart => exact ⟨0, rfl, Below.refl _ _, Nat.zero_le _⟩
  case round =>
    obtain ⟨i, rfl, hbw, hle⟩ := hrel
    have hi1 : ((i + 1 : Nat) : Int) = (i : Int) + 1 := by omega
    by_cases hp : i < xs.length
    · obtain ⟨e, he⟩ : ∃ e, xs[i]? = some e := ⟨_, List.getElem?_eq_getElem hp⟩
      have hp' : (i : Int) < (xs.length : Int) := by omega
      have qq : ((B e).toList == (B e).toList) = true := B_same e
      cases a1 with
      | none => have := (z1 rfl).1; rw [this] at hp; simp at hp
      | some ad1 =>
        cases a2 with
        | none => have := (z2 rfl).1; rw [this] at hp; simp at hp
        | some ad2 =>
          obtain ⟨p1, rfl, -⟩ := g1 ad1 rfl
          obtain ⟨p2, rfl, -⟩ := g2 ad2 rfl
          have k1 : wr.drew.cell? ⟨p1, i, none⟩ = some (.string (B e)) := (H1.out.later hbw).cell he
          have k2 : wr.drew.cell? ⟨p2, i, none⟩ = some (.string (B e)) := (H2.out.later hbw).cell he
          have hqq : ((B e).toList != (B e).toList) = false := by rw [bne, qq]; rfl
          have HB : Hid _ := hbw
          clear he z1 z2 g1 g2 hbw
          go_wp2
          go_region
          all_goals
            go_wp2
            go_roundw
            case rel => exact ⟨i + 1, by rw [hi1], Below.drew HB.out, hp⟩
            case measure => simp only [natOf]; omega
    · have hp' : ¬ (i : Int) < (xs.length : Int) := by omega
      have HB : Hid _ := hbw
      clear hbw z1 z2 g1 g2
      go_wp2
      go_ret
      exact ⟨rfl, HB.out⟩
theorem SO.thaw {g n c : Nat} {xs : List By} (h : SO w 0 (.slice (some ⟨g, 0, none⟩) n c) xs) (i : Nat) : w.frozen? ⟨g, i, none⟩ = false := by
  rcases h.2 with ⟨e, -⟩ | ⟨g', cap, cur, e, hg, hb, -⟩
  · cases e
  · cases e
    exact Lib.frozen_of_heap hb i
theorem SO.put {g n c : Nat} {xs : List By} (h : SO w 0 (.slice (some ⟨g, 0, none⟩) n c) xs) (hn : n = xs.length) (i : Nat) (t : By) : SO (w.setCell ⟨g, i, none⟩ (.string (B t))) 0 (.slice (some ⟨g, 0, none⟩) n c) (xs.set i t) := by
  subst hn
  have := (World.ownsRow.stored h i (.string (B t))).1
  unfold SO
  rw [List.length_set, List.map_set]
  exact this
abbrev cSP : By := [115, 112, 111, 105, 108, 116]
set_option maxHeartbeats 2000000 in
theorem spoil_any {y : Value} {xs : List By} (h : SO w 0 y xs) (hx : xs.length ≤ 1000000) : Calls Tryz.prog 14 #[y] w fun e w' => (∃ u, e = .returned u) ∧ Turn (fun k => y.ownBlock = some k) w w' := by
  obtain ⟨a1, c1, rfl, z1, -, g1⟩ := h.shape
  have HL : Hid _ := hx
  go_enter Tryz.func14, Tryz.ntmps14
  go_wp2
  go_loopw [2] (fun x wr => ∃ (i : Nat) (ys : List By), x = .int .i64 (i : Int) ∧ SO wr 0 (.slice a1 xs.length c1) ys ∧ ys.length = xs.length ∧ Turn (fun k => (Value.slice a1 xs.length c1).ownBlock = some k) w wr ∧ i ≤ xs.length) (fun x wr => xs.length - natOf x)
  case atStart => exact ⟨0, xs, rfl, h, rfl, Turn.refl _, Nat.zero_le _⟩
  case round =>
    obtain ⟨i, ys, rfl, hso, hyl, ht, hle⟩ := hrel
    have hi1 : ((i + 1 : Nat) : Int) = (i : Int) + 1 := by omega
    by_cases hp : i < xs.length
    · obtain ⟨e, he⟩ : ∃ e, ys[i]? = some e := ⟨_, List.getElem?_eq_getElem (by omega)⟩
      have hp' : (i : Int) < (xs.length : Int) := by omega
      cases a1 with
      | none => have := (z1 rfl).1; rw [this] at hp; simp at hp
      | some ad1 =>
        obtain ⟨p1, rfl, -⟩ := g1 ad1 rfl
        have k1 : wr.cell? ⟨p1, i, none⟩ = some (.string (B e)) := hso.cell he
        have f1 := hso.thaw i
        have hp2 := hso.put hyl.symm i cSP
        have HN : Hid _ := And.intro hp2 (ht.trans ((turn_set wr p1 i (.string (B cSP))).mono (fun k hk => by rw [hk]; rfl)))
        clear he z1 g1 hp2 hso ht h
        go_wp2
        go_roundw
        case rel => exact ⟨i + 1, _, by rw [hi1], HN.out.1, by rw [List.length_set]; exact hyl, HN.out.2, hp⟩
        case measure => simp only [natOf]; omega
    · have hp' : ¬ (i : Int) < (xs.length : Int) := by omega
      have HN : Hid _ := ht
      clear hso ht z1 g1 h
      go_wp2
      first | go_ret | go_end0
      exact ⟨⟨_, rfl⟩, HN.out⟩
end
end Go.Proofs.YtadmpdeegnppjaaGreatDoor
