/- For all options and any room: what fits is a beginning of the ranges, as many as there is room for, and all else; it may be; and what came in reads as it did. Conditions: the card's own alone (the order of the kinds is what the program's text lays). -/
import Derived.Test.YtecoknenkjgmjaaDoorOg
import Derived.Test.YtecoknenkjgmjaaDoorOh
import Derived.Test.YtecoknenkjgmjaaDoorOj
import Derived.Test.YtecoknenkjgmjaaDoorRe
import Derived.Deep.AppendLies
import Derived.Deep.Cut
import Derived.Deep.QuietTactic
import Derived.BigQuiet
import Derived.WalkSmall
import Derived.Test.YtecoknenkjgmjaaDoorFr
import Derived.Test.YtecoknenkjgmjaaDoorTie
import Derived.Test.YtecoknenkjgmjaaDoorCards
import Derived.SevenTiedAt
import Derived.Stop.Joined
namespace Go.Proofs.YtecoknenkjgmjaaDoor.optsFit
open Go.ChangeShapes Go.WideShapes Go.ChangeAt Go.RowKit
open Go.ChangeMaps (open_string)
set_option linter.unusedVariables false

-- WALK
theorem At.keptBy {W x : World} {b : Nat} {vs : Array Value} {row : Option Nat} (h : At W b vs) (hg : W.grownBy x row) (hne : some b ≠ row) : At x b vs :=
  ⟨Nat.lt_of_lt_of_le h.1 hg.size, fun i v hi => ⟨hg.cell (h.2 i v hi).1 hne, (World.frozen?_of_block (a := ⟨b, i, none⟩) (hg.block b h.1 hne)).trans (h.2 i v hi).2⟩⟩
set_option maxRecDepth 100000 in
set_option maxHeartbeats 8000000 in
theorem walk_t (m c t ec : Int) (sd ok sp : Bool) (a : Option Addr) (cap : Nat) (rs : List (Int × Int)) (most : Int) (w : World) (hG : Ord w) (hv : Rgs w (.slice a rs.length cap) rs) (hm : mayO m c t ec sd ok sp rs = true) :
    Calls Tryd.prog 7 #[.agg #[.int .i64 m, .int .i64 c, .int .i64 t, .int .i64 ec, .bool sd, .bool ok, .bool sp, (.slice a rs.length cap)], .int .i64 most] w fun e w' => e = .returned (.bool true) ∧ Below w.heap.size w w' := by
  obtain ⟨i0, hi, hz0, hz1, hz2⟩ := info_parts Tryd.info35
  have HI : Hid (Tryd.prog.info? 35 = some i0 ∧ i0.zero = some (.agg #[.int .i64 0, .int .i64 0]) ∧ i0.size = 2 ∧ i0.bytes = 16) := ⟨hi, hz0, hz1, hz2⟩
  clear hi hz0 hz1 hz2
  have hn4 := mayO_short hm
  have hn4' : (rs.length : Int) ≤ 4 := by omega
  have HN : Hid (rs.length ≤ 17592186044416) := by show _ ≤ _; omega
  have HCO : Hid (∀ W, Rgs W (.slice a rs.length cap) rs → Ord W → Calls Tryd.prog 12 #[.agg #[.int .i64 m, .int .i64 c, .int .i64 t, .int .i64 ec, .bool sd, .bool ok, .bool sp, (.slice a rs.length cap)]] W fun e w' => e = .returned (.int .i64 0) ∧ Below W.heap.size W w') := fun W h1 h2 => by
    have := check_o m c t ec sd ok sp _ rs W h1 HN.out h2
    rw [hm, codeO_t] at this; exact this
  have HFI0 := fun W h1 h2 => fit_t m c t ec sd ok sp (.slice a rs.length cap) rs most W h1 hm h2
  have hKn := fitN_le m sd ok sp most rs.length
  have hroom := fitN_room m sd ok sp most rs.length
  have hmore := fitN_more m sd ok sp most rs.length
  generalize fitN m sd ok sp most rs.length = K at *
  have HFI : Hid (∀ W, Rgs W (.slice a rs.length cap) rs → Ord W → Calls Tryd.prog 17 #[.agg #[.int .i64 m, .int .i64 c, .int .i64 t, .int .i64 ec, .bool sd, .bool ok, .bool sp, (.slice a rs.length cap)], .int .i64 most] W fun en w' => ∃ v', en = .returned (.agg #[.int .i64 m, .int .i64 c, .int .i64 t, .int .i64 ec, .bool sd, .bool ok, .bool sp, v']) ∧ w'.ownsRow W.heap.size 35 2 v' K (flatR (rs.take K)) ∧ Below W.heap.size W w') := HFI0
  have hlK : (rs.take K).length = K := by rw [List.length_take]; omega
  have hmK := may_take hm K
  have hmK1 := may_take hm (K + 1)
  have HCX : Hid (∀ W u, Rgs W u (rs.take K) → Ord W → Calls Tryd.prog 12 #[.agg #[.int .i64 m, .int .i64 c, .int .i64 t, .int .i64 ec, .bool sd, .bool ok, .bool sp, u]] W fun e w' => e = .returned (.int .i64 0) ∧ Below W.heap.size W w') := fun W u h1 h2 => by
    have := check_o m c t ec sd ok sp u (rs.take K) W h1 (by omega) h2
    rw [hmK, codeO_t] at this; exact this
  have HLX : Hid (∀ W u, Rgs W u (rs.take K) → Ord W → Calls Tryd.prog 14 #[.agg #[.int .i64 m, .int .i64 c, .int .i64 t, .int .i64 ec, .bool sd, .bool ok, .bool sp, u]] W fun e w' => e = .returned (.int .i64 (longN m sd ok sp K)) ∧ Below W.heap.size W w') := fun W u h1 h2 => by
    have := long_o m c t ec sd ok sp u (rs.take K) W h1 (by omega) h2
    rw [hmK, if_pos rfl, hlK] at this; exact this
  have HLM : Hid (K < rs.length → ∀ W u, Rgs W u (rs.take (K + 1)) → Ord W → Calls Tryd.prog 14 #[.agg #[.int .i64 m, .int .i64 c, .int .i64 t, .int .i64 ec, .bool sd, .bool ok, .bool sp, u]] W fun e w' => e = .returned (.int .i64 (longN m sd ok sp (K + 1))) ∧ Below W.heap.size W w') := fun hk W u h1 h2 => by
    have hl1 : (rs.take (K + 1)).length = K + 1 := by rw [List.length_take]; omega
    have := long_o m c t ec sd ok sp u (rs.take (K + 1)) W h1 (by omega) h2
    rw [hmK1, if_pos rfl, hl1] at this; exact this
  have HZK : Hid ((rs.take K).length * 16 ≤ 140737488351232) := by show _ ≤ _; omega
  have hlk2 := (longN_le m sd ok sp K).2
  have hlk3 := (longN_le m sd ok sp (K + 1)).2
  generalize longN m sd ok sp K = LK at *
  generalize longN m sd ok sp (K + 1) = LM at *
  have HMORE : Hid (K < rs.length → most < (LM : Int)) := hmore
  have hLK : (LK : Int) ≤ 100 := by omega
  have hLM : (LM : Int) ≤ 100 := by omega
  have hKn' : (K : Int) ≤ (rs.length : Int) := by omega
  have HLKH : Hid ((rs.take K).length = K) := hlK
  clear HFI0 hmK hmK1 hmore hm hlk2 hlk3
  have hA := At.box w #[.int .i64 m, .int .i64 c, .int .i64 t, .int .i64 ec, .bool sd, .bool ok, .bool sp, (.slice a rs.length cap)] 24
  have hl := bel1 w (.cells #[.int .i64 m, .int .i64 c, .int .i64 t, .int .i64 ec, .bool sd, .bool ok, .bool sp, (.slice a rs.length cap)] 24)
  obtain ⟨⟨c0, c1, c2, c3, c4, c5, c6, c7⟩, -, -⟩ := hA.eight
  go_enter Tryd.func7, Tryd.ntmps7
  go_wp2_with fail
  refine (works_any _ (hG.later hl)).mono ?_
  rintro en w0 ⟨rfl, hb⟩
  replace hl := bt hl hb
  replace hA := hA.later hb
  clear hb c0 c1 c2 c3 c4 c5 c6 c7
  obtain ⟨⟨c0, c1, c2, c3, c4, c5, c6, c7⟩, -, -⟩ := hA.eight
  go_wp2_with fail
  refine (HCO.out _ (hv.later hl) (hG.later hl)).mono ?_
  rintro en w2 ⟨rfl, hb⟩
  replace hl := bt hl hb
  replace hA := hA.later hb
  clear hb c0 c1 c2 c3 c4 c5 c6 c7
  obtain ⟨⟨c0, c1, c2, c3, c4, c5, c6, c7⟩, -, -⟩ := hA.eight
  go_wp2_with fail
  refine (HFI.out _ (hv.later hl) (hG.later hl)).mono ?_
  rintro en w3 ⟨v3, rfl, ho3, hb⟩
  obtain ⟨a3, cap3, hvv, -, -⟩ := own_slice ho3
  subst hvv
  have hbx := bel1 w3 (.cells #[.int .i64 m, .int .i64 c, .int .i64 t, .int .i64 ec, .bool sd, .bool ok, .bool sp, (.slice a3 K cap3)] 24)
  have hX := At.box w3 #[.int .i64 m, .int .i64 c, .int .i64 t, .int .i64 ec, .bool sd, .bool ok, .bool sp, (.slice a3 K cap3)] 24
  have hrX : Rgs (w3.alloc (.cells #[.int .i64 m, .int .i64 c, .int .i64 t, .int .i64 ec, .bool sd, .bool ok, .bool sp, (.slice a3 K cap3)] 24)) (.slice a3 K cap3) (rs.take K) := (Rgs.of_own (base := w2.heap.size) (by rw [hlK]; exact ho3)).later hbx
  replace hl := bt (bt hl hb) hbx
  replace hA := hA.later (bt hb hbx)
  clear hb hbx ho3 c0 c1 c2 c3 c4 c5 c6 c7
  obtain ⟨⟨c0, c1, c2, c3, c4, c5, c6, c7⟩, -, -⟩ := hA.eight
  obtain ⟨⟨d0, d1, d2, d3, d4, d5, d6, d7⟩, -, -⟩ := hX.eight
  go_wp2_with fail
  refine (HCX.out _ _ hrX (hG.later hl)).mono ?_
  rintro en w5 ⟨rfl, hb⟩
  replace hl := bt hl hb
  replace hA := hA.later hb
  replace hX := hX.later hb
  replace hrX := hrX.later hb
  clear hb c0 c1 c2 c3 c4 c5 c6 c7 d0 d1 d2 d3 d4 d5 d6 d7
  obtain ⟨⟨c0, c1, c2, c3, c4, c5, c6, c7⟩, -, -⟩ := hA.eight
  obtain ⟨⟨d0, d1, d2, d3, d4, d5, d6, d7⟩, -, -⟩ := hX.eight
  go_wp2_with fail
  refine (HLX.out _ _ hrX (hG.later hl)).mono ?_
  rintro en w6 ⟨rfl, hb⟩
  replace hl := bt hl hb
  replace hA := hA.later hb
  replace hX := hX.later hb
  replace hrX := hrX.later hb
  clear hb c0 c1 c2 c3 c4 c5 c6 c7 d0 d1 d2 d3 d4 d5 d6 d7
  obtain ⟨⟨c0, c1, c2, c3, c4, c5, c6, c7⟩, -, -⟩ := hA.eight
  obtain ⟨⟨d0, d1, d2, d3, d4, d5, d6, d7⟩, -, -⟩ := hX.eight
  have HL6 : Hid (Below w.heap.size w w6) := hl
  have HAO : Hid (At w6 w.heap.size #[.int .i64 m, .int .i64 c, .int .i64 t, .int .i64 ec, .bool sd, .bool ok, .bool sp, (.slice a rs.length cap)]) := hA
  have HAX : Hid (At w6 w3.heap.size #[.int .i64 m, .int .i64 c, .int .i64 t, .int .i64 ec, .bool sd, .bool ok, .bool sp, (.slice a3 K cap3)]) := hX
  have HRX : Hid (Rgs w6 (.slice a3 K cap3) (rs.take K)) := hrX
  have HRO : Hid (Rgs w6 (.slice a rs.length cap) rs) := hv.later hl
  have HG6 : Hid (Ord w6) := hG.later hl
  clear hl hA hX hrX hv hG
  have hway : (LK : Int) ≤ most ∨ (¬ (LK : Int) ≤ most ∧ ¬ (0 : Int) < (K : Int)) := by
    by_cases h : (LK : Int) ≤ most
    · exact .inl h
    · refine .inr ⟨h, ?_⟩
      rcases hroom with h0 | h0
      · omega
      · exact absurd h0 h
  clear hroom hlK
  rcases hway with hlm | ⟨hlm, hK0⟩
  · skip
    go_wp2
    clear c0 c1 c2 c3 c4 c5 c6 c7 d0 d1 d2 d3 d4 d5 d6 d7
    have hlK := HLKH.out
    go_loopw [50] (fun i W => ∃ k : Nat, k ≤ K ∧ i = .int .i64 k ∧ Below w6.heap.size w6 W) (fun i _ => K - (intOf i).toNat)
    case atStart => exact ⟨0, Nat.zero_le _, rfl, Below.refl _ _⟩
    case round =>
      obtain ⟨k, hk, rfl, hbl⟩ := hrel
      by_cases hlt : k < K
      · obtain ⟨r, hr⟩ : ∃ r, rs[k]? = some r := ⟨rs[k]'(by omega), List.getElem?_eq_getElem (by omega)⟩
        have hrK : (rs.take K)[k]? = some r := by rw [List.getElem?_take, if_pos hlt]; exact hr
        obtain ⟨b, off, hax, y1, y2⟩ : ∃ b off, a = some ⟨b, off, none⟩ ∧ w6.cell? ⟨b, off + k * 2, none⟩ = some (.int .i64 r.1) ∧ w6.cell? ⟨b, off + k * 2 + 1, none⟩ = some (.int .i64 r.2) := by
          obtain ⟨a', cap', e, -, h⟩ := HRO.out
          simp only [Value.slice.injEq] at e
          obtain ⟨rfl, -, -⟩ := e
          rcases h with h | ⟨b, off, h, hx⟩
          · rw [h] at hr; simp at hr
          · exact ⟨b, off, h, hx k r hr⟩
        obtain ⟨b3, off3, hax3, x1, x2⟩ : ∃ b off, a3 = some ⟨b, off, none⟩ ∧ w6.cell? ⟨b, off + k * 2, none⟩ = some (.int .i64 r.1) ∧ w6.cell? ⟨b, off + k * 2 + 1, none⟩ = some (.int .i64 r.2) := by
          obtain ⟨a', cap', e, -, h⟩ := HRX.out
          simp only [Value.slice.injEq] at e
          obtain ⟨rfl, -, -⟩ := e
          rcases h with h | ⟨b, off, h, hx⟩
          · rw [h] at hrK; simp at hrK
          · exact ⟨b, off, h, hx k r hrK⟩
        subst hax hax3
        obtain ⟨X, Y⟩ := r
        simp only at x1 x2 y1 y2
        replace x1 := later hbl x1
        replace x2 := later hbl x2
        replace y1 := later hbl y1
        replace y2 := later hbl y2
        have hltb := World.block_lt_of_cell? _ _ y1
        simp only at hltb
        have hltH := (HAO.out.later hbl).1
        have hltb3 := World.block_lt_of_cell? _ _ x1
        simp only at hltb3
        have hltX := (HAX.out.later hbl).1
        obtain ⟨⟨c0, c1, c2, c3, c4, c5, c6, c7⟩, -, -⟩ := (HAO.out.later hbl).eight
        obtain ⟨⟨d0, d1, d2, d3, d4, d5, d6, d7⟩, -, -⟩ := (HAX.out.later hbl).eight
        have l0 : (0 : Int) ≤ (k : Int) := by omega
        have l1 : (k : Int) < (K : Int) := by omega
        have l2 : (k : Int) < (rs.length : Int) := by omega
        have hbl1 := bt hbl (bel1 wr (.cells #[.int .i64 X, .int .i64 Y] 35))
        clear hr hrK
        go_wp2
        go_quiet (fail)
        have hbl2 := below_drewN hbl1 nq
        go_wp2
        go_roundw
        case rel => exact ⟨k + 1, by omega, by go_num, hbl2⟩
        case measure => simp [intOf]; omega
      · have hkK : k = K := by omega
        subst hkK
        obtain ⟨⟨d0, d1, d2, d3, d4, d5, d6, d7⟩, -, -⟩ := (HAX.out.later hbl).eight
        go_wp2_with fail
        refine (copied_any _ _ _ _ _ _ _ _ (rs.take k) _ (HRX.out.later hbl) HZK.out).mono ?_
        rintro en w7 ⟨v7, rfl, ho7, hb7⟩
        rw [hlK] at ho7
        obtain ⟨a7, cap7, hvv7, -, -⟩ := own_slice ho7
        subst hvv7
        clear d0 d1 d2 d3 d4 d5 d6 d7
        have hb8 := bt hbl hb7
        have hltH := (HAO.out.later hb8).1
        have hltX := (HAX.out.later hb8).1
        obtain ⟨⟨c0, c1, c2, c3, c4, c5, c6, c7⟩, -, -⟩ := (HAO.out.later hb8).eight
        obtain ⟨⟨d0, d1, d2, d3, d4, d5, d6, d7⟩, -, -⟩ := (HAX.out.later hb8).eight
        have HOWN7 : Hid (w7.ownsRow wr.heap.size 35 2 (.slice a7 k cap7) k (flatR (rs.take k))) := ho7
        have HOWN8 : Hid ((w7.alloc (.cells #[.int .i64 m, .int .i64 c, .int .i64 t, .int .i64 ec, .bool sd, .bool ok, .bool sp, (.slice a7 k cap7)] 24)).ownsRow wr.heap.size 35 2 (.slice a7 k cap7) k (flatR (rs.take k))) := ho7.alloc _
        have HW8 : Hid (Below wr.heap.size wr (w7.alloc (.cells #[.int .i64 m, .int .i64 c, .int .i64 t, .int .i64 ec, .bool sd, .bool ok, .bool sp, (.slice a7 k cap7)] 24)) ∧ wr.heap.size ≤ w7.heap.size ∧ (w7.alloc (.cells #[.int .i64 m, .int .i64 c, .int .i64 t, .int .i64 ec, .bool sd, .bool ok, .bool sp, (.slice a7 k cap7)] 24)).heap.size = w7.heap.size + 1) := ⟨bt hb7 (bel1 _ _), hb7.size, by simp⟩
        have HAMZ : Hid (At (w7.alloc (.cells #[.int .i64 m, .int .i64 c, .int .i64 t, .int .i64 ec, .bool sd, .bool ok, .bool sp, (.slice a7 k cap7)] 24)) w7.heap.size #[.int .i64 m, .int .i64 c, .int .i64 t, .int .i64 ec, .bool sd, .bool ok, .bool sp, (.slice a7 k cap7)]) := At.box w7 #[.int .i64 m, .int .i64 c, .int .i64 t, .int .i64 ec, .bool sd, .bool ok, .bool sp, (.slice a7 k cap7)] 24
        replace hb8 : Below w6.heap.size w6 (w7.alloc (.cells #[.int .i64 m, .int .i64 c, .int .i64 t, .int .i64 ec, .bool sd, .bool ok, .bool sp, (.slice a7 k cap7)] 24)) := bt hb8 (bel1 w7 (.cells #[.int .i64 m, .int .i64 c, .int .i64 t, .int .i64 ec, .bool sd, .bool ok, .bool sp, (.slice a7 k cap7)] 24))
        clear ho7 hb7
        go_upto_region 15 with fail
        clear c0 c1 c2 c3 c4 c5 c6 c7 d0 d1 d2 d3 d4 d5 d6 d7 hltH hltX
        obtain ⟨⟨c0, c1, c2, c3, c4, c5, c6, c7⟩, -, -⟩ := (HAO.out.later hb8).eight
        obtain ⟨⟨d0, d1, d2, d3, d4, d5, d6, d7⟩, -, -⟩ := (HAX.out.later hb8).eight
        go_cut [71] from 10 (fun s W => s = .bool (decide (k < rs.length)) ∧ W = (w7.alloc (.cells #[.int .i64 m, .int .i64 c, .int .i64 t, .int .i64 ec, .bool sd, .bool ok, .bool sp, (.slice a7 k cap7)] 24)))
        case first =>
          clear HOWN7 HOWN8 HW8 HAMZ HLX HLM HMORE HI HCX HFI HCO
          go_wp2
          go_meet
          case rel => exact ⟨rfl, rfl⟩
        case rest =>
        clear c0 c1 c2 c3 c4 c5 c6 c7 d0 d1 d2 d3 d4 d5 d6 d7
        obtain ⟨rfl, rfl⟩ := hcut
        go_upto_if 71 with fail
        go_cut [1] from 10 (fun s W => s = .int .i64 most ∧ Below w6.heap.size w6 W)
        case first =>
          clear HLX HCX HFI HCO
          by_cases hKlt : k < rs.length
          · rw [decide_eq_true hKlt]
            obtain ⟨r, hr⟩ : ∃ r, rs[k]? = some r := ⟨rs[k], List.getElem?_eq_getElem hKlt⟩
            have HTK : Hid (rs.take (k + 1) = rs.take k ++ [r]) := takeL_snoc rs k r hr
            obtain ⟨b, off, hax, y1, y2⟩ : ∃ b off, a = some ⟨b, off, none⟩ ∧ w6.cell? ⟨b, off + k * 2, none⟩ = some (.int .i64 r.1) ∧ w6.cell? ⟨b, off + k * 2 + 1, none⟩ = some (.int .i64 r.2) := by
              obtain ⟨a', cap', e, -, h⟩ := HRO.out
              simp only [Value.slice.injEq] at e
              obtain ⟨rfl, -, -⟩ := e
              rcases h with h | ⟨b, off, h, hx⟩
              · rw [h] at hr; simp at hr
              · exact ⟨b, off, h, hx k r hr⟩
            subst hax
            obtain ⟨X, Y⟩ := r
            simp only at y1 y2
            have HYQ : Hid ((w7.alloc (.cells #[.int .i64 m, .int .i64 c, .int .i64 t, .int .i64 ec, .bool sd, .bool ok, .bool sp, (.slice a7 k cap7)] 24)).cell? ⟨b, off + k * 2, none⟩ = some (.int .i64 X) ∧ (w7.alloc (.cells #[.int .i64 m, .int .i64 c, .int .i64 t, .int .i64 ec, .bool sd, .bool ok, .bool sp, (.slice a7 k cap7)] 24)).cell? ⟨b, off + k * 2 + 1, none⟩ = some (.int .i64 Y)) := ⟨later hb8 y1, later hb8 y2⟩
            have HAO8 : Hid (At (w7.alloc (.cells #[.int .i64 m, .int .i64 c, .int .i64 t, .int .i64 ec, .bool sd, .bool ok, .bool sp, (.slice a7 k cap7)] 24)) w.heap.size #[.int .i64 m, .int .i64 c, .int .i64 t, .int .i64 ec, .bool sd, .bool ok, .bool sp, (.slice (some ⟨b, off, none⟩) rs.length cap)]) := HAO.out.later hb8
            have HAX8 : Hid (At (w7.alloc (.cells #[.int .i64 m, .int .i64 c, .int .i64 t, .int .i64 ec, .bool sd, .bool ok, .bool sp, (.slice a7 k cap7)] 24)) w3.heap.size #[.int .i64 m, .int .i64 c, .int .i64 t, .int .i64 ec, .bool sd, .bool ok, .bool sp, (.slice a3 k cap3)]) := HAX.out.later hb8
            have HMR : Hid (most < (LM : Int)) := HMORE.out hKlt
            have HLMK : Hid (∀ W u, Rgs W u (rs.take (k + 1)) → Ord W → Calls Tryd.prog 14 #[.agg #[.int .i64 m, .int .i64 c, .int .i64 t, .int .i64 ec, .bool sd, .bool ok, .bool sp, u]] W fun e w' => e = .returned (.int .i64 LM) ∧ Below W.heap.size W w') := HLM.out hKlt
            clear hr y1 y2
            go_wp2
            refine wp_region_any (by kernel_rfl) ?_
            refine region_facts_end (fun W => Below (w7.alloc (.cells #[.int .i64 m, .int .i64 c, .int .i64 t, .int .i64 ec, .bool sd, .bool ok, .bool sp, (.slice a7 k cap7)] 24)).heap.size (w7.alloc (.cells #[.int .i64 m, .int .i64 c, .int .i64 t, .int .i64 ec, .bool sd, .bool ok, .bool sp, (.slice a7 k cap7)] 24)) W) (GE (fun qq => match qq with | 0 => .pointer (some ⟨w7.heap.size, 7, none⟩) | 1 => .slice a7 k cap7 | 2 => .pointer (some ⟨w.heap.size, 7, none⟩) | 3 => .slice (some ⟨b, off, none⟩) rs.length cap | 4 => .pointer (some ⟨w3.heap.size, 7, none⟩) | 5 => .slice a3 k cap3 | 6 => .int .i64 (k : Int) | 7 => .pointer (some ⟨b, off + k * 2, none⟩) | 8 => .agg #[.int .i64 X, .int .i64 Y] | _ => undef) (fun i => match i with | 9 => some (fun v W => ∃ g, v = .slice (some ⟨g, 0, none⟩) 1 1 ∧ g < W.heap.size ∧ W.cell? ⟨g, 0, none⟩ = some (.int .i64 X) ∧ W.cell? ⟨g, 1, none⟩ = some (.int .i64 Y)) | _ => none)) (n := 96) 10 8 (by kernel_rfl) (by kernel_rfl) rfl (by kernel_rfl) (GE_later _ _ (by
              intro i F hF v w w' h hb
              match i, hF with
              | 9, hF =>
                obtain rfl := Option.some.inj hF
                obtain ⟨g, hg, h1, h2, h3⟩ := h
                exact ⟨g, hg, Nat.lt_of_lt_of_le h1 hb.size, later hb h2, later hb h3⟩)) ?_ ?_ ((Below.refl _ _).drew) (Nat.le_refl _)
            · clear HMR HLMK HTK HOWN7 HOWN8 HW8 HRO HG6 HI HRX HZK HL6 HN HAO HAX HLM HMORE HLKH hb8
              refine ⟨?_, ?_, ?_, ?_, ?_, ?_, ?_, ?_, ?_, ?_, trivial⟩
              · intro ac w1 hS hT hB hD K hK
                rw [if_pos (by rfl)]
                have d8 : ac.tmps.getD 8 undef = .pointer (some ⟨w7.heap.size, 0, none⟩) := hB 8 (by kernel_rfl)
                clear hB hD hT
                go_simp
                exact hK _ _ hS (Below.refl _ _) rfl
              · intro ac w1 hS hT hB hD K hK
                rw [if_pos (by rfl)]
                have d72 : ac.tmps.getD 72 undef = .pointer (some ⟨w7.heap.size, 7, none⟩) := hD ⟨0, .data⟩ (by simp) rfl _ 72 rfl rfl
                clear hB hD hT
                have hc := (HAMZ.out.later hS).eight.1
                go_simp
                exact hK _ _ hS (Below.refl _ _) rfl
              · intro ac w1 hS hT hB hD K hK
                rw [if_pos (by rfl)]
                have d2 : ac.tmps.getD 2 undef = .pointer (some ⟨w.heap.size, 0, none⟩) := hB 2 (by kernel_rfl)
                clear hB hD hT
                go_simp
                exact hK _ _ hS (Below.refl _ _) rfl
              · intro ac w1 hS hT hB hD K hK
                rw [if_pos (by rfl)]
                have d74 : ac.tmps.getD 74 undef = .pointer (some ⟨w.heap.size, 7, none⟩) := hD ⟨2, .data⟩ (by simp) rfl _ 74 rfl rfl
                clear hB hD hT
                have hc := (HAO8.out.later hS).eight.1
                go_simp
                exact hK _ _ hS (Below.refl _ _) rfl
              · intro ac w1 hS hT hB hD K hK
                rw [if_pos (by rfl)]
                have d5 : ac.tmps.getD 5 undef = .pointer (some ⟨w3.heap.size, 0, none⟩) := hB 5 (by kernel_rfl)
                clear hB hD hT
                go_simp
                exact hK _ _ hS (Below.refl _ _) rfl
              · intro ac w1 hS hT hB hD K hK
                rw [if_pos (by rfl)]
                have d76 : ac.tmps.getD 76 undef = .pointer (some ⟨w3.heap.size, 7, none⟩) := hD ⟨4, .data⟩ (by simp) rfl _ 76 rfl rfl
                clear hB hD hT
                have hc := (HAX8.out.later hS).eight.1
                go_simp
                exact hK _ _ hS (Below.refl _ _) rfl
              · intro ac w1 hS hT hB hD K hK
                rw [if_pos (by rfl)]
                have d77 : ac.tmps.getD 77 undef = .slice a3 k cap3 := hD ⟨5, .data⟩ (by simp) rfl _ 77 rfl rfl
                clear hB hD hT
                go_simp
                exact hK _ _ hS (Below.refl _ _) rfl
              · intro ac w1 hS hT hB hD K hK
                rw [if_pos (by rfl)]
                have d75 : ac.tmps.getD 75 undef = .slice (some ⟨b, off, none⟩) rs.length cap := hD ⟨3, .data⟩ (by simp) rfl _ 75 rfl rfl
                have d78 : ac.tmps.getD 78 undef = .int .i64 (k : Int) := hD ⟨6, .data⟩ (by simp) rfl _ 78 rfl rfl
                clear hB hD hT
                have l0 : (0 : Int) ≤ (k : Int) := by omega
                have l1 : (k : Int) < (rs.length : Int) := by omega
                go_simp
                exact hK _ _ hS (Below.refl _ _) rfl
              · intro ac w1 hS hT hB hD K hK
                rw [if_pos (by rfl)]
                have d79 : ac.tmps.getD 79 undef = .pointer (some ⟨b, off + k * 2, none⟩) := hD ⟨7, .data⟩ (by simp) rfl _ 79 rfl rfl
                clear hB hD hT
                have y1 := later hS HYQ.out.1
                have y2 := later hS HYQ.out.2
                go_simp
                exact hK _ _ hS (Below.refl _ _) rfl
              · intro ac w1 hS hT hB hD K hK
                rw [if_pos (by rfl)]
                have d80 : ac.tmps.getD 80 undef = .agg #[.int .i64 X, .int .i64 Y] := hD ⟨8, .data⟩ (by simp) rfl _ 80 rfl rfl
                clear hB hD hT
                exact wp_bslice1 22 35 (.tmp 80) _ _ rfl d80 (bs35 X Y _) (hK _ _ (bt hS (bel1 _ _)) (bel1 _ _) ⟨_, rfl, by simp, ((At.box w1 #[.int .i64 X, .int .i64 Y] 35).2 0 _ rfl).1, ((At.box w1 #[.int .i64 X, .int .i64 Y] 35).2 1 _ rfl).1⟩)
            · clear HYQ HAO8 HAX8
              intro ac w1 hS hT hdf hB hF
              have hfr : ac.tmps = #[.agg #[.int .i64 m, .int .i64 c, .int .i64 t, .int .i64 ec, .bool sd, .bool ok, .bool sp, (.slice (some ⟨b, off, none⟩) rs.length cap)], .int .i64 most, .pointer (some ⟨w.heap.size, 0, none⟩), undef, u4, .pointer (some ⟨w3.heap.size, 0, none⟩), u6, u7, .pointer (some ⟨w7.heap.size, 0, none⟩), undef, u10, u11, u12, u13, u14, u15, u16, u17, u18, u19, u20, u21, u22, u23, u24, u25, u26, u27, u28, u29, u30, u31, u32, u33, u34, u35, u36, u37, u38, u39, u40, u41, u42, u43, u44, u45, u46, u47, u48, u49, u50, u51, u52, u53, u54, u55, u56, u57, u58, u59, u60, u61, u62, u63, u64, u65, u66, u67, u68, u69, u70, .bool true, (ac.tmps.getD 72 undef), (ac.tmps.getD 73 undef), (ac.tmps.getD 74 undef), (ac.tmps.getD 75 undef), (ac.tmps.getD 76 undef), (ac.tmps.getD 77 undef), (ac.tmps.getD 78 undef), (ac.tmps.getD 79 undef), (ac.tmps.getD 80 undef), (ac.tmps.getD 81 undef), (ac.tmps.getD 82 undef), (ac.tmps.getD 83 undef), u84, u85, u86, u87, u88, u89, u90, u91, u92, u93, u94, u95] := (frame_eq hT rfl hB).trans (by kernel_rfl)
              obtain ⟨T, df⟩ := ac
              have s73 : T.getD 73 undef = .slice a7 k cap7 := hF 1 _ 73 (by decide) rfl rfl
              obtain ⟨g9, s81, hg9, e9, e9'⟩ : ∃ g, T.getD 81 undef = .slice (some ⟨g, 0, none⟩) 1 1 ∧ g < w1.heap.size ∧ w1.cell? ⟨g, 0, none⟩ = some (.int .i64 X) ∧ w1.cell? ⟨g, 1, none⟩ = some (.int .i64 Y) := hF 9 _ 81 (by decide) rfl rfl
              have sdf : df = [] := hdf
              simp only at hfr
              clear hB hF hT hdf
              generalize T.getD 72 undef = t72 at *
              generalize T.getD 73 undef = t73 at *
              generalize T.getD 74 undef = t74 at *
              generalize T.getD 75 undef = t75 at *
              generalize T.getD 76 undef = t76 at *
              generalize T.getD 77 undef = t77 at *
              generalize T.getD 78 undef = t78 at *
              generalize T.getD 79 undef = t79 at *
              generalize T.getD 80 undef = t80 at *
              generalize T.getD 81 undef = t81 at *
              generalize T.getD 82 undef = t82 at *
              generalize T.getD 83 undef = t83 at *
              subst hfr s73 s81 sdf
              have hsz1 : w7.heap.size + 1 ≤ w1.heap.size := by have := hS.size; rw [HW8.out.2.2] at this; exact this
              have hown1 := own_later HOWN8.out hS
              have hbw1 := bt HW8.out.1 hS
              intro Kc hKc
              rw [if_pos (by rfl)]
              refine wp_append_lies w1 (.tmp 73) (.tmp 81) 22 (by rfl) wr.heap.size 35 i0 (.agg #[.int .i64 0, .int .i64 0]) 2 16 Tryd.underlying22 HI.out.1 HI.out.2.1 HI.out.2.2.1 HI.out.2.2.2 rfl (by decide) (.slice a7 k cap7) k (flatR (rs.take k)) (by rfl) hown1 ⟨g9, 0, none⟩ 1 1 [.int .i64 X, .int .i64 Y] (by rfl) rfl (two_news e9 e9') (by simp [Value.oneCell']) (by decide) (by unfold maxLen; omega) (by omega) hbw1.size w1.heap.size rfl ?_
              intro g cap9 w9 hown9 hgrow9 hg hlt9
              have hrow : ∀ q, (Value.slice a7 k cap7).ownBlock = some q → q < w7.heap.size := fun q e => (HOWN7.out.lt q e).2
              have hgm : g ≠ w7.heap.size := by
                rcases hg with h | h
                · have := hrow g h; omega
                · omega
              have hM9 := At.keptBy (HAMZ.out.later hS) hgrow9 (fun e => by have := hrow _ e.symm; omega)
              have hb9 : Below wr.heap.size wr w9 := hbw1.grown hgrow9 hbw1.size (fun q e => (hown1.lt q e).1)
              replace hown9 : w9.ownsRow wr.heap.size 35 2 (.slice (some ⟨g, 0, none⟩) (k + 1) cap9) (k + 1) (flatR (rs.take (k + 1))) := by rw [HTK.out, flatR_snoc]; exact hown9
              have hMs := hM9.set 7 (.slice (some ⟨g, 0, none⟩) (k + 1) cap9)
              have hbs : Below wr.heap.size wr (w9.setCell ⟨w7.heap.size, 7, none⟩ (.slice (some ⟨g, 0, none⟩) (k + 1) cap9)) := hb9.setCell HW8.out.2.1 _
              have hRs : Rgs (w9.setCell ⟨w7.heap.size, 7, none⟩ (.slice (some ⟨g, 0, none⟩) (k + 1) cap9)) (.slice (some ⟨g, 0, none⟩) (k + 1) cap9) (rs.take (k + 1)) := by
                refine Rgs.of_own (base := wr.heap.size) ?_
                rw [show (rs.take (k + 1)).length = k + 1 by rw [List.length_take]; omega]
                exact hown9.kept (grownBy_setCell _ _ _) (.inr (by simp [Value.ownBlock]; exact hgm))
              obtain ⟨⟨y0, y1, y2, y3, y4, y5, y6, y7⟩, ⟨z0, z1, z2, z3, z4, z5, z6, z7⟩, -⟩ := hM9.eight
              clear hgrow9 hown9 hg hrow e9 e9' hg9 hown1 hbw1 hsz1 hS hlt9 hb9
              apply hKc
              clear hKc Kc
              intro Kc hKc
              rw [if_pos (by rfl)]
              go_simp
              apply hKc
              clear hKc Kc
              intro Kc hKc
              rw [if_pos (by rfl)]
              go_simp
              apply hKc
              clear hKc Kc
              refine TailOk_nil ?_
              generalize w9.setCell ⟨w7.heap.size, 7, none⟩ (.slice (some ⟨g, 0, none⟩) (k + 1) cap9) = w10 at *
              clear y0 y1 y2 y3 y4 y5 y6 y7 z0 z1 z2 z3 z4 z5 z6 z7 hM9
              obtain ⟨⟨y0, y1, y2, y3, y4, y5, y6, y7⟩, -, -⟩ := hMs.eight
              go_wp2_with fail
              refine (HLMK.out _ _ hRs (HG6.out.later (bt hbl hbs))).mono ?_
              rintro en w11 ⟨rfl, hb11⟩
              have hmr := HMR.out
              go_wp2
              go_meet
              case rel => exact ⟨rfl, bt (bt hbl hbs) hb11⟩
          · rw [decide_eq_false hKlt]
            clear HOWN7 HOWN8 HW8 HAMZ HLM HMORE HI
            go_wp2
            go_meet
            case rel => exact ⟨rfl, hb8⟩
        case rest =>
        clear HOWN7 HOWN8 HW8 HAMZ HLM HMORE HI hb8
        obtain ⟨rfl, hbw⟩ := hcut
        obtain ⟨⟨c0, c1, c2, c3, c4, c5, c6, c7⟩, -, -⟩ := (HAO.out.later hbw).eight
        obtain ⟨⟨d0, d1, d2, d3, d4, d5, d6, d7⟩, -, -⟩ := (HAX.out.later hbw).eight
        have hltH2 := (HAO.out.later hbw).1
        have hltX2 := (HAX.out.later hbw).1
        go_wp2_with fail
        refine (copied_any _ _ _ _ _ _ _ _ (rs.take k) _ (HRX.out.later hbw) HZK.out).mono ?_
        rintro en w9 ⟨v9, rfl, ho9, hb9⟩
        obtain ⟨a9, cap9, hvv9, -, -⟩ := own_slice ho9
        rw [hlK] at hvv9
        subst hvv9
        have hbz := bt hbw hb9
        have hltH := (HAO.out.later hbz).1
        obtain ⟨⟨p0, p1, p2, p3, p4, p5, p6, p7⟩, -, -⟩ := (HAO.out.later hbz).eight
        have hbq := bt hbz (bel1 w9 (.cells #[.int .i64 m, .int .i64 c, .int .i64 t, .int .i64 ec, .bool sd, .bool ok, .bool sp, (.slice a rs.length cap)] 24))
        have hsm := same_any m c t ec sd ok sp (.slice a rs.length cap) rs m c t ec sd ok sp (.slice a rs.length cap) rs _ (HRO.out.later hbq) (HRO.out.later hbq) HN.out HN.out
        rw [sameO_self] at hsm
        have HSM : Hid (Calls Tryd.prog 22 #[.agg #[.int .i64 m, .int .i64 c, .int .i64 t, .int .i64 ec, .bool sd, .bool ok, .bool sp, (.slice a rs.length cap)], .agg #[.int .i64 m, .int .i64 c, .int .i64 t, .int .i64 ec, .bool sd, .bool ok, .bool sp, (.slice a rs.length cap)]] (w9.alloc (.cells #[.int .i64 m, .int .i64 c, .int .i64 t, .int .i64 ec, .bool sd, .bool ok, .bool sp, (.slice a rs.length cap)] 24)) fun e w' => e = .returned (.bool true) ∧ Below (w9.alloc (.cells #[.int .i64 m, .int .i64 c, .int .i64 t, .int .i64 ec, .bool sd, .bool ok, .bool sp, (.slice a rs.length cap)] 24)).heap.size (w9.alloc (.cells #[.int .i64 m, .int .i64 c, .int .i64 t, .int .i64 ec, .bool sd, .bool ok, .bool sp, (.slice a rs.length cap)] 24)) w') := hsm
        clear hsm ho9
        go_wp2_with fail
        refine HSM.out.mono ?_
        rintro en wf ⟨rfl, hbf⟩
        go_wp2
        go_ret
        exact ⟨rfl, bt HL6.out (bt hbq hbf)⟩
  · skip
    go_wp2
    clear c0 c1 c2 c3 c4 c5 c6 c7 d0 d1 d2 d3 d4 d5 d6 d7
    have hlK := HLKH.out
    go_loopw [50] (fun i W => ∃ k : Nat, k ≤ K ∧ i = .int .i64 k ∧ Below w6.heap.size w6 W) (fun i _ => K - (intOf i).toNat)
    case atStart => exact ⟨0, Nat.zero_le _, rfl, Below.refl _ _⟩
    case round =>
      obtain ⟨k, hk, rfl, hbl⟩ := hrel
      by_cases hlt : k < K
      · exfalso; omega
      · have hkK : k = K := by omega
        subst hkK
        obtain ⟨⟨d0, d1, d2, d3, d4, d5, d6, d7⟩, -, -⟩ := (HAX.out.later hbl).eight
        go_wp2_with fail
        refine (copied_any _ _ _ _ _ _ _ _ (rs.take k) _ (HRX.out.later hbl) HZK.out).mono ?_
        rintro en w7 ⟨v7, rfl, ho7, hb7⟩
        rw [hlK] at ho7
        obtain ⟨a7, cap7, hvv7, -, -⟩ := own_slice ho7
        subst hvv7
        clear d0 d1 d2 d3 d4 d5 d6 d7
        have hb8 := bt hbl hb7
        have hltH := (HAO.out.later hb8).1
        have hltX := (HAX.out.later hb8).1
        obtain ⟨⟨c0, c1, c2, c3, c4, c5, c6, c7⟩, -, -⟩ := (HAO.out.later hb8).eight
        obtain ⟨⟨d0, d1, d2, d3, d4, d5, d6, d7⟩, -, -⟩ := (HAX.out.later hb8).eight
        have HOWN7 : Hid (w7.ownsRow wr.heap.size 35 2 (.slice a7 k cap7) k (flatR (rs.take k))) := ho7
        have HOWN8 : Hid ((w7.alloc (.cells #[.int .i64 m, .int .i64 c, .int .i64 t, .int .i64 ec, .bool sd, .bool ok, .bool sp, (.slice a7 k cap7)] 24)).ownsRow wr.heap.size 35 2 (.slice a7 k cap7) k (flatR (rs.take k))) := ho7.alloc _
        have HW8 : Hid (Below wr.heap.size wr (w7.alloc (.cells #[.int .i64 m, .int .i64 c, .int .i64 t, .int .i64 ec, .bool sd, .bool ok, .bool sp, (.slice a7 k cap7)] 24)) ∧ wr.heap.size ≤ w7.heap.size ∧ (w7.alloc (.cells #[.int .i64 m, .int .i64 c, .int .i64 t, .int .i64 ec, .bool sd, .bool ok, .bool sp, (.slice a7 k cap7)] 24)).heap.size = w7.heap.size + 1) := ⟨bt hb7 (bel1 _ _), hb7.size, by simp⟩
        have HAMZ : Hid (At (w7.alloc (.cells #[.int .i64 m, .int .i64 c, .int .i64 t, .int .i64 ec, .bool sd, .bool ok, .bool sp, (.slice a7 k cap7)] 24)) w7.heap.size #[.int .i64 m, .int .i64 c, .int .i64 t, .int .i64 ec, .bool sd, .bool ok, .bool sp, (.slice a7 k cap7)]) := At.box w7 #[.int .i64 m, .int .i64 c, .int .i64 t, .int .i64 ec, .bool sd, .bool ok, .bool sp, (.slice a7 k cap7)] 24
        replace hb8 : Below w6.heap.size w6 (w7.alloc (.cells #[.int .i64 m, .int .i64 c, .int .i64 t, .int .i64 ec, .bool sd, .bool ok, .bool sp, (.slice a7 k cap7)] 24)) := bt hb8 (bel1 w7 (.cells #[.int .i64 m, .int .i64 c, .int .i64 t, .int .i64 ec, .bool sd, .bool ok, .bool sp, (.slice a7 k cap7)] 24))
        clear ho7 hb7
        go_upto_region 15 with fail
        clear c0 c1 c2 c3 c4 c5 c6 c7 d0 d1 d2 d3 d4 d5 d6 d7 hltH hltX
        obtain ⟨⟨c0, c1, c2, c3, c4, c5, c6, c7⟩, -, -⟩ := (HAO.out.later hb8).eight
        obtain ⟨⟨d0, d1, d2, d3, d4, d5, d6, d7⟩, -, -⟩ := (HAX.out.later hb8).eight
        go_cut [71] from 10 (fun s W => s = .bool (decide (k < rs.length)) ∧ W = (w7.alloc (.cells #[.int .i64 m, .int .i64 c, .int .i64 t, .int .i64 ec, .bool sd, .bool ok, .bool sp, (.slice a7 k cap7)] 24)))
        case first =>
          clear HOWN7 HOWN8 HW8 HAMZ HLX HLM HMORE HI HCX HFI HCO
          go_wp2
          go_meet
          case rel => exact ⟨rfl, rfl⟩
        case rest =>
        clear c0 c1 c2 c3 c4 c5 c6 c7 d0 d1 d2 d3 d4 d5 d6 d7
        obtain ⟨rfl, rfl⟩ := hcut
        go_upto_if 71 with fail
        go_cut [1] from 10 (fun s W => s = .int .i64 most ∧ Below w6.heap.size w6 W)
        case first =>
          clear HLX HCX HFI HCO
          by_cases hKlt : k < rs.length
          · rw [decide_eq_true hKlt]
            obtain ⟨r, hr⟩ : ∃ r, rs[k]? = some r := ⟨rs[k], List.getElem?_eq_getElem hKlt⟩
            have HTK : Hid (rs.take (k + 1) = rs.take k ++ [r]) := takeL_snoc rs k r hr
            obtain ⟨b, off, hax, y1, y2⟩ : ∃ b off, a = some ⟨b, off, none⟩ ∧ w6.cell? ⟨b, off + k * 2, none⟩ = some (.int .i64 r.1) ∧ w6.cell? ⟨b, off + k * 2 + 1, none⟩ = some (.int .i64 r.2) := by
              obtain ⟨a', cap', e, -, h⟩ := HRO.out
              simp only [Value.slice.injEq] at e
              obtain ⟨rfl, -, -⟩ := e
              rcases h with h | ⟨b, off, h, hx⟩
              · rw [h] at hr; simp at hr
              · exact ⟨b, off, h, hx k r hr⟩
            subst hax
            obtain ⟨X, Y⟩ := r
            simp only at y1 y2
            have HYQ : Hid ((w7.alloc (.cells #[.int .i64 m, .int .i64 c, .int .i64 t, .int .i64 ec, .bool sd, .bool ok, .bool sp, (.slice a7 k cap7)] 24)).cell? ⟨b, off + k * 2, none⟩ = some (.int .i64 X) ∧ (w7.alloc (.cells #[.int .i64 m, .int .i64 c, .int .i64 t, .int .i64 ec, .bool sd, .bool ok, .bool sp, (.slice a7 k cap7)] 24)).cell? ⟨b, off + k * 2 + 1, none⟩ = some (.int .i64 Y)) := ⟨later hb8 y1, later hb8 y2⟩
            have HAO8 : Hid (At (w7.alloc (.cells #[.int .i64 m, .int .i64 c, .int .i64 t, .int .i64 ec, .bool sd, .bool ok, .bool sp, (.slice a7 k cap7)] 24)) w.heap.size #[.int .i64 m, .int .i64 c, .int .i64 t, .int .i64 ec, .bool sd, .bool ok, .bool sp, (.slice (some ⟨b, off, none⟩) rs.length cap)]) := HAO.out.later hb8
            have HAX8 : Hid (At (w7.alloc (.cells #[.int .i64 m, .int .i64 c, .int .i64 t, .int .i64 ec, .bool sd, .bool ok, .bool sp, (.slice a7 k cap7)] 24)) w3.heap.size #[.int .i64 m, .int .i64 c, .int .i64 t, .int .i64 ec, .bool sd, .bool ok, .bool sp, (.slice a3 k cap3)]) := HAX.out.later hb8
            have HMR : Hid (most < (LM : Int)) := HMORE.out hKlt
            have HLMK : Hid (∀ W u, Rgs W u (rs.take (k + 1)) → Ord W → Calls Tryd.prog 14 #[.agg #[.int .i64 m, .int .i64 c, .int .i64 t, .int .i64 ec, .bool sd, .bool ok, .bool sp, u]] W fun e w' => e = .returned (.int .i64 LM) ∧ Below W.heap.size W w') := HLM.out hKlt
            clear hr y1 y2
            go_wp2
            refine wp_region_any (by kernel_rfl) ?_
            refine region_facts_end (fun W => Below (w7.alloc (.cells #[.int .i64 m, .int .i64 c, .int .i64 t, .int .i64 ec, .bool sd, .bool ok, .bool sp, (.slice a7 k cap7)] 24)).heap.size (w7.alloc (.cells #[.int .i64 m, .int .i64 c, .int .i64 t, .int .i64 ec, .bool sd, .bool ok, .bool sp, (.slice a7 k cap7)] 24)) W) (GE (fun qq => match qq with | 0 => .pointer (some ⟨w7.heap.size, 7, none⟩) | 1 => .slice a7 k cap7 | 2 => .pointer (some ⟨w.heap.size, 7, none⟩) | 3 => .slice (some ⟨b, off, none⟩) rs.length cap | 4 => .pointer (some ⟨w3.heap.size, 7, none⟩) | 5 => .slice a3 k cap3 | 6 => .int .i64 (k : Int) | 7 => .pointer (some ⟨b, off + k * 2, none⟩) | 8 => .agg #[.int .i64 X, .int .i64 Y] | _ => undef) (fun i => match i with | 9 => some (fun v W => ∃ g, v = .slice (some ⟨g, 0, none⟩) 1 1 ∧ g < W.heap.size ∧ W.cell? ⟨g, 0, none⟩ = some (.int .i64 X) ∧ W.cell? ⟨g, 1, none⟩ = some (.int .i64 Y)) | _ => none)) (n := 96) 10 8 (by kernel_rfl) (by kernel_rfl) rfl (by kernel_rfl) (GE_later _ _ (by
              intro i F hF v w w' h hb
              match i, hF with
              | 9, hF =>
                obtain rfl := Option.some.inj hF
                obtain ⟨g, hg, h1, h2, h3⟩ := h
                exact ⟨g, hg, Nat.lt_of_lt_of_le h1 hb.size, later hb h2, later hb h3⟩)) ?_ ?_ ((Below.refl _ _).drew) (Nat.le_refl _)
            · clear HMR HLMK HTK HOWN7 HOWN8 HW8 HRO HG6 HI HRX HZK HL6 HN HAO HAX HLM HMORE HLKH hb8
              refine ⟨?_, ?_, ?_, ?_, ?_, ?_, ?_, ?_, ?_, ?_, trivial⟩
              · intro ac w1 hS hT hB hD K hK
                rw [if_pos (by rfl)]
                have d8 : ac.tmps.getD 8 undef = .pointer (some ⟨w7.heap.size, 0, none⟩) := hB 8 (by kernel_rfl)
                clear hB hD hT
                go_simp
                exact hK _ _ hS (Below.refl _ _) rfl
              · intro ac w1 hS hT hB hD K hK
                rw [if_pos (by rfl)]
                have d72 : ac.tmps.getD 72 undef = .pointer (some ⟨w7.heap.size, 7, none⟩) := hD ⟨0, .data⟩ (by simp) rfl _ 72 rfl rfl
                clear hB hD hT
                have hc := (HAMZ.out.later hS).eight.1
                go_simp
                exact hK _ _ hS (Below.refl _ _) rfl
              · intro ac w1 hS hT hB hD K hK
                rw [if_pos (by rfl)]
                have d2 : ac.tmps.getD 2 undef = .pointer (some ⟨w.heap.size, 0, none⟩) := hB 2 (by kernel_rfl)
                clear hB hD hT
                go_simp
                exact hK _ _ hS (Below.refl _ _) rfl
              · intro ac w1 hS hT hB hD K hK
                rw [if_pos (by rfl)]
                have d74 : ac.tmps.getD 74 undef = .pointer (some ⟨w.heap.size, 7, none⟩) := hD ⟨2, .data⟩ (by simp) rfl _ 74 rfl rfl
                clear hB hD hT
                have hc := (HAO8.out.later hS).eight.1
                go_simp
                exact hK _ _ hS (Below.refl _ _) rfl
              · intro ac w1 hS hT hB hD K hK
                rw [if_pos (by rfl)]
                have d5 : ac.tmps.getD 5 undef = .pointer (some ⟨w3.heap.size, 0, none⟩) := hB 5 (by kernel_rfl)
                clear hB hD hT
                go_simp
                exact hK _ _ hS (Below.refl _ _) rfl
              · intro ac w1 hS hT hB hD K hK
                rw [if_pos (by rfl)]
                have d76 : ac.tmps.getD 76 undef = .pointer (some ⟨w3.heap.size, 7, none⟩) := hD ⟨4, .data⟩ (by simp) rfl _ 76 rfl rfl
                clear hB hD hT
                have hc := (HAX8.out.later hS).eight.1
                go_simp
                exact hK _ _ hS (Below.refl _ _) rfl
              · intro ac w1 hS hT hB hD K hK
                rw [if_pos (by rfl)]
                have d77 : ac.tmps.getD 77 undef = .slice a3 k cap3 := hD ⟨5, .data⟩ (by simp) rfl _ 77 rfl rfl
                clear hB hD hT
                go_simp
                exact hK _ _ hS (Below.refl _ _) rfl
              · intro ac w1 hS hT hB hD K hK
                rw [if_pos (by rfl)]
                have d75 : ac.tmps.getD 75 undef = .slice (some ⟨b, off, none⟩) rs.length cap := hD ⟨3, .data⟩ (by simp) rfl _ 75 rfl rfl
                have d78 : ac.tmps.getD 78 undef = .int .i64 (k : Int) := hD ⟨6, .data⟩ (by simp) rfl _ 78 rfl rfl
                clear hB hD hT
                have l0 : (0 : Int) ≤ (k : Int) := by omega
                have l1 : (k : Int) < (rs.length : Int) := by omega
                go_simp
                exact hK _ _ hS (Below.refl _ _) rfl
              · intro ac w1 hS hT hB hD K hK
                rw [if_pos (by rfl)]
                have d79 : ac.tmps.getD 79 undef = .pointer (some ⟨b, off + k * 2, none⟩) := hD ⟨7, .data⟩ (by simp) rfl _ 79 rfl rfl
                clear hB hD hT
                have y1 := later hS HYQ.out.1
                have y2 := later hS HYQ.out.2
                go_simp
                exact hK _ _ hS (Below.refl _ _) rfl
              · intro ac w1 hS hT hB hD K hK
                rw [if_pos (by rfl)]
                have d80 : ac.tmps.getD 80 undef = .agg #[.int .i64 X, .int .i64 Y] := hD ⟨8, .data⟩ (by simp) rfl _ 80 rfl rfl
                clear hB hD hT
                exact wp_bslice1 22 35 (.tmp 80) _ _ rfl d80 (bs35 X Y _) (hK _ _ (bt hS (bel1 _ _)) (bel1 _ _) ⟨_, rfl, by simp, ((At.box w1 #[.int .i64 X, .int .i64 Y] 35).2 0 _ rfl).1, ((At.box w1 #[.int .i64 X, .int .i64 Y] 35).2 1 _ rfl).1⟩)
            · clear HYQ HAO8 HAX8
              intro ac w1 hS hT hdf hB hF
              have hfr : ac.tmps = #[.agg #[.int .i64 m, .int .i64 c, .int .i64 t, .int .i64 ec, .bool sd, .bool ok, .bool sp, (.slice (some ⟨b, off, none⟩) rs.length cap)], .int .i64 most, .pointer (some ⟨w.heap.size, 0, none⟩), undef, u4, .pointer (some ⟨w3.heap.size, 0, none⟩), u6, u7, .pointer (some ⟨w7.heap.size, 0, none⟩), undef, u10, u11, u12, u13, u14, u15, u16, u17, u18, u19, u20, u21, u22, u23, u24, u25, u26, u27, u28, u29, u30, u31, u32, u33, u34, u35, u36, u37, u38, u39, u40, u41, u42, u43, u44, u45, u46, u47, u48, u49, u50, u51, u52, u53, u54, u55, u56, u57, u58, u59, u60, u61, u62, u63, u64, u65, u66, u67, u68, u69, u70, .bool true, (ac.tmps.getD 72 undef), (ac.tmps.getD 73 undef), (ac.tmps.getD 74 undef), (ac.tmps.getD 75 undef), (ac.tmps.getD 76 undef), (ac.tmps.getD 77 undef), (ac.tmps.getD 78 undef), (ac.tmps.getD 79 undef), (ac.tmps.getD 80 undef), (ac.tmps.getD 81 undef), (ac.tmps.getD 82 undef), (ac.tmps.getD 83 undef), u84, u85, u86, u87, u88, u89, u90, u91, u92, u93, u94, u95] := (frame_eq hT rfl hB).trans (by kernel_rfl)
              obtain ⟨T, df⟩ := ac
              have s73 : T.getD 73 undef = .slice a7 k cap7 := hF 1 _ 73 (by decide) rfl rfl
              obtain ⟨g9, s81, hg9, e9, e9'⟩ : ∃ g, T.getD 81 undef = .slice (some ⟨g, 0, none⟩) 1 1 ∧ g < w1.heap.size ∧ w1.cell? ⟨g, 0, none⟩ = some (.int .i64 X) ∧ w1.cell? ⟨g, 1, none⟩ = some (.int .i64 Y) := hF 9 _ 81 (by decide) rfl rfl
              have sdf : df = [] := hdf
              simp only at hfr
              clear hB hF hT hdf
              generalize T.getD 72 undef = t72 at *
              generalize T.getD 73 undef = t73 at *
              generalize T.getD 74 undef = t74 at *
              generalize T.getD 75 undef = t75 at *
              generalize T.getD 76 undef = t76 at *
              generalize T.getD 77 undef = t77 at *
              generalize T.getD 78 undef = t78 at *
              generalize T.getD 79 undef = t79 at *
              generalize T.getD 80 undef = t80 at *
              generalize T.getD 81 undef = t81 at *
              generalize T.getD 82 undef = t82 at *
              generalize T.getD 83 undef = t83 at *
              subst hfr s73 s81 sdf
              have hsz1 : w7.heap.size + 1 ≤ w1.heap.size := by have := hS.size; rw [HW8.out.2.2] at this; exact this
              have hown1 := own_later HOWN8.out hS
              have hbw1 := bt HW8.out.1 hS
              intro Kc hKc
              rw [if_pos (by rfl)]
              refine wp_append_lies w1 (.tmp 73) (.tmp 81) 22 (by rfl) wr.heap.size 35 i0 (.agg #[.int .i64 0, .int .i64 0]) 2 16 Tryd.underlying22 HI.out.1 HI.out.2.1 HI.out.2.2.1 HI.out.2.2.2 rfl (by decide) (.slice a7 k cap7) k (flatR (rs.take k)) (by rfl) hown1 ⟨g9, 0, none⟩ 1 1 [.int .i64 X, .int .i64 Y] (by rfl) rfl (two_news e9 e9') (by simp [Value.oneCell']) (by decide) (by unfold maxLen; omega) (by omega) hbw1.size w1.heap.size rfl ?_
              intro g cap9 w9 hown9 hgrow9 hg hlt9
              have hrow : ∀ q, (Value.slice a7 k cap7).ownBlock = some q → q < w7.heap.size := fun q e => (HOWN7.out.lt q e).2
              have hgm : g ≠ w7.heap.size := by
                rcases hg with h | h
                · have := hrow g h; omega
                · omega
              have hM9 := At.keptBy (HAMZ.out.later hS) hgrow9 (fun e => by have := hrow _ e.symm; omega)
              have hb9 : Below wr.heap.size wr w9 := hbw1.grown hgrow9 hbw1.size (fun q e => (hown1.lt q e).1)
              replace hown9 : w9.ownsRow wr.heap.size 35 2 (.slice (some ⟨g, 0, none⟩) (k + 1) cap9) (k + 1) (flatR (rs.take (k + 1))) := by rw [HTK.out, flatR_snoc]; exact hown9
              have hMs := hM9.set 7 (.slice (some ⟨g, 0, none⟩) (k + 1) cap9)
              have hbs : Below wr.heap.size wr (w9.setCell ⟨w7.heap.size, 7, none⟩ (.slice (some ⟨g, 0, none⟩) (k + 1) cap9)) := hb9.setCell HW8.out.2.1 _
              have hRs : Rgs (w9.setCell ⟨w7.heap.size, 7, none⟩ (.slice (some ⟨g, 0, none⟩) (k + 1) cap9)) (.slice (some ⟨g, 0, none⟩) (k + 1) cap9) (rs.take (k + 1)) := by
                refine Rgs.of_own (base := wr.heap.size) ?_
                rw [show (rs.take (k + 1)).length = k + 1 by rw [List.length_take]; omega]
                exact hown9.kept (grownBy_setCell _ _ _) (.inr (by simp [Value.ownBlock]; exact hgm))
              obtain ⟨⟨y0, y1, y2, y3, y4, y5, y6, y7⟩, ⟨z0, z1, z2, z3, z4, z5, z6, z7⟩, -⟩ := hM9.eight
              clear hgrow9 hown9 hg hrow e9 e9' hg9 hown1 hbw1 hsz1 hS hlt9 hb9
              apply hKc
              clear hKc Kc
              intro Kc hKc
              rw [if_pos (by rfl)]
              go_simp
              apply hKc
              clear hKc Kc
              intro Kc hKc
              rw [if_pos (by rfl)]
              go_simp
              apply hKc
              clear hKc Kc
              refine TailOk_nil ?_
              generalize w9.setCell ⟨w7.heap.size, 7, none⟩ (.slice (some ⟨g, 0, none⟩) (k + 1) cap9) = w10 at *
              clear y0 y1 y2 y3 y4 y5 y6 y7 z0 z1 z2 z3 z4 z5 z6 z7 hM9
              obtain ⟨⟨y0, y1, y2, y3, y4, y5, y6, y7⟩, -, -⟩ := hMs.eight
              go_wp2_with fail
              refine (HLMK.out _ _ hRs (HG6.out.later (bt hbl hbs))).mono ?_
              rintro en w11 ⟨rfl, hb11⟩
              have hmr := HMR.out
              go_wp2
              go_meet
              case rel => exact ⟨rfl, bt (bt hbl hbs) hb11⟩
          · rw [decide_eq_false hKlt]
            clear HOWN7 HOWN8 HW8 HAMZ HLM HMORE HI
            go_wp2
            go_meet
            case rel => exact ⟨rfl, hb8⟩
        case rest =>
        clear HOWN7 HOWN8 HW8 HAMZ HLM HMORE HI hb8
        obtain ⟨rfl, hbw⟩ := hcut
        obtain ⟨⟨c0, c1, c2, c3, c4, c5, c6, c7⟩, -, -⟩ := (HAO.out.later hbw).eight
        obtain ⟨⟨d0, d1, d2, d3, d4, d5, d6, d7⟩, -, -⟩ := (HAX.out.later hbw).eight
        have hltH2 := (HAO.out.later hbw).1
        have hltX2 := (HAX.out.later hbw).1
        go_wp2_with fail
        refine (copied_any _ _ _ _ _ _ _ _ (rs.take k) _ (HRX.out.later hbw) HZK.out).mono ?_
        rintro en w9 ⟨v9, rfl, ho9, hb9⟩
        obtain ⟨a9, cap9, hvv9, -, -⟩ := own_slice ho9
        rw [hlK] at hvv9
        subst hvv9
        have hbz := bt hbw hb9
        have hltH := (HAO.out.later hbz).1
        obtain ⟨⟨p0, p1, p2, p3, p4, p5, p6, p7⟩, -, -⟩ := (HAO.out.later hbz).eight
        have hbq := bt hbz (bel1 w9 (.cells #[.int .i64 m, .int .i64 c, .int .i64 t, .int .i64 ec, .bool sd, .bool ok, .bool sp, (.slice a rs.length cap)] 24))
        have hsm := same_any m c t ec sd ok sp (.slice a rs.length cap) rs m c t ec sd ok sp (.slice a rs.length cap) rs _ (HRO.out.later hbq) (HRO.out.later hbq) HN.out HN.out
        rw [sameO_self] at hsm
        have HSM : Hid (Calls Tryd.prog 22 #[.agg #[.int .i64 m, .int .i64 c, .int .i64 t, .int .i64 ec, .bool sd, .bool ok, .bool sp, (.slice a rs.length cap)], .agg #[.int .i64 m, .int .i64 c, .int .i64 t, .int .i64 ec, .bool sd, .bool ok, .bool sp, (.slice a rs.length cap)]] (w9.alloc (.cells #[.int .i64 m, .int .i64 c, .int .i64 t, .int .i64 ec, .bool sd, .bool ok, .bool sp, (.slice a rs.length cap)] 24)) fun e w' => e = .returned (.bool true) ∧ Below (w9.alloc (.cells #[.int .i64 m, .int .i64 c, .int .i64 t, .int .i64 ec, .bool sd, .bool ok, .bool sp, (.slice a rs.length cap)] 24)).heap.size (w9.alloc (.cells #[.int .i64 m, .int .i64 c, .int .i64 t, .int .i64 ec, .bool sd, .bool ok, .bool sp, (.slice a rs.length cap)] 24)) w') := hsm
        clear hsm ho9
        go_wp2_with fail
        refine HSM.out.mono ?_
        rintro en wf ⟨rfl, hbf⟩
        go_wp2
        go_ret
        exact ⟨rfl, bt HL6.out (bt hbq hbf)⟩
theorem walk (m c t ec : Int) (sd ok sp : Bool) (v : Value) (rs : List (Int × Int)) (most : Int) (w : World) (hG : Ord w) (hv : Rgs w v rs) (hz0 : rs.length * 16 ≤ 140737488351232) :
    Calls Tryd.prog 7 #[.agg #[.int .i64 m, .int .i64 c, .int .i64 t, .int .i64 ec, .bool sd, .bool ok, .bool sp, v], .int .i64 most] w fun e w' => e = .returned (.bool true) ∧ Below w.heap.size w w' := by
  obtain ⟨a, cap, e1, -⟩ := id hv
  subst e1
  rcases Bool.eq_false_or_eq_true (mayO m c t ec sd ok sp rs) with hm | hm
  · exact walk_t m c t ec sd ok sp a cap rs most w hG hv hm
  · have HN : Hid (rs.length ≤ 17592186044416) := by show _ ≤ _; omega
    have HCO : Hid (∀ W, Rgs W (.slice a rs.length cap) rs → Ord W → Calls Tryd.prog 12 #[.agg #[.int .i64 m, .int .i64 c, .int .i64 t, .int .i64 ec, .bool sd, .bool ok, .bool sp, (.slice a rs.length cap)]] W fun e w' => e = .returned (.int .i64 70) ∧ Below W.heap.size W w') := fun W h1 h2 => by
      have := check_o m c t ec sd ok sp _ rs W h1 HN.out h2
      rw [hm, codeO_f] at this; exact this
    have HFI : Hid (∀ W, Rgs W (.slice a rs.length cap) rs → Ord W → Calls Tryd.prog 17 #[.agg #[.int .i64 m, .int .i64 c, .int .i64 t, .int .i64 ec, .bool sd, .bool ok, .bool sp, (.slice a rs.length cap)], .int .i64 most] W fun en w' => en = .returned (.agg #[.int .i64 0, .int .i64 0, .int .i64 0, .int .i64 0, .bool false, .bool false, .bool false, .slice none 0 0]) ∧ Below W.heap.size W w') := fun W h1 h2 => fit_f m c t ec sd ok sp (.slice a rs.length cap) rs most W h1 HN.out hm h2
    have hA := At.box w #[.int .i64 m, .int .i64 c, .int .i64 t, .int .i64 ec, .bool sd, .bool ok, .bool sp, (.slice a rs.length cap)] 24
    have hl := bel1 w (.cells #[.int .i64 m, .int .i64 c, .int .i64 t, .int .i64 ec, .bool sd, .bool ok, .bool sp, (.slice a rs.length cap)] 24)
    obtain ⟨⟨c0, c1, c2, c3, c4, c5, c6, c7⟩, -, -⟩ := hA.eight
    clear hm
    go_enter Tryd.func7, Tryd.ntmps7
    go_wp2_with fail
    refine (works_any _ (hG.later hl)).mono ?_
    rintro en w0 ⟨rfl, hb⟩
    replace hl := bt hl hb
    replace hA := hA.later hb
    clear hb c0 c1 c2 c3 c4 c5 c6 c7
    obtain ⟨⟨c0, c1, c2, c3, c4, c5, c6, c7⟩, -, -⟩ := hA.eight
    go_wp2_with fail
    refine (HCO.out _ (hv.later hl) (hG.later hl)).mono ?_
    rintro en w2 ⟨rfl, hb⟩
    replace hl := bt hl hb
    replace hA := hA.later hb
    clear hb c0 c1 c2 c3 c4 c5 c6 c7
    obtain ⟨⟨c0, c1, c2, c3, c4, c5, c6, c7⟩, -, -⟩ := hA.eight
    go_wp2_with fail
    refine (HFI.out _ (hv.later hl) (hG.later hl)).mono ?_
    rintro en w3 ⟨rfl, hb⟩
    have hsm := same_any 0 0 0 0 false false false (.slice none 0 0) [] 0 0 0 0 false false false (.slice none 0 0) [] w3 (Rgs.nil _) (Rgs.nil _) (by decide) (by decide)
    rw [sameO_self] at hsm
    go_wp2_with fail
    refine hsm.mono ?_
    rintro en w4 ⟨rfl, hb4⟩
    go_wp2
    go_ret
    exact ⟨rfl, bt (bt hl hb) hb4⟩

set_option maxRecDepth 100000 in
theorem lifted (os : Os) (started : os.Started) (H : Type) (enc : TypeId × Value → H) :
    ReturnsInHanded {} Tryd.checked os 7 .any (fun w args => (Rows.optsFitSpec.pre enc Tryd.prog Tryd.f7 [] false w args ∧ laidMetH Tryd.prog laidL w) ∧ sizedMet enc Tryd.prog Tryd.f7 (OpenSpec.ofChange Rows.optsFitSpec) false w args)
      (Rows.optsFitSpec.post enc Tryd.prog Tryd.f7 false true false false) := by
  refine returnsInHanded_of_change_and (C := Tryd.checked) (X := fun w _ => laidMetH Tryd.prog laidL w) (fun _ _ _ hh h => h.of_heap hh) ownK started (by kernel_rfl) Tryd.func7
    (ChangeSpec.witness_shaped (enc := enc) (C := Tryd.checked) (os := os) (X := fun w _ => laidMetH Tryd.prog laidL w) false (World.doorLaid Tryd.prog 400 os) #[.agg #[.int .i64 0, .int .i64 0, .int .i64 0, .int .i64 0, .bool false, .bool false, .bool false, .slice none 0 0], .int .i64 0] 8 rfl (World.shaped_of_RefB (by kernel_rfl) (by kernel_rfl)) (by kernel_rfl) (by kernel_rfl) (by kernel_rfl) (door_met os _)) ?_
  intro W base args ds gs before hval0 hW hcnd hsz0 hL _
  have hG := ord_of hL
  have hsz : (DataW.weightsEach Tryd.prog (Tryd.f7.params.toList ++ Rows.optsFitSpec.plain.varTypes Tryd.prog) (ds ++ gs)).all (· ≤ reachBytes) = true := hsz0
  have hval : ∀ (j : Nat) t v, Tryd.f7.params[j]? = some t → args[j]? = some v → Value.okWide Tryd.prog W .any base t v := hval0
  have hW' := hW
  obtain ⟨p, q, hA0, hV, rfl, hfz, hnd⟩ := hW
  have hA : DataW.TrodAll enc Tryd.prog W 0 (fun _ => true) true Tryd.f7.params.toList args.toList ds p := hA0
  rw [Tryd.params7] at hA hval hsz
  obtain ⟨v0, vs0, d0, ds0, p0, q0, hargs, rfl, rfl, h0, r0⟩ := trodAll_cons hA
  obtain ⟨v1, vs1, d1, ds1, p1, q1, rfl, rfl, rfl, h1, r1⟩ := trodAll_cons r0
  obtain ⟨rfl, rfl, rfl⟩ := trodAll_nil r1
  obtain rfl : args = #[v0, v1] := by cases args; simp_all
  obtain ⟨rfl, rfl⟩ := trodVars_none hV
  have k0 := h0
  have lt0 : ∀ x ∈ p0, x.block < W.heap.size := by obtain ⟨m, hm⟩ := k0; exact DataW.trod_lt m _ _ _ hm
  have k1 := h1
  have lt1 : ∀ x ∈ p1, x.block < W.heap.size := by obtain ⟨m, hm⟩ := k1; exact DataW.trod_lt m _ _ _ hm
  obtain ⟨m0, c0, t0, ec0, sd0, ok0, sp0, u0, rs0, parts0, rfl, hdp0, hr0, hw0⟩ := open24 (hval 0 24 v0 rfl rfl) h0
  have z0 : rs0.length * 16 ≤ 140737488351232 := sized_24 hsz (j := 0) rfl (by rw [hdp0]; rfl) hw0
  obtain ⟨a1, rfl, -, -, w1⟩ := open_int Tryd.underlying3 (hval 1 3 v1 rfl rfl) h1
  clear hA0 hval0
  refine (walk m0 c0 t0 ec0 sd0 ok0 sp0 u0 rs0 a1 W hG hr0 z0).mono fun e W' ⟨he, bel⟩ => ?_
  subst he
  exact ⟨_, rfl, _, _, _, [], _, [], hW', trodAll_mk1 (shut_bool Tryd.underlying4 _), (trodAll_cons_mk (Below.trod laidOutK (by kernel_rfl) (of_decide_eq_true (by kernel_rfl)) k0 bel lt0) (trodAll_cons_mk (Below.trod laidOutK (by kernel_rfl) (of_decide_eq_true (by kernel_rfl)) k1 bel lt1) trodAll_mk0)), rfl, bel.frame _, fun h => by cases h⟩

theorem over : Rows.optsFitRow.holds Tryd.pinned (OpenSpec.ofChange Rows.optsFitSpec) :=
  OpenClaim.holds_of_wide 7 Tryd.f7 rfl rfl rfl rfl rfl rfl rfl ⟨rfl, rfl, rfl, rfl, rfl⟩ rfl rfl rfl rfl rfl (by kernel_rfl) Tryd.func7 (by kernel_rfl)
    (of_decide_eq_true (by kernel_rfl)) (by unfold Func.isWrapper; first | (rw [if_pos (by decide +kernel)]; kernel_rfl) | (rw [if_neg (by decide +kernel)]; exact ⟨rfl, rfl⟩))
    (fun os started H enc _ => lifted os started H enc)

end Go.Proofs.YtecoknenkjgmjaaDoor.optsFit
namespace Go.Proofs.YtecoknenkjgmjaaDoor
open Go
theorem optsFit_card_holds : Rows.OptsFitCardSaid :=
  Claim7.holds_tied_plain_at .later [] [.data] true (true, "b329e8443bf405fc7ec9c7f296bf5b15ced440c224d2249f857770d22ce70a43") false
    optsFit.over (fun _ h => by cases h) (by kernel_rfl) (fun _ h => by cases h) optsFit_row_tie rfl ⟨rfl, rfl⟩ (by kernel_rfl) rfl
    (fun f fn hf hfn => by
      obtain rfl : f = 7 := Option.some.inj ((show Tryd.prog.funcNamed "sternpost/sternpostlaw07.OptsFit" = some 7 by kernel_rfl).symm.trans hf) |>.symm
      obtain rfl : fn = Tryd.f7 := (Option.some.inj (Tryd.func7.symm.trans hfn)).symm
      exact ⟨by kernel_rfl, fun j t ht => by
        rw [Tryd.params7] at ht
        have hm : t ∈ [24, 3] := by simpa using Array.mem_of_getElem? ht
        have hall : ([24, 3].all fun u => !Tryd.prog.wantsStandIn u) = true := by kernel_rfl
        exact (show Tryd.prog.wantsStandIn t = false by simpa using List.all_eq_true.1 hall t hm)⟩)
    (by kernel_rfl)
end Go.Proofs.YtecoknenkjgmjaaDoor
