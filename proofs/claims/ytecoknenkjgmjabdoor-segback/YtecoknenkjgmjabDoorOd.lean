/- The bytes of options as plain data, and the contracts of put, body and Encode of package opts: Encode returns just these bytes of options that may be, and ErrOpts of others; nothing that was there turns. -/
import Derived.Test.YtecoknenkjgmjabDoorOc
import Derived.Test.YtecoknenkjgmjabDoorRep
import Derived.Deep.RegionHeld3
namespace Go.Proofs.YtecoknenkjgmjabDoor
open Go.RowKit
set_option maxRecDepth 100000

theorem app_data (a b : ByteArray) : (a ++ b).data.toList = a.data.toList ++ b.data.toList := by rw [ByteArray.data_append, Array.toList_append]
def rgL (rs : List (Int × Int)) : List UInt8 := rs.flatMap fun r => txtL r.1 4 ++ txtL r.2 4
def rgS (rs : List (Int × Int)) : ByteArray := ⟨(rgL rs).toArray⟩
theorem txtL_length (n : Int) (k : Nat) : (txtL n k).length = k := by simp [txtL]
theorem rgL_len (rs : List (Int × Int)) : (rgL rs).length = rs.length * 8 := by
  induction rs with
  | nil => rfl
  | cons r rs ih =>
    have : rgL (r :: rs) = txtL r.1 4 ++ txtL r.2 4 ++ rgL rs := rfl
    rw [this, List.length_append, List.length_append, txtL_length, txtL_length, ih, List.length_cons]; omega
theorem rgS_size (rs : List (Int × Int)) : (rgS rs).size = rs.length * 8 := by rw [← rgL_len]; rfl
theorem rgS_step (rs : List (Int × Int)) (k : Nat) (r : Int × Int) (h : rs[k]? = some r) : rgS (rs.take (k + 1)) = rgS (rs.take k) ++ (txt r.1 4 ++ txt r.2 4) := by
  obtain ⟨hk, rfl⟩ := List.getElem?_eq_some_iff.1 h
  apply ba_toList
  rw [app_data, app_data, txt_toList, txt_toList]
  show rgL (rs.take (k + 1)) = rgL (rs.take k) ++ _
  unfold rgL
  rw [List.take_succ_eq_append_getElem hk, List.flatMap_append, List.flatMap_singleton]
/-- The bytes of the k-th kind. -/
def partL (m c t ec : Int) (sd ok sp : Bool) (rs : List (Int × Int)) (k : Nat) : List UInt8 := match k with
  | 0 => if m ≠ 0 then 2 :: 4 :: txtL m 2 else []
  | 1 => if sd = true then 3 :: 3 :: txtL c 1 else []
  | 2 => if ok = true then [4, 2] else []
  | 3 => if sp = true then 8 :: 10 :: (txtL t 4 ++ txtL ec 4) else []
  | 4 => if 0 < rs.length then 5 :: (txtL (2 + rs.length * 8) 1 ++ rgL rs) else []
  | _ => []
def bareL (m c t ec : Int) (sd ok sp : Bool) (rs : List (Int × Int)) (k : Nat) : List UInt8 := (List.range k).flatMap (partL m c t ec sd ok sp rs)
def bareS (m c t ec : Int) (sd ok sp : Bool) (rs : List (Int × Int)) (k : Nat) : ByteArray := ⟨(bareL m c t ec sd ok sp rs k).toArray⟩
def encL (m c t ec : Int) (sd ok sp : Bool) (rs : List (Int × Int)) : List UInt8 := bareL m c t ec sd ok sp rs 5 ++ List.replicate (longN m sd ok sp rs.length - lenK m sd ok sp rs.length 5) 0
def encO (m c t ec : Int) (sd ok sp : Bool) (rs : List (Int × Int)) : ByteArray := ⟨(encL m c t ec sd ok sp rs).toArray⟩
theorem bareS_step (m c t ec : Int) (sd ok sp : Bool) (rs : List (Int × Int)) (k : Nat) : bareS m c t ec sd ok sp rs (k + 1) = bareS m c t ec sd ok sp rs k ++ ⟨(partL m c t ec sd ok sp rs k).toArray⟩ := by
  apply ba_toList
  rw [app_data]
  show bareL m c t ec sd ok sp rs (k + 1) = bareL m c t ec sd ok sp rs k ++ _
  unfold bareL
  rw [List.range_succ, List.flatMap_append]
  simp
theorem bareS_no (m c t ec : Int) (sd ok sp : Bool) (rs : List (Int × Int)) (k : Nat) (h : partL m c t ec sd ok sp rs k = []) : bareS m c t ec sd ok sp rs (k + 1) = bareS m c t ec sd ok sp rs k := by
  rw [bareS_step, h]; apply ba_toList; rw [app_data]; simp
theorem bareS_yes (m c t ec : Int) (sd ok sp : Bool) (rs : List (Int × Int)) (k : Nat) (x : ByteArray) (h : partL m c t ec sd ok sp rs k = x.data.toList) : bareS m c t ec sd ok sp rs (k + 1) = bareS m c t ec sd ok sp rs k ++ x := by
  rw [bareS_step, h]
theorem bareS_zero (m c t ec : Int) (sd ok sp : Bool) (rs : List (Int × Int)) : bareS m c t ec sd ok sp rs 0 = ⟨#[]⟩ := rfl
theorem bareL_len (m c t ec : Int) (sd ok sp : Bool) (rs : List (Int × Int)) : (bareL m c t ec sd ok sp rs 5).length = lenK m sd ok sp rs.length 5 := by
  have e : List.range 5 = [0, 1, 2, 3, 4] := rfl
  unfold bareL lenK
  rw [e]
  by_cases h0 : m = 0 <;> cases sd <;> cases ok <;> cases sp <;> by_cases h4 : 0 < rs.length <;> simp [partL, h0, h4, txtL_length, rgL_len] <;> omega
theorem bareS_size (m c t ec : Int) (sd ok sp : Bool) (rs : List (Int × Int)) : (bareS m c t ec sd ok sp rs 5).size = lenK m sd ok sp rs.length 5 := by rw [← bareL_len m c t ec sd ok sp rs]; rfl
theorem bareL_le (m c t ec : Int) (sd ok sp : Bool) (rs : List (Int × Int)) (k : Nat) (hk : k ≤ 5) : (bareL m c t ec sd ok sp rs k).length ≤ lenK m sd ok sp rs.length 5 := by
  rw [← bareL_len m c t ec sd ok sp rs]
  have e : List.range 5 = List.range k ++ (List.range (5 - k)).map (k + ·) := by rw [← List.range_add]; congr 1; omega
  unfold bareL
  rw [e, List.flatMap_append, List.length_append]
  omega
theorem bareS_le (m c t ec : Int) (sd ok sp : Bool) (rs : List (Int × Int)) (k : Nat) (hk : k ≤ 5) : (bareS m c t ec sd ok sp rs k).size ≤ lenK m sd ok sp rs.length 5 := bareL_le m c t ec sd ok sp rs k hk
theorem long_ge (m : Int) (sd ok sp : Bool) (n : Nat) : lenK m sd ok sp n 5 ≤ longN m sd ok sp n ∧ longN m sd ok sp n ≤ lenK m sd ok sp n 5 + 3 := by unfold longN; omega
theorem encO_is (m c t ec : Int) (sd ok sp : Bool) (rs : List (Int × Int)) : encO m c t ec sd ok sp rs = bareS m c t ec sd ok sp rs 5 ++ ⟨(Lib.repeatL (⟨#[0]⟩ : ByteArray).data.toList (longN m sd ok sp rs.length - lenK m sd ok sp rs.length 5)).toArray⟩ := by
  apply ba_toList
  rw [app_data]
  show encL m c t ec sd ok sp rs = bareL m c t ec sd ok sp rs 5 ++ Lib.repeatL [0] _
  unfold encL
  congr 1
  generalize longN m sd ok sp rs.length - lenK m sd ok sp rs.length 5 = j
  induction j with
  | zero => rfl
  | succ j ih => rw [List.replicate_succ, ih]; rfl
theorem encO_size (m c t ec : Int) (sd ok sp : Bool) (rs : List (Int × Int)) : (encO m c t ec sd ok sp rs).size = longN m sd ok sp rs.length := by
  have h := long_ge m sd ok sp rs.length
  show (encL m c t ec sd ok sp rs).length = _
  unfold encL
  rw [List.length_append, bareL_len, List.length_replicate]
  omega

/-- What options that may be are. -/
theorem mayO_t {m c t ec : Int} {sd ok sp : Bool} {rs : List (Int × Int)} (h : mayO m c t ec sd ok sp rs = true) : (0 ≤ m ∧ m ≤ 65535) ∧ (0 ≤ c ∧ c ≤ 14) ∧ (sd = true ∨ c = 0) ∧ (0 ≤ t ∧ t ≤ 4294967295) ∧ (0 ≤ ec ∧ ec ≤ 4294967295) ∧ (sp = true ∨ t = 0 ∧ ec = 0) ∧ longN m sd ok sp rs.length ≤ 40 ∧ ∀ r ∈ rs, rgB r = true := by
  unfold mayO fitsB numB at h
  simp only [Bool.and_eq_true, decide_eq_true_eq, Bool.or_eq_true, Bool.not_eq_true', List.any_eq_false] at h
  obtain ⟨⟨⟨⟨⟨⟨⟨h1, h2⟩, h3⟩, h4⟩, h5⟩, h6⟩, h7⟩, h8⟩ := h
  refine ⟨h1, h2, h3, h4, h5, h6, h7, fun r hr => ?_⟩
  have := h8 r hr
  simpa using this
theorem rgB_t {r : Int × Int} (h : rgB r = true) : (0 ≤ r.1 ∧ r.1 ≤ 4294967295) ∧ (0 ≤ r.2 ∧ r.2 ≤ 4294967295) ∧ r.1 ≠ r.2 := by
  unfold rgB numB at h
  simpa [and_assoc] using h
theorem mayO_short {m c t ec : Int} {sd ok sp : Bool} {rs : List (Int × Int)} (h : mayO m c t ec sd ok sp rs = true) : rs.length ≤ 4 := by
  have h7 := (mayO_t h).2.2.2.2.2.2.1
  have := lenK_le m sd ok sp rs.length 5
  unfold longN at h7
  apply Classical.byContradiction
  intro hn
  have h5 : lenK m sd ok sp rs.length 5 ≤ 40 := by omega
  have h6 : rs.length * 8 + 2 ≤ lenK m sd ok sp rs.length 5 := by
    unfold lenK
    rw [if_pos (show 4 < 5 ∧ 0 < rs.length by omega)]
    omega
  omega

theorem putV_t (n : Int) (k : Nat) (k1 : 1 ≤ k) (k6 : k ≤ 6) (h0 : 0 ≤ n) (h1 : n < 2 ^ (8 * k)) : putV n k = txt n k := by
  unfold putV
  rw [if_pos (putB_t ⟨by omega, by omega, h0, by simpa using h1⟩)]
  simp
theorem putV_le (n k : Int) : (putV n k).size ≤ 6 := by
  unfold putV
  split
  · rename_i h
    unfold putB at h
    have := of_decide_eq_true h
    rw [txt_size]; omega
  · simp [noS, ByteArray.size]
theorem put_o (n k : Int) (w : World) : Calls Tryd.prog 75 #[.int .i64 n, .int .i64 k] w fun e w' => e = .returned (.string (putV n k)) ∧ Below w.heap.size w w' := by
  go_enter Tryd.func75, Tryd.ntmps75
  go_wp2_with fail
  refine (pput_any _ _ _).mono ?_
  rintro e w' ⟨rfl, hb⟩
  go_wp2
  go_ret
  exact ⟨rfl, hb⟩
theorem body_2 (m c t ec : Int) (sd ok sp : Bool) (v : Value) (w : World) (h0 : 0 ≤ m) (h1 : m ≤ 65535) :
    Calls Tryd.prog 74 #[.agg #[.int .i64 m, .int .i64 c, .int .i64 t, .int .i64 ec, .bool sd, .bool ok, .bool sp, v], .int .i64 2] w fun e w' => e = .returned (.string (txt m 2)) ∧ Below w.heap.size w w' := by
  obtain ⟨⟨c0, c1, c2, c3, c4, c5, c6, c7⟩, -, -⟩ := (At.box w #[.int .i64 m, .int .i64 c, .int .i64 t, .int .i64 ec, .bool sd, .bool ok, .bool sp, v] 26).eight
  have hl := bel1 w (.cells #[.int .i64 m, .int .i64 c, .int .i64 t, .int .i64 ec, .bool sd, .bool ok, .bool sp, v] 26)
  have hp : Hid (putV m 2 = txt m 2) := putV_t m 2 (by decide) (by decide) h0 (by show m < 65536; omega)
  go_enter Tryd.func74, Tryd.ntmps74
  go_wp2_with fail
  refine (put_o _ _ _).mono ?_
  rintro e w' ⟨rfl, hb⟩
  go_wp2
  go_ret
  exact ⟨by rw [← hp.out]; rfl, bt hl hb⟩
theorem body_3 (m c t ec : Int) (sd ok sp : Bool) (v : Value) (w : World) (h0 : 0 ≤ c) (h1 : c ≤ 14) :
    Calls Tryd.prog 74 #[.agg #[.int .i64 m, .int .i64 c, .int .i64 t, .int .i64 ec, .bool sd, .bool ok, .bool sp, v], .int .i64 3] w fun e w' => e = .returned (.string (txt c 1)) ∧ Below w.heap.size w w' := by
  obtain ⟨⟨c0, c1, c2, c3, c4, c5, c6, c7⟩, -, -⟩ := (At.box w #[.int .i64 m, .int .i64 c, .int .i64 t, .int .i64 ec, .bool sd, .bool ok, .bool sp, v] 26).eight
  have hl := bel1 w (.cells #[.int .i64 m, .int .i64 c, .int .i64 t, .int .i64 ec, .bool sd, .bool ok, .bool sp, v] 26)
  have hp : Hid (putV c 1 = txt c 1) := putV_t c 1 (by decide) (by decide) h0 (by show c < 256; omega)
  go_enter Tryd.func74, Tryd.ntmps74
  go_wp2_with fail
  refine (put_o _ _ _).mono ?_
  rintro e w' ⟨rfl, hb⟩
  go_wp2
  go_ret
  exact ⟨by rw [← hp.out]; rfl, bt hl hb⟩
theorem body_4 (m c t ec : Int) (sd ok sp : Bool) (v : Value) (w : World) :
    Calls Tryd.prog 74 #[.agg #[.int .i64 m, .int .i64 c, .int .i64 t, .int .i64 ec, .bool sd, .bool ok, .bool sp, v], .int .i64 4] w fun e w' => e = .returned (.string ⟨#[]⟩) ∧ Below w.heap.size w w' := by
  have hl := bel1 w (.cells #[.int .i64 m, .int .i64 c, .int .i64 t, .int .i64 ec, .bool sd, .bool ok, .bool sp, v] 26)
  go_enter Tryd.func74, Tryd.ntmps74
  go_wp2
  go_ret
  exact ⟨rfl, hl⟩
theorem keepT {w W x : World} {a b : Addr} {p q : Value} (hb : Below W.heap.size W x) (h : Below w.heap.size w W ∧ W.cell? a = some p ∧ W.cell? b = some q) : Below w.heap.size w x ∧ x.cell? a = some p ∧ x.cell? b = some q :=
  ⟨bt h.1 hb, later hb h.2.1, later hb h.2.2⟩
set_option maxHeartbeats 1000000 in
theorem body_8 (m c t ec : Int) (sd ok sp : Bool) (v : Value) (w : World) (h0 : 0 ≤ t) (h1 : t ≤ 4294967295) (h2 : 0 ≤ ec) (h3 : ec ≤ 4294967295) :
    Calls Tryd.prog 74 #[.agg #[.int .i64 m, .int .i64 c, .int .i64 t, .int .i64 ec, .bool sd, .bool ok, .bool sp, v], .int .i64 8] w fun e w' => e = .returned (.string (txt t 4 ++ txt ec 4)) ∧ Below w.heap.size w w' := by
  obtain ⟨⟨c0, c1, c2, c3, c4, c5, c6, c7⟩, -, -⟩ := (At.box w #[.int .i64 m, .int .i64 c, .int .i64 t, .int .i64 ec, .bool sd, .bool ok, .bool sp, v] 26).eight
  have hl := bel1 w (.cells #[.int .i64 m, .int .i64 c, .int .i64 t, .int .i64 ec, .bool sd, .bool ok, .bool sp, v] 26)
  have hx : Below w.heap.size w (w.alloc (.cells #[.int .i64 m, .int .i64 c, .int .i64 t, .int .i64 ec, .bool sd, .bool ok, .bool sp, v] 26)) ∧ (w.alloc (.cells #[.int .i64 m, .int .i64 c, .int .i64 t, .int .i64 ec, .bool sd, .bool ok, .bool sp, v] 26)).cell? ⟨w.heap.size, 2, none⟩ = some (.int .i64 t) ∧ (w.alloc (.cells #[.int .i64 m, .int .i64 c, .int .i64 t, .int .i64 ec, .bool sd, .bool ok, .bool sp, v] 26)).cell? ⟨w.heap.size, 3, none⟩ = some (.int .i64 ec) := ⟨hl, c2, c3⟩
  have hp : Hid (putV t 4 = txt t 4) := putV_t t 4 (by decide) (by decide) h0 (by show t < 4294967296; omega)
  have hq : Hid (putV ec 4 = txt ec 4) := putV_t ec 4 (by decide) (by decide) h2 (by show ec < 4294967296; omega)
  have y1 := putV_le t 4
  have y2 := putV_le ec 4
  have r1 : ∀ W, (Op.stringOp .add (putV t 4) (putV ec 4)).run Tryd.prog W = .ok (.string (putV t 4 ++ putV ec 4)) W := fun W => run_string_add_sum W _ _ (by omega)
  clear y1 y2 c0 c1 c2 c3 c4 c5 c6 c7 hl
  go_enter Tryd.func74, Tryd.ntmps74
  go_wp2
  go_region_held3 (fun W => Below w.heap.size w W ∧ W.cell? ⟨w.heap.size, 2, none⟩ = some (.int .i64 t) ∧ W.cell? ⟨w.heap.size, 3, none⟩ = some (.int .i64 ec)) (first | exact ⟨hx.1.drew, hx.2⟩ | (refine keepT hb ?_; assumption)) (first | (go_at_call 75; refine (put_o _ _ _).mono ?_; rintro e w' ⟨rfl, hb⟩))
  all_goals
    rename_i hz
    go_wp2
    go_ret
    exact ⟨by rw [← hp.out, ← hq.out]; rfl, hz.1⟩
set_option maxRecDepth 100000 in
set_option maxHeartbeats 2000000 in
theorem body_5 (m c t ec : Int) (sd ok sp : Bool) (v : Value) (rs : List (Int × Int)) (w : World) (hv : Rgs w v rs) (hn : rs.length ≤ 4) (hr : ∀ r ∈ rs, rgB r = true) :
    Calls Tryd.prog 74 #[.agg #[.int .i64 m, .int .i64 c, .int .i64 t, .int .i64 ec, .bool sd, .bool ok, .bool sp, v], .int .i64 5] w fun e w' => e = .returned (.string (rgS rs)) ∧ Below w.heap.size w w' := by
  obtain ⟨a, cap, rfl, hc, h⟩ := hv
  have hA := (At.box w (#[.int .i64 m, .int .i64 c, .int .i64 t, .int .i64 ec, .bool sd, .bool ok, .bool sp, .slice a rs.length cap]) 26).eight
  have hl := bel1 w (.cells (#[.int .i64 m, .int .i64 c, .int .i64 t, .int .i64 ec, .bool sd, .bool ok, .bool sp, .slice a rs.length cap]) 26)
  obtain ⟨⟨c0, c1, c2, c3, c4, c5, c6, c7⟩, -, -⟩ := hA
  rcases h with rfl | ⟨b, off, rfl, hx⟩
  · go_enter Tryd.func74, Tryd.ntmps74
    go_wp2
    go_loop [5, 33] (fun s i => i = .int .i64 0 ∧ s = .string ⟨#[]⟩) (fun _ _ => 0)
    case atStart => exact ⟨rfl, rfl⟩
    case round =>
      obtain ⟨rfl, rfl⟩ := hrel
      go_wp2
      go_ret
      exact ⟨rfl, hl⟩
  · have HX : Hid (∀ (j : Nat) (r : Int × Int), rs[j]? = some r → w.cell? ⟨b, off + j * 2, none⟩ = some (.int .i64 r.1) ∧ w.cell? ⟨b, off + j * 2 + 1, none⟩ = some (.int .i64 r.2)) := hx
    have HR : Hid (∀ r ∈ rs, rgB r = true) := hr
    have hn' : (rs.length : Int) ≤ 4 := by omega
    have HL : Hid (Below w.heap.size w (w.alloc (.cells (#[.int .i64 m, .int .i64 c, .int .i64 t, .int .i64 ec, .bool sd, .bool ok, .bool sp, .slice (some ⟨b, off, none⟩) rs.length cap]) 26))) := hl
    clear hx hr hl
    go_enter Tryd.func74, Tryd.ntmps74
    go_wp2
    clear c0 c1 c2 c3 c4 c5 c6 c7
    go_loopw [5, 33] (fun s i W => ∃ k : Nat, k ≤ rs.length ∧ i = .int .i64 k ∧ s = .string (rgS (rs.take k)) ∧ Below w.heap.size w W) (fun _ i _ => rs.length - (intOf i).toNat)
    case atStart => exact ⟨0, Nat.zero_le _, rfl, by simp [rgS, rgL], HL.out⟩
    case round =>
      obtain ⟨k, hk, rfl, rfl, hbl⟩ := hrel
      by_cases hlt : k < rs.length
      · obtain ⟨r, hr⟩ : ∃ r, rs[k]? = some r := ⟨rs[k], List.getElem?_eq_getElem hlt⟩
        have HS : Hid (rgS (rs.take (k + 1)) = rgS (rs.take k) ++ (txt r.1 4 ++ txt r.2 4)) := rgS_step rs k r hr
        obtain ⟨x1, x2⟩ := HX.out k r hr
        obtain ⟨⟨a0, a1⟩, ⟨b0, b1⟩, -⟩ := rgB_t (HR.out r (List.mem_of_getElem? hr))
        replace x1 := later hbl x1
        replace x2 := later hbl x2
        have l0 : (0 : Int) ≤ (k : Int) := by omega
        have l1 : (k : Int) < (rs.length : Int) := by omega
        have hp : Hid (putV r.1 4 = txt r.1 4) := putV_t r.1 4 (by decide) (by decide) a0 (by show r.1 < 4294967296; omega)
        have hq : Hid (putV r.2 4 = txt r.2 4) := putV_t r.2 4 (by decide) (by decide) b0 (by show r.2 < 4294967296; omega)
        have y1 := putV_le r.1 4
        have y2 := putV_le r.2 4
        have y3 : (rgS (rs.take k)).size ≤ 32 := by rw [rgS_size, List.length_take]; omega
        generalize rgS (rs.take k) = S at *
        obtain ⟨X, Y⟩ := r
        have r1 : ∀ W, (Op.stringOp .add (putV X 4) (putV Y 4)).run Tryd.prog W = .ok (.string (putV X 4 ++ putV Y 4)) W := fun W => run_string_add_sum W _ _ (by simp only at y1 y2; omega)
        have r2 : ∀ W, (Op.stringOp .add S (putV X 4 ++ putV Y 4)).run Tryd.prog W = .ok (.string (S ++ (putV X 4 ++ putV Y 4))) W := fun W => run_string_add_sum W _ _ (by simp only [ByteArray.size_append]; simp only at y1 y2; omega)
        clear hr y1 y2 y3 a0 a1 b0 b1
        have hz1 := bel1 wr (.cells #[.int .i64 X, .int .i64 Y] 77)
        have hAt := At.box wr #[.int .i64 X, .int .i64 Y] 77
        have hx : Below w.heap.size w (wr.alloc (.cells #[.int .i64 X, .int .i64 Y] 77)) ∧ (wr.alloc (.cells #[.int .i64 X, .int .i64 Y] 77)).cell? ⟨wr.heap.size, 0, none⟩ = some (.int .i64 X) ∧ (wr.alloc (.cells #[.int .i64 X, .int .i64 Y] 77)).cell? ⟨wr.heap.size, 1, none⟩ = some (.int .i64 Y) := ⟨bt hbl hz1, (hAt.2 0 _ rfl).1, (hAt.2 1 _ rfl).1⟩
        clear hz1 hAt
        go_wp2
        go_region_held3 (fun W => Below w.heap.size w W ∧ W.cell? ⟨wr.heap.size, 0, none⟩ = some (.int .i64 X) ∧ W.cell? ⟨wr.heap.size, 1, none⟩ = some (.int .i64 Y)) (first | exact ⟨hx.1.drew, hx.2⟩ | (refine keepT hb ?_; assumption)) (first | (go_at_call 75; refine (put_o _ _ _).mono ?_; rintro e w' ⟨rfl, hb⟩))
        all_goals
          rename_i hz
          go_wp2
          go_roundw
          case rel => exact ⟨k + 1, by omega, by go_num, by rw [HS.out, ← hp.out, ← hq.out], hz.1⟩
          case measure => simp [intOf]; omega
      · have hk' : k = rs.length := by omega
        subst hk'
        rw [List.take_length]
        go_wp2
        go_ret
        exact ⟨rfl, hbl⟩
end Go.Proofs.YtecoknenkjgmjabDoor
