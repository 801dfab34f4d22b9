/- the texts Rep, Od, Oe, Pb, in part, merged by program -/
import Derived.Test.YtkpdmgoldngdaaaGreatDoorProg
import Derived.Test.YtkpdmgoldngdaaaGreatDoorRows
import Derived.Shelf.Strings.Repeat
import Derived.Deep.RegionHeld3
import Derived.WalkKit
import Derived.WalkSpells
import Derived.Laws.OwnMore
import Derived.Laws.AppendOwn
import Derived.Laws.AppendOwnNone
import Derived.Deep.LoopGhost
import Derived.RegionTactic
import Derived.Below
import Derived.Deep.QuietTactic
import Derived.BigQuiet
import Derived.WalkSmall
import Derived.Laws.StructEq
import Derived.BigRegion
import Derived.Deep.Light
import Derived.Test.YtkpdmgoldngdaaaGreatDoorMA01
import Derived.Test.YtkpdmgoldngdaaaGreatDoorMA04
import Derived.Test.YtkpdmgoldngdaaaGreatDoorMD01
import Derived.Test.YtkpdmgoldngdaaaGreatDoorMD02
import Derived.Test.YtkpdmgoldngdaaaGreatDoorMD03
import Derived.Test.YtkpdmgoldngdaaaGreatDoorMG01
import Derived.Test.YtkpdmgoldngdaaaGreatDoorMG03
import Derived.Test.YtkpdmgoldngdaaaGreatDoorMH01
import Derived.Test.YtkpdmgoldngdaaaGreatDoorMH02
import Derived.Test.YtkpdmgoldngdaaaGreatDoorMO01
import Derived.Test.YtkpdmgoldngdaaaGreatDoorMP01
import Derived.Test.YtkpdmgoldngdaaaGreatDoorMS01
namespace Go.Proofs.YtkpdmgoldngdaaaGreatDoor
open Go.Shelf Go.RowKit
def Tryz.lays105_ren : Go.Shelf.Ren := ⟨fun | 105 => 134 | 212 => 158 | 99 => 104 | 165 => 159 | 166 => 160 | 170 => 161 | 169 => 162 | 263 => 171 | 264 => 172 | 206 => 139 | 240 => 173 | 241 => 174 | 276 => 175 | 277 => 176 | n => n, fun | 9 => 9 | 3 => 3 | 4 => 4 | 20 => 20 | 0 => 0 | 46 => 137 | 109 => 224 | 5 => 5 | 72 => 228 | 76 => 230 | 51 => 240 | 146 => 241 | 53 => 243 | 148 => 244 | 70 => 226 | 37 => 153 | 75 => 38 | 127 => 246 | 164 => 213 | 80 => 115 | n => n, fun | n => n⟩
theorem Tryz.lays105 : Go.Proofs.Lays.n105 Tryz.prog Tryz.lays105_ren := {
  mixed := by kernel_rfl
  f99 := Tryz.func104.trans (congrArg some (by kernel_rfl))
  f105 := Tryz.func134.trans (congrArg some (by kernel_rfl))
  f165 := Tryz.func159.trans (congrArg some (by kernel_rfl))
  f166 := Tryz.func160.trans (congrArg some (by kernel_rfl))
  f169 := Tryz.func162.trans (congrArg some (by kernel_rfl))
  f170 := Tryz.func161.trans (congrArg some (by kernel_rfl))
  f206 := Tryz.func139.trans (congrArg some (by kernel_rfl))
  f212 := Tryz.func158.trans (congrArg some (by kernel_rfl))
  f240 := Tryz.func173.trans (congrArg some (by kernel_rfl))
  f241 := Tryz.func174.trans (congrArg some (by kernel_rfl))
  f263 := Tryz.func171.trans (congrArg some (by kernel_rfl))
  f264 := Tryz.func172.trans (congrArg some (by kernel_rfl))
  f276 := Tryz.func175.trans (congrArg some (by kernel_rfl))
  f277 := Tryz.func176.trans (congrArg some (by kernel_rfl))
  t0 := Tryz.underlying0
  a0 := Tryz.isAgg0
  z0 := Tryz.sizeOf0
  v0 := Tryz.zeroValue0
  t3 := Tryz.underlying3
  a3 := Tryz.isAgg3
  z3 := Tryz.sizeOf3
  v3 := Tryz.zeroValue3
  t4 := Tryz.underlying4
  a4 := Tryz.isAgg4
  z4 := Tryz.sizeOf4
  v4 := Tryz.zeroValue4
  t5 := Tryz.underlying5
  a5 := Tryz.isAgg5
  z5 := Tryz.sizeOf5
  v5 := Tryz.zeroValue5
  t9 := Tryz.underlying9
  a9 := Tryz.isAgg9
  z9 := Tryz.sizeOf9
  v9 := Tryz.zeroValue9
  t20 := Tryz.underlying20
  a20 := Tryz.isAgg20
  z20 := Tryz.sizeOf20
  v20 := Tryz.zeroValue20
  t37 := Tryz.underlying153
  a37 := Tryz.isAgg153
  z37 := Tryz.sizeOf153
  v37 := Tryz.zeroValue153
  t46 := Tryz.underlying137
  a46 := Tryz.isAgg137
  z46 := Tryz.sizeOf137
  v46 := Tryz.zeroValue137
  t51 := Tryz.underlying240
  a51 := Tryz.isAgg240
  z51 := Tryz.sizeOf240
  v51 := Tryz.zeroValue240
  t53 := Tryz.underlying243
  a53 := Tryz.isAgg243
  z53 := Tryz.sizeOf243
  v53 := Tryz.zeroValue243
  t70 := Tryz.underlying226
  a70 := Tryz.isAgg226
  z70 := Tryz.sizeOf226
  v70 := Tryz.zeroValue226
  t72 := Tryz.underlying228
  a72 := Tryz.isAgg228
  z72 := Tryz.sizeOf228
  v72 := Tryz.zeroValue228
  t75 := Tryz.underlying38
  a75 := Tryz.isAgg38
  z75 := Tryz.sizeOf38
  v75 := Tryz.zeroValue38
  t76 := Tryz.underlying230
  a76 := Tryz.isAgg230
  z76 := Tryz.sizeOf230
  v76 := Tryz.zeroValue230
  t109 := Tryz.underlying224
  a109 := Tryz.isAgg224
  z109 := Tryz.sizeOf224
  v109 := Tryz.zeroValue224
  t127 := Tryz.underlying246
  a127 := Tryz.isAgg246
  z127 := Tryz.sizeOf246
  v127 := Tryz.zeroValue246
  t146 := Tryz.underlying241
  a146 := Tryz.isAgg241
  z146 := Tryz.sizeOf241
  v146 := Tryz.zeroValue241
  t148 := Tryz.underlying244
  a148 := Tryz.isAgg244
  z148 := Tryz.sizeOf244
  v148 := Tryz.zeroValue244
  t164 := Tryz.underlying213
  a164 := Tryz.isAgg213
  z164 := Tryz.sizeOf213
  v164 := Tryz.zeroValue213 }
theorem Tryz.Builder_Extra_105 : Builder.Extra Tryz.prog Tryz.lays105_ren := {
  sizeBuilder := by kernel_rfl
  liesBuilder := by kernel_rfl
  t5 := Tryz.underlying5
  a5 := Tryz.isAgg5
  z5 := Tryz.sizeOf5
  v5 := Tryz.zeroValue5
  infoByte := by kernel_rfl
  cellsByte := by kernel_rfl
  sizeByte := by kernel_rfl
  neB5 := by decide }
theorem Tryz.strings_Repeat (s : ByteArray) (c : Nat) (w : World) (hc : c ≤ 9223372036854775807) (hlen : s.size * c ≤ 140737488355328) :
    Calls Tryz.prog 134 #[.string s, .int .i64 c] w fun e w' => e = .returned (.string ⟨(Lib.repeatL s.data.toList c).toArray⟩) ∧ Below w.heap.size w w' := Any.strings_Repeat Tryz.lays105 Tryz.Builder_Extra_105 s c w hc hlen
end Go.Proofs.YtkpdmgoldngdaaaGreatDoor

namespace Go.Proofs.YtkpdmgoldngdaaaGreatDoor
open Go.RowKit
set_option maxRecDepth 100000
theorem bareS_zero (m c t ec : Int) (sd ok sp : Bool) (rs : List (Int × Int)) : bareS m c t ec sd ok sp rs 0 = ⟨#[]⟩ := rfl
theorem encO_is (m c t ec : Int) (sd ok sp : Bool) (rs : List (Int × Int)) : encO m c t ec sd ok sp rs = bareS m c t ec sd ok sp rs 5 ++ ⟨(Lib.repeatL (⟨#[0]⟩ : ByteArray).data.toList (longN m sd ok sp rs.length - lenK m sd ok sp rs.length 5)).toArray⟩ := by
  apply ba_toList
  rw [app_data]
  show encL m c t ec sd ok sp rs = bareL m c t ec sd ok sp rs 5 ++ Lib.repeatL [0] _
  unfold encL
  congr 1
  generalize longN m sd ok sp rs.length - lenK m sd ok sp rs.length 5 = j
  induction j with
  | zero => rfl
  | succ j ih => rw [List.replicate_succ, ih]; rfl
theorem rgB_t {r : Int × Int} (h : rgB r = true) : (0 ≤ r.1 ∧ r.1 ≤ 4294967295) ∧ (0 ≤ r.2 ∧ r.2 ≤ 4294967295) ∧ r.1 ≠ r.2 := by
  unfold rgB numB at h
  simpa [and_assoc] using h
theorem putV_t (n : Int) (k : Nat) (k1 : 1 ≤ k) (k6 : k ≤ 6) (h0 : 0 ≤ n) (h1 : n < 2 ^ (8 * k)) : putV n k = txt n k := by
  unfold putV
  rw [if_pos (putB_t ⟨by omega, by omega, h0, by simpa using h1⟩)]
  simp
theorem putV_le (n k : Int) : (putV n k).size ≤ 6 := by
  unfold putV
  split
  · rename_i h
    unfold putB at h
    have := of_decide_eq_true h
    rw [txt_size]; omega
  · simp [noS, ByteArray.size]
theorem put_o (n k : Int) (w : World) : Calls Tryz.prog 133 #[.int .i64 n, .int .i64 k] w fun e w' => e = .returned (.string (putV n k)) ∧ Below w.heap.size w w' := by
  go_enter Tryz.func133, Tryz.ntmps133
  go_wp2_with fail
  refine (pput_any _ _ _).mono ?_
  rintro e w' ⟨rfl, hb⟩
  go_wp2
  go_ret
  exact ⟨rfl, hb⟩
theorem body_2 (m c t ec : Int) (sd ok sp : Bool) (v : Value) (w : World) (h0 : 0 ≤ m) (h1 : m ≤ 65535) :
    Calls Tryz.prog 132 #[.agg #[.int .i64 m, .int .i64 c, .int .i64 t, .int .i64 ec, .bool sd, .bool ok, .bool sp, v], .int .i64 2] w fun e w' => e = .returned (.string (txt m 2)) ∧ Below w.heap.size w w' := by
  obtain ⟨⟨c0, c1, c2, c3, c4, c5, c6, c7⟩, -, -⟩ := (At.box w #[.int .i64 m, .int .i64 c, .int .i64 t, .int .i64 ec, .bool sd, .bool ok, .bool sp, v] 32).eight
  have hl := bel1 w (.cells #[.int .i64 m, .int .i64 c, .int .i64 t, .int .i64 ec, .bool sd, .bool ok, .bool sp, v] 32)
  have hp : Hid (putV m 2 = txt m 2) := putV_t m 2 (by decide) (by decide) h0 (by show m < 65536; omega)
  go_enter Tryz.func132, Tryz.ntmps132
  go_wp2_with fail
  refine (put_o _ _ _).mono ?_
  rintro e w' ⟨rfl, hb⟩
  go_wp2
  go_ret
  exact ⟨by rw [← hp.out]; rfl, bt hl hb⟩
theorem body_3 (m c t ec : Int) (sd ok sp : Bool) (v : Value) (w : World) (h0 : 0 ≤ c) (h1 : c ≤ 14) :
    Calls Tryz.prog 132 #[.agg #[.int .i64 m, .int .i64 c, .int .i64 t, .int .i64 ec, .bool sd, .bool ok, .bool sp, v], .int .i64 3] w fun e w' => e = .returned (.string (txt c 1)) ∧ Below w.heap.size w w' := by
  obtain ⟨⟨c0, c1, c2, c3, c4, c5, c6, c7⟩, -, -⟩ := (At.box w #[.int .i64 m, .int .i64 c, .int .i64 t, .int .i64 ec, .bool sd, .bool ok, .bool sp, v] 32).eight
  have hl := bel1 w (.cells #[.int .i64 m, .int .i64 c, .int .i64 t, .int .i64 ec, .bool sd, .bool ok, .bool sp, v] 32)
  have hp : Hid (putV c 1 = txt c 1) := putV_t c 1 (by decide) (by decide) h0 (by show c < 256; omega)
  go_enter Tryz.func132, Tryz.ntmps132
  go_wp2_with fail
  refine (put_o _ _ _).mono ?_
  rintro e w' ⟨rfl, hb⟩
  go_wp2
  go_ret
  exact ⟨by rw [← hp.out]; rfl, bt hl hb⟩
theorem body_4 (m c t ec : Int) (sd ok sp : Bool) (v : Value) (w : World) :
    Calls Tryz.prog 132 #[.agg #[.int .i64 m, .int .i64 c, .int .i64 t, .int .i64 ec, .bool sd, .bool ok, .bool sp, v], .int .i64 4] w fun e w' => e = .returned (.string ⟨#[]⟩) ∧ Below w.heap.size w w' := by
  have hl := bel1 w (.cells #[.int .i64 m, .int .i64 c, .int .i64 t, .int .i64 ec, .bool sd, .bool ok, .bool sp, v] 32)
  go_enter Tryz.func132, Tryz.ntmps132
  go_wp2
  go_ret
  exact ⟨rfl, hl⟩
set_option maxHeartbeats 1000000 in
theorem body_8 (m c t ec : Int) (sd ok sp : Bool) (v : Value) (w : World) (h0 : 0 ≤ t) (h1 : t ≤ 4294967295) (h2 : 0 ≤ ec) (h3 : ec ≤ 4294967295) :
    Calls Tryz.prog 132 #[.agg #[.int .i64 m, .int .i64 c, .int .i64 t, .int .i64 ec, .bool sd, .bool ok, .bool sp, v], .int .i64 8] w fun e w' => e = .returned (.string (txt t 4 ++ txt ec 4)) ∧ Below w.heap.size w w' := by
  obtain ⟨⟨c0, c1, c2, c3, c4, c5, c6, c7⟩, -, -⟩ := (At.box w #[.int .i64 m, .int .i64 c, .int .i64 t, .int .i64 ec, .bool sd, .bool ok, .bool sp, v] 32).eight
  have hl := bel1 w (.cells #[.int .i64 m, .int .i64 c, .int .i64 t, .int .i64 ec, .bool sd, .bool ok, .bool sp, v] 32)
  have hx : Below w.heap.size w (w.alloc (.cells #[.int .i64 m, .int .i64 c, .int .i64 t, .int .i64 ec, .bool sd, .bool ok, .bool sp, v] 32)) ∧ (w.alloc (.cells #[.int .i64 m, .int .i64 c, .int .i64 t, .int .i64 ec, .bool sd, .bool ok, .bool sp, v] 32)).cell? ⟨w.heap.size, 2, none⟩ = some (.int .i64 t) ∧ (w.alloc (.cells #[.int .i64 m, .int .i64 c, .int .i64 t, .int .i64 ec, .bool sd, .bool ok, .bool sp, v] 32)).cell? ⟨w.heap.size, 3, none⟩ = some (.int .i64 ec) := ⟨hl, c2, c3⟩
  have hp : Hid (putV t 4 = txt t 4) := putV_t t 4 (by decide) (by decide) h0 (by show t < 4294967296; omega)
  have hq : Hid (putV ec 4 = txt ec 4) := putV_t ec 4 (by decide) (by decide) h2 (by show ec < 4294967296; omega)
  have y1 := putV_le t 4
  have y2 := putV_le ec 4
  have r1 : ∀ W, (Op.stringOp .add (putV t 4) (putV ec 4)).run Tryz.prog W = .ok (.string (putV t 4 ++ putV ec 4)) W := fun W => run_string_add_sum W _ _ (by omega)
  clear y1 y2 c0 c1 c2 c3 c4 c5 c6 c7 hl
  go_enter Tryz.func132, Tryz.ntmps132
  go_wp2
  go_region_held3 (fun W => Below w.heap.size w W ∧ W.cell? ⟨w.heap.size, 2, none⟩ = some (.int .i64 t) ∧ W.cell? ⟨w.heap.size, 3, none⟩ = some (.int .i64 ec)) (first | exact ⟨hx.1.drew, hx.2⟩ | (refine keepT hb ?_; assumption)) (first | (go_at_call 133; refine (put_o _ _ _).mono ?_; rintro e w' ⟨rfl, hb⟩))
  all_goals
    rename_i hz
    go_wp2
    go_ret
    exact ⟨by rw [← hp.out, ← hq.out]; rfl, hz.1⟩
set_option maxRecDepth 100000 in
set_option maxHeartbeats 2000000 in
theorem body_5 (m c t ec : Int) (sd ok sp : Bool) (v : Value) (rs : List (Int × Int)) (w : World) (hv : Rgs w v rs) (hn : rs.length ≤ 4) (hr : ∀ r ∈ rs, rgB r = true) :
    Calls Tryz.prog 132 #[.agg #[.int .i64 m, .int .i64 c, .int .i64 t, .int .i64 ec, .bool sd, .bool ok, .bool sp, v], .int .i64 5] w fun e w' => e = .returned (.string (rgS rs)) ∧ Below w.heap.size w w' := by
  obtain ⟨a, cap, rfl, hc, h⟩ := hv
  have hA := (At.box w (#[.int .i64 m, .int .i64 c, .int .i64 t, .int .i64 ec, .bool sd, .bool ok, .bool sp, .slice a rs.length cap]) 32).eight
  have hl := bel1 w (.cells (#[.int .i64 m, .int .i64 c, .int .i64 t, .int .i64 ec, .bool sd, .bool ok, .bool sp, .slice a rs.length cap]) 32)
  obtain ⟨⟨c0, c1, c2, c3, c4, c5, c6, c7⟩, -, -⟩ := hA
  rcases h with rfl | ⟨b, off, rfl, hx⟩
  · go_enter Tryz.func132, Tryz.ntmps132
    go_wp2
    go_loop [5, 33] (fun s i => i = .int .i64 0 ∧ s = .string ⟨#[]⟩) (fun _ _ => 0)
    case atStart => exact ⟨rfl, rfl⟩
    case round =>
      obtain ⟨rfl, rfl⟩ := hrel
      go_wp2
      go_ret
      exact ⟨rfl, hl⟩
  · have HX : Hid (∀ (j : Nat) (r : Int × Int), rs[j]? = some r → w.cell? ⟨b, off + j * 2, none⟩ = some (.int .i64 r.1) ∧ w.cell? ⟨b, off + j * 2 + 1, none⟩ = some (.int .i64 r.2)) := hx
    have HR : Hid (∀ r ∈ rs, rgB r = true) := hr
    have hn' : (rs.length : Int) ≤ 4 := by omega
    have HL : Hid (Below w.heap.size w (w.alloc (.cells (#[.int .i64 m, .int .i64 c, .int .i64 t, .int .i64 ec, .bool sd, .bool ok, .bool sp, .slice (some ⟨b, off, none⟩) rs.length cap]) 32))) := hl
    clear hx hr hl
    go_enter Tryz.func132, Tryz.ntmps132
    go_wp2
    clear c0 c1 c2 c3 c4 c5 c6 c7
    go_loopw [5, 33] (fun s i W => ∃ k : Nat, k ≤ rs.length ∧ i = .int .i64 k ∧ s = .string (rgS (rs.take k)) ∧ Below w.heap.size w W) (fun _ i _ => rs.length - (intOf i).toNat)
    case atStart => exact ⟨0, Nat.zero_le _, rfl, by simp [rgS, rgL], HL.out⟩
    case round =>
      obtain ⟨k, hk, rfl, rfl, hbl⟩ := hrel
      by_cases hlt : k < rs.length
      · obtain ⟨r, hr⟩ : ∃ r, rs[k]? = some r := ⟨rs[k], List.getElem?_eq_getElem hlt⟩
        have HS : Hid (rgS (rs.take (k + 1)) = rgS (rs.take k) ++ (txt r.1 4 ++ txt r.2 4)) := rgS_step rs k r hr
        obtain ⟨x1, x2⟩ := HX.out k r hr
        obtain ⟨⟨a0, a1⟩, ⟨b0, b1⟩, -⟩ := rgB_t (HR.out r (List.mem_of_getElem? hr))
        replace x1 := later hbl x1
        replace x2 := later hbl x2
        have l0 : (0 : Int) ≤ (k : Int) := by omega
        have l1 : (k : Int) < (rs.length : Int) := by omega
        have hp : Hid (putV r.1 4 = txt r.1 4) := putV_t r.1 4 (by decide) (by decide) a0 (by show r.1 < 4294967296; omega)
        have hq : Hid (putV r.2 4 = txt r.2 4) := putV_t r.2 4 (by decide) (by decide) b0 (by show r.2 < 4294967296; omega)
        have y1 := putV_le r.1 4
        have y2 := putV_le r.2 4
        have y3 : (rgS (rs.take k)).size ≤ 32 := by rw [rgS_size, List.length_take]; omega
        generalize rgS (rs.take k) = S at *
        obtain ⟨X, Y⟩ := r
        have r1 : ∀ W, (Op.stringOp .add (putV X 4) (putV Y 4)).run Tryz.prog W = .ok (.string (putV X 4 ++ putV Y 4)) W := fun W => run_string_add_sum W _ _ (by simp only at y1 y2; omega)
        have r2 : ∀ W, (Op.stringOp .add S (putV X 4 ++ putV Y 4)).run Tryz.prog W = .ok (.string (S ++ (putV X 4 ++ putV Y 4))) W := fun W => run_string_add_sum W _ _ (by simp only [ByteArray.size_append]; simp only at y1 y2; omega)
        clear hr y1 y2 y3 a0 a1 b0 b1
        have hz1 := bel1 wr (.cells #[.int .i64 X, .int .i64 Y] 148)
        have hAt := At.box wr #[.int .i64 X, .int .i64 Y] 148
        have hx : Below w.heap.size w (wr.alloc (.cells #[.int .i64 X, .int .i64 Y] 148)) ∧ (wr.alloc (.cells #[.int .i64 X, .int .i64 Y] 148)).cell? ⟨wr.heap.size, 0, none⟩ = some (.int .i64 X) ∧ (wr.alloc (.cells #[.int .i64 X, .int .i64 Y] 148)).cell? ⟨wr.heap.size, 1, none⟩ = some (.int .i64 Y) := ⟨bt hbl hz1, (hAt.2 0 _ rfl).1, (hAt.2 1 _ rfl).1⟩
        clear hz1 hAt
        go_wp2
        go_region_held3 (fun W => Below w.heap.size w W ∧ W.cell? ⟨wr.heap.size, 0, none⟩ = some (.int .i64 X) ∧ W.cell? ⟨wr.heap.size, 1, none⟩ = some (.int .i64 Y)) (first | exact ⟨hx.1.drew, hx.2⟩ | (refine keepT hb ?_; assumption)) (first | (go_at_call 133; refine (put_o _ _ _).mono ?_; rintro e w' ⟨rfl, hb⟩))
        all_goals
          rename_i hz
          go_wp2
          go_roundw
          case rel => exact ⟨k + 1, by omega, by go_num, by rw [HS.out, ← hp.out, ← hq.out], hz.1⟩
          case measure => simp [intOf]; omega
      · have hk' : k = rs.length := by omega
        subst hk'
        rw [List.take_length]
        go_wp2
        go_ret
        exact ⟨rfl, hbl⟩
end Go.Proofs.YtkpdmgoldngdaaaGreatDoor

namespace Go.Proofs.YtkpdmgoldngdaaaGreatDoor
open Go.RowKit
set_option maxRecDepth 100000

theorem opt_bytes (K : Int) (B : ByteArray) (h0 : 0 ≤ K) (h1 : K < 256) (hB : B.size ≤ 200) : (putV K 1 ++ putV (2 + (B.size : Int)) 1 ++ B).data.toList = txtL K 1 ++ txtL (2 + (B.size : Int)) 1 ++ B.data.toList := by
  have e1 : putV K 1 = txt K 1 := putV_t K 1 (by decide) (by decide) h0 (by show K < 256; exact h1)
  have e2 : putV (2 + (B.size : Int)) 1 = txt (2 + (B.size : Int)) 1 := putV_t _ 1 (by decide) (by decide) (by omega) (by show (2 + (B.size : Int)) < 256; omega)
  rw [app_data, app_data, e1, e2, txt_toList, txt_toList]
theorem tl_2 : txtL 2 1 = [2] := by decide +kernel
theorem tl_3 : txtL 3 1 = [3] := by decide +kernel
theorem tl_4 : txtL 4 1 = [4] := by decide +kernel
theorem tl_8 : txtL 8 1 = [8] := by decide +kernel
theorem tl_5 : txtL 5 1 = [5] := by decide +kernel
theorem tl_10 : txtL 10 1 = [10] := by decide +kernel
theorem part_0 (m c t ec : Int) (sd ok sp : Bool) (rs : List (Int × Int)) (h : m ≠ 0) : partL m c t ec sd ok sp rs 0 = (putV 2 1 ++ putV (2 + ((txt m 2).size : Int)) 1 ++ (txt m 2)).data.toList := by
  have hz : (txt m 2).size = 2 := by rw [txt_size]
  rw [opt_bytes _ _ (by decide) (by decide) (by rw [hz]; decide), hz]
  simp only [partL, if_pos h]
  have e : (2 : Int) + ((2 : Nat) : Int) = 4 := rfl
  rw [e, tl_2, tl_4]
  rw [txt_toList]; rfl
theorem part_1 (m c t ec : Int) (sd ok sp : Bool) (rs : List (Int × Int)) (h : sd = true) : partL m c t ec sd ok sp rs 1 = (putV 3 1 ++ putV (2 + ((txt c 1).size : Int)) 1 ++ (txt c 1)).data.toList := by
  have hz : (txt c 1).size = 1 := by rw [txt_size]
  rw [opt_bytes _ _ (by decide) (by decide) (by rw [hz]; decide), hz]
  simp only [partL, if_pos h]
  have e : (2 : Int) + ((1 : Nat) : Int) = 3 := rfl
  rw [e, tl_3]
  rw [txt_toList]; rfl
theorem part_2 (m c t ec : Int) (sd ok sp : Bool) (rs : List (Int × Int)) (h : ok = true) : partL m c t ec sd ok sp rs 2 = (putV 4 1 ++ putV (2 + (((⟨#[]⟩ : ByteArray)).size : Int)) 1 ++ ((⟨#[]⟩ : ByteArray))).data.toList := by
  have hz : ((⟨#[]⟩ : ByteArray)).size = 0 := by rfl
  rw [opt_bytes _ _ (by decide) (by decide) (by rw [hz]; decide), hz]
  simp only [partL, if_pos h]
  have e : (2 : Int) + ((0 : Nat) : Int) = 2 := rfl
  rw [e, tl_4, tl_2]
  rfl
theorem part_3 (m c t ec : Int) (sd ok sp : Bool) (rs : List (Int × Int)) (h : sp = true) : partL m c t ec sd ok sp rs 3 = (putV 8 1 ++ putV (2 + ((txt t 4 ++ txt ec 4).size : Int)) 1 ++ (txt t 4 ++ txt ec 4)).data.toList := by
  have hz : (txt t 4 ++ txt ec 4).size = 8 := by rw [ByteArray.size_append, txt_size, txt_size]
  rw [opt_bytes _ _ (by decide) (by decide) (by rw [hz]; decide), hz]
  simp only [partL, if_pos h]
  have e : (2 : Int) + ((8 : Nat) : Int) = 10 := rfl
  rw [e, tl_8, tl_10]
  rw [app_data, txt_toList, txt_toList]; rfl
theorem part_4 (m c t ec : Int) (sd ok sp : Bool) (rs : List (Int × Int)) (h : 0 < rs.length) (hn : rs.length ≤ 4) : partL m c t ec sd ok sp rs 4 = (putV 5 1 ++ putV (2 + ((rgS rs).size : Int)) 1 ++ (rgS rs)).data.toList := by
  have hz : (rgS rs).size = rs.length * 8 := rgS_size rs
  rw [opt_bytes _ _ (by decide) (by decide) (by rw [hz]; omega), hz, tl_5]
  simp only [partL, if_pos h]
  rw [show ((rs.length * 8 : Nat) : Int) = (rs.length : Int) * 8 by omega]
  rfl
set_option maxRecDepth 100000 in
set_option maxHeartbeats 4000000 in
theorem enc_t (m c t ec : Int) (sd ok sp : Bool) (v : Value) (rs : List (Int × Int)) (w : World) (hv : Rgs w v rs) (hm : mayO m c t ec sd ok sp rs = true) (hG : Ord w) :
    Calls Tryz.prog 87 #[.agg #[.int .i64 m, .int .i64 c, .int .i64 t, .int .i64 ec, .bool sd, .bool ok, .bool sp, v]] w fun e w' => e = .returned (.tuple #[.string (encO m c t ec sd ok sp rs), .int .i64 0]) ∧ Below w.heap.size w w' := by
  have hn4 := mayO_short hm
  obtain ⟨⟨h0, h1⟩, ⟨g0, g1⟩, -, ⟨t0, t1⟩, ⟨e0, e1⟩, -, h40, hrr⟩ := mayO_t hm
  have hgt := long_ge m sd ok sp rs.length
  have HRR : Hid (∀ r ∈ rs, rgB r = true) := hrr
  obtain ⟨x, cap, hvx, -⟩ := id hv
  subst hvx
  have hA := At.box w (#[.int .i64 m, .int .i64 c, .int .i64 t, .int .i64 ec, .bool sd, .bool ok, .bool sp, .slice x rs.length cap]) 32
  have hl := bel1 w (.cells (#[.int .i64 m, .int .i64 c, .int .i64 t, .int .i64 ec, .bool sd, .bool ok, .bool sp, .slice x rs.length cap]) 32)
  have HE := encO_is m c t ec sd ok sp rs
  have hM := fun W hv hG => may_any m c t ec sd ok sp (.slice x rs.length cap) rs W hv (by omega) hG
  rw [hm] at hM
  obtain ⟨⟨c0, c1, c2, c3, c4, c5, c6, c7⟩, -, -⟩ := hA.eight
  go_enter Tryz.func87, Tryz.ntmps87
  go_wp2_with fail
  refine (hM _ (hv.later hl) (hG.later hl)).mono ?_
  rintro e w1 ⟨rfl, hb1⟩
  replace hl := bt hl hb1
  replace hA := hA.later hb1
  have HV : Hid (Rgs w1 (.slice x rs.length cap) rs) := hv.later hl
  have HG : Hid (Ord w1) := hG.later hl
  have HA : Hid (At w1 w.heap.size (#[.int .i64 m, .int .i64 c, .int .i64 t, .int .i64 ec, .bool sd, .bool ok, .bool sp, .slice x rs.length cap])) := hA
  have HL : Hid (Below w.heap.size w w1) := hl
  have HEE : Hid (encO m c t ec sd ok sp rs = bareS m c t ec sd ok sp rs 5 ++ ⟨(Lib.repeatL (⟨#[0]⟩ : ByteArray).data.toList (longN m sd ok sp rs.length - lenK m sd ok sp rs.length 5)).toArray⟩) := HE
  obtain ⟨g0', g1', g2', g3', g4'⟩ := HG.out
  clear hA hl hv hG hb1 c0 c1 c2 c3 c4 c5 c6 c7 hM hrr HE hm
  go_wp2
  clear g0' g1' g2' g3' g4'
  go_loopw [4, 12] (fun s i W => ∃ k : Nat, k ≤ 5 ∧ i = .int .i64 k ∧ s = .string (bareS m c t ec sd ok sp rs k) ∧ Below w1.heap.size w1 W) (fun _ i _ => 5 - (intOf i).toNat)
  case atStart => exact ⟨0, by omega, rfl, by rw [bareS_zero], Below.refl _ _⟩
  case round =>
    obtain ⟨k, hk, rfl, rfl, hbl⟩ := hrel
    obtain ⟨⟨c0, c1, c2, c3, c4, c5, c6, c7⟩, -, -⟩ := (HA.out.later hbl).eight
    obtain rfl | rfl | rfl | rfl | rfl | rfl : k = 0 ∨ k = 1 ∨ k = 2 ∨ k = 3 ∨ k = 4 ∨ k = 5 := by omega
    · have HT : Hid (m ≠ 0 → bareS m c t ec sd ok sp rs 1 = bareS m c t ec sd ok sp rs 0 ++ (putV 2 1 ++ putV (2 + ((txt m 2).size : Int)) 1 ++ (txt m 2))) := fun h => bareS_yes m c t ec sd ok sp rs 0 _ (part_0 m c t ec sd ok sp rs h)
      have HF : Hid (¬ (m ≠ 0) → bareS m c t ec sd ok sp rs 1 = bareS m c t ec sd ok sp rs 0) := fun h => bareS_no m c t ec sd ok sp rs 0 (by simp only [partL]; rw [if_neg h])
      have hix := ix_0 wr
      have hS := bareS_le m c t ec sd ok sp rs 0 (by omega)
      have hBz : (txt m 2).size ≤ 32 := by rw [txt_size]; omega
      have HBD : Hid (∀ W, True → Calls Tryz.prog 132 #[.agg (#[.int .i64 m, .int .i64 c, .int .i64 t, .int .i64 ec, .bool sd, .bool ok, .bool sp, .slice x rs.length cap]), .int .i64 2] W fun e w' => e = .returned (.string (txt m 2)) ∧ Below W.heap.size W w') := fun W _ => body_2 _ _ _ _ _ _ _ _ W h0 h1
      obtain ⟨B, hB⟩ : ∃ B, B = txt m 2 := ⟨_, rfl⟩
      rw [← hB] at HT HBD hBz
      clear hB
      generalize bareS m c t ec sd ok sp rs 0 = S at *
      have y1 := putV_le 2 1
      have y2 := putV_le (2 + (B.size : Int)) 1
      have r1 : ∀ W, (Op.stringOp .add (putV 2 1) (putV (2 + (B.size : Int)) 1)).run Tryz.prog W = .ok (.string (putV 2 1 ++ putV (2 + (B.size : Int)) 1)) W := fun W => run_string_add_sum W _ _ (by omega)
      have r2 : ∀ W, (Op.stringOp .add (putV 2 1 ++ putV (2 + (B.size : Int)) 1) B).run Tryz.prog W = .ok (.string (putV 2 1 ++ putV (2 + (B.size : Int)) 1 ++ B)) W := fun W => run_string_add_sum W _ _ (by simp only [ByteArray.size_append]; omega)
      have r3 : ∀ W, (Op.stringOp .add S (putV 2 1 ++ putV (2 + (B.size : Int)) 1 ++ B)).run Tryz.prog W = .ok (.string (S ++ (putV 2 1 ++ putV (2 + (B.size : Int)) 1 ++ B))) W := fun W => run_string_add_sum W _ _ (by simp only [ByteArray.size_append]; omega)
      have bz' : (B.size : Int) ≤ 32 := by omega
      clear y1 y2 hS hBz
      rcases Bool.eq_false_or_eq_true (m != 0) with hh | hh
      · go_wp2_with fail
        refine (has_2 _ _ _ _ _ _ _ x rs.length cap _).mono ?_
        rw [hh]
        rintro e wa ⟨rfl, hb⟩
        clear c0 c1 c2 c3 c4 c5 c6 c7
        have hbl2 := bt hbl hb
        obtain ⟨⟨c0, c1, c2, c3, c4, c5, c6, c7⟩, -, -⟩ := (HA.out.later hbl2).eight
        go_wp2_with fail
        refine (HBD.out _ trivial).mono ?_
        rintro e wb ⟨rfl, hb2⟩
        replace hbl2 := bt hbl2 hb2
        go_wp2_with fail
        refine (put_o _ _ _).mono ?_
        rintro e wc ⟨rfl, hb3⟩
        replace hbl2 := bt hbl2 hb3
        go_wp2_with fail
        refine (put_o _ _ _).mono ?_
        rintro e wd ⟨rfl, hb4⟩
        replace hbl2 := bt hbl2 hb4
        go_wp2
        go_roundw
        case rel => exact ⟨1, by omega, by go_num, by rw [HT.out (by simpa using hh)], hbl2⟩
        case measure => simp [intOf]
      · go_wp2_with fail
        refine (has_2 _ _ _ _ _ _ _ x rs.length cap _).mono ?_
        rw [hh]
        rintro e wa ⟨rfl, hb⟩
        go_wp2
        go_roundw
        case rel => exact ⟨1, by omega, by go_num, by rw [HF.out (by simpa using hh)], bt hbl hb⟩
        case measure => simp [intOf]
    · have HT : Hid (sd = true → bareS m c t ec sd ok sp rs 2 = bareS m c t ec sd ok sp rs 1 ++ (putV 3 1 ++ putV (2 + ((txt c 1).size : Int)) 1 ++ (txt c 1))) := fun h => bareS_yes m c t ec sd ok sp rs 1 _ (part_1 m c t ec sd ok sp rs h)
      have HF : Hid (¬ (sd = true) → bareS m c t ec sd ok sp rs 2 = bareS m c t ec sd ok sp rs 1) := fun h => bareS_no m c t ec sd ok sp rs 1 (by simp only [partL]; rw [if_neg h])
      have hix := ix_1 wr
      have hS := bareS_le m c t ec sd ok sp rs 1 (by omega)
      have hBz : (txt c 1).size ≤ 32 := by rw [txt_size]; omega
      have HBD : Hid (∀ W, True → Calls Tryz.prog 132 #[.agg (#[.int .i64 m, .int .i64 c, .int .i64 t, .int .i64 ec, .bool sd, .bool ok, .bool sp, .slice x rs.length cap]), .int .i64 3] W fun e w' => e = .returned (.string (txt c 1)) ∧ Below W.heap.size W w') := fun W _ => body_3 _ _ _ _ _ _ _ _ W g0 g1
      obtain ⟨B, hB⟩ : ∃ B, B = txt c 1 := ⟨_, rfl⟩
      rw [← hB] at HT HBD hBz
      clear hB
      generalize bareS m c t ec sd ok sp rs 1 = S at *
      have y1 := putV_le 3 1
      have y2 := putV_le (2 + (B.size : Int)) 1
      have r1 : ∀ W, (Op.stringOp .add (putV 3 1) (putV (2 + (B.size : Int)) 1)).run Tryz.prog W = .ok (.string (putV 3 1 ++ putV (2 + (B.size : Int)) 1)) W := fun W => run_string_add_sum W _ _ (by omega)
      have r2 : ∀ W, (Op.stringOp .add (putV 3 1 ++ putV (2 + (B.size : Int)) 1) B).run Tryz.prog W = .ok (.string (putV 3 1 ++ putV (2 + (B.size : Int)) 1 ++ B)) W := fun W => run_string_add_sum W _ _ (by simp only [ByteArray.size_append]; omega)
      have r3 : ∀ W, (Op.stringOp .add S (putV 3 1 ++ putV (2 + (B.size : Int)) 1 ++ B)).run Tryz.prog W = .ok (.string (S ++ (putV 3 1 ++ putV (2 + (B.size : Int)) 1 ++ B))) W := fun W => run_string_add_sum W _ _ (by simp only [ByteArray.size_append]; omega)
      have bz' : (B.size : Int) ≤ 32 := by omega
      clear y1 y2 hS hBz
      rcases Bool.eq_false_or_eq_true sd with rfl | rfl
      · go_wp2_with fail
        refine (has_3 _ _ _ _ _ _ _ x rs.length cap _).mono ?_
        rintro e wa ⟨rfl, hb⟩
        clear c0 c1 c2 c3 c4 c5 c6 c7
        have hbl2 := bt hbl hb
        obtain ⟨⟨c0, c1, c2, c3, c4, c5, c6, c7⟩, -, -⟩ := (HA.out.later hbl2).eight
        go_wp2_with fail
        refine (HBD.out _ trivial).mono ?_
        rintro e wb ⟨rfl, hb2⟩
        replace hbl2 := bt hbl2 hb2
        go_wp2_with fail
        refine (put_o _ _ _).mono ?_
        rintro e wc ⟨rfl, hb3⟩
        replace hbl2 := bt hbl2 hb3
        go_wp2_with fail
        refine (put_o _ _ _).mono ?_
        rintro e wd ⟨rfl, hb4⟩
        replace hbl2 := bt hbl2 hb4
        go_wp2
        go_roundw
        case rel => exact ⟨2, by omega, by go_num, by rw [HT.out (by simp)], hbl2⟩
        case measure => simp [intOf]
      · go_wp2_with fail
        refine (has_3 _ _ _ _ _ _ _ x rs.length cap _).mono ?_
        rintro e wa ⟨rfl, hb⟩
        go_wp2
        go_roundw
        case rel => exact ⟨2, by omega, by go_num, by rw [HF.out (by simp)], bt hbl hb⟩
        case measure => simp [intOf]
    · have HT : Hid (ok = true → bareS m c t ec sd ok sp rs 3 = bareS m c t ec sd ok sp rs 2 ++ (putV 4 1 ++ putV (2 + (((⟨#[]⟩ : ByteArray)).size : Int)) 1 ++ ((⟨#[]⟩ : ByteArray)))) := fun h => bareS_yes m c t ec sd ok sp rs 2 _ (part_2 m c t ec sd ok sp rs h)
      have HF : Hid (¬ (ok = true) → bareS m c t ec sd ok sp rs 3 = bareS m c t ec sd ok sp rs 2) := fun h => bareS_no m c t ec sd ok sp rs 2 (by simp only [partL]; rw [if_neg h])
      have hix := ix_2 wr
      have hS := bareS_le m c t ec sd ok sp rs 2 (by omega)
      have hBz : ((⟨#[]⟩ : ByteArray)).size ≤ 32 := by show 0 ≤ 32; omega
      have HBD : Hid (∀ W, True → Calls Tryz.prog 132 #[.agg (#[.int .i64 m, .int .i64 c, .int .i64 t, .int .i64 ec, .bool sd, .bool ok, .bool sp, .slice x rs.length cap]), .int .i64 4] W fun e w' => e = .returned (.string ((⟨#[]⟩ : ByteArray))) ∧ Below W.heap.size W w') := fun W _ => body_4 _ _ _ _ _ _ _ _ W
      obtain ⟨B, hB⟩ : ∃ B, B = (⟨#[]⟩ : ByteArray) := ⟨_, rfl⟩
      rw [← hB] at HT HBD hBz
      clear hB
      generalize bareS m c t ec sd ok sp rs 2 = S at *
      have y1 := putV_le 4 1
      have y2 := putV_le (2 + (B.size : Int)) 1
      have r1 : ∀ W, (Op.stringOp .add (putV 4 1) (putV (2 + (B.size : Int)) 1)).run Tryz.prog W = .ok (.string (putV 4 1 ++ putV (2 + (B.size : Int)) 1)) W := fun W => run_string_add_sum W _ _ (by omega)
      have r2 : ∀ W, (Op.stringOp .add (putV 4 1 ++ putV (2 + (B.size : Int)) 1) B).run Tryz.prog W = .ok (.string (putV 4 1 ++ putV (2 + (B.size : Int)) 1 ++ B)) W := fun W => run_string_add_sum W _ _ (by simp only [ByteArray.size_append]; omega)
      have r3 : ∀ W, (Op.stringOp .add S (putV 4 1 ++ putV (2 + (B.size : Int)) 1 ++ B)).run Tryz.prog W = .ok (.string (S ++ (putV 4 1 ++ putV (2 + (B.size : Int)) 1 ++ B))) W := fun W => run_string_add_sum W _ _ (by simp only [ByteArray.size_append]; omega)
      have bz' : (B.size : Int) ≤ 32 := by omega
      clear y1 y2 hS hBz
      rcases Bool.eq_false_or_eq_true ok with rfl | rfl
      · go_wp2_with fail
        refine (has_4 _ _ _ _ _ _ _ x rs.length cap _).mono ?_
        rintro e wa ⟨rfl, hb⟩
        clear c0 c1 c2 c3 c4 c5 c6 c7
        have hbl2 := bt hbl hb
        obtain ⟨⟨c0, c1, c2, c3, c4, c5, c6, c7⟩, -, -⟩ := (HA.out.later hbl2).eight
        go_wp2_with fail
        refine (HBD.out _ trivial).mono ?_
        rintro e wb ⟨rfl, hb2⟩
        replace hbl2 := bt hbl2 hb2
        go_wp2_with fail
        refine (put_o _ _ _).mono ?_
        rintro e wc ⟨rfl, hb3⟩
        replace hbl2 := bt hbl2 hb3
        go_wp2_with fail
        refine (put_o _ _ _).mono ?_
        rintro e wd ⟨rfl, hb4⟩
        replace hbl2 := bt hbl2 hb4
        go_wp2
        go_roundw
        case rel => exact ⟨3, by omega, by go_num, by rw [HT.out (by simp)], hbl2⟩
        case measure => simp [intOf]
      · go_wp2_with fail
        refine (has_4 _ _ _ _ _ _ _ x rs.length cap _).mono ?_
        rintro e wa ⟨rfl, hb⟩
        go_wp2
        go_roundw
        case rel => exact ⟨3, by omega, by go_num, by rw [HF.out (by simp)], bt hbl hb⟩
        case measure => simp [intOf]
    · have HT : Hid (sp = true → bareS m c t ec sd ok sp rs 4 = bareS m c t ec sd ok sp rs 3 ++ (putV 8 1 ++ putV (2 + ((txt t 4 ++ txt ec 4).size : Int)) 1 ++ (txt t 4 ++ txt ec 4))) := fun h => bareS_yes m c t ec sd ok sp rs 3 _ (part_3 m c t ec sd ok sp rs h)
      have HF : Hid (¬ (sp = true) → bareS m c t ec sd ok sp rs 4 = bareS m c t ec sd ok sp rs 3) := fun h => bareS_no m c t ec sd ok sp rs 3 (by simp only [partL]; rw [if_neg h])
      have hix := ix_3 wr
      have hS := bareS_le m c t ec sd ok sp rs 3 (by omega)
      have hBz : (txt t 4 ++ txt ec 4).size ≤ 32 := by rw [ByteArray.size_append, txt_size, txt_size]; omega
      have HBD : Hid (∀ W, True → Calls Tryz.prog 132 #[.agg (#[.int .i64 m, .int .i64 c, .int .i64 t, .int .i64 ec, .bool sd, .bool ok, .bool sp, .slice x rs.length cap]), .int .i64 8] W fun e w' => e = .returned (.string (txt t 4 ++ txt ec 4)) ∧ Below W.heap.size W w') := fun W _ => body_8 _ _ _ _ _ _ _ _ W t0 t1 e0 e1
      obtain ⟨B, hB⟩ : ∃ B, B = txt t 4 ++ txt ec 4 := ⟨_, rfl⟩
      rw [← hB] at HT HBD hBz
      clear hB
      generalize bareS m c t ec sd ok sp rs 3 = S at *
      have y1 := putV_le 8 1
      have y2 := putV_le (2 + (B.size : Int)) 1
      have r1 : ∀ W, (Op.stringOp .add (putV 8 1) (putV (2 + (B.size : Int)) 1)).run Tryz.prog W = .ok (.string (putV 8 1 ++ putV (2 + (B.size : Int)) 1)) W := fun W => run_string_add_sum W _ _ (by omega)
      have r2 : ∀ W, (Op.stringOp .add (putV 8 1 ++ putV (2 + (B.size : Int)) 1) B).run Tryz.prog W = .ok (.string (putV 8 1 ++ putV (2 + (B.size : Int)) 1 ++ B)) W := fun W => run_string_add_sum W _ _ (by simp only [ByteArray.size_append]; omega)
      have r3 : ∀ W, (Op.stringOp .add S (putV 8 1 ++ putV (2 + (B.size : Int)) 1 ++ B)).run Tryz.prog W = .ok (.string (S ++ (putV 8 1 ++ putV (2 + (B.size : Int)) 1 ++ B))) W := fun W => run_string_add_sum W _ _ (by simp only [ByteArray.size_append]; omega)
      have bz' : (B.size : Int) ≤ 32 := by omega
      clear y1 y2 hS hBz
      rcases Bool.eq_false_or_eq_true sp with rfl | rfl
      · go_wp2_with fail
        refine (has_8 _ _ _ _ _ _ _ x rs.length cap _).mono ?_
        rintro e wa ⟨rfl, hb⟩
        clear c0 c1 c2 c3 c4 c5 c6 c7
        have hbl2 := bt hbl hb
        obtain ⟨⟨c0, c1, c2, c3, c4, c5, c6, c7⟩, -, -⟩ := (HA.out.later hbl2).eight
        go_wp2_with fail
        refine (HBD.out _ trivial).mono ?_
        rintro e wb ⟨rfl, hb2⟩
        replace hbl2 := bt hbl2 hb2
        go_wp2_with fail
        refine (put_o _ _ _).mono ?_
        rintro e wc ⟨rfl, hb3⟩
        replace hbl2 := bt hbl2 hb3
        go_wp2_with fail
        refine (put_o _ _ _).mono ?_
        rintro e wd ⟨rfl, hb4⟩
        replace hbl2 := bt hbl2 hb4
        go_wp2
        go_roundw
        case rel => exact ⟨4, by omega, by go_num, by rw [HT.out (by simp)], hbl2⟩
        case measure => simp [intOf]
      · go_wp2_with fail
        refine (has_8 _ _ _ _ _ _ _ x rs.length cap _).mono ?_
        rintro e wa ⟨rfl, hb⟩
        go_wp2
        go_roundw
        case rel => exact ⟨4, by omega, by go_num, by rw [HF.out (by simp)], bt hbl hb⟩
        case measure => simp [intOf]
    · have HT : Hid (0 < rs.length → bareS m c t ec sd ok sp rs 5 = bareS m c t ec sd ok sp rs 4 ++ (putV 5 1 ++ putV (2 + ((rgS rs).size : Int)) 1 ++ (rgS rs))) := fun h => bareS_yes m c t ec sd ok sp rs 4 _ (part_4 m c t ec sd ok sp rs h hn4)
      have HF : Hid (¬ (0 < rs.length) → bareS m c t ec sd ok sp rs 5 = bareS m c t ec sd ok sp rs 4) := fun h => bareS_no m c t ec sd ok sp rs 4 (by simp only [partL]; rw [if_neg h])
      have hix := ix_4 wr
      have hS := bareS_le m c t ec sd ok sp rs 4 (by omega)
      have hBz : (rgS rs).size ≤ 32 := by rw [rgS_size]; omega
      have HBD : Hid (∀ W, Rgs W (.slice x rs.length cap) rs → Calls Tryz.prog 132 #[.agg (#[.int .i64 m, .int .i64 c, .int .i64 t, .int .i64 ec, .bool sd, .bool ok, .bool sp, .slice x rs.length cap]), .int .i64 5] W fun e w' => e = .returned (.string (rgS rs)) ∧ Below W.heap.size W w') := fun W hv => body_5 _ _ _ _ _ _ _ _ rs W hv hn4 HRR.out
      obtain ⟨B, hB⟩ : ∃ B, B = rgS rs := ⟨_, rfl⟩
      rw [← hB] at HT HBD hBz
      clear hB
      generalize bareS m c t ec sd ok sp rs 4 = S at *
      have y1 := putV_le 5 1
      have y2 := putV_le (2 + (B.size : Int)) 1
      have r1 : ∀ W, (Op.stringOp .add (putV 5 1) (putV (2 + (B.size : Int)) 1)).run Tryz.prog W = .ok (.string (putV 5 1 ++ putV (2 + (B.size : Int)) 1)) W := fun W => run_string_add_sum W _ _ (by omega)
      have r2 : ∀ W, (Op.stringOp .add (putV 5 1 ++ putV (2 + (B.size : Int)) 1) B).run Tryz.prog W = .ok (.string (putV 5 1 ++ putV (2 + (B.size : Int)) 1 ++ B)) W := fun W => run_string_add_sum W _ _ (by simp only [ByteArray.size_append]; omega)
      have r3 : ∀ W, (Op.stringOp .add S (putV 5 1 ++ putV (2 + (B.size : Int)) 1 ++ B)).run Tryz.prog W = .ok (.string (S ++ (putV 5 1 ++ putV (2 + (B.size : Int)) 1 ++ B))) W := fun W => run_string_add_sum W _ _ (by simp only [ByteArray.size_append]; omega)
      have bz' : (B.size : Int) ≤ 32 := by omega
      clear y1 y2 hS hBz
      rcases Bool.eq_false_or_eq_true (decide (0 < rs.length)) with hh | hh
      · go_wp2_with fail
        refine (has_5 _ _ _ _ _ _ _ x rs.length cap _).mono ?_
        rw [hh]
        rintro e wa ⟨rfl, hb⟩
        clear c0 c1 c2 c3 c4 c5 c6 c7
        have hbl2 := bt hbl hb
        obtain ⟨⟨c0, c1, c2, c3, c4, c5, c6, c7⟩, -, -⟩ := (HA.out.later hbl2).eight
        go_wp2_with fail
        refine (HBD.out _ ((HV.out.later hbl2))).mono ?_
        rintro e wb ⟨rfl, hb2⟩
        replace hbl2 := bt hbl2 hb2
        go_wp2_with fail
        refine (put_o _ _ _).mono ?_
        rintro e wc ⟨rfl, hb3⟩
        replace hbl2 := bt hbl2 hb3
        go_wp2_with fail
        refine (put_o _ _ _).mono ?_
        rintro e wd ⟨rfl, hb4⟩
        replace hbl2 := bt hbl2 hb4
        go_wp2
        go_roundw
        case rel => exact ⟨5, by omega, by go_num, by rw [HT.out (by simpa using hh)], hbl2⟩
        case measure => simp [intOf]
      · go_wp2_with fail
        refine (has_5 _ _ _ _ _ _ _ x rs.length cap _).mono ?_
        rw [hh]
        rintro e wa ⟨rfl, hb⟩
        go_wp2
        go_roundw
        case rel => exact ⟨5, by omega, by go_num, by rw [HF.out (by simpa using hh)], bt hbl hb⟩
        case measure => simp [intOf]
    · have hz := bareS_size m c t ec sd ok sp rs
      generalize bareS m c t ec sd ok sp rs 5 = S at *
      have hsub : ((longN m sd ok sp rs.length : Nat) : Int) - (S.size : Int) = ((longN m sd ok sp rs.length - lenK m sd ok sp rs.length 5 : Nat) : Int) := by rw [hz]; omega
      have hj : longN m sd ok sp rs.length - lenK m sd ok sp rs.length 5 ≤ 3 := by omega
      have hLL : ((longN m sd ok sp rs.length : Nat) : Int) ≤ 40 := by omega
      have hSS : (S.size : Int) ≤ 40 := by omega
      have HSUB : Hid (((longN m sd ok sp rs.length : Nat) : Int) - (S.size : Int) = ((longN m sd ok sp rs.length - lenK m sd ok sp rs.length 5 : Nat) : Int)) := hsub
      have HLO : Hid (∀ W, Ord W → Calls Tryz.prog 135 #[.agg (#[.int .i64 m, .int .i64 c, .int .i64 t, .int .i64 ec, .bool sd, .bool ok, .bool sp, .slice x rs.length cap])] W fun e w' => e = .returned (.int .i64 (longN m sd ok sp rs.length)) ∧ Below W.heap.size W w') := fun W h => long_any m c t ec sd ok sp x rs.length cap W (by omega) h
      clear hz hsub
      generalize longN m sd ok sp rs.length - lenK m sd ok sp rs.length 5 = J at *
      generalize longN m sd ok sp rs.length = L at *
      have hR : (⟨(Lib.repeatL (⟨#[0]⟩ : ByteArray).data.toList J).toArray⟩ : ByteArray).size ≤ 3 := by
        show (Lib.repeatL [0] J).length ≤ 3
        rw [Lib.repeatL_length]; simp; omega
      have HREP : Hid (∀ W, Calls Tryz.prog 134 #[.string ⟨#[0]⟩, .int .i64 J] W fun e w' => e = .returned (.string ⟨(Lib.repeatL (⟨#[0]⟩ : ByteArray).data.toList J).toArray⟩) ∧ Below W.heap.size W w') := fun W => Tryz.strings_Repeat ⟨#[0]⟩ J W (by omega) (by show 1 * J ≤ _; omega)
      generalize (⟨(Lib.repeatL (⟨#[0]⟩ : ByteArray).data.toList J).toArray⟩ : ByteArray) = R at *
      have r1 : ∀ W, (Op.stringOp .add S R).run Tryz.prog W = .ok (.string (S ++ R)) W := fun W => run_string_add_sum W _ _ (by omega)
      clear hR
      go_wp2_with fail
      refine (HLO.out _ (HG.out.later hbl)).mono ?_
      rintro e wa ⟨rfl, hb⟩
      replace hbl := bt hbl hb
      go_wp2_with fail
      rw [HSUB.out]
      refine (HREP.out _).mono ?_
      rintro e wb ⟨rfl, hb2⟩
      replace hbl := bt hbl hb2
      go_wp2
      go_ret2
      exact ⟨by rw [HEE.out]; rfl, bt HL.out hbl⟩
end Go.Proofs.YtkpdmgoldngdaaaGreatDoor

namespace Go.Proofs.YtkpdmgoldngdaaaGreatDoor
open Go.RowKit
set_option maxRecDepth 100000

def runL (l : List UInt8) (o : Op) : Option Op := runO (l.length + 1) l o
theorem runL_zero (l : List UInt8) (o : Op) : runL (0 :: l) o = some o := by simp [runL, runO]
theorem runL_part (k n : UInt8) (b rest : List UInt8) (o o' : Op) (hk0 : ¬ k = 0) (hk1 : ¬ k = 1) (hn : n.toNat = b.length + 2) (hs : stepO o (k.toNat : Int) b = some o') : runL (k :: n :: (b ++ rest)) o = runL rest o' := by
  unfold runL
  rw [List.length_cons]
  conv => lhs; simp only [runO]
  rw [if_neg hk0, if_neg hk1, if_neg (by rw [List.length_append]; omega), hn, Nat.add_sub_cancel, List.take_left, List.drop_left, hs]
  exact runO_fuel _ _ _ _ (by simp only [List.length_cons, List.length_append]; omega) (by omega)
theorem runL_run (l : List UInt8) (o : Op) (f : Nat) (h : l.length < f) : runO f l o = runL l o := runO_fuel f l o (l.length + 1) h (by omega)
theorem pairs_rgL (rs : List (Int × Int)) (h : ∀ r ∈ rs, rgB r = true) : pairsL (rgL rs) = rs := by
  have key : ∀ (rs : List (Int × Int)), (∀ r ∈ rs, rgB r = true) → ∀ i r, rs[i]? = some r → numL (((rgL rs).drop (i * 8)).take 4) = r.1 ∧ numL (((rgL rs).drop (i * 8 + 4)).take 4) = r.2 := by
    intro rs
    induction rs with
    | nil => intro _ i r hr; simp at hr
    | cons q rs ih =>
      intro h i r hr
      have e : rgL (q :: rs) = txtL q.1 4 ++ (txtL q.2 4 ++ rgL rs) := by simp [rgL]
      have l1 : (txtL q.1 4).length = 4 := txtL_length _ _
      have l2 : (txtL q.2 4).length = 4 := txtL_length _ _
      obtain ⟨⟨a0, a1⟩, ⟨b0, b1⟩, -⟩ := rgB_t (h q (by simp))
      cases i with
      | zero =>
        simp only [List.getElem?_cons_zero, Option.some.injEq] at hr
        subst hr
        rw [e, Nat.zero_mul, List.drop_zero, Nat.zero_add]
        constructor
        · rw [List.take_left' l1]; exact num_txt _ 4 a0 (by show q.1 < 4294967296; omega)
        · rw [List.drop_left' l1, List.take_left' l2]; exact num_txt _ 4 b0 (by show q.2 < 4294967296; omega)
      | succ i =>
        simp only [List.getElem?_cons_succ] at hr
        obtain ⟨h1, h2⟩ := ih (fun r hr => h r (by simp [hr])) i r hr
        have d : ∀ j, (rgL (q :: rs)).drop (8 + j) = (rgL rs).drop j := by
          intro j
          rw [← List.drop_drop, e, ← List.append_assoc, List.drop_left' (by rw [List.length_append, l1, l2])]
        rw [show (i + 1) * 8 = 8 + i * 8 by omega, show 8 + i * 8 + 4 = 8 + (i * 8 + 4) by omega, d, d]
        exact ⟨h1, h2⟩
  unfold pairsL
  rw [rgL_len, Nat.mul_div_cancel _ (by decide)]
  apply List.ext_getElem?
  intro i
  by_cases hi : i < rs.length
  · rw [List.getElem?_map, List.getElem?_range hi, List.getElem?_eq_getElem hi]
    obtain ⟨h1, h2⟩ := key rs h i _ (List.getElem?_eq_getElem hi)
    simp only [Option.map_some, h1, h2]
  · rw [List.getElem?_eq_none (by simp; omega), List.getElem?_eq_none (by omega)]
theorem one_byte (n : Nat) (h : n < 256) : txtL (n : Int) 1 = [UInt8.ofNat n] ∧ (UInt8.ofNat n).toNat = n := by
  refine ⟨?_, by simp; omega⟩
  simp [txtL, byteAt]
  congr 1
  omega
set_option maxHeartbeats 1000000 in
theorem runL_bare (m c t ec : Int) (sd ok sp : Bool) (rs : List (Int × Int)) (h : mayO m c t ec sd ok sp rs = true) (rest : List UInt8) : runL (bareL m c t ec sd ok sp rs 5 ++ rest) Op.zero = runL rest ⟨m, c, t, ec, sd, ok, sp, rs⟩ := by
  have hn4 := mayO_short h
  obtain ⟨⟨h0, h1⟩, ⟨g0, g1⟩, hc, ⟨t0, t1⟩, ⟨e0, e1⟩, hp, -, hrr⟩ := mayO_t h
  have eb : bareL m c t ec sd ok sp rs 5 = partL m c t ec sd ok sp rs 0 ++ (partL m c t ec sd ok sp rs 1 ++ (partL m c t ec sd ok sp rs 2 ++ (partL m c t ec sd ok sp rs 3 ++ partL m c t ec sd ok sp rs 4))) := by
    unfold bareL
    rw [show List.range 5 = [0, 1, 2, 3, 4] from rfl]
    simp
  rw [eb]
  simp only [List.append_assoc]
  -- MSS
  have s1 : ∀ r, runL (partL m c t ec sd ok sp rs 0 ++ r) Op.zero = runL r ⟨m, 0, 0, 0, false, false, false, []⟩ := by
    intro r
    by_cases hm : m = 0
    · subst hm; simp only [partL]; rw [if_neg (by simp)]; rfl
    · simp only [partL]
      rw [if_pos hm]
      have nm : numL (txtL m 2) = m := num_txt m 2 h0 (by show m < 65536; omega)
      refine runL_part 2 4 (txtL m 2) r _ _ (by decide) (by decide) (by rw [txtL_length]; rfl) ?_
      show stepO Op.zero 2 (txtL m 2) = _
      have hf : followsB Op.zero 2 (txtL m 2).length = true := by rw [txtL_length]; rfl
      have hs : saysB 2 (txtL m 2) = true := by simp [saysB, nm, hm]
      unfold stepO
      rw [hf, hs, Bool.and_self, if_pos rfl]
      simp [takeO, nm, Op.zero]
  have s2 : ∀ r, runL (partL m c t ec sd ok sp rs 1 ++ r) ⟨m, 0, 0, 0, false, false, false, []⟩ = runL r ⟨m, c, 0, 0, sd, false, false, []⟩ := by
    intro r
    cases sd with
    | false =>
      have hc0 : c = 0 := by simpa using hc
      subst hc0; simp only [partL]; rw [if_neg (by simp)]; rfl
    | true =>
      simp only [partL]
      rw [if_pos trivial]
      have nm : numL (txtL c 1) = c := num_txt c 1 g0 (by show c < 256; omega)
      refine runL_part 3 3 (txtL c 1) r _ _ (by decide) (by decide) (by rw [txtL_length]; rfl) ?_
      show stepO _ 3 (txtL c 1) = _
      have hf : followsB ⟨m, 0, 0, 0, false, false, false, []⟩ 3 (txtL c 1).length = true := by rw [txtL_length]; rfl
      have hs : saysB 3 (txtL c 1) = true := by simp [saysB]
      unfold stepO
      rw [hf, hs, Bool.and_self, if_pos rfl]
      simp [takeO, nm]
  have s3 : ∀ r, runL (partL m c t ec sd ok sp rs 2 ++ r) ⟨m, c, 0, 0, sd, false, false, []⟩ = runL r ⟨m, c, 0, 0, sd, ok, false, []⟩ := by
    intro r
    cases ok with
    | false => simp only [partL]; rw [if_neg (by simp)]; rfl
    | true =>
      simp only [partL]
      rw [if_pos trivial]
      refine runL_part 4 2 [] r _ _ (by decide) (by decide) rfl ?_
      show stepO _ 4 [] = _
      have hf : followsB ⟨m, c, 0, 0, sd, false, false, []⟩ 4 ([] : List UInt8).length = true := rfl
      have hs : saysB 4 [] = true := by simp [saysB]
      unfold stepO
      rw [hf, hs, Bool.and_self, if_pos rfl]
      simp [takeO]
  have s4 : ∀ r, runL (partL m c t ec sd ok sp rs 3 ++ r) ⟨m, c, 0, 0, sd, ok, false, []⟩ = runL r ⟨m, c, t, ec, sd, ok, sp, []⟩ := by
    intro r
    cases sp with
    | false =>
      obtain ⟨rfl, rfl⟩ : t = 0 ∧ ec = 0 := by simpa using hp
      simp only [partL]; rw [if_neg (by simp)]; rfl
    | true =>
      simp only [partL]
      rw [if_pos trivial]
      have n1 : numL (txtL t 4) = t := num_txt t 4 t0 (by show t < 4294967296; omega)
      have n2 : numL (txtL ec 4) = ec := num_txt ec 4 e0 (by show ec < 4294967296; omega)
      have l4 : (txtL t 4).length = 4 := txtL_length _ _
      have l8 : (txtL t 4 ++ txtL ec 4).length = 8 := by rw [List.length_append, txtL_length, txtL_length]
      refine runL_part 8 10 (txtL t 4 ++ txtL ec 4) r _ _ (by decide) (by decide) (by rw [l8]; rfl) ?_
      show stepO _ 8 (txtL t 4 ++ txtL ec 4) = _
      have hf : followsB ⟨m, c, 0, 0, sd, ok, false, []⟩ 8 (txtL t 4 ++ txtL ec 4).length = true := by rw [l8]; rfl
      have hs : saysB 8 (txtL t 4 ++ txtL ec 4) = true := by simp [saysB]
      unfold stepO
      rw [hf, hs, Bool.and_self, if_pos rfl]
      simp [takeO, List.take_left' l4, List.drop_left' l4, n1, n2]
  have s5 : ∀ r, runL (partL m c t ec sd ok sp rs 4 ++ r) ⟨m, c, t, ec, sd, ok, sp, []⟩ = runL r ⟨m, c, t, ec, sd, ok, sp, rs⟩ := by
    intro r
    by_cases hr : 0 < rs.length
    · simp only [partL]
      rw [if_pos hr]
      have hb := one_byte (2 + rs.length * 8) (by omega)
      rw [show (2 + (rs.length : Int) * 8) = ((2 + rs.length * 8 : Nat) : Int) by omega, hb.1]
      show runL (5 :: UInt8.ofNat (2 + rs.length * 8) :: (rgL rs ++ r)) _ = _
      refine runL_part 5 _ (rgL rs) r _ _ (by decide) (by decide) (by rw [hb.2, rgL_len]; omega) ?_
      show stepO _ 5 (rgL rs) = _
      have hf : followsB ⟨m, c, t, ec, sd, ok, sp, []⟩ 5 (rgL rs).length = true := by
        rw [rgL_len]
        unfold followsB
        rw [if_pos rfl, decide_eq_true (show rs.length * 8 ≠ 0 ∧ rs.length * 8 % 8 = 0 by omega)]
        rfl
      have hs : saysB 5 (rgL rs) = true := by simp [saysB]
      unfold stepO
      rw [hf, hs, Bool.and_self, if_pos rfl]
      simp [takeO, pairs_rgL rs hrr]
    · have hr0 : rs = [] := List.eq_nil_of_length_eq_zero (by omega)
      subst hr0
      simp only [partL]; rw [if_neg (by simp)]; rfl
  rw [s1, s2, s3, s4, s5]
theorem runL_zeros (o : Op) (k : Nat) : runL (List.replicate k 0) o = some o := by
  cases k with
  | zero => rfl
  | succ k => rw [List.replicate_succ]; exact runL_zero _ _
theorem decO_run (l : List UInt8) (o : Op) (hl : l.length ≤ 40) (hr : runL l Op.zero = some o) (hm : o.may = true) : decO l = some o := by
  unfold decO
  rw [if_neg (by omega), runL_run l Op.zero 41 (by omega), hr]
  simp [hm]
theorem dec_enc (m c t ec : Int) (sd ok sp : Bool) (rs : List (Int × Int)) (h : mayO m c t ec sd ok sp rs = true) : decO (encO m c t ec sd ok sp rs).data.toList = some ⟨m, c, t, ec, sd, ok, sp, rs⟩ := by
  have hz := encO_size m c t ec sd ok sp rs
  have h40 := (mayO_t h).2.2.2.2.2.2.1
  refine decO_run _ _ (by rw [toList_size, hz]; exact h40) ?_ h
  show runL (encL m c t ec sd ok sp rs) _ = _
  unfold encL
  rw [runL_bare m c t ec sd ok sp rs h, runL_zeros]
end Go.Proofs.YtkpdmgoldngdaaaGreatDoor
