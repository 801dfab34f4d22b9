/- Proved: of any packet and any size the data of the pieces, one behind the other, are the packet's; each may be, is as short as it must be, and begins where the one ahead of it ends; pieces that are cut again have the same data; no condition. -/
import Derived.Test.YtdnfabcjkbadoaaRows
import Derived.Test.YtdnfabcjkbadoaaWhl
import Derived.Test.YtdnfabcjkbadoaaSame
import Derived.Test.YtdnfabcjkbadoaaEnb
import Derived.Deep.QuietTactic
import Derived.BigQuiet
import Derived.WalkSmall
import Derived.WalkKit
import Derived.ProofKit
import Derived.OpenShut
import Derived.ShutString
import Derived.ChangeOld
import Derived.Below
import Derived.Carry
import Derived.SizedLaws
import Derived.Deep.Fields
namespace Go.Proofs.Ytdnfabcjkbadoaa.ipWhole
open Go.ChangeShapes Go.WideShapes Go.ChangeAt Go.RowKit
open Go.ChangeMaps (open_string)
set_option linter.unusedVariables false

theorem own : ownKnob Try.prog.godebug = none := by kernel_rfl
theorem laidOut : laidOutB Try.prog = true := by kernel_rfl

theorem open_fields {H : Type} {enc : TypeId × Value → H} {P : Program} {w : World} {base : Nat} {spare : Nat → Bool} {held : Bool} {r : Reach} {b0 : Nat} {t : TypeId} {fs : Array Field} {v : Value} {d : DataW H} {p : List MemPlace} (hs : P.underlying t = some (.struct fs)) (hone : Go.Deep.oneCellFields P fs = true) (hC : P.cellsOf t = fs.size)
    (hv : Value.okWide P w r b0 t v) (h : DataW.Trod enc P w base spare held t v d p) :
    ∃ (cs : Array Value) (parts : List (DataW H)), v = .agg cs ∧ d = .agg parts ∧ cs.size = fs.size ∧ ∀ (i : Nat) (f : Field), fs[i]? = some f → ∃ n x, DataW.trod enc P w base spare held n f.type ((cs.toList.drop i).take 1) = some x ∧ parts[i]? = some x.1 := by
  obtain ⟨cs, rfl, hsz⟩ := okWide_struct hs hv
  obtain ⟨fuel, hf⟩ := h
  obtain ⟨xs, n, _, hx, hl, hlen, hfs⟩ := DataW.trod_struct hs hf
  have hd : d = .agg (xs.map (·.1)) := congrArg Prod.fst hx
  refine ⟨cs, xs.map (·.1), rfl, hd, hsz.trans hC, fun i f hi => ?_⟩
  obtain ⟨o1, k1⟩ := Go.Deep.hone_of hone i f hi
  have := hfs i f hi
  have hlt : i < xs.length := by rw [hlen]; exact (Array.getElem?_eq_some_iff.1 hi).1
  rw [o1, k1, List.getElem?_eq_getElem hlt] at this
  exact ⟨n, _, by simpa [Value.cells] using this, by simp [List.getElem?_eq_getElem hlt]⟩
theorem sized_field {H : Type} {P : Program} {ts : List TypeId} {ds : List (DataW H)} (h : (DataW.weightsEach P ts ds).all (· ≤ reachBytes) = true) {j i : Nat} {t ft : TypeId} {fs : Array Field} {parts : List (DataW H)} {bytes : List UInt8} (ht : ts[j]? = some t) (hd : ds[j]? = some (.agg parts)) (hu : P.underlying t = some (.struct fs)) (hf : (fs.toList.map (·.type))[i]? = some ft) (hp : parts[i]? = some (.lit (.string bytes))) : bytes.length ≤ reachBytes := by
  have := List.all_eq_true.1 h _ (DataW.weights_mem_each ht hd bytes.length (by simp only [DataW.weights, hu]; exact DataW.weights_mem_each hf hp _ (by simp [DataW.weights])))
  simpa using this

theorem cells23 : Try.prog.cellsOf 23 = 10 := by kernel_rfl
theorem open23 {H : Type} {enc : TypeId × Value → H} {w : World} {base : Nat} {spare : Nat → Bool} {held : Bool} {r : Reach} {b0 : Nat} {v : Value} {d : DataW H} {p : List MemPlace} (hv : Value.okWide Try.prog w r b0 23 v) (h : DataW.Trod enc Try.prog w base spare held 23 v d p) :
    ∃ (f0 : Int) (f1 : Int) (f2 : Int) (f3 : Int) (f4 : Int) (f5 : Int) (f6 : Bool) (f7 : Bool) (f8 : ByteArray) (f9 : ByteArray) (parts : List (DataW H)), v = .agg #[.int .i64 f0, .int .i64 f1, .int .i64 f2, .int .i64 f3, .int .i64 f4, .int .i64 f5, .bool f6, .bool f7, .string f8, .string f9] ∧ d = .agg parts ∧ (Lit.int .i64 f0).wf = true ∧ (Lit.int .i64 f1).wf = true ∧ (Lit.int .i64 f2).wf = true ∧ (Lit.int .i64 f3).wf = true ∧ (Lit.int .i64 f4).wf = true ∧ (Lit.int .i64 f5).wf = true ∧ f8.size ≤ maxLen ∧ f9.size ≤ maxLen ∧ parts[8]? = some (.lit (.string f8.data.toList)) ∧ parts[9]? = some (.lit (.string f9.data.toList)) := by
  obtain ⟨⟨l⟩, parts, rfl, hdp, hz, hf⟩ := open_fields Try.underlying23 (by kernel_rfl) cells23 hv h
  have hz' : l.length = 10 := by simpa using hz
  match l, hz' with
  | [c0, c1, c2, c3, c4, c5, c6, c7, c8, c9], _ =>
    obtain ⟨n0, x0, t0, m0⟩ := hf 0 _ rfl
    obtain ⟨f0, q0, -, e0⟩ := DataW.trod_int Try.underlying3 t0
    have p0 : c0 = .int .i64 f0 := by simpa using q0
    obtain ⟨n1, x1, t1, m1⟩ := hf 1 _ rfl
    obtain ⟨f1, q1, -, e1⟩ := DataW.trod_int Try.underlying3 t1
    have p1 : c1 = .int .i64 f1 := by simpa using q1
    obtain ⟨n2, x2, t2, m2⟩ := hf 2 _ rfl
    obtain ⟨f2, q2, -, e2⟩ := DataW.trod_int Try.underlying3 t2
    have p2 : c2 = .int .i64 f2 := by simpa using q2
    obtain ⟨n3, x3, t3, m3⟩ := hf 3 _ rfl
    obtain ⟨f3, q3, -, e3⟩ := DataW.trod_int Try.underlying3 t3
    have p3 : c3 = .int .i64 f3 := by simpa using q3
    obtain ⟨n4, x4, t4, m4⟩ := hf 4 _ rfl
    obtain ⟨f4, q4, -, e4⟩ := DataW.trod_int Try.underlying3 t4
    have p4 : c4 = .int .i64 f4 := by simpa using q4
    obtain ⟨n5, x5, t5, m5⟩ := hf 5 _ rfl
    obtain ⟨f5, q5, -, e5⟩ := DataW.trod_int Try.underlying3 t5
    have p5 : c5 = .int .i64 f5 := by simpa using q5
    obtain ⟨n6, x6, t6, m6⟩ := hf 6 _ rfl
    obtain ⟨f6, q6, -⟩ := DataW.trod_bool Try.underlying4 t6
    have p6 : c6 = .bool f6 := by simpa using q6
    obtain ⟨n7, x7, t7, m7⟩ := hf 7 _ rfl
    obtain ⟨f7, q7, -⟩ := DataW.trod_bool Try.underlying4 t7
    have p7 : c7 = .bool f7 := by simpa using q7
    obtain ⟨n8, x8, t8, m8⟩ := hf 8 _ rfl
    obtain ⟨f8, q8, y8, e8⟩ := DataW.trod_string Try.underlying9 t8
    rw [y8] at m8
    have p8 : c8 = .string f8 := by simpa using q8
    obtain ⟨n9, x9, t9, m9⟩ := hf 9 _ rfl
    obtain ⟨f9, q9, y9, e9⟩ := DataW.trod_string Try.underlying9 t9
    rw [y9] at m9
    have p9 : c9 = .string f9 := by simpa using q9
    subst p0 p1 p2 p3 p4 p5 p6 p7 p8 p9
    exact ⟨f0, f1, f2, f3, f4, f5, f6, f7, f8, f9, parts, rfl, hdp, e0, e1, e2, e3, e4, e5, e8, e9, m8, m9⟩

-- WALK
theorem own_slice {w : World} {base n : Nat} {v : Value} {xs : List Value} (h : w.ownsRow base 23 10 v n xs) : ∃ o cap, v = .slice o n cap ∧ (0 < n → ∃ g, o = some ⟨g, 0, none⟩) := by
  rcases h.2 with ⟨rfl, h0⟩ | ⟨g, cap, _, rfl, _⟩
  · subst h0; exact ⟨none, 0, rfl, fun h => absurd h (by decide)⟩
  · exact ⟨_, cap, rfl, fun _ => ⟨g, rfl⟩⟩

set_option maxRecDepth 100000 in
set_option maxHeartbeats 4000000 in
theorem walk_err (f t tl pr id fr : Int) (mo dn : Bool) (op da : ByteArray) (most c : Int) (w : World) (ho : op.size ≤ 1125899906842624) (hd : da.size ≤ 1125899906842624) (hcut : Cuts f t tl pr id fr mo dn op da most c []) (hc : ¬ c = 0) :
    Calls Try.prog 8 #[.agg #[.int .i64 f, .int .i64 t, .int .i64 tl, .int .i64 pr, .int .i64 id, .int .i64 fr, .bool mo, .bool dn, .string op, .string da], .int .i64 most] w fun e w' => e = .returned (.bool true) ∧ Below w.heap.size w w' := by
  have hA := At.box w #[.int .i64 f, .int .i64 t, .int .i64 tl, .int .i64 pr, .int .i64 id, .int .i64 fr, .bool mo, .bool dn, .string op, .string da] 23
  have hl := bel1 w (.cells #[.int .i64 f, .int .i64 t, .int .i64 tl, .int .i64 pr, .int .i64 id, .int .i64 fr, .bool mo, .bool dn, .string op, .string da] 23)
  have hc' : (c != 0) = true := bne_iff_ne.2 hc
  go_enter Try.func8, Try.ntmps8
  go_wp2_with fail
  refine (works_any _).mono ?_
  rintro e w1 ⟨rfl, hb⟩
  replace hl := bt hl hb
  replace hA := hA.later hb
  clear hb
  obtain ⟨⟨c0, c1, c2, c3, c4, c5, c6, c7, c8, c9⟩, -, -⟩ := hA.ten
  go_wp2_with fail
  refine (pieces_any f t tl pr id fr mo dn op da most c [] _ ho hd hcut).mono ?_
  rintro e w2 ⟨lv, rfl, hb, hown⟩
  replace hl := bt hl hb
  obtain ⟨o, cap, rfl, -⟩ := own_slice hown
  go_wp2
  go_ret
  exact ⟨rfl, hl⟩

set_option maxRecDepth 100000 in
set_option maxHeartbeats 8000000 in
theorem walk_ok (f t tl pr id fr : Int) (mo dn : Bool) (op da : ByteArray) (most : Int) (ps : List Pk) (w : World) (ho : op.size ≤ 1125899906842624) (hd : da.size ≤ 1125899906842624) (hcut : Cuts f t tl pr id fr mo dn op da most 0 ps) (hlen : ps.length ≤ 65536) (hcat : catD ps = da) (hgood : ∀ i q, ps[i]? = some q → Good f t tl pr id fr mo dn op da most ps i q) (hda : da.size ≤ 65535) (hop : op.size ≤ 40) (hf0 : 0 ≤ fr) (hf1 : fr ≤ 8191) :
    Calls Try.prog 8 #[.agg #[.int .i64 f, .int .i64 t, .int .i64 tl, .int .i64 pr, .int .i64 id, .int .i64 fr, .bool mo, .bool dn, .string op, .string da], .int .i64 most] w fun e w' => e = .returned (.bool true) ∧ Below w.heap.size w w' := by
  have hA := At.box w #[.int .i64 f, .int .i64 t, .int .i64 tl, .int .i64 pr, .int .i64 id, .int .i64 fr, .bool mo, .bool dn, .string op, .string da] 23
  have hl := bel1 w (.cells #[.int .i64 f, .int .i64 t, .int .i64 tl, .int .i64 pr, .int .i64 id, .int .i64 fr, .bool mo, .bool dn, .string op, .string da] 23)
  have HG : Hid (∀ i q, ps[i]? = some q → Good f t tl pr id fr mo dn op da most ps i q) := hgood
  have HC : Hid (catD ps = da) := hcat
  have hlen' : (ps.length : Int) ≤ 65536 := by omega
  have hop' : (op.size : Int) ≤ 40 := by omega
  have hda' : (da.size : Int) ≤ 65535 := by omega
  clear hgood hcat
  go_enter Try.func8, Try.ntmps8
  go_wp2_with fail
  refine (works_any _).mono ?_
  rintro e w0 ⟨rfl, hb⟩
  replace hl := bt hl hb
  replace hA := hA.later hb
  clear hb
  obtain ⟨⟨c0, c1, c2, c3, c4, c5, c6, c7, c8, c9⟩, -, -⟩ := hA.ten
  go_wp2_with fail
  refine (pieces_any f t tl pr id fr mo dn op da most 0 ps _ ho hd hcut).mono ?_
  rintro e w2 ⟨lv, rfl, hb, hown⟩
  replace hl := bt hl hb
  replace hA := hA.later hb
  clear hb hcut c0 c1 c2 c3 c4 c5 c6 c7 c8 c9
  obtain ⟨lo, cap, rfl, hlo⟩ := own_slice hown
  obtain ⟨⟨c0, c1, c2, c3, c4, c5, c6, c7, c8, c9⟩, -, -⟩ := hA.ten
  go_wp2
  go_quiet (fail)
  replace hl := below_drewN hl nq
  replace hA := hA.later (below_drewN (Below.refl _ _) nq)
  replace hown := own_later hown (below_drewN (Below.refl _ _) nq)
  clear c0 c1 c2 c3 c4 c5 c6 c7 c8 c9
  generalize w2.drewN nq = w1 at *
  go_wp2
  go_loopw [7, 8, 36] (fun dt at_ ix W => ∃ (k : Nat) (a : Int), k ≤ ps.length ∧ dt = .string (catD (ps.take k)) ∧ at_ = .int .i64 a ∧ ix = .int .i64 (k : Int) ∧ (∀ q, ps[k]? = some q → q.fr = a) ∧ 0 ≤ a ∧ a ≤ 20000 ∧ Below w1.heap.size w1 W) (fun _ _ ix _ => ps.length - (intOf ix).toNat)
  case atStart => exact ⟨0, fr, Nat.zero_le _, rfl, rfl, rfl, fun q hq => (HG.out 0 q hq).first rfl, hf0, by omega, Below.refl _ _⟩
  case round =>
    obtain ⟨k, a, hk, rfl, rfl, rfl, ha, ha0, ha1, hbel⟩ := hrel
    have hA2 := hA.later hbel
    by_cases hlt : k < ps.length
    · obtain ⟨q, hq⟩ : ∃ q, ps[k]? = some q := ⟨ps[k], List.getElem?_eq_getElem hlt⟩
      obtain ⟨g, rfl⟩ := hlo (by omega)
      have G := HG.out k q hq
      have cells := row_cells (own_later hown hbel) k q hq
      have hstep := catD_step ps k q hq
      have hle1 := catD_le ps (k + 1)
      rw [HC.out, hstep, ByteArray.size_append] at hle1
      have HST : Hid (catD (ps.take (k + 1)) = catD (ps.take k) ++ q.da) := hstep
      have HNX : Hid (∀ q', ps[k + 1]? = some q' → q'.fr = q.fr + (q.da.size : Int) / 8) := G.next
      have hmore := G.more
      have hmay := G.may
      have hsize := G.size
      have hfa := ha q hq
      obtain ⟨g1, g2, g3, g4, g5, g6, g7, -, -, -, -, -⟩ := G
      clear hq ha hstep
      obtain ⟨qf, qt, qtl, qpr, qid, F, M, qdn, qop, D⟩ := q
      simp only at g1 g2 g3 g4 g5 g6 g7 hmore hmay hsize hfa HST HNX hle1 cells
      subst g1 g2 g3 g4 g5 g6 g7 hfa
      obtain ⟨a0, a1, a2, a3, a4, a5, a6, a7, a8, a9⟩ := cells
      generalize catD (ps.take k) = T at *
      have hDs : D.size ≤ 65535 := by omega
      have hDs' : (D.size : Int) ≤ 65535 := by omega
      have hTs : T.size ≤ 65535 := by omega
      have hdz : D.size ≤ 1125899906842624 := by omega
      have hez := encP_size qf qt qtl qpr qid F M qdn qop D
      have hEn : ∀ W, Calls Try.prog 9 #[.agg #[.int .i64 qf, .int .i64 qt, .int .i64 qtl, .int .i64 qpr, .int .i64 qid, .int .i64 F, .bool M, .bool qdn, .string qop, .string D]] W fun e w' => e = .returned (.tuple #[.string (encP qf qt qtl qpr qid F M qdn qop D), .int .i64 0]) ∧ Below W.heap.size W w' := fun W => enc_y hmay W
      obtain ⟨B, hBd⟩ : ∃ B, B = encP qf qt qtl qpr qid F M qdn qop D := ⟨_, rfl⟩
      rw [← hBd] at hez hEn
      have hBm : (B.size : Int) ≤ most := by omega
      clear hez hBd
      obtain ⟨c', qs, hcut', hlen2, hways⟩ := cuts_good qf qt qtl qpr qid F M qdn qop D (28 + (qop.size : Int))
      have hPi := fun W => pieces_any qf qt qtl qpr qid F M qdn qop D (28 + (qop.size : Int)) c' qs W ho hdz hcut'
      have hways2 : (c' = 2 ∧ qdn = true ∧ qs = []) ∨ (c' = 0 ∧ catD qs = D) := by
        rcases hways with ⟨-, h1, h2⟩ | ⟨h1, h2, -⟩
        · obtain ⟨h3, h4⟩ := h2 hmay (by omega) (by omega)
          exact .inl ⟨h3, h4, h1⟩
        · exact .inr ⟨h1, h2⟩
      clear hways hcut'
      have hlast : ((k : Int) == (ps.length : Int) - 1) = true ∧ M = mo ∨ ((k : Int) == (ps.length : Int) - 1) = false ∧ M = true := by
        by_cases e : k + 1 = ps.length
        · exact .inl ⟨by rw [beq_iff_eq]; omega, hmore.2 e⟩
        · exact .inr ⟨by rw [beq_eq_false_iff_ne]; omega, hmore.1 (by omega)⟩
      clear hmore
      have hlI : (k : Int) < (ps.length : Int) := by omega
      have hl0 : (0 : Int) ≤ (k : Int) := by omega
      have hqs : (qs.length : Int) ≤ 65536 := by omega
      go_wp2_with fail
      refine (hEn _).mono ?_
      rintro e w3 ⟨rfl, hb⟩
      have hX := (At.box wr #[.int .i64 qf, .int .i64 qt, .int .i64 qtl, .int .i64 qpr, .int .i64 qid, .int .i64 F, .bool M, .bool qdn, .string qop, .string D] 23).later hb
      have hbel3 := bt hbel (bt (bel1 wr (.cells #[.int .i64 qf, .int .i64 qt, .int .i64 qtl, .int .i64 qpr, .int .i64 qid, .int .i64 F, .bool M, .bool qdn, .string qop, .string D] 23)) hb)
      have hA3 := hA.later hbel3
      clear hb a0 a1 a2 a3 a4 a5 a6 a7 a8 a9 hA2
      obtain ⟨⟨c0, c1, c2, c3, c4, c5, c6, c7, c8, c9⟩, -, -⟩ := hA3.ten
      obtain ⟨⟨d0, d1, d2, d3, d4, d5, d6, d7, d8, d9⟩, -, -⟩ := hX.ten
      rcases hlast with ⟨hlast, rfl⟩ | ⟨hlast, rfl⟩
      all_goals
        go_wp2_with fail
        refine (hPi _).mono ?_
        rintro e w4 ⟨vq, rfl, hb, hownq⟩
        have hX4 := hX.later hb
        have hbel4 := bt hbel3 hb
        clear hb hA3 hX c0 c1 c2 c3 c4 c5 c6 c7 c8 c9 d0 d1 d2 d3 d4 d5 d6 d7 d8 d9
        obtain ⟨qo, qcap, rfl, hqo⟩ := own_slice hownq
        go_wp2_with fail
        go_loopw [16, 128] (fun sm ix W => ∃ m : Nat, m ≤ qs.length ∧ sm = .string (catD (qs.take m)) ∧ ix = .int .i64 (m : Int) ∧ Below w4.heap.size w4 W) (fun _ ix _ => qs.length - (intOf ix).toNat)
        case atStart => exact ⟨0, Nat.zero_le _, rfl, rfl, Below.refl _ _⟩
        case round =>
          obtain ⟨m, hm, rfl, rfl, hbm⟩ := hrel
          by_cases hmlt : m < qs.length
          · obtain ⟨g', rfl⟩ := hqo (by omega)
            obtain ⟨y, hy⟩ : ∃ y, qs[m]? = some y := ⟨qs[m], List.getElem?_eq_getElem hmlt⟩
            obtain ⟨y0, y1, y2, y3, y4, y5, y6, y7, y8, y9⟩ := row_cells (own_later hownq hbm) m y hy
            have hst := catD_step qs m y hy
            have hle2 := catD_le qs (m + 1)
            rw [hst, ByteArray.size_append] at hle2
            have hqd : (catD qs).size ≤ 65535 := by
              rcases hways2 with ⟨-, -, h⟩ | ⟨-, h⟩
              · rw [h]; decide
              · rw [h]; exact hDs
            have HS2 : Hid (catD (qs.take (m + 1)) = catD (qs.take m) ++ y.da) := hst
            clear hst hy
            obtain ⟨yf, yt, ytl, ypr, yid, yF, yM, ydn, yop, yD⟩ := y
            simp only at y0 y1 y2 y3 y4 y5 y6 y7 y8 y9 hle2 HS2
            generalize catD (qs.take m) = T2 at *
            have hm0 : (0 : Int) ≤ (m : Int) := by omega
            have hm1 : (m : Int) < (qs.length : Int) := by omega
            have hT2 : T2.size ≤ 65535 := by omega
            have hy2 : yD.size ≤ 65535 := by omega
            go_wp2
            go_roundw
            case rel => exact ⟨m + 1, hmlt, by rw [HS2.out], by go_num, bt hbm (bel1 _ _)⟩
            case measure => simp [intOf]; omega
          · have hme : m = qs.length := by omega
            subst hme
            rw [List.take_length]
            have hX5 := hX4.later hbm
            have hbel5 := bt hbel4 hbm
            obtain ⟨⟨d0, d1, d2, d3, d4, d5, d6, d7, d8, d9⟩, -, -⟩ := hX5.ten
            clear hX4 hX5 hownq hbm hbel4 hbel3 hbel
            have hF0 : 0 ≤ F / 1 := by omega
            have hD8 : 0 ≤ (D.size : Int) / 8 := by omega
            have hD9 : (D.size : Int) / 8 ≤ 8191 := by omega
            have hFm := (mayP_q hmay).2.2.2.2.2.1
            rcases hways2 with ⟨rfl, rfl, -⟩ | ⟨rfl, hcD⟩
            · go_wp2
              go_roundw
              case rel => exact ⟨k + 1, F + (D.size : Int) / 8, hlt, by rw [HST.out], rfl, by go_num, HNX.out, by omega, by omega, hbel5⟩
              case measure => simp [intOf]; omega
            · rw [hcD]
              go_wp2
              go_roundw
              case rel => exact ⟨k + 1, F + (D.size : Int) / 8, hlt, by rw [HST.out], rfl, by go_num, HNX.out, by omega, by omega, hbel5⟩
              case measure => simp [intOf]; omega
    · have hk' : k = ps.length := by omega
      subst hk'
      rw [List.take_length, HC.out]
      obtain ⟨⟨c0, c1, c2, c3, c4, c5, c6, c7, c8, c9⟩, -, -⟩ := hA2.ten
      go_wp2
      go_ret
      exact ⟨rfl, hl.trans (hbel.mono hl.size)⟩

theorem walk (f : Int) (_ : (Lit.int .i64 f).wf = true) (t : Int) (_ : (Lit.int .i64 t).wf = true) (tl : Int) (_ : (Lit.int .i64 tl).wf = true) (pr : Int) (_ : (Lit.int .i64 pr).wf = true) (id : Int) (_ : (Lit.int .i64 id).wf = true) (fr : Int) (_ : (Lit.int .i64 fr).wf = true) (mo dn : Bool) (op : ByteArray) (_ : op.size ≤ maxLen) (ho0 : op.size ≤ 140737488351232) (da : ByteArray) (_ : da.size ≤ maxLen) (hd0 : da.size ≤ 140737488351232)
    (most : Int) (_ : (Lit.int .i64 most).wf = true) (w : World) :
    Calls Try.prog 8 #[.agg #[.int .i64 f, .int .i64 t, .int .i64 tl, .int .i64 pr, .int .i64 id, .int .i64 fr, .bool mo, .bool dn, .string op, .string da], .int .i64 most] w fun e w' => e = .returned (.bool true) ∧ Below w.heap.size w w' := by
  have ho : op.size ≤ 1125899906842624 := by omega
  have hd : da.size ≤ 1125899906842624 := by omega
  obtain ⟨c, ps, hcut, hlen, ⟨h1, rfl, -⟩ | ⟨rfl, h2, h3⟩⟩ := cuts_good f t tl pr id fr mo dn op da most
  · exact walk_err f t tl pr id fr mo dn op da most c w ho hd hcut h1
  · have hm : mayP f t tl pr id fr mo op.size da.size = true := by
      have hcut' := hcut
      unfold Cuts at hcut'
      rcases hcut' with ⟨h, -⟩ | ⟨h, -⟩
      · cases h
      · exact h
    obtain ⟨-, -, -, -, -, hfr, -, o40, -, hz, -⟩ := mayP_q hm
    exact walk_ok f t tl pr id fr mo dn op da most ps w ho hd hcut hlen h2 h3 (by omega) o40 hfr.1 hfr.2

set_option maxRecDepth 100000 in
theorem lifted (os : Os) (started : os.Started) (H : Type) (enc : TypeId × Value → H) :
    ReturnsInHanded {} Try.checked os 8 .any (Rows.ipWholeSpec.pre6 enc Try.prog Try.f8 Rows.ipWholeRow.domain false) (Rows.ipWholeSpec.post enc Try.prog Try.f8 false true false false) := by
  refine returnsInHanded_of_change_sized (C := Try.checked) own started (by kernel_rfl) Try.func8
    (ChangeSpec.witness6 (enc := enc) (C := Try.checked) false ⟨#[], #[.agg #[.int .i64 0, .int .i64 0, .int .i64 0, .int .i64 0, .int .i64 0, .int .i64 0, .bool false, .bool false, .string ByteArray.empty, .string ByteArray.empty], .int .i64 0], []⟩ 8 (by kernel_rfl) (by kernel_rfl) (by kernel_rfl) (by kernel_rfl)) ?_
  intro W base args ds gs before hval0 hW hcnd hsz0 _
  have hsz : (DataW.weightsEach Try.prog (Try.f8.params.toList ++ Rows.ipWholeSpec.plain.varTypes Try.prog) (ds ++ gs)).all (· ≤ reachBytes) = true := hsz0
  have hval : ∀ (j : Nat) t v, Try.f8.params[j]? = some t → args[j]? = some v → Value.okWide Try.prog W .any base t v := hval0
  have hW' := hW
  obtain ⟨p, q, hA0, hV, rfl, hfz, hnd⟩ := hW
  have hA : DataW.TrodAll enc Try.prog W 0 (fun _ => true) true Try.f8.params.toList args.toList ds p := hA0
  rw [Try.params8] at hA hval hsz
  obtain ⟨v0, vs0, d0, ds0, p0, q0, hargs, rfl, rfl, h0, r0⟩ := trodAll_cons hA
  obtain ⟨v1, vs1, d1, ds1, p1, q1, rfl, rfl, rfl, h1, r1⟩ := trodAll_cons r0
  obtain ⟨rfl, rfl, rfl⟩ := trodAll_nil r1
  obtain rfl : args = #[v0, v1] := by cases args; simp_all
  obtain ⟨rfl, rfl⟩ := trodVars_none hV
  have k0 := h0
  have lt0 : ∀ x ∈ p0, x.block < W.heap.size := by obtain ⟨m, hm⟩ := k0; exact DataW.trod_lt m _ _ _ hm
  have k1 := h1
  have lt1 : ∀ x ∈ p1, x.block < W.heap.size := by obtain ⟨m, hm⟩ := k1; exact DataW.trod_lt m _ _ _ hm
  obtain ⟨f0_0, f0_1, f0_2, f0_3, f0_4, f0_5, f0_6, f0_7, f0_8, f0_9, parts0, rfl, hdp0, e0_0, e0_1, e0_2, e0_3, e0_4, e0_5, e0_8, e0_9, m0_8, m0_9⟩ := open23 (hval 0 23 v0 rfl rfl) h0
  have z0_8 : f0_8.size ≤ 140737488351232 := by
    have := sized_field hsz (j := 0) (i := 8) (t := 23) rfl (by rw [hdp0]; rfl) Try.underlying23 rfl m0_8
    simp only [reachBytes] at this
    simpa using this
  have z0_9 : f0_9.size ≤ 140737488351232 := by
    have := sized_field hsz (j := 0) (i := 9) (t := 23) rfl (by rw [hdp0]; rfl) Try.underlying23 rfl m0_9
    simp only [reachBytes] at this
    simpa using this
  obtain ⟨a1, rfl, -, -, w1⟩ := open_int Try.underlying3 (hval 1 3 v1 rfl rfl) h1
  clear hA0 hval0
  refine (walk f0_0 e0_0 f0_1 e0_1 f0_2 e0_2 f0_3 e0_3 f0_4 e0_4 f0_5 e0_5 f0_6 f0_7 f0_8 e0_8 z0_8 f0_9 e0_9 z0_9 a1 w1 W ).mono fun e W' ⟨he, bel⟩ => ?_
  subst he
  exact ⟨_, rfl, _, _, _, [], _, [], hW', trodAll_mk1 (shut_bool Try.underlying4 _), (trodAll_cons_mk (Below.trod laidOut (by kernel_rfl) (of_decide_eq_true (by kernel_rfl)) k0 bel lt0) (trodAll_cons_mk (Below.trod laidOut (by kernel_rfl) (of_decide_eq_true (by kernel_rfl)) k1 bel lt1) trodAll_mk0)), rfl, bel.frame _, fun h => by cases h⟩

theorem over : Rows.ipWholeRow.holds Try.pinned (OpenSpec.ofChange Rows.ipWholeSpec) :=
  OpenClaim.holds_of_wide 8 Try.f8 rfl rfl rfl rfl rfl rfl rfl ⟨rfl, rfl, rfl, rfl, rfl⟩ rfl rfl rfl rfl rfl (by kernel_rfl) Try.func8 (by kernel_rfl)
    (of_decide_eq_true (by kernel_rfl)) (by unfold Func.isWrapper; first | (rw [if_pos (by decide +kernel)]; kernel_rfl) | (rw [if_neg (by decide +kernel)]; exact ⟨rfl, rfl⟩))
    (fun os started H enc _ => lifted os started H enc)

end Go.Proofs.Ytdnfabcjkbadoaa.ipWhole
namespace Go.Proofs.Ytdnfabcjkbadoaa
theorem ipWhole_holds : Rows.IpWholeSaid := ipWhole.over
end Go.Proofs.Ytdnfabcjkbadoaa
