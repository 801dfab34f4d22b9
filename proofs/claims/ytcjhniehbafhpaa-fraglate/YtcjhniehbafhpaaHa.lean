/- slices.SortFunc over parts, as this program has it; the order of turns. -/
import Derived.Shelf.SlSortCmp.WholeK
import Derived.Test.YtcjhniehbafhpaaHp
namespace Go.Proofs.Ytcjhniehbafhpaa
open Go.Shelf Go.RowKit Go.Lib Go.Sort
set_option maxRecDepth 100000
set_option linter.unusedVariables false
set_option linter.unusedSimpArgs false

def sortRen : Go.Shelf.Ren := ⟨fun | 6 => 33 | 14 => 46 | 15 => 47 | 20 => 59 | 21 => 60 | 22 => 61 | 23 => 62 | 24 => 63 | 25 => 64 | 26 => 65 | 27 => 66 | 28 => 67 | 29 => 68 | 46 => 75 | 47 => 76 | 48 => 77 | 49 => 78 | 50 => 79 | 57 => 82 | n => n, fun | 0 => 0 | 3 => 3 | 4 => 4 | 5 => 5 | 9 => 9 | 22 => 58 | 25 => 79 | 39 => 88 | 45 => 104 | 46 => 105 | 50 => 90 | 53 => 111 | 55 => 113 | 66 => 118 | 70 => 122 | 76 => 126 | 77 => 127 | 24 => 61 | n => n, fun n => n⟩
theorem sortLay : Go.Proofs.SlLaysF0.n6 Try.prog sortRen := {
  mixed := by kernel_rfl
  f6 := ⟨Try.f33.name, by kernel_rfl, Try.func33.trans (congrArg some (by kernel_rfl))⟩
  f14 := ⟨Try.f46.name, by kernel_rfl, Try.func46.trans (congrArg some (by kernel_rfl))⟩
  f15 := Try.func47.trans (congrArg some (by kernel_rfl))
  f20 := ⟨Try.f59.name, by kernel_rfl, Try.func59.trans (congrArg some (by kernel_rfl))⟩
  f21 := ⟨Try.f60.name, by kernel_rfl, Try.func60.trans (congrArg some (by kernel_rfl))⟩
  f22 := ⟨Try.f61.name, by kernel_rfl, Try.func61.trans (congrArg some (by kernel_rfl))⟩
  f23 := ⟨Try.f62.name, by kernel_rfl, Try.func62.trans (congrArg some (by kernel_rfl))⟩
  f24 := ⟨Try.f63.name, by kernel_rfl, Try.func63.trans (congrArg some (by kernel_rfl))⟩
  f25 := ⟨Try.f64.name, by kernel_rfl, Try.func64.trans (congrArg some (by kernel_rfl))⟩
  f26 := ⟨Try.f65.name, by kernel_rfl, Try.func65.trans (congrArg some (by kernel_rfl))⟩
  f27 := ⟨Try.f66.name, by kernel_rfl, Try.func66.trans (congrArg some (by kernel_rfl))⟩
  f28 := Try.func67.trans (congrArg some (by kernel_rfl))
  f29 := Try.func68.trans (congrArg some (by kernel_rfl))
  f46 := ⟨Try.f75.name, by kernel_rfl, Try.func75.trans (congrArg some (by kernel_rfl))⟩
  f47 := Try.func76.trans (congrArg some (by kernel_rfl))
  f48 := Try.func77.trans (congrArg some (by kernel_rfl))
  f49 := ⟨Try.f78.name, by kernel_rfl, Try.func78.trans (congrArg some (by kernel_rfl))⟩
  f50 := ⟨Try.f79.name, by kernel_rfl, Try.func79.trans (congrArg some (by kernel_rfl))⟩
  f57 := ⟨Try.f82.name, by kernel_rfl, Try.func82.trans (congrArg some (by kernel_rfl))⟩
  t0 := Try.underlying0
  a0 := Try.isAgg0
  z0 := Try.sizeOf0
  v0 := Try.zeroValue0
  t3 := Try.underlying3
  a3 := Try.isAgg3
  z3 := Try.sizeOf3
  v3 := Try.zeroValue3
  t4 := Try.underlying4
  a4 := Try.isAgg4
  z4 := Try.sizeOf4
  v4 := Try.zeroValue4
  t5 := Try.underlying5
  a5 := Try.isAgg5
  z5 := Try.sizeOf5
  v5 := Try.zeroValue5
  t9 := Try.underlying9
  a9 := Try.isAgg9
  z9 := Try.sizeOf9
  v9 := Try.zeroValue9
  t22 := Try.underlying58
  a22 := Try.isAgg58
  z22 := Try.sizeOf58
  v22 := Try.zeroValue58
  t25 := Try.underlying79
  a25 := Try.isAgg79
  z25 := Try.sizeOf79
  v25 := Try.zeroValue79
  t39 := Try.underlying88
  a39 := Try.isAgg88
  z39 := Try.sizeOf88
  v39 := Try.zeroValue88
  t45 := Try.underlying104
  a45 := Try.isAgg104
  z45 := Try.sizeOf104
  v45 := Try.zeroValue104
  t46 := Try.underlying105
  a46 := Try.isAgg105
  z46 := Try.sizeOf105
  v46 := Try.zeroValue105
  t50 := Try.underlying90
  a50 := Try.isAgg90
  z50 := Try.sizeOf90
  v50 := Try.zeroValue90
  t53 := Try.underlying111
  a53 := Try.isAgg111
  z53 := Try.sizeOf111
  v53 := Try.zeroValue111
  t55 := Try.underlying113
  a55 := Try.isAgg113
  z55 := Try.sizeOf113
  v55 := Try.zeroValue113
  t66 := Try.underlying118
  a66 := Try.isAgg118
  z66 := Try.sizeOf118
  v66 := Try.zeroValue118
  t70 := Try.underlying122
  a70 := Try.isAgg122
  z70 := Try.sizeOf122
  v70 := Try.zeroValue122
  t76 := Try.underlying126
  a76 := Try.isAgg126
  z76 := Try.sizeOf126
  v76 := Try.zeroValue126
  t77 := Try.underlying127
  a77 := Try.isAgg127
  z77 := Try.sizeOf127
  v77 := Try.zeroValue127 }
/-- Parts of a packet as the sort has them; their turns are small. -/
structure Gn where
  at_ : Int
  tu : Fin 1099511627776
  a : Option Addr
  n : Nat
  c : Nat
instance : Inhabited Gn := ⟨⟨0, 0, none, 0, 0⟩⟩
def Gn.L (x : Gn) : List Value := [.int .i64 x.at_, .int .i64 (x.tu.val : Int), .slice x.a x.n x.c]
def cfG (x y : Gn) : Int := (x.tu.val : Int) - (y.tu.val : Int)
theorem ltG (x y : Gn) : ltOf cfG x y = decide (x.tu.val < y.tu.val) := by
  unfold ltOf cfG
  by_cases h : x.tu.val < y.tu.val
  · rw [decide_eq_true h, decide_eq_true]; omega
  · rw [decide_eq_false h, decide_eq_false]; omega
theorem swoG : SWO (ltOf cfG) where
  irrefl x := by rw [ltG]; simp
  trans x y z h1 h2 := by rw [ltG] at *; simp at *; omega
  ntrans x y z h1 h2 := by rw [ltG] at *; simp at *; omega
theorem cmp_any (x y : Gn) (W : World) : Calls Try.prog 34 #[.agg x.L.toArray, .agg y.L.toArray] W fun e w' => e = .returned (.int .i64 (cfG x y)) ∧ ∃ q os', w' = grow (W.drewN q) os' := by
  obtain ⟨a1, ⟨t1, h1⟩, a2, n1, c1⟩ := x
  obtain ⟨b1, ⟨t2, h2⟩, b2, n2, c2⟩ := y
  have e1 : (0 : Int) ≤ (t1 : Int) := by omega
  have e2 : (t1 : Int) < 1099511627776 := by omega
  have e3 : (0 : Int) ≤ (t2 : Int) := by omega
  have e4 : (t2 : Int) < 1099511627776 := by omega
  have hr : cfG ⟨a1, ⟨t1, h1⟩, a2, n1, c1⟩ ⟨b1, ⟨t2, h2⟩, b2, n2, c2⟩ = (t1 : Int) - (t2 : Int) := rfl
  rw [hr]
  simp only [Gn.L]
  go_enter Try.func34, Try.ntmps34
  go_wp2
  go_ret
  exact ⟨rfl, 0, _, by rw [alloc_eq_grow, alloc_eq_grow, grow_grow]; rfl⟩
theorem turn_sort (enc : Gn → List Value) (k : Nat) (w : World) (blk off n : Nat) (d : Array Gn) (os : Array Obj) (hb : blk < w.heap.size) : Turn (fun j => j = blk) w (sortWorldK enc k w blk off n d os) := by
  refine ⟨rfl, rfl, rfl, ?_, fun j hj hs => ?_⟩
  · simp [sortWorldK, grow, putRowK, putRow, mapBlock, Sort.ahead]
  · simp only [sortWorldK, grow, putRowK, putRow, mapBlock, Sort.ahead]
    rw [Array.getElem?_append_left (by simpa using hj), Array.getElem?_modify, if_neg (fun e => hs e.symm)]
theorem sort_any (blk cap : Nat) (d : Array Gn) (w : World) (hH : HoldsK Gn.L 3 w blk 0 d) (hblk : blk < w.heap.size) (hsz : d.size < 4611686018427387904) :
    Calls Try.prog 33 #[.slice (some ⟨blk, 0, none⟩) d.size cap, .func (.func 34) #[] #[]] w fun e w' => e = .returned (.tuple #[]) ∧ ∃ d' : Array Gn, d'.toList.Perm d.toList ∧ d'.toList.Pairwise (fun x y => x.tu.val ≤ y.tu.val) ∧ HoldsK Gn.L 3 w' blk 0 d' ∧ Turn (fun j => j = blk) w w' := by
  have eg : ∀ args w, (callFunc 34 args).run Try.prog w = .ok (.enter 34 args) w := enters_of Try.func34 (by kernel_rfl) rfl
  have hcon := AnyQ.slices_SortFunc sortLay 3 Try.isAgg61 Try.sizeOf61 Gn.L (fun _ => rfl) (fun x v hv => by simp [Gn.L] at hv; rcases hv with rfl | rfl | rfl <;> rfl) cfG swoG 34 #[] blk 0 cap d w eg (fun _ _ _ _ x y => cmp_any x y _) hH hblk hsz
  change Calls Try.prog 33 _ _ _ at hcon
  refine hcon.mono ?_
  rintro e w' ⟨rfl, d', n, os, ⟨hs, -, hp⟩, hso, rfl⟩
  have hd : d.extract 0 d.size = d := by simp
  have hd' : d'.extract 0 d.size = d' := by rw [← hs]; simp
  rw [hd, hd'] at hp
  refine ⟨rfl, d', hp, ?_, (by first | exact holdsK_sortWorldK_c (hH := hH) (hblk := hblk) (hs := hs) .. | exact holdsK_sortWorldK Gn.L 3 w blk 0 n d d' os hblk hH hs), turn_sort _ _ _ _ _ _ _ _ hblk⟩
  rw [List.pairwise_iff_getElem]
  intro i j hi hj hij
  have hi' : i < d'.size := by simpa using hi
  have hj' : j < d'.size := by simpa using hj
  have := hso i j (Nat.zero_le _) hij (by omega)
  rw [ltG, getElem!_pos d' j hj', getElem!_pos d' i hi'] at this
  simp at this ⊢
  omega
end Go.Proofs.Ytcjhniehbafhpaa
