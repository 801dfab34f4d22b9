/- The library's slices.Sorted(maps.Keys(m)) over what is asked for. -/
import Derived.Test.YtjldcillackhdaaNl
import Derived.Shelf.SlIterI.Sorted
import Derived.Shelf.SlIterI.Keys
namespace Go.Proofs.Ytjldcillackhdaa
open Go.Shelf Go.Sort Go.RowKit Go.Maps Go.Proofs.Ytjldcillackhdaa.Eth Go.Proofs.Ytjldcillackhdaa.Eth.Arp
set_option maxRecDepth 100000
set_option linter.unusedVariables false
set_option linter.unusedSimpArgs false

def Try.iter_ren : Go.Shelf.Ren := ⟨fun | 6 => 29 | 7 => 30 | 8 => 45 | 9 => 39 | 10 => 46 | 11 => 57 | n => n, fun | 0 => 0 | 3 => 78 | 4 => 4 | 23 => 62 | 24 => 38 | 26 => 3 | 27 => 74 | 28 => 75 | 33 => 60 | n => n, fun n => n⟩
theorem Try.keysL : Go.Proofs.SlLaysZI.n7 Try.prog Try.iter_ren := {
  mixed := by kernel_rfl
  f7 := ⟨Try.f30.name, by kernel_rfl, Try.func30.trans (congrArg some (by kernel_rfl))⟩
  f10 := ⟨Try.f46.name, by kernel_rfl, Try.func46.trans (congrArg some (by kernel_rfl))⟩
  t0 := Try.underlying0
  a0 := Try.isAgg0
  z0 := Try.sizeOf0
  v0 := Try.zeroValue0
  t4 := Try.underlying4
  a4 := Try.isAgg4
  z4 := Try.sizeOf4
  v4 := Try.zeroValue4
  t23 := Try.underlying62
  a23 := Try.isAgg62
  z23 := Try.sizeOf62
  v23 := Try.zeroValue62
  t26 := Try.underlying3
  a26 := Try.isAgg3
  z26 := Try.sizeOf3
  v26 := Try.zeroValue3
  t27 := Try.underlying74
  a27 := Try.isAgg74
  z27 := Try.sizeOf74
  v27 := Try.zeroValue74
  t28 := Try.underlying75
  a28 := Try.isAgg75
  z28 := Try.sizeOf75
  v28 := Try.zeroValue75
  t33 := Try.underlying60
  a33 := Try.isAgg60
  z33 := Try.sizeOf60
  v33 := Try.zeroValue60 }
theorem Try.sortedL : Go.Proofs.SlLaysZI.n6 Try.prog Try.iter_ren := {
  mixed := by kernel_rfl
  f6 := ⟨Try.f29.name, by kernel_rfl, Try.func29.trans (congrArg some (by kernel_rfl))⟩
  f8 := ⟨Try.f45.name, by kernel_rfl, Try.func45.trans (congrArg some (by kernel_rfl))⟩
  f11 := ⟨Try.f57.name, by kernel_rfl, Try.func57.trans (congrArg some (by kernel_rfl))⟩
  t0 := Try.underlying0
  a0 := Try.isAgg0
  z0 := Try.sizeOf0
  v0 := Try.zeroValue0
  t24 := Try.underlying38
  a24 := Try.isAgg38
  z24 := Try.sizeOf38
  v24 := Try.zeroValue38
  t26 := Try.underlying3
  a26 := Try.isAgg3
  z26 := Try.sizeOf3
  v26 := Try.zeroValue3
  t28 := Try.underlying75
  a28 := Try.isAgg75
  z28 := Try.sizeOf75
  v28 := Try.zeroValue75
  i26 := by kernel_rfl }
theorem Try.sortsL (m : Nat) : AnyZI.SortsIn Try.prog Try.iter_ren Fence.wide m :=
  ⟨fun blk off cap ss W hH hblk hsz => callsIn_wide.2 (Any.slices_Sort_int Try.lays_189 blk off cap ss W hH hblk hsz),
   fun p cap W => callsIn_wide.2 (Any.slices_Sort_int_none Try.lays_189 p cap W)⟩
theorem sorted_eq : ∀ {a b : List Int}, a.Perm b → a.Pairwise (· ≤ ·) → b.Pairwise (· ≤ ·) → a = b
  | [], b, hp, _, _ => by rw [List.nil_perm.1 hp]
  | x :: r, [], hp, _, _ => by cases List.perm_nil.1 hp
  | x :: r, y :: s, hp, ha, hb => by
    have hx : x ∈ y :: s := hp.mem_iff.1 (List.mem_cons_self ..)
    have hy : y ∈ x :: r := hp.mem_iff.2 (List.mem_cons_self ..)
    have e : x = y := by
      have h1 : y ≤ x := by
        rcases List.mem_cons.1 hx with h | h
        · omega
        · exact (List.pairwise_cons.1 hb).1 _ h
      have h2 : x ≤ y := by
        rcases List.mem_cons.1 hy with h | h
        · omega
        · exact (List.pairwise_cons.1 ha).1 _ h
      omega
    subst e
    rw [sorted_eq (List.Perm.cons_inv hp) (List.pairwise_cons.1 ha).2 (List.pairwise_cons.1 hb).2]
theorem sort_is {a b : List Int} (hp : a.Perm b) (hb : b.Pairwise (· ≤ ·)) : (a.mergeSort fun x y => decide (x ≤ y)) = b := by
  refine sorted_eq ((List.mergeSort_perm a _).trans hp) ?_ hb
  have := List.pairwise_mergeSort (le := fun x y : Int => decide (x ≤ y)) (fun a b c h1 h2 => by simp at *; omega) (fun a b => by simp; omega) a
  exact this.imp fun h => of_decide_eq_true h
theorem keys_vD (l : List Vn) : intKeys (vD l) = l.map (·.1) := by
  show (l.map fun e => ((Lit.int .i64 e.1, DataW.held e.2) : Lit × DataW Value)).map (fun p => Go.intOf p.1) = l.map (·.1)
  rw [List.map_map]
  rfl
theorem keys_call (A : Nat) (w : World) : Calls Try.prog 30 #[.map (some A)] w fun e w' => e = .returned (.func (.func 46) #[] #[.pointer (some ⟨w.heap.size, 0, none⟩)]) ∧ w' = w.alloc (.cells #[.map (some A)] 62) :=
  (callsIn_wide (n := 5)).1 (AnyZI.keys_in Try.keysL Fence.wide 5 trivial rfl (some A) w)
theorem sorted_call (A : Nat) (al : List Vn) (w : World) (h : VM w A al) (hn : al.length < 1000000) :
    Calls Try.prog 29 #[.func (.func 46) #[] #[.pointer (some ⟨w.heap.size, 0, none⟩)]] (w.alloc (.cells #[.map (some A)] 62)) fun e w' => ∃ v, e = .returned v ∧ Ints w' w.heap.size v (al.map (·.1)) ∧ Below w.heap.size w w' := by
  have hbl := h.lt
  have q1 := bel1 w (.cells #[.map (some A)] 62)
  have hseq : SeqGives Fence.wide 2 Try.prog 46 #[.pointer (some ⟨w.heap.size, 0, none⟩)] encZ (fun ss => ss.Perm (intKeys (vD al))) (Maps.size (vD al)) (w.alloc (.cells #[.map (some A)] 62)) :=
    AnyZI.keys_gives (ρ := Try.iter_ren) { Try.keysL with } Fence.wide _ trivial rfl (by omega) w.heap.size A al.length (vD al) _ (by simp) (by simp) (h.later q1).1
  have cS := AnyZI.sorted_in Try.sortedL Fence.wide 5 trivial trivial trivial trivial rfl (by omega) (Try.sortsL _) (enters_of Try.func39 (by kernel_rfl) rfl) 46 #[.pointer (some ⟨w.heap.size, 0, none⟩)] trivial (enters_of Try.func46 (by kernel_rfl) rfl) _ _ (by rw [size_vD]; unfold maxLen; omega) (by rw [size_vD]; omega) _ hseq
  change CallsIn _ _ Try.prog 29 _ _ _ at cS
  refine ((callsIn_wide (n := 5)).1 cS).mono ?_
  rintro e w' ⟨v, ss, rfl, hp, hrow, -, hb⟩
  rw [keys_vD] at hp
  have hr : (al.map (·.1)).Pairwise (· ≤ ·) := by
    rw [List.pairwise_map]
    exact h.2.imp fun h => by omega
  rw [sort_is hp hr] at hrow
  refine ⟨v, rfl, ?_, bt q1 hb⟩
  have hl := hp.length_eq
  rw [hl] at hrow
  exact (show Ints w' _ v (al.map (·.1)) from hrow).low (by simp)
end Go.Proofs.Ytjldcillackhdaa
