/- Plain facts: a packet with one bit of its header turned, but those that tell how long the header is, is none. -/
import Derived.Test.YtdnfabcjkbadoaaIpm
namespace Go.Proofs.Ytdnfabcjkbadoaa
open Go.RowKit

theorem byS_list (s : ByteArray) (i : Nat) (h : i < s.data.toList.length) : byS s i = ((s.data.toList[i]).toNat : Int) := by
  have hl := len_toList s
  rw [← byS_is s i (by omega)]; rfl
theorem low_kept (b j : Nat) (hb : b < 256) (h4 : 4 ≤ j) (hj : j < 8) : (b ^^^ 2 ^ j) % 16 = b % 16 := by
  have h := (bit_turn b hb j hj).1
  have hp : 2 ^ j % 16 = 0 := by
    obtain rfl | rfl | rfl | rfl : j = 4 ∨ j = 5 ∨ j = 6 ∨ j = 7 := by omega
    all_goals rfl
  generalize b ^^^ 2 ^ j = c at *
  generalize 2 ^ j = p at *
  omega
theorem turned_bad {f t tl pr id fr : Int} {mo dn : Bool} {op da : ByteArray} (h : mayP f t tl pr id fr mo op.size da.size = true) (u : ByteArray) (ht : u = encP f t tl pr id fr mo dn op da) (i j : Nat) (hi : i < 20 + op.size) (hj : j < 8) (h0 : i = 0 → 4 ≤ j) (hit : i < u.data.toList.length) :
    ¬ goodD ⟨(u.data.toList.set i (UInt8.ofNat (u.data.toList[i].toNat ^^^ 2 ^ j))).toArray⟩ := by
  intro g
  obtain ⟨-, -, -, -, -, hw, -, -, -⟩ := g
  have hl := len_toList u
  have hb := bit_turn u.data.toList[i].toNat u.data.toList[i].toNat_lt j hj
  obtain ⟨g0, -⟩ := back_good h ⟨#[]⟩ u (by rw [ht, app_nil])
  obtain ⟨b20, b0, b1, bH, bL, bS, -⟩ := back_fields h ⟨#[]⟩ u (by rw [ht, app_nil])
  obtain ⟨s, hs⟩ : ∃ s : ByteArray, s = ⟨(u.data.toList.set i (UInt8.ofNat (u.data.toList[i].toNat ^^^ 2 ^ j))).toArray⟩ := ⟨_, rfl⟩
  rw [← hs] at hw
  have hsl : s.data.toList = u.data.toList.set i (UInt8.ofNat (u.data.toList[i].toNat ^^^ 2 ^ j)) := by rw [hs]
  have hlen : s.data.toList.length = u.data.toList.length := by rw [hsl, List.length_set]
  have hlow : byS s 0 % 16 = byS u 0 % 16 := by
    rw [byS_list s 0 (by omega), byS_list u 0 (by omega)]
    simp only [hsl]
    by_cases e : i = 0
    · subst e
      rw [List.getElem_set_self, ofNat_toNat _ hb.2]
      have := low_kept u.data.toList[0].toNat j u.data.toList[0].toNat_lt (h0 rfl) hj
      omega
    · rw [List.getElem_set_ne e]
  have hdh : dH s = dH u := by unfold dH; rw [hlow]
  have hH : (dH u).toNat = 20 + op.size := by omega
  have hhs : (headS' s).data.toList = ((headS' u).data.toList).set i (UInt8.ofNat (u.data.toList[i].toNat ^^^ 2 ^ j)) := by
    unfold headS'
    rw [ext_toList, ext_toList, hdh, hsl, List.drop_zero, List.drop_zero, List.take_set]
  have hil : i < (headS' u).data.toList.length := by
    unfold headS'
    rw [ext_toList, List.length_take, List.length_drop]; omega
  have hat : (headS' u).data.toList[i] = u.data.toList[i] := by
    simp only [headS', ext_toList, List.getElem_take, List.drop_zero]
  have hz := turn_not_whole (headS' u).data.toList i j hil hj (zero_sum g0.2.2.2.2.2.1)
  rw [hat, ← hhs] at hz
  exact hz (zero_sum hw)
end Go.Proofs.Ytdnfabcjkbadoaa
