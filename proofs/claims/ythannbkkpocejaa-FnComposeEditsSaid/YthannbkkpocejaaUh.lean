/-
  Plain facts on the difference of two texts: it fits, it makes one of the other, its inverse is the difference in the other direction. For all texts.
-/
import Derived.Test.YthannbkkpocejaaTj
import Derived.Test.YthannbkkpocejaaUe
namespace Go.Proofs.Ythannbkkpocejaa
open Go.RowKit

theorem cp_comm (a b : ByteArray) : cp b a = cp a b := cpL_comm _ _
theorem ce_comm (a b : ByteArray) (h : Nat) : ce b a h = ce a b h := cpL_comm _ _
theorem cp_take (a b : ByteArray) : a.data.toList.take (cp a b) = b.data.toList.take (cp a b) := (cpL_upto a.data.toList b.data.toList).1
/-- The common ends are the same. -/
theorem ce_drop (a b : ByteArray) (h : Nat) : a.data.toList.drop (a.size - ce a b h) = b.data.toList.drop (b.size - ce a b h) := by
  have hu := (cpL_upto (a.data.toList.drop h).reverse (b.data.toList.drop h).reverse).1
  have hle := ce_le a b h
  have e : ∀ x : ByteArray, ce a b h ≤ x.size - h → ((x.data.toList.drop h).reverse.take (ce a b h)).reverse = x.data.toList.drop (x.size - ce a b h) := by
    intro x hx
    rw [List.take_reverse, List.reverse_reverse, List.drop_drop, List.length_drop, sz_list]
    by_cases hh : h ≤ x.size
    · congr 1; omega
    · rw [List.drop_of_length_le (by rw [sz_list]; omega), List.drop_of_length_le (by rw [sz_list]; omega)]
  rw [← e a hle.1, ← e b hle.2]
  exact congrArg List.reverse hu

/-- The edit that is the difference. -/
structure Dif (a b : ByteArray) (f t : Int) (i : ByteArray) : Prop where
  hf : (cp a b : Int) = f
  ht : (a.size : Int) - ce a b (cp a b) = t
  hi : b.extract (cp a b) (b.size - ce a b (cp a b)) = i
theorem Dif.facts {a b : ByteArray} {f t : Int} {i : ByteArray} (h : Dif a b f t i) : 0 ≤ f ∧ f ≤ t ∧ t ≤ a.size ∧ (i.size : Int) = b.size - (a.size - t) - f ∧ f ≤ b.size ∧ f.toNat = cp a b := by
  obtain ⟨rfl, rfl, rfl⟩ := h
  have h1 := cp_le a b
  have h2 := ce_le a b (cp a b)
  simp only [ByteArray.size_extract]
  omega
theorem dif_fits {a b : ByteArray} {f t : Int} {i : ByteArray} (ha : tv a = true) (hb : tv b = true) (h : Dif a b f t i) : fitsB a f t i = true := by
  obtain ⟨h0, h1, h2, h3, h4, _⟩ := h.facts
  have hs := tv_size hb
  refine fitsB_iff.mpr ⟨ha, ?_, h0, h1, h2, by omega⟩
  rw [← h.hi]
  exact tv_cut hb _ _
theorem dif_ap {a b : ByteArray} {f t : Int} {i : ByteArray} (h : Dif a b f t i) : ap a f t i = b := by
  obtain ⟨h0, h1, h2, h3, h4, h5⟩ := h.facts
  have hle := ce_le a b (cp a b)
  have hc := cp_le a b
  apply bext
  have e2 : t.toNat = a.size - ce a b (cp a b) := by have := h.ht; omega
  rw [ap_list', h5, e2, ce_drop, ← h.hi, ext_list, cp_take]
  exact split3 _ _ _ (by omega)
/-- The difference in the other direction. -/
theorem dif_inv {a b : ByteArray} {f t : Int} {i : ByteArray} (h : Dif a b f t i) : Dif b a f (f + i.size) (a.extract f.toNat t.toNat) := by
  obtain ⟨h0, h1, h2, h3, h4, h5⟩ := h.facts
  have hle := ce_le a b (cp a b)
  have hc := cp_le a b
  have ht := h.ht
  refine ⟨by rw [cp_comm]; exact h.hf, by rw [cp_comm, ce_comm]; omega, ?_⟩
  rw [cp_comm, ce_comm, h5]
  congr 1
  omega
theorem dif_mk (a b : ByteArray) : ∃ f t i, Dif a b f t i := ⟨_, _, _, rfl, rfl, rfl⟩

end Go.Proofs.Ythannbkkpocejaa
