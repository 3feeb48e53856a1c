/-
  Plain facts on the text behind an edit: its bytes, its size, that it is a text. For every text and every edit that fits.
-/
import Derived.Test.YthannbkkpocejaaTj
namespace Go.Proofs.Ythannbkkpocejaa
open Go.RowKit

theorem ap_list (s : ByteArray) (f t : Int) (i : ByteArray) : (ap s f t i).data.toList = s.data.toList.take f.toNat ++ i.data.toList ++ s.data.toList.drop t.toNat := by
  unfold ap
  simp only [ByteArray.data_append, Array.toList_append, ByteArray.data_extract, Array.toList_extract, List.extract_eq_take_drop, List.drop_zero]
  rw [Nat.sub_zero, List.take_of_length_le (l := s.data.toList.drop t.toNat) (by simp)]
theorem ap_size {s : ByteArray} {f t : Int} {i : ByteArray} (h0 : 0 ≤ f) (h1 : f ≤ t) (h2 : t ≤ s.size) : ((ap s f t i).size : Int) = s.size + (i.size - (t - f)) := by
  have h : (ap s f t i).data.toList.length = (s.data.toList.take f.toNat ++ i.data.toList ++ s.data.toList.drop t.toNat).length := by rw [ap_list]
  simp at h
  omega
theorem tv_iff {s : ByteArray} : tv s = true ↔ s.size ≤ 2000 ∧ okL s.data.toList = true := by unfold tv; simp
theorem tv_ap {s : ByteArray} {f t : Int} {i : ByteArray} (h : fitsB s f t i = true) : tv (ap s f t i) = true := by
  obtain ⟨hv1, hv2, h0, h1, h2, h3⟩ := fitsB_iff.mp h
  rw [tv_iff] at *
  have hz := ap_size (i := i) h0 h1 h2
  refine ⟨by omega, ?_⟩
  rw [ap_list]
  have a1 := hv1.2
  have a2 := hv2.2
  unfold okL at *
  rw [List.all_eq_true] at *
  intro c hc
  simp only [List.mem_append] at hc
  rcases hc with (hc | hc) | hc
  · exact a1 c (List.mem_of_mem_take hc)
  · exact a2 c hc
  · exact a1 c (List.mem_of_mem_drop hc)

end Go.Proofs.Ythannbkkpocejaa
