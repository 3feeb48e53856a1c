/-
  Plain facts on an edit and its inverse: the inverse fits the text behind the edit, it makes the old text of it, and its own inverse is the edit. For every text and every edit that fits.
-/
import Derived.Test.YtnnjnkeabljlaaaTd
namespace Go.Proofs.Ytnnjnkeabljlaaa
open Go.RowKit

theorem bext {a b : ByteArray} (h : a.data.toList = b.data.toList) : a = b := by
  cases a; cases b; congr; exact Array.toList_inj.mp h
theorem ext_list (s : ByteArray) (a b : Nat) : (s.extract a b).data.toList = (s.data.toList.drop a).take (b - a) := by
  simp only [ByteArray.data_extract, Array.toList_extract, List.extract_eq_take_drop]
theorem ap_list' (s : ByteArray) (f t : Int) (i : ByteArray) : (ap s f t i).data.toList = s.data.toList.take f.toNat ++ (i.data.toList ++ s.data.toList.drop t.toNat) := by
  unfold ap
  simp only [ByteArray.data_append, Array.toList_append, ByteArray.data_extract, Array.toList_extract, List.extract_eq_take_drop, List.drop_zero]
  rw [Nat.sub_zero, List.take_of_length_le (l := s.data.toList.drop t.toNat) (by simp), List.append_assoc]
theorem sz_list (s : ByteArray) : s.data.toList.length = s.size := by simp
theorem ap_sz {s : ByteArray} {f t : Int} {i : ByteArray} (h0 : 0 ≤ f) (h1 : f ≤ t) (h2 : t ≤ s.size) : ((ap s f t i).size : Int) = s.size + (i.size - (t - f)) := by
  have h : (ap s f t i).data.toList.length = (s.data.toList.take f.toNat ++ (i.data.toList ++ s.data.toList.drop t.toNat)).length := by rw [ap_list']
  simp at h
  omega
theorem tv_iff' {s : ByteArray} : tv s = true ↔ s.size ≤ 2000 ∧ okL s.data.toList = true := by unfold tv; simp
theorem okL_iff {l : List UInt8} : okL l = true ↔ ∀ c ∈ l, okB c.toNat = true := by unfold okL; rw [List.all_eq_true]
theorem tv_of {s x : ByteArray} (h : tv s = true) (hz : x.size ≤ 2000) (hs : ∀ c ∈ x.data.toList, c ∈ s.data.toList) : tv x = true := by
  rw [tv_iff', okL_iff] at *
  exact ⟨hz, fun c hc => h.2 c (hs c hc)⟩
theorem tv_ap' {s : ByteArray} {f t : Int} {i : ByteArray} (h : fitsB s f t i = true) : tv (ap s f t i) = true := by
  obtain ⟨hv1, hv2, h0, h1, h2, h3⟩ := fitsB_iff.mp h
  have hz := ap_sz (i := i) h0 h1 h2
  rw [tv_iff', okL_iff] at *
  refine ⟨by omega, ?_⟩
  intro c hc
  rw [ap_list'] at hc
  simp only [List.mem_append] at hc
  rcases hc with hc | hc | hc
  · exact hv1.2 c (List.mem_of_mem_take hc)
  · exact hv2.2 c hc
  · exact hv1.2 c (List.mem_of_mem_drop hc)
theorem cut_sz {s : ByteArray} {f t : Int} (h0 : 0 ≤ f) (h1 : f ≤ t) (h2 : t ≤ s.size) : ((s.extract f.toNat t.toNat).size : Int) = t - f := by
  simp only [ByteArray.size_extract]
  omega
theorem tv_cut {s : ByteArray} (h : tv s = true) (a b : Nat) : tv (s.extract a b) = true := by
  have hs := tv_size h
  refine tv_of h (by simp only [ByteArray.size_extract]; omega) ?_
  intro c hc
  rw [ext_list] at hc
  exact List.mem_of_mem_drop (List.mem_of_mem_take hc)
/-- The inverse fits. -/
theorem inv_fits {s : ByteArray} {f t : Int} {i : ByteArray} (h : fitsB s f t i = true) : fitsB (ap s f t i) f (f + i.size) (s.extract f.toNat t.toNat) = true := by
  have hv := tv_ap' h
  obtain ⟨hv1, hv2, h0, h1, h2, h3⟩ := fitsB_iff.mp h
  have hs := tv_size hv1
  have hz := ap_sz (i := i) h0 h1 h2
  have hc := cut_sz h0 h1 h2
  refine fitsB_iff.mpr ⟨hv, tv_cut hv1 _ _, h0, by omega, by omega, by omega⟩
theorem split3 {α : Type} (l : List α) (a b : Nat) (h : a ≤ b) : l.take a ++ ((l.drop a).take (b - a) ++ l.drop b) = l := by
  have h2 : (l.drop a).drop (b - a) = l.drop b := by rw [List.drop_drop]; congr 1; omega
  rw [← h2, List.take_append_drop, List.take_append_drop]
/-- It makes the old text. -/
theorem inv_ap {s : ByteArray} {f t : Int} {i : ByteArray} (h : fitsB s f t i = true) : ap (ap s f t i) f (f + i.size) (s.extract f.toNat t.toNat) = s := by
  obtain ⟨hv1, hv2, h0, h1, h2, h3⟩ := fitsB_iff.mp h
  have hs := tv_size hv1
  apply bext
  have hl : f.toNat ≤ s.data.toList.length := by rw [sz_list]; omega
  have e1 : (f + (i.size : Int)).toNat = f.toNat + i.data.toList.length := by rw [sz_list]; omega
  have ht : (s.data.toList.take f.toNat).length = f.toNat := by rw [List.length_take]; omega
  rw [ap_list', ap_list', ext_list, e1]
  rw [List.take_append_of_le_length (by rw [ht]; omega), List.take_take, Nat.min_self]
  have e2 : (s.data.toList.take f.toNat ++ (i.data.toList ++ s.data.toList.drop t.toNat)).drop (f.toNat + i.data.toList.length) = s.data.toList.drop t.toNat := by
    rw [← List.append_assoc]
    rw [List.drop_append_of_le_length (by rw [List.length_append, ht]; omega)]
    rw [List.drop_of_length_le (by rw [List.length_append, ht]; omega), List.nil_append]
  rw [e2]
  exact split3 _ _ _ (by omega)
/-- The inverse's inverse. -/
theorem inv_back {s : ByteArray} {f t : Int} {i : ByteArray} (h : fitsB s f t i = true) : (ap s f t i).extract f.toNat (f + i.size).toNat = i := by
  obtain ⟨hv1, hv2, h0, h1, h2, h3⟩ := fitsB_iff.mp h
  have hs := tv_size hv1
  apply bext
  have hl : f.toNat ≤ s.data.toList.length := by rw [sz_list]; omega
  have ht : (s.data.toList.take f.toNat).length = f.toNat := by rw [List.length_take]; omega
  have e1 : (f + (i.size : Int)).toNat - f.toNat = i.data.toList.length := by rw [sz_list]; omega
  rw [ext_list, ap_list', e1]
  rw [List.drop_append_of_le_length (by rw [ht]; omega), List.drop_of_length_le (by rw [ht]; omega), List.nil_append]
  rw [List.take_append_of_le_length (Nat.le_refl _), List.take_length]

end Go.Proofs.Ytnnjnkeabljlaaa
