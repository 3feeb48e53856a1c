/-
  Plain: when two edits clash, which one is behind the other, an edit transformed by another one; two edits that do not clash lead to the same text in both orders. For every text and all edits.
-/
import Derived.Test.YtnnjnkeabljlaaaUe
namespace Go.Proofs.Ytnnjnkeabljlaaa
open Go.RowKit
set_option linter.unusedVariables false

/-- Two edits clash. -/
def clB (f t g u : Int) : Bool := decide (f < u) && decide (g < t)
/-- An edit is behind another one. -/
def bhB (f t g u : Int) (b : Bool) : Bool := if f = g ∧ t = u then !b else decide (u ≤ f)
/-- By how much an edit makes a text longer. -/
def grw (f t : Int) (i : ByteArray) : Int := (i.size : Int) - (t - f)
/-- By how much an edit is moved by another one. -/
def mv (f t g u : Int) (j : ByteArray) (b : Bool) : Int := if bhB f t g u b = true then grw g u j else 0
/-- Whether an edit can be transformed by another one. -/
def trB (s : ByteArray) (f t : Int) (i : ByteArray) (g u : Int) (j : ByteArray) (b : Bool) : Bool :=
  fitsB s f t i && (fitsB s g u j && (!clB f t g u && fitsB (ap s g u j) (f + mv f t g u j b) (t + mv f t g u j b) i))

theorem trB_iff {s : ByteArray} {f t : Int} {i : ByteArray} {g u : Int} {j : ByteArray} {b : Bool} :
    trB s f t i g u j b = true ↔ fitsB s f t i = true ∧ fitsB s g u j = true ∧ clB f t g u = false ∧ fitsB (ap s g u j) (f + mv f t g u j b) (t + mv f t g u j b) i = true := by
  unfold trB; simp
theorem clB_iff {f t g u : Int} : clB f t g u = true ↔ f < u ∧ g < t := by unfold clB; simp
theorem clB_no {f t g u : Int} : clB f t g u = false ↔ u ≤ f ∨ t ≤ g := by
  rcases h : clB f t g u with _ | _
  · simp only [true_iff]
    by_cases h1 : f < u
    · by_cases h2 : g < t
      · have := clB_iff.mpr ⟨h1, h2⟩; simp [h] at this
      · exact .inr (by omega)
    · exact .inl (by omega)
  · have := clB_iff.mp h
    constructor
    · intro h; exact absurd h (by simp)
    · intro h; omega
theorem clB_swap (f t g u : Int) : clB f t g u = clB g u f t := by unfold clB; rw [Bool.and_comm]

theorem comm_list {α : Type} (L i j : List α) (p q f t : Nat) (h1 : p ≤ q) (h2 : q ≤ f) (h3 : f ≤ t) (h4 : t ≤ L.length) :
    (L.take p ++ (i ++ L.drop q)).take (p + i.length + (f - q)) ++ (j ++ (L.take p ++ (i ++ L.drop q)).drop (p + i.length + (t - q))) =
      (L.take f ++ (j ++ L.drop t)).take p ++ (i ++ (L.take f ++ (j ++ L.drop t)).drop q) := by
  have hp : (L.take p).length = p := by rw [List.length_take]; omega
  have hf : (L.take f).length = f := by rw [List.length_take]; omega
  have e1 : (L.take p ++ (i ++ L.drop q)).take (p + i.length + (f - q)) = L.take p ++ (i ++ (L.drop q).take (f - q)) := by
    rw [← List.append_assoc, ← List.append_assoc]
    have : p + i.length + (f - q) = (L.take p ++ i).length + (f - q) := by rw [List.length_append, hp]
    rw [this, List.take_append, List.take_of_length_le (by omega)]
    congr 2; omega
  have e2 : (L.take p ++ (i ++ L.drop q)).drop (p + i.length + (t - q)) = L.drop t := by
    rw [← List.append_assoc]
    have : p + i.length + (t - q) = (L.take p ++ i).length + (t - q) := by rw [List.length_append, hp]
    rw [this, List.drop_append, List.drop_of_length_le (by omega), List.nil_append, List.drop_drop]
    congr 1; omega
  have e3 : (L.take f ++ (j ++ L.drop t)).take p = L.take p := by
    rw [List.take_append_of_le_length (by omega), List.take_take]
    congr 1; omega
  have e4 : (L.take f ++ (j ++ L.drop t)).drop q = (L.drop q).take (f - q) ++ (j ++ L.drop t) := by
    rw [List.drop_append_of_le_length (by omega), List.drop_take]
  rw [e1, e2, e3, e4]
  simp only [List.append_assoc]
/-- An edit behind another one: the two can be made in both orders. -/
theorem ap_comm {s : ByteArray} {p q f t : Int} {i j : ByteArray} (h0 : 0 ≤ p) (h1 : p ≤ q) (h2 : q ≤ f) (h3 : f ≤ t) (h4 : t ≤ s.size) :
    ap (ap s p q i) (f + grw p q i) (t + grw p q i) j = ap (ap s f t j) p q i := by
  have e1 : (f + grw p q i).toNat = p.toNat + i.data.toList.length + (f.toNat - q.toNat) := by unfold grw; rw [sz_list]; omega
  have e2 : (t + grw p q i).toNat = p.toNat + i.data.toList.length + (t.toNat - q.toNat) := by unfold grw; rw [sz_list]; omega
  apply bext
  rw [ap_list', ap_list', ap_list', ap_list', e1, e2]
  exact comm_list _ _ _ _ _ _ _ (by omega) (by omega) (by omega) (by rw [sz_list]; omega)
theorem bh_other {f t g u : Int} {b : Bool} (h1 : f ≤ t) (h2 : g ≤ u) (hc : clB f t g u = false) : bhB g u f t (!b) = !bhB f t g u b := by
  have hc := clB_no.mp hc
  unfold bhB
  by_cases h : f = g ∧ t = u
  · rw [if_pos h, if_pos ⟨h.1.symm, h.2.symm⟩]
  · rw [if_neg h, if_neg (fun h' => h ⟨h'.1.symm, h'.2.symm⟩)]
    by_cases h3 : u ≤ f
    · rw [decide_eq_true h3, decide_eq_false (by omega)]; rfl
    · rw [decide_eq_false h3, decide_eq_true (by omega)]; rfl
theorem bh_le {f t g u : Int} {b : Bool} (h1 : f ≤ t) (h2 : g ≤ u) (hc : clB f t g u = false) (h : bhB f t g u b = true) : u ≤ f := by
  have hc := clB_no.mp hc
  unfold bhB at h
  by_cases h3 : f = g ∧ t = u
  · omega
  · rw [if_neg h3] at h
    exact of_decide_eq_true h
/-- Edits that do not clash yield the same text in both orders. -/
theorem converge {s : ByteArray} {f t g u : Int} {i j : ByteArray} (b : Bool) (hf : fitsB s f t i = true) (hg : fitsB s g u j = true) (hc : clB f t g u = false) :
    ap (ap s g u j) (f + mv f t g u j b) (t + mv f t g u j b) i = ap (ap s f t i) (g + mv g u f t i (!b)) (u + mv g u f t i (!b)) j := by
  obtain ⟨_, _, a0, a1, a2, _⟩ := fitsB_iff.mp hf
  obtain ⟨_, _, b0, b1, b2, _⟩ := fitsB_iff.mp hg
  have ho := bh_other (b := b) a1 b1 hc
  unfold mv
  rw [ho]
  rcases hb : bhB f t g u b with _ | _
  · have hb' := bh_le b1 a1 (by rw [clB_swap]; exact hc) (ho.trans (by rw [hb]; rfl))
    simp only [Bool.false_eq_true, if_false, Bool.not_false, if_true, Int.add_zero]
    exact (ap_comm a0 a1 hb' b1 b2).symm
  · have hb' := bh_le a1 b1 hc hb
    simp only [Bool.not_true, Bool.false_eq_true, if_false, if_true, Int.add_zero]
    exact ap_comm b0 b1 hb' a1 a2
theorem mv_first {f t g u : Int} {j : ByteArray} (b b' : Bool) (h : ¬ (f = g ∧ t = u)) : mv f t g u j b = mv f t g u j b' := by
  unfold mv bhB; rw [if_neg h, if_neg h]
/-- A transformed edit lies in the text behind the other one. -/
theorem moved_in {s : ByteArray} {f t g u : Int} {i j : ByteArray} {b : Bool} (hf : fitsB s f t i = true) (hg : fitsB s g u j = true) (hc : clB f t g u = false) :
    0 ≤ f + mv f t g u j b ∧ t + mv f t g u j b ≤ (ap s g u j).size := by
  obtain ⟨_, _, a0, a1, a2, _⟩ := fitsB_iff.mp hf
  obtain ⟨_, _, b0, b1, b2, _⟩ := fitsB_iff.mp hg
  have hz := ap_sz (i := j) b0 b1 b2
  have hcc := clB_no.mp hc
  unfold mv grw
  rcases hb : bhB f t g u b with _ | _
  · have hb' := bh_le (b := !b) b1 a1 (by rw [clB_swap]; exact hc) ((bh_other a1 b1 hc).trans (by rw [hb]; rfl))
    simp only [Bool.false_eq_true, if_false]
    omega
  · have hb' := bh_le a1 b1 hc hb
    simp only [if_true]
    omega

end Go.Proofs.Ytnnjnkeabljlaaa
