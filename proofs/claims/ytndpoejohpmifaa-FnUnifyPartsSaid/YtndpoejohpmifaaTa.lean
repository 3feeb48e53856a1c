/-
  The plain functions on bytes and numbers that the contracts of chapter 1 speak of: which bytes a text has, when an edit fits.
  They hold for all arguments; there are no conditions.
-/
import Derived.WalkKit
import Derived.WalkSpells
import Derived.WalkLawsBesides
import Derived.Lib.Hide
namespace Go.Proofs.Ytndpoejohpmifaa
open Go.RowKit

/-- Below, by block: old cells and old marks read as before. -/
theorem bcell {W w1 : World} (hb : Below W.heap.size W w1) : (∀ b o, b < W.heap.size → w1.cell? ⟨b, o, none⟩ = W.cell? ⟨b, o, none⟩) ∧ (∀ b o, b < W.heap.size → w1.frozen? ⟨b, o, none⟩ = W.frozen? ⟨b, o, none⟩) :=
  ⟨fun b o h => hb.cell (p := ⟨b, o, none⟩) h, fun b o h => hb.frozen (p := ⟨b, o, none⟩) h⟩

/-- A byte of a text: a newline or a printable one. -/
def okB (n : Int) : Bool := decide (n = 10 ∨ (32 ≤ n ∧ n ≤ 126))
theorem okB_yes {n : Int} (h : n = 10 ∨ (32 ≤ n ∧ n ≤ 126)) : okB n = true := by unfold okB; exact decide_eq_true h
theorem okB_no {n : Int} (h : ¬ (n = 10 ∨ (32 ≤ n ∧ n ≤ 126))) : okB n = false := by unfold okB; exact decide_eq_false h
theorem okB_iff {n : Int} : okB n = true ↔ (n = 10 ∨ (32 ≤ n ∧ n ≤ 126)) := by unfold okB; exact decide_eq_true_iff
/-- All bytes are bytes of a text. -/
def okL (l : List UInt8) : Bool := l.all fun c => okB c.toNat
/-- A text. -/
def tv (s : ByteArray) : Bool := decide (s.size ≤ 2000) && okL s.data.toList

theorem take_snoc (s : ByteArray) (k : Nat) (h : k < s.size) : s.data.toList.take (k + 1) = s.data.toList.take k ++ [s[k]] := by
  rw [List.take_succ_eq_append_getElem (by simpa using h)]; rfl
theorem okL_snoc (s : ByteArray) (k : Nat) (h : k < s.size) (b : Bool) (hb : okB s[k].toNat = b) (hk : okL (s.data.toList.take k) = true) : okL (s.data.toList.take (k + 1)) = b := by
  rw [take_snoc s k h]; unfold okL at *; simp [hk, hb]
theorem okL_stop (s : ByteArray) (k : Nat) (h : k < s.size) (hb : okB s[k].toNat = false) : okL s.data.toList = false := by
  unfold okL
  rw [List.all_eq_false]
  refine ⟨s[k], ?_, by simp [hb]⟩
  exact List.getElem_mem (l := s.data.toList) (by simpa using h)
theorem tv_long (s : ByteArray) (h : 2000 < s.size) : tv s = false := by unfold tv; simp; omega
theorem tv_short (s : ByteArray) (h : s.size ≤ 2000) : tv s = okL s.data.toList := by unfold tv; simp [h]
theorem okL_all (s : ByteArray) (k : Nat) (hk : s.size ≤ k) (h : okL (s.data.toList.take k) = true) : okL s.data.toList = true := by
  rwa [List.take_of_length_le (by simpa using hk)] at h

/-- When an edit from 'f' to 't' that inserts 'i' fits the text 's'. -/
def fitsB (s : ByteArray) (f t : Int) (i : ByteArray) : Bool :=
  tv s && (tv i && (decide (0 ≤ f) && (decide (f ≤ t) && (decide (t ≤ s.size) && decide ((s.size : Int) + (i.size - (t - f)) ≤ 2000)))))
theorem fitsB_iff {s : ByteArray} {f t : Int} {i : ByteArray} : fitsB s f t i = true ↔ tv s = true ∧ tv i = true ∧ 0 ≤ f ∧ f ≤ t ∧ t ≤ s.size ∧ (s.size : Int) + (i.size - (t - f)) ≤ 2000 := by
  unfold fitsB; simp only [Bool.and_eq_true, decide_eq_true_eq]
theorem tv_size {s : ByteArray} (h : tv s = true) : s.size ≤ 2000 := by unfold tv at h; simp at h; exact h.1

end Go.Proofs.Ytndpoejohpmifaa
