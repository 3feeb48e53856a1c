/-
  The shape of a type and the number of its nodes. Plain facts.
-/
import Derived.Test.YtndpoejohpmifaaYa
namespace Go.Proofs.Ytndpoejohpmifaa
open Go.RowKit

/-- Whether a node has the fields of its kind. -/
def fieldsB (k n : Int) (l : Nat) : Bool := decide ((k = 1 ∧ n = 0 ∧ l = 0) ∨ ((k = 2 ∨ k = 3) ∧ n = 0 ∧ l = 2) ∨ (k = 4 ∧ 0 ≤ n ∧ n ≤ 25 ∧ l = 0))
theorem fieldsB_iff {k n : Int} {l : Nat} : fieldsB k n l = true ↔ ((k = 1 ∧ n = 0 ∧ l = 0) ∨ ((k = 2 ∨ k = 3) ∧ n = 0 ∧ l = 2) ∨ (k = 4 ∧ 0 ≤ n ∧ n ≤ 25 ∧ l = 0)) := by unfold fieldsB; exact decide_eq_true_iff
/-- The i-th operand. -/
def Ty.kid (t : Ty) (i : Nat) : Ty := t.ks.getD i Ty.dummy
/-- Whether a type is well-formed, down to a depth. -/
def shp : Nat → Ty → Bool
  | 0, _ => false
  | d + 1, t => fieldsB t.k t.n t.ks.length && (List.range t.ks.length).all fun i => shp d (t.ks.getD i Ty.dummy)
/-- The number of nodes, down to a depth. -/
def nd : Nat → Ty → Nat
  | 0, _ => 1
  | d + 1, t => 1 + ((List.range t.ks.length).map fun i => nd d (t.ks.getD i Ty.dummy)).sum
/-- The nodes of the first j operands. -/
def ndk (d : Nat) (t : Ty) (j : Nat) : Nat := ((List.range j).map fun i => nd d (t.ks.getD i Ty.dummy)).sum
theorem ndk_zero (d : Nat) (t : Ty) : ndk d t 0 = 0 := rfl
theorem ndk_succ (d : Nat) (t : Ty) (j : Nat) : ndk d t (j + 1) = ndk d t j + nd d (t.ks.getD j Ty.dummy) := by
  unfold ndk; rw [List.range_succ, List.map_append, List.sum_append]; simp
theorem nd_succ (d : Nat) (t : Ty) : nd (d + 1) t = 1 + ndk d t t.ks.length := rfl
theorem ndk_mono (d : Nat) (t : Ty) {i j : Nat} (h : i ≤ j) : ndk d t i ≤ ndk d t j := by
  induction h with
  | refl => exact Nat.le_refl _
  | step _ ih => rw [ndk_succ]; omega
theorem shp_iff {d : Nat} {t : Ty} : shp (d + 1) t = true ↔ fieldsB t.k t.n t.ks.length = true ∧ ∀ i, i < t.ks.length → shp d (t.ks.getD i Ty.dummy) = true := by
  simp only [shp, Bool.and_eq_true, List.all_eq_true, List.mem_range]
theorem shp_fields {d : Nat} {t : Ty} (h : fieldsB t.k t.n t.ks.length = false) : shp (d + 1) t = false := by
  simp only [shp, h, Bool.false_and]
theorem shp_kid_no {d : Nat} {t : Ty} {i : Nat} (hi : i < t.ks.length) (h : shp d (t.ks.getD i Ty.dummy) = false) : shp (d + 1) t = false := by
  rcases hs : shp (d + 1) t with _ | _
  · rfl
  · have := (shp_iff.1 hs).2 i hi; rw [h] at this; cases this
theorem fieldsB_len {k n : Int} {l : Nat} (h : fieldsB k n l = true) : l ≤ 2 := by
  rcases fieldsB_iff.1 h with ⟨_, _, h⟩ | ⟨_, _, h⟩ | ⟨_, _, _, h⟩ <;> omega
theorem nd_lt : ∀ (d : Nat) (t : Ty), shp d t = true → nd d t + 1 ≤ 2 ^ d := by
  intro d
  induction d with
  | zero => intro t h; cases h
  | succ d ih =>
    intro t h
    obtain ⟨hf, hk⟩ := shp_iff.1 h
    have hl := fieldsB_len hf
    have key : ∀ j, j ≤ t.ks.length → ndk d t j + j ≤ j * 2 ^ d := by
      intro j
      induction j with
      | zero => intro _; simp [ndk_zero]
      | succ j ihj =>
        intro hj
        have h1 := ihj (by omega)
        have h2 := ih _ (hk j (by omega))
        rw [ndk_succ, Nat.succ_mul]
        omega
    have h1 := key _ (Nat.le_refl _)
    rw [nd_succ]
    have h2 : 2 ^ (d + 1) = 2 * 2 ^ d := by rw [Nat.pow_succ]; omega
    have h3 : t.ks.length * 2 ^ d ≤ 2 * 2 ^ d := Nat.mul_le_mul_right _ hl
    have h4 : 0 < 2 ^ d := Nat.pow_pos (by omega)
    by_cases hz : t.ks.length = 2
    · rw [hz] at h1 ⊢; omega
    · have hz' : t.ks.length = 0 ∨ t.ks.length = 1 := by omega
      rcases hz' with hz' | hz' <;> rw [hz'] at h1 ⊢ <;> omega
theorem two_pow_le {d : Nat} (h : d ≤ 16) : 2 ^ d ≤ 65536 := Nat.le_trans (Nat.pow_le_pow_right (by omega) h) (by decide)
theorem nd_le {d : Nat} {t : Ty} (hd : d ≤ 16) (h : shp d t = true) : nd d t ≤ 65536 := by
  have h1 := nd_lt d t h
  have h2 := two_pow_le hd
  omega
theorem nd_pos : ∀ (d : Nat) (t : Ty), 0 < nd d t
  | 0, _ => by simp [nd]
  | d + 1, t => by rw [nd_succ]; omega
/-- Whether a type is valid. -/
def tvT (t : Ty) : Bool := shp 16 t && decide (nd 16 t ≤ 63)
/-- What a count of nodes up to a number may be: exact if it does not exceed it, greater otherwise. -/
def CountTo (n most c : Nat) : Prop := (n ≤ most → c = n) ∧ (most < n → most < c) ∧ c ≤ n
end Go.Proofs.Ytndpoejohpmifaa
