/-
  l3Shape and l3Count of the model: whether an expression's nodes are right down to a depth, and how many there are.
-/
import Derived.Test.YtkekghdkbbjhpaaGreatDoorOd
namespace Go.Proofs.YtkekghdkbbjhpaaGreatDoor.Ox
open Go.Proofs.YtkekghdkbbjhpaaGreatDoor
open Go.RowKit
set_option linter.unusedVariables false
set_option linter.unusedSimpArgs false

theorem fieldsX_iff {k n : Int} {m s : ByteArray} {l : Nat} : fieldsX k n m s l = true ↔ kidsX k = (l : Int) ∧ ownX k n m s = true := by
  by_cases hk : 1 ≤ k ∧ k ≤ 10
  · obtain ⟨h1, h2⟩ := hk
    have : k = 1 ∨ k = 2 ∨ k = 3 ∨ k = 4 ∨ k = 5 ∨ k = 6 ∨ k = 7 ∨ k = 8 ∨ k = 9 ∨ k = 10 := by omega
    rcases this with rfl | rfl | rfl | rfl | rfl | rfl | rfl | rfl | rfl | rfl
    all_goals simp only [fieldsX, ownX, kidsX, fit1, fit2, fitB, nameOk, own1, own2, own3, own4, Int.reduceEq, if_true, if_false, or_self, or_true, true_or, false_or, or_false, reduceIte, Bool.false_eq_true]
    all_goals generalize inB 0 99 n = b1
    all_goals generalize m.toList.isEmpty = b2
    all_goals generalize s.toList.isEmpty = b3
    all_goals generalize oneB 97 122 s = b4
    all_goals generalize oneB 65 90 m = b5
    all_goals cases b1 <;> cases b2 <;> cases b3 <;> cases b4 <;> cases b5
    all_goals simp
    all_goals omega
  · have e1 : fieldsX k n m s l = false := by
      unfold fieldsX
      rw [if_neg (by omega), if_neg (by omega), if_neg (by omega), if_neg (by omega), if_neg (by omega), if_neg (by omega), if_neg (by omega), if_neg (by omega), if_neg (by omega), if_neg (by omega)]
    have e2 : kidsX k = -1 := by unfold kidsX; rw [if_neg (by omega), if_neg (by omega), if_neg (by omega), if_neg (by omega)]
    rw [e1, e2]
    constructor
    · intro h; cases h
    · rintro ⟨h, _⟩; omega
theorem fieldsX_not {k n : Int} {m s : ByteArray} {l : Nat} (h : ¬ (kidsX k = (l : Int) ∧ ownX k n m s = true)) : fieldsX k n m s l = false := by
  rcases e : fieldsX k n m s l with _ | _
  · rfl
  · exact absurd (fieldsX_iff.1 e) h

end Go.Proofs.YtkekghdkbbjhpaaGreatDoor.Ox
