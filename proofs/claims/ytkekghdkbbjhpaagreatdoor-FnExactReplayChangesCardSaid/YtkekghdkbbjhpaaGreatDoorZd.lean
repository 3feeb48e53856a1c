/-
  TypeValid of the program and of the model: for every type in memory, whether it is valid; what was in memory stays.
-/
import Derived.Test.YtkekghdkbbjhpaaGreatDoorZc
import Derived.BigQuiet
import Derived.Deep.RegionHeld3
import Derived.Deep.DeepCutAuto
namespace Go.Proofs.YtkekghdkbbjhpaaGreatDoor
open Go.RowKit

theorem fieldsB_of {k n : Int} {l : Nat} (h1 : kidsNo k = l) (h2 : 0 ≤ n) (h3 : n ≤ 25) (h4 : k = 4 ∨ n = 0) : fieldsB k n l = true := by
  rw [fieldsB_iff]
  unfold kidsNo at h1
  split at h1
  · omega
  · split at h1 <;> omega
theorem fieldsB_kids {k n : Int} {l : Nat} (h : fieldsB k n l = true) : kidsNo k = l ∧ 0 ≤ n ∧ n ≤ 25 ∧ (k = 4 ∨ n = 0) := by
  rw [fieldsB_iff] at h
  unfold kidsNo
  rcases h with ⟨rfl, rfl, rfl⟩ | ⟨rfl | rfl, rfl, rfl⟩ | ⟨rfl, h1, h2, rfl⟩
  · simp
  · simp
  · simp
  · exact ⟨by simp, h1, h2, .inl rfl⟩
theorem fieldsB_not {k n : Int} {l : Nat} (h : ¬ (kidsNo k = l ∧ 0 ≤ n ∧ n ≤ 25 ∧ (k = 4 ∨ n = 0))) : fieldsB k n l = false := by
  rcases hf : fieldsB k n l with _ | _
  · rfl
  · exact absurd (fieldsB_kids hf) h
end Go.Proofs.YtkekghdkbbjhpaaGreatDoor
