/-
  TypeValid of the program and of the model: for every type in memory, whether it is valid; what was in memory stays.
-/
import Derived.Test.YtkekghdkbbjhpaaDoorZd
namespace Go.Proofs.YtkekghdkbbjhpaaDoor
open Go.RowKit

def CountPost (N : Nat) (most : Nat) (w : World) (e : Ending) (w' : World) : Prop := ∃ c : Nat, e = .returned (.int .i64 c) ∧ CountTo N most c ∧ Below w.heap.size w w'

theorem tvT_no {t : Ty} (h : shp 16 t = false) : tvT t = false := by unfold tvT; rw [h]; rfl
theorem tvT_yes {t : Ty} (h : shp 16 t = true) : tvT t = decide (nd 16 t ≤ 63) := by unfold tvT; rw [h]; rfl

end Go.Proofs.YtkekghdkbbjhpaaDoor
