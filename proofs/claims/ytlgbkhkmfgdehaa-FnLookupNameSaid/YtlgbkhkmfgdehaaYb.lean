/-
  What TypeSame of the model returns: for every two types in memory, whether they are the same; what was in memory stays.
-/
import Derived.Test.YtlgbkhkmfgdehaaProg
import Derived.Test.YtlgbkhkmfgdehaaYa
import Derived.Deep.RegionHeld3
import Derived.Deep.RegionWith
namespace Go.Proofs.Ytlgbkhkmfgdehaa
open Go.RowKit

theorem below_two2 {w wk : World} {o1 o2 : Obj} (h : Below (w.heap.size + 1 + 1) ((w.alloc o1).alloc o2) wk) : Below w.heap.size w wk :=
  (((Below.refl _ _).alloc (Nat.le_refl _) _).alloc (by simp) _).trans (h.mono (by omega))
theorem _root_.Go.RowKit.Below.size2 {w wk : World} {o1 o2 : Obj} (h : Below (w.heap.size + 1 + 1) ((w.alloc o1).alloc o2) wk) : w.heap.size + 1 + 1 ≤ wk.heap.size := by
  have := h.size; simpa using this
theorem six2 {w wk : World} {a1 a2 b1 b2 v1 v2 : Value} {T : TypeId} (h : Below (w.heap.size + 1 + 1) ((w.alloc (.cells #[a1, a2, v1] T)).alloc (.cells #[b1, b2, v2] T)) wk) :
    wk.cell? ⟨w.heap.size, 2, none⟩ = some v1 ∧ wk.cell? ⟨w.heap.size + 1, 2, none⟩ = some v2 := by
  have a0 : w.heap.size < w.heap.size + 1 + 1 := by omega
  have a1 : w.heap.size + 1 < w.heap.size + 1 + 1 := by omega
  constructor
  · rw [h.cell (p := ⟨w.heap.size, 2, none⟩) a0]; go_simp
  · rw [h.cell (p := ⟨w.heap.size + 1, 2, none⟩) a1]; go_simp
theorem ret_b {a b : Bool} (h : a = b) : Ending.returned (.bool a) = .returned (.bool b) := by rw [h]
end Go.Proofs.Ytlgbkhkmfgdehaa
