/-
  TypeValid of the program and of the model: for every type in memory, whether it is valid; what was in memory stays.
-/
import Derived.Test.YtkekghdkbbjhpaaDoorProg
import Derived.Test.YtkekghdkbbjhpaaDoorZa
namespace Go.Proofs.YtkekghdkbbjhpaaDoor
open Go.RowKit

theorem ret_bz {a b : Bool} (h : a = b) : Ending.returned (.bool a) = .returned (.bool b) := by rw [h]
def kidsNo (k : Int) : Int := if k = 1 ∨ k = 4 then 0 else if k = 2 ∨ k = 3 then 2 else -1
theorem kidsNo_rest {k : Int} (h1 : k ≠ 1) (h4 : k ≠ 4) (h2 : k ≠ 2) (h3 : k ≠ 3) : kidsNo k = -1 := by unfold kidsNo; rw [if_neg (by omega), if_neg (by omega)]
theorem fieldsB_no {k n : Int} {l : Nat} (h : ¬ ((k = 1 ∧ n = 0 ∧ l = 0) ∨ ((k = 2 ∨ k = 3) ∧ n = 0 ∧ l = 2) ∨ (k = 4 ∧ 0 ≤ n ∧ n ≤ 25 ∧ l = 0))) : fieldsB k n l = false := by unfold fieldsB; exact decide_eq_false h

def ndv (d : Nat) (t : Ty) : Int := if shp d t = true then (nd d t : Int) else 0
theorem ndv_yes {d : Nat} {t : Ty} (h : shp d t = true) : ndv d t = nd d t := by unfold ndv; rw [if_pos h]
theorem ndv_no {d : Nat} {t : Ty} (h : shp d t = false) : ndv d t = 0 := by unfold ndv; rw [if_neg (by simp [h])]
def NodesPost (d : Nat) (t : Ty) (w : World) (e : Ending) (w' : World) : Prop := e = .returned (.tuple #[.int .i64 (ndv d t), .bool (shp d t)]) ∧ Below w.heap.size w w'
theorem ret_nb {a a' : Int} {b b' : Bool} (h : a = a') (h' : b = b') : Ending.returned (.tuple #[.int .i64 a, .bool b]) = .returned (.tuple #[.int .i64 a', .bool b']) := by rw [h, h']

theorem below_one {w wk : World} {o : Obj} (h : Below (w.heap.size + 1) (w.alloc o) wk) : Below w.heap.size w wk := ((Below.refl _ _).alloc (Nat.le_refl _) _).trans (h.mono (by omega))
theorem box_kept {w wk : World} {x y z : Value} {T : TypeId} (h : Below (w.heap.size + 1) (w.alloc (.cells #[x, y, z] T)) wk) :
    wk.cell? ⟨w.heap.size, 0, none⟩ = some x ∧ wk.cell? ⟨w.heap.size, 1, none⟩ = some y ∧ wk.cell? ⟨w.heap.size, 2, none⟩ = some z ∧ w.heap.size < wk.heap.size := by
  have a0 : w.heap.size < w.heap.size + 1 := by omega
  refine ⟨?_, ?_, ?_, ?_⟩
  · rw [h.cell (p := ⟨w.heap.size, 0, none⟩) a0]; go_simp
  · rw [h.cell (p := ⟨w.heap.size, 1, none⟩) a0]; go_simp
  · rw [h.cell (p := ⟨w.heap.size, 2, none⟩) a0]; go_simp
  · have := h.size; simp at this; omega

end Go.Proofs.YtkekghdkbbjhpaaDoor
