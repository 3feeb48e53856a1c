/-
  SubstVars of the model and of the program.
-/
import Derived.Test.YtjciindcdcgclaaAf
namespace Go.Proofs.Ytjciindcdcgclaa
open Go.RowKit
set_option linter.unusedVariables false
set_option linter.unusedSimpArgs false

/-- Every type of a list is valid. -/
def allV (ls : List Ty) : Prop := ∀ i, i < ls.length → tvT (ls.getD i Ty.dummy) = true
open Classical in
/-- What SubstVars returns. -/
noncomputable def svT (t : Ty) (ls : List Ty) : Option Ty := if tvT t = true ∧ allV ls ∧ tvT (sbT ls 16 t) = true then some (sbT ls 16 t) else none
theorem svT_t {t : Ty} {ls : List Ty} (h : tvT t = false) : svT t ls = none := by unfold svT; rw [if_neg (by simp [h])]
theorem svT_l {t : Ty} {ls : List Ty} {i : Nat} (hi : i < ls.length) (h : tvT (ls.getD i Ty.dummy) = false) : svT t ls = none := by
  unfold svT; rw [if_neg]; rintro ⟨_, hl, _⟩; have := hl i hi; rw [h] at this; cases this
theorem svT_r {t : Ty} {ls : List Ty} (h : tvT (sbT ls 16 t) = false) : svT t ls = none := by unfold svT; rw [if_neg (by simp [h])]
theorem svT_y {t : Ty} {ls : List Ty} (h : tvT t = true) (hl : allV ls) (hr : tvT (sbT ls 16 t) = true) : svT t ls = some (sbT ls 16 t) := by unfold svT; rw [if_pos ⟨h, hl, hr⟩]
theorem allV_shp {ls : List Ty} (h : allV ls) : ∀ i, i < ls.length → shp 16 (ls.getD i Ty.dummy) = true := fun i hi => tvT_shp (h i hi)

theorem holdsQ_new (w : World) (o : Obj) (lv : Value) (T : TypeId) : HoldsQ (w.heap.size + 1) lv [] ((w.alloc o).alloc (.cells #[lv] T)) := by
  refine ⟨by simp, ?_⟩
  have e := sizeA w o
  rw [← e]
  go_simp
end Go.Proofs.Ytjciindcdcgclaa
