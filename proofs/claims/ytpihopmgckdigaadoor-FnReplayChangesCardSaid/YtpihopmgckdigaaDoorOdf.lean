/-
  exprNodes: the nodes of an expression, if there are at most 60 and they are right down to a depth.
  l3Shape and l3Count of the model: whether an expression's nodes are right down to a depth, and how many there are.
  ExprValid of the model and of the program: whether an expression is valid; what was in memory stays.
-/
import Derived.Test.YtpihopmgckdigaaDoorObc
import Derived.Test.YtpihopmgckdigaaDoorEdh
import Derived.Test.YtpihopmgckdigaaDoorZe
namespace Go.Proofs.YtpihopmgckdigaaDoor.Ox
open Go.Proofs.YtpihopmgckdigaaDoor
open Go.RowKit
set_option linter.unusedVariables false
set_option linter.unusedSimpArgs false

theorem fields_len {k n : Int} {m s : ByteArray} {l : Nat} (h : fieldsX k n m s l = true) : l ≤ 3 := by
  unfold fieldsX fit1 fit2 fitB at h
  repeat' split at h
  all_goals first | (simp only [Bool.and_eq_true, decide_eq_true_eq] at h; omega) | cases h
/-- Whether the nodes are right, down to a depth. -/
def shpX : Nat → Ex → Bool
  | 0, _ => false
  | d + 1, x => fieldsX x.k x.n x.m x.s x.ks.length && (List.range x.ks.length).all fun i => shpX d (x.ks.getD i Ex.dummy)
/-- The number of nodes, down to a depth. -/
def ndX : Nat → Ex → Nat
  | 0, _ => 1
  | d + 1, x => 1 + ((List.range x.ks.length).map fun i => ndX d (x.ks.getD i Ex.dummy)).sum
def ndkX (d : Nat) (x : Ex) (j : Nat) : Nat := ((List.range j).map fun i => ndX d (x.ks.getD i Ex.dummy)).sum
theorem ndkX_zero (d : Nat) (x : Ex) : ndkX d x 0 = 0 := rfl
theorem ndkX_succ (d : Nat) (x : Ex) (j : Nat) : ndkX d x (j + 1) = ndkX d x j + ndX d (x.ks.getD j Ex.dummy) := by
  unfold ndkX; rw [List.range_succ, List.map_append, List.sum_append]; simp
theorem ndX_succ (d : Nat) (x : Ex) : ndX (d + 1) x = 1 + ndkX d x x.ks.length := rfl
theorem ndkX_mono (d : Nat) (x : Ex) {i j : Nat} (h : i ≤ j) : ndkX d x i ≤ ndkX d x j := by
  induction h with
  | refl => exact Nat.le_refl _
  | step _ ih => rw [ndkX_succ]; omega
theorem shpX_iff {d : Nat} {x : Ex} : shpX (d + 1) x = true ↔ fieldsX x.k x.n x.m x.s x.ks.length = true ∧ ∀ i, i < x.ks.length → shpX d (x.ks.getD i Ex.dummy) = true := by
  simp only [shpX, Bool.and_eq_true, List.all_eq_true, List.mem_range]
theorem shpX_fields {d : Nat} {x : Ex} (h : fieldsX x.k x.n x.m x.s x.ks.length = false) : shpX (d + 1) x = false := by
  simp only [shpX, h, Bool.false_and]
theorem shpX_kid_no {d : Nat} {x : Ex} {i : Nat} (hi : i < x.ks.length) (h : shpX d (x.ks.getD i Ex.dummy) = false) : shpX (d + 1) x = false := by
  rcases hs : shpX (d + 1) x with _ | _
  · rfl
  · have := (shpX_iff.1 hs).2 i hi; rw [h] at this; cases this
theorem ndX_lt : ∀ (d : Nat) (x : Ex), shpX d x = true → ndX d x + 1 ≤ 4 ^ d := by
  intro d
  induction d with
  | zero => intro x h; cases h
  | succ d ih =>
    intro x h
    obtain ⟨hf, hk⟩ := shpX_iff.1 h
    have hl := fields_len hf
    have key : ∀ j, j ≤ x.ks.length → ndkX d x j + j ≤ j * 4 ^ d := by
      intro j
      induction j with
      | zero => intro _; simp [ndkX_zero]
      | succ j ihj =>
        intro hj
        have h1 := ihj (by omega)
        have h2 := ih _ (hk j (by omega))
        rw [ndkX_succ, Nat.succ_mul]
        omega
    have h1 := key _ (Nat.le_refl _)
    rw [ndX_succ]
    have h2 : 4 ^ (d + 1) = 4 * 4 ^ d := by rw [Nat.pow_succ]; omega
    have h3 : x.ks.length * 4 ^ d ≤ 3 * 4 ^ d := Nat.mul_le_mul_right _ hl
    have h4 : 0 < 4 ^ d := Nat.pow_pos (by omega)
    rw [h2]
    rcases Nat.eq_zero_or_pos x.ks.length with hz | hz
    · rw [hz] at h1 ⊢
      simp only [ndkX_zero]
      omega
    · omega
theorem four_pow_le {d : Nat} (h : d ≤ 12) : 4 ^ d ≤ 16777216 := Nat.le_trans (Nat.pow_le_pow_right (by omega) h) (by decide)
theorem ndX_le {d : Nat} {x : Ex} (hd : d ≤ 12) (h : shpX d x = true) : ndX d x ≤ 16777216 := by
  have h1 := ndX_lt d x h
  have h2 := four_pow_le hd
  omega
/-- Right down to a depth, and of at most 60 nodes. -/
def okX (d : Nat) (x : Ex) : Bool := shpX d x && decide (ndX d x ≤ 60)
def nvX (d : Nat) (x : Ex) : Int := if okX d x = true then (ndX d x : Int) else 0
theorem nvX_yes {d : Nat} {x : Ex} (h : okX d x = true) : nvX d x = ndX d x := by unfold nvX; rw [if_pos h]
theorem nvX_no {d : Nat} {x : Ex} (h : okX d x = false) : nvX d x = 0 := by unfold nvX; rw [if_neg (by simp [h])]
theorem okX_iff {d : Nat} {x : Ex} : okX d x = true ↔ shpX d x = true ∧ ndX d x ≤ 60 := by unfold okX; rw [Bool.and_eq_true, decide_eq_true_eq]
theorem okX_no {d : Nat} {x : Ex} (h : ¬ (shpX d x = true ∧ ndX d x ≤ 60)) : okX d x = false := by
  rcases e : okX d x with _ | _
  · rfl
  · exact absurd (okX_iff.1 e) h
theorem okX_kid {d : Nat} {x : Ex} {j : Nat} (hj : j < x.ks.length) (h : okX d (x.ks.getD j Ex.dummy) = false) : okX (d + 1) x = false := by
  refine okX_no (fun ⟨h1, h2⟩ => ?_)
  have h3 := (shpX_iff.1 h1).2 j hj
  have h4 := ndkX_mono d x (show j + 1 ≤ x.ks.length from hj)
  rw [ndkX_succ] at h4
  rw [ndX_succ] at h2
  have : okX d (x.ks.getD j Ex.dummy) = true := okX_iff.2 ⟨h3, by omega⟩
  rw [h] at this
  cases this
def NxPost (d : Nat) (x : Ex) (w : World) (e : Ending) (w' : World) : Prop := e = .returned (.tuple #[.int .i64 (nvX d x), .bool (okX d x)]) ∧ Below w.heap.size w w'
theorem box5_kept {w wk : World} {x y m s z : Value} {T : TypeId} (h : Below (w.heap.size + 1) (w.alloc (.cells #[x, y, m, s, z] T)) wk) : EBox wk w.heap.size x y m s z := by
  have hw := ebox_new w x y m s z T
  exact ⟨(h.cell (p := ⟨w.heap.size, 0, none⟩) (Nat.lt_succ_self _)).trans hw.c0, (h.cell (p := ⟨w.heap.size, 1, none⟩) (Nat.lt_succ_self _)).trans hw.c1, (h.cell (p := ⟨w.heap.size, 2, none⟩) (Nat.lt_succ_self _)).trans hw.c2, (h.cell (p := ⟨w.heap.size, 3, none⟩) (Nat.lt_succ_self _)).trans hw.c3, (h.cell (p := ⟨w.heap.size, 4, none⟩) (Nat.lt_succ_self _)).trans hw.c4, by have := h.size; simp at this; omega⟩

end Go.Proofs.YtpihopmgckdigaaDoor.Ox

namespace Go.Proofs.YtpihopmgckdigaaDoor.Ox
open Go.Proofs.YtpihopmgckdigaaDoor
open Go.RowKit
set_option linter.unusedVariables false
set_option linter.unusedSimpArgs false

theorem fieldsX_iff {k n : Int} {m s : ByteArray} {l : Nat} : fieldsX k n m s l = true ↔ kidsX k = (l : Int) ∧ ownX k n m s = true := by
  by_cases hk : 1 ≤ k ∧ k ≤ 10
  · obtain ⟨h1, h2⟩ := hk
    have : k = 1 ∨ k = 2 ∨ k = 3 ∨ k = 4 ∨ k = 5 ∨ k = 6 ∨ k = 7 ∨ k = 8 ∨ k = 9 ∨ k = 10 := by omega
    rcases this with rfl | rfl | rfl | rfl | rfl | rfl | rfl | rfl | rfl | rfl
    all_goals simp only [fieldsX, ownX, kidsX, fit1, fit2, fitB, nameOk, own1, own2, own3, own4, Int.reduceEq, if_true, if_false, or_self, or_true, true_or, false_or, or_false, reduceIte, Bool.false_eq_true]
    all_goals generalize inB 0 99 n = b1
    all_goals generalize m.toList.isEmpty = b2
    all_goals generalize s.toList.isEmpty = b3
    all_goals generalize oneB 97 122 s = b4
    all_goals generalize oneB 65 90 m = b5
    all_goals cases b1 <;> cases b2 <;> cases b3 <;> cases b4 <;> cases b5
    all_goals simp
    all_goals omega
  · have e1 : fieldsX k n m s l = false := by
      unfold fieldsX
      rw [if_neg (by omega), if_neg (by omega), if_neg (by omega), if_neg (by omega), if_neg (by omega), if_neg (by omega), if_neg (by omega), if_neg (by omega), if_neg (by omega), if_neg (by omega)]
    have e2 : kidsX k = -1 := by unfold kidsX; rw [if_neg (by omega), if_neg (by omega), if_neg (by omega), if_neg (by omega)]
    rw [e1, e2]
    constructor
    · intro h; cases h
    · rintro ⟨h, _⟩; omega
theorem fieldsX_not {k n : Int} {m s : ByteArray} {l : Nat} (h : ¬ (kidsX k = (l : Int) ∧ ownX k n m s = true)) : fieldsX k n m s l = false := by
  rcases e : fieldsX k n m s l with _ | _
  · rfl
  · exact absurd (fieldsX_iff.1 e) h

end Go.Proofs.YtpihopmgckdigaaDoor.Ox

namespace Go.Proofs.YtpihopmgckdigaaDoor.Ox
open Go.Proofs.YtpihopmgckdigaaDoor
open Go.RowKit
set_option linter.unusedVariables false
set_option linter.unusedSimpArgs false

end Go.Proofs.YtpihopmgckdigaaDoor.Ox

