/-
  Names in lists: whether a list has one; the text of a name.
-/
import Derived.Test.YtmoclinccmhijaaDoorRa
namespace Go.Proofs.YtmoclinccmhijaaDoor
open Go.RowKit
set_option linter.unusedVariables false
set_option linter.unusedSimpArgs false

/-- The list of strings lies in a row of its own, or there is none. -/
def SR (w : World) (n0 : Nat) (v : Value) (l : List ByteArray) : Prop := w.ownsRow n0 9 1 v l.length (l.map Value.string)
theorem SR.below {w w' : World} {n0 : Nat} {v : Value} {l : List ByteArray} (h : SR w n0 v l) (hb : Below w.heap.size w w') : SR w' n0 v l := owns_below h hb
/-- Whether the list has the string. -/
def hasB (l : List ByteArray) (s : ByteArray) : Bool := l.any fun y => decide (y.toList = s.toList)
theorem hasB_yes {l : List ByteArray} {s : ByteArray} {j : Nat} (hj : j < l.length) (h : (l.getD j ⟨#[]⟩).toList = s.toList) : hasB l s = true := by
  unfold hasB
  rw [List.any_eq_true]
  refine ⟨l[j], List.getElem_mem hj, ?_⟩
  have e : l.getD j ⟨#[]⟩ = l[j] := by simp [List.getD, hj]
  rw [e] at h
  exact decide_eq_true h
theorem hasB_no {l : List ByteArray} {s : ByteArray} (h : ∀ i, i < l.length → ¬ (l.getD i ⟨#[]⟩).toList = s.toList) : hasB l s = false := by
  rcases e : hasB l s with _ | _
  · rfl
  · unfold hasB at e
    rw [List.any_eq_true] at e
    obtain ⟨y, hy, hd⟩ := e
    obtain ⟨i, hi, rfl⟩ := List.mem_iff_getElem.1 hy
    exact absurd (of_decide_eq_true hd) (by have := h i hi; simpa [List.getD, hi] using this)
/-- The text of a name. -/
def pathB (m s : ByteArray) : ByteArray := if m.toList.isEmpty = true then s else (m ++ ⟨#[46]⟩) ++ s
set_option maxRecDepth 100000 in
set_option maxHeartbeats 1000000 in
theorem l3Path_any (m s : ByteArray) (hm : m.size ≤ 1) (hs : s.size ≤ 1) (w : World) : Calls Tryd.prog 48 #[.string m, .string s] w fun e w' => e = .returned (.string (pathB m s)) ∧ w' = w := by
  rcases he : m.toList.isEmpty with _ | _
  · have h1 := Ox.empty_not he
    have HP : Hid (pathB m s = (m ++ ⟨#[46]⟩) ++ s) := Lib.hid (by unfold pathB; rw [if_neg (by rw [he]; decide)])
    go_enter Tryd.func48, Tryd.ntmps48
    go_wp2_with fail
    go_ret
    exact ⟨by rw [HP.out]; rfl, rfl⟩
  · have h1 := Ox.empty_is he
    have HP : Hid (pathB m s = s) := Lib.hid (by unfold pathB; rw [if_pos he])
    go_enter Tryd.func48, Tryd.ntmps48
    go_wp2_with fail
    go_ret
    exact ⟨by rw [HP.out]; rfl, rfl⟩
set_option maxRecDepth 100000 in
set_option maxHeartbeats 1000000 in
theorem nameText_any (k n : Int) (m s : ByteArray) (v : Value) (hm : m.size ≤ 1) (hs : s.size ≤ 1) (a : Option Addr) (l cap : Nat) (w : World) : Calls Tryd.prog 51 #[.agg #[.int .i64 k, .int .i64 n, .string m, .string s, .slice a l cap]] w fun e w' => e = .returned (.string (pathB m s)) ∧ Below w.heap.size w w' := by
  rcases he : m.toList.isEmpty with _ | _
  · have h1 := Ox.empty_not he
    have HP : Hid (pathB m s = (m ++ ⟨#[46]⟩) ++ s) := Lib.hid (by unfold pathB; rw [if_neg (by rw [he]; decide)])
    go_enter Tryd.func51, Tryd.ntmps51
    go_wp2_with fail
    go_ret
    exact ⟨by rw [HP.out]; rfl, (Below.refl _ _).alloc (Nat.le_refl _) _⟩
  · have h1 := Ox.empty_is he
    have HP : Hid (pathB m s = s) := Lib.hid (by unfold pathB; rw [if_pos he])
    go_enter Tryd.func51, Tryd.ntmps51
    go_wp2_with fail
    go_ret
    exact ⟨by rw [HP.out]; rfl, (Below.refl _ _).alloc (Nat.le_refl _) _⟩

end Go.Proofs.YtmoclinccmhijaaDoor
