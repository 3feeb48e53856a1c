/-
  What the exact laws' size of a type returns: what is left of a number when every node below the root is taken away, or -1; what was in memory stays.
-/
import Derived.Test.YtndpoejohpmifaaProg
import Derived.Test.YtndpoejohpmifaaYa
import Derived.Deep.Slices
namespace Go.Proofs.Ytndpoejohpmifaa
open Go.RowKit

/-- How many nodes lie below a node. -/
inductive Cnt : Ty → Nat → Prop where
  | node (k n : Int) (ks : List Ty) (c : Nat → Nat) (h : ∀ i, i < ks.length → Cnt (ks.getD i Ty.dummy) (c i)) : Cnt (.node k n ks) (ks.length + ((List.range ks.length).map c).sum)
theorem cnt_total : ∀ (m : Nat) (t : Ty), SizeOf.sizeOf t < m → ∃ c, Cnt t c := by
  intro m
  induction m with
  | zero => intro t h; exact absurd h (Nat.not_lt_zero _)
  | succ m ih =>
    intro t h
    cases t with
    | node k n ks =>
      have step : ∀ i, i < ks.length → ∃ c, Cnt (ks.getD i Ty.dummy) c := fun i hi => ih _ (by
        have := Ty.kid_lt (.node k n ks) i hi
        have e : (Ty.node k n ks).ks = ks := rfl
        rw [e] at this
        omega)
      obtain ⟨c, hc⟩ := Go.Deep.choose_lt step
      exact ⟨_, .node k n ks c hc⟩
theorem sum_succ (c : Nat → Nat) (k : Nat) : ((List.range (k + 1)).map c).sum = ((List.range k).map c).sum + c k := by
  rw [List.range_succ, List.map_append, List.sum_append]; simp
theorem sum_mono (c : Nat → Nat) {k l : Nat} (h : k ≤ l) : ((List.range k).map c).sum ≤ ((List.range l).map c).sum := by
  induction h with
  | refl => exact Nat.le_refl _
  | step _ ih => rw [sum_succ]; omega

/-- What is left of l, c nodes being taken away. -/
def LeftOf (l : Int) (c : Nat) : Int := if (c : Int) ≤ l then l - c else -1
def SzPost (l : Int) (c : Nat) (w : World) (e : Ending) (w' : World) : Prop := e = .returned (.int .i64 (LeftOf l c)) ∧ Below w.heap.size w w'
theorem leftOf_yes {l : Int} {c : Nat} (h : (c : Int) ≤ l) : LeftOf l c = l - c := by unfold LeftOf; rw [if_pos h]
theorem leftOf_no {l : Int} {c : Nat} (h : ¬ (c : Int) ≤ l) : LeftOf l c = -1 := by unfold LeftOf; rw [if_neg h]
theorem ret_i {a b : Int} (h : a = b) : Ending.returned (.int .i64 a) = .returned (.int .i64 b) := by rw [h]

end Go.Proofs.Ytndpoejohpmifaa
