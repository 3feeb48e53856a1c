/-
  The fields of a node of an expression: what the program and the model ask of them.
-/
import Derived.Test.YtkekghdkbbjhpaaDoorOa
import Derived.Test.YtkekghdkbbjhpaaDoorShelf
import Derived.Test.YtkekghdkbbjhpaaDoorZd
namespace Go.Proofs.YtkekghdkbbjhpaaDoor.Ox
open Go.Proofs.YtkekghdkbbjhpaaDoor
open Go.RowKit
set_option linter.unusedVariables false
set_option linter.unusedSimpArgs false

def formX (k : Int) : ByteArray := if k = 3 then ⟨#[92, 120, 46, 69]⟩ else if k = 4 then ⟨#[40, 69, 32, 69, 41]⟩ else if k = 5 then ⟨#[40, 69, 43, 69, 41]⟩ else if k = 6 then ⟨#[123, 120, 61, 69, 59, 69, 125]⟩ else if k = 7 then ⟨#[63, 60, 69, 44, 69, 44, 69, 62]⟩ else if k = 8 then ⟨#[40, 69, 44, 69, 41]⟩ else if k = 9 then ⟨#[94, 69]⟩ else if k = 10 then ⟨#[95, 69]⟩ else ⟨#[]⟩
def nameOk (bx : Bool) (s : ByteArray) : Bool := if bx = true then oneB 97 122 s else s.toList.isEmpty
def fitB (bx : Bool) (c : Nat) (n : Int) (m s : ByteArray) (l : Nat) : Bool := decide (n = 0) && (m.toList.isEmpty && (nameOk bx s && decide (l = c)))
theorem fit_n {bx : Bool} {c : Nat} {n : Int} {m s : ByteArray} {l : Nat} (h : ¬ n = 0) : fitB bx c n m s l = false := by unfold fitB; rw [decide_eq_false h]; rfl
theorem fit_m {bx : Bool} {c : Nat} {n : Int} {m s : ByteArray} {l : Nat} (h : m.toList.isEmpty = false) : fitB bx c n m s l = false := by unfold fitB; rw [h]; simp
theorem fit_s {bx : Bool} {c : Nat} {n : Int} {m s : ByteArray} {l : Nat} (h : nameOk bx s = false) : fitB bx c n m s l = false := by unfold fitB; rw [h]; simp
theorem fit_l {bx : Bool} {c : Nat} {n : Int} {m s : ByteArray} {l : Nat} (h : ¬ l = c) : fitB bx c n m s l = false := by unfold fitB; rw [decide_eq_false h]; simp
theorem fit_y {bx : Bool} {c : Nat} {n : Int} {m s : ByteArray} {l : Nat} (h1 : n = 0) (h2 : m.toList.isEmpty = true) (h3 : nameOk bx s = true) (h4 : l = c) : fitB bx c n m s l = true := by unfold fitB; rw [decide_eq_true h1, h2, h3, decide_eq_true h4]; rfl
theorem empty_is {s : ByteArray} (h : s.toList.isEmpty = true) : s.toList = [] := List.isEmpty_iff.1 h
theorem not_empty {s : ByteArray} (h : ¬ s.toList = []) : s.toList.isEmpty = false := by
  rcases e : s.toList.isEmpty with _ | _
  · rfl
  · exact absurd (List.isEmpty_iff.1 e) h
theorem empty_not {s : ByteArray} (h : s.toList.isEmpty = false) : ¬ s.toList = [] := fun e => by rw [e] at h; cases h
end Go.Proofs.YtkekghdkbbjhpaaDoor.Ox
