/-
  The fields of a node of an expression: what the program and the model ask of them.
  The fields of a node of an expression: exprFieldsFit of the program, l3Own of the model.
-/
import Derived.Test.YtpihopmgckdigaaDoorOa
import Derived.Test.YtpihopmgckdigaaDoorShelf
import Derived.Test.YtpihopmgckdigaaDoorZd
namespace Go.Proofs.YtpihopmgckdigaaDoor.Ox
open Go.Proofs.YtpihopmgckdigaaDoor
open Go.RowKit
set_option linter.unusedVariables false
set_option linter.unusedSimpArgs false

def formX (k : Int) : ByteArray := if k = 3 then ⟨#[92, 120, 46, 69]⟩ else if k = 4 then ⟨#[40, 69, 32, 69, 41]⟩ else if k = 5 then ⟨#[40, 69, 43, 69, 41]⟩ else if k = 6 then ⟨#[123, 120, 61, 69, 59, 69, 125]⟩ else if k = 7 then ⟨#[63, 60, 69, 44, 69, 44, 69, 62]⟩ else if k = 8 then ⟨#[40, 69, 44, 69, 41]⟩ else if k = 9 then ⟨#[94, 69]⟩ else if k = 10 then ⟨#[95, 69]⟩ else ⟨#[]⟩
def nameOk (bx : Bool) (s : ByteArray) : Bool := if bx = true then oneB 97 122 s else s.toList.isEmpty
def fitB (bx : Bool) (c : Nat) (n : Int) (m s : ByteArray) (l : Nat) : Bool := decide (n = 0) && (m.toList.isEmpty && (nameOk bx s && decide (l = c)))
theorem fit_n {bx : Bool} {c : Nat} {n : Int} {m s : ByteArray} {l : Nat} (h : ¬ n = 0) : fitB bx c n m s l = false := by unfold fitB; rw [decide_eq_false h]; rfl
theorem fit_m {bx : Bool} {c : Nat} {n : Int} {m s : ByteArray} {l : Nat} (h : m.toList.isEmpty = false) : fitB bx c n m s l = false := by unfold fitB; rw [h]; simp
theorem fit_s {bx : Bool} {c : Nat} {n : Int} {m s : ByteArray} {l : Nat} (h : nameOk bx s = false) : fitB bx c n m s l = false := by unfold fitB; rw [h]; simp
theorem fit_l {bx : Bool} {c : Nat} {n : Int} {m s : ByteArray} {l : Nat} (h : ¬ l = c) : fitB bx c n m s l = false := by unfold fitB; rw [decide_eq_false h]; simp
theorem fit_y {bx : Bool} {c : Nat} {n : Int} {m s : ByteArray} {l : Nat} (h1 : n = 0) (h2 : m.toList.isEmpty = true) (h3 : nameOk bx s = true) (h4 : l = c) : fitB bx c n m s l = true := by unfold fitB; rw [decide_eq_true h1, h2, h3, decide_eq_true h4]; rfl
theorem empty_is {s : ByteArray} (h : s.toList.isEmpty = true) : s.toList = [] := List.isEmpty_iff.1 h
theorem not_empty {s : ByteArray} (h : ¬ s.toList = []) : s.toList.isEmpty = false := by
  rcases e : s.toList.isEmpty with _ | _
  · rfl
  · exact absurd (List.isEmpty_iff.1 e) h
theorem empty_not {s : ByteArray} (h : s.toList.isEmpty = false) : ¬ s.toList = [] := fun e => by rw [e] at h; cases h
end Go.Proofs.YtpihopmgckdigaaDoor.Ox

namespace Go.Proofs.YtpihopmgckdigaaDoor.Ox
open Go.Proofs.YtpihopmgckdigaaDoor
open Go.RowKit
set_option linter.unusedVariables false
set_option linter.unusedSimpArgs false

def fit1 (n : Int) (m s : ByteArray) (l : Nat) : Bool := inB 0 99 n && (m.toList.isEmpty && (s.toList.isEmpty && decide (l = 0)))
def fit2 (n : Int) (m s : ByteArray) (l : Nat) : Bool := decide (n = 0) && ((m.toList.isEmpty || oneB 65 90 m) && (oneB 97 122 s && decide (l = 0)))
def own1 (n : Int) (m s : ByteArray) : Bool := inB 0 99 n && (s.toList.isEmpty && m.toList.isEmpty)
def own2 (n : Int) (m s : ByteArray) : Bool := decide (n = 0) && (oneB 97 122 s && (m.toList.isEmpty || oneB 65 90 m))
def own3 (n : Int) (m s : ByteArray) : Bool := decide (n = 0) && (oneB 97 122 s && m.toList.isEmpty)
def own4 (n : Int) (m s : ByteArray) : Bool := decide (n = 0) && (s.toList.isEmpty && m.toList.isEmpty)
/-- Whether a node's own fields are right, and the number of its operands. -/
def fieldsX (k n : Int) (m s : ByteArray) (l : Nat) : Bool :=
  if k = 1 then fit1 n m s l else if k = 2 then fit2 n m s l else if k = 3 then fitB true 1 n m s l else if k = 4 then fitB false 2 n m s l else if k = 5 then fitB false 2 n m s l
  else if k = 6 then fitB true 2 n m s l else if k = 7 then fitB false 3 n m s l else if k = 8 then fitB false 2 n m s l else if k = 9 then fitB false 1 n m s l else if k = 10 then fitB false 1 n m s l else false
def ownX (k n : Int) (m s : ByteArray) : Bool := if k = 1 then own1 n m s else if k = 2 then own2 n m s else if k = 3 then own3 n m s else if k = 6 then own3 n m s else own4 n m s
end Go.Proofs.YtpihopmgckdigaaDoor.Ox

