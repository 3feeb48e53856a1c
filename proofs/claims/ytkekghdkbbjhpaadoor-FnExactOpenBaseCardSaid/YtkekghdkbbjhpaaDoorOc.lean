/-
  The fields of a node of an expression: exprFieldsFit of the program, l3Own of the model.
-/
import Derived.Test.YtkekghdkbbjhpaaDoorOb
namespace Go.Proofs.YtkekghdkbbjhpaaDoor.Ox
open Go.Proofs.YtkekghdkbbjhpaaDoor
open Go.RowKit
set_option linter.unusedVariables false
set_option linter.unusedSimpArgs false

def fit1 (n : Int) (m s : ByteArray) (l : Nat) : Bool := inB 0 99 n && (m.toList.isEmpty && (s.toList.isEmpty && decide (l = 0)))
def fit2 (n : Int) (m s : ByteArray) (l : Nat) : Bool := decide (n = 0) && ((m.toList.isEmpty || oneB 65 90 m) && (oneB 97 122 s && decide (l = 0)))
def own1 (n : Int) (m s : ByteArray) : Bool := inB 0 99 n && (s.toList.isEmpty && m.toList.isEmpty)
def own2 (n : Int) (m s : ByteArray) : Bool := decide (n = 0) && (oneB 97 122 s && (m.toList.isEmpty || oneB 65 90 m))
def own3 (n : Int) (m s : ByteArray) : Bool := decide (n = 0) && (oneB 97 122 s && m.toList.isEmpty)
def own4 (n : Int) (m s : ByteArray) : Bool := decide (n = 0) && (s.toList.isEmpty && m.toList.isEmpty)
/-- Whether a node's own fields are right, and the number of its operands. -/
def fieldsX (k n : Int) (m s : ByteArray) (l : Nat) : Bool :=
  if k = 1 then fit1 n m s l else if k = 2 then fit2 n m s l else if k = 3 then fitB true 1 n m s l else if k = 4 then fitB false 2 n m s l else if k = 5 then fitB false 2 n m s l
  else if k = 6 then fitB true 2 n m s l else if k = 7 then fitB false 3 n m s l else if k = 8 then fitB false 2 n m s l else if k = 9 then fitB false 1 n m s l else if k = 10 then fitB false 1 n m s l else false
def ownX (k n : Int) (m s : ByteArray) : Bool := if k = 1 then own1 n m s else if k = 2 then own2 n m s else if k = 3 then own3 n m s else if k = 6 then own3 n m s else own4 n m s
end Go.Proofs.YtkekghdkbbjhpaaDoor.Ox
