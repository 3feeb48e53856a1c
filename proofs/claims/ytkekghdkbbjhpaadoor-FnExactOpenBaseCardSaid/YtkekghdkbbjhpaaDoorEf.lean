/-
  The exact laws' copies of a type: a tree in blocks of its own; what was in memory stays.
-/
import Derived.Test.YtkekghdkbbjhpaaDoorProg
import Derived.Test.YtkekghdkbbjhpaaDoorZf
import Derived.Test.YtkekghdkbbjhpaaDoorEd
import Derived.Deep.Slices
import Derived.BigQuiet
import Derived.Deep.RegionHeld3
import Derived.Deep.DeepCutAuto
namespace Go.Proofs.YtkekghdkbbjhpaaDoor.Ox
open Go.Proofs.YtkekghdkbbjhpaaDoor
open Go.RowKit

def ToPost (t : Ex) (w : World) (e : Ending) (w' : World) : Prop := ∃ v, e = .returned (.agg #[.int .i64 t.k, .int .i64 t.n, .string t.m, .string t.s, v]) ∧ ExIn w' w.heap.size w'.heap.size t v ∧ Below w.heap.size w w'
def ToPostS (t : Ex) (w : World) (e : Ending) (w' : World) : Prop := ∃ v, e = .returned v ∧ ExIn w' w.heap.size w'.heap.size t v ∧ Below w.heap.size w w'
def five (x : Ex) (v : Value) : List Value := [.int .i64 x.k, .int .i64 x.n, .string x.m, .string x.s, v]
theorem set5 (xs : List Value) (j : Nat) (a0 a1 a2 a3 a4 : Value) (hl : j * 5 + 5 ≤ xs.length) (i q : Nat) (hq : q < 5) :
    (((((xs.set (j * 5) a0).set (j * 5 + 1) a1).set (j * 5 + 2) a2).set (j * 5 + 3) a3).set (j * 5 + 4) a4)[i * 5 + q]? = if i = j then ([a0, a1, a2, a3, a4] : List Value)[q]? else xs[i * 5 + q]? := by
  by_cases hij : i = j
  · subst hij
    rw [if_pos rfl]
    obtain rfl | rfl | rfl | rfl | rfl : q = 0 ∨ q = 1 ∨ q = 2 ∨ q = 3 ∨ q = 4 := by omega
    all_goals try simp only [Nat.add_zero]
    all_goals repeat (first | rw [List.getElem?_set_ne (by omega)] | rw [List.getElem?_set_self (by (try simp only [List.length_set]); omega)])
    all_goals rfl
  · rw [if_neg hij, List.getElem?_set_ne (by omega), List.getElem?_set_ne (by omega), List.getElem?_set_ne (by omega), List.getElem?_set_ne (by omega), List.getElem?_set_ne (by omega)]
end Go.Proofs.YtkekghdkbbjhpaaDoor.Ox
