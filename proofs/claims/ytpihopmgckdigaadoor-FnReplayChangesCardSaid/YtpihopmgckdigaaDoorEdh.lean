/-
  What the exact laws' size of a type returns: what is left of a number when every node below the root is taken away, or -1; what was in memory stays.
  The exact laws' copies of a type: a tree in blocks of its own; what was in memory stays.
  The exact laws' comparison of two types: it returns true for the same type; what was in memory stays.
  An expression in a variable of five cells.
-/
import Derived.Test.YtpihopmgckdigaaDoorProg
import Derived.Test.YtpihopmgckdigaaDoorYd
import Derived.Test.YtpihopmgckdigaaDoorEc
import Derived.Deep.Slices
import Derived.Test.YtpihopmgckdigaaDoorZf
import Derived.BigQuiet
import Derived.Deep.RegionHeld3
import Derived.Deep.DeepCutAuto
import Derived.Test.YtpihopmgckdigaaDoorZg
import Derived.Test.YtpihopmgckdigaaDoorZh
namespace Go.Proofs.YtpihopmgckdigaaDoor.Ox
open Go.Proofs.YtpihopmgckdigaaDoor
open Go.RowKit

end Go.Proofs.YtpihopmgckdigaaDoor.Ox

namespace Go.Proofs.YtpihopmgckdigaaDoor.Ox
open Go.Proofs.YtpihopmgckdigaaDoor
open Go.RowKit

def ToPost (t : Ex) (w : World) (e : Ending) (w' : World) : Prop := ∃ v, e = .returned (.agg #[.int .i64 t.k, .int .i64 t.n, .string t.m, .string t.s, v]) ∧ ExIn w' w.heap.size w'.heap.size t v ∧ Below w.heap.size w w'
def ToPostS (t : Ex) (w : World) (e : Ending) (w' : World) : Prop := ∃ v, e = .returned v ∧ ExIn w' w.heap.size w'.heap.size t v ∧ Below w.heap.size w w'
def five (x : Ex) (v : Value) : List Value := [.int .i64 x.k, .int .i64 x.n, .string x.m, .string x.s, v]
theorem set5 (xs : List Value) (j : Nat) (a0 a1 a2 a3 a4 : Value) (hl : j * 5 + 5 ≤ xs.length) (i q : Nat) (hq : q < 5) :
    (((((xs.set (j * 5) a0).set (j * 5 + 1) a1).set (j * 5 + 2) a2).set (j * 5 + 3) a3).set (j * 5 + 4) a4)[i * 5 + q]? = if i = j then ([a0, a1, a2, a3, a4] : List Value)[q]? else xs[i * 5 + q]? := by
  by_cases hij : i = j
  · subst hij
    rw [if_pos rfl]
    obtain rfl | rfl | rfl | rfl | rfl : q = 0 ∨ q = 1 ∨ q = 2 ∨ q = 3 ∨ q = 4 := by omega
    all_goals try simp only [Nat.add_zero]
    all_goals repeat (first | rw [List.getElem?_set_ne (by omega)] | rw [List.getElem?_set_self (by (try simp only [List.length_set]); omega)])
    all_goals rfl
  · rw [if_neg hij, List.getElem?_set_ne (by omega), List.getElem?_set_ne (by omega), List.getElem?_set_ne (by omega), List.getElem?_set_ne (by omega), List.getElem?_set_ne (by omega)]
end Go.Proofs.YtpihopmgckdigaaDoor.Ox

namespace Go.Proofs.YtpihopmgckdigaaDoor.Ox
open Go.Proofs.YtpihopmgckdigaaDoor
open Go.RowKit

end Go.Proofs.YtpihopmgckdigaaDoor.Ox

namespace Go.Proofs.YtpihopmgckdigaaDoor
open Go.RowKit
structure EBox (w : World) (B : Nat) (x y m s z : Value) : Prop where
  c0 : w.cell? ⟨B, 0, none⟩ = some x
  c1 : w.cell? ⟨B, 1, none⟩ = some y
  c2 : w.cell? ⟨B, 2, none⟩ = some m
  c3 : w.cell? ⟨B, 3, none⟩ = some s
  c4 : w.cell? ⟨B, 4, none⟩ = some z
  sz : B < w.heap.size
theorem EBox.aside {w w' : World} {B : Nat} {x y m s z : Value} (h : EBox w B x y m s z) (hs : w.heap.size ≤ w'.heap.size) (e : w'.heap[B]? = w.heap[B]?) : EBox w' B x y m s z :=
  ⟨(cellEq e).trans h.c0, (cellEq e).trans h.c1, (cellEq e).trans h.c2, (cellEq e).trans h.c3, (cellEq e).trans h.c4, Nat.lt_of_lt_of_le h.sz hs⟩
theorem EBox.kept {w w' : World} {B : Nat} {x y m s z : Value} (h : EBox w B x y m s z) (hb : Below w.heap.size w w') : EBox w' B x y m s z := h.aside hb.size (hb.block B h.sz)
theorem ebox_new (w : World) (x y m s z : Value) (T : TypeId) : EBox (w.alloc (.cells #[x, y, m, s, z] T)) w.heap.size x y m s z :=
  ⟨by go_simp, by go_simp, by go_simp, by go_simp, by go_simp, by simp⟩
end Go.Proofs.YtpihopmgckdigaaDoor

