/-
  An expression in a variable of five cells.
-/
import Derived.Test.YtkekghdkbbjhpaaGreatDoorZh
import Derived.Test.YtkekghdkbbjhpaaGreatDoorEf
import Derived.Test.YtkekghdkbbjhpaaGreatDoorEg
namespace Go.Proofs.YtkekghdkbbjhpaaGreatDoor
open Go.RowKit
structure EBox (w : World) (B : Nat) (x y m s z : Value) : Prop where
  c0 : w.cell? ⟨B, 0, none⟩ = some x
  c1 : w.cell? ⟨B, 1, none⟩ = some y
  c2 : w.cell? ⟨B, 2, none⟩ = some m
  c3 : w.cell? ⟨B, 3, none⟩ = some s
  c4 : w.cell? ⟨B, 4, none⟩ = some z
  sz : B < w.heap.size
theorem EBox.aside {w w' : World} {B : Nat} {x y m s z : Value} (h : EBox w B x y m s z) (hs : w.heap.size ≤ w'.heap.size) (e : w'.heap[B]? = w.heap[B]?) : EBox w' B x y m s z :=
  ⟨(cellEq e).trans h.c0, (cellEq e).trans h.c1, (cellEq e).trans h.c2, (cellEq e).trans h.c3, (cellEq e).trans h.c4, Nat.lt_of_lt_of_le h.sz hs⟩
theorem EBox.kept {w w' : World} {B : Nat} {x y m s z : Value} (h : EBox w B x y m s z) (hb : Below w.heap.size w w') : EBox w' B x y m s z := h.aside hb.size (hb.block B h.sz)
theorem ebox_new (w : World) (x y m s z : Value) (T : TypeId) : EBox (w.alloc (.cells #[x, y, m, s, z] T)) w.heap.size x y m s z :=
  ⟨by go_simp, by go_simp, by go_simp, by go_simp, by go_simp, by simp⟩
end Go.Proofs.YtkekghdkbbjhpaaGreatDoor
