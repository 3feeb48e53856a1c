/-
  A type in a variable of three cells.
-/
import Derived.Test.YtndpoejohpmifaaYc
import Derived.Test.YtndpoejohpmifaaYd
import Derived.Test.YtndpoejohpmifaaZe
import Derived.Test.YtndpoejohpmifaaZf
import Derived.Test.YtndpoejohpmifaaZg
namespace Go.Proofs.Ytndpoejohpmifaa
open Go.RowKit
structure TBox (w : World) (B : Nat) (x y z : Value) : Prop where
  c0 : w.cell? ⟨B, 0, none⟩ = some x
  c1 : w.cell? ⟨B, 1, none⟩ = some y
  c2 : w.cell? ⟨B, 2, none⟩ = some z
  sz : B < w.heap.size
theorem TBox.kept {w w' : World} {B : Nat} {x y z : Value} (h : TBox w B x y z) (hb : Below w.heap.size w w') : TBox w' B x y z :=
  ⟨(hb.cell (p := ⟨B, 0, none⟩) h.sz).trans h.c0, (hb.cell (p := ⟨B, 1, none⟩) h.sz).trans h.c1, (hb.cell (p := ⟨B, 2, none⟩) h.sz).trans h.c2, Nat.lt_of_lt_of_le h.sz hb.size⟩
theorem tbox_new (w : World) (x y z : Value) (T : TypeId) : TBox (w.alloc (.cells #[x, y, z] T)) w.heap.size x y z :=
  ⟨by go_simp, by go_simp, by go_simp, by simp⟩
end Go.Proofs.Ytndpoejohpmifaa
