/-
  The exact laws' copies of a type: a tree in blocks of its own; what was in memory stays.
-/
import Derived.Test.YtkekghdkbbjhpaaDoorProg
import Derived.Test.YtkekghdkbbjhpaaDoorZb
import Derived.Test.YtkekghdkbbjhpaaDoorYd
import Derived.Deep.Slices
import Derived.BigQuiet
import Derived.Deep.RegionHeld3
import Derived.Deep.DeepCutAuto
namespace Go.Proofs.YtkekghdkbbjhpaaDoor
open Go.RowKit

def ToPost (t : Ty) (w : World) (e : Ending) (w' : World) : Prop := ∃ v, e = .returned (.agg #[.int .i64 t.k, .int .i64 t.n, v]) ∧ TyIn w' w.heap.size w'.heap.size t v ∧ Below w.heap.size w w'
def ToPostS (t : Ty) (w : World) (e : Ending) (w' : World) : Prop := ∃ v, e = .returned v ∧ TyIn w' w.heap.size w'.heap.size t v ∧ Below w.heap.size w w'
theorem own_block {w : World} {B g n cap sz : Nat} {e : TypeId} {xs : List Value} (h : w.ownsRow B e sz (.slice (some ⟨g, 0, none⟩) n cap) n xs) : B ≤ g ∧ g < w.heap.size := h.lt g rfl
theorem row_own {w : World} {B g n cap sz : Nat} {e : TypeId} {xs : List Value} (h : w.ownsRow B e sz (.slice (some ⟨g, 0, none⟩) n cap) n xs) : Row w g := by
  refine ⟨(h.lt g rfl).2, ?_⟩
  rcases h.2 with ⟨h', _⟩ | ⟨g', cap', cur, h', _, hg, _⟩
  · simp at h'
  · simp at h'; obtain ⟨rfl, _⟩ := h'; exact ⟨cur, e, hg⟩
theorem own_len {w : World} {B n sz : Nat} {e : TypeId} {v : Value} {xs : List Value} (h : w.ownsRow B e sz v n xs) : xs.length = n * sz := h.1
theorem own_below {w w' : World} {B n sz : Nat} {e : TypeId} {v : Value} {xs : List Value} (h : w.ownsRow B e sz v n xs) (hb : Below w.heap.size w w') : w'.ownsRow B e sz v n xs := by
  obtain ⟨hl, h | ⟨g, cap, cur, rfl, hb', ho, h1, h2, h3, h4⟩⟩ := h
  · exact ⟨hl, .inl h⟩
  · exact ⟨hl, .inr ⟨g, cap, cur, rfl, hb', (hb.block g (Array.getElem?_eq_some_iff.1 ho).1).trans ho, h1, h2, h3, h4⟩⟩
end Go.Proofs.YtkekghdkbbjhpaaDoor
