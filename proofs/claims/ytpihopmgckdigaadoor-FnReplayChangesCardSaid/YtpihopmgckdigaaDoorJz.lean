/-
  Rows of numbers, and the exact laws' functions that compare and look at them (out of the texts on the variables of types).
-/
import Derived.Test.YtpihopmgckdigaaDoorZf
import Derived.Test.YtpihopmgckdigaaDoorZh
import Derived.BigQuiet
namespace Go.Proofs.YtpihopmgckdigaaDoor
open Go.RowKit

abbrev IntsAt (w : World) (B : Nat) (v : Value) (l : List Int) : Prop := w.ownsRow B 3 1 v l.length (l.map (Value.int .i64))
theorem ints_slice {w : World} {B : Nat} {v : Value} {l : List Int} (h : IntsAt w B v l) : ∃ a cap, v = .slice a l.length cap := by
  obtain ⟨hl, ⟨rfl, h0⟩ | ⟨g, cap, cur, rfl, _⟩⟩ := h
  · exact ⟨none, 0, by rw [h0]⟩
  · exact ⟨_, cap, rfl⟩
theorem ints_at {w : World} {B : Nat} {v : Value} {l : List Int} (h : IntsAt w B v l) (k : Nat) (hk : k < l.length) :
    ∃ b cap, v = .slice (some ⟨b, 0, none⟩) l.length cap ∧ B ≤ b ∧ b < w.heap.size ∧ w.cell? ⟨b, k, none⟩ = some (.int .i64 (l.getD k 0)) := by
  have h' := h
  obtain ⟨hl, ⟨rfl, h0⟩ | ⟨g, cap, cur, rfl, hb', ho, h1, h2, h3, h4⟩⟩ := h
  · omega
  · refine ⟨g, cap, rfl, hb', (Array.getElem?_eq_some_iff.1 ho).1, ?_⟩
    rw [h'.cellAt k (by omega)]
    simp [List.getD, hk]
theorem ints_below {w w' : World} {B : Nat} {v : Value} {l : List Int} (h : IntsAt w B v l) (hb : Below w.heap.size w w') : IntsAt w' B v l := own_below h hb
theorem ints_low {w w' : World} {B C : Nat} {v : Value} {l : List Int} (h : IntsAt w B v l) (hlt : ∀ g, v.ownBlock = some g → g < C) (hb : Below C w w') : IntsAt w' B v l := by
  obtain ⟨hl, h | ⟨g, cap, cur, rfl, hb', ho, h1, h2, h3, h4⟩⟩ := h
  · exact ⟨hl, .inl h⟩
  · exact ⟨hl, .inr ⟨g, cap, cur, rfl, hb', (hb.block g (hlt g rfl)).trans ho, h1, h2, h3, h4⟩⟩

/-- The marks from K on. -/
def marksI (K L : Nat) : List Int := (List.range L).map fun i => ((K + i : Nat) : Int)
theorem marksI_len (K L : Nat) : (marksI K L).length = L := by unfold marksI; simp


end Go.Proofs.YtpihopmgckdigaaDoor
