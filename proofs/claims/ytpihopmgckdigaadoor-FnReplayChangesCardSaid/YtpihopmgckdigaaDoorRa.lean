/-
  The exact laws' functions on slices of strings: equal ones, marks.
-/
import Derived.Test.YtpihopmgckdigaaDoorOdf
import Derived.BigQuiet
import Derived.Deep.RegionHeld3
import Derived.Deep.DeepCutAuto
namespace Go.Proofs.YtpihopmgckdigaaDoor
open Go.RowKit Go.Shelf
set_option linter.unusedVariables false
set_option linter.unusedSimpArgs false

theorem owns_slice {W : World} {n0 sz n : Nat} {e : TypeId} {v : Value} {xs : List Value} (h : W.ownsRow n0 e sz v n xs) : ∃ a cap, v = .slice a n cap := by
  obtain ⟨hl, ⟨rfl, rfl⟩ | ⟨g, cap, cur, rfl, hb', ho, h1, h2, h3, h4⟩⟩ := h
  · exact ⟨none, 0, rfl⟩
  · exact ⟨_, cap, rfl⟩
theorem owns_below {w w' : World} {n0 sz n : Nat} {e : TypeId} {v : Value} {xs : List Value} (h : w.ownsRow n0 e sz v n xs) (hb : Below w.heap.size w w') : w'.ownsRow n0 e sz v n xs := by
  obtain ⟨hl, h | ⟨g, cap, cur, rfl, hb', ho, h1, h2, h3, h4⟩⟩ := h
  · exact ⟨hl, .inl h⟩
  · exact ⟨hl, .inr ⟨g, cap, cur, rfl, hb', (hb.block g (Array.getElem?_eq_some_iff.1 ho).1).trans ho, h1, h2, h3, h4⟩⟩
theorem row_str {w : World} {n0 : Nat} {v : Value} {l : List ByteArray} (h : w.ownsRow n0 9 1 v l.length (l.map Value.string)) (k : Nat) (hk : k < l.length) :
    ∃ b cap, v = .slice (some ⟨b, 0, none⟩) l.length cap ∧ n0 ≤ b ∧ b < w.heap.size ∧ w.cell? ⟨b, k, none⟩ = some (.string (l.getD k ⟨#[]⟩)) := by
  have h' := h
  obtain ⟨hl, ⟨rfl, h0⟩ | ⟨g, cap, cur, rfl, hb', ho, h1, h2, h3, h4⟩⟩ := h
  · omega
  · refine ⟨g, cap, rfl, hb', (Array.getElem?_eq_some_iff.1 ho).1, ?_⟩
    rw [h'.cellAt k (by omega)]
    simp [List.getD, hk]

/-- The digits of a number, put ahead of a text. -/
def mtF : Nat → Nat → ByteArray → ByteArray
  | 0, _, out => out
  | f + 1, k, out => if k = 0 then out else mtF f (k / 10) (⟨#[UInt8.ofNat (48 + k % 10)]⟩ ++ out)
/-- The text of a mark. -/
def mkT (k : Nat) : ByteArray := ⟨#[109]⟩ ++ mtF 20 k ⟨#[]⟩

end Go.Proofs.YtpihopmgckdigaaDoor
