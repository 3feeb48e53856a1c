/-
  The exact laws' sizes, copies and comparison of lists of files; what was in memory stays.
-/
import Derived.Test.YtpihopmgckdigaaDoorProg
import Derived.Test.YtpihopmgckdigaaDoorLa
import Derived.Test.YtpihopmgckdigaaDoorZf
import Derived.ProofKit
import Derived.Below
import Derived.Deep.RegionHeld3
import Derived.LoopN
namespace Go.Proofs.YtpihopmgckdigaaDoor
open Go.RowKit
set_option linter.unusedVariables false
set_option linter.unusedSimpArgs false


/-- What a size leaves of what may be left. -/
def lff (n : Int) : List Fl → Int
  | [] => n
  | x :: r => if (x.n.size : Int) + x.t.size ≤ n then lff (n - x.n.size - x.t.size) r else -1
theorem ret_i3 {a b : Int} (h : a = b) : Ending.returned (.int .i64 a) = .returned (.int .i64 b) := by rw [h]
theorem drop_fl {ls : List Fl} {k : Nat} (hk : k < ls.length) : ls.drop k = ls.getD k Fl.dummy :: ls.drop (k + 1) := by
  have : ls.getD k Fl.dummy = ls[k] := by simp [List.getD, hk]
  rw [this]; exact List.drop_eq_getElem_cons hk
theorem lff_range {ls : List Fl} : ∀ {n : Int}, 0 ≤ n → (lff n ls = -1 ∨ 0 ≤ lff n ls ∧ lff n ls ≤ n) := by
  induction ls with
  | nil => intro n h; exact .inr ⟨h, Int.le_refl _⟩
  | cons x r ih =>
    intro n h
    unfold lff
    by_cases hc : (x.n.size : Int) + x.t.size ≤ n
    · rw [if_pos hc]
      rcases ih (n := n - x.n.size - x.t.size) (by omega) with h1 | ⟨h1, h2⟩
      · exact .inl h1
      · exact .inr ⟨h1, by omega⟩
    · rw [if_neg hc]; exact .inl rfl
/-- A row that is being filled: the first j edits lie in it. -/
structure FFill (ls : List Fl) (B j : Nat) (w : World) (xs : List Value) : Prop where
  own : w.ownsRow B 66 2 (.slice (some ⟨B, 0, none⟩) ls.length ls.length) ls.length xs
  x0 : ∀ i, i < j → xs[i * 2]? = some (.string (ls.getD i Fl.dummy).n)
  x1 : ∀ i, i < j → xs[i * 2 + 1]? = some (.string (ls.getD i Fl.dummy).t)
theorem FFill.below {ls : List Fl} {B j : Nat} {w w' : World} {xs : List Value} (f : FFill ls B j w xs) (hb : Below w.heap.size w w') : FFill ls B j w' xs :=
  ⟨own_below f.own hb, f.x0, f.x1⟩
theorem FFill.step {ls : List Fl} {B j : Nat} {w w1 : World} {xs : List Value} (f : FFill ls B j w xs) (hj : j < ls.length) (hb : Below w.heap.size w w1) :
    ∃ xs', FFill ls B (j + 1) ((w1.setCell ⟨B, j * 2, none⟩ (.string (ls.getD j Fl.dummy).n)).setCell ⟨B, j * 2 + 1, none⟩ (.string (ls.getD j Fl.dummy).t)) xs' := by
  have f1 := f.below hb
  obtain ⟨s1, g1⟩ := f1.own.stored (j * 2) (.string (ls.getD j Fl.dummy).n)
  obtain ⟨s2, g2⟩ := s1.stored (j * 2 + 1) (.string (ls.getD j Fl.dummy).t)
  have hl := own_len f.own
  refine ⟨_, s2, ?_, ?_⟩
  · intro i hi
    by_cases hij : i = j
    · subst hij
      rw [List.getElem?_set_ne (by omega), List.getElem?_set_self (by omega)]
    · rw [List.getElem?_set_ne (by omega), List.getElem?_set_ne (by omega)]
      exact f.x0 i (by omega)
  · intro i hi
    by_cases hij : i = j
    · subst hij
      rw [List.getElem?_set_self (by rw [List.length_set]; omega)]
    · rw [List.getElem?_set_ne (by omega), List.getElem?_set_ne (by omega)]
      exact f.x1 i (by omega)
theorem FFill.done {ls : List Fl} {B : Nat} {w : World} {xs : List Value} (f : FFill ls B ls.length w xs) (hl : ls.length ≤ 9223372036854775807) :
    FsAt w ls (.slice (some ⟨B, 0, none⟩) ls.length ls.length) := by
  have hb := own_block f.own
  have hc : ∀ i, i < ls.length → ∀ q, q < 2 → w.cell? ⟨B, i * 2 + q, none⟩ = xs[i * 2 + q]? := fun i hi q hq => f.own.cellAt _ (by show i * 2 + q < ls.length * 2; omega)
  refine .row ls B 0 ls.length hb.2 hl (fun i hi => ⟨?_, ?_⟩)
  · rw [Nat.zero_add]; exact (hc i hi 0 (by omega)).trans (f.x0 i hi)
  · rw [Nat.zero_add]; exact (hc i hi 1 (by omega)).trans (f.x1 i hi)
theorem Tryd.infoFile : (Tryd.prog.info? 66).map (fun i => (i.zero, i.size, i.bytes)) = some (some (.agg #[.string ⟨#[]⟩, .string ⟨#[]⟩]), 2, 32) := by kernel_rfl
/-- What a copy leaves: the list, in a block of its own. -/
def ToFlPostS (ls : List Fl) (w : World) (e : Ending) (w' : World) : Prop := ∃ a, e = .returned (.slice a ls.length ls.length) ∧ FsAt w' ls (.slice a ls.length ls.length) ∧ Below w.heap.size w w'
end Go.Proofs.YtpihopmgckdigaaDoor
