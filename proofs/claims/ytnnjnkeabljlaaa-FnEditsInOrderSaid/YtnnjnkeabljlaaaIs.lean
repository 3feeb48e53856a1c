/-
  Edits in order: each of them is valid, each lies behind those before it; all but the last one are in order in the text before the last one.
-/
import Derived.Test.YtnnjnkeabljlaaaIg
namespace Go.Proofs.Ytnnjnkeabljlaaa
set_option linter.unusedVariables false

theorem getD_zero {x : Ed} {r : List Ed} : (x :: r).getD 0 Ed.dummy = x := rfl
theorem getD_succ {x : Ed} {r : List Ed} {i : Nat} : (x :: r).getD (i + 1) Ed.dummy = r.getD i Ed.dummy := by simp [List.getD]
theorem io_fits {s : ByteArray} {ls : List Ed} : ∀ {e n : Int}, ioB s e n ls = true → ∀ i, i < ls.length → fitsB s (ls.getD i Ed.dummy).f (ls.getD i Ed.dummy).t (ls.getD i Ed.dummy).i = true := by
  induction ls with
  | nil => intro e n _ i hi; exact absurd hi (Nat.not_lt_zero _)
  | cons x r ih =>
    intro e n h i hi
    obtain ⟨h1, h2, h3, h4⟩ := ioB_cons.mp h
    cases i with
    | zero => exact h1
    | succ i => rw [getD_succ]; exact ih h4 i (by simpa using hi)
theorem chn_lo {S : Int} {ls : List Ed} : ∀ {e : Int}, Chn S e ls → ∀ i, i < ls.length → e ≤ (ls.getD i Ed.dummy).f := by
  induction ls with
  | nil => intro e _ i hi; exact absurd hi (Nat.not_lt_zero _)
  | cons x r ih =>
    intro e h i hi
    obtain ⟨h1, h2, h3, h4⟩ := h
    cases i with
    | zero => exact h1
    | succ i =>
      rw [getD_succ]
      have := ih h4 i (by simpa using hi)
      omega
theorem chn_sep {S : Int} {ls : List Ed} : ∀ {e : Int}, Chn S e ls → ∀ k i, k < i → i < ls.length → (ls.getD k Ed.dummy).t ≤ (ls.getD i Ed.dummy).f := by
  induction ls with
  | nil => intro e _ k i _ hi; exact absurd hi (Nat.not_lt_zero _)
  | cons x r ih =>
    intro e h k i hk hi
    obtain ⟨h1, h2, h3, h4⟩ := h
    cases i with
    | zero => exact absurd hk (Nat.not_lt_zero _)
    | succ i =>
      rw [getD_succ]
      cases k with
      | zero => exact chn_lo h4 i (by simpa using hi)
      | succ k => rw [getD_succ]; exact ih h4 k i (by omega) (by simpa using hi)
theorem ord_fits {s : ByteArray} {ls : List Ed} (h : ordB s ls = true) {i : Nat} (hi : i < ls.length) : fitsB s (ls.getD i Ed.dummy).f (ls.getD i Ed.dummy).t (ls.getD i Ed.dummy).i = true := io_fits (ordB_iff.mp h).2 i hi
theorem ord_sep {s : ByteArray} {ls : List Ed} (h : ordB s ls = true) {k i : Nat} (hk : k < i) (hi : i < ls.length) : (ls.getD k Ed.dummy).t ≤ (ls.getD i Ed.dummy).f := chn_sep (ioB_chn (ordB_iff.mp h).2) k i hk hi

end Go.Proofs.Ytnnjnkeabljlaaa
