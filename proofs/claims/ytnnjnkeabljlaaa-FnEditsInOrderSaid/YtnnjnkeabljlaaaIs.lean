/-
  Edits in order: each of them is valid, each lies behind those before it; all but the last one are in order in the text before the last one.
-/
import Derived.Test.YtnnjnkeabljlaaaIg
namespace Go.Proofs.Ytnnjnkeabljlaaa
set_option linter.unusedVariables false

theorem getD_zero {x : Ed} {r : List Ed} : (x :: r).getD 0 Ed.dummy = x := rfl
theorem getD_succ {x : Ed} {r : List Ed} {i : Nat} : (x :: r).getD (i + 1) Ed.dummy = r.getD i Ed.dummy := by simp [List.getD]
theorem io_fits {s : ByteArray} {ls : List Ed} : ∀ {e n : Int}, ioB s e n ls = true → ∀ i, i < ls.length → fitsB s (ls.getD i Ed.dummy).f (ls.getD i Ed.dummy).t (ls.getD i Ed.dummy).i = true := by
  induction ls with
  | nil => intro e n _ i hi; exact absurd hi (Nat.not_lt_zero _)
  | cons x r ih =>
    intro e n h i hi
    obtain ⟨h1, h2, h3, h4⟩ := ioB_cons.mp h
    cases i with
    | zero => exact h1
    | succ i => rw [getD_succ]; exact ih h4 i (by simpa using hi)
theorem chn_lo {S : Int} {ls : List Ed} : ∀ {e : Int}, Chn S e ls → ∀ i, i < ls.length → e ≤ (ls.getD i Ed.dummy).f := by
  induction ls with
  | nil => intro e _ i hi; exact absurd hi (Nat.not_lt_zero _)
  | cons x r ih =>
    intro e h i hi
    obtain ⟨h1, h2, h3, h4⟩ := h
    cases i with
    | zero => exact h1
    | succ i =>
      rw [getD_succ]
      have := ih h4 i (by simpa using hi)
      omega
theorem chn_sep {S : Int} {ls : List Ed} : ∀ {e : Int}, Chn S e ls → ∀ k i, k < i → i < ls.length → (ls.getD k Ed.dummy).t ≤ (ls.getD i Ed.dummy).f := by
  induction ls with
  | nil => intro e _ k i _ hi; exact absurd hi (Nat.not_lt_zero _)
  | cons x r ih =>
    intro e h k i hk hi
    obtain ⟨h1, h2, h3, h4⟩ := h
    cases i with
    | zero => exact absurd hk (Nat.not_lt_zero _)
    | succ i =>
      rw [getD_succ]
      cases k with
      | zero => exact chn_lo h4 i (by simpa using hi)
      | succ k => rw [getD_succ]; exact ih h4 k i (by omega) (by simpa using hi)
theorem ord_fits {s : ByteArray} {ls : List Ed} (h : ordB s ls = true) {i : Nat} (hi : i < ls.length) : fitsB s (ls.getD i Ed.dummy).f (ls.getD i Ed.dummy).t (ls.getD i Ed.dummy).i = true := io_fits (ordB_iff.mp h).2 i hi
theorem ord_sep {s : ByteArray} {ls : List Ed} (h : ordB s ls = true) {k i : Nat} (hk : k < i) (hi : i < ls.length) : (ls.getD k Ed.dummy).t ≤ (ls.getD i Ed.dummy).f := chn_sep (ioB_chn (ordB_iff.mp h).2) k i hk hi
theorem ap_more {u q : ByteArray} {f t : Int} {i : ByteArray} (h1 : f ≤ t) (h2 : t ≤ u.size) : ap (u ++ q) f t i = ap u f t i ++ q := by
  apply bext
  rw [ap_list', ByteArray.data_append, Array.toList_append, ByteArray.data_append, Array.toList_append, ap_list']
  have hz := sz_list u
  rw [List.take_append_of_le_length (by omega), List.drop_append_of_le_length (by omega)]
  simp only [List.append_assoc]
theorem apR_more {p q : ByteArray} {ls : List Ed} : ∀ {e : Int}, Chn p.size e ls → 0 ≤ e → apR (p ++ q) ls = apR p ls ++ q := by
  induction ls with
  | nil => intro e _ _; rfl
  | cons x r ih =>
    intro e h h0
    obtain ⟨g1, g2, g3, g4⟩ := h
    show ap (apR (p ++ q) r) x.f x.t x.i = ap (apR p r) x.f x.t x.i ++ q
    rw [ih g4 (by omega)]
    exact ap_more g2 ((apR_sz g4 (by omega)).2 _ (Int.le_refl _) g3)
theorem apR_snoc {s : ByteArray} {x : Ed} {l : List Ed} : apR s (l ++ [x]) = apR (ap s x.f x.t x.i) l := by
  induction l with
  | nil => rfl
  | cons y r ih => show ap (apR s (r ++ [x])) y.f y.t y.i = ap (apR (ap s x.f x.t x.i) r) y.f y.t y.i; rw [ih]
/-- All but the last one, in the text before the last one. -/
theorem io_front {s p : ByteArray} {x : Ed} (hp : tv p = true) (hps : (p.size : Int) ≤ s.size) {l : List Ed} : ∀ {e n m : Int}, ioB s e n (l ++ [x]) = true → x.f ≤ p.size → m ≤ n → ioB p e m l = true := by
  induction l with
  | nil => intros; rfl
  | cons y r ih =>
    intro e n m h hx hm
    obtain ⟨h1, h2, h3, h4⟩ := ioB_cons.mp (show ioB s e n (y :: (r ++ [x])) = true from h)
    obtain ⟨_, hvi, a0, a1, a2, a3⟩ := fitsB_iff.mp h1
    have hlo := chn_lo (ioB_chn h4) r.length (by simp)
    have hget : (r ++ [x]).getD r.length Ed.dummy = x := by simp [List.getD]
    rw [hget] at hlo
    exact ioB_cons.mpr ⟨fitsB_iff.mpr ⟨hp, hvi, a0, a1, by omega, by omega⟩, h2, by omega, ih h4 hx (by omega)⟩
theorem ord_front {s : ByteArray} {x : Ed} {l : List Ed} (h : ordB s (l ++ [x]) = true) : ordB (s.extract 0 x.f.toNat) l = true ∧ apR s (l ++ [x]) = apR (s.extract 0 x.f.toNat) l ++ x.i ++ s.extract x.t.toNat s.size := by
  obtain ⟨hv, hio⟩ := ordB_iff.mp h
  have hfx := io_fits hio l.length (by simp)
  have hget : (l ++ [x]).getD l.length Ed.dummy = x := by simp [List.getD]
  rw [hget] at hfx
  obtain ⟨_, _, a0, a1, a2, _⟩ := fitsB_iff.mp hfx
  have hps := cut_sz (s := s) (f := 0) (t := x.f) (Int.le_refl 0) a0 (by omega)
  have hz0 : (0 : Int).toNat = 0 := rfl
  rw [hz0] at hps
  have hp : tv (s.extract 0 x.f.toNat) = true := tv_cut hv _ _
  have hf := io_front (s := s) (p := s.extract 0 x.f.toNat) (x := x) (m := ((s.extract 0 x.f.toNat).size : Int)) hp (by omega) hio (by omega) (by omega)
  refine ⟨ordB_iff.mpr ⟨hp, hf⟩, ?_⟩
  rw [apR_snoc]
  show apR (s.extract 0 x.f.toNat ++ x.i ++ s.extract x.t.toNat s.size) l = _
  rw [ByteArray.append_assoc, apR_more (ioB_chn hf) (Int.le_refl 0), ByteArray.append_assoc]

end Go.Proofs.Ytnnjnkeabljlaaa
