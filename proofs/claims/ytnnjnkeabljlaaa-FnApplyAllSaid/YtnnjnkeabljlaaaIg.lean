/-
  Plain: lists of edits in order; all of them applied, from the last one on, and one after the other with the places moved. For every text and every list.
-/
import Derived.Test.YtnnjnkeabljlaaaIa
import Derived.Test.YtnnjnkeabljlaaaIc
namespace Go.Proofs.Ytnnjnkeabljlaaa
open Go.RowKit
set_option linter.unusedVariables false

def Ed.g (x : Ed) : Int := grw x.f x.t x.i
/-- Edits from a place on, of a text that has grown to n bytes. -/
def ioB (s : ByteArray) : Int → Int → List Ed → Bool
  | _, _, [] => true
  | e, n, x :: r => fitsB s x.f x.t x.i && (decide (e ≤ x.f) && (decide (n + x.g ≤ 2000) && ioB s x.t (n + x.g) r))
/-- Edits of a text in order. -/
def ordB (s : ByteArray) (ls : List Ed) : Bool := tv s && ioB s 0 s.size ls
theorem ioB_cons {s : ByteArray} {e n : Int} {x : Ed} {r : List Ed} : ioB s e n (x :: r) = true ↔ fitsB s x.f x.t x.i = true ∧ e ≤ x.f ∧ n + x.g ≤ 2000 ∧ ioB s x.t (n + x.g) r = true := by
  show (fitsB s x.f x.t x.i && (decide (e ≤ x.f) && (decide (n + x.g ≤ 2000) && ioB s x.t (n + x.g) r))) = true ↔ _
  simp
theorem ordB_iff {s : ByteArray} {ls : List Ed} : ordB s ls = true ↔ tv s = true ∧ ioB s 0 s.size ls = true := by unfold ordB; simp
/-- All edits applied, from the last one on. -/
def apR (s : ByteArray) : List Ed → ByteArray
  | [] => s
  | x :: r => ap (apR s r) x.f x.t x.i
/-- All edits applied one after the other, with their places moved. -/
def apP : ByteArray → Int → List Ed → ByteArray
  | c, _, [] => c
  | c, d, x :: r => apP (ap c (x.f + d) (x.t + d) x.i) (d + x.g) r
/-- By how much all edits make a text longer. -/
def grS : List Ed → Int
  | [] => 0
  | x :: r => x.g + grS r
/-- Places in order. -/
def Chn (S : Int) : Int → List Ed → Prop
  | _, [] => True
  | e, x :: r => e ≤ x.f ∧ x.f ≤ x.t ∧ x.t ≤ S ∧ Chn S x.t r
theorem ioB_chn {s : ByteArray} {ls : List Ed} : ∀ {e n : Int}, ioB s e n ls = true → Chn s.size e ls := by
  induction ls with
  | nil => intro e n _; exact True.intro
  | cons x r ih =>
    intro e n h
    obtain ⟨h1, h2, h3, h4⟩ := ioB_cons.mp h
    obtain ⟨_, _, a0, a1, a2, _⟩ := fitsB_iff.mp h1
    exact ⟨h2, a1, a2, ih h4⟩
theorem apP_ap {S : Int} {ls : List Ed} : ∀ {c : ByteArray} {d e p q : Int} {i : ByteArray}, Chn S e ls → (c.size : Int) = S + d → 0 ≤ p → p ≤ q → q ≤ e + d →
    apP (ap c p q i) (d + grw p q i) ls = ap (apP c d ls) p q i := by
  induction ls with
  | nil => intros; rfl
  | cons x r ih =>
    intro c d e p q i h hc h0 h1 h2
    obtain ⟨g1, g2, g3, g4⟩ := h
    show apP (ap (ap c p q i) (x.f + (d + grw p q i)) (x.t + (d + grw p q i)) x.i) (d + grw p q i + x.g) r = ap (apP (ap c (x.f + d) (x.t + d) x.i) (d + x.g) r) p q i
    have e1 : x.f + (d + grw p q i) = (x.f + d) + grw p q i := by omega
    have e2 : x.t + (d + grw p q i) = (x.t + d) + grw p q i := by omega
    have e3 : d + grw p q i + x.g = (d + x.g) + grw p q i := by omega
    rw [e1, e2, e3, ap_comm h0 h1 (by omega) (by omega) (by omega)]
    have hz := ap_sz (s := c) (f := x.f + d) (t := x.t + d) (i := x.i) (by omega) (by omega) (by omega)
    refine ih g4 ?_ h0 h1 ?_
    · rw [hz]; unfold Ed.g grw; omega
    · unfold Ed.g grw; omega
theorem apP_apR {s : ByteArray} {ls : List Ed} : ∀ {e : Int}, Chn s.size e ls → 0 ≤ e → apP s 0 ls = apR s ls := by
  induction ls with
  | nil => intros; rfl
  | cons x r ih =>
    intro e h h0
    obtain ⟨g1, g2, g3, g4⟩ := h
    show apP (ap s (x.f + 0) (x.t + 0) x.i) (0 + x.g) r = ap (apR s r) x.f x.t x.i
    rw [Int.add_zero, Int.add_zero]
    have h2 := apP_ap (S := s.size) (ls := r) (c := s) (d := 0) (e := x.t) (p := x.f) (q := x.t) (i := x.i) g4 (by omega) (by omega) g2 (by omega)
    rw [← ih g4 (by omega)]
    exact h2
theorem apR_sz {s : ByteArray} {ls : List Ed} : ∀ {e : Int}, Chn s.size e ls → 0 ≤ e → ((apR s ls).size : Int) = s.size + grS ls ∧ (∀ p : Int, p ≤ e → p ≤ s.size → p ≤ (apR s ls).size) := by
  induction ls with
  | nil => intro e _ _; exact ⟨by show ((s.size : Int)) = s.size + 0; omega, fun p _ h => h⟩
  | cons x r ih =>
    intro e h h0
    obtain ⟨g1, g2, g3, g4⟩ := h
    obtain ⟨h1, h2⟩ := ih g4 (by omega)
    have hz := ap_sz (s := apR s r) (f := x.f) (t := x.t) (i := x.i) (by omega) g2 (h2 _ (Int.le_refl _) g3)
    have hx := h2 x.t (Int.le_refl _) g3
    constructor
    · show ((ap (apR s r) x.f x.t x.i).size : Int) = s.size + (x.g + grS r)
      rw [hz]; unfold Ed.g grw; omega
    · intro p hp _
      show p ≤ ((ap (apR s r) x.f x.t x.i).size : Int)
      rw [hz]; omega
theorem ioB_gr {s : ByteArray} {ls : List Ed} : ∀ {e n : Int}, ioB s e n ls = true → n ≤ 2000 → n + grS ls ≤ 2000 := by
  induction ls with
  | nil => intro e n _ h; show n + 0 ≤ 2000; omega
  | cons x r ih =>
    intro e n h hn
    obtain ⟨h1, h2, h3, h4⟩ := ioB_cons.mp h
    have := ih h4 h3
    show n + (x.g + grS r) ≤ 2000
    omega
/-- What holds at the k-th edit of a list in order. -/
theorem ioB_drop {s : ByteArray} (hs : s.size ≤ 2000) {ls : List Ed} : ∀ {e n : Int} (k : Nat), ioB s e n ls = true → 0 ≤ e → e ≤ s.size → (s.size : Int) - e ≤ n → n ≤ 2000 → k ≤ ls.length →
    ∃ e' n', ioB s e' n' (ls.drop k) = true ∧ 0 ≤ e' ∧ e' ≤ s.size ∧ (s.size : Int) - e' ≤ n' ∧ n' ≤ 2000 ∧ n + grS (ls.take k) = n' := by
  induction ls with
  | nil =>
    intro e n k h h0 h1 h2 h3 hk
    rw [List.drop_nil, List.take_nil]
    exact ⟨e, n, h, h0, h1, h2, h3, by show n + 0 = n; omega⟩
  | cons x r ih =>
    intro e n k h h0 h1 h2 h3 hk
    cases k with
    | zero => exact ⟨e, n, h, h0, h1, h2, h3, by show n + 0 = n; omega⟩
    | succ k =>
      obtain ⟨g1, g2, g3, g4⟩ := ioB_cons.mp h
      obtain ⟨_, _, a0, a1, a2, a3⟩ := fitsB_iff.mp g1
      obtain ⟨e', n', b1, b2, b3, b4, b5, b6⟩ := ih k g4 (by omega) a2 (by unfold Ed.g grw; omega) g3 (by simpa using hk)
      refine ⟨e', n', b1, b2, b3, b4, b5, ?_⟩
      show n + (x.g + grS (r.take k)) = n'
      omega
theorem grS_app (a b : List Ed) : grS (a ++ b) = grS a + grS b := by
  induction a with
  | nil => show grS b = 0 + grS b; omega
  | cons x r ih => show x.g + grS (r ++ b) = x.g + grS r + grS b; rw [ih]; omega
/-- The text from the k-th edit on, from the last one on: at most 4000 bytes, and the edit before fits into it. -/
theorem apR_step {s : ByteArray} {ls : List Ed} (h : ordB s ls = true) {k : Nat} (hk : k < ls.length) :
    let x := ls.getD k Ed.dummy
    apR s (ls.drop k) = ap (apR s (ls.drop (k + 1))) x.f x.t x.i ∧ 0 ≤ x.f ∧ x.f ≤ x.t ∧ x.t ≤ (apR s (ls.drop (k + 1))).size ∧ (apR s (ls.drop (k + 1))).size ≤ 4000 ∧ x.i.size ≤ 2000 := by
  intro x
  obtain ⟨hv, hio⟩ := ordB_iff.mp h
  have hs := tv_size hv
  obtain ⟨e, n, h1, h2, h3, h4, h5, _⟩ := ioB_drop hs k hio (Int.le_refl 0) (by omega) (by omega) (by omega) (Nat.le_of_lt hk)
  have hx : ls.drop k = x :: ls.drop (k + 1) := by
    have : x = ls[k] := by show ls.getD k Ed.dummy = ls[k]; simp [List.getD, hk]
    rw [this]; exact List.drop_eq_getElem_cons hk
  rw [hx] at h1 ⊢
  obtain ⟨g1, g2, g3, g4⟩ := ioB_cons.mp h1
  obtain ⟨_, hvi, a0, a1, a2, a3⟩ := fitsB_iff.mp g1
  obtain ⟨c1, c2⟩ := apR_sz (ioB_chn g4) (by omega)
  have hg := ioB_gr g4 g3
  refine ⟨rfl, a0, a1, c2 _ (Int.le_refl _) a2, ?_, tv_size hvi⟩
  have : ((apR s (ls.drop (k + 1))).size : Int) ≤ 4000 := by
    rw [c1]
    have h6 : (s.size : Int) - x.t ≤ n + x.g := by unfold Ed.g grw; omega
    omega
  omega
/-- The text behind the first k edits, with the places moved: at most 2000 bytes, and the next edit fits into it. -/
theorem apP_step {s : ByteArray} {ls : List Ed} (h : ordB s ls = true) {k : Nat} (hk : k < ls.length) {c : ByteArray} {d : Int} (hd : d = grS (ls.take k)) (hc : (c.size : Int) = s.size + d) :
    let x := ls.getD k Ed.dummy
    apP c d (ls.drop k) = apP (ap c (x.f + d) (x.t + d) x.i) (d + x.g) (ls.drop (k + 1)) ∧ 0 ≤ x.f ∧ x.f ≤ x.t ∧ x.t ≤ 2000 ∧ x.i.size ≤ 2000 ∧ -2000 ≤ d ∧ d ≤ 2000 ∧ 0 ≤ x.f + d ∧ x.t + d ≤ c.size ∧ c.size ≤ 2000 ∧
      d + x.g = grS (ls.take (k + 1)) ∧ ((ap c (x.f + d) (x.t + d) x.i).size : Int) = s.size + (d + x.g) ∧ (ap c (x.f + d) (x.t + d) x.i).size ≤ 2000 := by
  intro x
  obtain ⟨hv, hio⟩ := ordB_iff.mp h
  have hs := tv_size hv
  obtain ⟨e, n, h1, h2, h3, h4, h5, h6⟩ := ioB_drop hs k hio (Int.le_refl 0) (by omega) (by omega) (by omega) (Nat.le_of_lt hk)
  have hxk : x = ls[k] := by show ls.getD k Ed.dummy = ls[k]; simp [List.getD, hk]
  have hx : ls.drop k = x :: ls.drop (k + 1) := by rw [hxk]; exact List.drop_eq_getElem_cons hk
  have ht : ls.take (k + 1) = ls.take k ++ [x] := by rw [hxk]; exact (List.take_append_getElem hk).symm
  rw [hx] at h1 ⊢
  obtain ⟨g1, g2, g3, g4⟩ := ioB_cons.mp h1
  obtain ⟨_, hvi, a0, a1, a2, a3⟩ := fitsB_iff.mp g1
  have hz := ap_sz (s := c) (f := x.f + d) (t := x.t + d) (i := x.i) (by omega) (by omega) (by omega)
  have hgx : x.g = (x.i.size : Int) - (x.t - x.f) := rfl
  refine ⟨rfl, a0, a1, by omega, tv_size hvi, by omega, by omega, by omega, by omega, by omega, ?_, by rw [hz]; omega, by omega⟩
  rw [ht, grS_app]
  show d + x.g = grS (ls.take k) + (x.g + 0)
  omega
/-- Both ways lead to the same text. -/
theorem ord_eq {s : ByteArray} {ls : List Ed} (h : ordB s ls = true) : apP s 0 ls = apR s ls :=
  apP_apR (ioB_chn (ordB_iff.mp h).2) (Int.le_refl 0)

end Go.Proofs.Ytnnjnkeabljlaaa
