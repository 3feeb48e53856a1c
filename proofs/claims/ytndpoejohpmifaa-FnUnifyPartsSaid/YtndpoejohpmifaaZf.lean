/-
  The exact laws' copies of a type: a tree in blocks of its own; what was in memory stays.
-/
import Derived.Test.YtndpoejohpmifaaProg
import Derived.Test.YtndpoejohpmifaaZb
import Derived.Test.YtndpoejohpmifaaYd
import Derived.Deep.Slices
import Derived.BigQuiet
import Derived.Deep.RegionHeld3
import Derived.Deep.DeepCutAuto
namespace Go.Proofs.Ytndpoejohpmifaa
open Go.RowKit

theorem Try.infoType : (Try.prog.info? 25).map (fun i => (i.zero, i.size, i.bytes)) = some (some (.agg #[.int .i64 0, .int .i64 0, .slice none 0 0]), 3, 40) := by kernel_rfl
def ToPost (t : Ty) (w : World) (e : Ending) (w' : World) : Prop := ∃ v, e = .returned (.agg #[.int .i64 t.k, .int .i64 t.n, v]) ∧ TyIn w' w.heap.size w'.heap.size t v ∧ Below w.heap.size w w'
def ToPostS (t : Ty) (w : World) (e : Ending) (w' : World) : Prop := ∃ v, e = .returned v ∧ TyIn w' w.heap.size w'.heap.size t v ∧ Below w.heap.size w w'
/-- A row that is being filled: the first j operands lie in it. -/
structure Fill (t : Ty) (B j : Nat) (w : World) (xs : List Value) (vs : Nat → Value) (l h : Nat → Nat) : Prop where
  own : w.ownsRow B 25 3 (.slice (some ⟨B, 0, none⟩) t.ks.length t.ks.length) t.ks.length xs
  x0 : ∀ i, i < j → xs[i * 3]? = some (.int .i64 (t.ks.getD i Ty.dummy).k)
  x1 : ∀ i, i < j → xs[i * 3 + 1]? = some (.int .i64 (t.ks.getD i Ty.dummy).n)
  x2 : ∀ i, i < j → xs[i * 3 + 2]? = some (vs i)
  lo : ∀ i, i < j → B < l i ∧ h i ≤ w.heap.size
  di : ∀ i k, i < k → k < j → h i ≤ l k
  ty : ∀ i, i < j → TyIn w (l i) (h i) (t.ks.getD i Ty.dummy) (vs i)
theorem own_block {w : World} {B g n cap sz : Nat} {e : TypeId} {xs : List Value} (h : w.ownsRow B e sz (.slice (some ⟨g, 0, none⟩) n cap) n xs) : B ≤ g ∧ g < w.heap.size := h.lt g rfl
theorem row_own {w : World} {B g n cap sz : Nat} {e : TypeId} {xs : List Value} (h : w.ownsRow B e sz (.slice (some ⟨g, 0, none⟩) n cap) n xs) : Row w g := by
  refine ⟨(h.lt g rfl).2, ?_⟩
  rcases h.2 with ⟨h', _⟩ | ⟨g', cap', cur, h', _, hg, _⟩
  · simp at h'
  · simp at h'; obtain ⟨rfl, _⟩ := h'; exact ⟨cur, e, hg⟩
theorem own_len {w : World} {B n sz : Nat} {e : TypeId} {v : Value} {xs : List Value} (h : w.ownsRow B e sz v n xs) : xs.length = n * sz := h.1
theorem own_below {w w' : World} {B n sz : Nat} {e : TypeId} {v : Value} {xs : List Value} (h : w.ownsRow B e sz v n xs) (hb : Below w.heap.size w w') : w'.ownsRow B e sz v n xs := by
  obtain ⟨hl, h | ⟨g, cap, cur, rfl, hb', ho, h1, h2, h3, h4⟩⟩ := h
  · exact ⟨hl, .inl h⟩
  · exact ⟨hl, .inr ⟨g, cap, cur, rfl, hb', (hb.block g (Array.getElem?_eq_some_iff.1 ho).1).trans ho, h1, h2, h3, h4⟩⟩
theorem Fill.below {t : Ty} {B j : Nat} {w w' : World} {xs : List Value} {vs : Nat → Value} {l h : Nat → Nat} (f : Fill t B j w xs vs l h) (hb : Below w.heap.size w w') : Fill t B j w' xs vs l h :=
  ⟨own_below f.own hb, f.x0, f.x1, f.x2, fun i hi => ⟨(f.lo i hi).1, Nat.le_trans (f.lo i hi).2 hb.size⟩, f.di, fun i hi => (f.ty i hi).kept hb⟩
/-- One more operand. -/
theorem Fill.step {t : Ty} {B j : Nat} {w w1 : World} {xs : List Value} {vs : Nat → Value} {l h : Nat → Nat} {v : Value} (f : Fill t B j w xs vs l h) (hj : j < t.ks.length) (hb : Below w.heap.size w w1)
    (ht : TyIn w1 w.heap.size w1.heap.size (t.ks.getD j Ty.dummy) v) :
    ∃ xs' vs' l' h', Fill t B (j + 1) (((w1.setCell ⟨B, j * 3, none⟩ (.int .i64 (t.ks.getD j Ty.dummy).k)).setCell ⟨B, j * 3 + 1, none⟩ (.int .i64 (t.ks.getD j Ty.dummy).n)).setCell ⟨B, j * 3 + 2, none⟩ v) xs' vs' l' h' := by
  have f1 := f.below hb
  obtain ⟨s1, g1⟩ := f1.own.stored (j * 3) (.int .i64 (t.ks.getD j Ty.dummy).k)
  obtain ⟨s2, g2⟩ := s1.stored (j * 3 + 1) (.int .i64 (t.ks.getD j Ty.dummy).n)
  obtain ⟨s3, g3⟩ := s2.stored (j * 3 + 2) v
  have hl := own_len f.own
  have hB := (own_block f.own).2
  obtain ⟨W, hW⟩ : ∃ W, ((w1.setCell ⟨B, j * 3, none⟩ (.int .i64 (t.ks.getD j Ty.dummy).k)).setCell ⟨B, j * 3 + 1, none⟩ (.int .i64 (t.ks.getD j Ty.dummy).n)).setCell ⟨B, j * 3 + 2, none⟩ v = W := ⟨_, rfl⟩
  have hsz : W.heap.size = w1.heap.size := by rw [← hW]; simp
  have hkeep : ∀ b, b ≠ B → b < w1.heap.size → W.heap[b]? = w1.heap[b]? := by
    intro b hb hs
    have q1 := g1.block b hs (fun e => hb (by injection e))
    have q2 := g2.block b (Nat.lt_of_lt_of_le hs g1.size) (fun e => hb (by injection e))
    have q3 := g3.block b (Nat.lt_of_lt_of_le hs (Nat.le_trans g1.size g2.size)) (fun e => hb (by injection e))
    rw [← hW]
    exact q3.trans (q2.trans q1)
  rw [hW] at s3 ⊢
  refine ⟨_, fun i => if i = j then v else vs i, fun i => if i = j then w.heap.size else l i, fun i => if i = j then w1.heap.size else h i, s3, ?_, ?_, ?_, ?_, ?_, ?_⟩
  · intro i hi
    by_cases hij : i = j
    · subst hij
      rw [List.getElem?_set_ne (by omega), List.getElem?_set_ne (by omega), List.getElem?_set_self (by omega)]
    · rw [List.getElem?_set_ne (by omega), List.getElem?_set_ne (by omega), List.getElem?_set_ne (by omega)]
      exact f.x0 i (by omega)
  · intro i hi
    by_cases hij : i = j
    · subst hij
      rw [List.getElem?_set_ne (by omega), List.getElem?_set_self (by rw [List.length_set]; omega)]
    · rw [List.getElem?_set_ne (by omega), List.getElem?_set_ne (by omega), List.getElem?_set_ne (by omega)]
      exact f.x1 i (by omega)
  · intro i hi
    by_cases hij : i = j
    · subst hij
      rw [List.getElem?_set_self (by rw [List.length_set, List.length_set]; omega)]; simp
    · rw [List.getElem?_set_ne (by omega), List.getElem?_set_ne (by omega), List.getElem?_set_ne (by omega)]
      simp [hij, f.x2 i (by omega)]
  · intro i hi
    by_cases hij : i = j
    · simp [hij]; omega
    · have := f1.lo i (by omega); simp [hij]; omega
  · intro i k hik hk
    have hij : i ≠ j := by omega
    by_cases hkj : k = j
    · have := f.lo i (by omega); simp [hij, hkj]; omega
    · have := f.di i k hik (by omega); simpa [hij, hkj] using this
  · intro i hi
    by_cases hij : i = j
    · subst hij
      simp only [if_true]
      exact ht.keep (by omega) (fun b h1 h2 h3 => hkeep b (by omega) h3)
    · simp only [hij, if_false]
      have hlo := f.lo i (by omega)
      exact (f1.ty i (by omega)).keep (by omega) (fun b h1 h2 h3 => hkeep b (by omega) h3)
theorem Fill.done {t : Ty} {B : Nat} {w : World} {xs : List Value} {vs : Nat → Value} {l h : Nat → Nat} (f : Fill t B t.ks.length w xs vs l h) (hl : t.ks.length ≤ 9223372036854775807) :
    TyIn w B w.heap.size t (.slice (some ⟨B, 0, none⟩) t.ks.length t.ks.length) := by
  have hb := own_block f.own
  cases t with
  | node k n ks =>
    have hc : ∀ i, i < ks.length → ∀ q, q < 3 → w.cell? ⟨B, i * 3 + q, none⟩ = xs[i * 3 + q]? := fun i hi q hq => f.own.cellAt _ (by show i * 3 + q < ks.length * 3; omega)
    refine .row B w.heap.size k n ks B ks.length vs l h (Nat.le_refl _) hb.2 (row_own f.own) hl (fun i hi => ?_) (fun i hi => ?_) (fun i hi => ?_) (fun i hi => f.own.frozenAt i) (fun i hi => ?_) (fun i j hij hj => f.di i j hij hj) (fun i hi => f.ty i hi)
    · exact (hc i hi 0 (by omega)).trans (f.x0 i hi)
    · exact (hc i hi 1 (by omega)).trans (f.x1 i hi)
    · exact (hc i hi 2 (by omega)).trans (f.x2 i hi)
    · have := f.lo i hi; exact ⟨by omega, this.2, .inl this.1⟩

end Go.Proofs.Ytndpoejohpmifaa
