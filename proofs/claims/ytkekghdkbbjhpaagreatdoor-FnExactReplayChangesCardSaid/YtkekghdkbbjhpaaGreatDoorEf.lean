/-
  The exact laws' copies of a type: a tree in blocks of its own; what was in memory stays.
-/
import Derived.Test.YtkekghdkbbjhpaaGreatDoorProg
import Derived.Test.YtkekghdkbbjhpaaGreatDoorZf
import Derived.Test.YtkekghdkbbjhpaaGreatDoorEd
import Derived.Deep.Slices
import Derived.BigQuiet
import Derived.Deep.RegionHeld3
import Derived.Deep.DeepCutAuto
namespace Go.Proofs.YtkekghdkbbjhpaaGreatDoor.Ox
open Go.Proofs.YtkekghdkbbjhpaaGreatDoor
open Go.RowKit

theorem Tryz.infoExpr : (Tryz.prog.info? 115).map (fun i => (i.zero, i.size, i.bytes)) = some (some (.agg #[.int .i64 0, .int .i64 0, .string ⟨#[]⟩, .string ⟨#[]⟩, .slice none 0 0]), 5, 72) := by kernel_rfl
def ToPost (t : Ex) (w : World) (e : Ending) (w' : World) : Prop := ∃ v, e = .returned (.agg #[.int .i64 t.k, .int .i64 t.n, .string t.m, .string t.s, v]) ∧ ExIn w' w.heap.size w'.heap.size t v ∧ Below w.heap.size w w'
def ToPostS (t : Ex) (w : World) (e : Ending) (w' : World) : Prop := ∃ v, e = .returned v ∧ ExIn w' w.heap.size w'.heap.size t v ∧ Below w.heap.size w w'
def five (x : Ex) (v : Value) : List Value := [.int .i64 x.k, .int .i64 x.n, .string x.m, .string x.s, v]
theorem set5 (xs : List Value) (j : Nat) (a0 a1 a2 a3 a4 : Value) (hl : j * 5 + 5 ≤ xs.length) (i q : Nat) (hq : q < 5) :
    (((((xs.set (j * 5) a0).set (j * 5 + 1) a1).set (j * 5 + 2) a2).set (j * 5 + 3) a3).set (j * 5 + 4) a4)[i * 5 + q]? = if i = j then ([a0, a1, a2, a3, a4] : List Value)[q]? else xs[i * 5 + q]? := by
  by_cases hij : i = j
  · subst hij
    rw [if_pos rfl]
    obtain rfl | rfl | rfl | rfl | rfl : q = 0 ∨ q = 1 ∨ q = 2 ∨ q = 3 ∨ q = 4 := by omega
    all_goals try simp only [Nat.add_zero]
    all_goals repeat (first | rw [List.getElem?_set_ne (by omega)] | rw [List.getElem?_set_self (by (try simp only [List.length_set]); omega)])
    all_goals rfl
  · rw [if_neg hij, List.getElem?_set_ne (by omega), List.getElem?_set_ne (by omega), List.getElem?_set_ne (by omega), List.getElem?_set_ne (by omega), List.getElem?_set_ne (by omega)]
/-- A row that is being filled: the first j operands lie in it. -/
structure Fill (t : Ex) (B j : Nat) (w : World) (xs : List Value) (vs : Nat → Value) (l h : Nat → Nat) : Prop where
  own : w.ownsRow B 115 5 (.slice (some ⟨B, 0, none⟩) t.ks.length t.ks.length) t.ks.length xs
  xq : ∀ i q, i < j → q < 5 → xs[i * 5 + q]? = (five (t.ks.getD i Ex.dummy) (vs i))[q]?
  lo : ∀ i, i < j → B < l i ∧ h i ≤ w.heap.size
  di : ∀ i k, i < k → k < j → h i ≤ l k
  ty : ∀ i, i < j → ExIn w (l i) (h i) (t.ks.getD i Ex.dummy) (vs i)
theorem Fill.below {t : Ex} {B j : Nat} {w w' : World} {xs : List Value} {vs : Nat → Value} {l h : Nat → Nat} (f : Fill t B j w xs vs l h) (hb : Below w.heap.size w w') : Fill t B j w' xs vs l h :=
  ⟨own_below f.own hb, f.xq, fun i hi => ⟨(f.lo i hi).1, Nat.le_trans (f.lo i hi).2 hb.size⟩, f.di, fun i hi => (f.ty i hi).kept hb⟩
/-- One more operand. -/
theorem Fill.step {t : Ex} {B j : Nat} {w w1 : World} {xs : List Value} {vs : Nat → Value} {l h : Nat → Nat} {v : Value} (f : Fill t B j w xs vs l h) (hj : j < t.ks.length) (hb : Below w.heap.size w w1)
    (ht : ExIn w1 w.heap.size w1.heap.size (t.ks.getD j Ex.dummy) v) :
    ∃ xs' vs' l' h', Fill t B (j + 1) ((((((w1.setCell ⟨B, j * 5, none⟩ (.int .i64 (t.ks.getD j Ex.dummy).k)).setCell ⟨B, j * 5 + 1, none⟩ (.int .i64 (t.ks.getD j Ex.dummy).n)).setCell ⟨B, j * 5 + 2, none⟩ (.string (t.ks.getD j Ex.dummy).m)).setCell ⟨B, j * 5 + 3, none⟩ (.string (t.ks.getD j Ex.dummy).s)).setCell ⟨B, j * 5 + 4, none⟩ v)) xs' vs' l' h' := by
  have f1 := f.below hb
  obtain ⟨s1, _⟩ := f1.own.stored (j * 5) (.int .i64 (t.ks.getD j Ex.dummy).k)
  obtain ⟨s2, _⟩ := s1.stored (j * 5 + 1) (.int .i64 (t.ks.getD j Ex.dummy).n)
  obtain ⟨s3, _⟩ := s2.stored (j * 5 + 2) (.string (t.ks.getD j Ex.dummy).m)
  obtain ⟨s4, _⟩ := s3.stored (j * 5 + 3) (.string (t.ks.getD j Ex.dummy).s)
  obtain ⟨s5, _⟩ := s4.stored (j * 5 + 4) v
  have hl := own_len f.own
  have hB := (own_block f.own).2
  obtain ⟨W, hW⟩ : ∃ W, (((((w1.setCell ⟨B, j * 5, none⟩ (.int .i64 (t.ks.getD j Ex.dummy).k)).setCell ⟨B, j * 5 + 1, none⟩ (.int .i64 (t.ks.getD j Ex.dummy).n)).setCell ⟨B, j * 5 + 2, none⟩ (.string (t.ks.getD j Ex.dummy).m)).setCell ⟨B, j * 5 + 3, none⟩ (.string (t.ks.getD j Ex.dummy).s)).setCell ⟨B, j * 5 + 4, none⟩ v) = W := ⟨_, rfl⟩
  have hsz : W.heap.size = w1.heap.size := by rw [← hW]; simp
  have hkeep : ∀ b, b ≠ B → W.heap[b]? = w1.heap[b]? := by
    intro b hb
    rw [← hW, heap_setCell_other _ ⟨B, j * 5 + 4, none⟩ b _ hb, heap_setCell_other _ ⟨B, j * 5 + 3, none⟩ b _ hb, heap_setCell_other _ ⟨B, j * 5 + 2, none⟩ b _ hb, heap_setCell_other _ ⟨B, j * 5 + 1, none⟩ b _ hb, heap_setCell_other _ ⟨B, j * 5, none⟩ b _ hb]
  rw [hW] at s5 ⊢
  refine ⟨_, fun i => if i = j then v else vs i, fun i => if i = j then w.heap.size else l i, fun i => if i = j then w1.heap.size else h i, s5, ?_, ?_, ?_, ?_⟩
  · intro i q hi hq
    rw [set5 _ _ _ _ _ _ _ (by omega) _ _ hq]
    by_cases hij : i = j
    · subst hij; simp [five]
    · simp [hij, f.xq i q (by omega) hq]
  · intro i hi
    by_cases hij : i = j
    · simp [hij]; omega
    · have := f1.lo i (by omega); simp [hij]; omega
  · intro i k hik hk
    have hij : i ≠ j := by omega
    by_cases hkj : k = j
    · have := f.lo i (by omega); simp [hij, hkj]; omega
    · have := f.di i k hik (by omega); simpa [hij, hkj] using this
  · intro i hi
    by_cases hij : i = j
    · subst hij
      simp only [if_true]
      exact ht.keep (by omega) (fun b h1 h2 h3 => hkeep b (by omega))
    · simp only [hij, if_false]
      have hlo := f.lo i (by omega)
      exact (f1.ty i (by omega)).keep (by omega) (fun b h1 h2 h3 => hkeep b (by omega))
theorem Fill.done {t : Ex} {B : Nat} {w : World} {xs : List Value} {vs : Nat → Value} {l h : Nat → Nat} (f : Fill t B t.ks.length w xs vs l h) (hl : t.ks.length ≤ 9223372036854775807) :
    ExIn w B w.heap.size t (.slice (some ⟨B, 0, none⟩) t.ks.length t.ks.length) := by
  have hb := own_block f.own
  cases t with
  | node k n m s ks =>
    have hc : ∀ i q, i < ks.length → q < 5 → w.cell? ⟨B, i * 5 + q, none⟩ = (five (ks.getD i Ex.dummy) (vs i))[q]? := fun i q hi hq => (f.own.cellAt _ (by show i * 5 + q < ks.length * 5; omega)).trans (f.xq i q hi hq)
    refine .row B w.heap.size k n m s ks B ks.length vs l h (Nat.le_refl _) hb.2 (row_own f.own) hl (fun i hi => ?_) (fun i hi => f.own.frozenAt i) (fun i hi => ?_) (fun i j hij hj => f.di i j hij hj) (fun i hi => f.ty i hi)
    · exact ⟨hc i 0 hi (by omega), hc i 1 hi (by omega), hc i 2 hi (by omega), hc i 3 hi (by omega), hc i 4 hi (by omega)⟩
    · have := f.lo i hi; exact ⟨by omega, this.2, .inl this.1⟩

end Go.Proofs.YtkekghdkbbjhpaaGreatDoor.Ox
