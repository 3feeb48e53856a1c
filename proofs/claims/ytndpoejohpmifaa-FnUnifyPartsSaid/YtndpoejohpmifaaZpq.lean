/-
  The exact laws' marks in a type that lies in blocks of its own, and that they are held.
  The exact laws' marks: heldTypeS finds them.
-/
import Derived.Test.YtndpoejohpmifaaZo
namespace Go.Proofs.Ytndpoejohpmifaa
open Go.RowKit

/-- A type's rows hold the marks from K on; c nodes lie below the root. -/
inductive HeldIn (w : World) : Nat → Nat → Nat → Ty → Nat → Value → Prop where
  | bare (lo hi K : Nat) (k n : Int) (a : Option Addr) (cap : Nat) : HeldIn w lo hi K (.node k n []) 0 (.slice a 0 cap)
  | row (lo hi K : Nat) (k n : Int) (ks : List Ty) (cf : Nat → Nat) (b cap : Nat) (vs : Nat → Value) (l g : Nat → Nat) (hb1 : lo ≤ b) (hb2 : b < hi) (hw : b < w.heap.size)
      (h0 : ∀ i, i < ks.length → w.cell? ⟨b, i * 3, none⟩ = some (.int .i64 ((K + 2 * (i + ((List.range i).map cf).sum) : Nat) : Int)))
      (h1 : ∀ i, i < ks.length → w.cell? ⟨b, i * 3 + 1, none⟩ = some (.int .i64 ((K + 2 * (i + ((List.range i).map cf).sum) + 1 : Nat) : Int)))
      (h2 : ∀ i, i < ks.length → w.cell? ⟨b, i * 3 + 2, none⟩ = some (vs i))
      (hin : ∀ i, i < ks.length → lo ≤ l i ∧ g i ≤ hi)
      (h3 : ∀ i, i < ks.length → HeldIn w (l i) (g i) (K + 2 * (i + ((List.range i).map cf).sum) + 2) (ks.getD i Ty.dummy) (cf i) (vs i)) :
      HeldIn w lo hi K (.node k n ks) (ks.length + ((List.range ks.length).map cf).sum) (.slice (some ⟨b, 0, none⟩) ks.length cap)
theorem HeldIn.empty {w : World} {lo hi K : Nat} {t : Ty} {a : Option Addr} {cap : Nat} (h : t.ks.length = 0) : HeldIn w lo hi K t 0 (.slice a 0 cap) := by
  cases t with
  | node k n ks =>
    have : ks = [] := List.eq_nil_of_length_eq_zero h
    subst this
    exact .bare lo hi K k n a cap
theorem HeldIn.keep {w w' : World} {lo hi K c : Nat} {t : Ty} {v : Value} (h : HeldIn w lo hi K t c v) (hs : w.heap.size ≤ w'.heap.size) (hk : ∀ b, lo ≤ b → b < hi → b < w.heap.size → w'.heap[b]? = w.heap[b]?) : HeldIn w' lo hi K t c v := by
  induction h with
  | bare lo hi K k n a cap => exact .bare lo hi K k n a cap
  | row lo hi K k n ks cf b cap vs l g hb1 hb2 hw h0 h1 h2 hin _ ih =>
    have e := hk b hb1 hb2 hw
    refine .row lo hi K k n ks cf b cap vs l g hb1 hb2 (by omega) (fun i hi => (cellEq e).trans (h0 i hi)) (fun i hi => (cellEq e).trans (h1 i hi)) (fun i hi => (cellEq e).trans (h2 i hi)) hin ?_
    intro i hi
    obtain ⟨a1, a2⟩ := hin i hi
    exact ih i hi (fun b h1 h2 h3 => hk b (by omega) (by omega) h3)
theorem HeldIn.kept {w w' : World} {lo hi K c : Nat} {t : Ty} {v : Value} (h : HeldIn w lo hi K t c v) (hb : Below w.heap.size w w') : HeldIn w' lo hi K t c v :=
  h.keep hb.size (fun b _ _ h3 => hb.block b h3)
/-- What has been marked. -/
structure Dn (t : Ty) (b j K : Nat) (cf : Nat → Nat) (vs : Nat → Value) (l g : Nat → Nat) (w : World) : Prop where
  c0 : ∀ i, i < j → w.cell? ⟨b, i * 3, none⟩ = some (.int .i64 ((K + 2 * (i + ((List.range i).map cf).sum) : Nat) : Int))
  c1 : ∀ i, i < j → w.cell? ⟨b, i * 3 + 1, none⟩ = some (.int .i64 ((K + 2 * (i + ((List.range i).map cf).sum) + 1 : Nat) : Int))
  c2 : ∀ i, i < j → w.cell? ⟨b, i * 3 + 2, none⟩ = some (vs i)
  ty : ∀ i, i < j → HeldIn w (l i) (g i) (K + 2 * (i + ((List.range i).map cf).sum) + 2) (t.ks.getD i Ty.dummy) (cf i) (vs i)
theorem Dn.zero {t : Ty} {b K : Nat} {cf : Nat → Nat} {vs : Nat → Value} {l g : Nat → Nat} {w : World} : Dn t b 0 K cf vs l g w :=
  ⟨fun _ h => absurd h (Nat.not_lt_zero _), fun _ h => absurd h (Nat.not_lt_zero _), fun _ h => absurd h (Nat.not_lt_zero _), fun _ h => absurd h (Nat.not_lt_zero _)⟩
theorem Dn.step {t : Ty} {b j K q : Nat} {cf : Nat → Nat} {vs : Nat → Value} {l g : Nat → Nat} {w w2 : World} {x y : Value} (r : Dn t b j K cf vs l g w) (hbs : b < w.heap.size) (hj : j < t.ks.length)
    (e0 : w.cell? ⟨b, j * 3, none⟩ = some x) (e1 : w.cell? ⟨b, j * 3 + 1, none⟩ = some y) (e2 : w.cell? ⟨b, j * 3 + 2, none⟩ = some (vs j))
    (hin : ∀ i, i < t.ks.length → b < l i ∨ g i ≤ b) (hd : ∀ i j, i < j → j < t.ks.length → g i ≤ l j) (hq : q = K + 2 * (j + ((List.range j).map cf).sum))
    (hI : Inside (l j) (g j) ((w.setCell ⟨b, j * 3, none⟩ (.int .i64 (q : Int))).setCell ⟨b, j * 3 + 1, none⟩ (.int .i64 ((q : Int) + 1))) w2)
    (hH : HeldIn w2 (l j) (g j) (q + 2) (t.ks.getD j Ty.dummy) (cf j) (vs j)) : Dn t b (j + 1) K cf vs l g w2 := by
  have hs : ((w.setCell ⟨b, j * 3, none⟩ (.int .i64 (q : Int))).setCell ⟨b, j * 3 + 1, none⟩ (.int .i64 ((q : Int) + 1))).heap.size = w.heap.size := by simp
  have hb2 := hI.block b (by rw [hs]; exact hbs) (by rcases hin j hj with h | h <;> omega)
  have hc : ∀ z, z ≠ j * 3 → z ≠ j * 3 + 1 → w2.cell? ⟨b, z, none⟩ = w.cell? ⟨b, z, none⟩ := by
    intro z h1 h2
    have e1 : ((w.setCell ⟨b, j * 3, none⟩ (.int .i64 (q : Int))).setCell ⟨b, j * 3 + 1, none⟩ (.int .i64 ((q : Int) + 1))).cell? ⟨b, z, none⟩ = (w.setCell ⟨b, j * 3, none⟩ (.int .i64 (q : Int))).cell? ⟨b, z, none⟩ := World.cell?_setCell_other _ _ _ _ (fun e => h2 (by injection e with _ e2 _; exact e2.symm))
    have e2 : (w.setCell ⟨b, j * 3, none⟩ (.int .i64 (q : Int))).cell? ⟨b, z, none⟩ = w.cell? ⟨b, z, none⟩ := World.cell?_setCell_other _ _ _ _ (fun e => h1 (by injection e with _ e2 _; exact e2.symm))
    exact (cellEq hb2).trans (e1.trans e2)
  have d0 : w2.cell? ⟨b, j * 3, none⟩ = some (.int .i64 (q : Int)) := by
    have e1' : ((w.setCell ⟨b, j * 3, none⟩ (.int .i64 (q : Int))).setCell ⟨b, j * 3 + 1, none⟩ (.int .i64 ((q : Int) + 1))).cell? ⟨b, j * 3, none⟩ = (w.setCell ⟨b, j * 3, none⟩ (.int .i64 (q : Int))).cell? ⟨b, j * 3, none⟩ := World.cell?_setCell_other _ _ _ _ (fun e => by injection e with _ e2 _; omega)
    exact (cellEq hb2).trans (e1'.trans (World.cell?_setCell_same' _ _ _ (by rw [e0]; rfl)))
  have d1 : w2.cell? ⟨b, j * 3 + 1, none⟩ = some (.int .i64 ((q : Int) + 1)) := by
    have e2' : (w.setCell ⟨b, j * 3, none⟩ (.int .i64 (q : Int))).cell? ⟨b, j * 3 + 1, none⟩ = w.cell? ⟨b, j * 3 + 1, none⟩ := World.cell?_setCell_other _ _ _ _ (fun e => by injection e with _ e2 _; omega)
    exact (cellEq hb2).trans (World.cell?_setCell_same' _ _ _ (by rw [e2', e1]; rfl))
  have hk : ∀ z, z ≠ b → z < w.heap.size → (z < l j ∨ g j ≤ z) → w2.heap[z]? = w.heap[z]? := by
    intro z h1 h2 h3
    rw [hI.block z (by rw [hs]; exact h2) h3, heap_setCell_other _ ⟨b, j * 3 + 1, none⟩ z _ h1, heap_setCell_other _ ⟨b, j * 3, none⟩ z _ h1]
  have hsz := hI.size
  rw [hs] at hsz
  refine ⟨fun i hi => ?_, fun i hi => ?_, fun i hi => ?_, fun i hi => ?_⟩
  · by_cases hij : i = j
    · subst hij; rw [d0, hq]
    · rw [hc _ (by omega) (by omega)]; exact r.c0 i (by omega)
  · by_cases hij : i = j
    · subst hij; rw [d1, hq]; push_cast; rfl
    · rw [hc _ (by omega) (by omega)]; exact r.c1 i (by omega)
  · by_cases hij : i = j
    · subst hij; rw [hc _ (by omega) (by omega)]; exact e2
    · rw [hc _ (by omega) (by omega)]; exact r.c2 i (by omega)
  · by_cases hij : i = j
    · subst hij; rw [← hq]; exact hH
    · have hil : i < t.ks.length := by omega
      refine (r.ty i (by omega)).keep hsz (fun z g1 g2 g3 => hk z ?_ g3 ?_)
      · rcases hin i hil with h | h <;> omega
      · exact .inl (Nat.lt_of_lt_of_le g2 (hd i j (by omega) hj))
theorem Dn.done {t : Ty} {b K lo hi : Nat} {cf : Nat → Nat} {vs : Nat → Value} {l g : Nat → Nat} {w : World} (r : Dn t b t.ks.length K cf vs l g w) (hin : ∀ i, i < t.ks.length → lo ≤ l i ∧ g i ≤ hi ∧ (b < l i ∨ g i ≤ b)) (_hd : ∀ i j, i < j → j < t.ks.length → g i ≤ l j)
    (hb1 : lo ≤ b) (hb2 : b < hi) (hw : b < w.heap.size) (cap : Nat) : HeldIn w lo hi K t (t.ks.length + ((List.range t.ks.length).map cf).sum) (.slice (some ⟨b, 0, none⟩) t.ks.length cap) := by
  cases t with
  | node k n ks => exact .row lo hi K k n ks cf b cap vs l g hb1 hb2 hw r.c0 r.c1 r.c2 (fun i hi => ⟨(hin i hi).1, (hin i hi).2.1⟩) r.ty

end Go.Proofs.Ytndpoejohpmifaa

namespace Go.Proofs.Ytndpoejohpmifaa
open Go.RowKit

theorem HeldIn.slice {w : World} {lo hi K c : Nat} {t : Ty} {v : Value} (h : HeldIn w lo hi K t c v) : ∃ a cap, v = .slice a t.ks.length cap := by
  cases h with
  | bare lo hi K k n a cap => exact ⟨a, cap, rfl⟩
  | row lo hi K k n ks cf b cap => exact ⟨_, cap, rfl⟩
theorem HeldIn.parts {w : World} {lo hi K c : Nat} {t : Ty} {v : Value} (h : HeldIn w lo hi K t c v) (h0 : 0 < t.ks.length) :
    ∃ (cf : Nat → Nat) (b cap : Nat) (vs : Nat → Value) (l g : Nat → Nat), v = .slice (some ⟨b, 0, none⟩) t.ks.length cap ∧ b < w.heap.size ∧ c = t.ks.length + ((List.range t.ks.length).map cf).sum ∧
      (∀ i, i < t.ks.length → w.cell? ⟨b, i * 3, none⟩ = some (.int .i64 ((K + 2 * (i + ((List.range i).map cf).sum) : Nat) : Int))) ∧
      (∀ i, i < t.ks.length → w.cell? ⟨b, i * 3 + 1, none⟩ = some (.int .i64 ((K + 2 * (i + ((List.range i).map cf).sum) + 1 : Nat) : Int))) ∧
      (∀ i, i < t.ks.length → w.cell? ⟨b, i * 3 + 2, none⟩ = some (vs i)) ∧
      (∀ i, i < t.ks.length → HeldIn w (l i) (g i) (K + 2 * (i + ((List.range i).map cf).sum) + 2) (t.ks.getD i Ty.dummy) (cf i) (vs i)) := by
  cases h with
  | bare lo hi K k n a cap => exact absurd h0 (Nat.lt_irrefl _)
  | row lo hi K k n ks cf b cap vs l g hb1 hb2 hw g0 g1 g2 hin h3 => exact ⟨cf, b, cap, vs, l, g, rfl, hw, rfl, g0, g1, g2, h3⟩
theorem HeldIn.none {w : World} {lo hi K c : Nat} {t : Ty} {v : Value} (h : HeldIn w lo hi K t c v) (h0 : t.ks.length = 0) : c = 0 := by
  cases h with
  | bare lo hi K k n a cap => rfl
  | row lo hi K k n ks cf b cap vs l g hb1 hb2 hw g0 g1 g2 hin h3 =>
    have h1 : ks.length = 0 := h0
    rw [h1]; rfl

end Go.Proofs.Ytndpoejohpmifaa

