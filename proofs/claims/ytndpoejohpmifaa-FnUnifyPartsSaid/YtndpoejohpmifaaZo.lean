/-
  The exact laws' marks in a type that lies in blocks of its own: what lies elsewhere stays.
-/
import Derived.Test.YtndpoejohpmifaaZf
import Derived.Test.YtndpoejohpmifaaZh
namespace Go.Proofs.Ytndpoejohpmifaa
open Go.RowKit

/-- Only blocks from lo to hi have changed. -/
structure Inside (lo hi : Nat) (w w' : World) : Prop where
  os : w'.os = w.os
  tape : w'.tape = w.tape
  output : w'.output = w.output
  size : w.heap.size ≤ w'.heap.size
  block : ∀ b, b < w.heap.size → (b < lo ∨ hi ≤ b) → w'.heap[b]? = w.heap[b]?
theorem Inside.refl (lo hi : Nat) (w : World) : Inside lo hi w w := ⟨rfl, rfl, rfl, Nat.le_refl _, fun _ _ _ => rfl⟩
theorem Inside.trans {lo hi : Nat} {a b c : World} (h : Inside lo hi a b) (k : Inside lo hi b c) : Inside lo hi a c :=
  ⟨k.os.trans h.os, k.tape.trans h.tape, k.output.trans h.output, Nat.le_trans h.size k.size, fun x hx ho => (k.block x (Nat.lt_of_lt_of_le hx h.size) ho).trans (h.block x hx ho)⟩
theorem Inside.wide {lo hi lo' hi' : Nat} {a b : World} (h : Inside lo hi a b) (h1 : lo' ≤ lo) (h2 : hi ≤ hi') : Inside lo' hi' a b :=
  ⟨h.os, h.tape, h.output, h.size, fun x hx ho => h.block x hx (by omega)⟩
theorem Inside.set {lo hi : Nat} (w : World) {b : Nat} (o : Nat) (u : Value) (h1 : lo ≤ b) (h2 : b < hi) : Inside lo hi w (w.setCell ⟨b, o, none⟩ u) :=
  ⟨rfl, rfl, rfl, by simp, fun x _ ho => heap_setCell_other w ⟨b, o, none⟩ x u (by show x ≠ b; omega)⟩
theorem Inside.below {lo hi B : Nat} {w0 w w' : World} (h : Inside lo hi w w') (hB : B ≤ lo) (hb : Below B w0 w) (hs : B ≤ w.heap.size) : Below B w0 w' :=
  hb.trans ⟨h.os, h.tape, h.output, h.size, fun x hx => h.block x (by omega) (.inl (by omega))⟩
theorem TyIn.parts {w : World} {lo hi : Nat} {t : Ty} {v : Value} (h : TyIn w lo hi t v) (h0 : 0 < t.ks.length) :
    ∃ (b cap : Nat) (vs : Nat → Value) (l g : Nat → Nat), v = .slice (some ⟨b, 0, none⟩) t.ks.length cap ∧ lo ≤ b ∧ b < hi ∧ b < w.heap.size ∧
      (∀ i, i < t.ks.length → w.cell? ⟨b, i * 3, none⟩ = some (.int .i64 (t.ks.getD i Ty.dummy).k)) ∧ (∀ i, i < t.ks.length → w.cell? ⟨b, i * 3 + 1, none⟩ = some (.int .i64 (t.ks.getD i Ty.dummy).n)) ∧
      (∀ i, i < t.ks.length → w.cell? ⟨b, i * 3 + 2, none⟩ = some (vs i)) ∧ (∀ i, i < t.ks.length * 3 → w.frozen? ⟨b, i, none⟩ = false) ∧
      (∀ i, i < t.ks.length → lo ≤ l i ∧ g i ≤ hi ∧ (b < l i ∨ g i ≤ b)) ∧ (∀ i j, i < j → j < t.ks.length → g i ≤ l j) ∧ (∀ i, i < t.ks.length → TyIn w (l i) (g i) (t.ks.getD i Ty.dummy) (vs i)) := by
  cases h with
  | bare lo hi k n a cap => exact absurd h0 (Nat.lt_irrefl _)
  | row lo hi k n ks b cap vs l h hb1 hb2 hw hl g0 g1 g2 hf hin hd h3 => exact ⟨b, cap, vs, l, h, rfl, hb1, hb2, hw.lt, g0, g1, g2, hf, hin, hd, h3⟩
/-- What is left to mark. -/
structure Rem (t : Ty) (b j : Nat) (vs : Nat → Value) (l g : Nat → Nat) (w : World) : Prop where
  bs : b < w.heap.size
  c0 : ∀ i, j ≤ i → i < t.ks.length → w.cell? ⟨b, i * 3, none⟩ = some (.int .i64 (t.ks.getD i Ty.dummy).k)
  c1 : ∀ i, j ≤ i → i < t.ks.length → w.cell? ⟨b, i * 3 + 1, none⟩ = some (.int .i64 (t.ks.getD i Ty.dummy).n)
  c2 : ∀ i, j ≤ i → i < t.ks.length → w.cell? ⟨b, i * 3 + 2, none⟩ = some (vs i)
  fz : ∀ i, i < t.ks.length * 3 → w.frozen? ⟨b, i, none⟩ = false
  ty : ∀ i, j ≤ i → i < t.ks.length → TyIn w (l i) (g i) (t.ks.getD i Ty.dummy) (vs i)
theorem Rem.step {t : Ty} {b j : Nat} {vs : Nat → Value} {l g : Nat → Nat} {w w2 : World} {u0 u1 : Value} (r : Rem t b j vs l g w) (hj : j < t.ks.length) (hin : ∀ i, i < t.ks.length → b < l i ∨ g i ≤ b) (hd : ∀ i j, i < j → j < t.ks.length → g i ≤ l j)
    (hI : Inside (l j) (g j) ((w.setCell ⟨b, j * 3, none⟩ u0).setCell ⟨b, j * 3 + 1, none⟩ u1) w2) : Rem t b (j + 1) vs l g w2 := by
  have hs : ((w.setCell ⟨b, j * 3, none⟩ u0).setCell ⟨b, j * 3 + 1, none⟩ u1).heap.size = w.heap.size := by simp
  have hb2 := hI.block b (by rw [hs]; exact r.bs) (by rcases hin j hj with h | h <;> omega)
  have hc : ∀ q, q ≠ j * 3 → q ≠ j * 3 + 1 → w2.cell? ⟨b, q, none⟩ = w.cell? ⟨b, q, none⟩ := by
    intro q h1 h2
    have e1 : ((w.setCell ⟨b, j * 3, none⟩ u0).setCell ⟨b, j * 3 + 1, none⟩ u1).cell? ⟨b, q, none⟩ = (w.setCell ⟨b, j * 3, none⟩ u0).cell? ⟨b, q, none⟩ := World.cell?_setCell_other _ _ _ _ (fun e => h2 (by injection e with _ e2 _; exact e2.symm))
    have e2 : (w.setCell ⟨b, j * 3, none⟩ u0).cell? ⟨b, q, none⟩ = w.cell? ⟨b, q, none⟩ := World.cell?_setCell_other _ _ _ _ (fun e => h1 (by injection e with _ e2 _; exact e2.symm))
    exact (cellEq hb2).trans (e1.trans e2)
  have hk : ∀ x, x ≠ b → x < w.heap.size → (x < l j ∨ g j ≤ x) → w2.heap[x]? = w.heap[x]? := by
    intro x h1 h2 h3
    rw [hI.block x (by rw [hs]; exact h2) h3, heap_setCell_other _ ⟨b, j * 3 + 1, none⟩ x _ h1, heap_setCell_other _ ⟨b, j * 3, none⟩ x _ h1]
  have hsz := hI.size
  rw [hs] at hsz
  refine ⟨Nat.lt_of_lt_of_le r.bs hsz, fun i h1 h2 => ?_, fun i h1 h2 => ?_, fun i h1 h2 => ?_, fun i h1 => ?_, fun i h1 h2 => ?_⟩
  · rw [hc _ (by omega) (by omega)]; exact r.c0 i (by omega) h2
  · rw [hc _ (by omega) (by omega)]; exact r.c1 i (by omega) h2
  · rw [hc _ (by omega) (by omega)]; exact r.c2 i (by omega) h2
  · rw [frozenEq hb2, World.frozen?_setCell, World.frozen?_setCell]; exact r.fz i h1
  · refine (r.ty i (by omega) h2).keep hsz (fun x g1 g2 g3 => hk x ?_ g3 ?_)
    · rcases hin i h2 with h | h <;> omega
    · exact .inr (Nat.le_trans (hd j i (by omega) h2) g1)

end Go.Proofs.Ytndpoejohpmifaa
