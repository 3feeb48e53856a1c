/-
  A row of types that grows by append: each type lies in blocks of its own, beside the row. Plain facts.
-/
import Derived.Test.YtndpoejohpmifaaAb
import Derived.Deep.AppendLies
namespace Go.Proofs.Ytndpoejohpmifaa
open Go.RowKit
set_option linter.unusedVariables false
set_option linter.unusedSimpArgs false

theorem infoTy : (Try.prog.info? 25).map (fun i => (i.zero, i.size, i.bytes)) = some (some (.agg #[.int .i64 0, .int .i64 0, .slice none 0 0]), 3, 40) := by kernel_rfl
/-- The box of a type under way. -/
structure OB (w : World) (B : Nat) (k n : Int) (v : Value) : Prop where
  c0 : w.cell? ⟨B, 0, none⟩ = some (.int .i64 k)
  c1 : w.cell? ⟨B, 1, none⟩ = some (.int .i64 n)
  c2 : w.cell? ⟨B, 2, none⟩ = some v
  f2 : w.frozen? ⟨B, 2, none⟩ = false
  sz : B < w.heap.size
theorem OB.keep {w w' : World} {B : Nat} {k n : Int} {v : Value} (h : OB w B k n v) (hs : w.heap.size ≤ w'.heap.size) (e : w'.heap[B]? = w.heap[B]?) : OB w' B k n v :=
  ⟨(cellEq e).trans h.c0, (cellEq e).trans h.c1, (cellEq e).trans h.c2, (frozenEq e).trans h.f2, Nat.lt_of_lt_of_le h.sz hs⟩
theorem OB.kept {w w' : World} {B : Nat} {k n : Int} {v : Value} (h : OB w B k n v) (hb : Below w.heap.size w w') : OB w' B k n v := h.keep hb.size (hb.block B h.sz)
theorem ob_new (w : World) (k n : Int) (v : Value) (T : TypeId) : OB (w.alloc (.cells #[.int .i64 k, .int .i64 n, v] T)) w.heap.size k n v := ⟨by go_simp, by go_simp, by go_simp, by go_simp, by simp⟩
theorem OB.set {w : World} {B : Nat} {k n : Int} {v : Value} (h : OB w B k n v) (u : Value) : OB (w.setCell ⟨B, 2, none⟩ u) B k n u :=
  ⟨(World.cell?_setCell_other _ _ _ _ (fun e => by injection e with _ e2 _; omega)).trans h.c0, (World.cell?_setCell_other _ _ _ _ (fun e => by injection e with _ e2 _; omega)).trans h.c1, World.cell?_setCell_same' _ _ _ (by rw [h.c2]; rfl), by rw [World.frozen?_setCell]; exact h.f2, by simpa using h.sz⟩

/-- The first j types of rs lie in the row cv, each in blocks of its own; no block is below B. -/
structure Gr (rs : List Ty) (B j : Nat) (w : World) (cv : Value) (xs : List Value) (vs : Nat → Value) (l h : Nat → Nat) : Prop where
  own : w.ownsRow B 25 3 cv j xs
  x0 : ∀ i, i < j → xs[i * 3]? = some (.int .i64 (rs.getD i Ty.dummy).k)
  x1 : ∀ i, i < j → xs[i * 3 + 1]? = some (.int .i64 (rs.getD i Ty.dummy).n)
  x2 : ∀ i, i < j → xs[i * 3 + 2]? = some (vs i)
  lo : ∀ i, i < j → B ≤ l i ∧ h i ≤ w.heap.size
  di : ∀ i k, i < k → k < j → h i ≤ l k
  ty : ∀ i, i < j → TyIn w (l i) (h i) (rs.getD i Ty.dummy) (vs i)
  ap : ∀ g, cv.ownBlock = some g → ∀ i, i < j → g < l i ∨ h i ≤ g
theorem gr_nil (rs : List Ty) (B : Nat) (w : World) : Gr rs B 0 w (.slice none 0 0) [] (fun _ => .int .i64 0) (fun _ => 0) (fun _ => 0) :=
  ⟨World.ownsRow_nil _ _ _ _, fun i hi => by omega, fun i hi => by omega, fun i hi => by omega, fun i hi => by omega, fun i k hi hk => by omega, fun i hi => by omega, fun g _ i hi => by omega⟩
theorem own_low {w : World} {B n sz : Nat} {e : TypeId} {v : Value} {xs : List Value} (h : w.ownsRow B e sz v n xs) {g : Nat} (hg : v.ownBlock = some g) : B ≤ g ∧ g < w.heap.size := h.lt g hg
theorem own_keep {w w' : World} {B n sz : Nat} {e : TypeId} {v : Value} {xs : List Value} (h : w.ownsRow B e sz v n xs) (hk : ∀ b, B ≤ b → b < w.heap.size → w'.heap[b]? = w.heap[b]?) : w'.ownsRow B e sz v n xs := by
  obtain ⟨hl, h | ⟨g, cap, cur, rfl, hb', hg, h1, h2, h3, h4⟩⟩ := h
  · exact ⟨hl, .inl h⟩
  · exact ⟨hl, .inr ⟨g, cap, cur, rfl, hb', (hk g hb' (Array.getElem?_eq_some_iff.1 hg).1).trans hg, h1, h2, h3, h4⟩⟩
theorem Gr.keep {rs : List Ty} {B j : Nat} {w w' : World} {cv : Value} {xs : List Value} {vs : Nat → Value} {l h : Nat → Nat} (f : Gr rs B j w cv xs vs l h) (hs : w.heap.size ≤ w'.heap.size) (hk : ∀ b, B ≤ b → b < w.heap.size → w'.heap[b]? = w.heap[b]?) : Gr rs B j w' cv xs vs l h :=
  ⟨own_keep f.own hk, f.x0, f.x1, f.x2, fun i hi => ⟨(f.lo i hi).1, Nat.le_trans (f.lo i hi).2 hs⟩, f.di, fun i hi => (f.ty i hi).keep hs (fun b h1 _ h3 => hk b (by have := (f.lo i hi).1; omega) h3), f.ap⟩
theorem Gr.kept {rs : List Ty} {B j : Nat} {w w' : World} {cv : Value} {xs : List Value} {vs : Nat → Value} {l h : Nat → Nat} (f : Gr rs B j w cv xs vs l h) (hb : Below w.heap.size w w') : Gr rs B j w' cv xs vs l h :=
  f.keep hb.size (fun b _ h => hb.block b h)
theorem get_old {xs : List Value} {x y z u : Value} {i : Nat} (h : xs[i]? = some u) : (xs ++ [x, y, z])[i]? = some u := by
  rw [List.getElem?_append_left (List.getElem?_eq_some_iff.1 h).1]; exact h
theorem Gr.step {rs : List Ty} {B j : Nat} {w w1 w3 : World} {cv : Value} {xs : List Value} {vs : Nat → Value} {l h : Nat → Nat} (f : Gr rs B j w cv xs vs l h) (hB : B ≤ w.heap.size) {t : Ty} (ht : rs.getD j Ty.dummy = t) {v : Value} (hb : Below w.heap.size w w1) (hty : TyIn w1 w.heap.size w1.heap.size t v) {o : Obj} {g cap : Nat}
    (hown : w3.ownsRow B 25 3 (.slice (some ⟨g, 0, none⟩) (j + 1) cap) (j + 1) (xs ++ [.int .i64 t.k, .int .i64 t.n, v])) (hgrow : (w1.alloc o).grownBy w3 cv.ownBlock) (hat : cv.ownBlock = some g ∨ g = w1.heap.size + 1) :
    ∃ xs' vs' l' h', Gr rs B (j + 1) w3 (.slice (some ⟨g, 0, none⟩) (j + 1) cap) xs' vs' l' h' := by
  have hs1 := hb.size
  have hsA : (w1.alloc o).heap.size = w1.heap.size + 1 := by simp
  have hs3 : w1.heap.size + 1 ≤ w3.heap.size := by have := hgrow.size; omega
  have hlen := f.own.1
  have hold : ∀ b, b < w1.heap.size → some b ≠ cv.ownBlock → w3.heap[b]? = w1.heap[b]? := fun b h1 h2 =>
    (hgrow.block b (by omega) h2).trans (((Below.refl w1.heap.size w1).alloc (Nat.le_refl _) o).block b h1)
  refine ⟨xs ++ [.int .i64 t.k, .int .i64 t.n, v], fun i => if i = j then v else vs i, fun i => if i = j then w.heap.size else l i, fun i => if i = j then w1.heap.size else h i, hown, ?_, ?_, ?_, ?_, ?_, ?_, ?_⟩
  · intro i hi
    by_cases hij : i = j
    · subst hij; rw [List.getElem?_append_right (by omega), ht, hlen]; simp
    · exact get_old (f.x0 i (by omega))
  · intro i hi
    by_cases hij : i = j
    · subst hij; rw [List.getElem?_append_right (by omega), ht, hlen]; simp
    · exact get_old (f.x1 i (by omega))
  · intro i hi
    by_cases hij : i = j
    · subst hij; rw [List.getElem?_append_right (by omega), hlen]; simp
    · simp only [hij, if_false]; exact get_old (f.x2 i (by omega))
  · intro i hi
    by_cases hij : i = j
    · simp only [hij, if_true]; omega
    · have := f.lo i (by omega); simp only [hij, if_false]; omega
  · intro i k hik hk
    have hij : i ≠ j := by omega
    by_cases hkj : k = j
    · have := f.lo i (by omega); simp only [hij, hkj, if_false, if_true]; omega
    · simp only [hij, hkj, if_false]; exact f.di i k hik (by omega)
  · intro i hi
    by_cases hij : i = j
    · subst hij
      simp only [if_true]
      rw [ht]
      exact hty.keep (by omega) (fun b h1 h2 h3 => hold b h3 (fun e => by have := (own_low f.own e.symm).2; omega))
    · simp only [hij, if_false]
      have hlo := f.lo i (by omega)
      exact (f.ty i (by omega)).keep (by omega) (fun b h1 h2 h3 => (hold b (by omega) (fun e => by have := f.ap b e.symm i (by omega); omega)).trans (hb.block b h3))
  · intro g' hg' i hi
    have e : g = g' := by simpa [Value.ownBlock] using hg'
    subst e
    rcases hat with hat | hat
    · have hgl := (own_low f.own hat).2
      by_cases hij : i = j
      · simp only [hij, if_true]; omega
      · simp only [hij, if_false]; exact f.ap g hat i (by omega)
    · by_cases hij : i = j
      · simp only [hij, if_true]; omega
      · have := f.lo i (by omega); simp only [hij, if_false]; omega
/-- The row is a type's operands. -/
theorem Gr.done {rs : List Ty} {B : Nat} {w : World} {cv : Value} {xs : List Value} {vs : Nat → Value} {l h : Nat → Nat} (f : Gr rs B rs.length w cv xs vs l h) (k n : Int) (hl : rs.length ≤ 9223372036854775807) :
    TyIn w B w.heap.size (.node k n rs) cv := by
  have hown := f.own
  obtain ⟨hlen, ⟨rfl, h0⟩ | ⟨g, cap, cur, rfl, hb', hg, h1, h2, h3, h4⟩⟩ := f.own
  · rw [List.length_eq_zero_iff.1 h0]; exact .bare _ _ _ _ _ _
  · have hgs := own_low hown (g := g) rfl
    have hc : ∀ i, i < rs.length → ∀ q, q < 3 → w.cell? ⟨g, i * 3 + q, none⟩ = xs[i * 3 + q]? := fun i hi q hq => hown.cellAt _ (by omega)
    refine .row B w.heap.size k n rs g cap vs l h hb' hgs.2 (row_own hown) hl (fun i hi => ?_) (fun i hi => ?_) (fun i hi => ?_) (fun i hi => hown.frozenAt i) (fun i hi => ?_) (fun i j hij hj => f.di i j hij hj) (fun i hi => f.ty i hi)
    · exact (hc i hi 0 (by omega)).trans (f.x0 i hi)
    · exact (hc i hi 1 (by omega)).trans (f.x1 i hi)
    · exact (hc i hi 2 (by omega)).trans (f.x2 i hi)
    · have h5 := f.lo i hi; have h6 := f.ap g rfl i hi; exact ⟨h5.1, h5.2, h6⟩
theorem grow_old {w2 w3 : World} {o : Obj} {row : Option Nat} (hg : (w2.alloc o).grownBy w3 row) {q : Nat} (h1 : q < w2.heap.size) (h2 : ∀ g, row = some g → q ≠ g) : w3.heap[q]? = w2.heap[q]? :=
  (hg.block q (by simp; omega) (fun e => h2 q e.symm rfl)).trans (((Below.refl w2.heap.size w2).alloc (Nat.le_refl _) o).block q h1)
theorem grow_size {w2 w3 : World} {o : Obj} {row : Option Nat} (hg : (w2.alloc o).grownBy w3 row) : w2.heap.size + 1 ≤ w3.heap.size := by have := hg.size; simp at this; omega
theorem in_grow {lo hi : Nat} {W w2 w3 : World} {o : Obj} {row : Option Nat} (h : Inside lo hi W w2) (hg : (w2.alloc o).grownBy w3 row) (hr : ∀ g, row = some g → W.heap.size ≤ g) : Inside lo hi W w3 := by
  have ha := (Below.refl w2.heap.size w2).alloc (Nat.le_refl _) o
  exact ⟨hg.os.trans (ha.os.trans h.os), hg.tape.trans (ha.tape.trans h.tape), hg.output.trans (ha.output.trans h.output), by have := grow_size hg; have := h.size; omega, fun b hb hx => (grow_old hg (Nat.lt_of_lt_of_le hb h.size) (fun g e => by have := hr g e; omega)).trans (h.block b hb hx)⟩
theorem cell_one {W : World} {B R o i : Nat} {x : Value} (h : ¬ B = R) : (W.setCell ⟨R, i, none⟩ x).cell? ⟨B, o, none⟩ = W.cell? ⟨B, o, none⟩ := cellEq (heap_setCell_other _ ⟨R, i, none⟩ B _ h)

end Go.Proofs.Ytndpoejohpmifaa
