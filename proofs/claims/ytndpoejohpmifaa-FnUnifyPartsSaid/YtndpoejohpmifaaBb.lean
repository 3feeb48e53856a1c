/-
  The union-find under TypeSame: what it keeps, and leader.
-/
import Derived.Test.YtndpoejohpmifaaBa
import Derived.Test.YtndpoejohpmifaaZo
namespace Go.Proofs.Ytndpoejohpmifaa
open Go.RowKit
set_option linter.unusedVariables false
set_option linter.unusedSimpArgs false

/-- The keys above keys lead upward: rep is the leader, dp a depth that grows downward. -/
structure UF (M : List (KV × KV)) (rep : KV → KV) (dp : KV → Nat) : Prop where
  top : ∀ k, look k M = none → rep k = k
  up : ∀ k p, look k M = some p → rep p = rep k ∧ dp p < dp k
theorem UF.halve {M : List (KV × KV)} {rep : KV → KV} {dp : KV → Nat} (h : UF M rep dp) {k p g : KV} (hk : look k M = some p) (hp : look p M = some g) : UF (upd k g M) rep dp := by
  obtain ⟨a1, a2⟩ := h.up k p hk
  obtain ⟨b1, b2⟩ := h.up p g hp
  refine ⟨fun x hx => ?_, fun x y hx => ?_⟩
  · rw [look_upd] at hx
    split at hx
    · cases hx
    · exact h.top x hx
  · rw [look_upd] at hx
    split at hx
    · rename_i e
      injection hx with hx
      subst hx; subst e
      exact ⟨b1.trans a1, by omega⟩
    · exact h.up x y hx
theorem UF.lead {M : List (KV × KV)} {rep : KV → KV} {dp : KV → Nat} (h : UF M rep dp) : ∀ (n : Nat) (k : KV), dp k < n → look (rep k) M = none := by
  intro n
  induction n with
  | zero => intro k hk; omega
  | succ n ih =>
    intro k hk
    rcases hl : look k M with _ | p
    · rw [h.top k hl]; exact hl
    · obtain ⟨a1, a2⟩ := h.up k p hl
      rw [← a1]; exact ih p (by omega)
/-- The map in memory, its values good too. -/
structure UG (w : World) (bm : Nat) (M : List (KV × KV)) : Prop where
  m : UMap w bm M
  v : ∀ p ∈ M, Good bm w p.2
theorem UG.keep {w w' : World} {bm : Nat} {M : List (KV × KV)} (h : UG w bm M) (hk : ∀ b, b < w.heap.size → w'.heap[b]? = w.heap[b]?) : UG w' bm M :=
  ⟨h.m.keep hk, fun p hp => (h.v p hp).keep (by obtain ⟨_, C, T, hg⟩ := h.v p hp; exact hk _ (Array.getElem?_eq_some_iff.1 hg).1)⟩
theorem look_mem {x v : KV} : ∀ {M : List (KV × KV)}, look x M = some v → ∃ p ∈ M, p.2 = v
  | [], h => by simp [look] at h
  | p :: M, h => by
    unfold look at h
    split at h
    · injection h with h; exact ⟨p, List.mem_cons_self .., h⟩
    · obtain ⟨q, hq, e⟩ := look_mem h; exact ⟨q, List.mem_cons_of_mem _ hq, e⟩
theorem UG.good {w : World} {bm : Nat} {M : List (KV × KV)} (h : UG w bm M) {x v : KV} (hl : look x M = some v) : Good bm w v := by
  obtain ⟨p, hp, rfl⟩ := look_mem hl; exact h.v p hp
theorem Good.lt {bm : Nat} {w : World} {k : KV} (h : Good bm w k) : k.1 < w.heap.size := by obtain ⟨_, C, T, h⟩ := h; exact (Array.getElem?_eq_some_iff.1 h).1
theorem Good.kept {bm : Nat} {w w' : World} {k : KV} (h : Good bm w k) (hb : Below w.heap.size w w') : Good bm w' k := h.keep (hb.block _ h.lt)
theorem UG.kept {w w' : World} {bm : Nat} {M : List (KV × KV)} (h : UG w bm M) (hb : Below w.heap.size w w') : UG w' bm M := h.keep (fun b h => hb.block b h)
theorem UMap.lt {w : World} {bm : Nat} {M : List (KV × KV)} (h : UMap w bm M) : bm < w.heap.size := by obtain ⟨es, c, h, _⟩ := h; exact (Array.getElem?_eq_some_iff.1 h).1
theorem Good.ne {w : World} {bm : Nat} {M : List (KV × KV)} (hm : UMap w bm M) {k : KV} (h : Good bm w k) : k.1 ≠ bm := by
  obtain ⟨es, c, hm, _⟩ := hm
  obtain ⟨_, C, T, h⟩ := h
  intro e; rw [e, hm] at h; injection h with h; cases h
theorem upd_mem {x v : KV} : ∀ {M : List (KV × KV)} {p : KV × KV}, p ∈ upd x v M → p = (x, v) ∨ p ∈ M
  | [], p, h => by simp [upd] at h; exact .inl h
  | q :: M, p, h => by
    unfold upd at h
    split at h
    · rcases List.mem_cons.1 h with h | h
      · exact .inl h
      · exact .inr (List.mem_cons_of_mem _ h)
    · rcases List.mem_cons.1 h with h | h
      · exact .inr (by rw [h]; exact List.mem_cons_self ..)
      · rcases upd_mem h with h | h
        · exact .inl h
        · exact .inr (List.mem_cons_of_mem _ h)
theorem grown_good {w w' : World} {bm : Nat} {M : List (KV × KV)} (hm : UMap w bm M) (hg : w.grownBy w' (some bm)) {k : KV} (h : Good bm w k) : Good bm w' k :=
  h.keep (hg.block _ h.lt (fun e => h.ne hm (by injection e)))
theorem UG.put {w w' : World} {bm : Nat} {M : List (KV × KV)} (h : UG w bm M) {x v : KV} (hv : Good bm w v) (hm : UMap w' bm (upd x v M)) (hg : w.grownBy w' (some bm)) : UG w' bm (upd x v M) :=
  ⟨hm, fun p hp => by
    rcases upd_mem hp with rfl | hp
    · exact grown_good h.m hg hv
    · exact grown_good h.m hg (h.v p hp)⟩
theorem in_below {lo hi : Nat} {w w' : World} (h : Below w.heap.size w w') : Inside lo hi w w' := ⟨h.os, h.tape, h.output, h.size, fun x hx _ => h.block x hx⟩
/-- A key in a variable of the walk. -/
structure KB (w : World) (B : Nat) (k : KV) : Prop where
  c0 : w.cell? ⟨B, 0, none⟩ = some (.pointer (some ⟨k.1, k.2.1, none⟩))
  c1 : w.cell? ⟨B, 1, none⟩ = some (.int .i64 (k.2.2 : Int))
  f0 : w.frozen? ⟨B, 0, none⟩ = false
  f1 : w.frozen? ⟨B, 1, none⟩ = false
  sz : B < w.heap.size
theorem KB.keep {w w' : World} {B : Nat} {k : KV} (h : KB w B k) (hs : w.heap.size ≤ w'.heap.size) (e : w'.heap[B]? = w.heap[B]?) : KB w' B k :=
  ⟨(cellEq e).trans h.c0, (cellEq e).trans h.c1, (frozenEq e).trans h.f0, (frozenEq e).trans h.f1, Nat.lt_of_lt_of_le h.sz hs⟩
theorem KB.kept {w w' : World} {B : Nat} {k : KV} (h : KB w B k) (hb : Below w.heap.size w w') : KB w' B k := h.keep hb.size (hb.block B h.sz)
theorem kb_new (w : World) (k : KV) (T : TypeId) : KB (w.alloc (.cells #[.pointer (some ⟨k.1, k.2.1, none⟩), .int .i64 (k.2.2 : Int)] T)) w.heap.size k := ⟨by go_simp, by go_simp, by go_simp, by go_simp, by simp⟩
theorem KB.set {w : World} {B : Nat} {k : KV} (h : KB w B k) (g : KV) : KB ((w.setCell ⟨B, 0, none⟩ (.pointer (some ⟨g.1, g.2.1, none⟩))).setCell ⟨B, 1, none⟩ (.int .i64 (g.2.2 : Int))) B g := by
  refine ⟨?_, ?_, by rw [World.frozen?_setCell, World.frozen?_setCell]; exact h.f0, by rw [World.frozen?_setCell, World.frozen?_setCell]; exact h.f1, by simpa using h.sz⟩
  · rw [World.cell?_setCell_other _ _ _ _ (fun e => by injection e with _ e2 _; omega)]
    exact World.cell?_setCell_same' _ _ _ (by rw [h.c0]; rfl)
  · refine World.cell?_setCell_same' _ _ _ ?_
    rw [World.cell?_setCell_other _ _ _ _ (fun e => by injection e with _ e2 _; omega), h.c1]; rfl
/-- A key's variable, empty still. -/
structure K2 (w : World) (B : Nat) : Prop where
  c0 : w.cell? ⟨B, 0, none⟩ = some (.pointer none)
  c1 : w.cell? ⟨B, 1, none⟩ = some (.int .i64 0)
  f0 : w.frozen? ⟨B, 0, none⟩ = false
  f1 : w.frozen? ⟨B, 1, none⟩ = false
  sz : B < w.heap.size
theorem K2.keep {w w' : World} {B : Nat} (h : K2 w B) (hs : w.heap.size ≤ w'.heap.size) (e : w'.heap[B]? = w.heap[B]?) : K2 w' B :=
  ⟨(cellEq e).trans h.c0, (cellEq e).trans h.c1, (frozenEq e).trans h.f0, (frozenEq e).trans h.f1, Nat.lt_of_lt_of_le h.sz hs⟩
open Classical in
/-- The key that a variable holds. -/
noncomputable def keyIn (w : World) (B : Nat) : KV := if h : ∃ k, KB w B k then h.choose else (0, 0, 0)
theorem KB.one {w : World} {B : Nat} {k g : KV} (h : KB w B k) (h' : KB w B g) : k = g := by
  have e0 := h.c0.symm.trans h'.c0
  have e1 := h.c1.symm.trans h'.c1
  injection e0 with e0; injection e0 with e0; injection e0 with e0; injection e0 with a b
  injection e1 with e1; injection e1 with _ e1
  exact Prod.ext a (Prod.ext b (by omega))
theorem KB.key {w : World} {B : Nat} {k : KV} (h : KB w B k) : keyIn w B = k := by
  unfold keyIn
  rw [dif_pos ⟨k, h⟩]
  exact (Exists.choose_spec (⟨k, h⟩ : ∃ k, KB w B k)).one h

end Go.Proofs.Ytndpoejohpmifaa
