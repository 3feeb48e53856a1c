/-
  The row of pairs that the loop of TypeSame works off: six cells a pair. Plain facts.
-/
import Derived.Test.YtndpoejohpmifaaBf
import Derived.Deep.AppendLies
import Derived.WalkSmall
namespace Go.Proofs.Ytndpoejohpmifaa
open Go.RowKit
set_option linter.unusedVariables false
set_option linter.unusedSimpArgs false

theorem infoPair : (Try.prog.info? 64).map (fun i => (i.zero, i.size, i.bytes)) = some (some (.agg #[.int .i64 0, .int .i64 0, .slice none 0 0, .int .i64 0, .int .i64 0, .slice none 0 0]), 6, 80) := by kernel_rfl
def six (p : Ref × Ref) : List Value := [.int .i64 p.1.1.k, .int .i64 p.1.1.n, p.1.2, .int .i64 p.2.1.k, .int .i64 p.2.1.n, p.2.2]
def sixes (L : List (Ref × Ref)) : List Value := L.flatMap six
theorem sixes_append (L L' : List (Ref × Ref)) : sixes (L ++ L') = sixes L ++ sixes L' := by simp [sixes]
theorem sixes_one (p : Ref × Ref) : sixes [p] = six p := by simp [sixes]
theorem sixes_len : ∀ L : List (Ref × Ref), (sixes L).length = L.length * 6
  | [] => rfl
  | p :: L => by
    have := sixes_len L
    have e : sixes (p :: L) = six p ++ sixes L := rfl
    rw [e, List.length_append, this]
    show 6 + L.length * 6 = (L.length + 1) * 6
    omega
theorem sixes_at (L : List (Ref × Ref)) (p : Ref × Ref) (q : Nat) (hq : q < 6) : (sixes (L ++ [p]))[L.length * 6 + q]? = (six p)[q]? := by
  rw [sixes_append, sixes_one, List.getElem?_append_right (by rw [sixes_len]; omega), sixes_len, Nat.add_sub_cancel_left]
/-- The pairs L lie in the row cv, which is the call's own. -/
def Td (w : World) (B : Nat) (cv : Value) (L : List (Ref × Ref)) : Prop := w.ownsRow B 64 6 cv L.length (sixes L)
theorem Td.lit (w : World) (B : Nat) (hB : B ≤ w.heap.size) (x y : Ref) :
    Td (w.alloc (.cells #[.int .i64 x.1.k, .int .i64 x.1.n, x.2, .int .i64 y.1.k, .int .i64 y.1.n, y.2] 64)) B (.slice (some ⟨w.heap.size, 0, none⟩) 1 1) [(x, y)] := by
  have h := World.ownsRow_lit (e := 64) (size := 6) w #[.int .i64 x.1.k, .int .i64 x.1.n, x.2, .int .i64 y.1.k, .int .i64 y.1.n, y.2] 1 hB (by decide) rfl
  exact h
theorem Td.form {w : World} {B : Nat} {cv : Value} {L : List (Ref × Ref)} (h : Td w B cv L) : ∃ a cap, cv = .slice a L.length cap := by
  obtain ⟨_, ⟨rfl, h0⟩ | ⟨g, cap, cur, rfl, _⟩⟩ := h
  · exact ⟨none, 0, by rw [h0]⟩
  · exact ⟨_, _, rfl⟩
theorem Td.own {w : World} {B : Nat} {cv : Value} {L : List (Ref × Ref)} {p : Ref × Ref} (h : Td w B cv (L ++ [p])) : ∃ g cap, cv = .slice (some ⟨g, 0, none⟩) (L.length + 1) cap ∧ B ≤ g ∧ g < w.heap.size := by
  obtain ⟨_, ⟨rfl, h0⟩ | ⟨g, cap, cur, rfl, hb, hg, _⟩⟩ := h
  · simp at h0
  · exact ⟨g, cap, by simp, hb, (Array.getElem?_eq_some_iff.1 hg).1⟩
theorem Td.last {w : World} {B g cap : Nat} {L : List (Ref × Ref)} {p : Ref × Ref} (h : Td w B (.slice (some ⟨g, 0, none⟩) (L.length + 1) cap) (L ++ [p])) (q : Nat) (hq : q < 6) : w.cell? ⟨g, L.length * 6 + q, none⟩ = (six p)[q]? := by
  have h' : w.ownsRow B 64 6 (.slice (some ⟨g, 0, none⟩) (L.length + 1) cap) (L.length + 1) (sixes (L ++ [p])) := by
    have := h; unfold Td at this; rwa [List.length_append] at this
  rw [h'.cellAt _ (by omega)]
  exact sixes_at L p q hq
theorem Td.pop {w : World} {B g cap : Nat} {L : List (Ref × Ref)} {p : Ref × Ref} (h : Td w B (.slice (some ⟨g, 0, none⟩) (L.length + 1) cap) (L ++ [p])) : Td w B (.slice (some ⟨g, 0, none⟩) L.length cap) L := by
  have h' : w.ownsRow B 64 6 (.slice (some ⟨g, 0, none⟩) (L.length + 1) cap) (L.length + 1) (sixes L ++ sixes [p]) := by
    have := h; unfold Td at this; rwa [List.length_append, sixes_append] at this
  exact ownsRow_pop (sixes_len L) h'
theorem Td.push {w : World} {B : Nat} {cv : Value} {L : List (Ref × Ref)} {p : Ref × Ref} (h : w.ownsRow B 64 6 cv (L.length + 1) (sixes L ++ six p)) : Td w B cv (L ++ [p]) := by
  unfold Td
  rw [List.length_append, sixes_append, sixes_one]
  exact h
theorem Td.keep {w w' : World} {B : Nat} {cv : Value} {L : List (Ref × Ref)} (h : Td w B cv L) (hk : ∀ b, B ≤ b → b < w.heap.size → w'.heap[b]? = w.heap[b]?) : Td w' B cv L := by
  obtain ⟨hl, h | ⟨g, cap, cur, rfl, hb', hg, h1, h2, h3, h4⟩⟩ := h
  · exact ⟨hl, .inl h⟩
  · exact ⟨hl, .inr ⟨g, cap, cur, rfl, hb', (hk g hb' (Array.getElem?_eq_some_iff.1 hg).1).trans hg, h1, h2, h3, h4⟩⟩
theorem Td.kept {w w' : World} {B : Nat} {cv : Value} {L : List (Ref × Ref)} (h : Td w B cv L) (hb : Below w.heap.size w w') : Td w' B cv L := h.keep (fun b _ h => hb.block b h)
/-- A step that touches the block of the classes alone leaves the row as it is. -/
theorem Td.aside {w w' : World} {B bm : Nat} {M : List (KV × KV)} {cv : Value} {L : List (Ref × Ref)} (h : Td w B cv L) (hm : UMap w bm M) (hi : Inside bm (bm + 1) w w') : Td w' B cv L := by
  obtain ⟨es, ck, hme, _⟩ := hm
  obtain ⟨hl, h | ⟨g, cap, cur, rfl, hb', hg, h1, h2, h3, h4⟩⟩ := h
  · exact ⟨hl, .inl h⟩
  · have hne : g ≠ bm := by
      intro e
      subst e
      rw [hg] at hme
      cases hme
    exact ⟨hl, .inr ⟨g, cap, cur, rfl, hb', (hi.block g (Array.getElem?_eq_some_iff.1 hg).1 (by omega)).trans hg, h1, h2, h3, h4⟩⟩

/-- What a value in memory says of the type behind it. -/
theorem at_det {w : World} {r s : Ref} (hr : OkR w r) (hs : OkR w s) (hk : r.1.k = s.1.k) (hn : r.1.n = s.1.n) (hv : r.2 = s.2) : r.1 = s.1 := by
  obtain ⟨t, v⟩ := r
  obtain ⟨t', v'⟩ := s
  have hv' : v = v' := hv
  subst hv'
  obtain ⟨a1, c1, e1, _⟩ := (TyOk.at hr).slice
  obtain ⟨a2, c2, e2, _⟩ := (TyOk.at hs).slice
  have el : t.ks.length = t'.ks.length := by
    have := e1.symm.trans e2
    injection this
  have ek : t.ks = t'.ks := by
    by_cases hne : t.ks = []
    · rw [hne] at el ⊢
      exact (List.length_eq_zero_iff.1 el.symm).symm
    · exact (TyOk.det hr hs hne (fun e => hne (by rw [e] at el; exact List.length_eq_zero_iff.1 el)) rfl).1
  show t = t'
  have hk' : t.k = t'.k := hk
  have hn' : t.n = t'.n := hn
  cases t; cases t'
  simp only [Ty.k, Ty.n, Ty.ks] at *
  subst hk'; subst hn'; subst ek; rfl
theorem last_of {α : Type} (L : List α) (h : 0 < L.length) : ∃ R p, L = R ++ [p] := by
  have hne : L ≠ [] := fun e => by rw [e] at h; exact absurd h (Nat.lt_irrefl _)
  exact ⟨L.dropLast, L.getLast hne, (List.dropLast_concat_getLast hne).symm⟩
theorem td_det {w : World} : ∀ (n : Nat) {B B' : Nat} {cv : Value} {L L' : List (Ref × Ref)}, L.length = n → Td w B cv L → Td w B' cv L' → (∀ p ∈ L, OkR w p.1) → (∀ p ∈ L', OkR w p.1) → work L = work L' := by
  intro n
  induction n with
  | zero =>
    intro B B' cv L L' hn h h' _ _
    obtain ⟨a, c, e⟩ := h.form
    obtain ⟨a', c', e'⟩ := h'.form
    have el : L.length = L'.length := by
      have := e.symm.trans e'
      injection this
    rw [List.length_eq_zero_iff.1 hn, List.length_eq_zero_iff.1 (el.symm.trans hn)]
  | succ n ih =>
    intro B B' cv L L' hn h h' ho ho'
    obtain ⟨a, c, e⟩ := h.form
    obtain ⟨a', c', e'⟩ := h'.form
    have el : L.length = L'.length := by
      have := e.symm.trans e'
      injection this
    obtain ⟨R, p, rfl⟩ := last_of L (by omega)
    obtain ⟨R', p', rfl⟩ := last_of L' (by omega)
    clear e e'
    obtain ⟨g, cap, rfl, _⟩ := h.own
    obtain ⟨g', cap', e2, _⟩ := h'.own
    have er : R.length = R'.length := by simpa using el
    have eg : g = g' := by
      injection e2 with e2
      injection e2 with e2
      injection e2
    have ec : cap = cap' := by injection e2
    subst eg; subst ec
    have h2 : Td w B' (.slice (some ⟨g, 0, none⟩) (R'.length + 1) cap) (R' ++ [p']) := by rw [← er]; exact h'
    have hq : ∀ q, q < 6 → (six p)[q]? = (six p')[q]? := fun q hq => by
      have a1 := h.last q hq
      have a2 := h2.last q hq
      rw [← er] at a2
      exact a1.symm.trans a2
    have q0 := hq 0 (by omega)
    have q1 := hq 1 (by omega)
    have q2 := hq 2 (by omega)
    simp [six] at q0 q1 q2
    have hp := at_det (ho p (by simp)) (ho' p' (by simp)) q0 q1 q2
    have ew : work [p] = work [p'] := by simp only [work, List.map_cons, List.map_nil, hp]
    have hpop := h2.pop
    rw [← er] at hpop
    rw [work_append, work_append, ew, ih (by simpa using hn) h.pop hpop (fun q hq => ho q (List.mem_append_left _ hq)) (fun q hq => ho' q (List.mem_append_left _ hq))]
open Classical in
/-- The work that the row of pairs still asks for. -/
noncomputable def todoWork (cv : Value) (w : World) : Nat := if h : ∃ L B, Td w B cv L ∧ ∀ p ∈ L, OkR w p.1 then work h.choose else 0
theorem todoWork_eq {w : World} {B : Nat} {cv : Value} {L : List (Ref × Ref)} (h : Td w B cv L) (ho : ∀ p ∈ L, OkR w p.1) : todoWork cv w = work L := by
  have hex : ∃ L B, Td w B cv L ∧ ∀ p ∈ L, OkR w p.1 := ⟨L, B, h, ho⟩
  unfold todoWork
  rw [dif_pos hex]
  obtain ⟨B', h1, h2⟩ := hex.choose_spec
  exact td_det _ rfl h1 h h2 ho

end Go.Proofs.Ytndpoejohpmifaa
