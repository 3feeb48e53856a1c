/-
  Rows that lie in blocks of the law's own; files and numbers in them; the exact laws' functions that copy, mark and look at them.
-/
import Derived.Test.YtpihopmgckdigaaDoorLb
import Derived.Test.YtpihopmgckdigaaDoorRa
import Derived.Test.YtpihopmgckdigaaDoorZo
import Derived.Test.YtpihopmgckdigaaDoorJz
import Derived.BigQuiet
import Derived.Deep.RegionHeld3
import Derived.Deep.DeepCutAuto
namespace Go.Proofs.YtpihopmgckdigaaDoor
open Go.RowKit
set_option linter.unusedVariables false
set_option linter.unusedSimpArgs false

theorem inside_below {lo hi : Nat} {w w' : World} (hb : Below w.heap.size w w') : Inside lo hi w w' := ⟨hb.os, hb.tape, hb.output, hb.size, fun b h _ => hb.block b h⟩
/-- A row of the law's own, in a block from lo to hi. -/
structure OB (w : World) (lo hi : Nat) (e : TypeId) (sz : Nat) (v : Value) (n : Nat) (xs : List Value) : Prop where
  own : w.ownsRow lo e sz v n xs
  up : ∀ g, v.ownBlock = some g → g < hi
theorem OB.inside {w w' : World} {lo hi lo' hi' sz n : Nat} {e : TypeId} {v : Value} {xs : List Value} (h : OB w lo hi e sz v n xs) (hI : Inside lo' hi' w w') (hd : hi ≤ lo' ∨ hi' ≤ lo) : OB w' lo hi e sz v n xs := by
  obtain ⟨⟨hl, h | ⟨g, cap, cur, rfl, hb', hg, h1, h2, h3, h4⟩⟩, hu⟩ := h
  · exact ⟨⟨hl, .inl h⟩, hu⟩
  · have h5 := hu g rfl
    exact ⟨⟨hl, .inr ⟨g, cap, cur, rfl, hb', (hI.block g (Array.getElem?_eq_some_iff.1 hg).1 (by omega)).trans hg, h1, h2, h3, h4⟩⟩, hu⟩
theorem OB.kept {w w' : World} {lo hi sz n : Nat} {e : TypeId} {v : Value} {xs : List Value} (h : OB w lo hi e sz v n xs) (hb : Below w.heap.size w w') : OB w' lo hi e sz v n xs :=
  ⟨own_below h.own hb, h.up⟩
theorem OB.slice {w : World} {lo hi sz n : Nat} {e : TypeId} {v : Value} {xs : List Value} (h : OB w lo hi e sz v n xs) : ∃ a cap, v = .slice a n cap ∧ n ≤ maxLen := by
  obtain ⟨⟨hl, ⟨rfl, rfl⟩ | ⟨g, cap, cur, rfl, hb', hg, h1, h2, h3, h4⟩⟩, hu⟩ := h
  · exact ⟨none, 0, rfl, Nat.zero_le _⟩
  · exact ⟨_, cap, rfl, by omega⟩
/-- The block, where there is an element. -/
theorem OB.blk {w : World} {lo hi sz n : Nat} {e : TypeId} {v : Value} {xs : List Value} (h : OB w lo hi e sz v n xs) (hn : 0 < n) : ∃ g cap, v = .slice (some ⟨g, 0, none⟩) n cap ∧ lo ≤ g ∧ g < hi ∧ g < w.heap.size := by
  obtain ⟨⟨hl, ⟨rfl, rfl⟩ | ⟨g, cap, cur, rfl, hb', hg, h1, h2, h3, h4⟩⟩, hu⟩ := h
  · omega
  · exact ⟨g, cap, rfl, hb', hu g rfl, (Array.getElem?_eq_some_iff.1 hg).1⟩
theorem OB.store {w : World} {lo hi sz n g cap : Nat} {e : TypeId} {xs : List Value} (h : OB w lo hi e sz (.slice (some ⟨g, 0, none⟩) n cap) n xs) (j : Nat) (u : Value) : OB (w.setCell ⟨g, j, none⟩ u) lo hi e sz (.slice (some ⟨g, 0, none⟩) n cap) n (xs.set j u) :=
  ⟨(h.own.stored j u).1, h.up⟩
/-- The cells of a list of files. -/
def cellsF (ls : List Fl) : List Value := ls.flatMap fun x => [.string x.n, .string x.t]
theorem cellsF_len : ∀ ls : List Fl, (cellsF ls).length = ls.length * 2
  | [] => rfl
  | p :: r => by
    have := cellsF_len r
    have e : cellsF (p :: r) = [.string p.n, .string p.t] ++ cellsF r := rfl
    rw [e, List.length_append, this]; simp; omega
theorem cellsF_at : ∀ (ls : List Fl) (i : Nat), i < ls.length → (cellsF ls)[i * 2]? = some (.string (ls.getD i Fl.dummy).n) ∧ (cellsF ls)[i * 2 + 1]? = some (.string (ls.getD i Fl.dummy).t)
  | p :: r, i, hi => by
    have e : cellsF (p :: r) = [.string p.n, .string p.t] ++ cellsF r := rfl
    rw [e]
    cases i with
    | zero => simp [List.getD]
    | succ i =>
      have h := cellsF_at r i (by simpa using hi)
      have e0 : ([Value.string p.n, .string p.t] : List Value).length = 2 := rfl
      rw [List.getElem?_append_right (by rw [e0]; omega), List.getElem?_append_right (by rw [e0]; omega), e0, show (i + 1) * 2 - 2 = i * 2 by omega, show (i + 1) * 2 + 1 - 2 = i * 2 + 1 by omega]
      simpa [List.getD] using h
theorem cellsF_of {ls : List Fl} {xs : List Value} (hl : xs.length = ls.length * 2) (h0 : ∀ i, i < ls.length → xs[i * 2]? = some (.string (ls.getD i Fl.dummy).n)) (h1 : ∀ i, i < ls.length → xs[i * 2 + 1]? = some (.string (ls.getD i Fl.dummy).t)) : xs = cellsF ls := by
  apply List.ext_getElem?
  intro j
  by_cases hj : j < ls.length * 2
  · have ⟨c0, c1⟩ := cellsF_at ls (j / 2) (by omega)
    rcases Nat.mod_two_eq_zero_or_one j with h | h
    · have e : j = j / 2 * 2 := by omega
      rw [e, h0 _ (by omega), c0]
    · have e : j = j / 2 * 2 + 1 := by omega
      rw [e, h1 _ (by omega), c1]
  · rw [List.getElem?_eq_none (by omega), List.getElem?_eq_none (by rw [cellsF_len]; omega)]
/-- Files in a row of the law's own. -/
def FO (w : World) (lo hi : Nat) (v : Value) (ls : List Fl) : Prop := OB w lo hi 66 2 v ls.length (cellsF ls)
theorem FO.inside {w w' : World} {lo hi lo' hi' : Nat} {v : Value} {ls : List Fl} (h : FO w lo hi v ls) (hI : Inside lo' hi' w w') (hd : hi ≤ lo' ∨ hi' ≤ lo) : FO w' lo hi v ls := OB.inside h hI hd
theorem FO.kept {w w' : World} {lo hi : Nat} {v : Value} {ls : List Fl} (h : FO w lo hi v ls) (hb : Below w.heap.size w w') : FO w' lo hi v ls := OB.kept h hb
theorem FO.at {w : World} {lo hi : Nat} {v : Value} {ls : List Fl} (h : FO w lo hi v ls) : FsAt w ls v := by
  obtain ⟨a, cap, rfl, hm⟩ := OB.slice h
  unfold maxLen at hm
  rcases Nat.eq_zero_or_pos ls.length with h0 | h0
  · have : ls = [] := List.length_eq_zero_iff.1 h0
    subst this
    exact .bare a cap
  · obtain ⟨g, cap2, e, _, _, hg⟩ := OB.blk h h0
    injection e with e1 e2 e3
    subst e1 e3
    have hc : ∀ q, q < ls.length * 2 → w.cell? ⟨g, q, none⟩ = (cellsF ls)[q]? := fun q hq => h.own.cellAt q hq
    refine .row ls g 0 cap hg (by omega) (fun i hi => ⟨?_, ?_⟩)
    · rw [Nat.zero_add, hc _ (by omega)]; exact (cellsF_at ls i hi).1
    · rw [Nat.zero_add, hc _ (by omega)]; exact (cellsF_at ls i hi).2
/-- Marks from K on. -/
def mkF (K L : Nat) : List Fl := (List.range L).map fun i => ⟨mkT (K + 2 * i), mkT (K + 2 * i + 1)⟩
theorem mkF_len (K L : Nat) : (mkF K L).length = L := by unfold mkF; simp
theorem mkF_at (K : Nat) {L i : Nat} (h : i < L) : (mkF K L).getD i Fl.dummy = ⟨mkT (K + 2 * i), mkT (K + 2 * i + 1)⟩ := by unfold mkF; simp [List.getD, h]
/-- A row that is being marked. -/
structure FMk (K L lo hi : Nat) (v : Value) (j : Nat) (w : World) (xs : List Value) : Prop where
  ob : OB w lo hi 66 2 v L xs
  x0 : ∀ i, i < j → xs[i * 2]? = some (.string (mkT (K + 2 * i)))
  x1 : ∀ i, i < j → xs[i * 2 + 1]? = some (.string (mkT (K + 2 * i + 1)))
theorem FMk.step {K L lo hi g cap j : Nat} {w w1 w3 : World} {xs : List Value} (f : FMk K L lo hi (.slice (some ⟨g, 0, none⟩) L cap) j w xs) (hj : j < L) (hb : Below w.heap.size w w1)
    (hb2 : Below (w1.setCell ⟨g, j * 2, none⟩ (.string (mkT (K + 2 * j)))).heap.size (w1.setCell ⟨g, j * 2, none⟩ (.string (mkT (K + 2 * j)))) w3) :
    FMk K L lo hi (.slice (some ⟨g, 0, none⟩) L cap) (j + 1) (w3.setCell ⟨g, j * 2 + 1, none⟩ (.string (mkT (K + 2 * j + 1)))) ((xs.set (j * 2) (.string (mkT (K + 2 * j)))).set (j * 2 + 1) (.string (mkT (K + 2 * j + 1)))) := by
  have h1 := ((((f.ob.kept hb).store (j * 2) (.string (mkT (K + 2 * j)))).kept hb2).store (j * 2 + 1) (.string (mkT (K + 2 * j + 1))))
  have hl := f.ob.own.1
  refine ⟨h1, ?_, ?_⟩
  · intro i hi
    by_cases hij : i = j
    · subst hij
      rw [List.getElem?_set_ne (by omega), List.getElem?_set_self (by omega)]
    · rw [List.getElem?_set_ne (by omega), List.getElem?_set_ne (by omega)]
      exact f.x0 i (by omega)
  · intro i hi
    by_cases hij : i = j
    · subst hij
      rw [List.getElem?_set_self (by rw [List.length_set]; omega)]
    · rw [List.getElem?_set_ne (by omega), List.getElem?_set_ne (by omega)]
      exact f.x1 i (by omega)
theorem FMk.done {K L lo hi : Nat} {v : Value} {w : World} {xs : List Value} (f : FMk K L lo hi v L w xs) : FO w lo hi v (mkF K L) := by
  have e : xs = cellsF (mkF K L) := cellsF_of (by rw [mkF_len]; exact f.ob.own.1) (fun i hi => by rw [mkF_len] at hi; rw [mkF_at K hi]; exact f.x0 i hi) (fun i hi => by rw [mkF_len] at hi; rw [mkF_at K hi]; exact f.x1 i hi)
  unfold FO
  rw [mkF_len, ← e]
  exact f.ob
theorem FMk.cells {K L lo hi g cap j : Nat} {w : World} {xs : List Value} (f : FMk K L lo hi (.slice (some ⟨g, 0, none⟩) L cap) j w xs) {q : Nat} (hq : q < L * 2) : (∃ u, w.cell? ⟨g, q, none⟩ = some u) ∧ w.frozen? ⟨g, q, none⟩ = false := by
  refine ⟨?_, f.ob.own.frozenAt q⟩
  have h := f.ob.own.cellAt q hq
  rw [List.getElem?_eq_getElem (by rw [f.ob.own.1]; omega)] at h
  exact ⟨_, h⟩
theorem inside_step {lo hi g q1 q2 : Nat} {w0 w w1 w3 : World} {u1 u2 : Value} (h : Inside lo hi w0 w) (hb : Below w.heap.size w w1) (h1 : lo ≤ g) (h2 : g < hi) (hb2 : Below (w1.setCell ⟨g, q1, none⟩ u1).heap.size (w1.setCell ⟨g, q1, none⟩ u1) w3) :
    Inside lo hi w0 (w3.setCell ⟨g, q2, none⟩ u2) :=
  (((h.trans (inside_below hb)).trans (Inside.set w1 q1 u1 h1 h2)).trans (inside_below hb2)).trans (Inside.set w3 q2 u2 h1 h2)
theorem set_cell {w : World} {g q : Nat} {u v : Value} (h : w.cell? ⟨g, q, none⟩ = some u) : (w.setCell ⟨g, q, none⟩ v).heap.size = w.heap.size := by simp
/-- Numbers in a row of the law's own. -/
def IO (w : World) (lo hi : Nat) (v : Value) (zs : List Int) : Prop := OB w lo hi 3 1 v zs.length (zs.map (Value.int .i64))
theorem IO.inside {w w' : World} {lo hi lo' hi' : Nat} {v : Value} {zs : List Int} (h : IO w lo hi v zs) (hI : Inside lo' hi' w w') (hd : hi ≤ lo' ∨ hi' ≤ lo) : IO w' lo hi v zs := OB.inside h hI hd
theorem IO.kept {w w' : World} {lo hi : Nat} {v : Value} {zs : List Int} (h : IO w lo hi v zs) (hb : Below w.heap.size w w') : IO w' lo hi v zs := OB.kept h hb
theorem IO.at {w : World} {lo hi : Nat} {v : Value} {zs : List Int} (h : IO w lo hi v zs) : IntsAt w lo v zs := OB.own h
/-- What a copy leaves: the list, in a row of its own. -/
def ToFlOwn (ls : List Fl) (w : World) (e : Ending) (w' : World) : Prop := ∃ g, e = .returned (.slice (some ⟨g, 0, none⟩) ls.length ls.length) ∧ FO w' g (g + 1) (.slice (some ⟨g, 0, none⟩) ls.length ls.length) ls ∧ w.heap.size ≤ g ∧ g < w'.heap.size ∧ Below w.heap.size w w'
end Go.Proofs.YtpihopmgckdigaaDoor
