/-
  Rows that lie in blocks of the law's own; files and numbers in them; the exact laws' functions that copy, mark and look at them.
-/
import Derived.Test.YtkekghdkbbjhpaaGreatDoorLb
import Derived.Test.YtkekghdkbbjhpaaGreatDoorRa
import Derived.Test.YtkekghdkbbjhpaaGreatDoorZo
import Derived.Test.YtkekghdkbbjhpaaGreatDoorJz
import Derived.BigQuiet
import Derived.Deep.RegionHeld3
import Derived.Deep.DeepCutAuto
namespace Go.Proofs.YtkekghdkbbjhpaaGreatDoor
open Go.RowKit
set_option linter.unusedVariables false
set_option linter.unusedSimpArgs false

theorem inside_below {lo hi : Nat} {w w' : World} (hb : Below w.heap.size w w') : Inside lo hi w w' := ⟨hb.os, hb.tape, hb.output, hb.size, fun b h _ => hb.block b h⟩
/-- A row of the law's own, in a block from lo to hi. -/
structure OB (w : World) (lo hi : Nat) (e : TypeId) (sz : Nat) (v : Value) (n : Nat) (xs : List Value) : Prop where
  own : w.ownsRow lo e sz v n xs
  up : ∀ g, v.ownBlock = some g → g < hi
theorem OB.inside {w w' : World} {lo hi lo' hi' sz n : Nat} {e : TypeId} {v : Value} {xs : List Value} (h : OB w lo hi e sz v n xs) (hI : Inside lo' hi' w w') (hd : hi ≤ lo' ∨ hi' ≤ lo) : OB w' lo hi e sz v n xs := by
  obtain ⟨⟨hl, h | ⟨g, cap, cur, rfl, hb', hg, h1, h2, h3, h4⟩⟩, hu⟩ := h
  · exact ⟨⟨hl, .inl h⟩, hu⟩
  · have h5 := hu g rfl
    exact ⟨⟨hl, .inr ⟨g, cap, cur, rfl, hb', (hI.block g (Array.getElem?_eq_some_iff.1 hg).1 (by omega)).trans hg, h1, h2, h3, h4⟩⟩, hu⟩
theorem OB.kept {w w' : World} {lo hi sz n : Nat} {e : TypeId} {v : Value} {xs : List Value} (h : OB w lo hi e sz v n xs) (hb : Below w.heap.size w w') : OB w' lo hi e sz v n xs :=
  ⟨own_below h.own hb, h.up⟩
theorem OB.slice {w : World} {lo hi sz n : Nat} {e : TypeId} {v : Value} {xs : List Value} (h : OB w lo hi e sz v n xs) : ∃ a cap, v = .slice a n cap ∧ n ≤ maxLen := by
  obtain ⟨⟨hl, ⟨rfl, rfl⟩ | ⟨g, cap, cur, rfl, hb', hg, h1, h2, h3, h4⟩⟩, hu⟩ := h
  · exact ⟨none, 0, rfl, Nat.zero_le _⟩
  · exact ⟨_, cap, rfl, by omega⟩
/-- The block, where there is an element. -/
theorem OB.blk {w : World} {lo hi sz n : Nat} {e : TypeId} {v : Value} {xs : List Value} (h : OB w lo hi e sz v n xs) (hn : 0 < n) : ∃ g cap, v = .slice (some ⟨g, 0, none⟩) n cap ∧ lo ≤ g ∧ g < hi ∧ g < w.heap.size := by
  obtain ⟨⟨hl, ⟨rfl, rfl⟩ | ⟨g, cap, cur, rfl, hb', hg, h1, h2, h3, h4⟩⟩, hu⟩ := h
  · omega
  · exact ⟨g, cap, rfl, hb', hu g rfl, (Array.getElem?_eq_some_iff.1 hg).1⟩
theorem OB.store {w : World} {lo hi sz n g cap : Nat} {e : TypeId} {xs : List Value} (h : OB w lo hi e sz (.slice (some ⟨g, 0, none⟩) n cap) n xs) (j : Nat) (u : Value) : OB (w.setCell ⟨g, j, none⟩ u) lo hi e sz (.slice (some ⟨g, 0, none⟩) n cap) n (xs.set j u) :=
  ⟨(h.own.stored j u).1, h.up⟩
/-- The cells of a list of files. -/
def cellsF (ls : List Fl) : List Value := ls.flatMap fun x => [.string x.n, .string x.t]
theorem cellsF_len : ∀ ls : List Fl, (cellsF ls).length = ls.length * 2
  | [] => rfl
  | p :: r => by
    have := cellsF_len r
    have e : cellsF (p :: r) = [.string p.n, .string p.t] ++ cellsF r := rfl
    rw [e, List.length_append, this]; simp; omega
theorem cellsF_at : ∀ (ls : List Fl) (i : Nat), i < ls.length → (cellsF ls)[i * 2]? = some (.string (ls.getD i Fl.dummy).n) ∧ (cellsF ls)[i * 2 + 1]? = some (.string (ls.getD i Fl.dummy).t)
  | p :: r, i, hi => by
    have e : cellsF (p :: r) = [.string p.n, .string p.t] ++ cellsF r := rfl
    rw [e]
    cases i with
    | zero => simp [List.getD]
    | succ i =>
      have h := cellsF_at r i (by simpa using hi)
      have e0 : ([Value.string p.n, .string p.t] : List Value).length = 2 := rfl
      rw [List.getElem?_append_right (by rw [e0]; omega), List.getElem?_append_right (by rw [e0]; omega), e0, show (i + 1) * 2 - 2 = i * 2 by omega, show (i + 1) * 2 + 1 - 2 = i * 2 + 1 by omega]
      simpa [List.getD] using h
theorem cellsF_of {ls : List Fl} {xs : List Value} (hl : xs.length = ls.length * 2) (h0 : ∀ i, i < ls.length → xs[i * 2]? = some (.string (ls.getD i Fl.dummy).n)) (h1 : ∀ i, i < ls.length → xs[i * 2 + 1]? = some (.string (ls.getD i Fl.dummy).t)) : xs = cellsF ls := by
  apply List.ext_getElem?
  intro j
  by_cases hj : j < ls.length * 2
  · have ⟨c0, c1⟩ := cellsF_at ls (j / 2) (by omega)
    rcases Nat.mod_two_eq_zero_or_one j with h | h
    · have e : j = j / 2 * 2 := by omega
      rw [e, h0 _ (by omega), c0]
    · have e : j = j / 2 * 2 + 1 := by omega
      rw [e, h1 _ (by omega), c1]
  · rw [List.getElem?_eq_none (by omega), List.getElem?_eq_none (by rw [cellsF_len]; omega)]
/-- Files in a row of the law's own. -/
def FO (w : World) (lo hi : Nat) (v : Value) (ls : List Fl) : Prop := OB w lo hi 62 2 v ls.length (cellsF ls)
theorem FO.inside {w w' : World} {lo hi lo' hi' : Nat} {v : Value} {ls : List Fl} (h : FO w lo hi v ls) (hI : Inside lo' hi' w w') (hd : hi ≤ lo' ∨ hi' ≤ lo) : FO w' lo hi v ls := OB.inside h hI hd
theorem FO.kept {w w' : World} {lo hi : Nat} {v : Value} {ls : List Fl} (h : FO w lo hi v ls) (hb : Below w.heap.size w w') : FO w' lo hi v ls := OB.kept h hb
theorem FO.at {w : World} {lo hi : Nat} {v : Value} {ls : List Fl} (h : FO w lo hi v ls) : FsAt w ls v := by
  obtain ⟨a, cap, rfl, hm⟩ := OB.slice h
  unfold maxLen at hm
  rcases Nat.eq_zero_or_pos ls.length with h0 | h0
  · have : ls = [] := List.length_eq_zero_iff.1 h0
    subst this
    exact .bare a cap
  · obtain ⟨g, cap2, e, _, _, hg⟩ := OB.blk h h0
    injection e with e1 e2 e3
    subst e1 e3
    have hc : ∀ q, q < ls.length * 2 → w.cell? ⟨g, q, none⟩ = (cellsF ls)[q]? := fun q hq => h.own.cellAt q hq
    refine .row ls g 0 cap hg (by omega) (fun i hi => ⟨?_, ?_⟩)
    · rw [Nat.zero_add, hc _ (by omega)]; exact (cellsF_at ls i hi).1
    · rw [Nat.zero_add, hc _ (by omega)]; exact (cellsF_at ls i hi).2
/-- Marks from K on. -/
def mkF (K L : Nat) : List Fl := (List.range L).map fun i => ⟨mkT (K + 2 * i), mkT (K + 2 * i + 1)⟩
theorem mkF_len (K L : Nat) : (mkF K L).length = L := by unfold mkF; simp
theorem mkF_at (K : Nat) {L i : Nat} (h : i < L) : (mkF K L).getD i Fl.dummy = ⟨mkT (K + 2 * i), mkT (K + 2 * i + 1)⟩ := by unfold mkF; simp [List.getD, h]
/-- A row that is being marked. -/
structure FMk (K L lo hi : Nat) (v : Value) (j : Nat) (w : World) (xs : List Value) : Prop where
  ob : OB w lo hi 62 2 v L xs
  x0 : ∀ i, i < j → xs[i * 2]? = some (.string (mkT (K + 2 * i)))
  x1 : ∀ i, i < j → xs[i * 2 + 1]? = some (.string (mkT (K + 2 * i + 1)))
theorem FMk.step {K L lo hi g cap j : Nat} {w w1 w3 : World} {xs : List Value} (f : FMk K L lo hi (.slice (some ⟨g, 0, none⟩) L cap) j w xs) (hj : j < L) (hb : Below w.heap.size w w1)
    (hb2 : Below (w1.setCell ⟨g, j * 2, none⟩ (.string (mkT (K + 2 * j)))).heap.size (w1.setCell ⟨g, j * 2, none⟩ (.string (mkT (K + 2 * j)))) w3) :
    FMk K L lo hi (.slice (some ⟨g, 0, none⟩) L cap) (j + 1) (w3.setCell ⟨g, j * 2 + 1, none⟩ (.string (mkT (K + 2 * j + 1)))) ((xs.set (j * 2) (.string (mkT (K + 2 * j)))).set (j * 2 + 1) (.string (mkT (K + 2 * j + 1)))) := by
  have h1 := ((((f.ob.kept hb).store (j * 2) (.string (mkT (K + 2 * j)))).kept hb2).store (j * 2 + 1) (.string (mkT (K + 2 * j + 1))))
  have hl := f.ob.own.1
  refine ⟨h1, ?_, ?_⟩
  · intro i hi
    by_cases hij : i = j
    · subst hij
      rw [List.getElem?_set_ne (by omega), List.getElem?_set_self (by omega)]
    · rw [List.getElem?_set_ne (by omega), List.getElem?_set_ne (by omega)]
      exact f.x0 i (by omega)
  · intro i hi
    by_cases hij : i = j
    · subst hij
      rw [List.getElem?_set_self (by rw [List.length_set]; omega)]
    · rw [List.getElem?_set_ne (by omega), List.getElem?_set_ne (by omega)]
      exact f.x1 i (by omega)
theorem FMk.done {K L lo hi : Nat} {v : Value} {w : World} {xs : List Value} (f : FMk K L lo hi v L w xs) : FO w lo hi v (mkF K L) := by
  have e : xs = cellsF (mkF K L) := cellsF_of (by rw [mkF_len]; exact f.ob.own.1) (fun i hi => by rw [mkF_len] at hi; rw [mkF_at K hi]; exact f.x0 i hi) (fun i hi => by rw [mkF_len] at hi; rw [mkF_at K hi]; exact f.x1 i hi)
  unfold FO
  rw [mkF_len, ← e]
  exact f.ob
theorem FMk.cells {K L lo hi g cap j : Nat} {w : World} {xs : List Value} (f : FMk K L lo hi (.slice (some ⟨g, 0, none⟩) L cap) j w xs) {q : Nat} (hq : q < L * 2) : (∃ u, w.cell? ⟨g, q, none⟩ = some u) ∧ w.frozen? ⟨g, q, none⟩ = false := by
  refine ⟨?_, f.ob.own.frozenAt q⟩
  have h := f.ob.own.cellAt q hq
  rw [List.getElem?_eq_getElem (by rw [f.ob.own.1]; omega)] at h
  exact ⟨_, h⟩
theorem inside_step {lo hi g q1 q2 : Nat} {w0 w w1 w3 : World} {u1 u2 : Value} (h : Inside lo hi w0 w) (hb : Below w.heap.size w w1) (h1 : lo ≤ g) (h2 : g < hi) (hb2 : Below (w1.setCell ⟨g, q1, none⟩ u1).heap.size (w1.setCell ⟨g, q1, none⟩ u1) w3) :
    Inside lo hi w0 (w3.setCell ⟨g, q2, none⟩ u2) :=
  (((h.trans (inside_below hb)).trans (Inside.set w1 q1 u1 h1 h2)).trans (inside_below hb2)).trans (Inside.set w3 q2 u2 h1 h2)
theorem set_cell {w : World} {g q : Nat} {u v : Value} (h : w.cell? ⟨g, q, none⟩ = some u) : (w.setCell ⟨g, q, none⟩ v).heap.size = w.heap.size := by simp
set_option maxRecDepth 100000 in
set_option maxHeartbeats 2000000 in
theorem markFileS_any (lo hi K : Nat) (ls : List Fl) (hl : ls.length ≤ 2000000) (hK : 0 < K ∧ K ≤ 100000) (v : Value) (w : World) (h : FO w lo hi v ls) :
    Calls Tryz.prog 23 #[v, .int .i64 K] w fun e w' => e = .returned (.int .i64 ((K + 2 * ls.length : Nat) : Int)) ∧ FO w' lo hi v (mkF K ls.length) ∧ Inside lo hi w w' := by
  obtain ⟨hK0, hK1⟩ := hK
  have H := Lib.hid h
  obtain ⟨a, cap, rfl, _⟩ := OB.slice h
  clear h
  obtain ⟨L, hL⟩ : ∃ L, ls.length = L := ⟨_, rfl⟩
  have HL := Lib.hid hL
  rw [hL] at hl ⊢
  clear hL
  go_enter Tryz.func23, Tryz.ntmps23
  go_wp2
  go_loopw [1, 5] (fun m i wr => ∃ (k : Nat) (xs : List Value), k ≤ L ∧ i = .int .i64 k ∧ m = .int .i64 ((K + 2 * k : Nat) : Int) ∧ Hid (FMk K L lo hi (.slice a L cap) k wr xs) ∧ Hid (Inside lo hi w wr)) (fun _ i _ => L - (intOf i).toNat)
  case atStart => exact ⟨0, cellsF ls, Nat.zero_le _, rfl, rfl, Lib.hid ⟨by have := H.out; unfold FO at this; rw [HL.out] at this; exact this, fun i hi => absurd hi (Nat.not_lt_zero _), fun i hi => absurd hi (Nat.not_lt_zero _)⟩, Lib.hid (Inside.refl _ _ _)⟩
  case round =>
    obtain ⟨k, xs, hk, rfl, rfl, hf, hI⟩ := hrel
    by_cases hlt : k < L
    · obtain ⟨b, cap2, ex, n1, n2, l1⟩ := hf.out.ob.blk (by omega)
      have f1 : a = some ⟨b, 0, none⟩ := by injection ex
      subst f1
      have hki : (k : Int) < (L : Int) := by omega
      have HLT := Lib.hid hlt
      clear ex
      go_wp2_with fail
      go_at_call 62
      refine (markText_any (K + 2 * k) (by omega) (by omega) _).mono ?_
      rintro e w1 ⟨rfl, hb1⟩
      have HB1 := Lib.hid hb1
      have hf1 : FMk K L lo hi (.slice (some ⟨b, 0, none⟩) L cap) k w1 xs := ⟨hf.out.ob.kept hb1, hf.out.x0, hf.out.x1⟩
      obtain ⟨⟨q0, c0⟩, z0⟩ := hf1.cells (q := k * 2) (by omega)
      have l2 : b < w1.heap.size := Nat.lt_of_lt_of_le l1 hb1.size
      obtain ⟨⟨q1, c1⟩, z1⟩ := hf1.cells (q := k * 2 + 1) (by omega)
      clear hf1 hb1
      go_wp2_with fail
      go_at_call 62
      refine (markText_any (K + 2 * k + 1) (by omega) (by omega) _).mono ?_
      rintro e w3 ⟨rfl, hb3⟩
      have HB3 := Lib.hid hb3
      have c3 : w3.cell? ⟨b, k * 2 + 1, none⟩ = some q1 := (hb3.cell (p := ⟨b, k * 2 + 1, none⟩) (by simpa using l2)).trans ((World.cell?_setCell_other _ _ _ _ (fun e => by injection e with _ e2 _; omega)).trans c1)
      have z3 : w3.frozen? ⟨b, k * 2 + 1, none⟩ = false := (hb3.frozen (p := ⟨b, k * 2 + 1, none⟩) (by simpa using l2)).trans (by rw [World.frozen?_setCell]; exact z1)
      clear hb3 c0 c1 z0 z1
      go_wp2_with fail
      have HS := hf.out.step HLT.out HB1.out HB3.out
      refine ⟨⟨k + 1, _, by omega, by go_num, ?_, Lib.hid HS, Lib.hid (inside_step hI.out HB1.out n1 n2 HB3.out)⟩, by simp [intOf]; omega⟩
      go_num
    · have hki : ¬ (k : Int) < (L : Int) := by omega
      have hkl : k = L := by omega
      subst hkl
      clear hlt
      go_wp2_with fail
      go_ret
      exact ⟨rfl, hf.out.done, hI.out⟩

set_option maxRecDepth 100000 in
set_option maxHeartbeats 2000000 in
theorem heldFileS_any (K L : Nat) (hl : L ≤ 400000) (hK : 0 < K ∧ K ≤ 100000) (v : Value) (w : World) (h : FsAt w (mkF K L) v) :
    Calls Tryz.prog 25 #[v, .int .i64 K] w fun e w' => e = .returned (.int .i64 ((K + 2 * L : Nat) : Int)) ∧ Below w.heap.size w w' := by
  obtain ⟨hK0, hK1⟩ := hK
  have H := Lib.hid h
  obtain ⟨a, cap, rfl, _⟩ := h.slice
  clear h
  rw [mkF_len] at H ⊢
  go_enter Tryz.func25, Tryz.ntmps25
  go_wp2
  go_loopw [1, 5] (fun m i wr => ∃ (k : Nat), k ≤ L ∧ i = .int .i64 k ∧ m = .int .i64 ((K + 2 * k : Nat) : Int) ∧ Hid (Below w.heap.size w wr)) (fun _ i _ => L - (intOf i).toNat)
  case atStart => exact ⟨0, Nat.zero_le _, rfl, rfl, Lib.hid (Below.refl _ _)⟩
  case round =>
    obtain ⟨k, hk, rfl, rfl, HB⟩ := hrel
    by_cases hlt : k < L
    · obtain ⟨b, o, cap2, ex, l1, ⟨x0, x1⟩⟩ := (H.out.kept HB.out).kid k (by rw [mkF_len]; exact hlt)
      have f1 : a = some ⟨b, o, none⟩ := by injection ex
      subst f1
      rw [mkF_at K hlt] at x0 x1
      simp only at x0 x1
      have hki : (k : Int) < (L : Int) := by omega
      clear ex
      go_wp2_with fail
      go_region_held3 (fun w' => w'.cell? ⟨b, o + k * 2, none⟩ = some (.string (mkT (K + 2 * k))) ∧ w'.cell? ⟨b, o + k * 2 + 1, none⟩ = some (.string (mkT (K + 2 * k + 1)))) (go_keep)
        (first | (go_at_call 62; refine (markText_any (K + 2 * k) (by omega) (by omega) _).mono ?_; rintro e w5 ⟨rfl, hb5⟩; have HB5 := Lib.hid (HB.out.drew.trans (hb5.mono (by exact HB.out.size))); have y0 := (hb5.cell (p := ⟨b, o + k * 2, none⟩) l1).trans x0; have y1 := (hb5.cell (p := ⟨b, o + k * 2 + 1, none⟩) l1).trans x1; have l5 : b < w5.heap.size := Nat.lt_of_lt_of_le l1 hb5.size; clear hb5))
      all_goals clear x0 x1
      all_goals go_wp2_with fail
      all_goals
        go_region_held3 (fun w' => w'.cell? ⟨b, o + k * 2, none⟩ = some (.string (mkT (K + 2 * k))) ∧ w'.cell? ⟨b, o + k * 2 + 1, none⟩ = some (.string (mkT (K + 2 * k + 1)))) (go_keep)
          (first | (go_at_call 62; refine (markText_any (K + 2 * k + 1) (by omega) (by omega) _).mono ?_; rintro e w6 ⟨rfl, hb6⟩; have HB6 := Lib.hid (HB5.out.drew.trans (hb6.mono (by exact HB5.out.size))); have u0 := (hb6.cell (p := ⟨b, o + k * 2, none⟩) l5).trans y0; have u1 := (hb6.cell (p := ⟨b, o + k * 2 + 1, none⟩) l5).trans y1; clear hb6))
      all_goals go_wp2_with fail
      all_goals exact ⟨⟨k + 1, by omega, by go_num, by go_num, HB6⟩, by simp [intOf]; omega⟩
    · have hki : ¬ (k : Int) < (L : Int) := by omega
      have hkl : k = L := by omega
      subst hkl
      clear hlt
      go_wp2_with fail
      go_ret
      exact ⟨rfl, HB.out⟩

/-- Numbers in a row of the law's own. -/
def IO (w : World) (lo hi : Nat) (v : Value) (zs : List Int) : Prop := OB w lo hi 3 1 v zs.length (zs.map (Value.int .i64))
theorem IO.inside {w w' : World} {lo hi lo' hi' : Nat} {v : Value} {zs : List Int} (h : IO w lo hi v zs) (hI : Inside lo' hi' w w') (hd : hi ≤ lo' ∨ hi' ≤ lo) : IO w' lo hi v zs := OB.inside h hI hd
theorem IO.kept {w w' : World} {lo hi : Nat} {v : Value} {zs : List Int} (h : IO w lo hi v zs) (hb : Below w.heap.size w w') : IO w' lo hi v zs := OB.kept h hb
theorem IO.at {w : World} {lo hi : Nat} {v : Value} {zs : List Int} (h : IO w lo hi v zs) : IntsAt w lo v zs := OB.own h
set_option maxRecDepth 100000 in
set_option maxHeartbeats 1000000 in
theorem markIntS_in (lo hi K : Nat) (l : List Int) (hl : l.length ≤ 1000000) (hK : K ≤ 1000000) (v : Value) (w : World) (h : IO w lo hi v l) :
    Calls Tryz.prog 49 #[v, .int .i64 K] w fun e w' => e = .returned (.int .i64 ((K + l.length : Nat) : Int)) ∧ IO w' lo hi v (marksI K l.length) ∧ Inside lo hi w w' := by
  have H := Lib.hid h
  obtain ⟨a, c, rfl, _⟩ := OB.slice h
  clear h
  obtain ⟨L, hL⟩ : ∃ L, l.length = L := ⟨_, rfl⟩
  have HL := Lib.hid hL
  rw [hL] at hl ⊢
  clear hL
  go_enter Tryz.func49, Tryz.ntmps49
  go_wp2
  go_loopw [1, 5] (fun m i wr => ∃ (k : Nat) (l' : List Int), k ≤ L ∧ i = .int .i64 k ∧ m = .int .i64 ((K + k : Nat) : Int) ∧ l'.length = L ∧ Hid (∀ i, i < k → l'.getD i 0 = ((K + i : Nat) : Int)) ∧ Hid (OB wr lo hi 3 1 (.slice a L c) L (l'.map (Value.int .i64))) ∧ Hid (Inside lo hi w wr)) (fun _ i _ => L - (intOf i).toNat)
  case atStart => exact ⟨0, l, Nat.zero_le _, rfl, rfl, HL.out, Lib.hid (fun i hi => absurd hi (Nat.not_lt_zero _)), Lib.hid (by have := H.out; unfold IO at this; rw [HL.out] at this; exact this), Lib.hid (Inside.refl _ _ _)⟩
  case round =>
    obtain ⟨k, l', hk, rfl, rfl, hl', hm, hown, hI⟩ := hrel
    have HLL := Lib.hid hl'
    by_cases hlt : k < L
    · obtain ⟨b1, cap2, e1, n1, n2, l1⟩ := hown.out.blk (by omega)
      have f1 : a = some ⟨b1, 0, none⟩ := by injection e1
      subst f1
      have hki : (k : Int) < (L : Int) := by omega
      have hfz := hown.out.own.frozenAt k
      have x1 : wr.cell? ⟨b1, k, none⟩ = some (.int .i64 (l'.getD k 0)) := by
        rw [hown.out.own.cellAt k (by omega)]
        simp [List.getD, hl', hlt]
      have H3 := Lib.hid (hown.out.store k (.int .i64 ((K + k : Nat) : Int)))
      clear e1 hl'
      go_wp2_with fail
      refine ⟨⟨k + 1, l'.set k ((K + k : Nat) : Int), by omega, by go_num, by push_cast; rw [Int.add_assoc], by rw [List.length_set]; exact HLL.out, Lib.hid ?_, Lib.hid ?_, Lib.hid (hI.out.trans (Inside.set wr k _ n1 n2))⟩, by simp [intOf]; omega⟩
      · intro i hi
        by_cases hik : i = k
        · subst hik; simp [List.getD, HLL.out, hlt]
        · have := hm.out i (by omega)
          simp only [List.getD] at this ⊢
          rw [List.getElem?_set_ne (by omega)]
          exact this
      · rw [List.map_set]
        have h4 := H3.out
        push_cast at h4 ⊢
        exact h4
    · have hki : ¬ (k : Int) < (L : Int) := by omega
      have hkl : k = L := by omega
      clear hlt hl'
      subst hkl
      go_wp2_with fail
      go_ret
      refine ⟨rfl, ?_, hI.out⟩
      have e : l' = marksI K k := by
        apply List.ext_getElem (by rw [HLL.out, marksI_len])
        intro i h1 h3
        have := hm.out i (by rw [HLL.out] at h1; omega)
        simpa [List.getD, h1, marksI] using this
      unfold IO
      rw [marksI_len, ← e]; exact hown.out
/-- What a copy leaves: the list, in a row of its own. -/
def ToFlOwn (ls : List Fl) (w : World) (e : Ending) (w' : World) : Prop := ∃ g, e = .returned (.slice (some ⟨g, 0, none⟩) ls.length ls.length) ∧ FO w' g (g + 1) (.slice (some ⟨g, 0, none⟩) ls.length ls.length) ls ∧ w.heap.size ≤ g ∧ g < w'.heap.size ∧ Below w.heap.size w w'
set_option maxRecDepth 100000 in
set_option maxHeartbeats 4000000 in
theorem toFileS_own (ls : List Fl) (v : Value) (w : World) (hl : (ls.length : Int) ≤ 1048576) (hx : FsAt w ls v) :
    Calls Tryz.prog 18 #[v] w (ToFlOwn ls w) := by
  have HX := Lib.hid hx
  obtain ⟨a, cap, rfl, hlen⟩ := hx.slice
  obtain ⟨L, hL⟩ : ∃ L, ls.length = L := ⟨_, rfl⟩
  have HL := Lib.hid hL
  rw [hL] at hlen hl ⊢
  have hsz : L ≤ 1048576 := by omega
  obtain ⟨i0, hi, hz0, hz1, hz2⟩ := info_parts Tryz.infoFile
  clear hx hL
  go_enter Tryz.func18, Tryz.ntmps18
  go_wp2_with (first | (at_make; refine wpList_make_full _ rfl _ _ 31 rfl w.heap.size 62 i0 (.agg #[.string ⟨#[]⟩, .string ⟨#[]⟩]) 2 Tryz.underlying31 hi hz0 hz1 _ _ _ _ L rfl rfl rfl rfl (by rw [hz2]; omega) (by unfold maxLen; omega) (Nat.le_refl _) ?_; intro w0 hown0 hgrow0))
  have hb0 : Below w.heap.size w w0 := (Below.refl _ _).grown hgrow0 (Nat.le_refl _) (fun q hq => by cases hq)
  go_loopw [4] (fun i wr => ∃ (j : Nat) (xs : List Value), j ≤ L ∧ i = .int .i64 j ∧ Hid (FFill ls w.heap.size j wr xs) ∧ Below w.heap.size w wr) (fun i _ => L - (intOf i).toNat)
  case atStart =>
    obtain ⟨xs0, hown1⟩ : ∃ xs, w0.ownsRow w.heap.size 62 2 (.slice (some ⟨w.heap.size, 0, none⟩) L L) L xs := ⟨_, hown0⟩
    refine ⟨0, xs0, Nat.zero_le _, rfl, Lib.hid ⟨?_, ?_, ?_⟩, hb0⟩
    · rw [HL.out]; exact hown1
    all_goals (intros; omega)
  case round =>
    obtain ⟨j, xs, hj, rfl, hfill, hB⟩ := hrel
    have HB := Lib.hid hB
    by_cases hlt : j < L
    · have hji : (j : Int) < (L : Int) := by omega
      obtain ⟨b, o, cap2, ex, bl, ⟨y0, y1⟩⟩ := (HX.out.kept hB).kid j (by rw [HL.out]; exact hlt)
      have ex1 : a = some ⟨b, o, none⟩ := by injection ex
      subst ex1
      have hjt : Hid (j < ls.length) := Lib.hid (by rw [HL.out]; exact hlt)
      have hBw := hB.size
      clear ex hB hown0 hgrow0 hb0
      go_wp2_with fail
      go_at_call 56
      refine (toFile_any _ _ _).mono ?_
      rintro e w2 ⟨rfl, hb2⟩
      obtain ⟨xs', hstep⟩ := hfill.out.step hjt.out hb2
      have HSTEP := Lib.hid hstep
      have hf2 := hfill.out.below hb2
      have hln := own_len hf2.own
      have hlt2 := own_block hf2.own
      have hq0 : j * 2 < xs.length := by rw [hln]; have := hjt.out; omega
      have hq1 : j * 2 + 1 < xs.length := by rw [hln]; have := hjt.out; omega
      have c0 := (hf2.own.cellAt (j * 2) (by rw [← hln]; exact hq0)).trans (List.getElem?_eq_getElem hq0)
      have c1 := (hf2.own.cellAt (j * 2 + 1) (by rw [← hln]; exact hq1)).trans (List.getElem?_eq_getElem hq1)
      have f0 := hf2.own.frozenAt (j * 2)
      have f1 := hf2.own.frozenAt (j * 2 + 1)
      have HB2 := Lib.hid (HB.out.trans (hb2.mono hBw))
      generalize xs[j * 2] = q0 at c0
      generalize xs[j * 2 + 1] = q1 at c1
      clear hstep hf2 hln hq0 hq1 hb2 hlt2 hfill
      go_wp2_with fail
      exact ⟨⟨j + 1, xs', by omega, by go_num, HSTEP, (HB2.out.setCell (p := ⟨w.heap.size, j * 2, none⟩) (Nat.le_refl _) _).setCell (p := ⟨w.heap.size, j * 2 + 1, none⟩) (Nat.le_refl _) _⟩, by simp [intOf]; omega⟩
    · have hji : ¬ (j : Int) < (L : Int) := by omega
      have hjl : j = L := by omega
      clear hB hlt hown0 hgrow0 hb0
      go_wp2_with fail
      go_ret
      refine ⟨w.heap.size, by rw [HL.out]; rfl, ?_, Nat.le_refl _, ?_, HB.out⟩
      · have h1 := hfill.out
        rw [hjl, ← HL.out] at h1
        have h2 := h1.own
        have e := cellsF_of (own_len h2) h1.x0 h1.x1
        rw [e] at h2
        unfold FO
        exact ⟨h2, fun g hg => by simp [Value.ownBlock] at hg; omega⟩
      · have h1 := hfill.out
        have := (own_block h1.own).2
        omega

end Go.Proofs.YtkekghdkbbjhpaaGreatDoor
