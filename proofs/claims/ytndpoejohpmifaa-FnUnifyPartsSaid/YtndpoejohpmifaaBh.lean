/-
  TypeSame: the loop.
-/
import Derived.Test.YtndpoejohpmifaaBe
import Derived.Test.YtndpoejohpmifaaBg
import Derived.Test.YtndpoejohpmifaaZh
import Derived.Test.YtndpoejohpmifaaYb
namespace Go.Proofs.Ytndpoejohpmifaa
open Go.RowKit
set_option linter.unusedVariables false
set_option linter.unusedSimpArgs false

/-- Where the loop of TypeSame stands: L is what lies in the row cv. -/
structure SL (w : World) (C bm : Nat) (ra rb : Ref) (N : Nat) (wr : World) (cv : Value) (L : List (Ref × Ref)) (rep : KV → KV) (dp : KV → Nat) (M : List (KV × KV)) : Prop where
  td : Td wr (C + 1) cv L
  ug : UG wr bm M
  uf : UF M rep dp
  inv : Inv w rep ra rb L
  bl : Below w.heap.size w wr
  cm : wr.cell? ⟨C, 0, none⟩ = some (.map (some bm))
  sz : C + 1 ≤ wr.heap.size
  wk : work L ≤ N
theorem SL.kept {w : World} {C bm : Nat} {ra rb : Ref} {N : Nat} {wr wx : World} {cv : Value} {L : List (Ref × Ref)} {rep : KV → KV} {dp : KV → Nat} {M : List (KV × KV)} (h : SL w C bm ra rb N wr cv L rep dp M) (hb : Below wr.heap.size wr wx) : SL w C bm ra rb N wx cv L rep dp M :=
  ⟨h.td.kept hb, h.ug.kept hb, h.uf, h.inv, h.bl.trans (hb.mono h.bl.size), (hb.cell (p := ⟨C, 0, none⟩) (by have := h.sz; show C < _; omega)).trans h.cm, Nat.le_trans h.sz hb.size, h.wk⟩
theorem SL.skip {w : World} {C bm : Nat} {ra rb : Ref} {N : Nat} {wr : World} {g cap : Nat} {R : List (Ref × Ref)} {u v : Ref} {rep : KV → KV} {dp : KV → Nat} {M : List (KV × KV)} (h : SL w C bm ra rb N wr (.slice (some ⟨g, 0, none⟩) (R.length + 1) cap) (R ++ [(u, v)]) rep dp M) (hb : Base rep u v) : SL w C bm ra rb N wr (.slice (some ⟨g, 0, none⟩) R.length cap) R rep dp M :=
  ⟨h.td.pop, h.ug, h.uf, h.inv.skip hb, h.bl, h.cm, h.sz, by have := h.wk; rw [work_append] at this; omega⟩
theorem TBox.aside {w w' : World} {B : Nat} {x y z : Value} (h : TBox w B x y z) (hs : w.heap.size ≤ w'.heap.size) (e : w'.heap[B]? = w.heap[B]?) : TBox w' B x y z := ⟨(cellEq e).trans h.c0, (cellEq e).trans h.c1, (cellEq e).trans h.c2, Nat.lt_of_lt_of_le h.sz hs⟩
theorem SL.aside {w : World} {C bm : Nat} {ra rb : Ref} {N : Nat} {wr wx : World} {cv : Value} {L : List (Ref × Ref)} {rep : KV → KV} {dp : KV → Nat} {M M' : List (KV × KV)} (h : SL w C bm ra rb N wr cv L rep dp M) (hb : Inside bm (bm + 1) wr wx) (h1 : w.heap.size ≤ bm) (h2 : bm < C) (hu : UG wx bm M') (hf : UF M' rep dp) : SL w C bm ra rb N wx cv L rep dp M' :=
  ⟨h.td.aside h.ug.m hb, hu, hf, h.inv, hb.below h1 h.bl h.bl.size, (cellEq (hb.block C (by have := h.sz; omega) (.inr (by omega)))).trans h.cm, Nat.le_trans h.sz hb.size, h.wk⟩
theorem TyOk.row_of {w : World} {t : Ty} {a : Option Addr} {n c : Nat} (h : TyOk w t (.slice a n c)) (h0 : 0 < t.ks.length) : ∃ b o, a = some ⟨b, o, none⟩ ∧ Row w b := by
  cases h with
  | bare k n a cap => exact absurd h0 (Nat.lt_irrefl _)
  | row k n ks b o cap vs hr hl h0 h1 h2 h3 => exact ⟨b, o, rfl, hr⟩
/-- Where the inner loop of TypeSame stands. -/
structure SN (w : World) (C bm X Y : Nat) (u v : Ref) (wr : World) (cv : Value) (L : List (Ref × Ref)) (rep : KV → KV) (dp : KV → Nat) (M : List (KV × KV)) : Prop where
  td : Td wr (C + 1) cv L
  ug : UG wr bm M
  uf : UF M rep dp
  bl : Below w.heap.size w wr
  cm : wr.cell? ⟨C, 0, none⟩ = some (.map (some bm))
  sz : C + 1 ≤ wr.heap.size
  tx : TBox wr X (.int .i64 u.1.k) (.int .i64 u.1.n) u.2
  ty : TBox wr Y (.int .i64 v.1.k) (.int .i64 v.1.n) v.2
  ow : ∀ g, cv.ownBlock = some g → g ≠ X ∧ g ≠ Y
theorem TyOk.cells {w : World} {t : Ty} {b o n c : Nat} (h : TyOk w t (.slice (some ⟨b, o, none⟩) n c)) (j : Nat) (hj : j < t.ks.length) :
    b < w.heap.size ∧ w.cell? ⟨b, o + j * 3, none⟩ = some (.int .i64 (t.ks.getD j Ty.dummy).k) ∧ w.cell? ⟨b, o + j * 3 + 1, none⟩ = some (.int .i64 (t.ks.getD j Ty.dummy).n) ∧ w.cell? ⟨b, o + j * 3 + 2, none⟩ = some (kidV w (.slice (some ⟨b, o, none⟩) n c) j) ∧ (kidV w (.slice (some ⟨b, o, none⟩) n c) j).oneCell' = true := by
  have hk : OkR w (kidR w (t, .slice (some ⟨b, o, none⟩) n c) j) := OkR.kid (r := (t, .slice (some ⟨b, o, none⟩) n c)) h hj
  have hk' : TyOk w (t.ks.getD j Ty.dummy) (kidV w (.slice (some ⟨b, o, none⟩) n c) j) := hk
  obtain ⟨a, cc, e, _⟩ := hk'.at.slice
  cases h with
  | bare k n a cap => exact absurd hj (Nat.not_lt_zero _)
  | row k n ks b o cap vs hr hl h0 h1 h2 h3 =>
    refine ⟨hr.lt, h0 j hj, h1 j hj, ?_, ?_⟩
    · rw [h2 j hj]; simp [kidV, h2 j hj]
    · rw [e]; simp [Value.oneCell']
theorem grow_old' {w2 w3 : World} {o : Obj} {row : Option Nat} (hg : (w2.alloc o).grownBy w3 row) {q : Nat} (h1 : q < w2.heap.size) (h2 : ∀ g, row = some g → q ≠ g) : w3.heap[q]? = w2.heap[q]? :=
  (hg.block q (by simp; omega) (fun e => h2 q e.symm rfl)).trans (((Below.refl w2.heap.size w2).alloc (Nat.le_refl _) o).block q h1)
theorem undrew {w w' : World} {r : Option Nat} (h : w.drew.grownBy w' r) : w.grownBy w' r := ⟨h.os, h.tape, h.output, h.size, h.block⟩
theorem SN.push {w : World} {C bm X Y : Nat} {u v : Ref} {wr w3 : World} {cv : Value} {L : List (Ref × Ref)} {rep : KV → KV} {dp : KV → Nat} {M : List (KV × KV)} (h : SN w C bm X Y u v wr cv L rep dp M) (hC : w.heap.size ≤ C) (hbm : bm < C) {p : Ref × Ref} {g cap : Nat} {o : Obj}
    (hown : w3.ownsRow (C + 1) 64 6 (.slice (some ⟨g, 0, none⟩) (L.length + 1) cap) (L.length + 1) (sixes L ++ six p)) (hg : (wr.alloc o).grownBy w3 cv.ownBlock) (hat : cv.ownBlock = some g ∨ g = wr.heap.size + 1) :
    SN w C bm X Y u v w3 (.slice (some ⟨g, 0, none⟩) (L.length + 1) cap) (L ++ [p]) rep dp M := by
  have hlow : ∀ q, cv.ownBlock = some q → C + 1 ≤ q ∧ q < wr.heap.size := fun q e => h.td.lt q e
  have hsz : wr.heap.size + 1 ≤ w3.heap.size := by have := hg.size; simp at this; omega
  have hold : ∀ q, q < wr.heap.size → (∀ g, cv.ownBlock = some g → q ≠ g) → w3.heap[q]? = wr.heap[q]? := fun q a b => grow_old' hg a b
  have hA := (Below.refl wr.heap.size wr).alloc (Nat.le_refl _) o
  refine ⟨Td.push hown, ?_, h.uf, ⟨hg.os.trans (hA.os.trans h.bl.os), hg.tape.trans (hA.tape.trans h.bl.tape), hg.output.trans (hA.output.trans h.bl.output), by have := h.bl.size; omega, fun q hq => (hold q (Nat.lt_of_lt_of_le hq h.bl.size) (fun g e => by have := hlow g e; omega)).trans (h.bl.block q hq)⟩, ?_, by have := h.sz; omega, h.tx.aside (by omega) (hold X h.tx.sz (fun g e => Ne.symm (h.ow g e).1)), h.ty.aside (by omega) (hold Y h.ty.sz (fun g e => Ne.symm (h.ow g e).2)), ?_⟩
  · obtain ⟨⟨es, ck, a1, a2, a3⟩, a4⟩ := h.ug
    have hgood : ∀ k, Good bm wr k → Good bm w3 k := fun k hk => hk.keep (hold k.1 hk.lt (fun g e => by have := hlow g e; have := hk.1; omega))
    exact ⟨⟨es, ck, (hold bm (Array.getElem?_eq_some_iff.1 a1).1 (fun g e => by have := hlow g e; omega)).trans a1, a2, fun p hp => hgood _ (a3 p hp)⟩, fun p hp => hgood _ (a4 p hp)⟩
  · exact (cellEq (hold C (by have := h.sz; omega) (fun g e => by have := hlow g e; omega))).trans h.cm
  · intro q e
    have e' : g = q := by simpa [Value.ownBlock] using e
    subst e'
    rcases hat with hat | hat
    · exact h.ow g hat
    · have := h.tx.sz; have := h.ty.sz; omega
theorem join_same (bm : Nat) (M0 : List (KV × KV)) (rep : KV → KV) (dp : KV → Nat) (a b : KV) (w : World) (hu : UG w bm M0) (hf : UF M0 rep dp) (ha : Good bm w a) (hb : Good bm w b) (he : rep a = rep b) :
    Calls Try.prog 46 #[.agg #[.map (some bm)], kv a, kv b] w fun e w' => Inside bm (bm + 1) w w' ∧ e = .returned (.bool false) ∧ ∃ M, UG w' bm M ∧ UF M rep dp := by
  refine (join_any bm M0 rep dp a b w hu hf ha hb).mono ?_
  rintro e w' ⟨hi, ⟨_, rfl, h⟩ | ⟨hne, _⟩⟩
  · exact ⟨hi, rfl, h⟩
  · exact absurd he hne
theorem join_new (bm : Nat) (M0 : List (KV × KV)) (rep : KV → KV) (dp : KV → Nat) (a b : KV) (w : World) (hu : UG w bm M0) (hf : UF M0 rep dp) (ha : Good bm w a) (hb : Good bm w b) (he : rep a ≠ rep b) :
    Calls Try.prog 46 #[.agg #[.map (some bm)], kv a, kv b] w fun e w' => Inside bm (bm + 1) w w' ∧ e = .returned (.bool true) ∧ ∃ M, UG w' bm M ∧ UF M (repJ rep (rep a) (rep b)) (fun k => if rep k = rep a then dp k + dp (rep b) + 1 else dp k) := by
  refine (join_any bm M0 rep dp a b w hu hf ha hb).mono ?_
  rintro e w' ⟨hi, ⟨he', _⟩ | ⟨_, rfl, h⟩⟩
  · exact absurd he' he
  · exact ⟨hi, rfl, h⟩
theorem SL.work {w : World} {C bm : Nat} {ra rb : Ref} {N : Nat} {wr : World} {cv : Value} {L : List (Ref × Ref)} {rep : KV → KV} {dp : KV → Nat} {M : List (KV × KV)} (h : SL w C bm ra rb N wr cv L rep dp M) : todoWork cv wr = work L :=
  todoWork_eq h.td (fun p hp => TyOk.kept (h.inv.ok p hp).1 h.bl)
theorem SL.bad {w : World} {C bm : Nat} {ra rb : Ref} {N : Nat} {wr : World} {cv : Value} {R : List (Ref × Ref)} {u v : Ref} {rep : KV → KV} {dp : KV → Nat} {M : List (KV × KV)} (h : SL w C bm ra rb N wr cv (R ++ [(u, v)]) rep dp M) (hne : u.1 ≠ v.1) : sameB ra.1 rb.1 = false :=
  sameB_no (h.inv.bad (List.mem_append_right _ (List.mem_singleton.2 rfl)) hne)

set_option maxRecDepth 100000 in
set_option maxHeartbeats 8000000 in
theorem typeSame_impl (x y : Ty) (c : Nat) (vx vy : Value) (w : World) (hc : nodes x ≤ 1048577) (hx : TyOk w x vx) (hy : TyOk w y vy) :
    Calls Try.prog 17 #[.agg #[.int .i64 x.k, .int .i64 x.n, vx], .agg #[.int .i64 y.k, .int .i64 y.n, vy]] w fun e w' => e = .returned (.bool (sameB x y)) ∧ Below w.heap.size w w' := by
  have HX := Lib.hid hx
  have HY := Lib.hid hy
  have HINV := Lib.hid (Inv.start (w := w) (a := (x, vx)) (b := (y, vy)) hx hy)
  have HC := Lib.hid hc
  obtain ⟨ax, cx, rfl, lx⟩ := hx.at.slice
  obtain ⟨ay, cy, rfl, ly⟩ := hy.at.slice
  clear hx hy hc
  obtain ⟨S, hS⟩ : ∃ S, w.heap.size = S := ⟨_, rfl⟩
  have HS := Lib.hid hS
  obtain ⟨W1, hW1⟩ : ∃ W1, (w.alloc (.cells #[.int .i64 x.k, .int .i64 x.n, .slice ax x.ks.length cx] 25)).alloc (.cells #[.int .i64 y.k, .int .i64 y.n, .slice ay y.ks.length cy] 25) = W1 := ⟨_, rfl⟩
  have hB1 : Below w.heap.size w W1 := by rw [← hW1]; exact (((Below.refl _ _).alloc (Nat.le_refl _) _).alloc (by simp) _)
  have hz1 : W1.heap.size = S + 2 := by rw [← hW1, ← hS]; simp
  have HB1 := Lib.hid hB1
  have HT1 : Hid (TBox W1 S (.int .i64 x.k) (.int .i64 x.n) (.slice ax x.ks.length cx)) := Lib.hid (by
    rw [← hW1, ← hS]; exact (tbox_new w _ _ _ _).kept ((Below.refl _ _).alloc (Nat.le_refl _) _))
  have HT2 : Hid (TBox W1 (S + 1) (.int .i64 y.k) (.int .i64 y.n) (.slice ay y.ks.length cy)) := Lib.hid (by
    have h := tbox_new (w.alloc (.cells #[.int .i64 x.k, .int .i64 x.n, .slice ax x.ks.length cx] 25)) (.int .i64 y.k) (.int .i64 y.n) (.slice ay y.ks.length cy) 25
    rw [sizeA', hW1, hS] at h
    exact h)
  have HW1 := Lib.hid hW1
  have HZ1 := Lib.hid hz1
  clear hB1 hW1 hz1
  go_enter Try.func17, Try.ntmps17
  go_wp2_with fail
  rw [HW1.out]
  clear hS
  go_at_call 45
  refine (newUF_any W1).mono ?_
  rintro e W2 ⟨rfl, hug, hb2⟩
  obtain ⟨bm, hbm⟩ : ∃ bm, W1.heap.size + 1 = bm := ⟨_, rfl⟩
  rw [hbm] at hug ⊢
  have HUG2 := Lib.hid hug
  have HBM := Lib.hid hbm
  have HB2 := Lib.hid (HB1.out.trans (hb2.mono HB1.out.size))
  have HT12 := Lib.hid (HT1.out.kept hb2)
  have HT22 := Lib.hid (HT2.out.kept hb2)
  clear hug hbm hb2
  obtain ⟨p0, p1, p2, pz⟩ := HT12.out
  obtain ⟨q0, q1, q2, qz⟩ := HT22.out
  go_wp2_with fail
  obtain ⟨C, hC⟩ : ∃ C, W2.heap.size = C := ⟨_, rfl⟩
  have HCC := Lib.hid hC
  have hCB : bm < C := by rw [← hC]; exact HUG2.out.m.lt
  obtain ⟨ra, hra⟩ : ∃ r : Ref, (x, Value.slice ax x.ks.length cx) = r := ⟨_, rfl⟩
  obtain ⟨rb, hrb⟩ : ∃ r : Ref, (y, Value.slice ay y.ks.length cy) = r := ⟨_, rfl⟩
  rw [hra, hrb] at HINV
  have HRA := Lib.hid hra
  have HRB := Lib.hid hrb
  clear hra hrb
  rw [hC]
  go_loopw [6] (fun cv wr => ∃ L rep dp M, Hid (SL w C bm ra rb 1048577 wr cv L rep dp M)) (fun cv wr => todoWork cv wr)
  case atStart =>
    have hA : Below W2.heap.size W2 (W2.alloc (.cells #[.map (some bm)] 59)) := (Below.refl _ _).alloc (Nat.le_refl _) _
    have hA2 : Below W2.heap.size W2 ((W2.alloc (.cells #[.map (some bm)] 59)).alloc (.cells #[.int .i64 x.k, .int .i64 x.n, .slice ax x.ks.length cx, .int .i64 y.k, .int .i64 y.n, .slice ay y.ks.length cy] 64)) := hA.alloc hA.size _
    refine ⟨[(ra, rb)], id, fun _ => 0, [], Lib.hid ⟨?_, HUG2.out.kept hA2, ⟨fun k _ => rfl, fun k p h => by cases h⟩, HINV.out, HB2.out.trans (hA2.mono HB2.out.size), ?_, ?_, ?_⟩⟩
    · rw [← HRA.out, ← HRB.out]
      have h := Td.lit (W2.alloc (.cells #[.map (some bm)] 59)) (C + 1) (by rw [sizeA']; omega) (x, .slice ax x.ks.length cx) (y, .slice ay y.ks.length cy)
      rw [sizeA', hC] at h
      exact h
    · have h := ((Below.refl _ _).alloc (Nat.le_refl _) (.cells #[.int .i64 x.k, .int .i64 x.n, .slice ax x.ks.length cx, .int .i64 y.k, .int .i64 y.n, .slice ay y.ks.length cy] 64)).cell (w := W2.alloc (.cells #[.map (some bm)] 59)) (p := ⟨C, 0, none⟩) (by rw [sizeA']; show C < _; omega)
      rw [h, ← hC]
      exact cell_fresh' W2 _ _
    · rw [sizeA', sizeA']; omega
    · rw [work_one, ← HRA.out]; exact HC.out
  case round =>
    obtain ⟨L, rep, dp, M, hsl⟩ := hrel
    clear hC
    rcases Nat.eq_zero_or_pos L.length with hL | hL
    · have hnil := List.length_eq_zero_iff.1 hL
      subst hnil
      obtain ⟨a0, cap0, rfl⟩ := hsl.out.td.form
      have HS2 : Hid (sameB x y = true) := Lib.hid (sameB_yes (by have := hsl.out.inv.done; rw [← HRA.out, ← HRB.out] at this; exact this))
      go_wp2_with fail
      go_ret
      exact ⟨ret_b HS2.out.symm, hsl.out.bl⟩
    · obtain ⟨R, ⟨⟨s, vs⟩, ⟨t, vt⟩⟩, rfl⟩ := last_of L hL
      obtain ⟨g, cap, rfl, hgB, hgz⟩ := hsl.out.td.own
      obtain ⟨oks, okt⟩ := hsl.out.inv.ok _ (List.mem_append_right _ (List.mem_singleton.2 rfl))
      have oks' : TyOk w s vs := oks
      have okt' : TyOk w t vt := okt
      obtain ⟨sa, sc, rfl, sl⟩ := oks'.at.slice
      obtain ⟨ta, tc, rfl, tl⟩ := okt'.at.slice
      have hlast := fun q hq => hsl.out.td.last q hq
      have x0 := hlast 0 (by omega)
      have x1 := hlast 1 (by omega)
      have x2 := hlast 2 (by omega)
      have x3 := hlast 3 (by omega)
      have x4 := hlast 4 (by omega)
      have x5 := hlast 5 (by omega)
      simp only [six, List.getElem?_cons_zero, List.getElem?_cons_succ] at x0 x1 x2 x3 x4 x5
      obtain ⟨n, hn⟩ : ∃ n, R.length = n := ⟨_, rfl⟩
      have hnb : n + 1 ≤ 1048577 := by
        have h1 := work_len (R ++ [((s, Value.slice sa s.ks.length sc), (t, Value.slice ta t.ks.length tc))])
        have h2 := hsl.out.wk
        simp only [List.length_append, List.length_singleton] at h1
        omega
      have HN := Lib.hid hn
      rw [hn] at x0 x1 x2 x3 x4 x5 ⊢
      have hidx : ((n + 1 : Nat) : Int) - 1 = (n : Int) := by omega
      have HOKS := Lib.hid oks'
      have HOKT := Lib.hid okt'
      have hnpos : (0 : Int) < ((n + 1 : Nat) : Int) := by omega
      rw [Nat.add_zero] at x0
      clear hL hlast oks okt oks' okt' hn
      go_wp2_with fail
      go_cut [7, 8] (fun p7 p8 wx => ∃ X Y, p7 = .pointer (some ⟨X, 0, none⟩) ∧ p8 = .pointer (some ⟨Y, 0, none⟩) ∧ Hid (TBox wx X (.int .i64 s.k) (.int .i64 s.n) (.slice sa s.ks.length sc)) ∧ Hid (TBox wx Y (.int .i64 t.k) (.int .i64 t.n) (.slice ta t.ks.length tc)) ∧ Hid (Below wr.heap.size wr wx) ∧ wr.heap.size ≤ X ∧ wr.heap.size ≤ Y)
      case first =>
        go_region
        all_goals go_wp2_with fail
        all_goals go_meet
        · exact ⟨_, _, rfl, rfl, Lib.hid ((tbox_new wr _ _ _ _).kept ((Below.refl _ _).alloc (Nat.le_refl _) _).drew), Lib.hid (by
            have h := tbox_new (wr.alloc (.cells #[.int .i64 s.k, .int .i64 s.n, .slice sa s.ks.length sc] 25)) (.int .i64 t.k) (.int .i64 t.n) (.slice ta t.ks.length tc) 25
            rw [sizeA'] at h
            exact h.kept (Below.refl _ _).drew), Lib.hid (((Below.refl _ _).alloc (Nat.le_refl _) _).alloc (by simp) _).drew, by simp, by simp⟩
        · exact ⟨_, _, rfl, rfl, Lib.hid (by
            have h := tbox_new (wr.alloc (.cells #[.int .i64 t.k, .int .i64 t.n, .slice ta t.ks.length tc] 25)) (.int .i64 s.k) (.int .i64 s.n) (.slice sa s.ks.length sc) 25
            rw [sizeA'] at h
            exact h.kept (Below.refl _ _).drew), Lib.hid ((tbox_new wr _ _ _ _).kept ((Below.refl _ _).alloc (Nat.le_refl _) _).drew), Lib.hid (((Below.refl _ _).alloc (Nat.le_refl _) _).alloc (by simp) _).drew, by simp, by simp⟩
      case rest =>
        obtain ⟨X, Y, rfl, rfl, HTX, HTY, HBX, hgX, hgY⟩ := hcut
        have hXg : g < X := by omega
        have hYg : g < Y := by omega
        have HSL := Lib.hid (hsl.out.kept HBX.out)
        have HFB : Hid (s ≠ t → sameB x y = false) := Lib.hid (fun hne => by have h := hsl.out.bad hne; rw [← HRA.out, ← HRB.out] at h; exact h)
        have hw0 := hsl.out.work
        rw [HN.out] at hw0
        have HW0 := Lib.hid hw0
        clear hw0
        clear x0 x1 x2 x3 x4 x5 hsl hgz p0 p1 p2 pz q0 q1 q2 qz
        obtain ⟨y0, y1, y2, yz⟩ := HTX.out
        obtain ⟨z0, z1, z2, zz⟩ := HTY.out
        have hcap : n ≤ cap := by have h := HSL.out.td; obtain ⟨_, ⟨h, _⟩ | ⟨g', cap', cur, h, _, _, h1, _⟩⟩ := h; cases h; injection h; subst_vars; simp at h1; omega
        by_cases hk : s.k = t.k
        case neg =>
          have HF := Lib.hid (HFB.out (fun e => hk (by rw [e])))
          have e1 : (s.k != t.k) = true := by simpa using hk
          clear hk
          go_wp2_with fail
          go_ret
          exact ⟨ret_b HF.out.symm, HSL.out.bl⟩
        by_cases hn : s.n = t.n
        case neg =>
          have HF := Lib.hid (HFB.out (fun e => hn (by rw [e])))
          have e1 : (s.k != t.k) = false := by simpa using hk
          have e2 : (s.n != t.n) = true := by simpa using hn
          clear hk hn
          go_wp2_with fail
          go_ret
          exact ⟨ret_b HF.out.symm, HSL.out.bl⟩
        by_cases hl : s.ks.length = t.ks.length
        case neg =>
          have HF := Lib.hid (HFB.out (fun e => hl (by rw [e])))
          have e1 : (s.k != t.k) = false := by simpa using hk
          have e2 : (s.n != t.n) = false := by simpa using hn
          have e3 : ((s.ks.length : Int) != (t.ks.length : Int)) = true := by simp; omega
          clear hk hn hl
          go_wp2_with fail
          go_ret
          exact ⟨ret_b HF.out.symm, HSL.out.bl⟩
        have e1 : (s.k != t.k) = false := by simpa using hk
        have e2 : (s.n != t.n) = false := by simpa using hn
        have e3 : ((s.ks.length : Int) != (t.ks.length : Int)) = false := by simp; omega
        have HK := Lib.hid hk
        have HNN := Lib.hid hn
        have HLL := Lib.hid hl
        clear hk hn hl
        rcases Nat.eq_zero_or_pos s.ks.length with h0 | h0
        · have e4 : ((s.ks.length : Int) == (0 : Int)) = true := by rw [h0]; rfl
          have hsk := HSL.out.skip ⟨HK.out, HNN.out, HLL.out, .inl (List.length_eq_zero_iff.1 h0)⟩
          rw [HN.out] at hsk
          have HSK := Lib.hid hsk
          clear hsk
          clear h0
          go_wp2_with fail
          go_region
          all_goals go_wp2_with fail
          all_goals go_roundw
          case rel => exact ⟨R, rep, dp, M, Lib.hid (HSK.out.kept (by first | exact Below.refl _ _ | exact (Below.refl _ _).drew))⟩
          case measure => rw [(HSK.out.kept (by first | exact Below.refl _ _ | exact (Below.refl _ _).drew)).work, HW0.out, work_append]; exact Nat.lt_add_of_pos_right (by rw [work_one]; exact nodes_pos _)
        · have e4 : ((s.ks.length : Int) == (0 : Int)) = false := by rw [beq_eq_false_iff_ne]; omega
          obtain ⟨sb, so, rfl, hrs⟩ := HOKS.out.row_of h0
          have ht0 : 0 < t.ks.length := by have := HLL.out; omega
          obtain ⟨tb, tp, rfl, hrt⟩ := HOKT.out.row_of ht0
          have hwbm : w.heap.size ≤ bm := by have := HBM.out; have := HZ1.out; have := HS.out; omega
          have HGS : Hid (Good bm wc (sb, so, s.ks.length)) := Lib.hid (Good.kept (w := w) ⟨Nat.lt_of_lt_of_le hrs.lt hwbm, hrs.pl⟩ HSL.out.bl)
          have HGT : Hid (Good bm wc (tb, tp, t.ks.length)) := Lib.hid (Good.kept (w := w) ⟨Nat.lt_of_lt_of_le hrt.lt hwbm, hrt.pl⟩ HSL.out.bl)
          have cm0 := HSL.out.cm
          have hbX : bm + 1 ≤ X := by omega
          have hbY : bm + 1 ≤ Y := by omega
          clear hrs hrt
          by_cases heq : rep (sb, so, s.ks.length) = rep (tb, tp, t.ks.length)
          · have hsk := HSL.out.skip ⟨HK.out, HNN.out, HLL.out, .inr heq⟩
            rw [HN.out] at hsk
            have HSK := Lib.hid hsk
            clear hsk
            go_wp2_with fail
            go_cut [72] (fun p wx => p = .bool true ∧ ∃ M', Hid (SL w C bm ra rb 1048577 wx (.slice (some ⟨g, 0, none⟩) n cap) R rep dp M'))
            case first =>
              go_region_law (first
                | (go_simp; go_at_call 46; have hx2 := HSL2; clear hx2; refine (join_same bm M rep dp (sb, so, s.ks.length) (tb, tp, t.ks.length) _ (HSL2.out.ug.kept (by first | exact Below.refl _ _ | exact (Below.refl _ _).drew)) HSL2.out.uf (HGS2.out.kept (by first | exact Below.refl _ _ | exact (Below.refl _ _).drew)) (HGT2.out.kept (by first | exact Below.refl _ _ | exact (Below.refl _ _).drew)) heq).mono ?_; rintro e w3 ⟨hin, rfl, M3, hu3, hf3⟩; have hin3 : Inside bm (bm + 1) w2 w3 := (in_below (lo := bm) (hi := bm + 1) (w := w2) (by first | exact Below.refl _ _ | exact (Below.refl _ _).drew)).trans hin; have HSL3 : Hid (SL w C bm ra rb 1048577 w3 (.slice (some ⟨g, 0, none⟩) n cap) R rep dp M3) := Lib.hid (by have h := (HSL2.out.skip ⟨HK.out, HNN.out, HLL.out, .inr heq⟩).aside hin3 hwbm hCB hu3 hf3; rw [HN.out] at h; exact h); have cm3 := HSL3.out.cm; have HTX3 := Lib.hid (HTX2.out.aside hin3.size (hin3.block _ HTX2.out.sz (.inr hbX))); have HTY3 := Lib.hid (HTY2.out.aside hin3.size (hin3.block _ HTY2.out.sz (.inr hbY))); obtain ⟨k0, k1, k2, kz⟩ := HTX3.out; obtain ⟨m0, m1, m2, mz⟩ := HTY3.out; clear hin hin3 hu3 hf3)
                | (go_simp; go_at_call 47; have hx1 := HSL1; clear hx1; refine (idOf_any tb tp t.ks.length tc ht0 _).mono ?_; rintro e w2 ⟨rfl, hb2⟩; have hb2' : Below w1.heap.size w1 w2 := Below.trans (B := w1.heap.size) (by first | exact Below.refl _ _ | exact (Below.refl _ _).drew) hb2; have HSL2 := Lib.hid (HSL1.out.kept hb2'); have HTX2 := Lib.hid (HTX1.out.kept hb2'); have HTY2 := Lib.hid (HTY1.out.kept hb2'); have HGS2 := Lib.hid (HGS1.out.kept hb2'); have HGT2 := Lib.hid (HGT1.out.kept hb2'); obtain ⟨d0, d1, d2, dz⟩ := HTX2.out; obtain ⟨f0, f1, f2, fz⟩ := HTY2.out; have cm2 := HSL2.out.cm; clear hb2 hb2')
                | (go_simp; go_at_call 47; refine (idOf_any sb so s.ks.length sc h0 _).mono ?_; rintro e w1 ⟨rfl, hb1⟩; have hb1' : Below wc.heap.size wc w1 := Below.trans (B := wc.heap.size) (by first | exact Below.refl _ _ | exact (Below.refl _ _).drew) hb1; have HSL1 := Lib.hid (HSL.out.kept hb1'); have HTX1 := Lib.hid (HTX.out.kept hb1'); have HTY1 := Lib.hid (HTY.out.kept hb1'); have HGS1 := Lib.hid (HGS.out.kept hb1'); have HGT1 := Lib.hid (HGT.out.kept hb1'); obtain ⟨a0, a1, a2, az⟩ := HTX1.out; obtain ⟨b0, b1, b2, bz⟩ := HTY1.out; have cm1 := HSL1.out.cm; clear hb1 hb1'))
              all_goals go_wp2_with fail
              all_goals go_meet
              all_goals exact ⟨rfl, M3, HSL3⟩
            case rest =>
              obtain ⟨rfl, M', HSL'⟩ := hcut
              go_wp2_with fail
              go_roundw
              case rel => exact ⟨R, rep, dp, M', HSL'⟩
              case measure => rw [HSL'.out.work, HW0.out, work_append]; exact Nat.lt_add_of_pos_right (by rw [work_one]; exact nodes_pos _)
          · go_wp2_with fail
            go_cut [72] (fun p wx => p = .bool false ∧ ∃ rep' dp' M', Hid (SN w C bm X Y (s, .slice (some ⟨sb, so, none⟩) s.ks.length sc) (t, .slice (some ⟨tb, tp, none⟩) t.ks.length tc) wx (.slice (some ⟨g, 0, none⟩) n cap) R rep' dp' M') ∧ Hid (Inv w rep' ra rb (R ++ kids w (s, .slice (some ⟨sb, so, none⟩) s.ks.length sc) (t, .slice (some ⟨tb, tp, none⟩) t.ks.length tc) s.ks.length)))
            case first =>
              go_region_law (first
                | (go_simp; go_at_call 46; have hx2 := HSL2; clear hx2; refine (join_new bm M rep dp (sb, so, s.ks.length) (tb, tp, t.ks.length) _ (HSL2.out.ug.kept (by first | exact Below.refl _ _ | exact (Below.refl _ _).drew)) HSL2.out.uf (HGS2.out.kept (by first | exact Below.refl _ _ | exact (Below.refl _ _).drew)) (HGT2.out.kept (by first | exact Below.refl _ _ | exact (Below.refl _ _).drew)) heq).mono ?_; rintro e w3 ⟨hin, rfl, M3, hu3, hf3⟩; have hin3 : Inside bm (bm + 1) w2 w3 := (in_below (lo := bm) (hi := bm + 1) (w := w2) (by first | exact Below.refl _ _ | exact (Below.refl _ _).drew)).trans hin; have HTX3 := Lib.hid (HTX2.out.aside hin3.size (hin3.block _ HTX2.out.sz (.inr hbX))); have HTY3 := Lib.hid (HTY2.out.aside hin3.size (hin3.block _ HTY2.out.sz (.inr hbY))); obtain ⟨k0, k1, k2, kz⟩ := HTX3.out; obtain ⟨m0, m1, m2, mz⟩ := HTY3.out; have HSN3 : Hid (SN w C bm X Y (s, .slice (some ⟨sb, so, none⟩) s.ks.length sc) (t, .slice (some ⟨tb, tp, none⟩) t.ks.length tc) w3 (.slice (some ⟨g, 0, none⟩) n cap) R (repJ rep (rep (sb, so, s.ks.length)) (rep (tb, tp, t.ks.length))) (fun k => if rep k = rep (sb, so, s.ks.length) then dp k + dp (rep (tb, tp, t.ks.length)) + 1 else dp k) M3) := Lib.hid (by have ha := HSL2.out; have htd := ha.td.pop.aside ha.ug.m hin3; rw [HN.out] at htd; exact ⟨htd, hu3, hf3, hin3.below hwbm ha.bl ha.bl.size, (cellEq (hin3.block C (by have := ha.sz; omega) (.inr (by omega)))).trans ha.cm, Nat.le_trans ha.sz hin3.size, HTX3.out, HTY3.out, fun q e => (by have e2 : g = q := (by simpa [Value.ownBlock] using e); omega)⟩); have cm3 := HSN3.out.cm; clear hin hin3 hu3 hf3)
                | (go_simp; go_at_call 47; have hx1 := HSL1; clear hx1; refine (idOf_any tb tp t.ks.length tc ht0 _).mono ?_; rintro e w2 ⟨rfl, hb2⟩; have hb2' : Below w1.heap.size w1 w2 := Below.trans (B := w1.heap.size) (by first | exact Below.refl _ _ | exact (Below.refl _ _).drew) hb2; have HSL2 := Lib.hid (HSL1.out.kept hb2'); have HTX2 := Lib.hid (HTX1.out.kept hb2'); have HTY2 := Lib.hid (HTY1.out.kept hb2'); have HGS2 := Lib.hid (HGS1.out.kept hb2'); have HGT2 := Lib.hid (HGT1.out.kept hb2'); obtain ⟨d0, d1, d2, dz⟩ := HTX2.out; obtain ⟨f0, f1, f2, fz⟩ := HTY2.out; have cm2 := HSL2.out.cm; clear hb2 hb2')
                | (go_simp; go_at_call 47; refine (idOf_any sb so s.ks.length sc h0 _).mono ?_; rintro e w1 ⟨rfl, hb1⟩; have hb1' : Below wc.heap.size wc w1 := Below.trans (B := wc.heap.size) (by first | exact Below.refl _ _ | exact (Below.refl _ _).drew) hb1; have HSL1 := Lib.hid (HSL.out.kept hb1'); have HTX1 := Lib.hid (HTX.out.kept hb1'); have HTY1 := Lib.hid (HTY.out.kept hb1'); have HGS1 := Lib.hid (HGS.out.kept hb1'); have HGT1 := Lib.hid (HGT.out.kept hb1'); obtain ⟨a0, a1, a2, az⟩ := HTX1.out; obtain ⟨b0, b1, b2, bz⟩ := HTY1.out; have cm1 := HSL1.out.cm; clear hb1 hb1'))
              all_goals go_wp2_with fail
              all_goals go_meet
              all_goals exact ⟨rfl, _, _, M3, HSN3, Lib.hid (HSL.out.inv.pushed HK.out HNN.out HLL.out (fun e => by have e' : s.ks = [] := e; rw [e'] at h0; exact absurd h0 (Nat.lt_irrefl _)))⟩
            case rest =>
              obtain ⟨rfl, rep', dp', M', HSN, HINV'⟩ := hcut
              have HWD : Hid (work (R ++ kids w (s, Value.slice (some ⟨sb, so, none⟩) s.ks.length sc) (t, Value.slice (some ⟨tb, tp, none⟩) t.ks.length tc) s.ks.length) < todoWork (.slice (some ⟨g, 0, none⟩) (n + 1) cap) wr) := Lib.hid (by
                rw [HW0.out, work_append, work_append, work_one]
                have h := work_kids w (s, Value.slice (some ⟨sb, so, none⟩) s.ks.length sc) (t, Value.slice (some ⟨tb, tp, none⟩) t.ks.length tc)
                simp only at h
                simp only
                omega)
              obtain ⟨i0, i1, i2, iz⟩ := HSN.out.tx
              obtain ⟨j0, j1, j2, jz⟩ := HSN.out.ty
              have hcm := HSN.out.cm
              have HWC : Hid (w.heap.size ≤ C) := Lib.hid (by omega)
              obtain ⟨e0, he0, he1, he2, he3⟩ := info_parts infoPair
              go_wp2_with fail
              go_loopw [6, 76] (fun cv i wi => ∃ j : Nat, j ≤ s.ks.length ∧ i = .int .i64 j ∧ Hid (SN w C bm X Y (s, .slice (some ⟨sb, so, none⟩) s.ks.length sc) (t, .slice (some ⟨tb, tp, none⟩) t.ks.length tc) wi cv (R ++ kids w (s, .slice (some ⟨sb, so, none⟩) s.ks.length sc) (t, .slice (some ⟨tb, tp, none⟩) t.ks.length tc) j) rep' dp' M')) (fun _ i _ => s.ks.length - (intOf i).toNat)
              case atStart =>
                refine ⟨0, Nat.zero_le _, rfl, ?_⟩
                have h := HSN.out
                rw [← List.append_nil R] at h
                exact Lib.hid h
              case round =>
                obtain ⟨j, hj, rfl, hsn⟩ := hrel
                have hbn : n + s.ks.length ≤ 1048577 := by
                  have h1 := HSL.out.wk
                  rw [work_append, work_one] at h1
                  have h2 := work_len R
                  have h3 := work_kids w (s, Value.slice (some ⟨sb, so, none⟩) s.ks.length sc) (t, Value.slice (some ⟨tb, tp, none⟩) t.ks.length tc)
                  have h4 := work_len (kids w (s, Value.slice (some ⟨sb, so, none⟩) s.ks.length sc) (t, Value.slice (some ⟨tb, tp, none⟩) t.ks.length tc) s.ks.length)
                  rw [kids_len] at h4
                  have h5 := HN.out
                  simp only at h1 h3
                  omega
                by_cases hlt : j < s.ks.length
                · obtain ⟨KL, hKL⟩ : ∃ K, R ++ kids w (s, Value.slice (some ⟨sb, so, none⟩) s.ks.length sc) (t, Value.slice (some ⟨tb, tp, none⟩) t.ks.length tc) j = K := ⟨_, rfl⟩
                  have hlen : KL.length = n + j := by rw [← hKL, List.length_append, kids_len, HN.out]
                  rw [hKL] at hsn
                  obtain ⟨ca, cc, rfl⟩ := hsn.out.td.form
                  rw [hlen] at hsn ⊢
                  obtain ⟨b1, g0, g1, g2, go1⟩ := HOKS.out.cells j hlt
                  obtain ⟨b2, g3, g4, g5, go2⟩ := HOKT.out.cells j (by have := HLL.out; omega)
                  replace g0 := (hsn.out.bl.cell (p := ⟨sb, so + j * 3, none⟩) b1).trans g0
                  replace g1 := (hsn.out.bl.cell (p := ⟨sb, so + j * 3 + 1, none⟩) b1).trans g1
                  replace g2 := (hsn.out.bl.cell (p := ⟨sb, so + j * 3 + 2, none⟩) b1).trans g2
                  replace g3 := (hsn.out.bl.cell (p := ⟨tb, tp + j * 3, none⟩) b2).trans g3
                  replace g4 := (hsn.out.bl.cell (p := ⟨tb, tp + j * 3 + 1, none⟩) b2).trans g4
                  replace g5 := (hsn.out.bl.cell (p := ⟨tb, tp + j * 3 + 2, none⟩) b2).trans g5
                  have hp : Hid (kidR w (s, Value.slice (some ⟨sb, so, none⟩) s.ks.length sc) j = (s.ks.getD j Ty.dummy, kidV w (Value.slice (some ⟨sb, so, none⟩) s.ks.length sc) j)) := Lib.hid rfl
                  have hq : Hid (kidR w (t, Value.slice (some ⟨tb, tp, none⟩) t.ks.length tc) j = (t.ks.getD j Ty.dummy, kidV w (Value.slice (some ⟨tb, tp, none⟩) t.ks.length tc) j)) := Lib.hid rfl
                  obtain ⟨A, hA⟩ : ∃ A, s.ks.getD j Ty.dummy = A := ⟨_, rfl⟩
                  obtain ⟨B, hB⟩ : ∃ B, t.ks.getD j Ty.dummy = B := ⟨_, rfl⟩
                  obtain ⟨va, hva⟩ : ∃ v, kidV w (Value.slice (some ⟨sb, so, none⟩) s.ks.length sc) j = v := ⟨_, rfl⟩
                  obtain ⟨vb, hvb⟩ : ∃ v, kidV w (Value.slice (some ⟨tb, tp, none⟩) t.ks.length tc) j = v := ⟨_, rfl⟩
                  rw [hA] at g0 g1 hp
                  rw [hB] at g3 g4 hq
                  rw [hva] at g2 go1 hp
                  rw [hvb] at g5 go2 hq
                  have HKL : Hid (R ++ kids w (s, Value.slice (some ⟨sb, so, none⟩) s.ks.length sc) (t, Value.slice (some ⟨tb, tp, none⟩) t.ks.length tc) (j + 1) = KL ++ [((A, va), (B, vb))]) := Lib.hid (by rw [kids_succ, ← List.append_assoc, hKL, hp.out, hq.out])
                  have HOWN : Hid (wr.ownsRow (C + 1) 64 6 (.slice ca (n + j) cc) (n + j) (sixes KL)) := Lib.hid (by have h := hsn.out.td; unfold Td at h; rw [hlen] at h; exact h)
                  have HLEN := Lib.hid hlen
                  have hone : ∀ u ∈ [Value.int .i64 A.k, Value.int .i64 A.n, va, Value.int .i64 B.k, Value.int .i64 B.n, vb], u.oneCell' = true := by
                    intro u hu
                    simp only [List.mem_cons, List.not_mem_nil, or_false] at hu
                    rcases hu with rfl | rfl | rfl | rfl | rfl | rfl
                    all_goals first | rfl | exact go1 | exact go2
                  have h63 : n + j + 1 ≤ maxLen := by unfold maxLen; omega
                  have hby : (n + j + 1) * 80 ≤ 140737488355328 := by omega
                  have hsz1 := hsn.out.sz
                  have hbase : ∀ o, C + 1 ≤ (wr.alloc o).drew.heap.size := (fun o => by simp; omega)
                  have hji : (j : Int) < (s.ks.length : Int) := by omega
                  have hji2 : (j : Int) < (t.ks.length : Int) := by have := HLL.out; omega
                  obtain ⟨r0, r1, r2, rz⟩ := hsn.out.tx
                  obtain ⟨o0, o1, o2, oz⟩ := hsn.out.ty
                  clear hA hB hva hvb hKL hlen hp hq b1 b2
                  go_wp2_with fail
                  go_region_law (first
                    | (refine step_append_lies _ (by rfl) _ _ _ (by rfl) (C + 1) 64 e0 _ 6 80 Try.underlying65 he0 he1 he2 he3 rfl (by omega) (.slice ca (n + j) cc) (n + j) (sixes KL) (by rfl) (HOWN.out.alloc _).drew ⟨wr.heap.size, 0, none⟩ 1 1 [.int .i64 A.k, .int .i64 A.n, va, .int .i64 B.k, .int .i64 B.n, vb] (by rfl) (by rfl) (World.news_of_block (cs := #[.int .i64 A.k, .int .i64 A.n, va, .int .i64 B.k, .int .i64 B.n, vb]) (t := 64) (fr := (0, 0)) (heap_alloc_new wr _)) hone (by omega) h63 hby (hbase _) (wr.heap.size + 1) (by simp) ?_; intro g6 cap6 w6 hown6 hgrow6 hat6 hltg6; have HS6 : Hid (SN w C bm X Y (s, .slice (some ⟨sb, so, none⟩) s.ks.length sc) (t, .slice (some ⟨tb, tp, none⟩) t.ks.length tc) w6 (.slice (some ⟨g6, 0, none⟩) (n + j + 1) cap6) (KL ++ [((A, va), (B, vb))]) rep' dp' M') := Lib.hid (by have h := hsn.out.push HWC.out hCB (p := ((A, va), (B, vb))) (g := g6) (cap := cap6) (by rw [HLEN.out]; exact hown6) (undrew hgrow6) hat6; rw [HLEN.out] at h; exact h); clear hown6 hgrow6 hat6))
                  all_goals go_wp2_with fail
                  all_goals go_roundw
                  all_goals first
                    | exact ⟨j + 1, by omega, by go_num, Lib.hid (by rw [HKL.out]; exact HS6.out)⟩
                    | (simp [intOf]; omega)
                · obtain rfl : j = s.ks.length := by omega
                  have hji : ¬ (s.ks.length : Int) < (s.ks.length : Int) := by omega
                  have HFIN : Hid (SL w C bm ra rb 1048577 wr u6 (R ++ kids w (s, .slice (some ⟨sb, so, none⟩) s.ks.length sc) (t, .slice (some ⟨tb, tp, none⟩) t.ks.length tc) s.ks.length) rep' dp' M') := Lib.hid (by
                    have h := hsn.out
                    refine ⟨h.td, h.ug, h.uf, HINV'.out, h.bl, h.cm, h.sz, ?_⟩
                    have h1 := HSL.out.wk
                    rw [work_append, work_one] at h1
                    have h3 := work_kids w (s, Value.slice (some ⟨sb, so, none⟩) s.ks.length sc) (t, Value.slice (some ⟨tb, tp, none⟩) t.ks.length tc)
                    rw [work_append]
                    simp only at h1 h3 ⊢
                    omega)
                  go_wp2_with fail
                  go_roundw
                  case rel => exact ⟨_, rep', dp', M', HFIN⟩
                  case measure => rw [HFIN.out.work]; exact HWD.out

end Go.Proofs.Ytndpoejohpmifaa
