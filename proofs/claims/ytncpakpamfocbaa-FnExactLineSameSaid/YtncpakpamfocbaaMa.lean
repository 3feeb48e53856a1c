/-
  Lines in memory: eleven cells, a type and an expression among them; the argument, and its size.
-/
import Derived.Test.YtncpakpamfocbaaEh
namespace Go.Proofs.Ytncpakpamfocbaa
open Go.RowKit
set_option linter.unusedVariables false

/-- A line: kind, name, type, expression, column. -/
structure Ln where
  k : Int
  s : ByteArray
  t : Ty
  e : Ex
  c : Int
/-- How much a size takes off for a line. -/
def LnCnt (l : Ln) (ct ce : Nat) : Prop := l.s.size ≤ maxLen ∧ Cnt l.t ct ∧ Ox.Cnt l.e ce
structure LBox (w : World) (B : Nat) (v0 v1 v2 v3 v4 v5 v6 v7 v8 v9 v10 : Value) : Prop where
  c0 : w.cell? ⟨B, 0, none⟩ = some v0
  c1 : w.cell? ⟨B, 1, none⟩ = some v1
  c2 : w.cell? ⟨B, 2, none⟩ = some v2
  c3 : w.cell? ⟨B, 3, none⟩ = some v3
  c4 : w.cell? ⟨B, 4, none⟩ = some v4
  c5 : w.cell? ⟨B, 5, none⟩ = some v5
  c6 : w.cell? ⟨B, 6, none⟩ = some v6
  c7 : w.cell? ⟨B, 7, none⟩ = some v7
  c8 : w.cell? ⟨B, 8, none⟩ = some v8
  c9 : w.cell? ⟨B, 9, none⟩ = some v9
  c10 : w.cell? ⟨B, 10, none⟩ = some v10
  sz : B < w.heap.size
theorem LBox.aside {w w' : World} {B : Nat} {v0 v1 v2 v3 v4 v5 v6 v7 v8 v9 v10 : Value} (h : LBox w B v0 v1 v2 v3 v4 v5 v6 v7 v8 v9 v10) (hs : w.heap.size ≤ w'.heap.size) (e : w'.heap[B]? = w.heap[B]?) : LBox w' B v0 v1 v2 v3 v4 v5 v6 v7 v8 v9 v10 :=
  ⟨(cellEq e).trans h.c0, (cellEq e).trans h.c1, (cellEq e).trans h.c2, (cellEq e).trans h.c3, (cellEq e).trans h.c4, (cellEq e).trans h.c5, (cellEq e).trans h.c6, (cellEq e).trans h.c7, (cellEq e).trans h.c8, (cellEq e).trans h.c9, (cellEq e).trans h.c10, Nat.lt_of_lt_of_le h.sz hs⟩
theorem LBox.kept {w w' : World} {B : Nat} {v0 v1 v2 v3 v4 v5 v6 v7 v8 v9 v10 : Value} (h : LBox w B v0 v1 v2 v3 v4 v5 v6 v7 v8 v9 v10) (hb : Below w.heap.size w w') : LBox w' B v0 v1 v2 v3 v4 v5 v6 v7 v8 v9 v10 := h.aside hb.size (hb.block B h.sz)
theorem lbox_new (w : World) (v0 v1 v2 v3 v4 v5 v6 v7 v8 v9 v10 : Value) (T : TypeId) : LBox (w.alloc (.cells #[v0, v1, v2, v3, v4, v5, v6, v7, v8, v9, v10] T)) w.heap.size v0 v1 v2 v3 v4 v5 v6 v7 v8 v9 v10 :=
  ⟨by go_simp, by go_simp, by go_simp, by go_simp, by go_simp, by go_simp, by go_simp, by go_simp, by go_simp, by go_simp, by go_simp, by simp⟩
theorem cellsLn : Try.prog.cellsOf 46 = 11 := by kernel_rfl
theorem cellsInt' : Try.prog.cellsOf 3 = 1 := by kernel_rfl
theorem cellsStr' : Try.prog.cellsOf 9 = 1 := by kernel_rfl
theorem cellsTy' : Try.prog.cellsOf 44 = 3 := by kernel_rfl
theorem cellsEx' : Try.prog.cellsOf 24 = 5 := by kernel_rfl
set_option maxRecDepth 100000 in
/-- The cells of a line that was read. -/
theorem ln_of_trod {H : Type} {enc : TypeId × Value → H} {w : World} {base : Nat} {spare : Nat → Bool} {held : Bool}
    (fuel : Nat) (cs : List Value) (x : DataW H × List MemPlace) (h : DataW.trod enc Try.prog w base spare held fuel 46 cs = some x) :
      ∃ (l : Ln) (vt ve : Value) (ct ce : Nat), cs = [.int .i64 l.k, .string l.s, .int .i64 l.t.k, .int .i64 l.t.n, vt, .int .i64 l.e.k, .int .i64 l.e.n, .string l.e.m, .string l.e.s, ve, .int .i64 l.c] ∧ TyAt w l.t vt ∧ ExAt w l.e ve ∧ LnCnt l ct ce := by
  obtain ⟨xs, n, hfn, rfl, hl, hlen, hf⟩ := DataW.trod_struct Try.underlying46 h
  rw [cellsLn] at hl
  obtain ⟨c0, c1, c2, c3, c4, c5, c6, c7, c8, c9, c10, rfl⟩ : ∃ c0 c1 c2 c3 c4 c5 c6 c7 c8 c9 c10, cs = [c0, c1, c2, c3, c4, c5, c6, c7, c8, c9, c10] := by
    match cs, hl with
    | [c0, c1, c2, c3, c4, c5, c6, c7, c8, c9, c10], _ => exact ⟨c0, c1, c2, c3, c4, c5, c6, c7, c8, c9, c10, rfl⟩
  obtain ⟨y0, y1, y2, y3, y4, rfl⟩ : ∃ y0 y1 y2 y3 y4, xs = [y0, y1, y2, y3, y4] := by
    match xs, hlen with
    | [y0, y1, y2, y3, y4], _ => exact ⟨y0, y1, y2, y3, y4, rfl⟩
  have g0 := hf 0 _ rfl
  have g1 := hf 1 _ rfl
  have g2 := hf 2 _ rfl
  have g3 := hf 3 _ rfl
  have g4 := hf 4 _ rfl
  simp [cellsInt', cellsStr', cellsTy', cellsEx'] at g0 g1 g2 g3 g4
  obtain ⟨k, e0, _, _⟩ := DataW.trod_int Try.underlying3 g0
  obtain ⟨s, e1, _, ws⟩ := DataW.trod_string Try.underlying9 g1
  obtain ⟨t, vt, e2, ht⟩ := ty_of_trod _ _ _ g2
  obtain ⟨e, ve, ce, e3, he, hce⟩ := Ox.ex_of_trod _ _ _ g3
  obtain ⟨c, e4, _, _⟩ := DataW.trod_int Try.underlying3 g4
  obtain ⟨ct, hct⟩ := cnt_total _ t (Nat.lt_succ_self _)
  simp at e0 e1 e2 e3 e4
  refine ⟨⟨k, s, t, e, c⟩, vt, ve, ct, ce, ?_, ht, he, ws, hct, hce⟩
  simp [e0, e1, e2, e3, e4]

set_option maxRecDepth 100000 in
set_option maxHeartbeats 4000000 in
theorem szLine_any (l : Ln) (ct ce : Nat) (vt ve : Value) (n : Int) (w : World) (hc : LnCnt l ct ce) (ht : TyAt w l.t vt) (he : ExAt w l.e ve) (h0 : 0 ≤ n) (h1 : n ≤ 1048576) :
    Calls Try.prog 24 #[.agg #[.int .i64 l.k, .string l.s, .int .i64 l.t.k, .int .i64 l.t.n, vt, .int .i64 l.e.k, .int .i64 l.e.n, .string l.e.m, .string l.e.s, ve, .int .i64 l.c], .int .i64 n] w (SzPost n (l.s.size + ct + ce) w) := by
  obtain ⟨ms, hct, hce⟩ := hc
  unfold maxLen at ms
  have HT := Lib.hid ht
  have HE := Lib.hid he
  have HCT := Lib.hid hct
  have HCE := Lib.hid hce
  obtain ⟨ta, tc, rfl, _⟩ := ht.slice
  obtain ⟨ea, ec, rfl, _⟩ := he.slice
  clear ht he hct hce
  obtain ⟨W1, hW1⟩ : ∃ W, w.alloc (.cells #[.int .i64 l.k, .string l.s, .int .i64 l.t.k, .int .i64 l.t.n, .slice ta l.t.ks.length tc, .int .i64 l.e.k, .int .i64 l.e.n, .string l.e.m, .string l.e.s, .slice ea l.e.ks.length ec, .int .i64 l.c] 46) = W := ⟨_, rfl⟩
  have HBA : Hid (Below w.heap.size w W1) := Lib.hid (by rw [← hW1]; exact (Below.refl _ _).alloc (Nat.le_refl _) _)
  have HB0 : Hid (LBox W1 w.heap.size (.int .i64 l.k) (.string l.s) (.int .i64 l.t.k) (.int .i64 l.t.n) ((.slice ta l.t.ks.length tc)) (.int .i64 l.e.k) (.int .i64 l.e.n) (.string l.e.m) (.string l.e.s) ((.slice ea l.e.ks.length ec)) (.int .i64 l.c)) := Lib.hid (by rw [← hW1]; exact lbox_new w _ _ _ _ _ _ _ _ _ _ _ _)
  have HW1 := Lib.hid hW1
  clear hW1
  obtain ⟨q, hq⟩ : ∃ q, l.s.size = q := ⟨_, rfl⟩
  have HQ := Lib.hid hq
  rw [hq] at ms ⊢
  by_cases hA : n < (q : Int)
  · have HP := Lib.hid (leftOf_no (l := n) (c := q + ct + ce) (by push_cast; omega))
    have hq2 : n < (l.s.size : Int) := by omega
    have ms2 : l.s.size ≤ 9223372036854775807 := by omega
    clear hq
    (
      go_enter Try.func24, Try.ntmps24
      go_wp2_with fail
      rw [HW1.out]
      obtain ⟨b0, b1, b2, b3, b4, b5, b6, b7, b8, b9, b10, bz⟩ := HB0.out
      go_wp2_with fail
      go_ret
      exact ⟨ret_i HP.out.symm, HBA.out⟩)
  have hA' : ¬ n - (l.s.size : Int) < 0 := by omega
  have ms2 : l.s.size ≤ 9223372036854775807 := by omega
  have hA0 : 0 ≤ n - (l.s.size : Int) := by omega
  have hA1 : n - (l.s.size : Int) ≤ 1048576 := by omega
  by_cases hB : (ct : Int) ≤ n - (l.s.size : Int)
  case neg =>
    have HP1 := Lib.hid (leftOf_no hB)
    have HP := Lib.hid (leftOf_no (l := n) (c := q + ct + ce) (by push_cast; omega))
    clear hq
    (
      go_enter Try.func24, Try.ntmps24
      go_wp2_with fail
      rw [HW1.out]
      obtain ⟨b0, b1, b2, b3, b4, b5, b6, b7, b8, b9, b10, bz⟩ := HB0.out
      go_wp2_with fail
      go_at_call 45
      refine (szType_any _ l.t ct _ _ _ (Nat.lt_succ_self _) HCT.out (HT.out.kept HBA.out) hA0 hA1).mono ?_
      rintro e w1 ⟨rfl, hb1⟩
      rw [HP1.out]
      have HBX1 := Lib.hid (HBA.out.trans (hb1.mono HBA.out.size))
      have HB1 := Lib.hid (HB0.out.kept hb1)
      clear hb1 b0 b1 b2 b3 b4 b5 b6 b7 b8 b9 b10 bz
      obtain ⟨b0, b1, b2, b3, b4, b5, b6, b7, b8, b9, b10, bz⟩ := HB1.out
      go_wp2_with fail
      go_ret
      exact ⟨ret_i HP.out.symm, HBX1.out⟩)
  have HP1 := Lib.hid (leftOf_yes hB)
  have hB' : ¬ n - (l.s.size : Int) - (ct : Int) < 0 := by omega
  have hB0 : 0 ≤ n - (l.s.size : Int) - (ct : Int) := by omega
  have hB1 : n - (l.s.size : Int) - (ct : Int) ≤ 1048576 := by omega
  by_cases hC : (ce : Int) ≤ n - (l.s.size : Int) - (ct : Int)
  · have HP2 := Lib.hid (leftOf_yes hC)
    have HP := Lib.hid (leftOf_yes (l := n) (c := q + ct + ce) (by push_cast; omega))
    have hC' : ¬ n - (l.s.size : Int) - (ct : Int) - (ce : Int) < 0 := by omega
    have HR : Hid (n - (l.s.size : Int) - (ct : Int) - (ce : Int) = n - ((q + ct + ce : Nat) : Int)) := Lib.hid (by push_cast; omega)
    clear hq
    (
      go_enter Try.func24, Try.ntmps24
      go_wp2_with fail
      rw [HW1.out]
      obtain ⟨b0, b1, b2, b3, b4, b5, b6, b7, b8, b9, b10, bz⟩ := HB0.out
      go_wp2_with fail
      go_at_call 45
      refine (szType_any _ l.t ct _ _ _ (Nat.lt_succ_self _) HCT.out (HT.out.kept HBA.out) hA0 hA1).mono ?_
      rintro e w1 ⟨rfl, hb1⟩
      rw [HP1.out]
      have HBX1 := Lib.hid (HBA.out.trans (hb1.mono HBA.out.size))
      have HB1 := Lib.hid (HB0.out.kept hb1)
      clear hb1 b0 b1 b2 b3 b4 b5 b6 b7 b8 b9 b10 bz
      obtain ⟨b0, b1, b2, b3, b4, b5, b6, b7, b8, b9, b10, bz⟩ := HB1.out
      go_wp2_with fail
      go_at_call 8
      refine (Ox.szExpr_any _ l.e ce _ _ _ (Nat.lt_succ_self _) HCE.out (HE.out.kept HBX1.out) hB0 hB1).mono ?_
      rintro e w2 ⟨rfl, hb2⟩
      rw [HP2.out]
      have HBX2 := Lib.hid (HBX1.out.trans (hb2.mono HBX1.out.size))
      clear hb2
      go_wp2_with fail
      go_ret
      exact ⟨ret_i (by rw [HP.out, HR.out]), HBX2.out⟩)
  · have HP2 := Lib.hid (leftOf_no hC)
    have HP := Lib.hid (leftOf_no (l := n) (c := q + ct + ce) (by push_cast; omega))
    clear hq
    (
      go_enter Try.func24, Try.ntmps24
      go_wp2_with fail
      rw [HW1.out]
      obtain ⟨b0, b1, b2, b3, b4, b5, b6, b7, b8, b9, b10, bz⟩ := HB0.out
      go_wp2_with fail
      go_at_call 45
      refine (szType_any _ l.t ct _ _ _ (Nat.lt_succ_self _) HCT.out (HT.out.kept HBA.out) hA0 hA1).mono ?_
      rintro e w1 ⟨rfl, hb1⟩
      rw [HP1.out]
      have HBX1 := Lib.hid (HBA.out.trans (hb1.mono HBA.out.size))
      have HB1 := Lib.hid (HB0.out.kept hb1)
      clear hb1 b0 b1 b2 b3 b4 b5 b6 b7 b8 b9 b10 bz
      obtain ⟨b0, b1, b2, b3, b4, b5, b6, b7, b8, b9, b10, bz⟩ := HB1.out
      go_wp2_with fail
      go_at_call 8
      refine (Ox.szExpr_any _ l.e ce _ _ _ (Nat.lt_succ_self _) HCE.out (HE.out.kept HBX1.out) hB0 hB1).mono ?_
      rintro e w2 ⟨rfl, hb2⟩
      rw [HP2.out]
      have HBX2 := Lib.hid (HBX1.out.trans (hb2.mono HBX1.out.size))
      clear hb2
      go_wp2_with fail
      go_ret
      exact ⟨ret_i HP.out.symm, HBX2.out⟩)

end Go.Proofs.Ytncpakpamfocbaa
