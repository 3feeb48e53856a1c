/-
  replaceVars of the program, whatever function replaces a variable: a type in blocks of its own, the variables replaced from the left to the right.
-/
import Derived.Test.YtndpoejohpmifaaZxy
namespace Go.Proofs.Ytndpoejohpmifaa
open Go.RowKit
set_option linter.unusedVariables false
set_option linter.unusedSimpArgs false

/-- Variables replaced from the left to the right; what replaces them keeps a state. -/
def rp (F : List Int → Int → Ty × List Int) : Nat → Ty → List Int → Ty × List Int
  | 0, t, st => (t, st)
  | d + 1, .node k n ks, st =>
    if k = 4 then F st n else
    match ks with
    | [ta, tb] => (.node k 0 [(rp F d ta st).1, (rp F d tb (rp F d ta st).2).1], (rp F d tb (rp F d ta st).2).2)
    | _ => (.node 1 0 [], st)
/-- The three forms of a well-formed node. -/
theorem shp_forms {d : Nat} {t : Ty} (h : shp (d + 1) t = true) : t = .node 1 0 [] ∨ (∃ n, 0 ≤ n ∧ n ≤ 25 ∧ t = .node 4 n []) ∨ ∃ k ta tb, (k = 2 ∨ k = 3) ∧ t = .node k 0 [ta, tb] ∧ shp d ta = true ∧ shp d tb = true := by
  obtain ⟨hf, hk⟩ := shp_iff.1 h
  cases t with
  | node k n ks =>
    have hf' : fieldsB k n ks.length = true := hf
    have hk' : ∀ i, i < ks.length → shp d (ks.getD i Ty.dummy) = true := hk
    rcases fieldsB_iff.1 hf' with ⟨rfl, rfl, hl⟩ | ⟨h2, rfl, hl⟩ | ⟨rfl, h0, h1, hl⟩
    · left; rw [List.length_eq_zero_iff.1 hl]
    · right; right
      match ks, hl, hk' with
      | [ta, tb], _, hk' => exact ⟨k, ta, tb, h2, rfl, hk' 0 (Nat.succ_pos _), hk' 1 (Nat.lt_succ_self _)⟩
    · right; left; exact ⟨n, h0, h1, by rw [List.length_eq_zero_iff.1 hl]⟩
/-- What a call leaves. -/
def RvPost (r : Ty × List Int) (I : List Int → World → Prop) (lo hi : Nat) (w : World) (e : Ending) (w' : World) : Prop :=
  ∃ v, e = .returned (.agg #[.int .i64 r.1.k, .int .i64 r.1.n, v]) ∧ TyIn w' w.heap.size w'.heap.size r.1 v ∧ Inside lo hi w w' ∧ I r.2 w'
/-- The state hangs on blocks from lo to hi alone. -/
structure Stays (I : List Int → World → Prop) (lo hi : Nat) : Prop where
  keep : ∀ st w w', I st w → w.heap.size ≤ w'.heap.size → (∀ b, lo ≤ b → b < hi → w'.heap[b]? = w.heap[b]?) → I st w'
  size : ∀ st w, I st w → hi ≤ w.heap.size
theorem Stays.below {I : List Int → World → Prop} {lo hi : Nat} (s : Stays I lo hi) {st : List Int} {w w' : World} (h : I st w) (hb : Below w.heap.size w w') : I st w' :=
  s.keep st w w' h hb.size (fun b _ h2 => hb.block b (Nat.lt_of_lt_of_le h2 (s.size st w h)))
theorem TyAt.two {w : World} {k n : Int} {ta tb : Ty} {v : Value} (h : TyAt w (.node k n [ta, tb]) v) : ∃ b o cap va vb, v = .slice (some ⟨b, o, none⟩) 2 cap ∧ b < w.heap.size ∧
    w.cell? ⟨b, o, none⟩ = some (.int .i64 ta.k) ∧ w.cell? ⟨b, o + 1, none⟩ = some (.int .i64 ta.n) ∧ w.cell? ⟨b, o + 2, none⟩ = some va ∧ TyAt w ta va ∧
    w.cell? ⟨b, o + 3, none⟩ = some (.int .i64 tb.k) ∧ w.cell? ⟨b, o + 4, none⟩ = some (.int .i64 tb.n) ∧ w.cell? ⟨b, o + 5, none⟩ = some vb ∧ TyAt w tb vb := by
  cases h with
  | row k n ks b o cap vs hb hl h0 h1 h2 h3 =>
    exact ⟨b, o, cap, vs 0, vs 1, rfl, hb, h0 0 (Nat.succ_pos _), h1 0 (Nat.succ_pos _), h2 0 (Nat.succ_pos _), h3 0 (Nat.succ_pos _), h0 1 (Nat.lt_succ_self _), h1 1 (Nat.lt_succ_self _), h2 1 (Nat.lt_succ_self _), h3 1 (Nat.lt_succ_self _)⟩
structure Six (w : World) (b o : Nat) (p0 p1 p2 p3 p4 p5 : Value) : Prop where
  c0 : w.cell? ⟨b, o, none⟩ = some p0
  c1 : w.cell? ⟨b, o + 1, none⟩ = some p1
  c2 : w.cell? ⟨b, o + 2, none⟩ = some p2
  c3 : w.cell? ⟨b, o + 3, none⟩ = some p3
  c4 : w.cell? ⟨b, o + 4, none⟩ = some p4
  c5 : w.cell? ⟨b, o + 5, none⟩ = some p5
  sz : b < w.heap.size
theorem Six.block {w w' : World} {b o : Nat} {p0 p1 p2 p3 p4 p5 : Value} (h : Six w b o p0 p1 p2 p3 p4 p5) (e : w'.heap[b]? = w.heap[b]?) (hs : w.heap.size ≤ w'.heap.size) : Six w' b o p0 p1 p2 p3 p4 p5 :=
  ⟨(cellEq e).trans h.c0, (cellEq e).trans h.c1, (cellEq e).trans h.c2, (cellEq e).trans h.c3, (cellEq e).trans h.c4, (cellEq e).trans h.c5, Nat.lt_of_lt_of_le h.sz hs⟩
theorem Six.below {w w' : World} {B b o : Nat} {p0 p1 p2 p3 p4 p5 : Value} (h : Six w b o p0 p1 p2 p3 p4 p5) (hb : Below B w w') (hB : b < B) : Six w' b o p0 p1 p2 p3 p4 p5 := h.block (hb.block b hB) hb.size
theorem cell_res {W : World} {B R o : Nat} {x y z : Value} (h : ¬ B = R) : (((W.setCell ⟨R, 0, none⟩ x).setCell ⟨R, 1, none⟩ y).setCell ⟨R, 2, none⟩ z).cell? ⟨B, o, none⟩ = W.cell? ⟨B, o, none⟩ :=
  (cellEq (heap_setCell_other _ ⟨R, 2, none⟩ B _ h)).trans ((cellEq (heap_setCell_other _ ⟨R, 1, none⟩ B _ h)).trans (cellEq (heap_setCell_other _ ⟨R, 0, none⟩ B _ h)))
theorem heap_res {W : World} {b R : Nat} {x y z : Value} (h : ¬ b = R) : (((W.setCell ⟨R, 0, none⟩ x).setCell ⟨R, 1, none⟩ y).setCell ⟨R, 2, none⟩ z).heap[b]? = W.heap[b]? := by
  rw [heap_setCell_other _ ⟨R, 2, none⟩ b _ h, heap_setCell_other _ ⟨R, 1, none⟩ b _ h, heap_setCell_other _ ⟨R, 0, none⟩ b _ h]
theorem in_res {w W : World} {lo hi R : Nat} (h : Inside lo hi w W) (hR : w.heap.size ≤ R) (x y z : Value) : Inside lo hi w (((W.setCell ⟨R, 0, none⟩ x).setCell ⟨R, 1, none⟩ y).setCell ⟨R, 2, none⟩ z) :=
  ⟨h.os, h.tape, h.output, by simpa using h.size, fun b hb hx => (heap_res (by omega)).trans (h.block b hb hx)⟩
theorem Stays.res {I : List Int → World → Prop} {lo hi R : Nat} (s : Stays I lo hi) {st : List Int} {W : World} (h : I st W) (hR : hi ≤ R) (x y z : Value) : I st (((W.setCell ⟨R, 0, none⟩ x).setCell ⟨R, 1, none⟩ y).setCell ⟨R, 2, none⟩ z) :=
  s.keep st W _ h (by simp) (fun b _ h2 => heap_res (by omega))

theorem rv_num (fv : Value) (I : List Int → World → Prop) (lo hi : Nat) (S : Stays I lo hi) (w : World) (st : List Int) (v : Value) (hx : TyAt w (.node 1 0 []) v) (hst : I st w) :
    Calls Try.prog 56 #[.agg #[.int .i64 1, .int .i64 0, v], fv] w (RvPost (.node 1 0 [], st) I lo hi w) := by
  obtain ⟨a, cap, rfl, _⟩ := hx.slice
  have hB : ∀ (x y z : Value), Below w.heap.size w ((((w.alloc (.cells #[.int .i64 1, .int .i64 0, .slice a 0 cap] 25)).alloc (.cells #[x, y, z] 25)))) := fun x y z => ((Below.refl _ _).alloc (Nat.le_refl _) _).alloc (by simp) _
  have HB := Lib.hid hB
  have HS := Lib.hid S
  have HST := Lib.hid hst
  clear hx hB S hst
  go_enter Try.func56, Try.ntmps56
  go_wp2_with fail
  exact bodyPost_ret (v := .agg #[.int .i64 1, .int .i64 0, .slice none 0 0]) (by simp [results, Try.results56, go_sem]) rfl ⟨_, rfl, .bare _ _ _ _ _ _, Inside.of_below (HB.out _ _ _), HS.out.below HST.out (HB.out _ _ _)⟩

set_option maxRecDepth 100000 in
set_option maxHeartbeats 8000000 in
theorem rv_join (fv : Value) (I : List Int → World → Prop) (lo hi : Nat) (S : Stays I lo hi) (w0 : World) (hlo : w0.heap.size ≤ lo)
    (k : Int) (ta tb : Ty) (v : Value) (w : World) (st : List Int) (hk1 : k ≠ 1) (hk4 : k ≠ 4) (hx : TyAt w0 (.node k 0 [ta, tb]) v) (hb : Below w0.heap.size w0 w) (hst : I st w) (ra rb : Ty) (s1 s2 : List Int)
    (ha : ∀ v w, TyAt w0 ta v → Below w0.heap.size w0 w → I st w → Calls Try.prog 56 #[.agg #[.int .i64 ta.k, .int .i64 ta.n, v], fv] w (RvPost (ra, s1) I lo hi w))
    (hbb : ∀ v w, TyAt w0 tb v → Below w0.heap.size w0 w → I s1 w → Calls Try.prog 56 #[.agg #[.int .i64 tb.k, .int .i64 tb.n, v], fv] w (RvPost (rb, s2) I lo hi w)) :
    Calls Try.prog 56 #[.agg #[.int .i64 k, .int .i64 0, v], fv] w (RvPost (.node k 0 [ra, rb], s2) I lo hi w) := by
  have h1 : (k == 1) = false := by simpa using hk1
  have h4 : (k == 4) = false := by simpa using hk4
  have HS := Lib.hid S
  have HA := Lib.hid ha
  have HB := Lib.hid hbb
  obtain ⟨b, o, cap, va, vb, rfl, hbl, x0, x1, x2, xa, y0, y1, y2, yb⟩ := hx.two
  have HX : Hid (Six w0 b o _ _ _ _ _ _) := Lib.hid ⟨x0, x1, x2, y0, y1, y2, hbl⟩
  have HXA := Lib.hid xa
  have HYB := Lib.hid yb
  obtain ⟨W1, hW1⟩ : ∃ W1, (w.alloc (.cells #[.int .i64 k, .int .i64 0, .slice (some ⟨b, o, none⟩) 2 cap] 25)).alloc (.cells #[.int .i64 0, .int .i64 0, .slice none 0 0] 25) = W1 := ⟨_, rfl⟩
  have hB1 : Below w.heap.size w W1 := by rw [← hW1]; exact ((Below.refl _ _).alloc (Nat.le_refl _) _).alloc (by simp) _
  have HW1 := Lib.hid (hb.trans (hB1.mono hb.size))
  have HI1 := Lib.hid (S.below hst hB1)
  have HF1 : Hid (Inside lo hi w W1) := Lib.hid (Inside.of_below hB1)
  have HT1 : Hid (TBox W1 w.heap.size (.int .i64 k) (.int .i64 0) (.slice (some ⟨b, o, none⟩) 2 cap)) := Lib.hid (by rw [← hW1]; exact (tbox_new w _ _ _ _).kept ((Below.refl _ _).alloc (Nat.le_refl _) _))
  have HR1 : Hid (RB W1 (w.heap.size + 1)) := Lib.hid (by have h := rb_new (w.alloc (.cells #[.int .i64 k, .int .i64 0, .slice (some ⟨b, o, none⟩) 2 cap] 25)) 25; rw [sizeA, hW1] at h; exact h)
  have hz1 : W1.heap.size = w.heap.size + 2 := by rw [← hW1]; simp
  have HZ := Lib.hid (S.size _ _ hst)
  have HX1 := Lib.hid (HX.out.below HW1.out HX.out.sz)
  have HBS := Lib.hid hb
  have hbs := hb.size
  clear hx x0 x1 x2 xa y0 y1 y2 yb ha hbb S hst hB1 hb
  obtain ⟨x0, x1, x2, y0, y1, y2, xz⟩ := HX1.out
  obtain ⟨t0, t1, t2, tz⟩ := HT1.out
  obtain ⟨p0, p1, p2, f0, f1, f2, psz⟩ := HR1.out
  go_enter Try.func56, Try.ntmps56
  go_wp2_with fail
  clear hW1 x0 x1 x2 y0 y1 y2 xz t0 t1 t2 tz p0 p1 p2 f0 f1 f2 psz
  go_at_call 56
  refine (HA.out _ _ HXA.out HW1.out HI1.out).mono ?_
  rintro e w1 ⟨v1, rfl, hty1, hIn1, hi1⟩
  obtain ⟨a1, k1, rfl, _⟩ := hty1.at.slice
  have hzz := HZ.out
  have hs1 : w.heap.size + 2 ≤ w1.heap.size := by have := hIn1.size; omega
  obtain ⟨W2, hW2⟩ : ∃ W2, w1.alloc (.cells #[.int .i64 ra.k, .int .i64 ra.n, .slice a1 ra.ks.length k1] 25) = W2 := ⟨_, rfl⟩
  have hB2 : Below w1.heap.size w1 W2 := by rw [← hW2]; exact (Below.refl _ _).alloc (Nat.le_refl _) _
  have hlo1 : Inside lo hi w W2 := (HF1.out.trans hIn1).trans (Inside.of_below hB2)
  have HF2 := Lib.hid hlo1
  have HW2 := Lib.hid (hlo1.below hlo HBS.out hbs)
  have HI2 := Lib.hid (HS.out.below hi1 hB2)
  have HT2 := Lib.hid ((HT1.out.away hIn1 (.inr hzz)).kept hB2)
  have HR2 := Lib.hid ((HR1.out.keep hIn1.size (hIn1.block _ HR1.out.sz (.inr (by omega)))).kept hB2)
  have HX2 := Lib.hid (HX.out.below HW2.out HX.out.sz)
  have HL2 : Hid (TBox W2 w1.heap.size (.int .i64 ra.k) (.int .i64 ra.n) (.slice a1 ra.ks.length k1)) := Lib.hid (by rw [← hW2]; exact tbox_new w1 _ _ _ _)
  have HTY2 := Lib.hid (hty1.kept hB2)
  have hz2 : W2.heap.size = w1.heap.size + 1 := by rw [← hW2]; simp
  obtain ⟨x0, x1, x2, y0, y1, y2, xz⟩ := HX2.out
  obtain ⟨t0, t1, t2, tz⟩ := HT2.out
  obtain ⟨l0, l1, l2, lz⟩ := HL2.out
  clear hty1 hIn1 hi1 hlo1 hB2
  go_wp2_with fail
  clear hW2
  have hq0 : hi ≤ W1.heap.size := by omega
  have hq1 : w.heap.size + 2 ≤ W1.heap.size := by omega
  have hq2 : w.heap.size + 2 ≤ W2.heap.size := by omega
  have hq3 : w1.heap.size ≤ W2.heap.size := by omega
  have hq7 : hi ≤ w.heap.size + 1 := by omega
  have hq8 : hi ≤ w1.heap.size := by omega
  have hn0 : ¬ w.heap.size = w.heap.size + 1 := by omega
  have hn1 : ¬ w1.heap.size = w.heap.size + 1 := by omega
  have hn2 : ¬ b = w.heap.size + 1 := by omega
  clear hz1 hz2
  go_region_held3 (fun w' => w'.cell? ⟨w.heap.size, 0, none⟩ = some (.int .i64 k) ∧ w'.cell? ⟨w.heap.size, 2, none⟩ = some (.slice (some ⟨b, o, none⟩) 2 cap) ∧ w'.cell? ⟨w1.heap.size, 0, none⟩ = some (.int .i64 ra.k) ∧ w'.cell? ⟨w1.heap.size, 1, none⟩ = some (.int .i64 ra.n) ∧ w'.cell? ⟨w1.heap.size, 2, none⟩ = some (.slice a1 ra.ks.length k1) ∧ w'.cell? ⟨b, o + 3, none⟩ = some (.int .i64 tb.k) ∧ w'.cell? ⟨b, o + 4, none⟩ = some (.int .i64 tb.n) ∧ w'.cell? ⟨b, o + 5, none⟩ = some vb) (first | exact ⟨(cell_res hn0).trans gt0, (cell_res hn0).trans gt2, (cell_res hn1).trans gl0, (cell_res hn1).trans gl1, (cell_res hn1).trans gl2, (cell_res hn2).trans gy0, (cell_res hn2).trans gy1, (cell_res hn2).trans gy2⟩ | go_keep)
    (first
      | (go_at_call 91; have hgd := HTY3; clear hgd; refine (joinType_any k ra rb _ _ (w.heap.size + 2) W1.heap.size w1.heap.size W2.heap.size w3.heap.size _ (HL3.out.kept (by first | exact Below.refl _ _ | exact (Below.refl _ _).drew)) (HTY3.out.kept (by first | exact Below.refl _ _ | exact (Below.refl _ _).drew)) hq1 hq2 hq3 hq4 hq5 hq6).mono ?_; rintro e w4 ⟨v4, rfl, hty4, hb4⟩; obtain ⟨a4, k4, rfl, _⟩ := hty4.at.slice; have hb4' : Below w3.heap.size w3 w4 := Below.trans (B := w3.heap.size) (by first | exact Below.refl _ _ | exact (Below.refl _ _).drew) hb4; have HTY4 := Lib.hid hty4; have HF4 := Lib.hid (HF3.out.trans (Inside.of_below hb4')); have HI4 := Lib.hid (HS.out.below HI3.out hb4'); have HR4 := Lib.hid (HR3.out.kept hb4'); obtain ⟨p0, p1, p2, f0, f1, f2, psz⟩ := HR4.out; have HT4 := Lib.hid (HT3.out.kept hb4'); have HLB4 := Lib.hid (HLB3.out.kept hb4'); have HX4 := Lib.hid (HX3.out.below hb4' HX3.out.sz); obtain ⟨gt0, gt1, gt2, gtz⟩ := HT4.out; obtain ⟨gl0, gl1, gl2, glz⟩ := HLB4.out; obtain ⟨gx0, gx1, gx2, gy0, gy1, gy2, gxz⟩ := HX4.out; clear hb4 hb4' hty4)
      | (go_at_call 56; refine (HB.out _ _ HYB.out (by first | exact HW2.out | exact HW2.out.drew) (HS.out.below HI2.out (by first | exact Below.refl _ _ | exact (Below.refl _ _).drew))).mono ?_; rintro e w3 ⟨v3, rfl, hty3, hin3, hi3⟩; obtain ⟨a3, k3, rfl, _⟩ := hty3.at.slice; have hin3' : Inside lo hi W2 w3 := (Inside.of_below (lo := lo) (hi := hi) (w := W2) (by first | exact Below.refl _ _ | exact (Below.refl _ _).drew)).trans hin3; have hty3' : TyIn w3 W2.heap.size w3.heap.size rb (.slice a3 rb.ks.length k3) := hty3; have HTY3 := Lib.hid hty3'; have HI3 := Lib.hid hi3; have HF3 := Lib.hid (HF2.out.trans hin3'); have HW3 := Lib.hid (hin3'.below hlo HW2.out HW2.out.size); have HL3 := Lib.hid (HTY2.out.apart hin3' (.inr hq0)); have HT3 := Lib.hid (HT2.out.away hin3' (.inr hzz)); have HR3 := Lib.hid (HR2.out.keep hin3'.size (hin3'.block _ HR2.out.sz (.inr hq7))); have HLB3 := Lib.hid (HL2.out.away hin3' (.inr hq8)); have HX3 := Lib.hid (HX.out.below HW3.out HX.out.sz); obtain ⟨ft0, ft1, ft2, ftz⟩ := HT3.out; obtain ⟨fl0, fl1, fl2, flz⟩ := HLB3.out; obtain ⟨fx0, fx1, fx2, fy0, fy1, fy2, fxz⟩ := HX3.out; have hs3 : W2.heap.size ≤ w3.heap.size := hin3'.size; have hq4 : w1.heap.size ≤ w3.heap.size := Nat.le_trans hq3 hs3; have hq5 : w3.heap.size ≤ w3.heap.size := Nat.le_refl _; have hq6 : w.heap.size + 2 ≤ w3.heap.size := Nat.le_trans hs1 hq4; clear hty3 hty3' hin3 hin3' hi3))
  go_wp2_with fail
  exact bodyPost_ret (v := .agg #[.int .i64 k, .int .i64 0, .slice a4 2 k4]) (by simp [results, Try.results56, go_sem, p0, p1, p2, Ty.ks]) rfl ⟨_, rfl, res_ty HTY4.out (Nat.le_succ _) _ _ _, in_res HF4.out (Nat.le_succ _) _ _ _, HS.out.res HI4.out hq7 _ _ _⟩

/-- replaceVars over every well-formed type, given what it does to a variable. -/
theorem rv_any (fv : Value) (F : List Int → Int → Ty × List Int) (I : List Int → World → Prop) (lo hi : Nat) (S : Stays I lo hi) (w0 : World) (hlo : w0.heap.size ≤ lo)
    (hv : ∀ st n v w, 0 ≤ n → n ≤ 25 → TyAt w0 (.node 4 n []) v → Below w0.heap.size w0 w → I st w → Calls Try.prog 56 #[.agg #[.int .i64 4, .int .i64 n, v], fv] w (RvPost (F st n) I lo hi w)) :
    ∀ (d : Nat) (t : Ty) (v : Value) (w : World) (st : List Int), shp d t = true → TyAt w0 t v → Below w0.heap.size w0 w → I st w → Calls Try.prog 56 #[.agg #[.int .i64 t.k, .int .i64 t.n, v], fv] w (RvPost (rp F d t st) I lo hi w) := by
  intro d
  induction d with
  | zero => intro t v w st h; cases h
  | succ d ih =>
    intro t v w st h hx hb hst
    rcases shp_forms h with rfl | ⟨n, h0, h1, rfl⟩ | ⟨k, ta, tb, hk, rfl, ha, hbb⟩
    · have e : rp F (d + 1) (.node 1 0 []) st = (.node 1 0 [], st) := by simp [rp]
      rw [e]; exact rv_num fv I lo hi S w st v (hx.kept hb) hst
    · have e : rp F (d + 1) (.node 4 n []) st = F st n := by simp [rp]
      rw [e]; exact hv st n v w h0 h1 hx hb hst
    · have hk4 : k ≠ 4 := by omega
      have e : rp F (d + 1) (.node k 0 [ta, tb]) st = (.node k 0 [(rp F d ta st).1, (rp F d tb (rp F d ta st).2).1], (rp F d tb (rp F d ta st).2).2) := by simp [rp, hk4]
      rw [e]
      exact rv_join fv I lo hi S w0 hlo k ta tb v w st (by omega) hk4 hx hb hst _ _ _ _ (fun v w hx hb hst => ih ta v w st ha hx hb hst) (fun v w hx hb hst => ih tb v w _ hbb hx hb hst)

end Go.Proofs.Ytndpoejohpmifaa
