/-
  replaceVars of the program, whatever function replaces a variable: a type in blocks of its own, the variables replaced from the left to the right.
  replaceVars at a variable, by the function that it was given; copyType; the function that SubstVars gives.
  A row of types that grows by append: each type lies in blocks of its own, beside the row. Plain facts.
  l2Copy of the model: any tree of at most a million nodes a row.
  l2Subst of the model.
  l2Subst of the model at every well-formed type; the function that SubstVars of the program gives replaceVars.
  SubstVars of the model and of the program.
-/
import Derived.Test.YtlgbkhkmfgdehaaZa1
import Derived.Deep.AppendLies
import Derived.Deep.RegionLaw
namespace Go.Proofs.Ytlgbkhkmfgdehaa
open Go.RowKit
set_option linter.unusedVariables false
set_option linter.unusedSimpArgs false

/-- Variables replaced from the left to the right; what replaces them keeps a state. -/
def rp (F : List Int → Int → Ty × List Int) : Nat → Ty → List Int → Ty × List Int
  | 0, t, st => (t, st)
  | d + 1, .node k n ks, st =>
    if k = 4 then F st n else
    match ks with
    | [ta, tb] => (.node k 0 [(rp F d ta st).1, (rp F d tb (rp F d ta st).2).1], (rp F d tb (rp F d ta st).2).2)
    | _ => (.node 1 0 [], st)
/-- The three forms of a well-formed node. -/
theorem shp_forms {d : Nat} {t : Ty} (h : shp (d + 1) t = true) : t = .node 1 0 [] ∨ (∃ n, 0 ≤ n ∧ n ≤ 25 ∧ t = .node 4 n []) ∨ ∃ k ta tb, (k = 2 ∨ k = 3) ∧ t = .node k 0 [ta, tb] ∧ shp d ta = true ∧ shp d tb = true := by
  obtain ⟨hf, hk⟩ := shp_iff.1 h
  cases t with
  | node k n ks =>
    have hf' : fieldsB k n ks.length = true := hf
    have hk' : ∀ i, i < ks.length → shp d (ks.getD i Ty.dummy) = true := hk
    rcases fieldsB_iff.1 hf' with ⟨rfl, rfl, hl⟩ | ⟨h2, rfl, hl⟩ | ⟨rfl, h0, h1, hl⟩
    · left; rw [List.length_eq_zero_iff.1 hl]
    · right; right
      match ks, hl, hk' with
      | [ta, tb], _, hk' => exact ⟨k, ta, tb, h2, rfl, hk' 0 (Nat.succ_pos _), hk' 1 (Nat.lt_succ_self _)⟩
    · right; left; exact ⟨n, h0, h1, by rw [List.length_eq_zero_iff.1 hl]⟩
/-- What a call leaves. -/
def RvPost (r : Ty × List Int) (I : List Int → World → Prop) (lo hi : Nat) (w : World) (e : Ending) (w' : World) : Prop :=
  ∃ v, e = .returned (.agg #[.int .i64 r.1.k, .int .i64 r.1.n, v]) ∧ TyIn w' w.heap.size w'.heap.size r.1 v ∧ Inside lo hi w w' ∧ I r.2 w'
/-- The state hangs on blocks from lo to hi alone. -/
structure Stays (I : List Int → World → Prop) (lo hi : Nat) : Prop where
  keep : ∀ st w w', I st w → w.heap.size ≤ w'.heap.size → (∀ b, lo ≤ b → b < hi → w'.heap[b]? = w.heap[b]?) → I st w'
  size : ∀ st w, I st w → hi ≤ w.heap.size
theorem Stays.below {I : List Int → World → Prop} {lo hi : Nat} (s : Stays I lo hi) {st : List Int} {w w' : World} (h : I st w) (hb : Below w.heap.size w w') : I st w' :=
  s.keep st w w' h hb.size (fun b _ h2 => hb.block b (Nat.lt_of_lt_of_le h2 (s.size st w h)))
theorem TyAt.two {w : World} {k n : Int} {ta tb : Ty} {v : Value} (h : TyAt w (.node k n [ta, tb]) v) : ∃ b o cap va vb, v = .slice (some ⟨b, o, none⟩) 2 cap ∧ b < w.heap.size ∧
    w.cell? ⟨b, o, none⟩ = some (.int .i64 ta.k) ∧ w.cell? ⟨b, o + 1, none⟩ = some (.int .i64 ta.n) ∧ w.cell? ⟨b, o + 2, none⟩ = some va ∧ TyAt w ta va ∧
    w.cell? ⟨b, o + 3, none⟩ = some (.int .i64 tb.k) ∧ w.cell? ⟨b, o + 4, none⟩ = some (.int .i64 tb.n) ∧ w.cell? ⟨b, o + 5, none⟩ = some vb ∧ TyAt w tb vb := by
  cases h with
  | row k n ks b o cap vs hb hl h0 h1 h2 h3 =>
    exact ⟨b, o, cap, vs 0, vs 1, rfl, hb, h0 0 (Nat.succ_pos _), h1 0 (Nat.succ_pos _), h2 0 (Nat.succ_pos _), h3 0 (Nat.succ_pos _), h0 1 (Nat.lt_succ_self _), h1 1 (Nat.lt_succ_self _), h2 1 (Nat.lt_succ_self _), h3 1 (Nat.lt_succ_self _)⟩
structure Six (w : World) (b o : Nat) (p0 p1 p2 p3 p4 p5 : Value) : Prop where
  c0 : w.cell? ⟨b, o, none⟩ = some p0
  c1 : w.cell? ⟨b, o + 1, none⟩ = some p1
  c2 : w.cell? ⟨b, o + 2, none⟩ = some p2
  c3 : w.cell? ⟨b, o + 3, none⟩ = some p3
  c4 : w.cell? ⟨b, o + 4, none⟩ = some p4
  c5 : w.cell? ⟨b, o + 5, none⟩ = some p5
  sz : b < w.heap.size
theorem Six.block {w w' : World} {b o : Nat} {p0 p1 p2 p3 p4 p5 : Value} (h : Six w b o p0 p1 p2 p3 p4 p5) (e : w'.heap[b]? = w.heap[b]?) (hs : w.heap.size ≤ w'.heap.size) : Six w' b o p0 p1 p2 p3 p4 p5 :=
  ⟨(cellEq e).trans h.c0, (cellEq e).trans h.c1, (cellEq e).trans h.c2, (cellEq e).trans h.c3, (cellEq e).trans h.c4, (cellEq e).trans h.c5, Nat.lt_of_lt_of_le h.sz hs⟩
theorem Six.below {w w' : World} {B b o : Nat} {p0 p1 p2 p3 p4 p5 : Value} (h : Six w b o p0 p1 p2 p3 p4 p5) (hb : Below B w w') (hB : b < B) : Six w' b o p0 p1 p2 p3 p4 p5 := h.block (hb.block b hB) hb.size
theorem cell_res {W : World} {B R o : Nat} {x y z : Value} (h : ¬ B = R) : (((W.setCell ⟨R, 0, none⟩ x).setCell ⟨R, 1, none⟩ y).setCell ⟨R, 2, none⟩ z).cell? ⟨B, o, none⟩ = W.cell? ⟨B, o, none⟩ :=
  (cellEq (heap_setCell_other _ ⟨R, 2, none⟩ B _ h)).trans ((cellEq (heap_setCell_other _ ⟨R, 1, none⟩ B _ h)).trans (cellEq (heap_setCell_other _ ⟨R, 0, none⟩ B _ h)))
theorem heap_res {W : World} {b R : Nat} {x y z : Value} (h : ¬ b = R) : (((W.setCell ⟨R, 0, none⟩ x).setCell ⟨R, 1, none⟩ y).setCell ⟨R, 2, none⟩ z).heap[b]? = W.heap[b]? := by
  rw [heap_setCell_other _ ⟨R, 2, none⟩ b _ h, heap_setCell_other _ ⟨R, 1, none⟩ b _ h, heap_setCell_other _ ⟨R, 0, none⟩ b _ h]
theorem in_res {w W : World} {lo hi R : Nat} (h : Inside lo hi w W) (hR : w.heap.size ≤ R) (x y z : Value) : Inside lo hi w (((W.setCell ⟨R, 0, none⟩ x).setCell ⟨R, 1, none⟩ y).setCell ⟨R, 2, none⟩ z) :=
  ⟨h.os, h.tape, h.output, by simpa using h.size, fun b hb hx => (heap_res (by omega)).trans (h.block b hb hx)⟩
theorem Stays.res {I : List Int → World → Prop} {lo hi R : Nat} (s : Stays I lo hi) {st : List Int} {W : World} (h : I st W) (hR : hi ≤ R) (x y z : Value) : I st (((W.setCell ⟨R, 0, none⟩ x).setCell ⟨R, 1, none⟩ y).setCell ⟨R, 2, none⟩ z) :=
  s.keep st W _ h (by simp) (fun b _ h2 => heap_res (by omega))

theorem rv_num (fv : Value) (I : List Int → World → Prop) (lo hi : Nat) (S : Stays I lo hi) (w : World) (st : List Int) (v : Value) (hx : TyAt w (.node 1 0 []) v) (hst : I st w) :
    Calls Try.prog 58 #[.agg #[.int .i64 1, .int .i64 0, v], fv] w (RvPost (.node 1 0 [], st) I lo hi w) := by
  obtain ⟨a, cap, rfl, _⟩ := hx.slice
  have hB : ∀ (x y z : Value), Below w.heap.size w ((((w.alloc (.cells #[.int .i64 1, .int .i64 0, .slice a 0 cap] 28)).alloc (.cells #[x, y, z] 28)))) := fun x y z => ((Below.refl _ _).alloc (Nat.le_refl _) _).alloc (by simp) _
  have HB := Lib.hid hB
  have HS := Lib.hid S
  have HST := Lib.hid hst
  clear hx hB S hst
  go_enter Try.func58, Try.ntmps58
  go_wp2_with fail
  exact bodyPost_ret (v := .agg #[.int .i64 1, .int .i64 0, .slice none 0 0]) (by simp [results, Try.results58, go_sem]) rfl ⟨_, rfl, .bare _ _ _ _ _ _, Inside.of_below (HB.out _ _ _), HS.out.below HST.out (HB.out _ _ _)⟩

set_option maxRecDepth 100000 in
set_option maxHeartbeats 8000000 in
theorem rv_join (fv : Value) (I : List Int → World → Prop) (lo hi : Nat) (S : Stays I lo hi) (w0 : World) (hlo : w0.heap.size ≤ lo)
    (k : Int) (ta tb : Ty) (v : Value) (w : World) (st : List Int) (hk1 : k ≠ 1) (hk4 : k ≠ 4) (hx : TyAt w0 (.node k 0 [ta, tb]) v) (hb : Below w0.heap.size w0 w) (hst : I st w) (ra rb : Ty) (s1 s2 : List Int)
    (ha : ∀ v w, TyAt w0 ta v → Below w0.heap.size w0 w → I st w → Calls Try.prog 58 #[.agg #[.int .i64 ta.k, .int .i64 ta.n, v], fv] w (RvPost (ra, s1) I lo hi w))
    (hbb : ∀ v w, TyAt w0 tb v → Below w0.heap.size w0 w → I s1 w → Calls Try.prog 58 #[.agg #[.int .i64 tb.k, .int .i64 tb.n, v], fv] w (RvPost (rb, s2) I lo hi w)) :
    Calls Try.prog 58 #[.agg #[.int .i64 k, .int .i64 0, v], fv] w (RvPost (.node k 0 [ra, rb], s2) I lo hi w) := by
  have h1 : (k == 1) = false := by simpa using hk1
  have h4 : (k == 4) = false := by simpa using hk4
  have HS := Lib.hid S
  have HA := Lib.hid ha
  have HB := Lib.hid hbb
  obtain ⟨b, o, cap, va, vb, rfl, hbl, x0, x1, x2, xa, y0, y1, y2, yb⟩ := hx.two
  have HX : Hid (Six w0 b o _ _ _ _ _ _) := Lib.hid ⟨x0, x1, x2, y0, y1, y2, hbl⟩
  have HXA := Lib.hid xa
  have HYB := Lib.hid yb
  obtain ⟨W1, hW1⟩ : ∃ W1, (w.alloc (.cells #[.int .i64 k, .int .i64 0, .slice (some ⟨b, o, none⟩) 2 cap] 28)).alloc (.cells #[.int .i64 0, .int .i64 0, .slice none 0 0] 28) = W1 := ⟨_, rfl⟩
  have hB1 : Below w.heap.size w W1 := by rw [← hW1]; exact ((Below.refl _ _).alloc (Nat.le_refl _) _).alloc (by simp) _
  have HW1 := Lib.hid (hb.trans (hB1.mono hb.size))
  have HI1 := Lib.hid (S.below hst hB1)
  have HF1 : Hid (Inside lo hi w W1) := Lib.hid (Inside.of_below hB1)
  have HT1 : Hid (TBox W1 w.heap.size (.int .i64 k) (.int .i64 0) (.slice (some ⟨b, o, none⟩) 2 cap)) := Lib.hid (by rw [← hW1]; exact (tbox_new w _ _ _ _).kept ((Below.refl _ _).alloc (Nat.le_refl _) _))
  have HR1 : Hid (RB W1 (w.heap.size + 1)) := Lib.hid (by have h := rb_new (w.alloc (.cells #[.int .i64 k, .int .i64 0, .slice (some ⟨b, o, none⟩) 2 cap] 28)) 28; rw [sizeA, hW1] at h; exact h)
  have hz1 : W1.heap.size = w.heap.size + 2 := by rw [← hW1]; simp
  have HZ := Lib.hid (S.size _ _ hst)
  have HX1 := Lib.hid (HX.out.below HW1.out HX.out.sz)
  have HBS := Lib.hid hb
  have hbs := hb.size
  clear hx x0 x1 x2 xa y0 y1 y2 yb ha hbb S hst hB1 hb
  obtain ⟨x0, x1, x2, y0, y1, y2, xz⟩ := HX1.out
  obtain ⟨t0, t1, t2, tz⟩ := HT1.out
  obtain ⟨p0, p1, p2, f0, f1, f2, psz⟩ := HR1.out
  go_enter Try.func58, Try.ntmps58
  go_wp2_with fail
  clear hW1 x0 x1 x2 y0 y1 y2 xz t0 t1 t2 tz p0 p1 p2 f0 f1 f2 psz
  go_at_call 58
  refine (HA.out _ _ HXA.out HW1.out HI1.out).mono ?_
  rintro e w1 ⟨v1, rfl, hty1, hIn1, hi1⟩
  obtain ⟨a1, k1, rfl, _⟩ := hty1.at.slice
  have hzz := HZ.out
  have hs1 : w.heap.size + 2 ≤ w1.heap.size := by have := hIn1.size; omega
  obtain ⟨W2, hW2⟩ : ∃ W2, w1.alloc (.cells #[.int .i64 ra.k, .int .i64 ra.n, .slice a1 ra.ks.length k1] 28) = W2 := ⟨_, rfl⟩
  have hB2 : Below w1.heap.size w1 W2 := by rw [← hW2]; exact (Below.refl _ _).alloc (Nat.le_refl _) _
  have hlo1 : Inside lo hi w W2 := (HF1.out.trans hIn1).trans (Inside.of_below hB2)
  have HF2 := Lib.hid hlo1
  have HW2 := Lib.hid (hlo1.below hlo HBS.out hbs)
  have HI2 := Lib.hid (HS.out.below hi1 hB2)
  have HT2 := Lib.hid ((HT1.out.away hIn1 (.inr hzz)).kept hB2)
  have HR2 := Lib.hid ((HR1.out.keep hIn1.size (hIn1.block _ HR1.out.sz (.inr (by omega)))).kept hB2)
  have HX2 := Lib.hid (HX.out.below HW2.out HX.out.sz)
  have HL2 : Hid (TBox W2 w1.heap.size (.int .i64 ra.k) (.int .i64 ra.n) (.slice a1 ra.ks.length k1)) := Lib.hid (by rw [← hW2]; exact tbox_new w1 _ _ _ _)
  have HTY2 := Lib.hid (hty1.kept hB2)
  have hz2 : W2.heap.size = w1.heap.size + 1 := by rw [← hW2]; simp
  obtain ⟨x0, x1, x2, y0, y1, y2, xz⟩ := HX2.out
  obtain ⟨t0, t1, t2, tz⟩ := HT2.out
  obtain ⟨l0, l1, l2, lz⟩ := HL2.out
  clear hty1 hIn1 hi1 hlo1 hB2
  go_wp2_with fail
  clear hW2
  have hq0 : hi ≤ W1.heap.size := by omega
  have hq1 : w.heap.size + 2 ≤ W1.heap.size := by omega
  have hq2 : w.heap.size + 2 ≤ W2.heap.size := by omega
  have hq3 : w1.heap.size ≤ W2.heap.size := by omega
  have hq7 : hi ≤ w.heap.size + 1 := by omega
  have hq8 : hi ≤ w1.heap.size := by omega
  have hn0 : ¬ w.heap.size = w.heap.size + 1 := by omega
  have hn1 : ¬ w1.heap.size = w.heap.size + 1 := by omega
  have hn2 : ¬ b = w.heap.size + 1 := by omega
  clear hz1 hz2
  go_region_held3 (fun w' => w'.cell? ⟨w.heap.size, 0, none⟩ = some (.int .i64 k) ∧ w'.cell? ⟨w.heap.size, 2, none⟩ = some (.slice (some ⟨b, o, none⟩) 2 cap) ∧ w'.cell? ⟨w1.heap.size, 0, none⟩ = some (.int .i64 ra.k) ∧ w'.cell? ⟨w1.heap.size, 1, none⟩ = some (.int .i64 ra.n) ∧ w'.cell? ⟨w1.heap.size, 2, none⟩ = some (.slice a1 ra.ks.length k1) ∧ w'.cell? ⟨b, o + 3, none⟩ = some (.int .i64 tb.k) ∧ w'.cell? ⟨b, o + 4, none⟩ = some (.int .i64 tb.n) ∧ w'.cell? ⟨b, o + 5, none⟩ = some vb) (first | exact ⟨(cell_res hn0).trans gt0, (cell_res hn0).trans gt2, (cell_res hn1).trans gl0, (cell_res hn1).trans gl1, (cell_res hn1).trans gl2, (cell_res hn2).trans gy0, (cell_res hn2).trans gy1, (cell_res hn2).trans gy2⟩ | go_keep)
    (first
      | (go_at_call 93; have hgd := HTY3; clear hgd; refine (joinType_any k ra rb _ _ (w.heap.size + 2) W1.heap.size w1.heap.size W2.heap.size w3.heap.size _ (HL3.out.kept (by first | exact Below.refl _ _ | exact (Below.refl _ _).drew)) (HTY3.out.kept (by first | exact Below.refl _ _ | exact (Below.refl _ _).drew)) hq1 hq2 hq3 hq4 hq5 hq6).mono ?_; rintro e w4 ⟨v4, rfl, hty4, hb4⟩; obtain ⟨a4, k4, rfl, _⟩ := hty4.at.slice; have hb4' : Below w3.heap.size w3 w4 := Below.trans (B := w3.heap.size) (by first | exact Below.refl _ _ | exact (Below.refl _ _).drew) hb4; have HTY4 := Lib.hid hty4; have HF4 := Lib.hid (HF3.out.trans (Inside.of_below hb4')); have HI4 := Lib.hid (HS.out.below HI3.out hb4'); have HR4 := Lib.hid (HR3.out.kept hb4'); obtain ⟨p0, p1, p2, f0, f1, f2, psz⟩ := HR4.out; have HT4 := Lib.hid (HT3.out.kept hb4'); have HLB4 := Lib.hid (HLB3.out.kept hb4'); have HX4 := Lib.hid (HX3.out.below hb4' HX3.out.sz); obtain ⟨gt0, gt1, gt2, gtz⟩ := HT4.out; obtain ⟨gl0, gl1, gl2, glz⟩ := HLB4.out; obtain ⟨gx0, gx1, gx2, gy0, gy1, gy2, gxz⟩ := HX4.out; clear hb4 hb4' hty4)
      | (go_at_call 58; refine (HB.out _ _ HYB.out (by first | exact HW2.out | exact HW2.out.drew) (HS.out.below HI2.out (by first | exact Below.refl _ _ | exact (Below.refl _ _).drew))).mono ?_; rintro e w3 ⟨v3, rfl, hty3, hin3, hi3⟩; obtain ⟨a3, k3, rfl, _⟩ := hty3.at.slice; have hin3' : Inside lo hi W2 w3 := (Inside.of_below (lo := lo) (hi := hi) (w := W2) (by first | exact Below.refl _ _ | exact (Below.refl _ _).drew)).trans hin3; have hty3' : TyIn w3 W2.heap.size w3.heap.size rb (.slice a3 rb.ks.length k3) := hty3; have HTY3 := Lib.hid hty3'; have HI3 := Lib.hid hi3; have HF3 := Lib.hid (HF2.out.trans hin3'); have HW3 := Lib.hid (hin3'.below hlo HW2.out HW2.out.size); have HL3 := Lib.hid (HTY2.out.apart hin3' (.inr hq0)); have HT3 := Lib.hid (HT2.out.away hin3' (.inr hzz)); have HR3 := Lib.hid (HR2.out.keep hin3'.size (hin3'.block _ HR2.out.sz (.inr hq7))); have HLB3 := Lib.hid (HL2.out.away hin3' (.inr hq8)); have HX3 := Lib.hid (HX.out.below HW3.out HX.out.sz); obtain ⟨ft0, ft1, ft2, ftz⟩ := HT3.out; obtain ⟨fl0, fl1, fl2, flz⟩ := HLB3.out; obtain ⟨fx0, fx1, fx2, fy0, fy1, fy2, fxz⟩ := HX3.out; have hs3 : W2.heap.size ≤ w3.heap.size := hin3'.size; have hq4 : w1.heap.size ≤ w3.heap.size := Nat.le_trans hq3 hs3; have hq5 : w3.heap.size ≤ w3.heap.size := Nat.le_refl _; have hq6 : w.heap.size + 2 ≤ w3.heap.size := Nat.le_trans hs1 hq4; clear hty3 hty3' hin3 hin3' hi3))
  go_wp2_with fail
  exact bodyPost_ret (v := .agg #[.int .i64 k, .int .i64 0, .slice a4 2 k4]) (by simp [results, Try.results58, go_sem, p0, p1, p2, Ty.ks]) rfl ⟨_, rfl, res_ty HTY4.out (Nat.le_succ _) _ _ _, in_res HF4.out (Nat.le_succ _) _ _ _, HS.out.res HI4.out hq7 _ _ _⟩

/-- replaceVars over every well-formed type, given what it does to a variable. -/
theorem rv_any (fv : Value) (F : List Int → Int → Ty × List Int) (I : List Int → World → Prop) (lo hi : Nat) (S : Stays I lo hi) (w0 : World) (hlo : w0.heap.size ≤ lo)
    (hv : ∀ st n v w, 0 ≤ n → n ≤ 25 → TyAt w0 (.node 4 n []) v → Below w0.heap.size w0 w → I st w → Calls Try.prog 58 #[.agg #[.int .i64 4, .int .i64 n, v], fv] w (RvPost (F st n) I lo hi w)) :
    ∀ (d : Nat) (t : Ty) (v : Value) (w : World) (st : List Int), shp d t = true → TyAt w0 t v → Below w0.heap.size w0 w → I st w → Calls Try.prog 58 #[.agg #[.int .i64 t.k, .int .i64 t.n, v], fv] w (RvPost (rp F d t st) I lo hi w) := by
  intro d
  induction d with
  | zero => intro t v w st h; cases h
  | succ d ih =>
    intro t v w st h hx hb hst
    rcases shp_forms h with rfl | ⟨n, h0, h1, rfl⟩ | ⟨k, ta, tb, hk, rfl, ha, hbb⟩
    · have e : rp F (d + 1) (.node 1 0 []) st = (.node 1 0 [], st) := by simp [rp]
      rw [e]; exact rv_num fv I lo hi S w st v (hx.kept hb) hst
    · have e : rp F (d + 1) (.node 4 n []) st = F st n := by simp [rp]
      rw [e]; exact hv st n v w h0 h1 hx hb hst
    · have hk4 : k ≠ 4 := by omega
      have e : rp F (d + 1) (.node k 0 [ta, tb]) st = (.node k 0 [(rp F d ta st).1, (rp F d tb (rp F d ta st).2).1], (rp F d tb (rp F d ta st).2).2) := by simp [rp, hk4]
      rw [e]
      exact rv_join fv I lo hi S w0 hlo k ta tb v w st (by omega) hk4 hx hb hst _ _ _ _ (fun v w hx hb hst => ih ta v w st ha hx hb hst) (fun v w hx hb hst => ih tb v w _ hbb hx hb hst)

end Go.Proofs.Ytlgbkhkmfgdehaa

namespace Go.Proofs.Ytlgbkhkmfgdehaa
open Go.RowKit
set_option linter.unusedVariables false
set_option linter.unusedSimpArgs false

set_option maxRecDepth 100000 in
set_option maxHeartbeats 1000000 in
theorem rv_varType (F : List Int → Int → Ty × List Int) (I : List Int → World → Prop) (lo hi : Nat) (S : Stays I lo hi) (w0 : World) (hlo : w0.heap.size ≤ lo)
    (hcl : ∀ (st : List Int) (n : Int) (w : World), 0 ≤ n → n ≤ 25 → Below w0.heap.size w0 w → I st w → Calls Try.prog 59 #[.int .i64 n] w (RvPost (F st n) I lo hi w))
    (st : List Int) (n : Int) (v : Value) (w : World) (h0 : 0 ≤ n) (h1 : n ≤ 25) (hx : TyAt w0 (.node 4 n []) v) (hb : Below w0.heap.size w0 w) (hst : I st w) :
    Calls Try.prog 58 #[.agg #[.int .i64 4, .int .i64 n, v], .func (.func 59) #[] #[]] w (RvPost (F st n) I lo hi w) := by
  obtain ⟨a, cap, rfl, _⟩ := hx.slice
  have e0 : (Ty.node 4 n []).ks.length = 0 := rfl
  rw [e0]
  obtain ⟨W1, hW1⟩ : ∃ W1, (w.alloc (.cells #[.int .i64 4, .int .i64 n, .slice a 0 cap] 28)).alloc (.cells #[.int .i64 0, .int .i64 0, .slice none 0 0] 28) = W1 := ⟨_, rfl⟩
  have hB1 : Below w.heap.size w W1 := by rw [← hW1]; exact ((Below.refl _ _).alloc (Nat.le_refl _) _).alloc (by simp) _
  have HT1 : Hid (TBox W1 w.heap.size (.int .i64 4) (.int .i64 n) (.slice a 0 cap)) := Lib.hid (by rw [← hW1]; exact (tbox_new w _ _ _ _).kept ((Below.refl _ _).alloc (Nat.le_refl _) _))
  have HR1 : Hid (RB W1 (w.heap.size + 1)) := Lib.hid (by have h := rb_new (w.alloc (.cells #[.int .i64 4, .int .i64 n, .slice a 0 cap] 28)) 28; rw [sizeA, hW1] at h; exact h)
  have hz1 : W1.heap.size = w.heap.size + 2 := by rw [← hW1]; simp
  have HC := Lib.hid (hcl st n W1 h0 h1 (hb.trans (hB1.mono hb.size)) (S.below hst hB1))
  have HF1 : Hid (Inside lo hi w W1) := Lib.hid (Inside.of_below hB1)
  have hzz := S.size _ _ hst
  have HS := Lib.hid S
  obtain ⟨t0, t1, t2, tz⟩ := HT1.out
  obtain ⟨p0, p1, p2, f0, f1, f2, psz⟩ := HR1.out
  clear hcl hst hx hb hB1 S
  go_enter Try.func58, Try.ntmps58
  go_wp2_with fail
  go_at_call 59
  refine HC.out.mono ?_
  rintro e w1 ⟨v1, rfl, hty, hin, hi1⟩
  obtain ⟨a1, k1, rfl, _⟩ := hty.at.slice
  have HR2 := Lib.hid (HR1.out.keep hin.size (hin.block _ HR1.out.sz (.inr (by omega))))
  have HF2 := Lib.hid (HF1.out.trans hin)
  have HTY := Lib.hid hty
  have HI1 := Lib.hid hi1
  have hz2 : W1.heap.size ≤ w1.heap.size := hin.size
  clear hW1 p0 p1 p2 f0 f1 f2 psz t0 t1 t2 tz hty hin hi1
  obtain ⟨p0, p1, p2, f0, f1, f2, psz⟩ := HR2.out
  go_wp2_with fail
  exact bodyPost_ret (v := .agg #[.int .i64 (F st n).1.k, .int .i64 (F st n).1.n, .slice a1 (F st n).1.ks.length k1]) (by simp [results, Try.results58, go_sem, p0, p1, p2]) rfl ⟨_, rfl, res_ty (HTY.out.wide (by omega) (Nat.le_refl _)) (Nat.le_succ _) _ _ _, in_res HF2.out (Nat.le_succ _) _ _ _, HS.out.res HI1.out (by omega) _ _ _⟩

/-- A type with its variables replaced by themselves is the same. -/
theorem rp_self : ∀ (d : Nat) (t : Ty) (st : List Int), shp d t = true → rp (fun st n => (.node 4 n [], st)) d t st = (t, st) := by
  intro d
  induction d with
  | zero => intro t st h; cases h
  | succ d ih =>
    intro t st h
    rcases shp_forms h with rfl | ⟨n, _, _, rfl⟩ | ⟨k, ta, tb, hk, rfl, ha, hb⟩
    · simp [rp]
    · simp [rp]
    · have hk4 : k ≠ 4 := by omega
      simp [rp, hk4, ih ta _ ha, ih tb _ hb]
theorem stays_all (lo : Nat) : Stays (fun _ w => lo ≤ w.heap.size) lo lo :=
  ⟨fun _ _ _ h hs _ => Nat.le_trans h hs, fun _ _ h => h⟩
theorem Inside.thin {lo : Nat} {w w' : World} (h : Inside lo lo w w') : Below w.heap.size w w' := ⟨h.os, h.tape, h.output, h.size, fun b hb => h.block b hb (by omega)⟩
theorem copyType_any (t : Ty) (d : Nat) (v : Value) (w : World) (hs : shp d t = true) (hx : TyAt w t v) :
    Calls Try.prog 29 #[.agg #[.int .i64 t.k, .int .i64 t.n, v]] w (TyRet t w) := by
  obtain ⟨a, cap, rfl, _⟩ := hx.slice
  obtain ⟨W1, hW1⟩ : ∃ W1, (w.alloc (.cells #[.int .i64 t.k, .int .i64 t.n, .slice a t.ks.length cap] 28)).alloc (.cells #[.int .i64 0, .int .i64 0, .slice none 0 0] 28) = W1 := ⟨_, rfl⟩
  have hB1 : Below w.heap.size w W1 := by rw [← hW1]; exact ((Below.refl _ _).alloc (Nat.le_refl _) _).alloc (by simp) _
  have HT1 : Hid (TBox W1 w.heap.size (.int .i64 t.k) (.int .i64 t.n) (.slice a t.ks.length cap)) := Lib.hid (by rw [← hW1]; exact (tbox_new w _ _ _ _).kept ((Below.refl _ _).alloc (Nat.le_refl _) _))
  have HR1 : Hid (RB W1 (w.heap.size + 1)) := Lib.hid (by have h := rb_new (w.alloc (.cells #[.int .i64 t.k, .int .i64 t.n, .slice a t.ks.length cap] 28)) 28; rw [sizeA, hW1] at h; exact h)
  have hz1 : W1.heap.size = w.heap.size + 2 := by rw [← hW1]; simp
  have HC : Hid (Calls Try.prog 58 #[.agg #[.int .i64 t.k, .int .i64 t.n, .slice a t.ks.length cap], .func (.func 59) #[] #[]] W1 (RvPost (t, []) (fun _ w => W1.heap.size ≤ w.heap.size) W1.heap.size W1.heap.size W1)) := Lib.hid (by
    have h := rv_any (.func (.func 59) #[] #[]) (fun st n => (.node 4 n [], st)) (fun _ w => W1.heap.size ≤ w.heap.size) W1.heap.size W1.heap.size (stays_all _) W1 (Nat.le_refl _)
      (fun st n v w' h0 h1 hx' hb hst => rv_varType (fun st n => (.node 4 n [], st)) _ _ _ (stays_all _) W1 (Nat.le_refl _) (fun st n w2 _ _ hb2 hst2 => (varType_any n w2).mono (fun e w3 ⟨v3, he, ht, hbb⟩ => ⟨v3, he, ht, Inside.of_below hbb, Nat.le_trans hst2 hbb.size⟩)) st n v w' h0 h1 hx' hb hst)
      d t _ W1 [] hs (hx.kept hB1) (Below.refl _ _) (Nat.le_refl _)
    rw [rp_self d t [] hs] at h
    exact h)
  have HB1 := Lib.hid hB1
  obtain ⟨t0, t1, t2, tz⟩ := HT1.out
  obtain ⟨p0, p1, p2, f0, f1, f2, psz⟩ := HR1.out
  clear hx hB1
  go_enter Try.func29, Try.ntmps29
  go_wp2_with fail
  go_at_call 58
  refine HC.out.mono ?_
  rintro e w1 ⟨v1, rfl, hty, hin, hi1⟩
  obtain ⟨a1, k1, rfl, _⟩ := hty.at.slice
  have HR2 := Lib.hid (HR1.out.kept hin.thin)
  have HB2 := Lib.hid (HB1.out.trans (hin.thin.mono HB1.out.size))
  have HTY := Lib.hid hty
  clear hW1 p0 p1 p2 f0 f1 f2 psz t0 t1 t2 tz hty hin hi1
  obtain ⟨p0, p1, p2, f0, f1, f2, psz⟩ := HR2.out
  go_wp2_with fail
  exact bodyPost_ret (v := .agg #[.int .i64 t.k, .int .i64 t.n, .slice a1 t.ks.length k1]) (by simp [results, Try.results29, go_sem, p0, p1, p2]) rfl ⟨_, rfl, res_ty (HTY.out.wide (by omega) (Nat.le_refl _)) (Nat.le_succ _) _ _ _, Inside.thin (in_res (lo := w.heap.size) (hi := w.heap.size) (Inside.of_below HB2.out) (Nat.le_succ _) _ _ _)⟩

end Go.Proofs.Ytlgbkhkmfgdehaa

namespace Go.Proofs.Ytlgbkhkmfgdehaa
open Go.RowKit
set_option linter.unusedVariables false
set_option linter.unusedSimpArgs false

theorem infoTy : (Try.prog.info? 28).map (fun i => (i.zero, i.size, i.bytes)) = some (some (.agg #[.int .i64 0, .int .i64 0, .slice none 0 0]), 3, 40) := by kernel_rfl
/-- The box of a type under way. -/
structure OB (w : World) (B : Nat) (k n : Int) (v : Value) : Prop where
  c0 : w.cell? ⟨B, 0, none⟩ = some (.int .i64 k)
  c1 : w.cell? ⟨B, 1, none⟩ = some (.int .i64 n)
  c2 : w.cell? ⟨B, 2, none⟩ = some v
  f2 : w.frozen? ⟨B, 2, none⟩ = false
  sz : B < w.heap.size
theorem OB.keep {w w' : World} {B : Nat} {k n : Int} {v : Value} (h : OB w B k n v) (hs : w.heap.size ≤ w'.heap.size) (e : w'.heap[B]? = w.heap[B]?) : OB w' B k n v :=
  ⟨(cellEq e).trans h.c0, (cellEq e).trans h.c1, (cellEq e).trans h.c2, (frozenEq e).trans h.f2, Nat.lt_of_lt_of_le h.sz hs⟩
theorem OB.kept {w w' : World} {B : Nat} {k n : Int} {v : Value} (h : OB w B k n v) (hb : Below w.heap.size w w') : OB w' B k n v := h.keep hb.size (hb.block B h.sz)
theorem ob_new (w : World) (k n : Int) (v : Value) (T : TypeId) : OB (w.alloc (.cells #[.int .i64 k, .int .i64 n, v] T)) w.heap.size k n v := ⟨by go_simp, by go_simp, by go_simp, by go_simp, by simp⟩
theorem OB.set {w : World} {B : Nat} {k n : Int} {v : Value} (h : OB w B k n v) (u : Value) : OB (w.setCell ⟨B, 2, none⟩ u) B k n u :=
  ⟨(World.cell?_setCell_other _ _ _ _ (fun e => by injection e with _ e2 _; omega)).trans h.c0, (World.cell?_setCell_other _ _ _ _ (fun e => by injection e with _ e2 _; omega)).trans h.c1, World.cell?_setCell_same' _ _ _ (by rw [h.c2]; rfl), by rw [World.frozen?_setCell]; exact h.f2, by simpa using h.sz⟩

/-- The first j types of rs lie in the row cv, each in blocks of its own; no block is below B. -/
structure Gr (rs : List Ty) (B j : Nat) (w : World) (cv : Value) (xs : List Value) (vs : Nat → Value) (l h : Nat → Nat) : Prop where
  own : w.ownsRow B 28 3 cv j xs
  x0 : ∀ i, i < j → xs[i * 3]? = some (.int .i64 (rs.getD i Ty.dummy).k)
  x1 : ∀ i, i < j → xs[i * 3 + 1]? = some (.int .i64 (rs.getD i Ty.dummy).n)
  x2 : ∀ i, i < j → xs[i * 3 + 2]? = some (vs i)
  lo : ∀ i, i < j → B ≤ l i ∧ h i ≤ w.heap.size
  di : ∀ i k, i < k → k < j → h i ≤ l k
  ty : ∀ i, i < j → TyIn w (l i) (h i) (rs.getD i Ty.dummy) (vs i)
  ap : ∀ g, cv.ownBlock = some g → ∀ i, i < j → g < l i ∨ h i ≤ g
theorem gr_nil (rs : List Ty) (B : Nat) (w : World) : Gr rs B 0 w (.slice none 0 0) [] (fun _ => .int .i64 0) (fun _ => 0) (fun _ => 0) :=
  ⟨World.ownsRow_nil _ _ _ _, fun i hi => by omega, fun i hi => by omega, fun i hi => by omega, fun i hi => by omega, fun i k hi hk => by omega, fun i hi => by omega, fun g _ i hi => by omega⟩
theorem own_low {w : World} {B n sz : Nat} {e : TypeId} {v : Value} {xs : List Value} (h : w.ownsRow B e sz v n xs) {g : Nat} (hg : v.ownBlock = some g) : B ≤ g ∧ g < w.heap.size := h.lt g hg
theorem own_keep {w w' : World} {B n sz : Nat} {e : TypeId} {v : Value} {xs : List Value} (h : w.ownsRow B e sz v n xs) (hk : ∀ b, B ≤ b → b < w.heap.size → w'.heap[b]? = w.heap[b]?) : w'.ownsRow B e sz v n xs := by
  obtain ⟨hl, h | ⟨g, cap, cur, rfl, hb', hg, h1, h2, h3, h4⟩⟩ := h
  · exact ⟨hl, .inl h⟩
  · exact ⟨hl, .inr ⟨g, cap, cur, rfl, hb', (hk g hb' (Array.getElem?_eq_some_iff.1 hg).1).trans hg, h1, h2, h3, h4⟩⟩
theorem Gr.keep {rs : List Ty} {B j : Nat} {w w' : World} {cv : Value} {xs : List Value} {vs : Nat → Value} {l h : Nat → Nat} (f : Gr rs B j w cv xs vs l h) (hs : w.heap.size ≤ w'.heap.size) (hk : ∀ b, B ≤ b → b < w.heap.size → w'.heap[b]? = w.heap[b]?) : Gr rs B j w' cv xs vs l h :=
  ⟨own_keep f.own hk, f.x0, f.x1, f.x2, fun i hi => ⟨(f.lo i hi).1, Nat.le_trans (f.lo i hi).2 hs⟩, f.di, fun i hi => (f.ty i hi).keep hs (fun b h1 _ h3 => hk b (by have := (f.lo i hi).1; omega) h3), f.ap⟩
theorem Gr.kept {rs : List Ty} {B j : Nat} {w w' : World} {cv : Value} {xs : List Value} {vs : Nat → Value} {l h : Nat → Nat} (f : Gr rs B j w cv xs vs l h) (hb : Below w.heap.size w w') : Gr rs B j w' cv xs vs l h :=
  f.keep hb.size (fun b _ h => hb.block b h)
theorem get_old {xs : List Value} {x y z u : Value} {i : Nat} (h : xs[i]? = some u) : (xs ++ [x, y, z])[i]? = some u := by
  rw [List.getElem?_append_left (List.getElem?_eq_some_iff.1 h).1]; exact h
theorem Gr.step {rs : List Ty} {B j : Nat} {w w1 w3 : World} {cv : Value} {xs : List Value} {vs : Nat → Value} {l h : Nat → Nat} (f : Gr rs B j w cv xs vs l h) (hB : B ≤ w.heap.size) {t : Ty} (ht : rs.getD j Ty.dummy = t) {v : Value} (hb : Below w.heap.size w w1) (hty : TyIn w1 w.heap.size w1.heap.size t v) {o : Obj} {g cap : Nat}
    (hown : w3.ownsRow B 28 3 (.slice (some ⟨g, 0, none⟩) (j + 1) cap) (j + 1) (xs ++ [.int .i64 t.k, .int .i64 t.n, v])) (hgrow : (w1.alloc o).grownBy w3 cv.ownBlock) (hat : cv.ownBlock = some g ∨ g = w1.heap.size + 1) :
    ∃ xs' vs' l' h', Gr rs B (j + 1) w3 (.slice (some ⟨g, 0, none⟩) (j + 1) cap) xs' vs' l' h' := by
  have hs1 := hb.size
  have hsA : (w1.alloc o).heap.size = w1.heap.size + 1 := by simp
  have hs3 : w1.heap.size + 1 ≤ w3.heap.size := by have := hgrow.size; omega
  have hlen := f.own.1
  have hold : ∀ b, b < w1.heap.size → some b ≠ cv.ownBlock → w3.heap[b]? = w1.heap[b]? := fun b h1 h2 =>
    (hgrow.block b (by omega) h2).trans (((Below.refl w1.heap.size w1).alloc (Nat.le_refl _) o).block b h1)
  refine ⟨xs ++ [.int .i64 t.k, .int .i64 t.n, v], fun i => if i = j then v else vs i, fun i => if i = j then w.heap.size else l i, fun i => if i = j then w1.heap.size else h i, hown, ?_, ?_, ?_, ?_, ?_, ?_, ?_⟩
  · intro i hi
    by_cases hij : i = j
    · subst hij; rw [List.getElem?_append_right (by omega), ht, hlen]; simp
    · exact get_old (f.x0 i (by omega))
  · intro i hi
    by_cases hij : i = j
    · subst hij; rw [List.getElem?_append_right (by omega), ht, hlen]; simp
    · exact get_old (f.x1 i (by omega))
  · intro i hi
    by_cases hij : i = j
    · subst hij; rw [List.getElem?_append_right (by omega), hlen]; simp
    · simp only [hij, if_false]; exact get_old (f.x2 i (by omega))
  · intro i hi
    by_cases hij : i = j
    · simp only [hij, if_true]; omega
    · have := f.lo i (by omega); simp only [hij, if_false]; omega
  · intro i k hik hk
    have hij : i ≠ j := by omega
    by_cases hkj : k = j
    · have := f.lo i (by omega); simp only [hij, hkj, if_false, if_true]; omega
    · simp only [hij, hkj, if_false]; exact f.di i k hik (by omega)
  · intro i hi
    by_cases hij : i = j
    · subst hij
      simp only [if_true]
      rw [ht]
      exact hty.keep (by omega) (fun b h1 h2 h3 => hold b h3 (fun e => by have := (own_low f.own e.symm).2; omega))
    · simp only [hij, if_false]
      have hlo := f.lo i (by omega)
      exact (f.ty i (by omega)).keep (by omega) (fun b h1 h2 h3 => (hold b (by omega) (fun e => by have := f.ap b e.symm i (by omega); omega)).trans (hb.block b h3))
  · intro g' hg' i hi
    have e : g = g' := by simpa [Value.ownBlock] using hg'
    subst e
    rcases hat with hat | hat
    · have hgl := (own_low f.own hat).2
      by_cases hij : i = j
      · simp only [hij, if_true]; omega
      · simp only [hij, if_false]; exact f.ap g hat i (by omega)
    · by_cases hij : i = j
      · simp only [hij, if_true]; omega
      · have := f.lo i (by omega); simp only [hij, if_false]; omega
/-- The row is a type's operands. -/
theorem Gr.done {rs : List Ty} {B : Nat} {w : World} {cv : Value} {xs : List Value} {vs : Nat → Value} {l h : Nat → Nat} (f : Gr rs B rs.length w cv xs vs l h) (k n : Int) (hl : rs.length ≤ 9223372036854775807) :
    TyIn w B w.heap.size (.node k n rs) cv := by
  have hown := f.own
  obtain ⟨hlen, ⟨rfl, h0⟩ | ⟨g, cap, cur, rfl, hb', hg, h1, h2, h3, h4⟩⟩ := f.own
  · rw [List.length_eq_zero_iff.1 h0]; exact .bare _ _ _ _ _ _
  · have hgs := own_low hown (g := g) rfl
    have hc : ∀ i, i < rs.length → ∀ q, q < 3 → w.cell? ⟨g, i * 3 + q, none⟩ = xs[i * 3 + q]? := fun i hi q hq => hown.cellAt _ (by omega)
    refine .row B w.heap.size k n rs g cap vs l h hb' hgs.2 (row_own hown) hl (fun i hi => ?_) (fun i hi => ?_) (fun i hi => ?_) (fun i hi => hown.frozenAt i) (fun i hi => ?_) (fun i j hij hj => f.di i j hij hj) (fun i hi => f.ty i hi)
    · exact (hc i hi 0 (by omega)).trans (f.x0 i hi)
    · exact (hc i hi 1 (by omega)).trans (f.x1 i hi)
    · exact (hc i hi 2 (by omega)).trans (f.x2 i hi)
    · have h5 := f.lo i hi; have h6 := f.ap g rfl i hi; exact ⟨h5.1, h5.2, h6⟩
theorem grow_old {w2 w3 : World} {o : Obj} {row : Option Nat} (hg : (w2.alloc o).grownBy w3 row) {q : Nat} (h1 : q < w2.heap.size) (h2 : ∀ g, row = some g → q ≠ g) : w3.heap[q]? = w2.heap[q]? :=
  (hg.block q (by simp; omega) (fun e => h2 q e.symm rfl)).trans (((Below.refl w2.heap.size w2).alloc (Nat.le_refl _) o).block q h1)
theorem grow_size {w2 w3 : World} {o : Obj} {row : Option Nat} (hg : (w2.alloc o).grownBy w3 row) : w2.heap.size + 1 ≤ w3.heap.size := by have := hg.size; simp at this; omega
theorem in_grow {lo hi : Nat} {W w2 w3 : World} {o : Obj} {row : Option Nat} (h : Inside lo hi W w2) (hg : (w2.alloc o).grownBy w3 row) (hr : ∀ g, row = some g → W.heap.size ≤ g) : Inside lo hi W w3 := by
  have ha := (Below.refl w2.heap.size w2).alloc (Nat.le_refl _) o
  exact ⟨hg.os.trans (ha.os.trans h.os), hg.tape.trans (ha.tape.trans h.tape), hg.output.trans (ha.output.trans h.output), by have := grow_size hg; have := h.size; omega, fun b hb hx => (grow_old hg (Nat.lt_of_lt_of_le hb h.size) (fun g e => by have := hr g e; omega)).trans (h.block b hb hx)⟩
theorem cell_one {W : World} {B R o i : Nat} {x : Value} (h : ¬ B = R) : (W.setCell ⟨R, i, none⟩ x).cell? ⟨B, o, none⟩ = W.cell? ⟨B, o, none⟩ := cellEq (heap_setCell_other _ ⟨R, i, none⟩ B _ h)

end Go.Proofs.Ytlgbkhkmfgdehaa

namespace Go.Proofs.Ytlgbkhkmfgdehaa
open Go.RowKit
set_option linter.unusedVariables false
set_option linter.unusedSimpArgs false

set_option maxRecDepth 100000 in
set_option maxHeartbeats 8000000 in
theorem l2Copy_of (t : Ty) (rs : List Ty) (v : Value) (w : World) (hx : TyAt w t v) (hrs : rs.length = t.ks.length) (hsz : t.ks.length ≤ 1000000)
    (H : ∀ i, i < t.ks.length → ∀ (vi : Value) (W : World), TyAt W (t.ks.getD i Ty.dummy) vi → Calls Try.prog 30 #[.agg #[.int .i64 (t.ks.getD i Ty.dummy).k, .int .i64 (t.ks.getD i Ty.dummy).n, vi]] W (TyRet (rs.getD i Ty.dummy) W)) :
    Calls Try.prog 30 #[.agg #[.int .i64 t.k, .int .i64 t.n, v]] w (TyRet (.node t.k t.n rs) w) := by
  obtain ⟨i0, hi0, hz0, hz1, hz2⟩ := info_parts infoTy
  have HH := Lib.hid H
  have HX0 := Lib.hid hx
  obtain ⟨a, cap, rfl, hlen⟩ := hx.slice
  obtain ⟨L, hL⟩ : ∃ L, t.ks.length = L := ⟨_, rfl⟩
  have HL := Lib.hid hL
  have HRS := Lib.hid (hrs.trans hL)
  rw [hL] at hlen hsz ⊢
  obtain ⟨S, hS⟩ : ∃ S, w.heap.size = S := ⟨_, rfl⟩
  have HS := Lib.hid hS
  obtain ⟨W1, hW1⟩ : ∃ W1, ((w.alloc (.cells #[.int .i64 t.k, .int .i64 t.n, .slice a L cap] 28)).alloc (.cells #[.int .i64 0, .int .i64 0, .slice none 0 0] 28)).alloc (.cells #[.int .i64 t.k, .int .i64 t.n, .slice none 0 0] 28) = W1 := ⟨_, rfl⟩
  have HW1 := Lib.hid hW1
  have hB1 : Below w.heap.size w W1 := by rw [← hW1]; exact (((Below.refl _ _).alloc (Nat.le_refl _) _).alloc (by simp) _).alloc (by simp; omega) _
  have HB1S : Hid (Below S w W1) := Lib.hid (by rw [← hS]; exact hB1)
  have HT1 : Hid (TBox W1 S (.int .i64 t.k) (.int .i64 t.n) (.slice a L cap)) := Lib.hid (by rw [← hW1, ← hS]; exact ((tbox_new w _ _ _ _).kept ((Below.refl _ _).alloc (Nat.le_refl _) _)).kept ((Below.refl _ _).alloc (Nat.le_refl _) _))
  have HR1 : Hid (RB W1 (S + 1)) := Lib.hid (by have h := (rb_new (w.alloc (.cells #[.int .i64 t.k, .int .i64 t.n, .slice a L cap] 28)) 28).kept ((Below.refl _ _).alloc (Nat.le_refl _) (.cells #[.int .i64 t.k, .int .i64 t.n, .slice none 0 0] 28)); rw [sizeA, hW1, hS] at h; exact h)
  have HO1 : Hid (OB W1 (S + 1 + 1) t.k t.n (.slice none 0 0)) := Lib.hid (by
    have h := ob_new ((w.alloc (.cells #[.int .i64 t.k, .int .i64 t.n, .slice a L cap] 28)).alloc (.cells #[.int .i64 0, .int .i64 0, .slice none 0 0] 28)) t.k t.n (.slice none 0 0) 28
    rw [sizeA, sizeA, hW1, hS] at h
    exact h)
  have hz1' : W1.heap.size = S + 1 + 1 + 1 := by rw [← hW1, ← hS]; simp
  have HSW := Lib.hid (show S ≤ W1.heap.size by omega)
  clear hx hL hrs H hB1 hW1
  go_enter Try.func30, Try.ntmps30
  go_wp2_with fail
  rw [HW1.out]
  clear hS
  go_loopw [4] (fun i wr => ∃ (j : Nat) (cv : Value) (xs : List Value) (vs : Nat → Value) (l h : Nat → Nat), j ≤ L ∧ i = .int .i64 j ∧ Hid (Gr rs (S + 1 + 1 + 1) j wr cv xs vs l h) ∧ Hid (OB wr (S + 1 + 1) t.k t.n cv) ∧ Hid (Inside (S + 1 + 1) (S + 1 + 1 + 1) W1 wr)) (fun i _ => L - (intOf i).toNat)
  case atStart => exact ⟨0, _, [], _, _, _, Nat.zero_le _, rfl, Lib.hid (gr_nil rs (S + 1 + 1 + 1) W1), HO1, Lib.hid (Inside.refl _ _ _)⟩
  case round =>
    obtain ⟨j, cv, xs, vs, l, h, hj, rfl, hgr, hob, hin⟩ := hrel
    have HTw := Lib.hid (HT1.out.away hin.out (.inl (by omega)))
    have hszw : S + 1 + 1 + 1 ≤ wr.heap.size := by have := hin.out.size; omega
    by_cases hlt : j < L
    · have hji : (j : Int) < (L : Int) := by omega
      have hti := hin.out.below (B := S) (by omega) HB1S.out HSW.out
      obtain ⟨b, o, cap2, vi, ex, bl, y0, y1, y2, hkid⟩ := HX0.out.kid j (by rw [HL.out]; exact hlt)
      have ex1 : a = some ⟨b, o, none⟩ := by injection ex
      subst ex1
      rw [HS.out] at bl
      replace y0 := (hti.cell (p := ⟨b, o + j * 3, none⟩) bl).trans y0
      replace y1 := (hti.cell (p := ⟨b, o + j * 3 + 1, none⟩) bl).trans y1
      replace y2 := (hti.cell (p := ⟨b, o + j * 3 + 2, none⟩) bl).trans y2
      have HKID := Lib.hid (hkid.kept (by rw [HS.out]; exact hti))
      have HJ := Lib.hid (HH.out j (by rw [HL.out]; exact hlt) vi)
      obtain ⟨x, hx⟩ : ∃ x, t.ks.getD j Ty.dummy = x := ⟨_, rfl⟩
      obtain ⟨y, hy⟩ : ∃ y, rs.getD j Ty.dummy = y := ⟨_, rfl⟩
      rw [hx] at y0 y1 HKID HJ
      rw [hy] at HJ
      have HY := Lib.hid hy
      have hbw : b < wr.heap.size := by omega
      have h63 : j + 1 ≤ maxLen := by unfold maxLen; omega
      have hby : (j + 1) * 40 ≤ 140737488355328 := by omega
      obtain ⟨t0, t1, t2, tz⟩ := HTw.out
      obtain ⟨p0, p1, p2, pf2, pz⟩ := hob.out
      have hn0 : ¬ S = S + 1 + 1 := by omega
      have hn1 : ¬ b = S + 1 + 1 := by omega
      have HTI := Lib.hid hti
      have hszS : S ≤ wr.heap.size := by omega
      clear ex hkid hx hy hti t0 t1 tz
      go_wp2_with fail
      go_region_law (first
        | (refine step_append_lies _ (by rfl) _ _ _ (by rfl) (S + 1 + 1 + 1) 28 i0 _ 3 40 Try.underlying26 hi0 hz0 hz1 hz2 rfl (by omega) cv j xs (by rfl) (HOWN2.out.alloc _) ⟨w2.heap.size, 0, none⟩ 1 1 [.int .i64 y.k, .int .i64 y.n, .slice a2 y.ks.length k2] (by rfl) (by rfl) (World.news_of_block (cs := #[.int .i64 y.k, .int .i64 y.n, .slice a2 y.ks.length k2]) (t := 28) (fr := (0, 0)) (heap_alloc_new w2 _)) (by simp [Value.oneCell']) (by omega) h63 hby (hbase2 _) (w2.heap.size + 1) (by simp) ?_; intro g cap3 w3 hown3 hgrow hat hltg; obtain ⟨xs3, vs3, l3, h3, hg3⟩ := hgr.out.step (by omega) HY.out HB2.out HTY2.out hown3 hgrow hat; have hrow : ∀ q, cv.ownBlock = some q → S + 1 + 1 + 1 ≤ q := (fun q e => (own_low HOWN2.out e).1); have e0 := grow_old hgrow (q := S) (by omega) (fun q e => by have := hrow q e; omega); have e1 := grow_old hgrow (q := b) (by omega) (fun q e => by have := hrow q e; omega); have HO3 := Lib.hid (HO2.out.keep (by have := grow_size hgrow; omega) (grow_old hgrow (q := S + 1 + 1) (by omega) (fun q e => by have := hrow q e; omega))); have HI3 := Lib.hid (in_grow HI2.out hgrow (fun q e => by have := hrow q e; omega)); have HG3 := Lib.hid hg3; have f2 := (cellEq e0).trans c2; have g0 := (cellEq e1).trans d0; have g1 := (cellEq e1).trans d1; have g2 := (cellEq e1).trans d2; obtain ⟨o0, o1, o2, of2, oz⟩ := HO3.out; have hs3 := grow_size hgrow; clear hown3 hgrow hat hg3 e0 e1)
        | (go_simp; go_at_call 30; refine (HJ.out _ (HKID.out.kept (by first | exact Below.refl _ _ | exact (Below.refl _ _).drew))).mono ?_; rintro e w2 ⟨v2, rfl, hty2, hb2⟩; obtain ⟨a2, k2, rfl, _⟩ := hty2.at.slice; have hb2' : Below wr.heap.size wr w2 := Below.trans (B := wr.heap.size) (by first | exact Below.refl _ _ | exact (Below.refl _ _).drew) hb2; have hty2' : TyIn w2 wr.heap.size w2.heap.size y (.slice a2 y.ks.length k2) := hty2; have HTY2 := Lib.hid hty2'; have HB2 := Lib.hid hb2'; have HOWN2 := Lib.hid (own_below hgr.out.own hb2'); have HO2 := Lib.hid (hob.out.kept hb2'); have HT2 := Lib.hid (HTw.out.kept hb2'); have HI2 := Lib.hid (hin.out.trans (Inside.of_below hb2')); have hs2 : wr.heap.size ≤ w2.heap.size := hb2'.size; have hbase2 : ∀ o, S + 1 + 1 + 1 ≤ (w2.alloc o).heap.size := (fun o => by simp; omega); obtain ⟨c0, c1, c2, cz⟩ := HT2.out; obtain ⟨rp0, rp1, rp2, rpf, rpz⟩ := HO2.out; have d0 := (hb2'.cell (p := ⟨b, o + j * 3, none⟩) hbw).trans y0; have d1 := (hb2'.cell (p := ⟨b, o + j * 3 + 1, none⟩) hbw).trans y1; have d2 := (hb2'.cell (p := ⟨b, o + j * 3 + 2, none⟩) hbw).trans y2; clear hb2 hb2' hty2 hty2'))
      all_goals go_wp2_with fail
      all_goals go_roundw
      all_goals first
        | exact ⟨j + 1, _, _, _, _, _, by omega, by go_num, Lib.hid (HG3.out.keep (by simp) (fun q h1 _ => heap_setCell_other _ ⟨S + 1 + 1, 2, none⟩ q _ (by show q ≠ S + 1 + 1; omega))), Lib.hid (HO3.out.set _), Lib.hid (HI3.out.trans (Inside.set _ _ _ (Nat.le_refl _) (Nat.lt_succ_self _)))⟩
        | (simp [intOf]; omega)
    · have hji : ¬ (j : Int) < (L : Int) := by omega
      obtain rfl : j = L := by omega
      have hgd := hgr.out
      rw [← HRS.out] at hgd
      have HD := Lib.hid (hgd.done t.k t.n (by rw [HRS.out]; exact hlen))
      obtain ⟨ca, cc, rfl, _⟩ := HD.out.at.slice
      have HRw := Lib.hid (HR1.out.keep hin.out.size (hin.out.block _ HR1.out.sz (.inl (by omega))))
      have HBw := Lib.hid (hin.out.below (B := S) (by omega) HB1S.out HSW.out)
      obtain ⟨t0, t1, t2, tz⟩ := HTw.out
      obtain ⟨p0, p1, p2, pf2, pz⟩ := hob.out
      obtain ⟨q0, q1, q2, qf0, qf1, qf2, qz⟩ := HRw.out
      clear hgd
      go_wp2_with fail
      exact bodyPost_ret (v := .agg #[.int .i64 t.k, .int .i64 t.n, .slice ca (Ty.node t.k t.n rs).ks.length cc]) (by simp [results, Try.results30, go_sem, q0, q1, q2, Ty.ks, HRS.out]) rfl ⟨_, rfl, TyIn.wide (res_ty (B := S + 1) (w := w) (HD.out.wide (by omega) (Nat.le_refl _)) (by rw [HS.out]; omega) _ _ _) (Nat.le_refl _) (Nat.le_refl _), Inside.thin (in_res (lo := w.heap.size) (hi := w.heap.size) (Inside.of_below (by rw [HS.out]; exact HBw.out)) (by rw [HS.out]; omega) _ _ _)⟩

/-- l2Copy copies every well-formed type. -/
theorem l2Copy_any : ∀ (d : Nat) (t : Ty) (v : Value) (w : World), shp d t = true → TyAt w t v → Calls Try.prog 30 #[.agg #[.int .i64 t.k, .int .i64 t.n, v]] w (TyRet t w) := by
  intro d
  induction d with
  | zero => intro t v w h; cases h
  | succ d ih =>
    intro t v w h hx
    obtain ⟨hf, hk⟩ := shp_iff.1 h
    have hl := fieldsB_len hf
    have h1 := l2Copy_of t t.ks v w hx rfl (by omega) (fun i hi vi W hki => ih _ vi W (hk i hi) hki)
    cases t with
    | node k n ks => exact h1

end Go.Proofs.Ytlgbkhkmfgdehaa

namespace Go.Proofs.Ytlgbkhkmfgdehaa
open Go.RowKit
set_option linter.unusedVariables false
set_option linter.unusedSimpArgs false

end Go.Proofs.Ytlgbkhkmfgdehaa

namespace Go.Proofs.Ytlgbkhkmfgdehaa
open Go.RowKit
set_option linter.unusedVariables false
set_option linter.unusedSimpArgs false

/-- What a variable is replaced by. -/
def sF (ls : List Ty) : List Int → Int → Ty × List Int := fun st n => if n < ls.length then (ls.getD n.toNat Ty.dummy, st) else (.node 4 n [], st)
theorem sF_in {ls : List Ty} {st : List Int} {i : Nat} (h : i < ls.length) : sF ls st (i : Int) = (ls.getD i Ty.dummy, st) := by
  unfold sF; rw [if_pos (by omega)]; simp
theorem sF_out {ls : List Ty} {st : List Int} {n : Int} (h : ¬ n < ls.length) : sF ls st n = (.node 4 n [], st) := by unfold sF; rw [if_neg h]
/-- The type with its variables replaced. -/
def sbT (ls : List Ty) (d : Nat) (t : Ty) : Ty := (rp (sF ls) d t []).1
theorem sF_st (ls : List Ty) (st : List Int) (n : Int) : (sF ls st n).2 = st := by unfold sF; split <;> rfl
theorem rp_st (ls : List Ty) : ∀ (d : Nat) (t : Ty) (st : List Int), (rp (sF ls) d t st).2 = st ∧ (rp (sF ls) d t st).1 = (rp (sF ls) d t []).1 := by
  intro d
  induction d with
  | zero => intro t st; exact ⟨rfl, rfl⟩
  | succ d ih =>
    intro t st
    cases t with
    | node k n ks =>
      by_cases h4 : k = 4
      · subst h4
        simp only [rp, if_true]
        refine ⟨sF_st _ _ _, ?_⟩
        unfold sF; split <;> rfl
      · match ks with
        | [] => simp [rp, h4]
        | [a] => simp [rp, h4]
        | [a, b] =>
          have h1 := ih a st; have h2 := ih a []; have h3 := ih b st; have h5 := ih b []
          simp only [rp, if_neg h4]
          rw [h1.1, h2.1, h3.1, h3.2, h1.2]
          exact ⟨rfl, rfl⟩
        | a :: b :: c :: r => simp [rp, h4]
theorem sbT_join {ls : List Ty} {d : Nat} {k : Int} {ta tb : Ty} (h4 : k ≠ 4) : sbT ls (d + 1) (.node k 0 [ta, tb]) = .node k 0 [sbT ls d ta, sbT ls d tb] := by
  unfold sbT
  rw [rp]
  · rw [if_neg h4, (rp_st ls d ta []).1]

/-- The list that the function holds lies in the block q. -/
def HoldsQ (q : Nat) (lv : Value) : List Int → World → Prop := fun _ w => q < w.heap.size ∧ w.cell? ⟨q, 0, none⟩ = some lv
theorem holdsQ_stays (q : Nat) (lv : Value) : Stays (HoldsQ q lv) q (q + 1) :=
  ⟨fun _ _ _ h hs hk => ⟨Nat.lt_of_lt_of_le h.1 hs, (cellEq (hk q (Nat.le_refl _) (Nat.lt_succ_self _))).trans h.2⟩, fun _ _ h => h.1⟩
theorem RvPost.of {r : Ty} {st : List Int} {I : List Int → World → Prop} {lo hi : Nat} (S : Stays I lo hi) {w0 w : World} {e : Ending} {w' : World} (h : TyRet r w e w') (hst : I st w) : RvPost (r, st) I lo hi w e w' := by
  obtain ⟨v, he, ht, hb⟩ := h
  exact ⟨v, he, ht, Inside.of_below hb, S.below hst hb⟩

end Go.Proofs.Ytlgbkhkmfgdehaa

namespace Go.Proofs.Ytlgbkhkmfgdehaa
open Go.RowKit
set_option linter.unusedVariables false
set_option linter.unusedSimpArgs false

/-- Every type of a list is valid. -/
def allV (ls : List Ty) : Prop := ∀ i, i < ls.length → tvT (ls.getD i Ty.dummy) = true
open Classical in
/-- What SubstVars returns. -/
noncomputable def svT (t : Ty) (ls : List Ty) : Option Ty := if tvT t = true ∧ allV ls ∧ tvT (sbT ls 16 t) = true then some (sbT ls 16 t) else none
theorem svT_t {t : Ty} {ls : List Ty} (h : tvT t = false) : svT t ls = none := by unfold svT; rw [if_neg (by simp [h])]
theorem svT_l {t : Ty} {ls : List Ty} {i : Nat} (hi : i < ls.length) (h : tvT (ls.getD i Ty.dummy) = false) : svT t ls = none := by
  unfold svT; rw [if_neg]; rintro ⟨_, hl, _⟩; have := hl i hi; rw [h] at this; cases this
theorem svT_r {t : Ty} {ls : List Ty} (h : tvT (sbT ls 16 t) = false) : svT t ls = none := by unfold svT; rw [if_neg (by simp [h])]
theorem svT_y {t : Ty} {ls : List Ty} (h : tvT t = true) (hl : allV ls) (hr : tvT (sbT ls 16 t) = true) : svT t ls = some (sbT ls 16 t) := by unfold svT; rw [if_pos ⟨h, hl, hr⟩]
theorem allV_shp {ls : List Ty} (h : allV ls) : ∀ i, i < ls.length → shp 16 (ls.getD i Ty.dummy) = true := fun i hi => tvT_shp (h i hi)

theorem holdsQ_new (w : World) (o : Obj) (lv : Value) (T : TypeId) : HoldsQ (w.heap.size + 1) lv [] ((w.alloc o).alloc (.cells #[lv] T)) := by
  refine ⟨by simp, ?_⟩
  have e := sizeA w o
  rw [← e]
  go_simp
end Go.Proofs.Ytlgbkhkmfgdehaa

