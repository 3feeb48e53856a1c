/-
  l2Match of the model: it finds the replacements of the variables of a type that yield another one, in a row of 26 types.
-/
import Derived.Test.YtncpakpamfocbabGab
import Derived.Test.YtncpakpamfocbabYb
import Derived.Test.YtncpakpamfocbabBh
import Derived.Deep.RegionHeld3
import Derived.Deep.DeepCutAuto
namespace Go.Proofs.Ytncpakpamfocbab.Mx
open Go.Proofs.Ytncpakpamfocbab
open Go.RowKit
set_option linter.unusedVariables false
set_option linter.unusedSimpArgs false

/-- The row of 26 types. -/
def KR (w : World) (kb : Nat) (xs : List Value) : Prop := w.ownsRow kb 29 3 (.slice (some ⟨kb, 0, none⟩) 26 26) 26 xs
theorem KR.len {w : World} {kb : Nat} {xs : List Value} (h : KR w kb xs) : xs.length = 78 := h.1
theorem KR.lt {w : World} {kb : Nat} {xs : List Value} (h : KR w kb xs) : kb < w.heap.size := (own_block h).2
theorem KR.at {w : World} {kb : Nat} {xs : List Value} (h : KR w kb xs) {i : Nat} (hi : i < 78) : w.cell? ⟨kb, i, none⟩ = xs[i]? := World.ownsRow.cellAt h i (by omega)
theorem KR.below {w w' : World} {kb : Nat} {xs : List Value} (h : KR w kb xs) (hb : Below w.heap.size w w') : KR w' kb xs := own_below h hb
theorem set_in {w : World} {kb i : Nat} (x : Value) : Inside kb (kb + 1) w (w.setCell ⟨kb, i, none⟩ x) :=
  ⟨rfl, rfl, rfl, by simp, fun b _ hx => heap_setCell_other w ⟨kb, i, none⟩ b x (by show b ≠ kb; omega)⟩
/-- Where the loop of l2Match stands. -/
structure KS (w0 w : World) (S kb : Nat) (s g : Ty) (vs vg : Value) (d j : Nat) (M : Asn) (wr : World) (N : Asn) (xs : List Value) : Prop where
  it : iter (fun i N => mtf d (g.ks.getD i Ty.dummy) (s.ks.getD i Ty.dummy) N) j M = some N
  im : KR wr kb xs
  rl : RelS w0 N xs
  hin : Inside kb (kb + 1) w wr
  b0 : Below w0.heap.size w0 wr
  bx : TBox wr S (.int .i64 g.k) (.int .i64 g.n) vg
  by_ : TBox wr (S + 1) (.int .i64 s.k) (.int .i64 s.n) vs
theorem KS.next {w0 w : World} {S kb : Nat} {s g : Ty} {vs vg : Value} {d j : Nat} {M : Asn} {wr : World} {N : Asn} {L : List Value} (h : KS w0 w S kb s g vs vg d j M wr N L) {w' : World} {N' : Asn} {L' : List Value} (hbm : kb < S) (h0 : w0.heap.size ≤ kb) (hI : Inside kb (kb + 1) wr w') (hm : mtf d (g.ks.getD j Ty.dummy) (s.ks.getD j Ty.dummy) N = some N') (him : KR w' kb L') (hr : RelS w0 N' L') : KS w0 w S kb s g vs vg d (j + 1) M w' N' L' :=
  ⟨iter_next h.it hm, him, hr, h.hin.trans hI, hI.below h0 h.b0 h.b0.size, h.bx.aside hI.size (hI.block _ h.bx.sz (.inr (by omega))), h.by_.aside hI.size (hI.block _ h.by_.sz (.inr (by omega)))⟩

set_option maxRecDepth 100000 in
set_option maxHeartbeats 4000000 in
theorem l2Match_any (w0 : World) (kb : Nat) (hkb : w0.heap.size ≤ kb) : ∀ (d : Nat) (s g : Ty) (vs vg : Value) (M : Asn) (xs : List Value) (w : World), shp d s = true → shp d g = true → TyAt w0 s vs → TyAt w0 g vg → Below w0.heap.size w0 w → KR w kb xs → RelS w0 M xs →
    Calls Try.prog 41 #[.agg #[.int .i64 g.k, .int .i64 g.n, vg], .agg #[.int .i64 s.k, .int .i64 s.n, vs], .slice (some ⟨kb, 0, none⟩) 26 26] w fun e w' => e = .returned (.bool (mtf d g s M).isSome) ∧ Inside kb (kb + 1) w w' ∧ ∀ M', mtf d g s M = some M' → ∃ xs', KR w' kb xs' ∧ RelS w0 M' xs' := by
  have hkb0 := Lib.hid hkb
  intro d
  induction d with
  | zero => intro s g vs vg M L w hs; exact (shp_zero hs).elim
  | succ d ih =>
    intro s g vs vg M xs w hs hg hvs hvg hb hm hr
    have IH := Lib.hid ih
    obtain ⟨fs, ks⟩ := shp_parts hs
    obtain ⟨fg, kg⟩ := shp_parts hg
    have FS := Lib.hid fs
    have FG := Lib.hid fg
    have KS_ := Lib.hid ks
    have KG := Lib.hid kg
    have HR := Lib.hid hr
    have HVS := Lib.hid hvs
    have HVG := Lib.hid hvg
    obtain ⟨sa, sc, rfl, _⟩ := hvs.slice
    obtain ⟨ga, gc, rfl, _⟩ := hvg.slice
    have hbw := hm.lt
    obtain ⟨S, hS⟩ : ∃ S, w.heap.size = S := ⟨_, rfl⟩
    rw [hS] at hbw
    obtain ⟨W1, hW1⟩ : ∃ W, (w.alloc (.cells #[.int .i64 g.k, .int .i64 g.n, .slice ga g.ks.length gc] 29)).alloc (.cells #[.int .i64 s.k, .int .i64 s.n, .slice sa s.ks.length sc] 29) = W := ⟨_, rfl⟩
    have hB1 : Below w.heap.size w W1 := by rw [← hW1]; exact ((Below.refl _ _).alloc (Nat.le_refl _) _).alloc (by simp) _
    have HX1 : Hid (TBox W1 S (.int .i64 g.k) (.int .i64 g.n) (.slice ga g.ks.length gc)) := Lib.hid (by
      rw [← hW1, ← hS]; exact (tbox_new w _ _ _ _).kept ((Below.refl _ _).alloc (Nat.le_refl _) _))
    have HY1 : Hid (TBox W1 (S + 1) (.int .i64 s.k) (.int .i64 s.n) (.slice sa s.ks.length sc)) := Lib.hid (by
      have h := tbox_new (w.alloc (.cells #[.int .i64 g.k, .int .i64 g.n, .slice ga g.ks.length gc] 29)) (.int .i64 s.k) (.int .i64 s.n) (.slice sa s.ks.length sc) 29
      rw [hW1, sizeA', hS] at h; exact h)
    have HM1 := Lib.hid (hm.below hB1)
    have HM0 := Lib.hid hm
    have HB1 := Lib.hid hB1
    have HI1 : Hid (Inside kb (kb + 1) w W1) := Lib.hid (in_below hB1)
    have HB0 := Lib.hid (hb.trans (hB1.mono hb.size))
    have HW1 := Lib.hid hW1
    have HS := Lib.hid hS
    clear ih hs hg fs fg ks kg hr hvs hvg hb hm hB1 hW1
    by_cases h4 : g.k = 4
    · have H4 := Lib.hid h4
      have e4 : (g.k == 4) = true := by simpa using h4
      obtain ⟨v0, v25⟩ := fields_var FG.out h4
      obtain ⟨q, hq⟩ : ∃ q : Nat, g.n = (q : Int) := ⟨g.n.toNat, by omega⟩
      have HQ := Lib.hid hq
      have hq26 : q < 26 := by omega
      have hqi : (q : Int) < 26 := by omega
      rw [hq] at HX1 HW1 ⊢
      have hlen := HM1.out.len
      clear h4 v0 v25
      rcases ha : alook (q : Int) M with _ | b
      · have HA := Lib.hid ha
        have c0 := (HM0.out.at (i := q * 3) (by omega)).trans (HR.out.no q hq26 ha)
        have hq1 : q * 3 + 1 < xs.length := by omega
        have hq2 : q * 3 + 2 < xs.length := by omega
        have c1 := (HM0.out.at (i := q * 3 + 1) (by omega)).trans (List.getElem?_eq_getElem hq1)
        have c2 := (HM0.out.at (i := q * 3 + 2) (by omega)).trans (List.getElem?_eq_getElem hq2)
        generalize xs[q * 3 + 1] = u1 at c1
        generalize xs[q * 3 + 2] = u2 at c2
        have m0 := World.ownsRow.frozenAt HM0.out (q * 3)
        have m1 := World.ownsRow.frozenAt HM0.out (q * 3 + 1)
        have m2 := World.ownsRow.frozenAt HM0.out (q * 3 + 2)
        obtain ⟨s1, _⟩ := World.ownsRow.stored HM0.out (q * 3) (.int .i64 s.k)
        obtain ⟨s2, _⟩ := s1.stored (q * 3 + 1) (.int .i64 s.n)
        obtain ⟨s3, _⟩ := s2.stored (q * 3 + 2) (.slice sa s.ks.length sc)
        have hi3 : Inside kb (kb + 1) w (((w.setCell ⟨kb, q * 3, none⟩ (.int .i64 s.k)).setCell ⟨kb, q * 3 + 1, none⟩ (.int .i64 s.n)).setCell ⟨kb, q * 3 + 2, none⟩ (.slice sa s.ks.length sc)) := ((set_in _).trans (set_in _)).trans (set_in _)
        have HI3 := Lib.hid hi3
        have HS3 : Hid (KR (((w.setCell ⟨kb, q * 3, none⟩ (.int .i64 s.k)).setCell ⟨kb, q * 3 + 1, none⟩ (.int .i64 s.n)).setCell ⟨kb, q * 3 + 2, none⟩ (.slice sa s.ks.length sc)) kb _) := Lib.hid s3
        have HMT : Hid (mtf (d + 1) g s M = some (M ++ [((q : Int), s)])) := Lib.hid (by rw [mtf_new H4.out (by rw [hq]; exact ha), hq])
        have HRP := Lib.hid (HR.out.put hlen hq26 ha HVS.out (fields_kind FS.out))
        obtain ⟨x0, x1, x2, xz⟩ := HX1.out
        obtain ⟨y0, y1, y2, yz⟩ := HY1.out
        clear ha hq1 hq2 s1 s2 s3 hi3 hq hlen
        go_enter Try.func41, Try.ntmps41
        go_wp2_with fail
        go_ret
        refine ⟨by rw [HMT.out]; rfl, HI3.out.trans (in_below (((Below.refl _ _).alloc (Nat.le_refl _) _).alloc (by simp) _)), fun M' e => ?_⟩
        rw [HMT.out] at e
        injection e with e
        subst e
        exact ⟨_, HS3.out.below (((Below.refl _ _).alloc (Nat.le_refl _) _).alloc (by simp) _), HRP.out⟩
      · obtain ⟨vb, g0, g1, g2, hab, hk0⟩ := HR.out.yes q hq26 b ha
        have c0 := (HM0.out.at (i := q * 3) (by omega)).trans g0
        have c1 := (HM0.out.at (i := q * 3 + 1) (by omega)).trans g1
        have c2 := (HM0.out.at (i := q * 3 + 2) (by omega)).trans g2
        obtain ⟨ba, bc, rfl, _⟩ := hab.slice
        have HAB := Lib.hid hab
        have ek0 : (b.k != 0) = true := by simpa using hk0
        have HMT : Hid (mtf (d + 1) g s M = if sameB b s = true then some M else none) := Lib.hid (mtf_old H4.out (by rw [hq]; exact ha))
        obtain ⟨x0, x1, x2, xz⟩ := HX1.out
        obtain ⟨y0, y1, y2, yz⟩ := HY1.out
        have C0 := Lib.hid ((HM1.out.at (i := q * 3) (by omega)).trans g0)
        have C1 := Lib.hid ((HM1.out.at (i := q * 3 + 1) (by omega)).trans g1)
        have C2 := Lib.hid ((HM1.out.at (i := q * 3 + 2) (by omega)).trans g2)
        have hkl : kb < W1.heap.size := HM1.out.lt
        clear ha hq hlen g0 g1 g2 hab hk0
        rcases hs : sameB b s with _ | _
        · have HSB := Lib.hid hs
          clear hs
          go_enter Try.func41, Try.ntmps41
          go_wp2_with fail
          rw [HW1.out]
          have d0 := C0.out
          have d1 := C1.out
          have d2 := C2.out
          go_region_held3 (fun w' => w'.cell? ⟨S, 1, none⟩ = some (.int .i64 (q : Int)) ∧ w'.cell? ⟨kb, q * 3, none⟩ = some (.int .i64 b.k) ∧ w'.cell? ⟨kb, q * 3 + 1, none⟩ = some (.int .i64 b.n) ∧ w'.cell? ⟨kb, q * 3 + 2, none⟩ = some (.slice ba b.ks.length bc) ∧ w'.cell? ⟨S + 1, 0, none⟩ = some (.int .i64 s.k) ∧ w'.cell? ⟨S + 1, 1, none⟩ = some (.int .i64 s.n) ∧ w'.cell? ⟨S + 1, 2, none⟩ = some (.slice sa s.ks.length sc)) (go_keep)
            (first | (go_at_call 14; refine (typeSame_spec _ b s _ _ _ (Nat.lt_succ_self _) (HAB.out.kept (by first | exact HB0.out | exact HB0.out.drew)) (HVS.out.kept (by first | exact HB0.out | exact HB0.out.drew))).mono ?_; rintro e w2 ⟨rfl, hb2⟩; rw [HSB.out]; have hb3 : Below W1.heap.size W1 w2 := Below.trans (B := W1.heap.size) (by first | exact Below.refl _ _ | exact (Below.refl _ _).drew) hb2; have HI3 := Lib.hid (HI1.out.trans (in_below hb3)); have HM3 := Lib.hid (HM1.out.below hb3); have zx1 := (hb3.cell (p := ⟨S, 1, none⟩) xz).trans x1; have zc0 := (hb3.cell (p := ⟨kb, q * 3, none⟩) hkl).trans d0; have zc1 := (hb3.cell (p := ⟨kb, q * 3 + 1, none⟩) hkl).trans d1; have zc2 := (hb3.cell (p := ⟨kb, q * 3 + 2, none⟩) hkl).trans d2; have zy0 := (hb3.cell (p := ⟨S + 1, 0, none⟩) yz).trans y0; have zy1 := (hb3.cell (p := ⟨S + 1, 1, none⟩) yz).trans y1; have zy2 := (hb3.cell (p := ⟨S + 1, 2, none⟩) yz).trans y2; clear hb2 hb3))
          all_goals go_wp2_with fail
          all_goals go_ret
          all_goals
            refine ⟨by rw [HMT.out, HSB.out]; rfl, HI3.out, fun M' e => ?_⟩
            rw [HMT.out, HSB.out] at e
            cases e
        · have HSB := Lib.hid hs
          clear hs
          go_enter Try.func41, Try.ntmps41
          go_wp2_with fail
          rw [HW1.out]
          have d0 := C0.out
          have d1 := C1.out
          have d2 := C2.out
          go_region_held3 (fun w' => w'.cell? ⟨S, 1, none⟩ = some (.int .i64 (q : Int)) ∧ w'.cell? ⟨kb, q * 3, none⟩ = some (.int .i64 b.k) ∧ w'.cell? ⟨kb, q * 3 + 1, none⟩ = some (.int .i64 b.n) ∧ w'.cell? ⟨kb, q * 3 + 2, none⟩ = some (.slice ba b.ks.length bc) ∧ w'.cell? ⟨S + 1, 0, none⟩ = some (.int .i64 s.k) ∧ w'.cell? ⟨S + 1, 1, none⟩ = some (.int .i64 s.n) ∧ w'.cell? ⟨S + 1, 2, none⟩ = some (.slice sa s.ks.length sc)) (go_keep)
            (first | (go_at_call 14; refine (typeSame_spec _ b s _ _ _ (Nat.lt_succ_self _) (HAB.out.kept (by first | exact HB0.out | exact HB0.out.drew)) (HVS.out.kept (by first | exact HB0.out | exact HB0.out.drew))).mono ?_; rintro e w2 ⟨rfl, hb2⟩; rw [HSB.out]; have hb3 : Below W1.heap.size W1 w2 := Below.trans (B := W1.heap.size) (by first | exact Below.refl _ _ | exact (Below.refl _ _).drew) hb2; have HI3 := Lib.hid (HI1.out.trans (in_below hb3)); have HM3 := Lib.hid (HM1.out.below hb3); have zx1 := (hb3.cell (p := ⟨S, 1, none⟩) xz).trans x1; have zc0 := (hb3.cell (p := ⟨kb, q * 3, none⟩) hkl).trans d0; have zc1 := (hb3.cell (p := ⟨kb, q * 3 + 1, none⟩) hkl).trans d1; have zc2 := (hb3.cell (p := ⟨kb, q * 3 + 2, none⟩) hkl).trans d2; have zy0 := (hb3.cell (p := ⟨S + 1, 0, none⟩) yz).trans y0; have zy1 := (hb3.cell (p := ⟨S + 1, 1, none⟩) yz).trans y1; have zy2 := (hb3.cell (p := ⟨S + 1, 2, none⟩) yz).trans y2; clear hb2 hb3))
          all_goals go_wp2_with fail
          all_goals go_ret
          all_goals
            refine ⟨by rw [HMT.out, HSB.out]; rfl, HI3.out, fun M' e => ?_⟩
            rw [HMT.out, HSB.out] at e
            injection e with e
            subst e
            exact ⟨xs, HM3.out, HR.out⟩
    · have H4 := Lib.hid h4
      have e4 : (g.k == 4) = false := by simpa using h4
      clear h4
      by_cases hk : s.k = g.k
      case neg =>
        have ek : (g.k != s.k) = true := by simpa using fun e : g.k = s.k => hk e.symm
        have HP : Hid (mtf (d + 1) g s M = none) := Lib.hid (mtf_kind H4.out hk)
        clear hk
        obtain ⟨x0, x1, x2, xz⟩ := HX1.out
        obtain ⟨y0, y1, y2, yz⟩ := HY1.out
        go_enter Try.func41, Try.ntmps41
        go_wp2_with fail
        rw [HW1.out]
        go_ret
        refine ⟨by rw [HP.out]; rfl, HI1.out, fun M' e => ?_⟩
        rw [HP.out] at e
        cases e
      have HK := Lib.hid hk
      have ek : (g.k != s.k) = false := by simpa using hk.symm
      have HLL : Hid (s.ks.length = g.ks.length) := Lib.hid (fields_len FS.out (by rw [hk]; exact FG.out))
      have HMI : Hid (mtf (d + 1) g s M = iter (fun i N => mtf d (g.ks.getD i Ty.dummy) (s.ks.getD i Ty.dummy) N) g.ks.length M) := Lib.hid (mtf_iter H4.out hk)
      clear hk
      obtain ⟨x0, x1, x2, xz⟩ := HX1.out
      obtain ⟨y0, y1, y2, yz⟩ := HY1.out
      have HMS : Hid (KS w0 w S kb s g (.slice sa s.ks.length sc) (.slice ga g.ks.length gc) d 0 M W1 M xs) := Lib.hid ⟨rfl, HM1.out, HR.out, HI1.out, HB0.out, HX1.out, HY1.out⟩
      go_enter Try.func41, Try.ntmps41
      go_wp2_with fail
      rw [HW1.out]
      clear hS
      go_loopw [7] (fun i wr => ∃ (j : Nat) (N : Asn) (LL : List Value), j ≤ g.ks.length ∧ i = .int .i64 j ∧ Hid (KS w0 w S kb s g (.slice sa s.ks.length sc) (.slice ga g.ks.length gc) d j M wr N LL)) (fun i _ => g.ks.length - (intOf i).toNat)
      case atStart => exact ⟨0, M, xs, Nat.zero_le _, rfl, HMS⟩
      case round =>
        obtain ⟨j, N, LL, hj, rfl, hks⟩ := hrel
        clear x0 x1 x2 xz y0 y1 y2 yz
        obtain ⟨x0, x1, x2, xz⟩ := hks.out.bx
        obtain ⟨y0, y1, y2, yz⟩ := hks.out.by_
        by_cases hlt : j < g.ks.length
        · have hji : (j : Int) < (g.ks.length : Int) := by omega
          have hlts : j < s.ks.length := by rw [HLL.out]; exact hlt
          have hji2 : (j : Int) < (s.ks.length : Int) := by omega
          obtain ⟨sb, so, cap3, va, ex, b1, g0, g1, g2, hka⟩ := HVS.out.kid j hlts
          obtain ⟨gb, go', cap4, vb, ey, b2, g3, g4, g5, hkb⟩ := HVG.out.kid j hlt
          have ex1 : sa = some ⟨sb, so, none⟩ := by injection ex
          have ey1 : ga = some ⟨gb, go', none⟩ := by injection ey
          subst ex1
          subst ey1
          have hw0 := hks.out.b0.size
          have hsl : sb < wr.heap.size := by omega
          have hgl : gb < wr.heap.size := by omega
          replace g0 := (hks.out.b0.cell (p := ⟨sb, so + j * 3, none⟩) b1).trans g0
          replace g1 := (hks.out.b0.cell (p := ⟨sb, so + j * 3 + 1, none⟩) b1).trans g1
          replace g2 := (hks.out.b0.cell (p := ⟨sb, so + j * 3 + 2, none⟩) b1).trans g2
          replace g3 := (hks.out.b0.cell (p := ⟨gb, go' + j * 3, none⟩) b2).trans g3
          replace g4 := (hks.out.b0.cell (p := ⟨gb, go' + j * 3 + 1, none⟩) b2).trans g4
          replace g5 := (hks.out.b0.cell (p := ⟨gb, go' + j * 3 + 2, none⟩) b2).trans g5
          have HKA := Lib.hid hka
          have HKB := Lib.hid hkb
          have HSA := Lib.hid (KS_.out j hlts)
          have HSB := Lib.hid (KG.out j hlt)
          obtain ⟨A, hA⟩ : ∃ A, s.ks.getD j Ty.dummy = A := ⟨_, rfl⟩
          obtain ⟨B, hB⟩ : ∃ B, g.ks.getD j Ty.dummy = B := ⟨_, rfl⟩
          have HA := Lib.hid hA
          have HB := Lib.hid hB
          rw [hA] at g0 g1 HKA HSA
          rw [hB] at g3 g4 HKB HSB
          obtain ⟨ua, uc, rfl, _⟩ := HKA.out.slice
          obtain ⟨ub, ud, rfl, _⟩ := HKB.out.slice
          clear hA hB hka hkb ex ey
          rcases hmt : mtf d B A N with _ | N'
          · have HP : Hid (mtf (d + 1) g s M = none) := Lib.hid (by
              rw [HMI.out]
              exact iter_stop hks.out.it (by show mtf d (g.ks.getD j Ty.dummy) (s.ks.getD j Ty.dummy) N = none; rw [HA.out, HB.out]; exact hmt) hlt)
            have HMT := Lib.hid hmt
            clear hmt
            go_wp2_with fail
            go_region_held3 (fun w' => w'.cell? ⟨S, 2, none⟩ = some (.slice (some ⟨gb, go', none⟩) g.ks.length gc) ∧ w'.cell? ⟨gb, go' + j * 3, none⟩ = some (.int .i64 B.k) ∧ w'.cell? ⟨gb, go' + j * 3 + 1, none⟩ = some (.int .i64 B.n) ∧ w'.cell? ⟨gb, go' + j * 3 + 2, none⟩ = some (.slice ub B.ks.length ud) ∧ w'.cell? ⟨S + 1, 2, none⟩ = some (.slice (some ⟨sb, so, none⟩) s.ks.length sc) ∧ w'.cell? ⟨sb, so + j * 3, none⟩ = some (.int .i64 A.k) ∧ w'.cell? ⟨sb, so + j * 3 + 1, none⟩ = some (.int .i64 A.n) ∧ w'.cell? ⟨sb, so + j * 3 + 2, none⟩ = some (.slice ua A.ks.length uc)) (go_keep)
              (first | (go_at_call 41; refine (IH.out A B _ _ N LL _ HSA.out HSB.out HKA.out HKB.out (by first | exact hks.out.b0 | exact hks.out.b0.drew) (by first | exact hks.out.im | exact hks.out.im.below (Below.refl _ _).drew) hks.out.rl).mono ?_; rintro e w2 ⟨rfl, hi2, hm2⟩; rw [HMT.out]; have hi3 : Inside kb (kb + 1) wr w2 := (in_below (by first | exact Below.refl _ _ | exact (Below.refl _ _).drew)).trans hi2; have HI2 := Lib.hid hi3; have HII := Lib.hid (hks.out.hin.trans hi3); have HM2 := Lib.hid hm2; have zx2 := (cellEq (hi3.block S xz (.inr (by omega)))).trans x2; have zy2 := (cellEq (hi3.block (S + 1) yz (.inr (by omega)))).trans y2; have za0 := (cellEq (hi3.block sb hsl (.inl (by omega)))).trans g0; have za1 := (cellEq (hi3.block sb hsl (.inl (by omega)))).trans g1; have za2 := (cellEq (hi3.block sb hsl (.inl (by omega)))).trans g2; have zb0 := (cellEq (hi3.block gb hgl (.inl (by omega)))).trans g3; have zb1 := (cellEq (hi3.block gb hgl (.inl (by omega)))).trans g4; have zb2 := (cellEq (hi3.block gb hgl (.inl (by omega)))).trans g5; clear hi2 hi3 hm2))
            all_goals go_wp2_with fail
            all_goals go_ret
            all_goals
              refine ⟨by rw [HP.out]; rfl, HII.out, fun M' e => ?_⟩
              rw [HP.out] at e
              cases e
          · have HMT := Lib.hid hmt
            clear hmt
            go_wp2_with fail
            go_region_held3 (fun w' => w'.cell? ⟨S, 2, none⟩ = some (.slice (some ⟨gb, go', none⟩) g.ks.length gc) ∧ w'.cell? ⟨gb, go' + j * 3, none⟩ = some (.int .i64 B.k) ∧ w'.cell? ⟨gb, go' + j * 3 + 1, none⟩ = some (.int .i64 B.n) ∧ w'.cell? ⟨gb, go' + j * 3 + 2, none⟩ = some (.slice ub B.ks.length ud) ∧ w'.cell? ⟨S + 1, 2, none⟩ = some (.slice (some ⟨sb, so, none⟩) s.ks.length sc) ∧ w'.cell? ⟨sb, so + j * 3, none⟩ = some (.int .i64 A.k) ∧ w'.cell? ⟨sb, so + j * 3 + 1, none⟩ = some (.int .i64 A.n) ∧ w'.cell? ⟨sb, so + j * 3 + 2, none⟩ = some (.slice ua A.ks.length uc)) (go_keep)
              (first | (go_at_call 41; refine (IH.out A B _ _ N LL _ HSA.out HSB.out HKA.out HKB.out (by first | exact hks.out.b0 | exact hks.out.b0.drew) (by first | exact hks.out.im | exact hks.out.im.below (Below.refl _ _).drew) hks.out.rl).mono ?_; rintro e w2 ⟨rfl, hi2, hm2⟩; rw [HMT.out]; have hi3 : Inside kb (kb + 1) wr w2 := (in_below (by first | exact Below.refl _ _ | exact (Below.refl _ _).drew)).trans hi2; have HI2 := Lib.hid hi3; have HII := Lib.hid (hks.out.hin.trans hi3); have HM2 := Lib.hid hm2; have zx2 := (cellEq (hi3.block S xz (.inr (by omega)))).trans x2; have zy2 := (cellEq (hi3.block (S + 1) yz (.inr (by omega)))).trans y2; have za0 := (cellEq (hi3.block sb hsl (.inl (by omega)))).trans g0; have za1 := (cellEq (hi3.block sb hsl (.inl (by omega)))).trans g1; have za2 := (cellEq (hi3.block sb hsl (.inl (by omega)))).trans g2; have zb0 := (cellEq (hi3.block gb hgl (.inl (by omega)))).trans g3; have zb1 := (cellEq (hi3.block gb hgl (.inl (by omega)))).trans g4; have zb2 := (cellEq (hi3.block gb hgl (.inl (by omega)))).trans g5; clear hi2 hi3 hm2))
            all_goals obtain ⟨L2, him2, hr2⟩ := HM2.out N' HMT.out
            all_goals have HMS2 := Lib.hid (hks.out.next hbw hkb0.out HI2.out (by rw [HA.out, HB.out]; exact HMT.out) him2 hr2)
            all_goals clear him2 hr2
            all_goals go_wp2_with fail
            all_goals exact ⟨⟨j + 1, N', L2, by omega, by go_num, HMS2⟩, by simp [intOf]; omega⟩
        · obtain rfl : j = g.ks.length := by omega
          have hji : ¬ (g.ks.length : Int) < (g.ks.length : Int) := by omega
          have HP : Hid (mtf (d + 1) g s M = some N) := Lib.hid (by rw [HMI.out]; exact hks.out.it)
          go_wp2_with fail
          go_ret
          refine ⟨by rw [HP.out]; rfl, hks.out.hin, fun M' e => ?_⟩
          rw [HP.out] at e
          injection e with e
          subst e
          exact ⟨LL, hks.out.im, hks.out.rl⟩

end Go.Proofs.Ytncpakpamfocbab.Mx
