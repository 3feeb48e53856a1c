/-
  SubstVars of the model and of the program.
-/
import Derived.Test.YtncpakpamfocbabAf
namespace Go.Proofs.Ytncpakpamfocbab
open Go.RowKit
set_option linter.unusedVariables false
set_option linter.unusedSimpArgs false

/-- Every type of a list is valid. -/
def allV (ls : List Ty) : Prop := ∀ i, i < ls.length → tvT (ls.getD i Ty.dummy) = true
open Classical in
/-- What SubstVars returns. -/
noncomputable def svT (t : Ty) (ls : List Ty) : Option Ty := if tvT t = true ∧ allV ls ∧ tvT (sbT ls 16 t) = true then some (sbT ls 16 t) else none
theorem svT_t {t : Ty} {ls : List Ty} (h : tvT t = false) : svT t ls = none := by unfold svT; rw [if_neg (by simp [h])]
theorem svT_l {t : Ty} {ls : List Ty} {i : Nat} (hi : i < ls.length) (h : tvT (ls.getD i Ty.dummy) = false) : svT t ls = none := by
  unfold svT; rw [if_neg]; rintro ⟨_, hl, _⟩; have := hl i hi; rw [h] at this; cases this
theorem svT_r {t : Ty} {ls : List Ty} (h : tvT (sbT ls 16 t) = false) : svT t ls = none := by unfold svT; rw [if_neg (by simp [h])]
theorem svT_y {t : Ty} {ls : List Ty} (h : tvT t = true) (hl : allV ls) (hr : tvT (sbT ls 16 t) = true) : svT t ls = some (sbT ls 16 t) := by unfold svT; rw [if_pos ⟨h, hl, hr⟩]
theorem allV_shp {ls : List Ty} (h : allV ls) : ∀ i, i < ls.length → shp 16 (ls.getD i Ty.dummy) = true := fun i hi => tvT_shp (h i hi)

set_option maxRecDepth 100000 in
set_option maxHeartbeats 4000000 in
theorem substVars_spec (t : Ty) (ls : List Ty) (v lv : Value) (w : World) (hx : TyAt w t v) (hl : TyAt w (.node 0 0 ls) lv) (r : Option Ty) (hr : svT t ls = r) :
    Calls Try.prog 31 #[.agg #[.int .i64 t.k, .int .i64 t.n, v], lv] w (OptRet r w) := by
  have HX := Lib.hid hx
  have HL0 := Lib.hid hl
  obtain ⟨a, cap, rfl, hlen⟩ := hx.slice
  obtain ⟨la, lc, rfl, hllen⟩ := hl.slice
  have el : (Ty.node 0 0 ls).ks.length = ls.length := rfl
  rw [el] at HL0 hllen ⊢
  obtain ⟨L, hL⟩ : ∃ L, ls.length = L := ⟨_, rfl⟩
  have HL := Lib.hid hL
  have HRR := Lib.hid hr
  have HLV := HL0
  rw [hL] at hllen HL0 ⊢
  obtain ⟨S, hS⟩ : ∃ S, w.heap.size = S := ⟨_, rfl⟩
  have HS := Lib.hid hS
  obtain ⟨W1, hW1⟩ : ∃ W1, (w.alloc (.cells #[.int .i64 t.k, .int .i64 t.n, .slice a t.ks.length cap] 29)).alloc (.cells #[.int .i64 0, .int .i64 0, .slice none 0 0] 29) = W1 := ⟨_, rfl⟩
  have HW1 := Lib.hid hW1
  have hB1 : Below w.heap.size w W1 := by rw [← hW1]; exact ((Below.refl _ _).alloc (Nat.le_refl _) _).alloc (by simp) _
  have HB1 := Lib.hid hB1
  have HT1 : Hid (TBox W1 S (.int .i64 t.k) (.int .i64 t.n) (.slice a t.ks.length cap)) := Lib.hid (by rw [← hW1, ← hS]; exact (tbox_new w _ _ _ _).kept ((Below.refl _ _).alloc (Nat.le_refl _) _))
  have HR1 : Hid (RB W1 (S + 1)) := Lib.hid (by have h := rb_new (w.alloc (.cells #[.int .i64 t.k, .int .i64 t.n, .slice a t.ks.length cap] 29)) 29; rw [sizeA, hW1, hS] at h; exact h)
  have hz1 : W1.heap.size = S + 2 := by rw [← hW1, ← hS]; simp
  clear hx hl hL hr hB1 hW1 el
  go_enter Try.func31, Try.ntmps31
  go_wp2_with fail
  rw [HW1.out]
  clear hS
  go_loopw [6] (fun i wr => ∃ j : Nat, j ≤ L ∧ i = .int .i64 j ∧ Hid (∀ i, i < j → tvT (ls.getD i Ty.dummy) = true) ∧ Hid (Below W1.heap.size W1 wr)) (fun i _ => L - (intOf i).toNat)
  case atStart => exact ⟨0, Nat.zero_le _, rfl, Lib.hid (fun i hi => absurd hi (Nat.not_lt_zero _)), Lib.hid (Below.refl _ _)⟩
  case round =>
    obtain ⟨j, hj, rfl, hval, hbw⟩ := hrel
    have HBS := Lib.hid (HB1.out.trans (hbw.out.mono HB1.out.size))
    have HRw := Lib.hid (HR1.out.kept hbw.out)
    have HTw := Lib.hid (HT1.out.kept hbw.out)
    by_cases hlt : j < L
    · have hji : (j : Int) < (L : Int) := by omega
      obtain ⟨b, o, cap2, vi, ex, bl, y0, y1, y2, hkid⟩ := (HL0.out.kept HBS.out).kid j (by show j < ls.length; rw [HL.out]; exact hlt)
      have ex1 : la = some ⟨b, o, none⟩ := by injection ex
      subst ex1
      obtain ⟨x, hxx⟩ : ∃ x, ls.getD j Ty.dummy = x := ⟨_, rfl⟩
      have hxx' : (Ty.node 0 0 ls).ks.getD j Ty.dummy = x := hxx
      rw [hxx'] at y0 y1 hkid
      have HKID := Lib.hid hkid
      have HXX := Lib.hid hxx
      obtain ⟨vb, hvb⟩ : ∃ vb, tvT x = vb := ⟨_, rfl⟩
      have HVB := Lib.hid hvb
      clear ex hkid hxx hxx' hvb
      cases vb with
      | false =>
        have hrn : r = none := by rw [← HRR.out]; exact svT_l (by rw [HL.out]; exact hlt) (by rw [HXX.out]; exact HVB.out)
        subst hrn
        go_wp2_with fail
        go_at_call 40
        refine (typeValid_spec_val HVB.out _ _ HKID.out).mono ?_
        rintro e w2 ⟨rfl, hb2⟩
        have HR2 := Lib.hid (HRw.out.kept hb2)
        have HB2 := Lib.hid (HBS.out.trans (hb2.mono HBS.out.size))
        clear hb2 y0 y1 y2
        obtain ⟨p0, p1, p2, f0, f1, f2, psz⟩ := HR2.out
        go_wp2_with fail
        exact bodyPost_ret (v := .tuple #[.agg #[.int .i64 0, .int .i64 0, .slice none 0 0], .bool false]) (by simp [results, Try.results31, go_sem, p0, p1, p2, psz]) rfl ⟨rfl, Inside.thin (in_res (lo := w.heap.size) (hi := w.heap.size) (Inside.of_below HB2.out) (by rw [HS.out]; omega) _ _ _)⟩
      | true =>
        go_wp2_with fail
        go_at_call 40
        refine (typeValid_spec_val HVB.out _ _ HKID.out).mono ?_
        rintro e w2 ⟨rfl, hb2⟩
        have HB2 := Lib.hid (hbw.out.trans (hb2.mono hbw.out.size))
        clear hb2 y0 y1 y2
        go_wp2_with fail
        go_roundw
        case rel => exact ⟨j + 1, by omega, by go_num, Lib.hid (fun i hi => by
          by_cases hij : i = j
          · subst hij; rw [HXX.out]; exact HVB.out
          · exact hval.out i (by omega)), HB2.out⟩
        case measure => simp [intOf]; omega
    · have hji : ¬ (j : Int) < (L : Int) := by omega
      obtain rfl : j = L := by omega
      have HALL : Hid (allV ls) := Lib.hid (fun i hi => hval.out i (by rw [← HL.out]; exact hi))
      obtain ⟨t0, t1, t2, tz⟩ := HTw.out
      obtain ⟨vb, hvb⟩ : ∃ vb, tvT t = vb := ⟨_, rfl⟩
      have HVB := Lib.hid hvb
      clear hvb hlt
      cases vb with
      | false =>
        have hrn : r = none := by rw [← HRR.out]; exact svT_t HVB.out
        subst hrn
        go_wp2_with fail
        go_at_call 40
        refine (typeValid_spec_val HVB.out _ _ (HX.out.kept HBS.out)).mono ?_
        rintro e w2 ⟨rfl, hb2⟩
        have HR2 := Lib.hid (HRw.out.kept hb2)
        have HB2 := Lib.hid (HBS.out.trans (hb2.mono HBS.out.size))
        clear hb2 t0 t1 t2 tz
        obtain ⟨p0, p1, p2, f0, f1, f2, psz⟩ := HR2.out
        go_wp2_with fail
        exact bodyPost_ret (v := .tuple #[.agg #[.int .i64 0, .int .i64 0, .slice none 0 0], .bool false]) (by simp [results, Try.results31, go_sem, p0, p1, p2, psz]) rfl ⟨rfl, Inside.thin (in_res (lo := w.heap.size) (hi := w.heap.size) (Inside.of_below HB2.out) (by rw [HS.out]; omega) _ _ _)⟩
      | true =>
        go_wp2_with fail
        go_at_call 40
        refine (typeValid_spec_val HVB.out _ _ (HX.out.kept HBS.out)).mono ?_
        rintro e w2 ⟨rfl, hb2⟩
        have HB2 := Lib.hid (HBS.out.trans (hb2.mono HBS.out.size))
        have HT2 := Lib.hid (HTw.out.kept hb2)
        have hsz2 : wr.heap.size ≤ w2.heap.size := hb2.size
        have HR2 := Lib.hid (HRw.out.kept hb2)
        clear hb2 t0 t1 t2 tz
        obtain ⟨t0, t1, t2, tz⟩ := HT2.out
        obtain ⟨y, hy⟩ : ∃ y, sbT ls 16 t = y := ⟨_, rfl⟩
        have HY := Lib.hid hy
        have HSC := Lib.hid (l2Subst_any ls la lc w (by rw [HL.out]; exact HL0.out) (allV_shp HALL.out) 16 t _ w2 (tvT_shp HVB.out) (HX.out.kept HB2.out) HB2.out)
        rw [hy, HL.out] at HSC
        clear hy
        go_wp2_with fail
        go_at_call 68
        refine HSC.out.mono ?_
        rintro e w3 ⟨v3, rfl, hty3, hb3⟩
        obtain ⟨a3, k3, rfl, _⟩ := hty3.at.slice
        obtain ⟨W3, hW3⟩ : ∃ W3, w3.alloc (.cells #[.int .i64 y.k, .int .i64 y.n, .slice a3 y.ks.length k3] 29) = W3 := ⟨_, rfl⟩
        have hA3 : Below w3.heap.size w3 W3 := by rw [← hW3]; exact (Below.refl _ _).alloc (Nat.le_refl _) _
        have HB3 := Lib.hid (HB2.out.trans ((hb3.trans (hA3.mono hb3.size)).mono HB2.out.size))
        have HR3 := Lib.hid ((HR2.out.kept hb3).kept hA3)
        have HTY3 := Lib.hid (hty3.kept hA3)
        have HY3 : Hid (TBox W3 w3.heap.size (.int .i64 y.k) (.int .i64 y.n) (.slice a3 y.ks.length k3)) := Lib.hid (by rw [← hW3]; exact tbox_new w3 _ _ _ _)
        have hz3 : W3.heap.size = w3.heap.size + 1 := by rw [← hW3]; simp
        have HLO := Lib.hid (show S + 2 ≤ w2.heap.size by have h6 : W1.heap.size ≤ wr.heap.size := hbw.out.size; omega)
        have HWS := Lib.hid hb3.size
        have HW3 := Lib.hid hW3
        clear hty3 hb3 hA3 hW3 t0 t1 t2 tz
        obtain ⟨u0, u1, u2, uz⟩ := HY3.out
        go_wp2_with fail
        rw [HW3.out]
        obtain ⟨vr, hvr⟩ : ∃ vr, tvT y = vr := ⟨_, rfl⟩
        have HVR := Lib.hid hvr
        clear hvr
        cases vr with
        | false =>
          have hrn : r = none := by rw [← HRR.out]; exact svT_r (by rw [HY.out]; exact HVR.out)
          subst hrn
          go_at_call 40
          refine (typeValid_spec_val HVR.out _ _ HTY3.out.at).mono ?_
          rintro e w4 ⟨rfl, hb4⟩
          have HR4 := Lib.hid (HR3.out.kept hb4)
          have HB4 := Lib.hid (HB3.out.trans (hb4.mono HB3.out.size))
          clear hb4 u0 u1 u2 uz
          obtain ⟨p0, p1, p2, f0, f1, f2, psz⟩ := HR4.out
          go_wp2_with fail
          exact bodyPost_ret (v := .tuple #[.agg #[.int .i64 0, .int .i64 0, .slice none 0 0], .bool false]) (by simp [results, Try.results31, go_sem, p0, p1, p2, psz]) rfl ⟨rfl, Inside.thin (in_res (lo := w.heap.size) (hi := w.heap.size) (Inside.of_below HB4.out) (by rw [HS.out]; omega) _ _ _)⟩
        | true =>
          have hrn : r = some y := by rw [← HRR.out, svT_y HVB.out HALL.out (by rw [HY.out]; exact HVR.out), HY.out]
          subst hrn
          go_at_call 40
          refine (typeValid_spec_val HVR.out _ _ HTY3.out.at).mono ?_
          rintro e w4 ⟨rfl, hb4⟩
          have HR4 := Lib.hid (HR3.out.kept hb4)
          have HB4 := Lib.hid (HB3.out.trans (hb4.mono HB3.out.size))
          have HTY4 := Lib.hid (HTY3.out.kept hb4)
          have HY4 := Lib.hid (HY3.out.kept hb4)
          have hs4 : W3.heap.size ≤ w4.heap.size := hb4.size
          clear hb4 u0 u1 u2 uz
          obtain ⟨u0, u1, u2, uz⟩ := HY4.out
          obtain ⟨p0, p1, p2, f0, f1, f2, psz⟩ := HR4.out
          go_wp2_with fail
          exact bodyPost_ret (v := .tuple #[.agg #[.int .i64 y.k, .int .i64 y.n, .slice a3 y.ks.length k3], .bool true]) (by simp [results, Try.results31, go_sem, p0, p1, p2, psz]) rfl ⟨_, rfl, res_ty (B := S + 1) (w := w) (HTY4.out.wide (by have := HLO.out; omega) (by omega)) (by rw [HS.out]; omega) _ _ _, Inside.thin (in_res (lo := w.heap.size) (hi := w.heap.size) (Inside.of_below HB4.out) (by rw [HS.out]; omega) _ _ _)⟩

theorem holdsQ_new (w : World) (o : Obj) (lv : Value) (T : TypeId) : HoldsQ (w.heap.size + 1) lv [] ((w.alloc o).alloc (.cells #[lv] T)) := by
  refine ⟨by simp, ?_⟩
  have e := sizeA w o
  rw [← e]
  go_simp
set_option maxRecDepth 100000 in
set_option maxHeartbeats 4000000 in
theorem substVars_impl (t : Ty) (ls : List Ty) (v lv : Value) (w : World) (hx : TyAt w t v) (hl : TyAt w (.node 0 0 ls) lv) (r : Option Ty) (hr : svT t ls = r) :
    Calls Try.prog 28 #[.agg #[.int .i64 t.k, .int .i64 t.n, v], lv] w (OptRet r w) := by
  have HX := Lib.hid hx
  have HL0 := Lib.hid hl
  obtain ⟨a, cap, rfl, hlen⟩ := hx.slice
  obtain ⟨la, lc, rfl, hllen⟩ := hl.slice
  have el : (Ty.node 0 0 ls).ks.length = ls.length := rfl
  rw [el] at HL0 hllen ⊢
  obtain ⟨L, hL⟩ : ∃ L, ls.length = L := ⟨_, rfl⟩
  have HL := Lib.hid hL
  have HRR := Lib.hid hr
  rw [hL] at hllen HL0 ⊢
  obtain ⟨S, hS⟩ : ∃ S, w.heap.size = S := ⟨_, rfl⟩
  have HS := Lib.hid hS
  obtain ⟨W1, hW1⟩ : ∃ W1, ((w.alloc (.cells #[.int .i64 t.k, .int .i64 t.n, .slice a t.ks.length cap] 29)).alloc (.cells #[.slice la L lc] 27)).alloc (.cells #[.int .i64 0, .int .i64 0, .slice none 0 0] 29) = W1 := ⟨_, rfl⟩
  have HW1 := Lib.hid hW1
  have hB1 : Below w.heap.size w W1 := by rw [← hW1]; exact (((Below.refl _ _).alloc (Nat.le_refl _) _).alloc (by simp) _).alloc (by simp; omega) _
  have HB1 := Lib.hid hB1
  have HT1 : Hid (TBox W1 S (.int .i64 t.k) (.int .i64 t.n) (.slice a t.ks.length cap)) := Lib.hid (by rw [← hW1, ← hS]; exact ((tbox_new w _ _ _ _).kept ((Below.refl _ _).alloc (Nat.le_refl _) _)).kept ((Below.refl _ _).alloc (Nat.le_refl _) _))
  have HR1 : Hid (RB W1 (S + 1 + 1)) := Lib.hid (by have h := rb_new ((w.alloc (.cells #[.int .i64 t.k, .int .i64 t.n, .slice a t.ks.length cap] 29)).alloc (.cells #[.slice la L lc] 27)) 29; rw [sizeA, sizeA, hW1, hS] at h; exact h)
  have HQ1 : Hid (HoldsQ (S + 1) (.slice la L lc) [] W1) := Lib.hid (by rw [← hW1, ← hS]; exact (holdsQ_stays _ _).below (holdsQ_new w _ _ _) ((Below.refl _ _).alloc (Nat.le_refl _) _))
  have hz1 : W1.heap.size = S + 3 := by rw [← hW1, ← hS]; simp
  obtain ⟨vb, hvb⟩ : ∃ vb, tvT t = vb := ⟨_, rfl⟩
  have HVB := Lib.hid hvb
  clear hx hl hL hr hB1 hW1 el hvb
  cases vb with
  | false =>
    have hrn : r = none := by rw [← HRR.out]; exact svT_t HVB.out
    subst hrn
    go_enter Try.func28, Try.ntmps28
    go_wp2_with fail
    rw [HW1.out]
    clear hS
    go_at_call 42
    refine (typeValid_impl_val HVB.out _ _ (HX.out.kept HB1.out)).mono ?_
    rintro e w2 ⟨rfl, hb2⟩
    have HR2 := Lib.hid (HR1.out.kept hb2)
    have HB2 := Lib.hid (HB1.out.trans (hb2.mono HB1.out.size))
    clear hb2
    obtain ⟨p0, p1, p2, f0, f1, f2, psz⟩ := HR2.out
    go_wp2_with fail
    exact bodyPost_ret (v := .tuple #[.agg #[.int .i64 0, .int .i64 0, .slice none 0 0], .bool false]) (by simp [results, Try.results28, go_sem, p0, p1, p2, psz]) rfl ⟨rfl, Inside.thin (in_res (lo := w.heap.size) (hi := w.heap.size) (Inside.of_below HB2.out) (by rw [HS.out]; omega) _ _ _)⟩
  | true =>
    go_enter Try.func28, Try.ntmps28
    go_wp2_with fail
    rw [HW1.out]
    clear hS
    go_at_call 42
    refine (typeValid_impl_val HVB.out _ _ (HX.out.kept HB1.out)).mono ?_
    rintro e w2 ⟨rfl, hb2⟩
    have HT2 := Lib.hid (HT1.out.kept hb2)
    have HR2 := Lib.hid (HR1.out.kept hb2)
    have HQ2 := Lib.hid ((holdsQ_stays _ _).below HQ1.out hb2)
    have HB2 := Lib.hid (HB1.out.trans (hb2.mono HB1.out.size))
    have hs2 : W1.heap.size ≤ w2.heap.size := hb2.size
    clear hb2
    have q2 := HQ2.out.2
    go_wp2_with fail
    clear q2
    go_loopw [15] (fun i wr => ∃ j : Nat, j ≤ L ∧ i = .int .i64 j ∧ Hid (∀ i, i < j → tvT (ls.getD i Ty.dummy) = true) ∧ Hid (Below w2.heap.size w2 wr)) (fun i _ => L - (intOf i).toNat)
    case atStart => exact ⟨0, Nat.zero_le _, rfl, Lib.hid (fun i hi => absurd hi (Nat.not_lt_zero _)), Lib.hid (Below.refl _ _)⟩
    case round =>
      obtain ⟨j, hj, rfl, hval, hbw⟩ := hrel
      have HBS := Lib.hid (HB2.out.trans (hbw.out.mono HB2.out.size))
      have HRw := Lib.hid (HR2.out.kept hbw.out)
      have HTw := Lib.hid (HT2.out.kept hbw.out)
      have HQw := Lib.hid ((holdsQ_stays _ _).below HQ2.out hbw.out)
      have hsw : w2.heap.size ≤ wr.heap.size := hbw.out.size
      by_cases hlt : j < L
      · have hji : (j : Int) < (L : Int) := by omega
        obtain ⟨b, o, cap2, vi, ex, bl, y0, y1, y2, hkid⟩ := (HL0.out.kept HBS.out).kid j (by show j < ls.length; rw [HL.out]; exact hlt)
        have ex1 : la = some ⟨b, o, none⟩ := by injection ex
        subst ex1
        obtain ⟨x, hxx⟩ : ∃ x, ls.getD j Ty.dummy = x := ⟨_, rfl⟩
        have hxx' : (Ty.node 0 0 ls).ks.getD j Ty.dummy = x := hxx
        rw [hxx'] at y0 y1 hkid
        obtain ⟨xa, xc, rfl, _⟩ := hkid.slice
        have hA : Below wr.heap.size wr (wr.alloc (.cells #[.int .i64 x.k, .int .i64 x.n, .slice xa x.ks.length xc] 29)) := (Below.refl _ _).alloc (Nat.le_refl _) _
        have HKID := Lib.hid (hkid.kept hA)
        have HRa := Lib.hid (HRw.out.kept hA)
        have HBa := Lib.hid (hbw.out.trans (hA.mono hbw.out.size))
        have HBSa := Lib.hid (HBS.out.trans (hA.mono HBS.out.size))
        have HXX := Lib.hid hxx
        obtain ⟨vb, hvb⟩ : ∃ vb, tvT x = vb := ⟨_, rfl⟩
        have HVB2 := Lib.hid hvb
        clear ex hkid hxx hxx' hvb hA
        cases vb with
        | false =>
          have hrn : r = none := by rw [← HRR.out]; exact svT_l (by rw [HL.out]; exact hlt) (by rw [HXX.out]; exact HVB2.out)
          subst hrn
          go_wp2_with fail
          go_at_call 42
          refine (typeValid_impl_val HVB2.out _ _ HKID.out).mono ?_
          rintro e w3 ⟨rfl, hb3⟩
          have HR3 := Lib.hid (HRa.out.kept hb3)
          have HB3 := Lib.hid (HBSa.out.trans (hb3.mono HBSa.out.size))
          clear hb3 y0 y1 y2
          obtain ⟨p0, p1, p2, f0, f1, f2, psz⟩ := HR3.out
          go_wp2_with fail
          exact bodyPost_ret (v := .tuple #[.agg #[.int .i64 0, .int .i64 0, .slice none 0 0], .bool false]) (by simp [results, Try.results28, go_sem, p0, p1, p2, psz]) rfl ⟨rfl, Inside.thin (in_res (lo := w.heap.size) (hi := w.heap.size) (Inside.of_below HB3.out) (by rw [HS.out]; omega) _ _ _)⟩
        | true =>
          go_wp2_with fail
          go_at_call 42
          refine (typeValid_impl_val HVB2.out _ _ HKID.out).mono ?_
          rintro e w3 ⟨rfl, hb3⟩
          have HB3 := Lib.hid (HBa.out.trans (hb3.mono HBa.out.size))
          clear hb3 y0 y1 y2
          go_wp2_with fail
          go_roundw
          case rel => exact ⟨j + 1, by omega, by go_num, Lib.hid (fun i hi => by
            by_cases hij : i = j
            · subst hij; rw [HXX.out]; exact HVB2.out
            · exact hval.out i (by omega)), HB3.out⟩
          case measure => simp [intOf]; omega
      · have hji : ¬ (j : Int) < (L : Int) := by omega
        obtain rfl : j = L := by omega
        have HALL : Hid (allV ls) := Lib.hid (fun i hi => hval.out i (by rw [← HL.out]; exact hi))
        obtain ⟨t0, t1, t2, tz⟩ := HTw.out
        obtain ⟨y, hy⟩ : ∃ y, sbT ls 16 t = y := ⟨_, rfl⟩
        have HY := Lib.hid hy
        have HSC := Lib.hid (rv_sv1 ls (S + 1) la lc w (by rw [HS.out]; omega) (by rw [HL.out]; exact HL0.out) (allV_shp HALL.out) 16 t _ wr (tvT_shp HVB.out) HX.out HBS.out (by rw [HL.out]; exact HQw.out))
        rw [HL.out] at HSC
        clear hy hlt
        go_wp2_with fail
        go_at_call 61
        refine HSC.out.mono ?_
        rintro e w3 ⟨v3, rfl, hty3, hin3, hi3⟩
        have ey : (rp (sF ls) 16 t []).1 = y := HY.out
        rw [ey] at hty3 ⊢
        obtain ⟨a3, k3, rfl, _⟩ := hty3.at.slice
        obtain ⟨W3, hW3⟩ : ∃ W3, w3.alloc (.cells #[.int .i64 y.k, .int .i64 y.n, .slice a3 y.ks.length k3] 29) = W3 := ⟨_, rfl⟩
        have hA3 : Below w3.heap.size w3 W3 := by rw [← hW3]; exact (Below.refl _ _).alloc (Nat.le_refl _) _
        have HB3 := Lib.hid ((hin3.below (by rw [HS.out]; omega) HBS.out HBS.out.size).trans (hA3.mono (by have := HBS.out.size; have := hin3.size; omega)))
        have HR3 := Lib.hid ((HRw.out.keep hin3.size (hin3.block _ HRw.out.sz (.inr (by omega)))).kept hA3)
        have HTY3 := Lib.hid (hty3.kept hA3)
        have HY3 : Hid (TBox W3 w3.heap.size (.int .i64 y.k) (.int .i64 y.n) (.slice a3 y.ks.length k3)) := Lib.hid (by rw [← hW3]; exact tbox_new w3 _ _ _ _)
        have hz3 : W3.heap.size = w3.heap.size + 1 := by rw [← hW3]; simp
        have HLO := Lib.hid (show S + 3 ≤ wr.heap.size by omega)
        have HWS := Lib.hid hin3.size
        have HW3 := Lib.hid hW3
        clear hty3 hin3 hi3 hA3 hW3 t0 t1 t2 tz ey
        obtain ⟨u0, u1, u2, uz⟩ := HY3.out
        go_wp2_with fail
        rw [HW3.out]
        obtain ⟨vr, hvr⟩ : ∃ vr, tvT y = vr := ⟨_, rfl⟩
        have HVR := Lib.hid hvr
        clear hvr
        cases vr with
        | false =>
          have hrn : r = none := by rw [← HRR.out]; exact svT_r (by rw [HY.out]; exact HVR.out)
          subst hrn
          go_at_call 42
          refine (typeValid_impl_val HVR.out _ _ HTY3.out.at).mono ?_
          rintro e w4 ⟨rfl, hb4⟩
          have HR4 := Lib.hid (HR3.out.kept hb4)
          have HB4 := Lib.hid (HB3.out.trans (hb4.mono HB3.out.size))
          clear hb4 u0 u1 u2 uz
          obtain ⟨p0, p1, p2, f0, f1, f2, psz⟩ := HR4.out
          go_wp2_with fail
          exact bodyPost_ret (v := .tuple #[.agg #[.int .i64 0, .int .i64 0, .slice none 0 0], .bool false]) (by simp [results, Try.results28, go_sem, p0, p1, p2, psz]) rfl ⟨rfl, Inside.thin (in_res (lo := w.heap.size) (hi := w.heap.size) (Inside.of_below HB4.out) (by rw [HS.out]; omega) _ _ _)⟩
        | true =>
          have hrn : r = some y := by rw [← HRR.out, svT_y HVB.out HALL.out (by rw [HY.out]; exact HVR.out), HY.out]
          subst hrn
          go_at_call 42
          refine (typeValid_impl_val HVR.out _ _ HTY3.out.at).mono ?_
          rintro e w4 ⟨rfl, hb4⟩
          have HR4 := Lib.hid (HR3.out.kept hb4)
          have HB4 := Lib.hid (HB3.out.trans (hb4.mono HB3.out.size))
          have HTY4 := Lib.hid (HTY3.out.kept hb4)
          have HY4 := Lib.hid (HY3.out.kept hb4)
          have hs4 : W3.heap.size ≤ w4.heap.size := hb4.size
          clear hb4 u0 u1 u2 uz
          obtain ⟨u0, u1, u2, uz⟩ := HY4.out
          obtain ⟨p0, p1, p2, f0, f1, f2, psz⟩ := HR4.out
          go_wp2_with fail
          exact bodyPost_ret (v := .tuple #[.agg #[.int .i64 y.k, .int .i64 y.n, .slice a3 y.ks.length k3], .bool true]) (by simp [results, Try.results28, go_sem, p0, p1, p2, psz]) rfl ⟨_, rfl, res_ty (B := S + 1 + 1) (w := w) (HTY4.out.wide (by have := HLO.out; omega) (by omega)) (by rw [HS.out]; omega) _ _ _, Inside.thin (in_res (lo := w.heap.size) (hi := w.heap.size) (Inside.of_below HB4.out) (by rw [HS.out]; omega) _ _ _)⟩

end Go.Proofs.Ytncpakpamfocbab
