/-
SubstVars of the model and of the program.
Lists of types in the exact laws: an argument read, its size, its copy, comparison.
l2Renamed of the model at a node that is no variable.
-/
import Derived.Test.YtjhccdioainibaaW9
import Derived.Test.YtjhccdioainibaaW2
import Derived.LoopN
namespace Go.Proofs.Ytjhccdioainibaa
open Go.RowKit
set_option linter.unusedVariables false
set_option linter.unusedSimpArgs false

/-- Every type of a list is valid. -/
def allV (ls : List Ty) : Prop := ∀ i, i < ls.length → tvT (ls.getD i Ty.dummy) = true
open Classical in
/-- What SubstVars returns. -/
noncomputable def svT (t : Ty) (ls : List Ty) : Option Ty := if tvT t = true ∧ allV ls ∧ tvT (sbT ls 16 t) = true then some (sbT ls 16 t) else none
theorem svT_t {t : Ty} {ls : List Ty} (h : tvT t = false) : svT t ls = none := by unfold svT; rw [if_neg (by simp [h])]
theorem svT_l {t : Ty} {ls : List Ty} {i : Nat} (hi : i < ls.length) (h : tvT (ls.getD i Ty.dummy) = false) : svT t ls = none := by
  unfold svT; rw [if_neg]; rintro ⟨_, hl, _⟩; have := hl i hi; rw [h] at this; cases this
theorem svT_r {t : Ty} {ls : List Ty} (h : tvT (sbT ls 16 t) = false) : svT t ls = none := by unfold svT; rw [if_neg (by simp [h])]
theorem svT_y {t : Ty} {ls : List Ty} (h : tvT t = true) (hl : allV ls) (hr : tvT (sbT ls 16 t) = true) : svT t ls = some (sbT ls 16 t) := by unfold svT; rw [if_pos ⟨h, hl, hr⟩]
theorem allV_shp {ls : List Ty} (h : allV ls) : ∀ i, i < ls.length → shp 16 (ls.getD i Ty.dummy) = true := fun i hi => tvT_shp (h i hi)

theorem holdsQ_new (w : World) (o : Obj) (lv : Value) (T : TypeId) : HoldsQ (w.heap.size + 1) lv [] ((w.alloc o).alloc (.cells #[lv] T)) := by
  refine ⟨by simp, ?_⟩
  have e := sizeA w o
  rw [← e]
  go_simp
set_option maxRecDepth 100000 in
set_option maxHeartbeats 4000000 in
theorem substVars_impl (t : Ty) (ls : List Ty) (v lv : Value) (w : World) (hx : TyAt w t v) (hl : TyAt w (.node 0 0 ls) lv) (r : Option Ty) (hr : svT t ls = r) :
    Calls Try.prog 19 #[.agg #[.int .i64 t.k, .int .i64 t.n, v], lv] w (OptRet r w) := by
  have HX := Lib.hid hx
  have HL0 := Lib.hid hl
  obtain ⟨a, cap, rfl, hlen⟩ := hx.slice
  obtain ⟨la, lc, rfl, hllen⟩ := hl.slice
  have el : (Ty.node 0 0 ls).ks.length = ls.length := rfl
  rw [el] at HL0 hllen ⊢
  obtain ⟨L, hL⟩ : ∃ L, ls.length = L := ⟨_, rfl⟩
  have HL := Lib.hid hL
  have HRR := Lib.hid hr
  rw [hL] at hllen HL0 ⊢
  obtain ⟨S, hS⟩ : ∃ S, w.heap.size = S := ⟨_, rfl⟩
  have HS := Lib.hid hS
  obtain ⟨W1, hW1⟩ : ∃ W1, ((w.alloc (.cells #[.int .i64 t.k, .int .i64 t.n, .slice a t.ks.length cap] 28)).alloc (.cells #[.slice la L lc] 26)).alloc (.cells #[.int .i64 0, .int .i64 0, .slice none 0 0] 28) = W1 := ⟨_, rfl⟩
  have HW1 := Lib.hid hW1
  have hB1 : Below w.heap.size w W1 := by rw [← hW1]; exact (((Below.refl _ _).alloc (Nat.le_refl _) _).alloc (by simp) _).alloc (by simp; omega) _
  have HB1 := Lib.hid hB1
  have HT1 : Hid (TBox W1 S (.int .i64 t.k) (.int .i64 t.n) (.slice a t.ks.length cap)) := Lib.hid (by rw [← hW1, ← hS]; exact ((tbox_new w _ _ _ _).kept ((Below.refl _ _).alloc (Nat.le_refl _) _)).kept ((Below.refl _ _).alloc (Nat.le_refl _) _))
  have HR1 : Hid (RB W1 (S + 1 + 1)) := Lib.hid (by have h := rb_new ((w.alloc (.cells #[.int .i64 t.k, .int .i64 t.n, .slice a t.ks.length cap] 28)).alloc (.cells #[.slice la L lc] 26)) 28; rw [sizeA, sizeA, hW1, hS] at h; exact h)
  have HQ1 : Hid (HoldsQ (S + 1) (.slice la L lc) [] W1) := Lib.hid (by rw [← hW1, ← hS]; exact (holdsQ_stays _ _).below (holdsQ_new w _ _ _) ((Below.refl _ _).alloc (Nat.le_refl _) _))
  have hz1 : W1.heap.size = S + 3 := by rw [← hW1, ← hS]; simp
  obtain ⟨vb, hvb⟩ : ∃ vb, tvT t = vb := ⟨_, rfl⟩
  have HVB := Lib.hid hvb
  clear hx hl hL hr hB1 hW1 el hvb
  cases vb with
  | false =>
    have hrn : r = none := by rw [← HRR.out]; exact svT_t HVB.out
    subst hrn
    go_enter Try.func19, Try.ntmps19
    go_wp2_with fail
    rw [HW1.out]
    clear hS
    go_at_call 28
    refine (typeValid_impl_val HVB.out _ _ (HX.out.kept HB1.out)).mono ?_
    rintro e w2 ⟨rfl, hb2⟩
    have HR2 := Lib.hid (HR1.out.kept hb2)
    have HB2 := Lib.hid (HB1.out.trans (hb2.mono HB1.out.size))
    clear hb2
    obtain ⟨p0, p1, p2, f0, f1, f2, psz⟩ := HR2.out
    go_wp2_with fail
    exact bodyPost_ret (v := .tuple #[.agg #[.int .i64 0, .int .i64 0, .slice none 0 0], .bool false]) (by simp [results, Try.results19, go_sem, p0, p1, p2, psz]) rfl ⟨rfl, Inside.thin (in_res (lo := w.heap.size) (hi := w.heap.size) (Inside.of_below HB2.out) (by rw [HS.out]; omega) _ _ _)⟩
  | true =>
    go_enter Try.func19, Try.ntmps19
    go_wp2_with fail
    rw [HW1.out]
    clear hS
    go_at_call 28
    refine (typeValid_impl_val HVB.out _ _ (HX.out.kept HB1.out)).mono ?_
    rintro e w2 ⟨rfl, hb2⟩
    have HT2 := Lib.hid (HT1.out.kept hb2)
    have HR2 := Lib.hid (HR1.out.kept hb2)
    have HQ2 := Lib.hid ((holdsQ_stays _ _).below HQ1.out hb2)
    have HB2 := Lib.hid (HB1.out.trans (hb2.mono HB1.out.size))
    have hs2 : W1.heap.size ≤ w2.heap.size := hb2.size
    clear hb2
    have q2 := HQ2.out.2
    go_wp2_with fail
    clear q2
    go_loopw [15] (fun i wr => ∃ j : Nat, j ≤ L ∧ i = .int .i64 j ∧ Hid (∀ i, i < j → tvT (ls.getD i Ty.dummy) = true) ∧ Hid (Below w2.heap.size w2 wr)) (fun i _ => L - (intOf i).toNat)
    case atStart => exact ⟨0, Nat.zero_le _, rfl, Lib.hid (fun i hi => absurd hi (Nat.not_lt_zero _)), Lib.hid (Below.refl _ _)⟩
    case round =>
      obtain ⟨j, hj, rfl, hval, hbw⟩ := hrel
      have HBS := Lib.hid (HB2.out.trans (hbw.out.mono HB2.out.size))
      have HRw := Lib.hid (HR2.out.kept hbw.out)
      have HTw := Lib.hid (HT2.out.kept hbw.out)
      have HQw := Lib.hid ((holdsQ_stays _ _).below HQ2.out hbw.out)
      have hsw : w2.heap.size ≤ wr.heap.size := hbw.out.size
      by_cases hlt : j < L
      · have hji : (j : Int) < (L : Int) := by omega
        obtain ⟨b, o, cap2, vi, ex, bl, y0, y1, y2, hkid⟩ := (HL0.out.kept HBS.out).kid j (by show j < ls.length; rw [HL.out]; exact hlt)
        have ex1 : la = some ⟨b, o, none⟩ := by injection ex
        subst ex1
        obtain ⟨x, hxx⟩ : ∃ x, ls.getD j Ty.dummy = x := ⟨_, rfl⟩
        have hxx' : (Ty.node 0 0 ls).ks.getD j Ty.dummy = x := hxx
        rw [hxx'] at y0 y1 hkid
        obtain ⟨xa, xc, rfl, _⟩ := hkid.slice
        have hA : Below wr.heap.size wr (wr.alloc (.cells #[.int .i64 x.k, .int .i64 x.n, .slice xa x.ks.length xc] 28)) := (Below.refl _ _).alloc (Nat.le_refl _) _
        have HKID := Lib.hid (hkid.kept hA)
        have HRa := Lib.hid (HRw.out.kept hA)
        have HBa := Lib.hid (hbw.out.trans (hA.mono hbw.out.size))
        have HBSa := Lib.hid (HBS.out.trans (hA.mono HBS.out.size))
        have HXX := Lib.hid hxx
        obtain ⟨vb, hvb⟩ : ∃ vb, tvT x = vb := ⟨_, rfl⟩
        have HVB2 := Lib.hid hvb
        clear ex hkid hxx hxx' hvb hA
        cases vb with
        | false =>
          have hrn : r = none := by rw [← HRR.out]; exact svT_l (by rw [HL.out]; exact hlt) (by rw [HXX.out]; exact HVB2.out)
          subst hrn
          go_wp2_with fail
          go_at_call 28
          refine (typeValid_impl_val HVB2.out _ _ HKID.out).mono ?_
          rintro e w3 ⟨rfl, hb3⟩
          have HR3 := Lib.hid (HRa.out.kept hb3)
          have HB3 := Lib.hid (HBSa.out.trans (hb3.mono HBSa.out.size))
          clear hb3 y0 y1 y2
          obtain ⟨p0, p1, p2, f0, f1, f2, psz⟩ := HR3.out
          go_wp2_with fail
          exact bodyPost_ret (v := .tuple #[.agg #[.int .i64 0, .int .i64 0, .slice none 0 0], .bool false]) (by simp [results, Try.results19, go_sem, p0, p1, p2, psz]) rfl ⟨rfl, Inside.thin (in_res (lo := w.heap.size) (hi := w.heap.size) (Inside.of_below HB3.out) (by rw [HS.out]; omega) _ _ _)⟩
        | true =>
          go_wp2_with fail
          go_at_call 28
          refine (typeValid_impl_val HVB2.out _ _ HKID.out).mono ?_
          rintro e w3 ⟨rfl, hb3⟩
          have HB3 := Lib.hid (HBa.out.trans (hb3.mono HBa.out.size))
          clear hb3 y0 y1 y2
          go_wp2_with fail
          go_roundw
          case rel => exact ⟨j + 1, by omega, by go_num, Lib.hid (fun i hi => by
            by_cases hij : i = j
            · subst hij; rw [HXX.out]; exact HVB2.out
            · exact hval.out i (by omega)), HB3.out⟩
          case measure => simp [intOf]; omega
      · have hji : ¬ (j : Int) < (L : Int) := by omega
        obtain rfl : j = L := by omega
        have HALL : Hid (allV ls) := Lib.hid (fun i hi => hval.out i (by rw [← HL.out]; exact hi))
        obtain ⟨t0, t1, t2, tz⟩ := HTw.out
        obtain ⟨y, hy⟩ : ∃ y, sbT ls 16 t = y := ⟨_, rfl⟩
        have HY := Lib.hid hy
        have HSC := Lib.hid (rv_sv1 ls (S + 1) la lc w (by rw [HS.out]; omega) (by rw [HL.out]; exact HL0.out) (allV_shp HALL.out) 16 t _ wr (tvT_shp HVB.out) HX.out HBS.out (by rw [HL.out]; exact HQw.out))
        rw [HL.out] at HSC
        clear hy hlt
        go_wp2_with fail
        go_at_call 46
        refine HSC.out.mono ?_
        rintro e w3 ⟨v3, rfl, hty3, hin3, hi3⟩
        have ey : (rp (sF ls) 16 t []).1 = y := HY.out
        rw [ey] at hty3 ⊢
        obtain ⟨a3, k3, rfl, _⟩ := hty3.at.slice
        obtain ⟨W3, hW3⟩ : ∃ W3, w3.alloc (.cells #[.int .i64 y.k, .int .i64 y.n, .slice a3 y.ks.length k3] 28) = W3 := ⟨_, rfl⟩
        have hA3 : Below w3.heap.size w3 W3 := by rw [← hW3]; exact (Below.refl _ _).alloc (Nat.le_refl _) _
        have HB3 := Lib.hid ((hin3.below (by rw [HS.out]; omega) HBS.out HBS.out.size).trans (hA3.mono (by have := HBS.out.size; have := hin3.size; omega)))
        have HR3 := Lib.hid ((HRw.out.keep hin3.size (hin3.block _ HRw.out.sz (.inr (by omega)))).kept hA3)
        have HTY3 := Lib.hid (hty3.kept hA3)
        have HY3 : Hid (TBox W3 w3.heap.size (.int .i64 y.k) (.int .i64 y.n) (.slice a3 y.ks.length k3)) := Lib.hid (by rw [← hW3]; exact tbox_new w3 _ _ _ _)
        have hz3 : W3.heap.size = w3.heap.size + 1 := by rw [← hW3]; simp
        have HLO := Lib.hid (show S + 3 ≤ wr.heap.size by omega)
        have HWS := Lib.hid hin3.size
        have HW3 := Lib.hid hW3
        clear hty3 hin3 hi3 hA3 hW3 t0 t1 t2 tz ey
        obtain ⟨u0, u1, u2, uz⟩ := HY3.out
        go_wp2_with fail
        rw [HW3.out]
        obtain ⟨vr, hvr⟩ : ∃ vr, tvT y = vr := ⟨_, rfl⟩
        have HVR := Lib.hid hvr
        clear hvr
        cases vr with
        | false =>
          have hrn : r = none := by rw [← HRR.out]; exact svT_r (by rw [HY.out]; exact HVR.out)
          subst hrn
          go_at_call 28
          refine (typeValid_impl_val HVR.out _ _ HTY3.out.at).mono ?_
          rintro e w4 ⟨rfl, hb4⟩
          have HR4 := Lib.hid (HR3.out.kept hb4)
          have HB4 := Lib.hid (HB3.out.trans (hb4.mono HB3.out.size))
          clear hb4 u0 u1 u2 uz
          obtain ⟨p0, p1, p2, f0, f1, f2, psz⟩ := HR4.out
          go_wp2_with fail
          exact bodyPost_ret (v := .tuple #[.agg #[.int .i64 0, .int .i64 0, .slice none 0 0], .bool false]) (by simp [results, Try.results19, go_sem, p0, p1, p2, psz]) rfl ⟨rfl, Inside.thin (in_res (lo := w.heap.size) (hi := w.heap.size) (Inside.of_below HB4.out) (by rw [HS.out]; omega) _ _ _)⟩
        | true =>
          have hrn : r = some y := by rw [← HRR.out, svT_y HVB.out HALL.out (by rw [HY.out]; exact HVR.out), HY.out]
          subst hrn
          go_at_call 28
          refine (typeValid_impl_val HVR.out _ _ HTY3.out.at).mono ?_
          rintro e w4 ⟨rfl, hb4⟩
          have HR4 := Lib.hid (HR3.out.kept hb4)
          have HB4 := Lib.hid (HB3.out.trans (hb4.mono HB3.out.size))
          have HTY4 := Lib.hid (HTY3.out.kept hb4)
          have HY4 := Lib.hid (HY3.out.kept hb4)
          have hs4 : W3.heap.size ≤ w4.heap.size := hb4.size
          clear hb4 u0 u1 u2 uz
          obtain ⟨u0, u1, u2, uz⟩ := HY4.out
          obtain ⟨p0, p1, p2, f0, f1, f2, psz⟩ := HR4.out
          go_wp2_with fail
          exact bodyPost_ret (v := .tuple #[.agg #[.int .i64 y.k, .int .i64 y.n, .slice a3 y.ks.length k3], .bool true]) (by simp [results, Try.results19, go_sem, p0, p1, p2, psz]) rfl ⟨_, rfl, res_ty (B := S + 1 + 1) (w := w) (HTY4.out.wide (by have := HLO.out; omega) (by omega)) (by rw [HS.out]; omega) _ _ _, Inside.thin (in_res (lo := w.heap.size) (hi := w.heap.size) (Inside.of_below HB4.out) (by rw [HS.out]; omega) _ _ _)⟩

end Go.Proofs.Ytjhccdioainibaa

namespace Go.Proofs.Ytjhccdioainibaa
open Go.RowKit
set_option linter.unusedVariables false
set_option linter.unusedSimpArgs false

theorem tys_of_trod {H : Type} {enc : TypeId × Value → H} {w : World} {base : Nat} {spare : Nat → Bool} {held : Bool} (fuel : Nat) (cs : List Value) (x : DataW H × List MemPlace) (h : DataW.trod enc Try.prog w base spare held fuel 22 cs = some x) :
    ∃ (ls : List Ty) (v : Value), cs = [v] ∧ TyAt w (.node 0 0 ls) v := by
  rcases DataW.trod_slice Try.underlying22 h with ⟨hc, _⟩ | ⟨a, len, cap, elems, rest, n2, hn2, hc, _, hb, hlc, hm, hel, hall, _, _⟩
  · skip
    subst hc
    exact ⟨[], _, rfl, .bare 0 0 none 0⟩
  · skip
    subst hc
    have step : ∀ i, i < len → ∃ p : Ty × Value, w.cells? base (a.add (i * 3)) 3 = some [.int .i64 p.1.k, .int .i64 p.1.n, p.2] ∧ TyAt w p.1 p.2 := by
      intro i hi
      have h1 := hall i hi
      rw [cellsTy, List.getElem?_eq_getElem (by omega)] at h1
      rcases hcs : w.cells? base (a.add (i * 3)) 3 with _ | cs'
      · rw [hcs] at h1; simp at h1
      · rw [hcs] at h1
        obtain ⟨t, v, rfl, ht⟩ := ty_of_trod n2 cs' _ h1
        exact ⟨(t, v), rfl, ht⟩
    by_cases h0 : len = 0
    · subst h0
      exact ⟨[], _, rfl, .bare 0 0 _ cap⟩
    · obtain ⟨p, hp⟩ := Go.Deep.choose_lt step
      obtain ⟨b, o, spot⟩ := a
      have hspot : spot = none := by
        have h1 := (World.cells?_some (hp 0 (by omega)).1).2.2 0 (by omega)
        simp [Addr.add] at h1
        exact World.cell?_spot h1
      subst hspot
      have key : ∀ i, i < len → ∀ j, j < 3 → w.cell? ⟨b, o + i * 3 + j, none⟩ = ([Value.int .i64 (p i).1.k, .int .i64 (p i).1.n, (p i).2] : List Value)[j]? := by
        intro i hi j hj
        have h1 := (World.cells?_some (hp i hi).1).2.2 j hj
        rwa [addr_add] at h1
      have hbl : b < w.heap.size := World.block_lt_of_cell? w ⟨b, o + 0 * 3 + 0, none⟩ (key 0 (by omega) 0 (by omega))
      have hg : ∀ i, i < len → ((List.range len).map fun i => (p i).1).getD i Ty.dummy = (p i).1 := by
        intro i hi
        simp [List.getD, hi]
      refine ⟨((List.range len).map fun i => (p i).1), _, rfl, ?_⟩
      have e : (((List.range len).map fun i => (p i).1).length) = len := by simp
      have := TyAt.row (w := w) 0 0 ((List.range len).map fun i => (p i).1) b o cap (fun i => (p i).2) hbl (by rw [e]; unfold maxLen at hm; omega)
        (fun i hi => by rw [e] at hi; rw [hg i hi]; exact key i hi 0 (by omega))
        (fun i hi => by rw [e] at hi; rw [hg i hi]; exact key i hi 1 (by omega))
        (fun i hi => by rw [e] at hi; exact key i hi 2 (by omega))
        (fun i hi => by rw [e] at hi; rw [hg i hi]; exact (hp i hi).2)
      rwa [e] at this
theorem bne_same (b : Bool) : (b != b) = false := by cases b <;> rfl
theorem kids_cnt {ls : List Ty} {c : Nat} (h : Cnt (.node 0 0 ls) c) : ∃ cf : Nat → Nat, c = ls.length + ((List.range ls.length).map cf).sum ∧ ∀ i, i < ls.length → Cnt (ls.getD i Ty.dummy) (cf i) := by
  cases h with
  | node k n ks c h => exact ⟨c, rfl, h⟩
theorem szTypeS_any (ls : List Ty) (c : Nat) (v : Value) (l : Int) (w : World) (hc : Cnt (.node 0 0 ls) c) (hx : TyAt w (.node 0 0 ls) v) (h0 : 0 ≤ l) (h1 : l ≤ 1048576) :
    Calls Try.prog 22 #[v, .int .i64 l] w (SzPost l c w) := by
  obtain ⟨cf, rfl, hk⟩ := kids_cnt hc
  exact szTypeS_of (.node 0 0 ls) cf v l w hx h0 h1 (fun i hi r vi W r0 r1 ht => szType_any _ _ _ vi r W (Nat.lt_succ_self _) (hk i hi) ht r0 r1)
theorem toTypeS_any (ls : List Ty) (c : Nat) (v : Value) (w : World) (hc : Cnt (.node 0 0 ls) c) (hcm : c ≤ 1048576) (hx : TyAt w (.node 0 0 ls) v) :
    Calls Try.prog 27 #[v] w (ToPostS (.node 0 0 ls) w) := by
  obtain ⟨cf, rfl, hk⟩ := kids_cnt hc
  refine toTypeS_of (.node 0 0 ls) v w hx (by show ls.length ≤ _; omega) (fun i hi vi W ht => toType_any _ _ (cf i) vi W (Nat.lt_succ_self _) (hk i hi) ?_ ht)
  have h1 := sum_mono cf (show i + 1 ≤ ls.length from hi)
  rw [sum_succ] at h1
  omega
theorem eqTypeS_any (ls : List Ty) (c : Nat) (v1 v2 : Value) (w : World) (hc : Cnt (.node 0 0 ls) c) (hcm : c ≤ 1048576) (h1 : TyAt w (.node 0 0 ls) v1) (h2 : TyAt w (.node 0 0 ls) v2) :
    Calls Try.prog 33 #[v1, v2] w (EqPost w) := by
  obtain ⟨cf, rfl, hk⟩ := kids_cnt hc
  refine eqTypeS_of (.node 0 0 ls) v1 v2 w h1 h2 (by show ls.length ≤ _; omega) (fun i hi vi vj W ht1 ht2 => eqType_any _ _ (cf i) vi vj W (Nat.lt_succ_self _) (hk i hi) ?_ ht1 ht2)
  have h1 := sum_mono cf (show i + 1 ≤ ls.length from hi)
  rw [sum_succ] at h1
  omega
/-- The result of SubstVars is valid or the zero value. -/
theorem svT_cnt (t : Ty) (ls : List Ty) : ∃ c, Cnt (optT (svT t ls)) c ∧ c ≤ 62 := by
  rcases h : svT t ls with _ | y
  · exact ⟨0, .node 0 0 [] (fun _ => 0) (fun i hi => absurd hi (Nat.not_lt_zero _)), by omega⟩
  · refine cnt_valid ?_
    show tvT y = true
    unfold svT at h
    split at h
    · rename_i hq; injection h with h; subst h; exact hq.2.2
    · cases h

end Go.Proofs.Ytjhccdioainibaa

namespace Go.Proofs.Ytjhccdioainibaa
open Go.RowKit
set_option linter.unusedVariables false
set_option linter.unusedSimpArgs false


set_option maxRecDepth 100000 in
set_option maxHeartbeats 8000000 in
theorem l2Renamed_no (t : Ty) (rs : List Ty) (v : Value) (la : Option Addr) (LL lc : Nat) (w : World) (hx : TyAt w t v) (hrs : rs.length = t.ks.length) (hsz : t.ks.length ≤ 1000000) (hLL : LL ≤ 1000000) (hLp : (0 : Int) < (LL : Int)) (hk : (t.k == 4) = false)
    (H : ∀ i, i < t.ks.length → ∀ (vi : Value) (W : World), TyAt W (t.ks.getD i Ty.dummy) vi → Below w.heap.size w W → Calls Try.prog 57 #[.agg #[.int .i64 (t.ks.getD i Ty.dummy).k, .int .i64 (t.ks.getD i Ty.dummy).n, vi], .slice la LL lc] W (TyRet (rs.getD i Ty.dummy) W)) :
    Calls Try.prog 57 #[.agg #[.int .i64 t.k, .int .i64 t.n, v], .slice la LL lc] w (TyRet (.node t.k 0 rs) w) := by
  obtain ⟨i0, hi0, hz0, hz1, hz2⟩ := info_parts infoTy
  have HH := Lib.hid H
  have HX0 := Lib.hid hx
  obtain ⟨a, cap, rfl, hlen⟩ := hx.slice
  obtain ⟨L, hL⟩ : ∃ L, t.ks.length = L := ⟨_, rfl⟩
  have HL := Lib.hid hL
  have HRS := Lib.hid (hrs.trans hL)
  rw [hL] at hlen hsz ⊢
  obtain ⟨S, hS⟩ : ∃ S, w.heap.size = S := ⟨_, rfl⟩
  have HS := Lib.hid hS
  obtain ⟨W1, hW1⟩ : ∃ W1, ((w.alloc (.cells #[.int .i64 t.k, .int .i64 t.n, .slice a L cap] 28)).alloc (.cells #[.int .i64 0, .int .i64 0, .slice none 0 0] 28)).alloc (.cells #[.int .i64 t.k, .int .i64 0, .slice none 0 0] 28) = W1 := ⟨_, rfl⟩
  have HW1 := Lib.hid hW1
  have hB1 : Below w.heap.size w W1 := by rw [← hW1]; exact (((Below.refl _ _).alloc (Nat.le_refl _) _).alloc (by simp) _).alloc (by simp; omega) _
  have HB1S : Hid (Below S w W1) := Lib.hid (by rw [← hS]; exact hB1)
  have HT1 : Hid (TBox W1 S (.int .i64 t.k) (.int .i64 t.n) (.slice a L cap)) := Lib.hid (by rw [← hW1, ← hS]; exact ((tbox_new w _ _ _ _).kept ((Below.refl _ _).alloc (Nat.le_refl _) _)).kept ((Below.refl _ _).alloc (Nat.le_refl _) _))
  have HR1 : Hid (RB W1 (S + 1)) := Lib.hid (by have h := (rb_new (w.alloc (.cells #[.int .i64 t.k, .int .i64 t.n, .slice a L cap] 28)) 28).kept ((Below.refl _ _).alloc (Nat.le_refl _) (.cells #[.int .i64 t.k, .int .i64 0, .slice none 0 0] 28)); rw [sizeA, hW1, hS] at h; exact h)
  have HO1 : Hid (OB W1 (S + 1 + 1) t.k 0 (.slice none 0 0)) := Lib.hid (by
    have h := ob_new ((w.alloc (.cells #[.int .i64 t.k, .int .i64 t.n, .slice a L cap] 28)).alloc (.cells #[.int .i64 0, .int .i64 0, .slice none 0 0] 28)) t.k 0 (.slice none 0 0) 28
    rw [sizeA, sizeA, hW1, hS] at h
    exact h)
  have hz1' : W1.heap.size = S + 1 + 1 + 1 := by rw [← hW1, ← hS]; simp
  have HSW := Lib.hid (show S ≤ W1.heap.size by omega)
  clear hx hL hrs H hB1 hW1
  go_enter Try.func57, Try.ntmps57
  go_wp2_with fail
  rw [HW1.out]
  clear hS
  obtain ⟨t0, t1, t2, tz⟩ := HT1.out
  refine wp_loop_rounds 1 ?_
  rw [rounds_succ]
  go_wp2_with fail
  clear t0 t1 t2 tz
  go_loopw [7] (fun i wr => ∃ (j : Nat) (cv : Value) (xs : List Value) (vs : Nat → Value) (l h : Nat → Nat), j ≤ L ∧ i = .int .i64 j ∧ Hid (Gr rs (S + 1 + 1 + 1) j wr cv xs vs l h) ∧ Hid (OB wr (S + 1 + 1) t.k 0 cv) ∧ Hid (Inside (S + 1 + 1) (S + 1 + 1 + 1) W1 wr)) (fun i _ => L - (intOf i).toNat)
  case atStart => exact ⟨0, _, [], _, _, _, Nat.zero_le _, rfl, Lib.hid (gr_nil rs (S + 1 + 1 + 1) W1), HO1, Lib.hid (Inside.refl _ _ _)⟩
  case round =>
    obtain ⟨j, cv, xs, vs, l, h, hj, rfl, hgr, hob, hin⟩ := hrel
    have HTw := Lib.hid (HT1.out.away hin.out (.inl (by omega)))
    have hszw : S + 1 + 1 + 1 ≤ wr.heap.size := by have := hin.out.size; omega
    by_cases hlt : j < L
    · have hji : (j : Int) < (L : Int) := by omega
      have hti := hin.out.below (B := S) (by omega) HB1S.out HSW.out
      obtain ⟨b, o, cap2, vi, ex, bl, y0, y1, y2, hkid⟩ := HX0.out.kid j (by rw [HL.out]; exact hlt)
      have ex1 : a = some ⟨b, o, none⟩ := by injection ex
      subst ex1
      rw [HS.out] at bl
      replace y0 := (hti.cell (p := ⟨b, o + j * 3, none⟩) bl).trans y0
      replace y1 := (hti.cell (p := ⟨b, o + j * 3 + 1, none⟩) bl).trans y1
      replace y2 := (hti.cell (p := ⟨b, o + j * 3 + 2, none⟩) bl).trans y2
      have HKID := Lib.hid (hkid.kept (by rw [HS.out]; exact hti))
      have HJ := Lib.hid (HH.out j (by rw [HL.out]; exact hlt) vi)
      obtain ⟨x, hx⟩ : ∃ x, t.ks.getD j Ty.dummy = x := ⟨_, rfl⟩
      obtain ⟨y, hy⟩ : ∃ y, rs.getD j Ty.dummy = y := ⟨_, rfl⟩
      rw [hx] at y0 y1 HKID HJ
      rw [hy] at HJ
      have HY := Lib.hid hy
      have hbw : b < wr.heap.size := by omega
      have h63 : j + 1 ≤ maxLen := by unfold maxLen; omega
      have hby : (j + 1) * 40 ≤ 140737488355328 := by omega
      obtain ⟨t0, t1, t2, tz⟩ := HTw.out
      obtain ⟨p0, p1, p2, pf2, pz⟩ := hob.out
      have hn0 : ¬ S = S + 1 + 1 := by omega
      have hn1 : ¬ b = S + 1 + 1 := by omega
      have HTI := Lib.hid hti
      have hszS : S ≤ wr.heap.size := by omega
      clear ex hkid hx hy hti t0 t1 tz
      go_wp2_with fail
      go_region_law (first
        | (refine step_append_lies _ (by rfl) _ _ _ (by rfl) (S + 1 + 1 + 1) 28 i0 _ 3 40 Try.underlying26 hi0 hz0 hz1 hz2 rfl (by omega) cv j xs (by rfl) (HOWN2.out.alloc _) ⟨w2.heap.size, 0, none⟩ 1 1 [.int .i64 y.k, .int .i64 y.n, .slice a2 y.ks.length k2] (by rfl) (by rfl) (World.news_of_block (cs := #[.int .i64 y.k, .int .i64 y.n, .slice a2 y.ks.length k2]) (t := 28) (fr := (0, 0)) (heap_alloc_new w2 _)) (by simp [Value.oneCell']) (by omega) h63 hby (hbase2 _) (w2.heap.size + 1) (by simp) ?_; intro g cap3 w3 hown3 hgrow hat hltg; obtain ⟨xs3, vs3, l3, h3, hg3⟩ := hgr.out.step (by omega) HY.out HB2.out HTY2.out hown3 hgrow hat; have hrow : ∀ q, cv.ownBlock = some q → S + 1 + 1 + 1 ≤ q := (fun q e => (own_low HOWN2.out e).1); have e0 := grow_old hgrow (q := S) (by omega) (fun q e => by have := hrow q e; omega); have e1 := grow_old hgrow (q := b) (by omega) (fun q e => by have := hrow q e; omega); have HO3 := Lib.hid (HO2.out.keep (by have := grow_size hgrow; omega) (grow_old hgrow (q := S + 1 + 1) (by omega) (fun q e => by have := hrow q e; omega))); have HI3 := Lib.hid (in_grow HI2.out hgrow (fun q e => by have := hrow q e; omega)); have HG3 := Lib.hid hg3; have f2 := (cellEq e0).trans c2; have g0 := (cellEq e1).trans d0; have g1 := (cellEq e1).trans d1; have g2 := (cellEq e1).trans d2; obtain ⟨o0, o1, o2, of2, oz⟩ := HO3.out; have hs3 := grow_size hgrow; clear hown3 hgrow hat hg3 e0 e1)
        | (go_simp; go_at_call 57; refine (HJ.out _ (HKID.out.kept (by first | exact Below.refl _ _ | exact (Below.refl _ _).drew)) (by rw [HS.out]; exact (HTI.out.trans (Below.mono (B := wr.heap.size) (by first | exact Below.refl _ _ | exact (Below.refl _ _).drew) hszS)))).mono ?_; rintro e w2 ⟨v2, rfl, hty2, hb2⟩; obtain ⟨a2, k2, rfl, _⟩ := hty2.at.slice; have hb2' : Below wr.heap.size wr w2 := Below.trans (B := wr.heap.size) (by first | exact Below.refl _ _ | exact (Below.refl _ _).drew) hb2; have hty2' : TyIn w2 wr.heap.size w2.heap.size y (.slice a2 y.ks.length k2) := hty2; have HTY2 := Lib.hid hty2'; have HB2 := Lib.hid hb2'; have HOWN2 := Lib.hid (own_below hgr.out.own hb2'); have HO2 := Lib.hid (hob.out.kept hb2'); have HT2 := Lib.hid (HTw.out.kept hb2'); have HI2 := Lib.hid (hin.out.trans (Inside.of_below hb2')); have hs2 : wr.heap.size ≤ w2.heap.size := hb2'.size; have hbase2 : ∀ o, S + 1 + 1 + 1 ≤ (w2.alloc o).heap.size := (fun o => by simp; omega); obtain ⟨c0, c1, c2, cz⟩ := HT2.out; obtain ⟨rp0, rp1, rp2, rpf, rpz⟩ := HO2.out; have d0 := (hb2'.cell (p := ⟨b, o + j * 3, none⟩) hbw).trans y0; have d1 := (hb2'.cell (p := ⟨b, o + j * 3 + 1, none⟩) hbw).trans y1; have d2 := (hb2'.cell (p := ⟨b, o + j * 3 + 2, none⟩) hbw).trans y2; clear hb2 hb2' hty2 hty2'))
      all_goals go_wp2_with fail
      all_goals go_roundw
      all_goals first
        | exact ⟨j + 1, _, _, _, _, _, by omega, by go_num, Lib.hid (HG3.out.keep (by simp) (fun q h1 _ => heap_setCell_other _ ⟨S + 1 + 1, 2, none⟩ q _ (by show q ≠ S + 1 + 1; omega))), Lib.hid (HO3.out.set _), Lib.hid (HI3.out.trans (Inside.set _ _ _ (Nat.le_refl _) (Nat.lt_succ_self _)))⟩
        | (simp [intOf]; omega)
    · have hji : ¬ (j : Int) < (L : Int) := by omega
      obtain rfl : j = L := by omega
      have hgd := hgr.out
      rw [← HRS.out] at hgd
      have HD := Lib.hid (hgd.done t.k 0 (by rw [HRS.out]; exact hlen))
      obtain ⟨ca, cc, rfl, _⟩ := HD.out.at.slice
      have HRw := Lib.hid (HR1.out.keep hin.out.size (hin.out.block _ HR1.out.sz (.inl (by omega))))
      have HBw := Lib.hid (hin.out.below (B := S) (by omega) HB1S.out HSW.out)
      obtain ⟨t0, t1, t2, tz⟩ := HTw.out
      obtain ⟨p0, p1, p2, pf2, pz⟩ := hob.out
      obtain ⟨q0, q1, q2, qf0, qf1, qf2, qz⟩ := HRw.out
      clear hgd
      go_wp2_with fail
      exact bodyPost_ret (v := .agg #[.int .i64 t.k, .int .i64 0, .slice ca (Ty.node t.k 0 rs).ks.length cc]) (by simp [results, Try.results57, go_sem, q0, q1, q2, Ty.ks, HRS.out]) rfl ⟨_, rfl, TyIn.wide (res_ty (B := S + 1) (w := w) (HD.out.wide (by omega) (Nat.le_refl _)) (by rw [HS.out]; omega) _ _ _) (Nat.le_refl _) (Nat.le_refl _), Inside.thin (in_res (lo := w.heap.size) (hi := w.heap.size) (Inside.of_below (by rw [HS.out]; exact HBw.out)) (by rw [HS.out]; omega) _ _ _)⟩

set_option maxRecDepth 100000 in
set_option maxHeartbeats 8000000 in
theorem l2Renamed_nil (t : Ty) (rs : List Ty) (v : Value) (la : Option Addr) (LL lc : Nat) (w : World) (hx : TyAt w t v) (hrs : rs.length = t.ks.length) (hsz : t.ks.length ≤ 1000000) (hLL : LL ≤ 1000000) (hk : (t.k == 4) = false)
    (H : ∀ i, i < t.ks.length → ∀ (vi : Value) (W : World), TyAt W (t.ks.getD i Ty.dummy) vi → Below w.heap.size w W → Calls Try.prog 57 #[.agg #[.int .i64 (t.ks.getD i Ty.dummy).k, .int .i64 (t.ks.getD i Ty.dummy).n, vi], .slice la 0 lc] W (TyRet (rs.getD i Ty.dummy) W)) :
    Calls Try.prog 57 #[.agg #[.int .i64 t.k, .int .i64 t.n, v], .slice la 0 lc] w (TyRet (.node t.k 0 rs) w) := by
  obtain ⟨i0, hi0, hz0, hz1, hz2⟩ := info_parts infoTy
  have HH := Lib.hid H
  have HX0 := Lib.hid hx
  obtain ⟨a, cap, rfl, hlen⟩ := hx.slice
  obtain ⟨L, hL⟩ : ∃ L, t.ks.length = L := ⟨_, rfl⟩
  have HL := Lib.hid hL
  have HRS := Lib.hid (hrs.trans hL)
  rw [hL] at hlen hsz ⊢
  obtain ⟨S, hS⟩ : ∃ S, w.heap.size = S := ⟨_, rfl⟩
  have HS := Lib.hid hS
  obtain ⟨W1, hW1⟩ : ∃ W1, ((w.alloc (.cells #[.int .i64 t.k, .int .i64 t.n, .slice a L cap] 28)).alloc (.cells #[.int .i64 0, .int .i64 0, .slice none 0 0] 28)).alloc (.cells #[.int .i64 t.k, .int .i64 0, .slice none 0 0] 28) = W1 := ⟨_, rfl⟩
  have HW1 := Lib.hid hW1
  have hB1 : Below w.heap.size w W1 := by rw [← hW1]; exact (((Below.refl _ _).alloc (Nat.le_refl _) _).alloc (by simp) _).alloc (by simp; omega) _
  have HB1S : Hid (Below S w W1) := Lib.hid (by rw [← hS]; exact hB1)
  have HT1 : Hid (TBox W1 S (.int .i64 t.k) (.int .i64 t.n) (.slice a L cap)) := Lib.hid (by rw [← hW1, ← hS]; exact ((tbox_new w _ _ _ _).kept ((Below.refl _ _).alloc (Nat.le_refl _) _)).kept ((Below.refl _ _).alloc (Nat.le_refl _) _))
  have HR1 : Hid (RB W1 (S + 1)) := Lib.hid (by have h := (rb_new (w.alloc (.cells #[.int .i64 t.k, .int .i64 t.n, .slice a L cap] 28)) 28).kept ((Below.refl _ _).alloc (Nat.le_refl _) (.cells #[.int .i64 t.k, .int .i64 0, .slice none 0 0] 28)); rw [sizeA, hW1, hS] at h; exact h)
  have HO1 : Hid (OB W1 (S + 1 + 1) t.k 0 (.slice none 0 0)) := Lib.hid (by
    have h := ob_new ((w.alloc (.cells #[.int .i64 t.k, .int .i64 t.n, .slice a L cap] 28)).alloc (.cells #[.int .i64 0, .int .i64 0, .slice none 0 0] 28)) t.k 0 (.slice none 0 0) 28
    rw [sizeA, sizeA, hW1, hS] at h
    exact h)
  have hz1' : W1.heap.size = S + 1 + 1 + 1 := by rw [← hW1, ← hS]; simp
  have HSW := Lib.hid (show S ≤ W1.heap.size by omega)
  clear hx hL hrs H hB1 hW1
  go_enter Try.func57, Try.ntmps57
  go_wp2_with fail
  rw [HW1.out]
  clear hS
  obtain ⟨t0, t1, t2, tz⟩ := HT1.out
  refine wp_loop_rounds 1 ?_
  rw [rounds_succ]
  go_wp2_with fail
  clear t0 t1 t2 tz
  go_loopw [7] (fun i wr => ∃ (j : Nat) (cv : Value) (xs : List Value) (vs : Nat → Value) (l h : Nat → Nat), j ≤ L ∧ i = .int .i64 j ∧ Hid (Gr rs (S + 1 + 1 + 1) j wr cv xs vs l h) ∧ Hid (OB wr (S + 1 + 1) t.k 0 cv) ∧ Hid (Inside (S + 1 + 1) (S + 1 + 1 + 1) W1 wr)) (fun i _ => L - (intOf i).toNat)
  case atStart => exact ⟨0, _, [], _, _, _, Nat.zero_le _, rfl, Lib.hid (gr_nil rs (S + 1 + 1 + 1) W1), HO1, Lib.hid (Inside.refl _ _ _)⟩
  case round =>
    obtain ⟨j, cv, xs, vs, l, h, hj, rfl, hgr, hob, hin⟩ := hrel
    have HTw := Lib.hid (HT1.out.away hin.out (.inl (by omega)))
    have hszw : S + 1 + 1 + 1 ≤ wr.heap.size := by have := hin.out.size; omega
    by_cases hlt : j < L
    · have hji : (j : Int) < (L : Int) := by omega
      have hti := hin.out.below (B := S) (by omega) HB1S.out HSW.out
      obtain ⟨b, o, cap2, vi, ex, bl, y0, y1, y2, hkid⟩ := HX0.out.kid j (by rw [HL.out]; exact hlt)
      have ex1 : a = some ⟨b, o, none⟩ := by injection ex
      subst ex1
      rw [HS.out] at bl
      replace y0 := (hti.cell (p := ⟨b, o + j * 3, none⟩) bl).trans y0
      replace y1 := (hti.cell (p := ⟨b, o + j * 3 + 1, none⟩) bl).trans y1
      replace y2 := (hti.cell (p := ⟨b, o + j * 3 + 2, none⟩) bl).trans y2
      have HKID := Lib.hid (hkid.kept (by rw [HS.out]; exact hti))
      have HJ := Lib.hid (HH.out j (by rw [HL.out]; exact hlt) vi)
      obtain ⟨x, hx⟩ : ∃ x, t.ks.getD j Ty.dummy = x := ⟨_, rfl⟩
      obtain ⟨y, hy⟩ : ∃ y, rs.getD j Ty.dummy = y := ⟨_, rfl⟩
      rw [hx] at y0 y1 HKID HJ
      rw [hy] at HJ
      have HY := Lib.hid hy
      have hbw : b < wr.heap.size := by omega
      have h63 : j + 1 ≤ maxLen := by unfold maxLen; omega
      have hby : (j + 1) * 40 ≤ 140737488355328 := by omega
      obtain ⟨t0, t1, t2, tz⟩ := HTw.out
      obtain ⟨p0, p1, p2, pf2, pz⟩ := hob.out
      have hn0 : ¬ S = S + 1 + 1 := by omega
      have hn1 : ¬ b = S + 1 + 1 := by omega
      have HTI := Lib.hid hti
      have hszS : S ≤ wr.heap.size := by omega
      clear ex hkid hx hy hti t0 t1 tz
      go_wp2_with fail
      go_region_law (first
        | (refine step_append_lies _ (by rfl) _ _ _ (by rfl) (S + 1 + 1 + 1) 28 i0 _ 3 40 Try.underlying26 hi0 hz0 hz1 hz2 rfl (by omega) cv j xs (by rfl) (HOWN2.out.alloc _) ⟨w2.heap.size, 0, none⟩ 1 1 [.int .i64 y.k, .int .i64 y.n, .slice a2 y.ks.length k2] (by rfl) (by rfl) (World.news_of_block (cs := #[.int .i64 y.k, .int .i64 y.n, .slice a2 y.ks.length k2]) (t := 28) (fr := (0, 0)) (heap_alloc_new w2 _)) (by simp [Value.oneCell']) (by omega) h63 hby (hbase2 _) (w2.heap.size + 1) (by simp) ?_; intro g cap3 w3 hown3 hgrow hat hltg; obtain ⟨xs3, vs3, l3, h3, hg3⟩ := hgr.out.step (by omega) HY.out HB2.out HTY2.out hown3 hgrow hat; have hrow : ∀ q, cv.ownBlock = some q → S + 1 + 1 + 1 ≤ q := (fun q e => (own_low HOWN2.out e).1); have e0 := grow_old hgrow (q := S) (by omega) (fun q e => by have := hrow q e; omega); have e1 := grow_old hgrow (q := b) (by omega) (fun q e => by have := hrow q e; omega); have HO3 := Lib.hid (HO2.out.keep (by have := grow_size hgrow; omega) (grow_old hgrow (q := S + 1 + 1) (by omega) (fun q e => by have := hrow q e; omega))); have HI3 := Lib.hid (in_grow HI2.out hgrow (fun q e => by have := hrow q e; omega)); have HG3 := Lib.hid hg3; have f2 := (cellEq e0).trans c2; have g0 := (cellEq e1).trans d0; have g1 := (cellEq e1).trans d1; have g2 := (cellEq e1).trans d2; obtain ⟨o0, o1, o2, of2, oz⟩ := HO3.out; have hs3 := grow_size hgrow; clear hown3 hgrow hat hg3 e0 e1)
        | (go_simp; go_at_call 57; refine (HJ.out _ (HKID.out.kept (by first | exact Below.refl _ _ | exact (Below.refl _ _).drew)) (by rw [HS.out]; exact (HTI.out.trans (Below.mono (B := wr.heap.size) (by first | exact Below.refl _ _ | exact (Below.refl _ _).drew) hszS)))).mono ?_; rintro e w2 ⟨v2, rfl, hty2, hb2⟩; obtain ⟨a2, k2, rfl, _⟩ := hty2.at.slice; have hb2' : Below wr.heap.size wr w2 := Below.trans (B := wr.heap.size) (by first | exact Below.refl _ _ | exact (Below.refl _ _).drew) hb2; have hty2' : TyIn w2 wr.heap.size w2.heap.size y (.slice a2 y.ks.length k2) := hty2; have HTY2 := Lib.hid hty2'; have HB2 := Lib.hid hb2'; have HOWN2 := Lib.hid (own_below hgr.out.own hb2'); have HO2 := Lib.hid (hob.out.kept hb2'); have HT2 := Lib.hid (HTw.out.kept hb2'); have HI2 := Lib.hid (hin.out.trans (Inside.of_below hb2')); have hs2 : wr.heap.size ≤ w2.heap.size := hb2'.size; have hbase2 : ∀ o, S + 1 + 1 + 1 ≤ (w2.alloc o).heap.size := (fun o => by simp; omega); obtain ⟨c0, c1, c2, cz⟩ := HT2.out; obtain ⟨rp0, rp1, rp2, rpf, rpz⟩ := HO2.out; have d0 := (hb2'.cell (p := ⟨b, o + j * 3, none⟩) hbw).trans y0; have d1 := (hb2'.cell (p := ⟨b, o + j * 3 + 1, none⟩) hbw).trans y1; have d2 := (hb2'.cell (p := ⟨b, o + j * 3 + 2, none⟩) hbw).trans y2; clear hb2 hb2' hty2 hty2'))
      all_goals go_wp2_with fail
      all_goals go_roundw
      all_goals first
        | exact ⟨j + 1, _, _, _, _, _, by omega, by go_num, Lib.hid (HG3.out.keep (by simp) (fun q h1 _ => heap_setCell_other _ ⟨S + 1 + 1, 2, none⟩ q _ (by show q ≠ S + 1 + 1; omega))), Lib.hid (HO3.out.set _), Lib.hid (HI3.out.trans (Inside.set _ _ _ (Nat.le_refl _) (Nat.lt_succ_self _)))⟩
        | (simp [intOf]; omega)
    · have hji : ¬ (j : Int) < (L : Int) := by omega
      obtain rfl : j = L := by omega
      have hgd := hgr.out
      rw [← HRS.out] at hgd
      have HD := Lib.hid (hgd.done t.k 0 (by rw [HRS.out]; exact hlen))
      obtain ⟨ca, cc, rfl, _⟩ := HD.out.at.slice
      have HRw := Lib.hid (HR1.out.keep hin.out.size (hin.out.block _ HR1.out.sz (.inl (by omega))))
      have HBw := Lib.hid (hin.out.below (B := S) (by omega) HB1S.out HSW.out)
      obtain ⟨t0, t1, t2, tz⟩ := HTw.out
      obtain ⟨p0, p1, p2, pf2, pz⟩ := hob.out
      obtain ⟨q0, q1, q2, qf0, qf1, qf2, qz⟩ := HRw.out
      clear hgd
      go_wp2_with fail
      exact bodyPost_ret (v := .agg #[.int .i64 t.k, .int .i64 0, .slice ca (Ty.node t.k 0 rs).ks.length cc]) (by simp [results, Try.results57, go_sem, q0, q1, q2, Ty.ks, HRS.out]) rfl ⟨_, rfl, TyIn.wide (res_ty (B := S + 1) (w := w) (HD.out.wide (by omega) (Nat.le_refl _)) (by rw [HS.out]; omega) _ _ _) (Nat.le_refl _) (Nat.le_refl _), Inside.thin (in_res (lo := w.heap.size) (hi := w.heap.size) (Inside.of_below (by rw [HS.out]; exact HBw.out)) (by rw [HS.out]; omega) _ _ _)⟩

end Go.Proofs.Ytjhccdioainibaa
