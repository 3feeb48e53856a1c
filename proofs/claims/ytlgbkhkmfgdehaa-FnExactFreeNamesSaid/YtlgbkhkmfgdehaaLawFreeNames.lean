/-
  FnExactFreeNames returns true for every expression, and it reads as it did: FreeNames answers as its model, in memory of its own. No conditions.
-/
import Derived.Test.YtlgbkhkmfgdehaaRows
import Derived.ProofKit
import Derived.OpenShut
import Derived.ShutString
import Derived.ChangeOld
import Derived.Below
import Derived.Lib.SmallJoins
import Derived.Test.YtlgbkhkmfgdehaaRg
import Derived.Test.YtlgbkhkmfgdehaaEh
namespace Go.Proofs.Ytlgbkhkmfgdehaa.fnExactFreeNames
open Go.Proofs.Ytlgbkhkmfgdehaa
open Go.ChangeShapes Go.WideShapes Go.ChangeAt Go.RowKit Go.Joins
open Go.ChangeMaps (open_string shut_string)
set_option linter.unusedVariables false
set_option linter.unusedSimpArgs false

theorem own : ownKnob Try.prog.godebug = none := by kernel_rfl
theorem laidOut : laidOutB Try.prog = true := by kernel_rfl

theorem sr_inside {w w' : World} {B lo hi : Nat} {v : Value} {l : List ByteArray} (h : SR w B v l) (hI : Inside lo hi w w') (ho : ∀ g, v.ownBlock = some g → g < lo ∨ hi ≤ g) : SR w' B v l := by
  obtain ⟨hl, h | ⟨g, cap, cur, rfl, hb', hg, h1, h2, h3, h4⟩⟩ := h
  · exact ⟨hl, .inl h⟩
  · exact ⟨hl, .inr ⟨g, cap, cur, rfl, hb', (hI.block g (Array.getElem?_eq_some_iff.1 hg).1 (ho g rfl)).trans hg, h1, h2, h3, h4⟩⟩
theorem sr_low {w w' : World} {B C : Nat} {v : Value} {l : List ByteArray} (h : SR w B v l) (ho : ∀ g, v.ownBlock = some g → g < C) (hb : Below C w w') : SR w' B v l := by
  obtain ⟨hl, h | ⟨g, cap, cur, rfl, hb', hg, h1, h2, h3, h4⟩⟩ := h
  · exact ⟨hl, .inl h⟩
  · exact ⟨hl, .inr ⟨g, cap, cur, rfl, hb', (hb.block g (ho g rfl)).trans hg, h1, h2, h3, h4⟩⟩
theorem EBox.inside {w w' : World} {B lo hi : Nat} {x y m s z : Value} (h : EBox w B x y m s z) (hI : Inside lo hi w w') (hB : B < lo) : EBox w' B x y m s z := h.aside hI.size (hI.block B h.sz (.inl hB))
theorem EBox.low {w w' : World} {B C : Nat} {x y m s z : Value} (h : EBox w B x y m s z) (hb : Below C w w') (hB : B < C) : EBox w' B x y m s z := h.aside hb.size (hb.block B hB)

set_option maxRecDepth 100000 in
set_option maxHeartbeats 16000000 in
theorem walk (x : Ex) (v : Value) (w : World) (hx : ExAt w x v) (hc0 : ∃ c, Ox.Cnt x c) :
    Calls Try.prog 5 #[.agg #[.int .i64 x.k, .int .i64 x.n, .string x.m, .string x.s, v]] w fun e w' => e = .returned (.bool true) ∧ Below w.heap.size w w' := by
  obtain ⟨c, hc⟩ := hc0
  have HX := Lib.hid hx
  have HC := Lib.hid hc
  obtain ⟨a, cap, rfl, hlen⟩ := hx.slice
  clear hx hc
  have HA0 : Hid (Below w.heap.size w (w.alloc (.cells #[.int .i64 x.k, .int .i64 x.n, .string x.m, .string x.s, .slice a x.ks.length cap] 46))) := Lib.hid ((Below.refl _ _).alloc (Nat.le_refl _) _)
  have HP0 := Lib.hid (ebox_new w (.int .i64 x.k) (.int .i64 x.n) (.string x.m) (.string x.s) (.slice a x.ks.length cap) 46)
  by_cases hle : (c : Int) ≤ 1048576
  case neg =>
    have HL := Lib.hid (leftOf_no hle)
    go_enter Try.func5, Try.ntmps5
    go_wp2_with fail
    go_at_call 17
    refine (Ox.szExpr_any _ x c _ 1048576 _ (Nat.lt_succ_self _) HC.out (HX.out.kept HA0.out) (by omega) (by omega)).mono ?_
    rintro e w1 ⟨rfl, hb1⟩
    rw [HL.out]
    have H1 := Lib.hid (HA0.out.trans (hb1.mono HA0.out.size))
    clear hb1
    go_wp2_with fail
    go_ret
    exact ⟨rfl, H1.out⟩
  have hcm : c ≤ 1048576 := by omega
  have HL := Lib.hid (leftOf_yes hle)
  have hnn : 0 ≤ 1048576 - (c : Int) := by omega
  clear hle
  obtain ⟨l, hl⟩ : ∃ l, Ox.fnl x = l := ⟨_, rfl⟩
  have HV := Lib.hid hl
  have hl1 : l.length ≤ 60 := by rw [← hl]; exact Ox.fnl_len x
  obtain ⟨L, hLe⟩ : ∃ L, l.length = L := ⟨_, rfl⟩
  have HLE := Lib.hid hLe
  rw [hLe] at hl1
  clear hl hLe
  go_enter Try.func5, Try.ntmps5
  go_wp2_with fail
  go_at_call 17
  refine (Ox.szExpr_any _ x c _ 1048576 _ (Nat.lt_succ_self _) HC.out (HX.out.kept HA0.out) (by omega) (by omega)).mono ?_
  rintro e w1 ⟨rfl, hb1⟩
  rw [HL.out]
  have HP1 := Lib.hid (HP0.out.kept hb1)
  have H1 := Lib.hid (HA0.out.trans (hb1.mono HA0.out.size))
  clear hb1
  obtain ⟨p0, p1, p2, p3, p4, pz⟩ := HP1.out
  go_wp2_with fail
  go_at_call 19
  refine (Ox.toExpr_any _ x c _ _ (Nat.lt_succ_self _) HC.out hcm (HX.out.kept H1.out)).mono ?_
  rintro e w2 ⟨v2, rfl, hty2, hb2⟩
  have B2 := Lib.hid hb2
  have H2 := Lib.hid (H1.out.trans (hb2.mono H1.out.size))
  have HP2 := Lib.hid (HP1.out.kept hb2)
  have HT2 := Lib.hid hty2.at
  clear hty2 p0 p1 p2 p3 p4 pz
  clear hb2
  go_wp2_with fail
  go_at_call 18
  refine (Ox.freeNames_spec HV.out _ _ HT2.out).mono ?_
  rintro e w3 ⟨s, rfl, hi3, hb3⟩
  have B3 := Lib.hid hb3
  have H3 := Lib.hid (H2.out.trans (hb3.mono H2.out.size))
  have HP3 := Lib.hid (HP2.out.kept hb3)
  obtain ⟨sa, sc, hs⟩ := owns_slice hi3
  rw [HLE.out] at hs
  subst hs
  have HS3 := Lib.hid hi3
  have HSL : Hid (∀ g, (Value.slice sa L sc).ownBlock = some g → g < w3.heap.size) := Lib.hid (fun g hg => (Ox.owns_lt hi3 g hg).2)
  obtain ⟨p0, p1, p2, p3, p4, pz⟩ := HP3.out
  clear hi3
  clear hb3
  go_wp2_with fail
  go_at_call 19
  refine (Ox.toExpr_any _ x c _ _ (Nat.lt_succ_self _) HC.out hcm (HX.out.kept H3.out)).mono ?_
  rintro e w4 ⟨v4, rfl, hty4, hb4⟩
  have B4 := Lib.hid hb4
  have H4 := Lib.hid (H3.out.trans (hb4.mono H3.out.size))
  have HP4 := Lib.hid (HP3.out.kept hb4)
  have HY4 := Lib.hid hty4
  obtain ⟨a4, k4, rfl, _⟩ := hty4.at.slice
  have HS4 := Lib.hid (HS3.out.below hb4)
  have HP5 := Lib.hid (HP4.out.kept ((Below.refl _ _).alloc (Nat.le_refl _) (.cells #[.int .i64 x.k, .int .i64 x.n, .string x.m, .string x.s, .slice a4 x.ks.length k4] 38)))
  have HQ5 := Lib.hid (ebox_new w4 (.int .i64 x.k) (.int .i64 x.n) (.string x.m) (.string x.s) (.slice a4 x.ks.length k4) 38)
  have B5 : Hid (Below w4.heap.size w4 (w4.alloc (.cells #[.int .i64 x.k, .int .i64 x.n, .string x.m, .string x.s, .slice a4 x.ks.length k4] 38))) := Lib.hid ((Below.refl _ _).alloc (Nat.le_refl _) _)
  have H5 := Lib.hid (H4.out.trans (B5.out.mono H4.out.size))
  have HY5 := Lib.hid (HY4.out.kept B5.out)
  have HS5 := Lib.hid (HS4.out.below B5.out)
  have hz34 : w3.heap.size ≤ w4.heap.size := B4.out.size
  have hz5 : w4.heap.size < (w4.alloc (.cells #[.int .i64 x.k, .int .i64 x.n, .string x.m, .string x.s, .slice a4 x.ks.length k4] 38)).heap.size := by simp
  clear hty4 p0 p1 p2 p3 p4 pz
  clear hb4
  go_wp2_with fail
  obtain ⟨w5, hw5⟩ : ∃ w5, w4.alloc (.cells #[.int .i64 x.k, .int .i64 x.n, .string x.m, .string x.s, .slice a4 x.ks.length k4] 38) = w5 := ⟨_, rfl⟩
  rw [hw5]
  rw [hw5] at HP5 HQ5 B5 H5 HY5 HS5 hz5
  clear hw5
  go_at_call 20
  refine (Ox.freeNames_impl HV.out _ _ HY5.out.at).mono ?_
  rintro e w6 ⟨g, rfl, hi6, hb6⟩
  have B6 := Lib.hid hb6
  have H6 := Lib.hid (H5.out.trans (hb6.mono H5.out.size))
  have HP6 := Lib.hid (HP5.out.kept hb6)
  obtain ⟨ga, gc, hg⟩ := owns_slice hi6
  rw [HLE.out] at hg
  subst hg
  have HG6 := Lib.hid hi6
  have HGL : Hid (∀ q, (Value.slice ga L gc).ownBlock = some q → w5.heap.size ≤ q) := Lib.hid (fun q hq => (Ox.owns_lt hi6 q hq).1)
  have HQ6 := Lib.hid (HQ5.out.kept hb6)
  have HY6 := Lib.hid (HY5.out.kept hb6)
  have HS6 := Lib.hid (HS5.out.below hb6)
  clear hi6
  clear hb6
  go_wp2_with fail
  go_at_call 21
  refine (eqStringS_same _ _ l (by rw [HLE.out]; omega) _ _ _ HG6.out HS6.out).mono ?_
  rintro e w7 ⟨rfl, hb7⟩
  have B7 := Lib.hid hb7
  have H7 := Lib.hid (H6.out.trans (hb7.mono H6.out.size))
  have HP7 := Lib.hid (HP6.out.kept hb7)
  have HQ7 := Lib.hid (HQ6.out.kept hb7)
  have HY7 := Lib.hid (HY6.out.kept hb7)
  have HT7a := Lib.hid HY7.out.at
  have HS7 := Lib.hid (HS6.out.below hb7)
  have HG7 := Lib.hid (HG6.out.below hb7)
  clear hb7
  obtain ⟨p0, p1, p2, p3, p4, pz⟩ := HP7.out
  obtain ⟨q0, q1, q2, q3, q4, qz⟩ := HQ7.out
  obtain ⟨B4', hB4⟩ : ∃ B, w4.heap.size = B := ⟨_, rfl⟩
  have hzz : w.heap.size < w4.heap.size := HP4.out.sz
  have hz4B := Lib.hid hB4
  rw [hB4] at q0 q1 q2 q3 q4 qz hzz
  go_wp2_with fail
  (try rw [hB4])
  rw [hB4] at HQ7
  clear hB4
  go_region_held3 (fun w' => w'.cell? ⟨w.heap.size, 0, none⟩ = some (.int .i64 x.k) ∧ w'.cell? ⟨w.heap.size, 1, none⟩ = some (.int .i64 x.n) ∧ w'.cell? ⟨w.heap.size, 2, none⟩ = some (.string x.m) ∧ w'.cell? ⟨w.heap.size, 3, none⟩ = some (.string x.s) ∧ w'.cell? ⟨w.heap.size, 4, none⟩ = some (.slice a x.ks.length cap) ∧ w'.cell? ⟨B4', 0, none⟩ = some (.int .i64 x.k) ∧ w'.cell? ⟨B4', 1, none⟩ = some (.int .i64 x.n) ∧ w'.cell? ⟨B4', 2, none⟩ = some (.string x.m) ∧ w'.cell? ⟨B4', 3, none⟩ = some (.string x.s) ∧ w'.cell? ⟨B4', 4, none⟩ = some (.slice a4 x.ks.length k4)) (go_keep)
    (first
      | (go_at_call 19; refine (Ox.toExpr_any _ x c _ _ (Nat.lt_succ_self _) HC.out hcm (HX.out.kept (by first | exact H7.out | exact H7.out.drew))).mono ?_; rintro e w8 ⟨v8, rfl, hty8, hb8⟩; obtain ⟨a8, k8, rfl, _⟩ := hty8.at.slice; have HT8 := Lib.hid hty8.at; have HT8a := Lib.hid (HT7a.out.kept (Below.trans (B := w7.heap.size) (by first | exact Below.refl _ _ | exact (Below.refl _ _).drew) hb8)); have HY8 := Lib.hid (HY7.out.kept (Below.trans (B := w7.heap.size) (by first | exact Below.refl _ _ | exact (Below.refl _ _).drew) hb8)); have HP8 := Lib.hid (HP7.out.kept (Below.trans (B := w7.heap.size) (by first | exact Below.refl _ _ | exact (Below.refl _ _).drew) hb8)); have HQ8 := Lib.hid (HQ7.out.kept (Below.trans (B := w7.heap.size) (by first | exact Below.refl _ _ | exact (Below.refl _ _).drew) hb8)); have HS8 := Lib.hid (HS7.out.below (Below.trans (B := w7.heap.size) (by first | exact Below.refl _ _ | exact (Below.refl _ _).drew) hb8)); have HG8 := Lib.hid (HG7.out.below (Below.trans (B := w7.heap.size) (by first | exact Below.refl _ _ | exact (Below.refl _ _).drew) hb8)); have H8 := Lib.hid (H7.out.trans ((Below.trans (B := w7.heap.size) (by first | exact Below.refl _ _ | exact (Below.refl _ _).drew) hb8).mono H7.out.size)); have hz8 : w7.heap.size ≤ w8.heap.size := (by have hq := (Below.trans (B := w7.heap.size) (by first | exact Below.refl _ _ | exact (Below.refl _ _).drew) hb8); exact hq.size); obtain ⟨g0, g1, g2, g3, g4, gz⟩ := HP8.out; obtain ⟨f0, f1, f2, f3, f4, fz⟩ := HQ8.out; clear hb8 hty8)
      | (go_at_call 14; refine (Ox.eqExpr_any _ x c _ _ _ (Nat.lt_succ_self _) HC.out hcm (by first | exact HT8a.out | exact HT8a.out.kept (Below.refl _ _).drew) (by first | exact HT8.out | exact HT8.out.kept (Below.refl _ _).drew)).mono ?_; rintro e w9 ⟨rfl, hb9⟩; have H9 := Lib.hid (H8.out.trans ((Below.trans (B := w8.heap.size) (by first | exact Below.refl _ _ | exact (Below.refl _ _).drew) hb9).mono H8.out.size)); have HY9 := Lib.hid (HY8.out.kept (Below.trans (B := w8.heap.size) (by first | exact Below.refl _ _ | exact (Below.refl _ _).drew) hb9)); have HP9 := Lib.hid (HP8.out.kept (Below.trans (B := w8.heap.size) (by first | exact Below.refl _ _ | exact (Below.refl _ _).drew) hb9)); have HQ9 := Lib.hid (HQ8.out.kept (Below.trans (B := w8.heap.size) (by first | exact Below.refl _ _ | exact (Below.refl _ _).drew) hb9)); have HS9 := Lib.hid (HS8.out.below (Below.trans (B := w8.heap.size) (by first | exact Below.refl _ _ | exact (Below.refl _ _).drew) hb9)); have HG9 := Lib.hid (HG8.out.below (Below.trans (B := w8.heap.size) (by first | exact Below.refl _ _ | exact (Below.refl _ _).drew) hb9)); obtain ⟨e0, e1, e2, e3, e4, ez⟩ := HP9.out; obtain ⟨j0, j1, j2, j3, j4, jz⟩ := HQ9.out; clear hb9))
  go_wp2_with fail
  have hw3 : w.heap.size ≤ w3.heap.size := H3.out.size
  have hw5 : w3.heap.size ≤ w5.heap.size := by omega
  have hwz : w.heap.size < w3.heap.size := HP3.out.sz
  have HW3 := Lib.hid hw3
  have HW5 := Lib.hid hw5
  have HWZ := Lib.hid hwz
  have HZ45 : Hid (w4.heap.size ≤ w5.heap.size) := Lib.hid (by omega)
  clear hw3 hw5 hwz hz34 hz5 hzz
  go_at_call 15
  refine (Ox.markExpr_any x c _ _ _ 1 _ HC.out HY9.out (by omega) (by omega)).mono ?_
  rintro e w10 ⟨kk, rfl, hk1, hk2, hI⟩
  have H10 := Lib.hid (hI.below HW3.out H9.out H9.out.size)
  have HS10 := Lib.hid (sr_inside HS9.out hI (fun q hq => .inl (HSL.out q hq)))
  have HG10 := Lib.hid (sr_inside HG9.out hI (fun q hq => .inr (Nat.le_trans HZ45.out (HGL.out q hq))))
  have HP10 := Lib.hid (EBox.inside HP9.out hI HWZ.out)
  clear hI
  go_wp2_with fail
  go_at_call 21
  refine (eqStringS_same _ _ l (by rw [HLE.out]; omega) _ _ _ HG10.out HS10.out).mono ?_
  rintro e w11 ⟨rfl, hb11⟩
  have B11 := Lib.hid hb11
  have H11 := Lib.hid (H10.out.trans (hb11.mono H10.out.size))
  have HP11 := Lib.hid (HP10.out.kept hb11)
  have HS11 := Lib.hid (HS10.out.below hb11)
  have HG11 := Lib.hid (HG10.out.below hb11)
  clear hb11
  go_wp2_with fail
  go_at_call 22
  refine (markStringS_any w5.heap.size 1 l (by rw [HLE.out]; omega) (by omega) _ _ HG11.out).mono ?_
  rintro e w12 ⟨rfl, hg12, hb12⟩
  rw [HLE.out] at hg12 ⊢
  have HG12 := Lib.hid hg12
  have H12 := Lib.hid (H11.out.trans (hb12.mono (Nat.le_trans HW3.out HW5.out)))
  have HS12 := Lib.hid (sr_low HS11.out (fun q hq => Nat.lt_of_lt_of_le (HSL.out q hq) HW5.out) hb12)
  have HP12 := Lib.hid (EBox.low HP11.out hb12 (Nat.lt_of_lt_of_le HWZ.out HW5.out))
  clear hg12 hb12
  go_wp2_with fail
  go_at_call 23
  refine (heldStringS_any w5.heap.size 1 L (by omega) (by omega) _ _ HG12.out).mono ?_
  rintro e w13 ⟨rfl, hb13⟩
  have B13 := Lib.hid hb13
  have H13 := Lib.hid (H12.out.trans (hb13.mono H12.out.size))
  have HP13 := Lib.hid (HP12.out.kept hb13)
  have HS13 := Lib.hid (HS12.out.below hb13)
  have HG13 := Lib.hid (owns_below HG12.out hb13)
  obtain ⟨r0, r1, r2, r3, r4, rz⟩ := HP13.out
  clear hb13
  go_wp2_with fail
  go_at_call 19
  refine (Ox.toExpr_any _ x c _ _ (Nat.lt_succ_self _) HC.out hcm (HX.out.kept H13.out)).mono ?_
  rintro e w14 ⟨v14, rfl, hty14, hb14⟩
  have B14 := Lib.hid hb14
  have H14 := Lib.hid (H13.out.trans (hb14.mono H13.out.size))
  have HP14 := Lib.hid (HP13.out.kept hb14)
  have HT14 := Lib.hid hty14.at
  have HS14 := Lib.hid (HS13.out.below hb14)
  have HG14 := Lib.hid (owns_below HG13.out hb14)
  clear hty14 r0 r1 r2 r3 r4 rz
  clear hb14
  go_wp2_with fail
  go_at_call 20
  refine (Ox.freeNames_impl HV.out _ _ HT14.out).mono ?_
  rintro e w15 ⟨hh, rfl, hi15, hb15⟩
  have B15 := Lib.hid hb15
  have H15 := Lib.hid (H14.out.trans (hb15.mono H14.out.size))
  have HP15 := Lib.hid (HP14.out.kept hb15)
  obtain ⟨ha, hc', hhe⟩ := owns_slice hi15
  rw [HLE.out] at hhe
  subst hhe
  have HH15 := Lib.hid hi15
  have HS15 := Lib.hid (HS14.out.below hb15)
  have HG15 := Lib.hid (owns_below HG14.out hb15)
  clear hi15
  clear hb15
  go_wp2_with fail
  go_at_call 21
  refine (eqStringS_same _ _ l (by rw [HLE.out]; omega) _ _ _ HH15.out HS15.out).mono ?_
  rintro e w16 ⟨rfl, hb16⟩
  have B16 := Lib.hid hb16
  have H16 := Lib.hid (H15.out.trans (hb16.mono H15.out.size))
  have HP16 := Lib.hid (HP15.out.kept hb16)
  have HG16 := Lib.hid (owns_below HG15.out hb16)
  clear hb16
  go_wp2_with fail
  go_at_call 23
  refine (heldStringS_any w5.heap.size 1 L (by omega) (by omega) _ _ HG16.out).mono ?_
  rintro e w17 ⟨rfl, hb17⟩
  have B17 := Lib.hid hb17
  have H17 := Lib.hid (H16.out.trans (hb17.mono H16.out.size))
  have HP17 := Lib.hid (HP16.out.kept hb17)
  clear hb17
  go_wp2_with fail
  go_ret
  exact ⟨rfl, H17.out⟩

set_option maxRecDepth 100000 in
theorem lifted (os : Os) (started : os.Started) (H : Type) (enc : TypeId × Value → H) :
    ReturnsInHanded {} Try.checked os 5 .any (Rows.fnExactFreeNamesSpec.pre6 enc Try.prog Try.f5 Rows.fnExactFreeNamesRow.domain false) (Rows.fnExactFreeNamesSpec.post enc Try.prog Try.f5 false true false false) := by
  refine returnsInHanded_of_change (C := Try.checked) own started (by kernel_rfl) Try.func5
    (ChangeSpec.witness6 (enc := enc) (C := Try.checked) false ⟨#[], #[.agg #[.int .i64 0, .int .i64 0, .string ⟨#[]⟩, .string ⟨#[]⟩, .slice none 0 0]], []⟩ 8 (by kernel_rfl) (by kernel_rfl) (by kernel_rfl) (by kernel_rfl)) ?_
  intro W base args ds gs before hval0 hW hcnd _
  have hval : ∀ (j : Nat) t v, Try.f5.params[j]? = some t → args[j]? = some v → Value.okWide Try.prog W .any base t v := hval0
  have hW' := hW
  obtain ⟨p, q, hA0, hV, rfl, hfz, hnd⟩ := hW
  have hA : DataW.TrodAll enc Try.prog W 0 (fun _ => true) true Try.f5.params.toList args.toList ds p := hA0
  rw [Try.params5] at hA hval
  obtain ⟨v0, vs0, d0, ds0, p0, q0, hargs, rfl, rfl, h0, r0⟩ := trodAll_cons hA
  obtain ⟨rfl, rfl, rfl⟩ := trodAll_nil r0
  obtain rfl : args = #[v0] := by cases args; simp_all
  obtain ⟨rfl, rfl⟩ := trodVars_none hV
  have k0 := h0
  have lt0 : ∀ x ∈ p0, x.block < W.heap.size := by obtain ⟨m, hm⟩ := k0; exact DataW.trod_lt m _ _ _ hm
  obtain ⟨cs0, rfl, _⟩ := okWide_struct Try.underlying46 (hval 0 46 v0 rfl rfl)
  obtain ⟨u0, z0, w0, hz0, hn0⟩ : ∃ (t : Ex) (v : Value), cs0 = #[.int .i64 t.k, .int .i64 t.n, .string t.m, .string t.s, v] ∧ ExAt W t v ∧ ∃ c, Ox.Cnt t c := by
    obtain ⟨fuel, hf⟩ := h0
    obtain ⟨t, v, c, hcs, hat, hct⟩ := Ox.ex_of_trod fuel _ _ hf
    exact ⟨t, v, Array.toList_inj.1 hcs, hat, c, hct⟩
  subst w0
  clear hA0 hval0
  refine (walk u0 z0 W hz0 hn0).mono fun e W' ⟨he, bel⟩ => ?_
  subst he
  exact ⟨_, rfl, _, _, _, [], _, [], hW', trodAll_mk1 (shut_bool Try.underlying4 _), (trodAll_cons_mk (Below.trod laidOut (by kernel_rfl) (of_decide_eq_true (by kernel_rfl)) k0 bel lt0) trodAll_mk0), rfl, bel.frame _, fun h => by cases h⟩

theorem over : Rows.fnExactFreeNamesRow.holds Try.pinned (OpenSpec.ofChange Rows.fnExactFreeNamesSpec) :=
  OpenClaim.holds_of_wide 5 Try.f5 rfl rfl rfl rfl rfl rfl rfl ⟨rfl, rfl, rfl, rfl, rfl⟩ rfl rfl rfl rfl rfl (by kernel_rfl) Try.func5 (by kernel_rfl)
    (of_decide_eq_true (by kernel_rfl)) (by unfold Func.isWrapper; first | (rw [if_pos (by decide +kernel)]; kernel_rfl) | (rw [if_neg (by decide +kernel)]; exact ⟨rfl, rfl⟩))
    (fun os started H enc _ => lifted os started H enc)

/-- The given statement. -/
theorem proved : Rows.FnExactFreeNamesSaid := over
end Go.Proofs.Ytlgbkhkmfgdehaa.fnExactFreeNames
