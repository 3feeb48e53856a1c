/-
  FnExactFormatType returns true for every type, and it reads as it did: FormatType answers as its model. No conditions.
-/
import Derived.Test.YtiaoopikmkakbaaRows
import Derived.ProofKit
import Derived.OpenShut
import Derived.ShutString
import Derived.ChangeOld
import Derived.Below
import Derived.Lib.SmallJoins
import Derived.Test.YtiaoopikmkakbaaZj
namespace Go.Proofs.Ytiaoopikmkakbaa.fnExactFormatType
open Go.Proofs.Ytiaoopikmkakbaa
open Go.ChangeShapes Go.WideShapes Go.ChangeAt Go.RowKit Go.Joins
open Go.ChangeMaps (open_string shut_string)
set_option linter.unusedVariables false

theorem own : ownKnob Try.prog.godebug = none := by kernel_rfl
theorem laidOut : laidOutB Try.prog = true := by kernel_rfl

set_option maxHeartbeats 4000000 in
theorem walk (t : Ty) (v : Value) (w : World) (hx : TyAt w t v) :
    Calls Try.prog 4 #[.agg #[.int .i64 t.k, .int .i64 t.n, v]] w fun e w' => e = .returned (.bool true) ∧ Below w.heap.size w w' := by
  obtain ⟨c, hc⟩ := cnt_total _ t (Nat.lt_succ_self _)
  have HX := Lib.hid hx
  have HC := Lib.hid hc
  obtain ⟨a, cap, rfl, hlen⟩ := hx.slice
  clear hx hc
  have HA0 : Hid (Below w.heap.size w (w.alloc (.cells #[.int .i64 t.k, .int .i64 t.n, .slice a t.ks.length cap] 24))) := Lib.hid ((Below.refl _ _).alloc (Nat.le_refl _) _)
  have HP0 := Lib.hid (tbox_new w (.int .i64 t.k) (.int .i64 t.n) (.slice a t.ks.length cap) 24)
  by_cases hle : (c : Int) ≤ 1048576
  case neg =>
    have HL := Lib.hid (leftOf_no hle)
    go_enter Try.func4, Try.ntmps4
    go_wp2_with fail
    go_at_call 9
    refine (szType_any _ t c _ 1048576 _ (Nat.lt_succ_self _) HC.out (HX.out.kept HA0.out) (by omega) (by omega)).mono ?_
    rintro e w1 ⟨rfl, hb1⟩
    rw [HL.out]
    have H1 := Lib.hid (HA0.out.trans (hb1.mono HA0.out.size))
    clear hb1
    go_wp2_with fail
    go_ret
    exact ⟨rfl, H1.out⟩
  have hcm : c ≤ 1048576 := by omega
  have HL := Lib.hid (leftOf_yes hle)
  have hnn : 0 ≤ 1048576 - (c : Int) := by omega
  clear hle
  obtain ⟨b, hb⟩ : ∃ b, fmtT t = b := ⟨_, rfl⟩
  have HV := Lib.hid hb
  clear hb
  go_enter Try.func4, Try.ntmps4
  go_wp2_with fail
  go_at_call 9
  refine (szType_any _ t c _ 1048576 _ (Nat.lt_succ_self _) HC.out (HX.out.kept HA0.out) (by omega) (by omega)).mono ?_
  rintro e w1 ⟨rfl, hb1⟩
  rw [HL.out]
  have HP1 := Lib.hid (HP0.out.kept hb1)
  have H1 := Lib.hid (HA0.out.trans (hb1.mono HA0.out.size))
  clear hb1
  obtain ⟨p0, p1, p2, pz⟩ := HP1.out
  go_wp2_with fail
  go_at_call 11
  refine (toType_any _ t c _ _ (Nat.lt_succ_self _) HC.out hcm (HX.out.kept H1.out)).mono ?_
  rintro e w2 ⟨v2, rfl, hty2, hb2⟩
  have HT2 := Lib.hid hty2.at
  have HP2 := Lib.hid (HP1.out.kept hb2)
  have H2 := Lib.hid (H1.out.trans (hb2.mono H1.out.size))
  clear hb2 hty2 p0 p1 p2 pz
  go_wp2_with fail
  go_at_call 14
  refine (formatType_spec t _ _ HT2.out).mono ?_
  rintro e w3 ⟨rfl, hb3⟩
  rw [HV.out]
  have HP3 := Lib.hid (HP2.out.kept hb3)
  have H3 := Lib.hid (H2.out.trans (hb3.mono H2.out.size))
  clear hb3
  obtain ⟨p0, p1, p2, pz⟩ := HP3.out
  go_wp2_with fail
  go_at_call 11
  refine (toType_any _ t c _ _ (Nat.lt_succ_self _) HC.out hcm (HX.out.kept H3.out)).mono ?_
  rintro e w4 ⟨v4, rfl, hty4, hb4⟩
  have HT4 := Lib.hid hty4.at
  obtain ⟨a4, k4, rfl, _⟩ := hty4.at.slice
  have HP4 := Lib.hid (HP3.out.kept hb4)
  have hzz : w.heap.size < w4.heap.size := HP4.out.sz
  have H4 := Lib.hid (H3.out.trans (hb4.mono H3.out.size))
  have HP5 := Lib.hid (HP4.out.kept ((Below.refl _ _).alloc (Nat.le_refl _) (.cells #[.int .i64 t.k, .int .i64 t.n, .slice a4 t.ks.length k4] 29)))
  have HQ5 := Lib.hid (tbox_new w4 (.int .i64 t.k) (.int .i64 t.n) (.slice a4 t.ks.length k4) 29)
  have H5 := Lib.hid (H4.out.alloc H4.out.size (.cells #[.int .i64 t.k, .int .i64 t.n, .slice a4 t.ks.length k4] 29))
  have HT5 := Lib.hid (HT4.out.kept ((Below.refl _ _).alloc (Nat.le_refl _) (.cells #[.int .i64 t.k, .int .i64 t.n, .slice a4 t.ks.length k4] 29)))
  clear hb4 hty4 p0 p1 p2 pz
  go_wp2_with fail
  go_at_call 15
  refine (formatType_impl t _ _ HT5.out).mono ?_
  rintro e w6 ⟨rfl, hb6⟩
  rw [HV.out]
  have HP6 := Lib.hid (HP5.out.kept hb6)
  have HQ6 := Lib.hid (HQ5.out.kept hb6)
  have HT6 := Lib.hid (HT5.out.kept hb6)
  have H6 := Lib.hid (H5.out.trans (hb6.mono H5.out.size))
  clear hb6
  obtain ⟨p0, p1, p2, pz⟩ := HP6.out
  obtain ⟨q0, q1, q2, qz⟩ := HQ6.out
  obtain ⟨B4, hB4⟩ : ∃ B, w4.heap.size = B := ⟨_, rfl⟩
  rw [hB4] at q0 q1 q2 qz hzz ⊢
  rw [hB4] at HQ6
  go_wp2_with fail
  go_region_held3 (fun w' => w'.cell? ⟨w.heap.size, 0, none⟩ = some (.int .i64 t.k) ∧ w'.cell? ⟨w.heap.size, 1, none⟩ = some (.int .i64 t.n) ∧ w'.cell? ⟨w.heap.size, 2, none⟩ = some (.slice a t.ks.length cap) ∧ w'.cell? ⟨B4, 0, none⟩ = some (.int .i64 t.k) ∧ w'.cell? ⟨B4, 1, none⟩ = some (.int .i64 t.n) ∧ w'.cell? ⟨B4, 2, none⟩ = some (.slice a4 t.ks.length k4)) (go_keep)
    (first
      | (go_at_call 11; refine (toType_any _ t c _ _ (Nat.lt_succ_self _) HC.out hcm (HX.out.kept (by first | exact H6.out | exact H6.out.drew))).mono ?_; rintro e w7 ⟨v7, rfl, hty7, hb7⟩; obtain ⟨a7, k7, rfl, _⟩ := hty7.at.slice; have HT7 := Lib.hid hty7.at; have HT6b := Lib.hid (HT6.out.kept (Below.trans (B := w6.heap.size) (by first | exact Below.refl _ _ | exact (Below.refl _ _).drew) hb7)); have HP7 := Lib.hid (HP6.out.kept (Below.trans (B := w6.heap.size) (by first | exact Below.refl _ _ | exact (Below.refl _ _).drew) hb7)); have HQ7 := Lib.hid (HQ6.out.kept (Below.trans (B := w6.heap.size) (by first | exact Below.refl _ _ | exact (Below.refl _ _).drew) hb7)); have H7 := Lib.hid (H6.out.trans ((Below.trans (B := w6.heap.size) (by first | exact Below.refl _ _ | exact (Below.refl _ _).drew) hb7).mono H6.out.size)); obtain ⟨g0, g1, g2, gz⟩ := HP7.out; obtain ⟨f0, f1, f2, fz⟩ := HQ7.out; clear hb7 hty7)
      | (go_at_call 13; refine (eqType_any _ t c _ _ _ (Nat.lt_succ_self _) HC.out hcm (by first | exact HT6b.out | exact HT6b.out.kept (Below.refl _ _).drew) (by first | exact HT7.out | exact HT7.out.kept (Below.refl _ _).drew)).mono ?_; rintro e w8 ⟨rfl, hb8⟩; have H8 := Lib.hid (H7.out.trans ((Below.trans (B := w7.heap.size) (by first | exact Below.refl _ _ | exact (Below.refl _ _).drew) hb8).mono H7.out.size)); have HP8 := Lib.hid (HP7.out.kept (Below.trans (B := w7.heap.size) (by first | exact Below.refl _ _ | exact (Below.refl _ _).drew) hb8)); have HQ8 := Lib.hid (HQ7.out.kept (Below.trans (B := w7.heap.size) (by first | exact Below.refl _ _ | exact (Below.refl _ _).drew) hb8)); obtain ⟨e0, e1, e2, ez⟩ := HP8.out; obtain ⟨j0, j1, j2, jz⟩ := HQ8.out; clear hb8))
  all_goals go_wp2_with fail
  all_goals go_ret
  all_goals first | exact ⟨rfl, H8.out⟩ | exact ⟨rfl, H8.out.drew⟩

set_option maxRecDepth 100000 in
theorem lifted (os : Os) (started : os.Started) (H : Type) (enc : TypeId × Value → H) :
    ReturnsInHanded {} Try.checked os 4 .any (Rows.fnExactFormatTypeSpec.pre6 enc Try.prog Try.f4 Rows.fnExactFormatTypeRow.domain false) (Rows.fnExactFormatTypeSpec.post enc Try.prog Try.f4 false true false false) := by
  refine returnsInHanded_of_change (C := Try.checked) own started (by kernel_rfl) Try.func4
    (ChangeSpec.witness6 (enc := enc) (C := Try.checked) false ⟨#[], #[.agg #[.int .i64 0, .int .i64 0, .slice none 0 0]], []⟩ 8 (by kernel_rfl) (by kernel_rfl) (by kernel_rfl) (by kernel_rfl)) ?_
  intro W base args ds gs before hval0 hW hcnd _
  have hval : ∀ (j : Nat) t v, Try.f4.params[j]? = some t → args[j]? = some v → Value.okWide Try.prog W .any base t v := hval0
  have hW' := hW
  obtain ⟨p, q, hA0, hV, rfl, hfz, hnd⟩ := hW
  have hA : DataW.TrodAll enc Try.prog W 0 (fun _ => true) true Try.f4.params.toList args.toList ds p := hA0
  rw [Try.params4] at hA hval
  obtain ⟨v0, vs0, d0, ds0, p0, q0, hargs, rfl, rfl, h0, r0⟩ := trodAll_cons hA
  obtain ⟨rfl, rfl, rfl⟩ := trodAll_nil r0
  obtain rfl : args = #[v0] := by cases args; simp_all
  obtain ⟨rfl, rfl⟩ := trodVars_none hV
  have k0 := h0
  have lt0 : ∀ x ∈ p0, x.block < W.heap.size := by obtain ⟨m, hm⟩ := k0; exact DataW.trod_lt m _ _ _ hm
  obtain ⟨cs0, rfl, _⟩ := okWide_struct Try.underlying24 (hval 0 24 v0 rfl rfl)
  obtain ⟨u0, z0, w0, hz0⟩ : ∃ (t : Ty) (v : Value), cs0 = #[.int .i64 t.k, .int .i64 t.n, v] ∧ TyAt W t v := by
    obtain ⟨fuel, hf⟩ := h0
    obtain ⟨t, v, hcs, hat⟩ := ty_of_trod fuel _ _ hf
    exact ⟨t, v, Array.toList_inj.1 hcs, hat⟩
  subst w0
  clear hA0 hval0
  refine (walk u0 z0 W hz0).mono fun e W' ⟨he, bel⟩ => ?_
  subst he
  exact ⟨_, rfl, _, _, _, [], _, [], hW', trodAll_mk1 (shut_bool Try.underlying4 _), (trodAll_cons_mk (Below.trod laidOut (by kernel_rfl) (of_decide_eq_true (by kernel_rfl)) k0 bel lt0) trodAll_mk0), rfl, bel.frame _, fun h => by cases h⟩

theorem over : Rows.fnExactFormatTypeRow.holds Try.pinned (OpenSpec.ofChange Rows.fnExactFormatTypeSpec) :=
  OpenClaim.holds_of_wide 4 Try.f4 rfl rfl rfl rfl rfl rfl rfl ⟨rfl, rfl, rfl, rfl, rfl⟩ rfl rfl rfl rfl rfl (by kernel_rfl) Try.func4 (by kernel_rfl)
    (of_decide_eq_true (by kernel_rfl)) (by unfold Func.isWrapper; first | (rw [if_pos (by decide +kernel)]; kernel_rfl) | (rw [if_neg (by decide +kernel)]; exact ⟨rfl, rfl⟩))
    (fun os started H enc _ => lifted os started H enc)

/-- The given statement. -/
theorem proved : Rows.FnExactFormatTypeSaid := over
end Go.Proofs.Ytiaoopikmkakbaa.fnExactFormatType
