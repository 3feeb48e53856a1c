/-
  FnApplyOne returns true for every slice of bytes, and it reads as it did: a list of one edit is applied as the edit. No conditions.
-/
import Derived.Test.YtnnjnkeabljlaaaRows
import Derived.ProofKit
import Derived.OpenShut
import Derived.ShutString
import Derived.ChangeOld
import Derived.Below
import Derived.Lib.SmallJoins
import Derived.Test.YtnnjnkeabljlaaaUd
import Derived.Test.YtnnjnkeabljlaaaIj
import Derived.Test.YtnnjnkeabljlaaaIl
namespace Go.Proofs.Ytnnjnkeabljlaaa.fnApplyOne
open Go.Proofs.Ytnnjnkeabljlaaa
open Go.ChangeShapes Go.WideShapes Go.ChangeAt Go.RowKit Go.Joins
open Go.ChangeMaps (open_string shut_string)
set_option linter.unusedVariables false
set_option linter.unusedSimpArgs false

theorem own : ownKnob Try.prog.godebug = none := by kernel_rfl
theorem laidOut : laidOutB Try.prog = true := by kernel_rfl

theorem applyEdit_impl_at (s : ByteArray) (f t : Int) (i y : ByteArray) (hb : fitsB s f t i = true) (hy : ap s f t i = y) (w : World) :
    Calls Try.prog 17 #[.string s, .agg #[.int .i64 f, .int .i64 t, .string i]] w fun e w' => e = .returned (.tuple #[.string y, .bool true]) ∧ Below w.heap.size w w' := by
  subst hy; exact applyEdit_impl_yes s f t i hb w
theorem ord_one {s : ByteArray} {f t : Int} {i : ByteArray} : ordB s [⟨f, t, i⟩] = fitsB s f t i := by
  rcases h : fitsB s f t i with _ | _
  · unfold ordB; unfold ioB; rw [h]; simp
  · obtain ⟨h1, h2, h3, h4, h5, h6⟩ := fitsB_iff.mp h
    unfold ordB; unfold ioB; unfold ioB; rw [h, h1]
    have e1 : decide (0 ≤ f) = true := decide_eq_true h3
    have e2 : decide ((s.size : Int) + (⟨f, t, i⟩ : Ed).g ≤ 2000) = true := decide_eq_true h6
    simp only [e1, e2]; rfl
theorem es_one (w : World) (f t : Int) (i : ByteArray) (T : TypeId) : EsAt (w.alloc (.cells #[.int .i64 f, .int .i64 t, .string i] T)) [⟨f, t, i⟩] (.slice (some ⟨w.heap.size, 0, none⟩) 1 1) := by
  refine .row [⟨f, t, i⟩] w.heap.size 0 1 (by simp) (by simp) (fun k hk => ?_)
  have : k = 0 := by simp at hk; exact hk
  subst this
  have h := edAt_new w f t i T
  exact ⟨h.a0, h.a1, h.a2⟩
theorem sz_one {f t : Int} {i : ByteArray} (h : i.size ≤ maxLen) : EdSz [⟨f, t, i⟩] := by
  intro k hk
  have : k = 0 := by simp at hk; exact hk
  subst this; exact h
set_option maxHeartbeats 8000000 in
theorem walk (a : Option Addr) (len cap : Nat) (zs : List Int) (w : World) (hrow : IsRow w a len cap zs) :
    Calls Try.prog 5 #[.slice a len cap] w fun e w' => e = .returned (.bool true) ∧ Below w.heap.size w w' := by
  have HRow := Lib.hid hrow
  have hm := hrow.len
  unfold maxLen at hm
  clear hrow
  by_cases hl : len ≤ 1048576
  case neg =>
    go_enter Try.func5, Try.ntmps5
    go_wp2
    go_ret
    exact ⟨rfl, Below.refl _ _⟩
  go_enter Try.func5, Try.ntmps5
  go_wp2_with fail
  go_at_call 16
  refine (drawApplyEdit_any a len cap zs _ HRow.out).mono ?_
  rintro e w0 ⟨s, f, t, i, hs, hi, rfl, hb0⟩
  have HB0 := Lib.hid hb0
  have HSL : Hid (s.size ≤ maxLen) := Lib.hid (by unfold maxLen; omega)
  have HIL : Hid (i.size ≤ maxLen) := Lib.hid (by unfold maxLen; omega)
  clear hb0
  rcases hb : fitsB s f t i with _ | _
  · have HB := Lib.hid hb
    have HO : Hid (ordB s [⟨f, t, i⟩] = false) := Lib.hid (by rw [ord_one]; exact hb)
    have HZ := Lib.hid (sz_one (f := f) (t := t) HIL.out)
    clear hb
    have HB1 := Lib.hid (HB0.out.alloc HB0.out.size (.cells #[.int .i64 f, .int .i64 t, .string i] 30))
    have HE1 := Lib.hid (edAt_new w0 f t i 30)
    obtain ⟨fa1, fb1, fc1, _, _, _, fz1⟩ := HE1.out
    go_wp2_with fail
    have HL1 := Lib.hid (by have h := es_one (w0.alloc (.cells #[.int .i64 f, .int .i64 t, .string i] 30)) f t i 30; rw [size_alloc1] at h; exact h)
    have HB2 := Lib.hid (HB1.out.alloc HB1.out.size (.cells #[.int .i64 f, .int .i64 t, .string i] 30))
    have HE2 := Lib.hid (HE1.out.below ((Below.refl _ _).alloc (Nat.le_refl _) (.cells #[.int .i64 f, .int .i64 t, .string i] 30)))
    have HL2 := Lib.hid (by have h := edAt_new (w0.alloc (.cells #[.int .i64 f, .int .i64 t, .string i] 30)) f t i 30; rw [size_alloc1] at h; exact h)
    go_at_call 8
    refine (applyAll_impl_no s [⟨f, t, i⟩] _ HO.out HSL.out HZ.out _ HL1.out).mono ?_
    rintro e w3 ⟨rfl, hb3⟩
    have HB3 := Lib.hid (HB2.out.trans (hb3.mono HB2.out.size))
    have HE3 := Lib.hid (HE2.out.below hb3)
    clear hb3
    clear fa1 fb1 fc1 fz1
    obtain ⟨fa1, fb1, fc1, _, _, _, fz1⟩ := HE3.out
    go_wp2_with fail
    have HL3 := Lib.hid (by have h := es_one w3 f t i 30; exact h)
    have HB4 := Lib.hid (HB3.out.alloc HB3.out.size (.cells #[.int .i64 f, .int .i64 t, .string i] 30))
    have HE4 := Lib.hid (HE3.out.below ((Below.refl _ _).alloc (Nat.le_refl _) (.cells #[.int .i64 f, .int .i64 t, .string i] 30)))
    have HL4 := Lib.hid (edAt_new w3 f t i 30)
    go_at_call 9
    refine (applyAll_spec_no s [⟨f, t, i⟩] _ HO.out HSL.out HZ.out _ HL3.out).mono ?_
    rintro e w5 ⟨rfl, hb5⟩
    have HB5 := Lib.hid (HB4.out.trans (hb5.mono HB4.out.size))
    have HE5 := Lib.hid (HE4.out.below hb5)
    clear hb5
    clear fa1 fb1 fc1 fz1
    obtain ⟨fa1, fb1, fc1, _, _, _, fz1⟩ := HE5.out
    go_wp2_with fail
    go_at_call 17
    refine (applyEdit_impl_no s f t i HB.out HSL.out HIL.out _).mono ?_
    rintro e w6 ⟨rfl, hb6⟩
    have HB6 := Lib.hid (HB5.out.trans (hb6.mono HB5.out.size))
    have HE6 := Lib.hid (HE5.out.below hb6)
    clear hb6
    clear fa1 fb1 fc1 fz1
    obtain ⟨fa1, fb1, fc1, _, _, _, fz1⟩ := HE6.out
    go_wp2_with fail
    go_ret
    exact ⟨rfl, HB6.out⟩
  · have HB := Lib.hid hb
    have HO : Hid (ordB s [⟨f, t, i⟩] = true) := Lib.hid (by rw [ord_one]; exact hb)
    obtain ⟨y, hy⟩ : ∃ y, ap s f t i = y := ⟨_, rfl⟩
    have HR : Hid (apR s [⟨f, t, i⟩] = y) := Lib.hid hy
    have HY := Lib.hid hy
    have HZ := Lib.hid (sz_one (f := f) (t := t) HIL.out)
    clear hb hy
    have HB1 := Lib.hid (HB0.out.alloc HB0.out.size (.cells #[.int .i64 f, .int .i64 t, .string i] 30))
    have HE1 := Lib.hid (edAt_new w0 f t i 30)
    obtain ⟨fa1, fb1, fc1, _, _, _, fz1⟩ := HE1.out
    go_wp2_with fail
    have HL1 := Lib.hid (by have h := es_one (w0.alloc (.cells #[.int .i64 f, .int .i64 t, .string i] 30)) f t i 30; rw [size_alloc1] at h; exact h)
    have HB2 := Lib.hid (HB1.out.alloc HB1.out.size (.cells #[.int .i64 f, .int .i64 t, .string i] 30))
    have HE2 := Lib.hid (HE1.out.below ((Below.refl _ _).alloc (Nat.le_refl _) (.cells #[.int .i64 f, .int .i64 t, .string i] 30)))
    have HL2 := Lib.hid (by have h := edAt_new (w0.alloc (.cells #[.int .i64 f, .int .i64 t, .string i] 30)) f t i 30; rw [size_alloc1] at h; exact h)
    go_at_call 8
    refine (applyAll_impl_yes s [⟨f, t, i⟩] _ y HO.out HR.out HSL.out HZ.out _ HL1.out).mono ?_
    rintro e w3 ⟨rfl, hb3⟩
    have HB3 := Lib.hid (HB2.out.trans (hb3.mono HB2.out.size))
    have HE3 := Lib.hid (HE2.out.below hb3)
    clear hb3
    clear fa1 fb1 fc1 fz1
    obtain ⟨fa1, fb1, fc1, _, _, _, fz1⟩ := HE3.out
    go_wp2_with fail
    have HL3 := Lib.hid (by have h := es_one w3 f t i 30; exact h)
    have HB4 := Lib.hid (HB3.out.alloc HB3.out.size (.cells #[.int .i64 f, .int .i64 t, .string i] 30))
    have HE4 := Lib.hid (HE3.out.below ((Below.refl _ _).alloc (Nat.le_refl _) (.cells #[.int .i64 f, .int .i64 t, .string i] 30)))
    have HL4 := Lib.hid (edAt_new w3 f t i 30)
    go_at_call 9
    refine (applyAll_spec_yes s [⟨f, t, i⟩] _ y HO.out HR.out HSL.out HZ.out _ HL3.out).mono ?_
    rintro e w5 ⟨rfl, hb5⟩
    have HB5 := Lib.hid (HB4.out.trans (hb5.mono HB4.out.size))
    have HE5 := Lib.hid (HE4.out.below hb5)
    clear hb5
    clear fa1 fb1 fc1 fz1
    obtain ⟨fa1, fb1, fc1, _, _, _, fz1⟩ := HE5.out
    go_wp2_with fail
    go_at_call 17
    refine (applyEdit_impl_at s f t i y HB.out HY.out _).mono ?_
    rintro e w6 ⟨rfl, hb6⟩
    have HB6 := Lib.hid (HB5.out.trans (hb6.mono HB5.out.size))
    have HE6 := Lib.hid (HE5.out.below hb6)
    clear hb6
    clear fa1 fb1 fc1 fz1
    obtain ⟨fa1, fb1, fc1, _, _, _, fz1⟩ := HE6.out
    go_wp2_with fail
    go_ret
    exact ⟨rfl, HB6.out⟩

set_option maxRecDepth 100000 in
theorem lifted (os : Os) (started : os.Started) (H : Type) (enc : TypeId × Value → H) :
    ReturnsInHanded {} Try.checked os 5 .any (Rows.fnApplyOneSpec.pre6 enc Try.prog Try.f5 Rows.fnApplyOneRow.domain false) (Rows.fnApplyOneSpec.post enc Try.prog Try.f5 false true false false) := by
  refine returnsInHanded_of_change (C := Try.checked) own started (by kernel_rfl) Try.func5
    (ChangeSpec.witness6 (enc := enc) (C := Try.checked) false ⟨#[], #[.slice none 0 0], []⟩ 8 (by kernel_rfl) (by kernel_rfl) (by kernel_rfl) (by kernel_rfl)) ?_
  intro W base args ds gs before hval0 hW hcnd _
  have hval : ∀ (j : Nat) t v, Try.f5.params[j]? = some t → args[j]? = some v → Value.okWide Try.prog W .any base t v := hval0
  have hW' := hW
  obtain ⟨p, q, hA0, hV, rfl, hfz, hnd⟩ := hW
  have hA : DataW.TrodAll enc Try.prog W 0 (fun _ => true) true Try.f5.params.toList args.toList ds p := hA0
  rw [Try.params5] at hA hval
  obtain ⟨v0, vs0, d0, ds0, p0, q0, hargs, rfl, rfl, h0, r0⟩ := trodAll_cons hA
  obtain ⟨rfl, rfl, rfl⟩ := trodAll_nil r0
  obtain rfl : args = #[v0] := by cases args; simp_all
  obtain ⟨rfl, rfl⟩ := trodVars_none hV
  have k0 := h0
  have lt0 : ∀ x ∈ p0, x.block < W.heap.size := by obtain ⟨m, hm⟩ := k0; exact DataW.trod_lt m _ _ _ hm
  obtain ⟨a0, len0, cap0, rfl⟩ := okWide_slice Try.underlying22 (hval 0 22 v0 rfl rfl)
  obtain ⟨z0, w0⟩ : ∃ zs, IsRow W a0 len0 cap0 zs := by
    obtain ⟨fuel, hf⟩ := h0
    rcases open_ints Try.underlying22 Try.underlying5 (by kernel_rfl) hf with ⟨hcs, _⟩ | ⟨x, l, c, zs, hcs, _, hl, hm, hz, _, hcell, hwz⟩
    · simp [Value.cells] at hcs
      obtain ⟨rfl, rfl, rfl⟩ := hcs
      exact ⟨[], .inl ⟨rfl, rfl, rfl, rfl⟩⟩
    · simp [Value.cells] at hcs
      obtain ⟨rfl, rfl, rfl⟩ := hcs
      exact ⟨zs, .inr ⟨_, rfl, hl, hm, by simpa using hz, hcell, hwz⟩⟩
  clear hA0 hval0
  refine (walk a0 len0 cap0 z0 W w0).mono fun e W' ⟨he, bel⟩ => ?_
  subst he
  exact ⟨_, rfl, _, _, _, [], _, [], hW', trodAll_mk1 (shut_bool Try.underlying4 _), (trodAll_cons_mk (Below.trod laidOut (by kernel_rfl) (of_decide_eq_true (by kernel_rfl)) k0 bel lt0) trodAll_mk0), rfl, bel.frame _, fun h => by cases h⟩

theorem over : Rows.fnApplyOneRow.holds Try.pinned (OpenSpec.ofChange Rows.fnApplyOneSpec) :=
  OpenClaim.holds_of_wide 5 Try.f5 rfl rfl rfl rfl rfl rfl rfl ⟨rfl, rfl, rfl, rfl, rfl⟩ rfl rfl rfl rfl rfl (by kernel_rfl) Try.func5 (by kernel_rfl)
    (of_decide_eq_true (by kernel_rfl)) (by unfold Func.isWrapper; first | (rw [if_pos (by decide +kernel)]; kernel_rfl) | (rw [if_neg (by decide +kernel)]; exact ⟨rfl, rfl⟩))
    (fun os started H enc _ => lifted os started H enc)

/-- The given statement. -/
theorem proved : Rows.FnApplyOneSaid := over
end Go.Proofs.Ytnnjnkeabljlaaa.fnApplyOne
