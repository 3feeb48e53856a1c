/-
  FnEditLength returns true for every slice of bytes, and the slice reads as it did: edits are local. No conditions.
-/
import Derived.Test.YthannbkkpocejaaRows
import Derived.ProofKit
import Derived.OpenShut
import Derived.ShutString
import Derived.ChangeOld
import Derived.Below
import Derived.Lib.SmallJoins
import Derived.Test.YthannbkkpocejaaUd
import Derived.Test.YthannbkkpocejaaUe
import Derived.Deep.QuietTactic
import Derived.BigQuiet
import Derived.IntWalk
namespace Go.Proofs.Ythannbkkpocejaa.fnEditLength
open Go.Proofs.Ythannbkkpocejaa
open Go.ChangeShapes Go.WideShapes Go.ChangeAt Go.RowKit Go.Joins
open Go.ChangeMaps (open_string shut_string)
set_option linter.unusedVariables false

theorem own : ownKnob Try.prog.godebug = none := by kernel_rfl
theorem laidOut : laidOutB Try.prog = true := by kernel_rfl

theorem applyEdit_impl_at (s : ByteArray) (f t : Int) (i y : ByteArray) (hb : fitsB s f t i = true) (hy : ap s f t i = y) (w : World) :
    Calls Try.prog 15 #[.string s, .agg #[.int .i64 f, .int .i64 t, .string i]] w fun e w' => e = .returned (.tuple #[.string y, .bool true]) ∧ Below w.heap.size w w' := by
  subst hy; exact applyEdit_impl_yes s f t i hb w
theorem applyEdit_spec_at (s : ByteArray) (f t : Int) (i y : ByteArray) (hb : fitsB s f t i = true) (hy : ap s f t i = y) (w : World) :
    Calls Try.prog 17 #[.string s, .agg #[.int .i64 f, .int .i64 t, .string i]] w fun e w' => e = .returned (.tuple #[.string y, .bool true]) ∧ Below w.heap.size w w' := by
  subst hy; exact applyEdit_spec_yes s f t i hb w
theorem ap_cuts {s : ByteArray} {f t : Int} {i : ByteArray} (h : fitsB s f t i = true) :
    (ap s f t i).extract 0 f.toNat = s.extract 0 f.toNat ∧ (ap s f t i).extract (f + i.size).toNat (ap s f t i).size = s.extract t.toNat s.size := by
  obtain ⟨hv1, hv2, h0, h1, h2, h3⟩ := fitsB_iff.mp h
  have hl : f.toNat ≤ s.data.toList.length := by rw [sz_list]; omega
  have ht : (s.data.toList.take f.toNat).length = f.toNat := by rw [List.length_take]; omega
  have e1 : (f + (i.size : Int)).toNat = f.toNat + i.data.toList.length := by rw [sz_list]; omega
  constructor
  · apply bext
    rw [ext_list, ext_list, ap_list', List.drop_zero, List.drop_zero, Nat.sub_zero]
    rw [List.take_append_of_le_length (by rw [ht]; omega), List.take_take, Nat.min_self]
  · apply bext
    rw [ext_list, ext_list, e1]
    rw [List.take_of_length_le (by rw [List.length_drop, sz_list]; omega), List.take_of_length_le (by rw [List.length_drop, sz_list]; omega)]
    rw [ap_list', ← List.append_assoc]
    rw [List.drop_append_of_le_length (by rw [List.length_append, ht]; omega)]
    rw [List.drop_of_length_le (by rw [List.length_append, ht]; omega), List.nil_append]

set_option maxHeartbeats 4000000 in
theorem walk (a : Option Addr) (len cap : Nat) (zs : List Int) (w : World) (hrow : IsRow w a len cap zs) :
    Calls Try.prog 4 #[.slice a len cap] w fun e w' => e = .returned (.bool true) ∧ Below w.heap.size w w' := by
  have HRow := Lib.hid hrow
  have hm := hrow.len
  unfold maxLen at hm
  clear hrow
  by_cases hl : len ≤ 1048576
  case neg =>
    go_enter Try.func4, Try.ntmps4
    go_wp2
    go_ret
    exact ⟨rfl, Below.refl _ _⟩
  go_enter Try.func4, Try.ntmps4
  go_wp2_with fail
  go_at_call 16
  refine (drawApplyEdit_any a len cap zs _ HRow.out).mono ?_
  rintro e w0 ⟨s, f, t, i, hs, hi, rfl, hb0⟩
  have HB0 := Lib.hid hb0
  have HSL : Hid (s.size ≤ maxLen) := Lib.hid (by unfold maxLen; omega)
  have HIL : Hid (i.size ≤ maxLen) := Lib.hid (by unfold maxLen; omega)
  clear hb0
  rcases hfit : fitsB s f t i with _ | _
  · have HB := Lib.hid hfit
    clear hfit
    have HB1 := Lib.hid (HB0.out.alloc HB0.out.size (.cells #[.int .i64 f, .int .i64 t, .string i] 24))
    have HE1 := Lib.hid (edAt_new w0 f t i 24)
    obtain ⟨fa1, fb1, fc1, _, _, _, fz1⟩ := HE1.out
    go_wp2_with fail
    go_at_call 15
    refine (applyEdit_impl_no s f t i HB.out HSL.out HIL.out _).mono ?_
    rintro e w2 ⟨rfl, hb2⟩
    have HB2 := Lib.hid (HB1.out.trans (hb2.mono HB1.out.size))
    have HE2 := Lib.hid (HE1.out.below hb2)
    clear hb2
    clear fa1 fb1 fc1 fz1
    obtain ⟨fa1, fb1, fc1, _, _, _, fz1⟩ := HE2.out
    go_wp2_with fail
    go_at_call 17
    refine (applyEdit_spec_no s f t i HB.out HSL.out HIL.out _).mono ?_
    rintro e w3 ⟨rfl, hb3⟩
    have HB3 := Lib.hid (HB2.out.trans (hb3.mono HB2.out.size))
    have HE3 := Lib.hid (HE2.out.below hb3)
    clear hb3
    clear fa1 fb1 fc1 fz1
    obtain ⟨fa1, fb1, fc1, _, _, _, fz1⟩ := HE3.out
    go_wp2_with fail
    go_at_call 14
    refine (editValid_impl s f t i _ HB.out HSL.out HIL.out _).mono ?_
    rintro e w4 ⟨rfl, hb4⟩
    have HB4 := Lib.hid (HB3.out.trans (hb4.mono HB3.out.size))
    have HE4 := Lib.hid (HE3.out.below hb4)
    clear hb4
    clear fa1 fb1 fc1 fz1
    obtain ⟨fa1, fb1, fc1, _, _, _, fz1⟩ := HE4.out
    go_wp2_with fail
    go_at_call 14
    refine (editValid_impl s f t i _ HB.out HSL.out HIL.out _).mono ?_
    rintro e w5 ⟨rfl, hb5⟩
    have HB5 := Lib.hid (HB4.out.trans (hb5.mono HB4.out.size))
    have HE5 := Lib.hid (HE4.out.below hb5)
    clear hb5
    clear fa1 fb1 fc1 fz1
    obtain ⟨fa1, fb1, fc1, _, _, _, fz1⟩ := HE5.out
    go_wp2_with fail
    go_ret
    exact ⟨rfl, HB5.out⟩
  · obtain ⟨hv1, hv2, h0, h1, h2, h3⟩ := fitsB_iff.mp hfit
    obtain ⟨x, hx⟩ : ∃ x, ap s f t i = x := ⟨_, rfl⟩
    have hz := ap_sz (i := i) h0 h1 h2
    have hvx := tv_ap' hfit
    have hcut := ap_cuts hfit
    rw [hx] at hz hvx hcut
    have hxz := tv_size hvx
    have hsz := tv_size hv1
    have hiz := tv_size hv2
    have HB := Lib.hid hfit
    have HX := Lib.hid hx
    have HVX := Lib.hid hvx
    have HC1 := Lib.hid hcut.1
    have HC2 := Lib.hid hcut.2
    have HXL : Hid (x.size ≤ maxLen) := Lib.hid (by unfold maxLen; omega)
    clear hfit hv1 hv2 hx hvx hcut
    have HB1 := Lib.hid (HB0.out.alloc HB0.out.size (.cells #[.int .i64 f, .int .i64 t, .string i] 24))
    have HE1 := Lib.hid (edAt_new w0 f t i 24)
    obtain ⟨fa1, fb1, fc1, _, _, _, fz1⟩ := HE1.out
    go_wp2_with fail
    go_at_call 15
    refine (applyEdit_impl_at s f t i x HB.out HX.out _).mono ?_
    rintro e w2 ⟨rfl, hb2⟩
    have HB2 := Lib.hid (HB1.out.trans (hb2.mono HB1.out.size))
    have HE2 := Lib.hid (HE1.out.below hb2)
    clear hb2
    clear fa1 fb1 fc1 fz1
    obtain ⟨fa1, fb1, fc1, _, _, _, fz1⟩ := HE2.out
    go_wp2_with fail
    go_at_call 17
    refine (applyEdit_spec_at s f t i x HB.out HX.out _).mono ?_
    rintro e w3 ⟨rfl, hb3⟩
    have HB3 := Lib.hid (HB2.out.trans (hb3.mono HB2.out.size))
    have HE3 := Lib.hid (HE2.out.below hb3)
    clear hb3
    clear fa1 fb1 fc1 fz1
    obtain ⟨fa1, fb1, fc1, _, _, _, fz1⟩ := HE3.out
    go_wp2_with fail
    go_at_call 14
    refine (editValid_impl s f t i _ HB.out HSL.out HIL.out _).mono ?_
    rintro e w4 ⟨rfl, hb4⟩
    have HB4 := Lib.hid (HB3.out.trans (hb4.mono HB3.out.size))
    have HE4 := Lib.hid (HE3.out.below hb4)
    clear hb4
    clear fa1 fb1 fc1 fz1
    obtain ⟨fa1, fb1, fc1, _, _, _, fz1⟩ := HE4.out
    have p0 : 0 ≤ f := h0
    have s1 : IntKind.i64.wrap (t - f) = t - f := IntWalk.i64_in _ (by omega)
    have s2 : IntKind.i64.wrap ((s.size : Int) - (t - f)) = (s.size : Int) - (t - f) := IntWalk.i64_in _ (by omega)
    have s3 : IntKind.i64.wrap ((s.size : Int) - (t - f) + (i.size : Int)) = (s.size : Int) - (t - f) + (i.size : Int) := IntWalk.i64_in _ (by omega)
    have s4 : IntKind.i64.wrap (f + (i.size : Int)) = f + (i.size : Int) := IntWalk.i64_in _ (by omega)
    have q1 : ((x.size : Int) == (s.size : Int) - (t - f) + (i.size : Int)) = true := by simp; omega
    have q2 : f ≤ (s.size : Int) := by omega
    have q3 : f ≤ (x.size : Int) := by omega
    have q4 : f + (i.size : Int) ≤ (x.size : Int) := by omega
    have q5 : 0 ≤ f + (i.size : Int) := by omega
    have q6 : 0 ≤ t := by omega
    have q7 : ((x.extract 0 f.toNat).toList == (s.extract 0 f.toNat).toList) = true := by rw [HC1.out]; simp
    have q8 : ((x.extract (f + (i.size : Int)).toNat x.size).toList == (s.extract t.toNat s.size).toList) = true := by rw [HC2.out]; simp
    clear hz
    go_wp2_with fail
    go_quiet ((go_at_call 18; exact Calls.quiet_of_same ((textValid_impl x true HVX.out HXL.out _).mono fun _ _ ⟨he, hw⟩ => ⟨he, hw.symm⟩)))
    clear s1 s2 s3 s4 q1 q7 q8
    go_wp2
    go_ret
    exact ⟨rfl, below_drewN HB4.out _⟩

set_option maxRecDepth 100000 in
theorem lifted (os : Os) (started : os.Started) (H : Type) (enc : TypeId × Value → H) :
    ReturnsInHanded {} Try.checked os 4 .any (Rows.fnEditLengthSpec.pre6 enc Try.prog Try.f4 Rows.fnEditLengthRow.domain false) (Rows.fnEditLengthSpec.post enc Try.prog Try.f4 false true false false) := by
  refine returnsInHanded_of_change (C := Try.checked) own started (by kernel_rfl) Try.func4
    (ChangeSpec.witness6 (enc := enc) (C := Try.checked) false ⟨#[], #[.slice none 0 0], []⟩ 8 (by kernel_rfl) (by kernel_rfl) (by kernel_rfl) (by kernel_rfl)) ?_
  intro W base args ds gs before hval0 hW hcnd _
  have hval : ∀ (j : Nat) t v, Try.f4.params[j]? = some t → args[j]? = some v → Value.okWide Try.prog W .any base t v := hval0
  have hW' := hW
  obtain ⟨p, q, hA0, hV, rfl, hfz, hnd⟩ := hW
  have hA : DataW.TrodAll enc Try.prog W 0 (fun _ => true) true Try.f4.params.toList args.toList ds p := hA0
  rw [Try.params4] at hA hval
  obtain ⟨v0, vs0, d0, ds0, p0, q0, hargs, rfl, rfl, h0, r0⟩ := trodAll_cons hA
  obtain ⟨rfl, rfl, rfl⟩ := trodAll_nil r0
  obtain rfl : args = #[v0] := by cases args; simp_all
  obtain ⟨rfl, rfl⟩ := trodVars_none hV
  have k0 := h0
  have lt0 : ∀ x ∈ p0, x.block < W.heap.size := by obtain ⟨m, hm⟩ := k0; exact DataW.trod_lt m _ _ _ hm
  obtain ⟨a0, len0, cap0, rfl⟩ := okWide_slice Try.underlying22 (hval 0 22 v0 rfl rfl)
  obtain ⟨z0, w0⟩ : ∃ zs, IsRow W a0 len0 cap0 zs := by
    obtain ⟨fuel, hf⟩ := h0
    rcases open_ints Try.underlying22 Try.underlying5 (by kernel_rfl) hf with ⟨hcs, _⟩ | ⟨x, l, c, zs, hcs, _, hl, hm, hz, _, hcell, hwz⟩
    · simp [Value.cells] at hcs
      obtain ⟨rfl, rfl, rfl⟩ := hcs
      exact ⟨[], .inl ⟨rfl, rfl, rfl, rfl⟩⟩
    · simp [Value.cells] at hcs
      obtain ⟨rfl, rfl, rfl⟩ := hcs
      exact ⟨zs, .inr ⟨_, rfl, hl, hm, by simpa using hz, hcell, hwz⟩⟩
  clear hA0 hval0
  refine (walk a0 len0 cap0 z0 W w0).mono fun e W' ⟨he, bel⟩ => ?_
  subst he
  exact ⟨_, rfl, _, _, _, [], _, [], hW', trodAll_mk1 (shut_bool Try.underlying4 _), (trodAll_cons_mk (Below.trod laidOut (by kernel_rfl) (of_decide_eq_true (by kernel_rfl)) k0 bel lt0) trodAll_mk0), rfl, bel.frame _, fun h => by cases h⟩

theorem over : Rows.fnEditLengthRow.holds Try.pinned (OpenSpec.ofChange Rows.fnEditLengthSpec) :=
  OpenClaim.holds_of_wide 4 Try.f4 rfl rfl rfl rfl rfl rfl rfl ⟨rfl, rfl, rfl, rfl, rfl⟩ rfl rfl rfl rfl rfl (by kernel_rfl) Try.func4 (by kernel_rfl)
    (of_decide_eq_true (by kernel_rfl)) (by unfold Func.isWrapper; first | (rw [if_pos (by decide +kernel)]; kernel_rfl) | (rw [if_neg (by decide +kernel)]; exact ⟨rfl, rfl⟩))
    (fun os started H enc _ => lifted os started H enc)

/-- The given statement. -/
theorem proved : Rows.FnEditLengthSaid := over
end Go.Proofs.Ythannbkkpocejaa.fnEditLength
