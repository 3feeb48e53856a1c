/-
  FnApplyEdit returns true for every slice of bytes, and the slice reads as it did: edits can be undone. No conditions.
-/
import Derived.Test.YthannbkkpocejaaRows
import Derived.ProofKit
import Derived.OpenShut
import Derived.ShutString
import Derived.ChangeOld
import Derived.Below
import Derived.Lib.SmallJoins
import Derived.Test.YthannbkkpocejaaUd
import Derived.Test.YthannbkkpocejaaUe
namespace Go.Proofs.Ythannbkkpocejaa.fnApplyEdit
open Go.Proofs.Ythannbkkpocejaa
open Go.ChangeShapes Go.WideShapes Go.ChangeAt Go.RowKit Go.Joins
open Go.ChangeMaps (open_string shut_string)
set_option linter.unusedVariables false

theorem own : ownKnob Try.prog.godebug = none := by kernel_rfl
theorem laidOut : laidOutB Try.prog = true := by kernel_rfl

theorem applyEdit_impl_at (s : ByteArray) (f t : Int) (i y : ByteArray) (hb : fitsB s f t i = true) (hy : ap s f t i = y) (w : World) :
    Calls Try.prog 15 #[.string s, .agg #[.int .i64 f, .int .i64 t, .string i]] w fun e w' => e = .returned (.tuple #[.string y, .bool true]) ∧ Below w.heap.size w w' := by
  subst hy; exact applyEdit_impl_yes s f t i hb w
theorem invertEdit_impl_at (s : ByteArray) (f t : Int) (i : ByteArray) (u : Int) (j : ByteArray) (hb : fitsB s f t i = true) (hu : f + (i.size : Int) = u) (hj : s.extract f.toNat t.toNat = j) (w : World) :
    Calls Try.prog 12 #[.string s, .agg #[.int .i64 f, .int .i64 t, .string i]] w fun e w' => e = .returned (.tuple #[.agg #[.int .i64 f, .int .i64 u, .string j], .bool true]) ∧ Below w.heap.size w w' := by
  subst hu; subst hj; exact invertEdit_impl_yes s f t i hb w

set_option maxHeartbeats 4000000 in
theorem walk (a : Option Addr) (len cap : Nat) (zs : List Int) (w : World) (hrow : IsRow w a len cap zs) :
    Calls Try.prog 3 #[.slice a len cap] w fun e w' => e = .returned (.bool true) ∧ Below w.heap.size w w' := by
  have HRow := Lib.hid hrow
  have hm := hrow.len
  unfold maxLen at hm
  clear hrow
  by_cases hl : len ≤ 1048576
  case neg =>
    go_enter Try.func3, Try.ntmps3
    go_wp2
    go_ret
    exact ⟨rfl, Below.refl _ _⟩
  go_enter Try.func3, Try.ntmps3
  go_wp2_with fail
  go_at_call 11
  refine (drawInvertEdit_any a len cap zs _ HRow.out).mono ?_
  rintro e w0 ⟨s, f, t, i, hs, hi, rfl, hb0⟩
  have HB0 := Lib.hid hb0
  have HSL : Hid (s.size ≤ maxLen) := Lib.hid (by unfold maxLen; omega)
  have HIL : Hid (i.size ≤ maxLen) := Lib.hid (by unfold maxLen; omega)
  clear hb0
  rcases hfit : fitsB s f t i with _ | _
  · have HB := Lib.hid hfit
    clear hfit
    have HB1 := Lib.hid (HB0.out.alloc HB0.out.size (.cells #[.int .i64 f, .int .i64 t, .string i] 24))
    have HE1 := Lib.hid (edAt_new w0 f t i 24)
    obtain ⟨fa1, fb1, fc1, _, _, _, fz1⟩ := HE1.out
    go_wp2_with fail
    go_at_call 12
    refine (invertEdit_impl_no s f t i HB.out HSL.out HIL.out _).mono ?_
    rintro e w2 ⟨rfl, hb2⟩
    have HB2 := Lib.hid (HB1.out.trans (hb2.mono HB1.out.size))
    have HE2 := Lib.hid (HE1.out.below hb2)
    clear hb2
    clear fa1 fb1 fc1 fz1
    have HB3 := Lib.hid (HB2.out.alloc HB2.out.size (.cells #[.int .i64 0, .int .i64 0, .string ⟨#[]⟩] 24))
    have HE3 := Lib.hid (HE2.out.below ((Below.refl _ _).alloc (Nat.le_refl _) (.cells #[.int .i64 0, .int .i64 0, .string ⟨#[]⟩] 24)))
    have HF3 := Lib.hid (edAt_new w2 0 0 ⟨#[]⟩ 24)
    obtain ⟨fa1, fb1, fc1, _, _, _, fz1⟩ := HE3.out
    obtain ⟨fa2, fb2, fc2, _, _, _, fz2⟩ := HF3.out
    go_wp2_with fail
    go_at_call 13
    refine (invertEdit_spec_no s f t i HB.out HSL.out HIL.out _).mono ?_
    rintro e w4 ⟨rfl, hb4⟩
    have HB4 := Lib.hid (HB3.out.trans (hb4.mono HB3.out.size))
    have HE4 := Lib.hid (HE3.out.below hb4)
    have HF4 := Lib.hid (HF3.out.below hb4)
    clear hb4
    clear fa1 fb1 fc1 fz1 fa2 fb2 fc2 fz2
    have HB5 := Lib.hid (HB4.out.alloc HB4.out.size (.cells #[.int .i64 0, .int .i64 0, .string ⟨#[]⟩] 24))
    have HE5 := Lib.hid (HE4.out.below ((Below.refl _ _).alloc (Nat.le_refl _) (.cells #[.int .i64 0, .int .i64 0, .string ⟨#[]⟩] 24)))
    have HF5 := Lib.hid (HF4.out.below ((Below.refl _ _).alloc (Nat.le_refl _) (.cells #[.int .i64 0, .int .i64 0, .string ⟨#[]⟩] 24)))
    have HG5 := Lib.hid (edAt_new w4 0 0 ⟨#[]⟩ 24)
    obtain ⟨fa1, fb1, fc1, _, _, _, fz1⟩ := HE5.out
    obtain ⟨fa2, fb2, fc2, _, _, _, fz2⟩ := HF5.out
    obtain ⟨fa3, fb3, fc3, _, _, _, fz3⟩ := HG5.out
    go_wp2_with fail
    go_at_call 14
    refine (editValid_impl s f t i _ HB.out HSL.out HIL.out _).mono ?_
    rintro e w6 ⟨rfl, hb6⟩
    have HB6 := Lib.hid (HB5.out.trans (hb6.mono HB5.out.size))
    have HE6 := Lib.hid (HE5.out.below hb6)
    have HF6 := Lib.hid (HF5.out.below hb6)
    have HG6 := Lib.hid (HG5.out.below hb6)
    clear hb6
    clear fa1 fb1 fc1 fz1 fa2 fb2 fc2 fz2 fa3 fb3 fc3 fz3
    obtain ⟨fa1, fb1, fc1, _, _, _, fz1⟩ := HE6.out
    obtain ⟨fa2, fb2, fc2, _, _, _, fz2⟩ := HF6.out
    obtain ⟨fa3, fb3, fc3, _, _, _, fz3⟩ := HG6.out
    go_wp2_with fail
    go_ret
    exact ⟨rfl, HB6.out⟩
  · have HB := Lib.hid hfit
    have HFI := Lib.hid (inv_fits hfit)
    have HA := Lib.hid (inv_ap hfit)
    have HI2 := Lib.hid (inv_back hfit)
    have HT : Hid (f + ((s.extract f.toNat t.toNat).size : Int) = t) := Lib.hid (by
      obtain ⟨_, _, h0, h1, h2, _⟩ := fitsB_iff.mp hfit
      have := cut_sz h0 h1 h2
      omega)
    clear hfit
    have HB1 := Lib.hid (HB0.out.alloc HB0.out.size (.cells #[.int .i64 f, .int .i64 t, .string i] 24))
    have HE1 := Lib.hid (edAt_new w0 f t i 24)
    obtain ⟨fa1, fb1, fc1, _, _, _, fz1⟩ := HE1.out
    go_wp2_with fail
    go_at_call 12
    refine (invertEdit_impl_yes s f t i HB.out _).mono ?_
    rintro e w2 ⟨rfl, hb2⟩
    have HB2 := Lib.hid (HB1.out.trans (hb2.mono HB1.out.size))
    have HE2 := Lib.hid (HE1.out.below hb2)
    clear hb2
    clear fa1 fb1 fc1 fz1
    have HB3 := Lib.hid (HB2.out.alloc HB2.out.size (.cells #[.int .i64 f, .int .i64 (f + i.size), .string (s.extract f.toNat t.toNat)] 24))
    have HE3 := Lib.hid (HE2.out.below ((Below.refl _ _).alloc (Nat.le_refl _) (.cells #[.int .i64 f, .int .i64 (f + i.size), .string (s.extract f.toNat t.toNat)] 24)))
    have HF3 := Lib.hid (edAt_new w2 f (f + i.size) (s.extract f.toNat t.toNat) 24)
    obtain ⟨fa1, fb1, fc1, _, _, _, fz1⟩ := HE3.out
    obtain ⟨fa2, fb2, fc2, _, _, _, fz2⟩ := HF3.out
    go_wp2_with fail
    go_at_call 13
    refine (invertEdit_spec_yes s f t i HB.out _).mono ?_
    rintro e w4 ⟨rfl, hb4⟩
    have HB4 := Lib.hid (HB3.out.trans (hb4.mono HB3.out.size))
    have HE4 := Lib.hid (HE3.out.below hb4)
    have HF4 := Lib.hid (HF3.out.below hb4)
    clear hb4
    clear fa1 fb1 fc1 fz1 fa2 fb2 fc2 fz2
    have HB5 := Lib.hid (HB4.out.alloc HB4.out.size (.cells #[.int .i64 f, .int .i64 (f + i.size), .string (s.extract f.toNat t.toNat)] 24))
    have HE5 := Lib.hid (HE4.out.below ((Below.refl _ _).alloc (Nat.le_refl _) (.cells #[.int .i64 f, .int .i64 (f + i.size), .string (s.extract f.toNat t.toNat)] 24)))
    have HF5 := Lib.hid (HF4.out.below ((Below.refl _ _).alloc (Nat.le_refl _) (.cells #[.int .i64 f, .int .i64 (f + i.size), .string (s.extract f.toNat t.toNat)] 24)))
    have HG5 := Lib.hid (edAt_new w4 f (f + i.size) (s.extract f.toNat t.toNat) 24)
    obtain ⟨fa1, fb1, fc1, _, _, _, fz1⟩ := HE5.out
    obtain ⟨fa2, fb2, fc2, _, _, _, fz2⟩ := HF5.out
    obtain ⟨fa3, fb3, fc3, _, _, _, fz3⟩ := HG5.out
    go_wp2_with fail
    go_at_call 15
    refine (applyEdit_impl_yes s f t i HB.out _).mono ?_
    rintro e w6 ⟨rfl, hb6⟩
    have HB6 := Lib.hid (HB5.out.trans (hb6.mono HB5.out.size))
    have HE6 := Lib.hid (HE5.out.below hb6)
    have HF6 := Lib.hid (HF5.out.below hb6)
    have HG6 := Lib.hid (HG5.out.below hb6)
    clear hb6
    clear fa1 fb1 fc1 fz1 fa2 fb2 fc2 fz2 fa3 fb3 fc3 fz3
    obtain ⟨fa1, fb1, fc1, _, _, _, fz1⟩ := HE6.out
    obtain ⟨fa2, fb2, fc2, _, _, _, fz2⟩ := HF6.out
    obtain ⟨fa3, fb3, fc3, _, _, _, fz3⟩ := HG6.out
    go_wp2_with fail
    go_at_call 15
    refine (applyEdit_impl_at _ _ _ _ s HFI.out HA.out _).mono ?_
    rintro e w7 ⟨rfl, hb7⟩
    have HB7 := Lib.hid (HB6.out.trans (hb7.mono HB6.out.size))
    have HE7 := Lib.hid (HE6.out.below hb7)
    have HF7 := Lib.hid (HF6.out.below hb7)
    have HG7 := Lib.hid (HG6.out.below hb7)
    clear hb7
    clear fa1 fb1 fc1 fz1 fa2 fb2 fc2 fz2 fa3 fb3 fc3 fz3
    obtain ⟨fa1, fb1, fc1, _, _, _, fz1⟩ := HE7.out
    obtain ⟨fa2, fb2, fc2, _, _, _, fz2⟩ := HF7.out
    obtain ⟨fa3, fb3, fc3, _, _, _, fz3⟩ := HG7.out
    go_wp2_with fail
    go_at_call 12
    refine (invertEdit_impl_at _ _ _ _ t i HFI.out HT.out HI2.out _).mono ?_
    rintro e w8 ⟨rfl, hb8⟩
    have HB8 := Lib.hid (HB7.out.trans (hb8.mono HB7.out.size))
    have HE8 := Lib.hid (HE7.out.below hb8)
    have HF8 := Lib.hid (HF7.out.below hb8)
    have HG8 := Lib.hid (HG7.out.below hb8)
    clear hb8
    clear fa1 fb1 fc1 fz1 fa2 fb2 fc2 fz2 fa3 fb3 fc3 fz3
    have HB9 := Lib.hid (HB8.out.alloc HB8.out.size (.cells #[.int .i64 f, .int .i64 t, .string i] 24))
    have HE9 := Lib.hid (HE8.out.below ((Below.refl _ _).alloc (Nat.le_refl _) (.cells #[.int .i64 f, .int .i64 t, .string i] 24)))
    have HF9 := Lib.hid (HF8.out.below ((Below.refl _ _).alloc (Nat.le_refl _) (.cells #[.int .i64 f, .int .i64 t, .string i] 24)))
    have HG9 := Lib.hid (HG8.out.below ((Below.refl _ _).alloc (Nat.le_refl _) (.cells #[.int .i64 f, .int .i64 t, .string i] 24)))
    have HK9 := Lib.hid (edAt_new w8 f t i 24)
    obtain ⟨fa1, fb1, fc1, _, _, _, fz1⟩ := HE9.out
    obtain ⟨fa2, fb2, fc2, _, _, _, fz2⟩ := HF9.out
    obtain ⟨fa3, fb3, fc3, _, _, _, fz3⟩ := HG9.out
    obtain ⟨fa4, fb4, fc4, _, _, _, fz4⟩ := HK9.out
    go_wp2_with fail
    go_ret
    exact ⟨rfl, HB9.out⟩

set_option maxRecDepth 100000 in
theorem lifted (os : Os) (started : os.Started) (H : Type) (enc : TypeId × Value → H) :
    ReturnsInHanded {} Try.checked os 3 .any (Rows.fnApplyEditSpec.pre6 enc Try.prog Try.f3 Rows.fnApplyEditRow.domain false) (Rows.fnApplyEditSpec.post enc Try.prog Try.f3 false true false false) := by
  refine returnsInHanded_of_change (C := Try.checked) own started (by kernel_rfl) Try.func3
    (ChangeSpec.witness6 (enc := enc) (C := Try.checked) false ⟨#[], #[.slice none 0 0], []⟩ 8 (by kernel_rfl) (by kernel_rfl) (by kernel_rfl) (by kernel_rfl)) ?_
  intro W base args ds gs before hval0 hW hcnd _
  have hval : ∀ (j : Nat) t v, Try.f3.params[j]? = some t → args[j]? = some v → Value.okWide Try.prog W .any base t v := hval0
  have hW' := hW
  obtain ⟨p, q, hA0, hV, rfl, hfz, hnd⟩ := hW
  have hA : DataW.TrodAll enc Try.prog W 0 (fun _ => true) true Try.f3.params.toList args.toList ds p := hA0
  rw [Try.params3] at hA hval
  obtain ⟨v0, vs0, d0, ds0, p0, q0, hargs, rfl, rfl, h0, r0⟩ := trodAll_cons hA
  obtain ⟨rfl, rfl, rfl⟩ := trodAll_nil r0
  obtain rfl : args = #[v0] := by cases args; simp_all
  obtain ⟨rfl, rfl⟩ := trodVars_none hV
  have k0 := h0
  have lt0 : ∀ x ∈ p0, x.block < W.heap.size := by obtain ⟨m, hm⟩ := k0; exact DataW.trod_lt m _ _ _ hm
  obtain ⟨a0, len0, cap0, rfl⟩ := okWide_slice Try.underlying22 (hval 0 22 v0 rfl rfl)
  obtain ⟨z0, w0⟩ : ∃ zs, IsRow W a0 len0 cap0 zs := by
    obtain ⟨fuel, hf⟩ := h0
    rcases open_ints Try.underlying22 Try.underlying5 (by kernel_rfl) hf with ⟨hcs, _⟩ | ⟨x, l, c, zs, hcs, _, hl, hm, hz, _, hcell, hwz⟩
    · simp [Value.cells] at hcs
      obtain ⟨rfl, rfl, rfl⟩ := hcs
      exact ⟨[], .inl ⟨rfl, rfl, rfl, rfl⟩⟩
    · simp [Value.cells] at hcs
      obtain ⟨rfl, rfl, rfl⟩ := hcs
      exact ⟨zs, .inr ⟨_, rfl, hl, hm, by simpa using hz, hcell, hwz⟩⟩
  clear hA0 hval0
  refine (walk a0 len0 cap0 z0 W w0).mono fun e W' ⟨he, bel⟩ => ?_
  subst he
  exact ⟨_, rfl, _, _, _, [], _, [], hW', trodAll_mk1 (shut_bool Try.underlying4 _), (trodAll_cons_mk (Below.trod laidOut (by kernel_rfl) (of_decide_eq_true (by kernel_rfl)) k0 bel lt0) trodAll_mk0), rfl, bel.frame _, fun h => by cases h⟩

theorem over : Rows.fnApplyEditRow.holds Try.pinned (OpenSpec.ofChange Rows.fnApplyEditSpec) :=
  OpenClaim.holds_of_wide 3 Try.f3 rfl rfl rfl rfl rfl rfl rfl ⟨rfl, rfl, rfl, rfl, rfl⟩ rfl rfl rfl rfl rfl (by kernel_rfl) Try.func3 (by kernel_rfl)
    (of_decide_eq_true (by kernel_rfl)) (by unfold Func.isWrapper; first | (rw [if_pos (by decide +kernel)]; kernel_rfl) | (rw [if_neg (by decide +kernel)]; exact ⟨rfl, rfl⟩))
    (fun os started H enc _ => lifted os started H enc)

/-- The given statement. -/
theorem proved : Rows.FnApplyEditSaid := over
end Go.Proofs.Ythannbkkpocejaa.fnApplyEdit
