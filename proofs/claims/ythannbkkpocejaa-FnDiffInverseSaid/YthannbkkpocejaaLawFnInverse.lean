/-
  FnDiffInverse returns true for every slice of bytes, and the slice reads as it did: differences are symmetric. No conditions.
-/
import Derived.Test.YthannbkkpocejaaRows
import Derived.ProofKit
import Derived.OpenShut
import Derived.ShutString
import Derived.ChangeOld
import Derived.Below
import Derived.Lib.SmallJoins
import Derived.Test.YthannbkkpocejaaUg
import Derived.Test.YthannbkkpocejaaUh
namespace Go.Proofs.Ythannbkkpocejaa.fnDiffInverse
open Go.Proofs.Ythannbkkpocejaa
open Go.ChangeShapes Go.WideShapes Go.ChangeAt Go.RowKit Go.Joins
open Go.ChangeMaps (open_string shut_string)
set_option linter.unusedVariables false

theorem own : ownKnob Try.prog.godebug = none := by kernel_rfl
theorem laidOut : laidOutB Try.prog = true := by kernel_rfl

theorem invertEdit_impl_at (s : ByteArray) (f t : Int) (i : ByteArray) (u : Int) (j : ByteArray) (hb : fitsB s f t i = true) (hu : f + (i.size : Int) = u) (hj : s.extract f.toNat t.toNat = j) (w : World) :
    Calls Try.prog 12 #[.string s, .agg #[.int .i64 f, .int .i64 t, .string i]] w fun e w' => e = .returned (.tuple #[.agg #[.int .i64 f, .int .i64 u, .string j], .bool true]) ∧ Below w.heap.size w w' := by
  subst hu; subst hj; exact invertEdit_impl_yes s f t i hb w
theorem diffEdit_impl_at (a b : ByteArray) (f t : Int) (i : ByteArray) (h : Dif a b f t i) (hv : tv a = true) (hw : tv b = true) (w : World) :
    Calls Try.prog 20 #[.string a, .string b] w fun e w' => e = .returned (.tuple #[.agg #[.int .i64 f, .int .i64 t, .string i], .bool true]) ∧ Below w.heap.size w w' := by
  obtain ⟨rfl, rfl, rfl⟩ := h; exact diffEdit_impl_yes a b hv hw w
theorem diffEdit_spec_at (a b : ByteArray) (f t : Int) (i : ByteArray) (h : Dif a b f t i) (hv : tv a = true) (hw : tv b = true) (w : World) :
    Calls Try.prog 21 #[.string a, .string b] w fun e w' => e = .returned (.tuple #[.agg #[.int .i64 f, .int .i64 t, .string i], .bool true]) ∧ Below w.heap.size w w' := by
  obtain ⟨rfl, rfl, rfl⟩ := h; exact diffEdit_spec_yes a b hv hw w

set_option maxHeartbeats 8000000 in
theorem walk (a0 : Option Addr) (len cap : Nat) (zs : List Int) (w : World) (hrow : IsRow w a0 len cap zs) :
    Calls Try.prog 9 #[.slice a0 len cap] w fun e w' => e = .returned (.bool true) ∧ Below w.heap.size w w' := by
  have HRow := Lib.hid hrow
  have hm := hrow.len
  unfold maxLen at hm
  clear hrow
  by_cases hl : len ≤ 1048576
  case neg =>
    go_enter Try.func9, Try.ntmps9
    go_wp2
    go_ret
    exact ⟨rfl, Below.refl _ _⟩
  go_enter Try.func9, Try.ntmps9
  go_wp2_with fail
  go_at_call 19
  refine (drawDiffEdit_any a0 len cap zs _ HRow.out).mono ?_
  rintro e w0 ⟨a, b, ha, hbz, rfl, hb0⟩
  have HB0 := Lib.hid hb0
  have HAL : Hid (a.size ≤ maxLen) := Lib.hid (by unfold maxLen; omega)
  have HBL : Hid (b.size ≤ maxLen) := Lib.hid (by unfold maxLen; omega)
  clear hb0 ha hbz
  by_cases hv : tv a = false ∨ tv b = false
  case pos =>
    have HV := Lib.hid hv
    clear hv
    go_wp2_with fail
    go_at_call 20
    refine (diffEdit_impl_no a b HV.out HAL.out HBL.out _).mono ?_
    rintro e w1 ⟨rfl, hb1⟩
    have HB1 := Lib.hid (HB0.out.trans (hb1.mono HB0.out.size))
    clear hb1
    have HB2 := Lib.hid (HB1.out.alloc HB1.out.size (.cells #[.int .i64 0, .int .i64 0, .string ⟨#[]⟩] 24))
    have HF2 := Lib.hid (edAt_new w1 0 0 ⟨#[]⟩ 24)
    obtain ⟨fa1, fb1, fc1, _, _, _, fz1⟩ := HF2.out
    go_wp2_with fail
    go_at_call 21
    refine (diffEdit_spec_no a b HV.out HAL.out HBL.out _).mono ?_
    rintro e w3 ⟨rfl, hb3⟩
    have HB3 := Lib.hid (HB2.out.trans (hb3.mono HB2.out.size))
    have HF3 := Lib.hid (HF2.out.below hb3)
    clear hb3
    clear fa1 fb1 fc1 fz1
    have HB4 := Lib.hid (HB3.out.alloc HB3.out.size (.cells #[.int .i64 0, .int .i64 0, .string ⟨#[]⟩] 24))
    have HF4 := Lib.hid (HF3.out.below ((Below.refl _ _).alloc (Nat.le_refl _) (.cells #[.int .i64 0, .int .i64 0, .string ⟨#[]⟩] 24)))
    have HG4 := Lib.hid (edAt_new w3 0 0 ⟨#[]⟩ 24)
    obtain ⟨fa1, fb1, fc1, _, _, _, fz1⟩ := HF4.out
    obtain ⟨fa2, fb2, fc2, _, _, _, fz2⟩ := HG4.out
    go_wp2_with fail
    go_ret
    exact ⟨rfl, HB4.out⟩
  have hva : tv a = true := by rcases h : tv a with _ | _ <;> simp_all
  have hvb : tv b = true := by rcases h : tv b with _ | _ <;> simp_all
  obtain ⟨f, t, i, hd⟩ := dif_mk a b
  have hdi := dif_inv hd
  obtain ⟨u, hu⟩ : ∃ u, f + (i.size : Int) = u := ⟨_, rfl⟩
  obtain ⟨j, hj⟩ : ∃ j, a.extract f.toNat t.toNat = j := ⟨_, rfl⟩
  rw [hu, hj] at hdi
  have HF := Lib.hid (dif_fits hva hvb hd)
  have HD := Lib.hid hd
  have HDI := Lib.hid hdi
  have HU := Lib.hid hu
  have HJ := Lib.hid hj
  have HA := Lib.hid hva
  have HVB := Lib.hid hvb
  clear hd hdi hu hj hva hvb hv
  go_wp2_with fail
  go_at_call 20
  refine (diffEdit_impl_at a b f t i HD.out HA.out HVB.out _).mono ?_
  rintro e w1 ⟨rfl, hb1⟩
  have HB1 := Lib.hid (HB0.out.trans (hb1.mono HB0.out.size))
  clear hb1
  have HB2 := Lib.hid (HB1.out.alloc HB1.out.size (.cells #[.int .i64 f, .int .i64 t, .string i] 24))
  have HF2 := Lib.hid (edAt_new w1 f t i 24)
  obtain ⟨fa1, fb1, fc1, _, _, _, fz1⟩ := HF2.out
  go_wp2_with fail
  go_at_call 21
  refine (diffEdit_spec_at a b f t i HD.out HA.out HVB.out _).mono ?_
  rintro e w3 ⟨rfl, hb3⟩
  have HB3 := Lib.hid (HB2.out.trans (hb3.mono HB2.out.size))
  have HF3 := Lib.hid (HF2.out.below hb3)
  clear hb3
  clear fa1 fb1 fc1 fz1
  have HB4 := Lib.hid (HB3.out.alloc HB3.out.size (.cells #[.int .i64 f, .int .i64 t, .string i] 24))
  have HF4 := Lib.hid (HF3.out.below ((Below.refl _ _).alloc (Nat.le_refl _) (.cells #[.int .i64 f, .int .i64 t, .string i] 24)))
  have HG4 := Lib.hid (edAt_new w3 f t i 24)
  obtain ⟨fa1, fb1, fc1, _, _, _, fz1⟩ := HF4.out
  obtain ⟨fa2, fb2, fc2, _, _, _, fz2⟩ := HG4.out
  go_wp2_with fail
  go_at_call 12
  refine (invertEdit_impl_at a f t i u j HF.out HU.out HJ.out _).mono ?_
  rintro e w5 ⟨rfl, hb5⟩
  have HB5 := Lib.hid (HB4.out.trans (hb5.mono HB4.out.size))
  have HF5 := Lib.hid (HF4.out.below hb5)
  have HG5 := Lib.hid (HG4.out.below hb5)
  clear hb5
  clear fa1 fb1 fc1 fz1 fa2 fb2 fc2 fz2
  have HB6 := Lib.hid (HB5.out.alloc HB5.out.size (.cells #[.int .i64 f, .int .i64 u, .string j] 24))
  have HF6 := Lib.hid (HF5.out.below ((Below.refl _ _).alloc (Nat.le_refl _) (.cells #[.int .i64 f, .int .i64 u, .string j] 24)))
  have HG6 := Lib.hid (HG5.out.below ((Below.refl _ _).alloc (Nat.le_refl _) (.cells #[.int .i64 f, .int .i64 u, .string j] 24)))
  have HK6 := Lib.hid (edAt_new w5 f u j 24)
  obtain ⟨fa1, fb1, fc1, _, _, _, fz1⟩ := HF6.out
  obtain ⟨fa2, fb2, fc2, _, _, _, fz2⟩ := HG6.out
  obtain ⟨fa3, fb3, fc3, _, _, _, fz3⟩ := HK6.out
  go_wp2_with fail
  go_at_call 20
  refine (diffEdit_impl_at b a f u j HDI.out HVB.out HA.out _).mono ?_
  rintro e w7 ⟨rfl, hb7⟩
  have HB7 := Lib.hid (HB6.out.trans (hb7.mono HB6.out.size))
  have HF7 := Lib.hid (HF6.out.below hb7)
  have HG7 := Lib.hid (HG6.out.below hb7)
  have HK7 := Lib.hid (HK6.out.below hb7)
  clear hb7
  clear fa1 fb1 fc1 fz1 fa2 fb2 fc2 fz2 fa3 fb3 fc3 fz3
  have HB8 := Lib.hid (HB7.out.alloc HB7.out.size (.cells #[.int .i64 f, .int .i64 u, .string j] 24))
  have HF8 := Lib.hid (HF7.out.below ((Below.refl _ _).alloc (Nat.le_refl _) (.cells #[.int .i64 f, .int .i64 u, .string j] 24)))
  have HG8 := Lib.hid (HG7.out.below ((Below.refl _ _).alloc (Nat.le_refl _) (.cells #[.int .i64 f, .int .i64 u, .string j] 24)))
  have HK8 := Lib.hid (HK7.out.below ((Below.refl _ _).alloc (Nat.le_refl _) (.cells #[.int .i64 f, .int .i64 u, .string j] 24)))
  have HM8 := Lib.hid (edAt_new w7 f u j 24)
  obtain ⟨fa1, fb1, fc1, _, _, _, fz1⟩ := HF8.out
  obtain ⟨fa2, fb2, fc2, _, _, _, fz2⟩ := HG8.out
  obtain ⟨fa3, fb3, fc3, _, _, _, fz3⟩ := HK8.out
  obtain ⟨fa4, fb4, fc4, _, _, _, fz4⟩ := HM8.out
  go_wp2_with fail
  go_ret
  exact ⟨rfl, HB8.out⟩

set_option maxRecDepth 100000 in
theorem lifted (os : Os) (started : os.Started) (H : Type) (enc : TypeId × Value → H) :
    ReturnsInHanded {} Try.checked os 9 .any (Rows.fnDiffInverseSpec.pre6 enc Try.prog Try.f9 Rows.fnDiffInverseRow.domain false) (Rows.fnDiffInverseSpec.post enc Try.prog Try.f9 false true false false) := by
  refine returnsInHanded_of_change (C := Try.checked) own started (by kernel_rfl) Try.func9
    (ChangeSpec.witness6 (enc := enc) (C := Try.checked) false ⟨#[], #[.slice none 0 0], []⟩ 8 (by kernel_rfl) (by kernel_rfl) (by kernel_rfl) (by kernel_rfl)) ?_
  intro W base args ds gs before hval0 hW hcnd _
  have hval : ∀ (j : Nat) t v, Try.f9.params[j]? = some t → args[j]? = some v → Value.okWide Try.prog W .any base t v := hval0
  have hW' := hW
  obtain ⟨p, q, hA0, hV, rfl, hfz, hnd⟩ := hW
  have hA : DataW.TrodAll enc Try.prog W 0 (fun _ => true) true Try.f9.params.toList args.toList ds p := hA0
  rw [Try.params9] at hA hval
  obtain ⟨v0, vs0, d0, ds0, p0, q0, hargs, rfl, rfl, h0, r0⟩ := trodAll_cons hA
  obtain ⟨rfl, rfl, rfl⟩ := trodAll_nil r0
  obtain rfl : args = #[v0] := by cases args; simp_all
  obtain ⟨rfl, rfl⟩ := trodVars_none hV
  have k0 := h0
  have lt0 : ∀ x ∈ p0, x.block < W.heap.size := by obtain ⟨m, hm⟩ := k0; exact DataW.trod_lt m _ _ _ hm
  obtain ⟨a0, len0, cap0, rfl⟩ := okWide_slice Try.underlying22 (hval 0 22 v0 rfl rfl)
  obtain ⟨z0, w0⟩ : ∃ zs, IsRow W a0 len0 cap0 zs := by
    obtain ⟨fuel, hf⟩ := h0
    rcases open_ints Try.underlying22 Try.underlying5 (by kernel_rfl) hf with ⟨hcs, _⟩ | ⟨x, l, c, zs, hcs, _, hl, hm, hz, _, hcell, hwz⟩
    · simp [Value.cells] at hcs
      obtain ⟨rfl, rfl, rfl⟩ := hcs
      exact ⟨[], .inl ⟨rfl, rfl, rfl, rfl⟩⟩
    · simp [Value.cells] at hcs
      obtain ⟨rfl, rfl, rfl⟩ := hcs
      exact ⟨zs, .inr ⟨_, rfl, hl, hm, by simpa using hz, hcell, hwz⟩⟩
  clear hA0 hval0
  refine (walk a0 len0 cap0 z0 W w0).mono fun e W' ⟨he, bel⟩ => ?_
  subst he
  exact ⟨_, rfl, _, _, _, [], _, [], hW', trodAll_mk1 (shut_bool Try.underlying4 _), (trodAll_cons_mk (Below.trod laidOut (by kernel_rfl) (of_decide_eq_true (by kernel_rfl)) k0 bel lt0) trodAll_mk0), rfl, bel.frame _, fun h => by cases h⟩

theorem over : Rows.fnDiffInverseRow.holds Try.pinned (OpenSpec.ofChange Rows.fnDiffInverseSpec) :=
  OpenClaim.holds_of_wide 9 Try.f9 rfl rfl rfl rfl rfl rfl rfl ⟨rfl, rfl, rfl, rfl, rfl⟩ rfl rfl rfl rfl rfl (by kernel_rfl) Try.func9 (by kernel_rfl)
    (of_decide_eq_true (by kernel_rfl)) (by unfold Func.isWrapper; first | (rw [if_pos (by decide +kernel)]; kernel_rfl) | (rw [if_neg (by decide +kernel)]; exact ⟨rfl, rfl⟩))
    (fun os started H enc _ => lifted os started H enc)

/-- The given statement. -/
theorem proved : Rows.FnDiffInverseSaid := over
end Go.Proofs.Ythannbkkpocejaa.fnDiffInverse
