/-
  FnDiffEdit returns true for every slice of bytes, and the slice reads as it did: differences are small. No conditions.
-/
import Derived.Test.YthannbkkpocejaaRows
import Derived.ProofKit
import Derived.OpenShut
import Derived.ShutString
import Derived.ChangeOld
import Derived.Below
import Derived.Lib.SmallJoins
import Derived.Test.YthannbkkpocejaaUg
import Derived.Test.YthannbkkpocejaaUi
import Derived.Deep.QuietTactic
import Derived.BigQuiet
namespace Go.Proofs.Ythannbkkpocejaa.fnDiffEdit
open Go.Proofs.Ythannbkkpocejaa
open Go.ChangeShapes Go.WideShapes Go.ChangeAt Go.RowKit Go.Joins
open Go.ChangeMaps (open_string shut_string)
set_option linter.unusedVariables false

theorem own : ownKnob Try.prog.godebug = none := by kernel_rfl
theorem laidOut : laidOutB Try.prog = true := by kernel_rfl

theorem applyEdit_impl_at (s : ByteArray) (f t : Int) (i y : ByteArray) (hb : fitsB s f t i = true) (hy : ap s f t i = y) (w : World) :
    Calls Try.prog 15 #[.string s, .agg #[.int .i64 f, .int .i64 t, .string i]] w fun e w' => e = .returned (.tuple #[.string y, .bool true]) ∧ Below w.heap.size w w' := by
  subst hy; exact applyEdit_impl_yes s f t i hb w
theorem diffEdit_impl_at (a b : ByteArray) (f t : Int) (i : ByteArray) (h : Dif a b f t i) (hv : tv a = true) (hw : tv b = true) (w : World) :
    Calls Try.prog 20 #[.string a, .string b] w fun e w' => e = .returned (.tuple #[.agg #[.int .i64 f, .int .i64 t, .string i], .bool true]) ∧ Below w.heap.size w w' := by
  obtain ⟨rfl, rfl, rfl⟩ := h; exact diffEdit_impl_yes a b hv hw w
theorem diffEdit_spec_at (a b : ByteArray) (f t : Int) (i : ByteArray) (h : Dif a b f t i) (hv : tv a = true) (hw : tv b = true) (w : World) :
    Calls Try.prog 21 #[.string a, .string b] w fun e w' => e = .returned (.tuple #[.agg #[.int .i64 f, .int .i64 t, .string i], .bool true]) ∧ Below w.heap.size w w' := by
  obtain ⟨rfl, rfl, rfl⟩ := h; exact diffEdit_spec_yes a b hv hw w

set_option maxHeartbeats 8000000 in
theorem walk (a0 : Option Addr) (len cap : Nat) (zs : List Int) (w : World) (hrow : IsRow w a0 len cap zs) :
    Calls Try.prog 5 #[.slice a0 len cap] w fun e w' => e = .returned (.bool true) ∧ Below w.heap.size w w' := by
  have HRow := Lib.hid hrow
  have hm := hrow.len
  unfold maxLen at hm
  clear hrow
  by_cases hl : len ≤ 1048576
  case neg =>
    go_enter Try.func5, Try.ntmps5
    go_wp2
    go_ret
    exact ⟨rfl, Below.refl _ _⟩
  go_enter Try.func5, Try.ntmps5
  go_wp2_with fail
  go_at_call 19
  refine (drawDiffEdit_any a0 len cap zs _ HRow.out).mono ?_
  rintro e w0 ⟨a, b, ha, hbz, rfl, hb0⟩
  have HB0 := Lib.hid hb0
  have HAL : Hid (a.size ≤ maxLen) := Lib.hid (by unfold maxLen; omega)
  have HBL : Hid (b.size ≤ maxLen) := Lib.hid (by unfold maxLen; omega)
  clear hb0 ha hbz
  by_cases hv : tv a = false ∨ tv b = false
  case pos =>
    have HV := Lib.hid hv
    clear hv
    go_wp2_with fail
    go_at_call 20
    refine (diffEdit_impl_no a b HV.out HAL.out HBL.out _).mono ?_
    rintro e w1 ⟨rfl, hb1⟩
    have HB1 := Lib.hid (HB0.out.trans (hb1.mono HB0.out.size))
    clear hb1
    have HB2 := Lib.hid (HB1.out.alloc HB1.out.size (.cells #[.int .i64 0, .int .i64 0, .string ⟨#[]⟩] 24))
    have HF2 := Lib.hid (edAt_new w1 0 0 ⟨#[]⟩ 24)
    obtain ⟨fa1, fb1, fc1, _, _, _, fz1⟩ := HF2.out
    go_wp2_with fail
    go_at_call 21
    refine (diffEdit_spec_no a b HV.out HAL.out HBL.out _).mono ?_
    rintro e w3 ⟨rfl, hb3⟩
    have HB3 := Lib.hid (HB2.out.trans (hb3.mono HB2.out.size))
    have HF3 := Lib.hid (HF2.out.below hb3)
    clear hb3
    clear fa1 fb1 fc1 fz1
    have HB4 := Lib.hid (HB3.out.alloc HB3.out.size (.cells #[.int .i64 0, .int .i64 0, .string ⟨#[]⟩] 24))
    have HF4 := Lib.hid (HF3.out.below ((Below.refl _ _).alloc (Nat.le_refl _) (.cells #[.int .i64 0, .int .i64 0, .string ⟨#[]⟩] 24)))
    have HG4 := Lib.hid (edAt_new w3 0 0 ⟨#[]⟩ 24)
    obtain ⟨fa1, fb1, fc1, _, _, _, fz1⟩ := HF4.out
    obtain ⟨fa2, fb2, fc2, _, _, _, fz2⟩ := HG4.out
    go_wp2_with fail
    go_ret
    exact ⟨rfl, HB4.out⟩
  have hva : tv a = true := by rcases h : tv a with _ | _ <;> simp_all
  have hvb : tv b = true := by rcases h : tv b with _ | _ <;> simp_all
  obtain ⟨f, t, i, hd⟩ := dif_mk a b
  obtain ⟨g0, g1, g2, g3, g4, g5⟩ := hd.facts
  have haz := tv_size hva
  have HF := Lib.hid (dif_fits hva hvb hd)
  have HAP := Lib.hid (dif_ap hd)
  have HD := Lib.hid hd
  have HA := Lib.hid hva
  have HVB := Lib.hid hvb
  have G3 := Lib.hid g3
  clear hd hva hvb hv g3 g5
  by_cases hab : a = b
  · subst hab
    obtain ⟨hi0, hcut⟩ := dif_same HD.out
    subst hi0
    go_wp2_with fail
    go_at_call 20
    refine (diffEdit_impl_at a a f t ⟨#[]⟩ HD.out HA.out HA.out _).mono ?_
    rintro e w1 ⟨rfl, hb1⟩
    have HB1 := Lib.hid (HB0.out.trans (hb1.mono HB0.out.size))
    clear hb1
    have HB2 := Lib.hid (HB1.out.alloc HB1.out.size (.cells #[.int .i64 f, .int .i64 t, .string ⟨#[]⟩] 24))
    have HF2 := Lib.hid (edAt_new w1 f t ⟨#[]⟩ 24)
    obtain ⟨fa1, fb1, fc1, _, _, _, fz1⟩ := HF2.out
    go_wp2_with fail
    go_at_call 21
    refine (diffEdit_spec_at a a f t ⟨#[]⟩ HD.out HA.out HA.out _).mono ?_
    rintro e w3 ⟨rfl, hb3⟩
    have HB3 := Lib.hid (HB2.out.trans (hb3.mono HB2.out.size))
    have HF3 := Lib.hid (HF2.out.below hb3)
    clear hb3
    clear fa1 fb1 fc1 fz1
    have HB4 := Lib.hid (HB3.out.alloc HB3.out.size (.cells #[.int .i64 f, .int .i64 t, .string ⟨#[]⟩] 24))
    have HF4 := Lib.hid (HF3.out.below ((Below.refl _ _).alloc (Nat.le_refl _) (.cells #[.int .i64 f, .int .i64 t, .string ⟨#[]⟩] 24)))
    have HG4 := Lib.hid (edAt_new w3 f t ⟨#[]⟩ 24)
    obtain ⟨fa1, fb1, fc1, _, _, _, fz1⟩ := HF4.out
    obtain ⟨fa2, fb2, fc2, _, _, _, fz2⟩ := HG4.out
    go_wp2_with fail
    go_at_call 15
    refine (applyEdit_impl_at a f t ⟨#[]⟩ a HF.out HAP.out _).mono ?_
    rintro e w5 ⟨rfl, hb5⟩
    have HB5 := Lib.hid (HB4.out.trans (hb5.mono HB4.out.size))
    have HF5 := Lib.hid (HF4.out.below hb5)
    have HG5 := Lib.hid (HG4.out.below hb5)
    clear hb5
    clear fa1 fb1 fc1 fz1 fa2 fb2 fc2 fz2
    obtain ⟨fa1, fb1, fc1, _, _, _, fz1⟩ := HF5.out
    obtain ⟨fa2, fb2, fc2, _, _, _, fz2⟩ := HG5.out
    go_wp2_with fail
    go_quiet (fail)
    go_wp2_with fail
    go_ret
    exact ⟨rfl, below_drewN HB5.out _⟩
  have hne : (a.toList == b.toList) = false := by
    rw [beq_eq_false_iff_ne]
    intro h
    apply hab
    apply bext
    rwa [ByteArray.toList_eq, ByteArray.toList_eq] at h
  clear hab
  obtain ⟨c, hcut⟩ : ∃ c, a.extract f.toNat t.toNat = c := ⟨_, rfl⟩
  have hfirst := fun h1 h2 => dif_first HD.out (i := i) h1 h2
  have hlast := fun h1 h2 => dif_last HD.out (i := i) h1 h2
  simp only [hcut] at hfirst hlast
  have HFI := Lib.hid hfirst
  have HLA := Lib.hid hlast
  clear hfirst hlast
  have csz : c.size ≤ 2000 := by rw [← hcut]; simp only [ByteArray.size_extract]; omega
  have isz : i.size ≤ 2000 := by have := HF.out; have := (fitsB_iff.mp this).2.1; exact tv_size this
  by_cases hc0 : 0 < c.size
  case neg =>
    have hd0 : decide (0 < c.size) = false := decide_eq_false hc0
    clear hc0
    go_wp2_with fail
    go_at_call 20
    refine (diffEdit_impl_at a b f t i HD.out HA.out HVB.out _).mono ?_
    rintro e w1 ⟨rfl, hb1⟩
    have HB1 := Lib.hid (HB0.out.trans (hb1.mono HB0.out.size))
    clear hb1
    have HB2 := Lib.hid (HB1.out.alloc HB1.out.size (.cells #[.int .i64 f, .int .i64 t, .string i] 24))
    have HF2 := Lib.hid (edAt_new w1 f t i 24)
    obtain ⟨fa1, fb1, fc1, _, _, _, fz1⟩ := HF2.out
    go_wp2_with fail
    go_at_call 21
    refine (diffEdit_spec_at a b f t i HD.out HA.out HVB.out _).mono ?_
    rintro e w3 ⟨rfl, hb3⟩
    have HB3 := Lib.hid (HB2.out.trans (hb3.mono HB2.out.size))
    have HF3 := Lib.hid (HF2.out.below hb3)
    clear hb3
    clear fa1 fb1 fc1 fz1
    have HB4 := Lib.hid (HB3.out.alloc HB3.out.size (.cells #[.int .i64 f, .int .i64 t, .string i] 24))
    have HF4 := Lib.hid (HF3.out.below ((Below.refl _ _).alloc (Nat.le_refl _) (.cells #[.int .i64 f, .int .i64 t, .string i] 24)))
    have HG4 := Lib.hid (edAt_new w3 f t i 24)
    obtain ⟨fa1, fb1, fc1, _, _, _, fz1⟩ := HF4.out
    obtain ⟨fa2, fb2, fc2, _, _, _, fz2⟩ := HG4.out
    go_wp2_with fail
    go_at_call 15
    refine (applyEdit_impl_at a f t i b HF.out HAP.out _).mono ?_
    rintro e w5 ⟨rfl, hb5⟩
    have HB5 := Lib.hid (HB4.out.trans (hb5.mono HB4.out.size))
    have HF5 := Lib.hid (HF4.out.below hb5)
    have HG5 := Lib.hid (HG4.out.below hb5)
    clear hb5
    clear fa1 fb1 fc1 fz1 fa2 fb2 fc2 fz2
    obtain ⟨fa1, fb1, fc1, _, _, _, fz1⟩ := HF5.out
    obtain ⟨fa2, fb2, fc2, _, _, _, fz2⟩ := HG5.out
    go_wp2_with fail
    go_quiet (fail)
    go_wp2_with fail
    go_ret
    exact ⟨rfl, below_drewN HB5.out _⟩
  by_cases hi0 : 0 < i.size
  case neg =>
    have hd0 : decide (0 < i.size) = false := decide_eq_false hi0
    clear hi0
    go_wp2_with fail
    go_at_call 20
    refine (diffEdit_impl_at a b f t i HD.out HA.out HVB.out _).mono ?_
    rintro e w1 ⟨rfl, hb1⟩
    have HB1 := Lib.hid (HB0.out.trans (hb1.mono HB0.out.size))
    clear hb1
    have HB2 := Lib.hid (HB1.out.alloc HB1.out.size (.cells #[.int .i64 f, .int .i64 t, .string i] 24))
    have HF2 := Lib.hid (edAt_new w1 f t i 24)
    obtain ⟨fa1, fb1, fc1, _, _, _, fz1⟩ := HF2.out
    go_wp2_with fail
    go_at_call 21
    refine (diffEdit_spec_at a b f t i HD.out HA.out HVB.out _).mono ?_
    rintro e w3 ⟨rfl, hb3⟩
    have HB3 := Lib.hid (HB2.out.trans (hb3.mono HB2.out.size))
    have HF3 := Lib.hid (HF2.out.below hb3)
    clear hb3
    clear fa1 fb1 fc1 fz1
    have HB4 := Lib.hid (HB3.out.alloc HB3.out.size (.cells #[.int .i64 f, .int .i64 t, .string i] 24))
    have HF4 := Lib.hid (HF3.out.below ((Below.refl _ _).alloc (Nat.le_refl _) (.cells #[.int .i64 f, .int .i64 t, .string i] 24)))
    have HG4 := Lib.hid (edAt_new w3 f t i 24)
    obtain ⟨fa1, fb1, fc1, _, _, _, fz1⟩ := HF4.out
    obtain ⟨fa2, fb2, fc2, _, _, _, fz2⟩ := HG4.out
    go_wp2_with fail
    go_at_call 15
    refine (applyEdit_impl_at a f t i b HF.out HAP.out _).mono ?_
    rintro e w5 ⟨rfl, hb5⟩
    have HB5 := Lib.hid (HB4.out.trans (hb5.mono HB4.out.size))
    have HF5 := Lib.hid (HF4.out.below hb5)
    have HG5 := Lib.hid (HG4.out.below hb5)
    clear hb5
    clear fa1 fb1 fc1 fz1 fa2 fb2 fc2 fz2
    obtain ⟨fa1, fb1, fc1, _, _, _, fz1⟩ := HF5.out
    obtain ⟨fa2, fb2, fc2, _, _, _, fz2⟩ := HG5.out
    go_wp2_with fail
    go_quiet (fail)
    go_wp2_with fail
    go_ret
    exact ⟨rfl, below_drewN HB5.out _⟩
  have p1 := byte_ne (HFI.out hc0 hi0)
  have p2 := byte_ne (HLA.out hc0 hi0)
  have r1 := idx_last Try.prog 9 Try.underlying9 c hc0
  have r2 := idx_last Try.prog 9 Try.underlying9 i hi0
  have i1 : c.size - 1 < c.size := by omega
  have i2 : i.size - 1 < i.size := by omega
  go_wp2_with fail
  go_at_call 20
  refine (diffEdit_impl_at a b f t i HD.out HA.out HVB.out _).mono ?_
  rintro e w1 ⟨rfl, hb1⟩
  have HB1 := Lib.hid (HB0.out.trans (hb1.mono HB0.out.size))
  clear hb1
  have HB2 := Lib.hid (HB1.out.alloc HB1.out.size (.cells #[.int .i64 f, .int .i64 t, .string i] 24))
  have HF2 := Lib.hid (edAt_new w1 f t i 24)
  obtain ⟨fa1, fb1, fc1, _, _, _, fz1⟩ := HF2.out
  go_wp2_with fail
  go_at_call 21
  refine (diffEdit_spec_at a b f t i HD.out HA.out HVB.out _).mono ?_
  rintro e w3 ⟨rfl, hb3⟩
  have HB3 := Lib.hid (HB2.out.trans (hb3.mono HB2.out.size))
  have HF3 := Lib.hid (HF2.out.below hb3)
  clear hb3
  clear fa1 fb1 fc1 fz1
  have HB4 := Lib.hid (HB3.out.alloc HB3.out.size (.cells #[.int .i64 f, .int .i64 t, .string i] 24))
  have HF4 := Lib.hid (HF3.out.below ((Below.refl _ _).alloc (Nat.le_refl _) (.cells #[.int .i64 f, .int .i64 t, .string i] 24)))
  have HG4 := Lib.hid (edAt_new w3 f t i 24)
  obtain ⟨fa1, fb1, fc1, _, _, _, fz1⟩ := HF4.out
  obtain ⟨fa2, fb2, fc2, _, _, _, fz2⟩ := HG4.out
  go_wp2_with fail
  go_at_call 15
  refine (applyEdit_impl_at a f t i b HF.out HAP.out _).mono ?_
  rintro e w5 ⟨rfl, hb5⟩
  have HB5 := Lib.hid (HB4.out.trans (hb5.mono HB4.out.size))
  have HF5 := Lib.hid (HF4.out.below hb5)
  have HG5 := Lib.hid (HG4.out.below hb5)
  clear hb5
  clear fa1 fb1 fc1 fz1 fa2 fb2 fc2 fz2
  obtain ⟨fa1, fb1, fc1, _, _, _, fz1⟩ := HF5.out
  obtain ⟨fa2, fb2, fc2, _, _, _, fz2⟩ := HG5.out
  go_wp2_with fail
  go_quiet (fail)
  go_wp2_with fail
  go_ret
  exact ⟨rfl, below_drewN HB5.out _⟩
set_option maxRecDepth 100000 in
theorem lifted (os : Os) (started : os.Started) (H : Type) (enc : TypeId × Value → H) :
    ReturnsInHanded {} Try.checked os 5 .any (Rows.fnDiffEditSpec.pre6 enc Try.prog Try.f5 Rows.fnDiffEditRow.domain false) (Rows.fnDiffEditSpec.post enc Try.prog Try.f5 false true false false) := by
  refine returnsInHanded_of_change (C := Try.checked) own started (by kernel_rfl) Try.func5
    (ChangeSpec.witness6 (enc := enc) (C := Try.checked) false ⟨#[], #[.slice none 0 0], []⟩ 8 (by kernel_rfl) (by kernel_rfl) (by kernel_rfl) (by kernel_rfl)) ?_
  intro W base args ds gs before hval0 hW hcnd _
  have hval : ∀ (j : Nat) t v, Try.f5.params[j]? = some t → args[j]? = some v → Value.okWide Try.prog W .any base t v := hval0
  have hW' := hW
  obtain ⟨p, q, hA0, hV, rfl, hfz, hnd⟩ := hW
  have hA : DataW.TrodAll enc Try.prog W 0 (fun _ => true) true Try.f5.params.toList args.toList ds p := hA0
  rw [Try.params5] at hA hval
  obtain ⟨v0, vs0, d0, ds0, p0, q0, hargs, rfl, rfl, h0, r0⟩ := trodAll_cons hA
  obtain ⟨rfl, rfl, rfl⟩ := trodAll_nil r0
  obtain rfl : args = #[v0] := by cases args; simp_all
  obtain ⟨rfl, rfl⟩ := trodVars_none hV
  have k0 := h0
  have lt0 : ∀ x ∈ p0, x.block < W.heap.size := by obtain ⟨m, hm⟩ := k0; exact DataW.trod_lt m _ _ _ hm
  obtain ⟨a0, len0, cap0, rfl⟩ := okWide_slice Try.underlying22 (hval 0 22 v0 rfl rfl)
  obtain ⟨z0, w0⟩ : ∃ zs, IsRow W a0 len0 cap0 zs := by
    obtain ⟨fuel, hf⟩ := h0
    rcases open_ints Try.underlying22 Try.underlying5 (by kernel_rfl) hf with ⟨hcs, _⟩ | ⟨x, l, c, zs, hcs, _, hl, hm, hz, _, hcell, hwz⟩
    · simp [Value.cells] at hcs
      obtain ⟨rfl, rfl, rfl⟩ := hcs
      exact ⟨[], .inl ⟨rfl, rfl, rfl, rfl⟩⟩
    · simp [Value.cells] at hcs
      obtain ⟨rfl, rfl, rfl⟩ := hcs
      exact ⟨zs, .inr ⟨_, rfl, hl, hm, by simpa using hz, hcell, hwz⟩⟩
  clear hA0 hval0
  refine (walk a0 len0 cap0 z0 W w0).mono fun e W' ⟨he, bel⟩ => ?_
  subst he
  exact ⟨_, rfl, _, _, _, [], _, [], hW', trodAll_mk1 (shut_bool Try.underlying4 _), (trodAll_cons_mk (Below.trod laidOut (by kernel_rfl) (of_decide_eq_true (by kernel_rfl)) k0 bel lt0) trodAll_mk0), rfl, bel.frame _, fun h => by cases h⟩

theorem over : Rows.fnDiffEditRow.holds Try.pinned (OpenSpec.ofChange Rows.fnDiffEditSpec) :=
  OpenClaim.holds_of_wide 5 Try.f5 rfl rfl rfl rfl rfl rfl rfl ⟨rfl, rfl, rfl, rfl, rfl⟩ rfl rfl rfl rfl rfl (by kernel_rfl) Try.func5 (by kernel_rfl)
    (of_decide_eq_true (by kernel_rfl)) (by unfold Func.isWrapper; first | (rw [if_pos (by decide +kernel)]; kernel_rfl) | (rw [if_neg (by decide +kernel)]; exact ⟨rfl, rfl⟩))
    (fun os started H enc _ => lifted os started H enc)

/-- The given statement. -/
theorem proved : Rows.FnDiffEditSaid := over
end Go.Proofs.Ythannbkkpocejaa.fnDiffEdit
