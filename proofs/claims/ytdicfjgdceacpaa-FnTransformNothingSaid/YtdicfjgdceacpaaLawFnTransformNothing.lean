/-
  FnTransformNothing returns true for all two slices of bytes, and they read as they did: an edit is not changed by an edit that changes nothing. No conditions.
-/
import Derived.Test.YtdicfjgdceacpaaRows
import Derived.ProofKit
import Derived.OpenShut
import Derived.ShutString
import Derived.ChangeOld
import Derived.Below
import Derived.Lib.SmallJoins
import Derived.Test.YtdicfjgdceacpaaIf
import Derived.Deep.RegionLaw
import Derived.Deep.RegionHeld3
import Derived.Deep.RegionWith
import Derived.Deep.DeepCutAuto
namespace Go.Proofs.Ytdicfjgdceacpaa.fnTransformNothing
open Go.Proofs.Ytdicfjgdceacpaa
open Go.ChangeShapes Go.WideShapes Go.ChangeAt Go.RowKit Go.Joins
open Go.ChangeMaps (open_string shut_string)
set_option linter.unusedVariables false
set_option linter.unusedSimpArgs false

theorem own : ownKnob Try.prog.godebug = none := by kernel_rfl
theorem laidOut : laidOutB Try.prog = true := by kernel_rfl

theorem applyEdit_impl_at (s : ByteArray) (f t : Int) (i y : ByteArray) (hb : fitsB s f t i = true) (hy : ap s f t i = y) (w : World) :
    Calls Try.prog 20 #[.string s, .agg #[.int .i64 f, .int .i64 t, .string i]] w fun e w' => e = .returned (.tuple #[.string y, .bool true]) ∧ Below w.heap.size w w' := by
  subst hy; exact applyEdit_impl_yes s f t i hb w
theorem nothing {s : ByteArray} {f t : Int} {i : ByteArray} {m : Int} {c : Bool} : mv f t m m ⟨#[]⟩ c = 0 := by
  unfold mv grw
  rcases bhB f t m m c with _ | _
  · rfl
  · simp; rfl
set_option maxHeartbeats 8000000 in
theorem walk (a : Option Addr) (len cap : Nat) (zs : List Int) (a2 : Option Addr) (len2 cap2 : Nat) (zs2 : List Int) (w : World) (hrow : IsRow w a len cap zs) (hrow2 : IsRow w a2 len2 cap2 zs2) :
    Calls Try.prog 8 #[.slice a len cap, .slice a2 len2 cap2] w fun e w' => e = .returned (.bool true) ∧ Below w.heap.size w w' := by
  have HRow := Lib.hid hrow
  have hm := hrow.len
  have hm2 := hrow2.len
  unfold maxLen at hm hm2
  clear hrow hrow2
  by_cases hl : len ≤ 1048576
  case neg =>
    go_enter Try.func8, Try.ntmps8
    go_wp2
    go_ret
    exact ⟨rfl, Below.refl _ _⟩
  by_cases hl2 : len2 ≤ 1048576
  case neg =>
    go_enter Try.func8, Try.ntmps8
    go_wp2
    go_ret
    exact ⟨rfl, Below.refl _ _⟩
  go_enter Try.func8, Try.ntmps8
  go_wp2_with fail
  go_at_call 17
  refine (drawTransformEdit_any a len cap zs _ HRow.out).mono ?_
  rintro e w0 ⟨s, f, t, i, g, u, j, c, hs, hi, hj, rfl, hb0⟩
  have HB0 := Lib.hid hb0
  have HSL : Hid (s.size ≤ maxLen) := Lib.hid (by unfold maxLen; omega)
  have HIL : Hid (i.size ≤ maxLen) := Lib.hid (by unfold maxLen; omega)
  have HZL : Hid ((⟨#[]⟩ : ByteArray).size ≤ maxLen) := Lib.hid (Nat.zero_le _)
  clear hb0
  obtain ⟨m, hm⟩ : ∃ m, len2 % (s.size + 1) = m := ⟨_, rfl⟩
  have f1 : ((len2 : Int)).tmod ((s.size : Int) + 1) = (m : Int) := by rw [Int.tmod_eq_emod_of_nonneg (by omega), ← hm]; push_cast; rfl
  have f2 : ((len2 : Int)) % ((s.size : Int) + 1) = (m : Int) := by rw [← hm]; push_cast; rfl
  have f3 : IntKind.i64.wrap ((s.size : Int) + 1) = (s.size : Int) + 1 := IntWalk.i64_in _ (by omega)
  have f4 : ((s.size : Int) + 1 == 0) = false := by simp; omega
  have hms : m ≤ s.size := by have := Nat.mod_lt len2 (show 0 < s.size + 1 by omega); omega
  clear hm
  rcases ht : trB s f t i m m ⟨#[]⟩ c with _ | _
  · have HT := Lib.hid ht
    clear ht
    have HB1 := Lib.hid (HB0.out.alloc HB0.out.size (.cells #[.int .i64 f, .int .i64 t, .string i] 24))
    have HE1 := Lib.hid (edAt_new w0 f t i 24)
    have HB2 := Lib.hid (HB1.out.alloc HB1.out.size (.cells #[.int .i64 g, .int .i64 u, .string j] 24))
    have HE2 := Lib.hid (HE1.out.below ((Below.refl _ _).alloc (Nat.le_refl _) (.cells #[.int .i64 g, .int .i64 u, .string j] 24)))
    have HF2 := Lib.hid (by have h := edAt_new (w0.alloc (.cells #[.int .i64 f, .int .i64 t, .string i] 24)) g u j 24; simp only [size_alloc1] at h; exact h)
    have HB3 := Lib.hid (HB2.out.alloc HB2.out.size (.cells #[.int .i64 m, .int .i64 m, .string ⟨#[]⟩] 24))
    have HE3 := Lib.hid (HE2.out.below ((Below.refl _ _).alloc (Nat.le_refl _) (.cells #[.int .i64 m, .int .i64 m, .string ⟨#[]⟩] 24)))
    have HF3 := Lib.hid (HF2.out.below ((Below.refl _ _).alloc (Nat.le_refl _) (.cells #[.int .i64 m, .int .i64 m, .string ⟨#[]⟩] 24)))
    have HN3 := Lib.hid (by have h := edAt_new ((w0.alloc (.cells #[.int .i64 f, .int .i64 t, .string i] 24)).alloc (.cells #[.int .i64 g, .int .i64 u, .string j] 24)) m m ⟨#[]⟩ 24; simp only [size_alloc1] at h; exact h)
    obtain ⟨fa1, fb1, fc1, _, _, _, fz1⟩ := HE3.out
    obtain ⟨fa2, fb2, fc2, _, _, _, fz2⟩ := HF3.out
    obtain ⟨fa3, fb3, fc3, _, _, _, fz3⟩ := HN3.out
    go_wp2_with fail
    go_at_call 18
    refine (transform_impl_no s f t i m m ⟨#[]⟩ c HT.out HSL.out HIL.out HZL.out _).mono ?_
    rintro e w4 ⟨rfl, hb4⟩
    have HB4 := Lib.hid (HB3.out.trans (hb4.mono HB3.out.size))
    have HE4 := Lib.hid (HE3.out.below hb4)
    have HF4 := Lib.hid (HF3.out.below hb4)
    have HN4 := Lib.hid (HN3.out.below hb4)
    clear hb4
    clear fa1 fb1 fc1 fz1 fa2 fb2 fc2 fz2 fa3 fb3 fc3 fz3
    have HB5 := Lib.hid (HB4.out.alloc HB4.out.size (.cells #[.int .i64 0, .int .i64 0, .string ⟨#[]⟩] 24))
    have HE5 := Lib.hid (HE4.out.below ((Below.refl _ _).alloc (Nat.le_refl _) (.cells #[.int .i64 0, .int .i64 0, .string ⟨#[]⟩] 24)))
    have HF5 := Lib.hid (HF4.out.below ((Below.refl _ _).alloc (Nat.le_refl _) (.cells #[.int .i64 0, .int .i64 0, .string ⟨#[]⟩] 24)))
    have HN5 := Lib.hid (HN4.out.below ((Below.refl _ _).alloc (Nat.le_refl _) (.cells #[.int .i64 0, .int .i64 0, .string ⟨#[]⟩] 24)))
    have HG5 := Lib.hid (edAt_new w4 0 0 ⟨#[]⟩ 24)
    obtain ⟨fa1, fb1, fc1, _, _, _, fz1⟩ := HE5.out
    obtain ⟨fa2, fb2, fc2, _, _, _, fz2⟩ := HF5.out
    obtain ⟨fa3, fb3, fc3, _, _, _, fz3⟩ := HN5.out
    obtain ⟨fa4, fb4, fc4, _, _, _, fz4⟩ := HG5.out
    go_wp2_with fail
    go_at_call 19
    refine (transform_spec_no s f t i m m ⟨#[]⟩ c HT.out HSL.out HIL.out HZL.out _).mono ?_
    rintro e w6 ⟨rfl, hb6⟩
    have HB6 := Lib.hid (HB5.out.trans (hb6.mono HB5.out.size))
    have HE6 := Lib.hid (HE5.out.below hb6)
    have HF6 := Lib.hid (HF5.out.below hb6)
    have HN6 := Lib.hid (HN5.out.below hb6)
    have HG6 := Lib.hid (HG5.out.below hb6)
    clear hb6
    clear fa1 fb1 fc1 fz1 fa2 fb2 fc2 fz2 fa3 fb3 fc3 fz3 fa4 fb4 fc4 fz4
    have HB7 := Lib.hid (HB6.out.alloc HB6.out.size (.cells #[.int .i64 0, .int .i64 0, .string ⟨#[]⟩] 24))
    have HE7 := Lib.hid (HE6.out.below ((Below.refl _ _).alloc (Nat.le_refl _) (.cells #[.int .i64 0, .int .i64 0, .string ⟨#[]⟩] 24)))
    have HF7 := Lib.hid (HF6.out.below ((Below.refl _ _).alloc (Nat.le_refl _) (.cells #[.int .i64 0, .int .i64 0, .string ⟨#[]⟩] 24)))
    have HN7 := Lib.hid (HN6.out.below ((Below.refl _ _).alloc (Nat.le_refl _) (.cells #[.int .i64 0, .int .i64 0, .string ⟨#[]⟩] 24)))
    have HG7 := Lib.hid (HG6.out.below ((Below.refl _ _).alloc (Nat.le_refl _) (.cells #[.int .i64 0, .int .i64 0, .string ⟨#[]⟩] 24)))
    have HK7 := Lib.hid (edAt_new w6 0 0 ⟨#[]⟩ 24)
    obtain ⟨fa1, fb1, fc1, _, _, _, fz1⟩ := HE7.out
    obtain ⟨fa2, fb2, fc2, _, _, _, fz2⟩ := HF7.out
    obtain ⟨fa3, fb3, fc3, _, _, _, fz3⟩ := HN7.out
    obtain ⟨fa4, fb4, fc4, _, _, _, fz4⟩ := HG7.out
    obtain ⟨fa5, fb5, fc5, _, _, _, fz5⟩ := HK7.out
    go_wp2_with fail
    go_ret
    exact ⟨rfl, HB7.out⟩
  · have HT := Lib.hid ht
    have HP : Hid (f + mv f t m m ⟨#[]⟩ c = f) := Lib.hid (by rw [nothing (s := s) (i := i)]; exact Int.add_zero _)
    have HQ : Hid (t + mv f t m m ⟨#[]⟩ c = t) := Lib.hid (by rw [nothing (s := s) (i := i)]; exact Int.add_zero _)
    clear ht
    have HB1 := Lib.hid (HB0.out.alloc HB0.out.size (.cells #[.int .i64 f, .int .i64 t, .string i] 24))
    have HE1 := Lib.hid (edAt_new w0 f t i 24)
    have HB2 := Lib.hid (HB1.out.alloc HB1.out.size (.cells #[.int .i64 g, .int .i64 u, .string j] 24))
    have HE2 := Lib.hid (HE1.out.below ((Below.refl _ _).alloc (Nat.le_refl _) (.cells #[.int .i64 g, .int .i64 u, .string j] 24)))
    have HF2 := Lib.hid (by have h := edAt_new (w0.alloc (.cells #[.int .i64 f, .int .i64 t, .string i] 24)) g u j 24; simp only [size_alloc1] at h; exact h)
    have HB3 := Lib.hid (HB2.out.alloc HB2.out.size (.cells #[.int .i64 m, .int .i64 m, .string ⟨#[]⟩] 24))
    have HE3 := Lib.hid (HE2.out.below ((Below.refl _ _).alloc (Nat.le_refl _) (.cells #[.int .i64 m, .int .i64 m, .string ⟨#[]⟩] 24)))
    have HF3 := Lib.hid (HF2.out.below ((Below.refl _ _).alloc (Nat.le_refl _) (.cells #[.int .i64 m, .int .i64 m, .string ⟨#[]⟩] 24)))
    have HN3 := Lib.hid (by have h := edAt_new ((w0.alloc (.cells #[.int .i64 f, .int .i64 t, .string i] 24)).alloc (.cells #[.int .i64 g, .int .i64 u, .string j] 24)) m m ⟨#[]⟩ 24; simp only [size_alloc1] at h; exact h)
    obtain ⟨fa1, fb1, fc1, _, _, _, fz1⟩ := HE3.out
    obtain ⟨fa2, fb2, fc2, _, _, _, fz2⟩ := HF3.out
    obtain ⟨fa3, fb3, fc3, _, _, _, fz3⟩ := HN3.out
    go_wp2_with fail
    go_at_call 18
    refine (transform_impl_yes s f t i m m ⟨#[]⟩ c f t HT.out HP.out HQ.out _).mono ?_
    rintro e w4 ⟨rfl, hb4⟩
    have HB4 := Lib.hid (HB3.out.trans (hb4.mono HB3.out.size))
    have HE4 := Lib.hid (HE3.out.below hb4)
    have HF4 := Lib.hid (HF3.out.below hb4)
    have HN4 := Lib.hid (HN3.out.below hb4)
    clear hb4
    clear fa1 fb1 fc1 fz1 fa2 fb2 fc2 fz2 fa3 fb3 fc3 fz3
    have HB5 := Lib.hid (HB4.out.alloc HB4.out.size (.cells #[.int .i64 f, .int .i64 t, .string i] 24))
    have HE5 := Lib.hid (HE4.out.below ((Below.refl _ _).alloc (Nat.le_refl _) (.cells #[.int .i64 f, .int .i64 t, .string i] 24)))
    have HF5 := Lib.hid (HF4.out.below ((Below.refl _ _).alloc (Nat.le_refl _) (.cells #[.int .i64 f, .int .i64 t, .string i] 24)))
    have HN5 := Lib.hid (HN4.out.below ((Below.refl _ _).alloc (Nat.le_refl _) (.cells #[.int .i64 f, .int .i64 t, .string i] 24)))
    have HG5 := Lib.hid (edAt_new w4 f t i 24)
    obtain ⟨fa1, fb1, fc1, _, _, _, fz1⟩ := HE5.out
    obtain ⟨fa2, fb2, fc2, _, _, _, fz2⟩ := HF5.out
    obtain ⟨fa3, fb3, fc3, _, _, _, fz3⟩ := HN5.out
    obtain ⟨fa4, fb4, fc4, _, _, _, fz4⟩ := HG5.out
    go_wp2_with fail
    go_at_call 19
    refine (transform_spec_yes s f t i m m ⟨#[]⟩ c f t HT.out HP.out HQ.out _).mono ?_
    rintro e w6 ⟨rfl, hb6⟩
    have HB6 := Lib.hid (HB5.out.trans (hb6.mono HB5.out.size))
    have HE6 := Lib.hid (HE5.out.below hb6)
    have HF6 := Lib.hid (HF5.out.below hb6)
    have HN6 := Lib.hid (HN5.out.below hb6)
    have HG6 := Lib.hid (HG5.out.below hb6)
    clear hb6
    clear fa1 fb1 fc1 fz1 fa2 fb2 fc2 fz2 fa3 fb3 fc3 fz3 fa4 fb4 fc4 fz4
    have HB7 := Lib.hid (HB6.out.alloc HB6.out.size (.cells #[.int .i64 f, .int .i64 t, .string i] 24))
    have HE7 := Lib.hid (HE6.out.below ((Below.refl _ _).alloc (Nat.le_refl _) (.cells #[.int .i64 f, .int .i64 t, .string i] 24)))
    have HF7 := Lib.hid (HF6.out.below ((Below.refl _ _).alloc (Nat.le_refl _) (.cells #[.int .i64 f, .int .i64 t, .string i] 24)))
    have HN7 := Lib.hid (HN6.out.below ((Below.refl _ _).alloc (Nat.le_refl _) (.cells #[.int .i64 f, .int .i64 t, .string i] 24)))
    have HG7 := Lib.hid (HG6.out.below ((Below.refl _ _).alloc (Nat.le_refl _) (.cells #[.int .i64 f, .int .i64 t, .string i] 24)))
    have HK7 := Lib.hid (edAt_new w6 f t i 24)
    obtain ⟨fa1, fb1, fc1, _, _, _, fz1⟩ := HE7.out
    obtain ⟨fa2, fb2, fc2, _, _, _, fz2⟩ := HF7.out
    obtain ⟨fa3, fb3, fc3, _, _, _, fz3⟩ := HN7.out
    obtain ⟨fa4, fb4, fc4, _, _, _, fz4⟩ := HG7.out
    obtain ⟨fa5, fb5, fc5, _, _, _, fz5⟩ := HK7.out
    go_wp2_with fail
    go_ret
    exact ⟨rfl, HB7.out⟩

set_option maxRecDepth 100000 in
theorem lifted (os : Os) (started : os.Started) (H : Type) (enc : TypeId × Value → H) :
    ReturnsInHanded {} Try.checked os 8 .any (Rows.fnTransformNothingSpec.pre6 enc Try.prog Try.f8 Rows.fnTransformNothingRow.domain false) (Rows.fnTransformNothingSpec.post enc Try.prog Try.f8 false true false false) := by
  refine returnsInHanded_of_change (C := Try.checked) own started (by kernel_rfl) Try.func8
    (ChangeSpec.witness6 (enc := enc) (C := Try.checked) false ⟨#[], #[.slice none 0 0, .slice none 0 0], []⟩ 8 (by kernel_rfl) (by kernel_rfl) (by kernel_rfl) (by kernel_rfl)) ?_
  intro W base args ds gs before hval0 hW hcnd _
  have hval : ∀ (j : Nat) t v, Try.f8.params[j]? = some t → args[j]? = some v → Value.okWide Try.prog W .any base t v := hval0
  have hW' := hW
  obtain ⟨p, q, hA0, hV, rfl, hfz, hnd⟩ := hW
  have hA : DataW.TrodAll enc Try.prog W 0 (fun _ => true) true Try.f8.params.toList args.toList ds p := hA0
  rw [Try.params8] at hA hval
  obtain ⟨v0, vs0, d0, ds0, p0, q0, hargs, rfl, rfl, h0, r0⟩ := trodAll_cons hA
  obtain ⟨v1, vs1, d1, ds1, p1, q1, rfl, rfl, rfl, h1, r1⟩ := trodAll_cons r0
  obtain ⟨rfl, rfl, rfl⟩ := trodAll_nil r1
  obtain rfl : args = #[v0, v1] := by cases args; simp_all
  obtain ⟨rfl, rfl⟩ := trodVars_none hV
  have k0 := h0
  have lt0 : ∀ x ∈ p0, x.block < W.heap.size := by obtain ⟨m, hm⟩ := k0; exact DataW.trod_lt m _ _ _ hm
  have k1 := h1
  have lt1 : ∀ x ∈ p1, x.block < W.heap.size := by obtain ⟨m, hm⟩ := k1; exact DataW.trod_lt m _ _ _ hm
  obtain ⟨a0, len0, cap0, rfl⟩ := okWide_slice Try.underlying22 (hval 0 22 v0 rfl rfl)
  obtain ⟨z0, w0⟩ : ∃ zs, IsRow W a0 len0 cap0 zs := by
    obtain ⟨fuel, hf⟩ := h0
    rcases open_ints Try.underlying22 Try.underlying5 (by kernel_rfl) hf with ⟨hcs, _⟩ | ⟨x, l, c, zs, hcs, _, hl, hm, hz, _, hcell, hwz⟩
    · simp [Value.cells] at hcs
      obtain ⟨rfl, rfl, rfl⟩ := hcs
      exact ⟨[], .inl ⟨rfl, rfl, rfl, rfl⟩⟩
    · simp [Value.cells] at hcs
      obtain ⟨rfl, rfl, rfl⟩ := hcs
      exact ⟨zs, .inr ⟨_, rfl, hl, hm, by simpa using hz, hcell, hwz⟩⟩
  obtain ⟨a1, len1, cap1, rfl⟩ := okWide_slice Try.underlying22 (hval 1 22 v1 rfl rfl)
  obtain ⟨z1, w1⟩ : ∃ zs, IsRow W a1 len1 cap1 zs := by
    obtain ⟨fuel, hf⟩ := h1
    rcases open_ints Try.underlying22 Try.underlying5 (by kernel_rfl) hf with ⟨hcs, _⟩ | ⟨x, l, c, zs, hcs, _, hl, hm, hz, _, hcell, hwz⟩
    · simp [Value.cells] at hcs
      obtain ⟨rfl, rfl, rfl⟩ := hcs
      exact ⟨[], .inl ⟨rfl, rfl, rfl, rfl⟩⟩
    · simp [Value.cells] at hcs
      obtain ⟨rfl, rfl, rfl⟩ := hcs
      exact ⟨zs, .inr ⟨_, rfl, hl, hm, by simpa using hz, hcell, hwz⟩⟩
  clear hA0 hval0
  refine (walk a0 len0 cap0 z0 a1 len1 cap1 z1 W w0 w1).mono fun e W' ⟨he, bel⟩ => ?_
  subst he
  exact ⟨_, rfl, _, _, _, [], _, [], hW', trodAll_mk1 (shut_bool Try.underlying4 _), (trodAll_cons_mk (Below.trod laidOut (by kernel_rfl) (of_decide_eq_true (by kernel_rfl)) k0 bel lt0) (trodAll_cons_mk (Below.trod laidOut (by kernel_rfl) (of_decide_eq_true (by kernel_rfl)) k1 bel lt1) trodAll_mk0)), rfl, bel.frame _, fun h => by cases h⟩

theorem over : Rows.fnTransformNothingRow.holds Try.pinned (OpenSpec.ofChange Rows.fnTransformNothingSpec) :=
  OpenClaim.holds_of_wide 8 Try.f8 rfl rfl rfl rfl rfl rfl rfl ⟨rfl, rfl, rfl, rfl, rfl⟩ rfl rfl rfl rfl rfl (by kernel_rfl) Try.func8 (by kernel_rfl)
    (of_decide_eq_true (by kernel_rfl)) (by unfold Func.isWrapper; first | (rw [if_pos (by decide +kernel)]; kernel_rfl) | (rw [if_neg (by decide +kernel)]; exact ⟨rfl, rfl⟩))
    (fun os started H enc _ => lifted os started H enc)

/-- The given statement. -/
theorem proved : Rows.FnTransformNothingSaid := over
end Go.Proofs.Ytdicfjgdceacpaa.fnTransformNothing
