/-
  FnExactParseType returns true for every text: ParseType answers as its model, in memory of its own. No conditions.
-/
import Derived.Test.YtiaoopikmkakbaaRows
import Derived.ProofKit
import Derived.OpenShut
import Derived.ShutString
import Derived.ChangeOld
import Derived.Below
import Derived.Lib.SmallJoins
import Derived.Test.YtiaoopikmkakbaaZy
namespace Go.Proofs.Ytiaoopikmkakbaa.fnExactParseType
open Go.Proofs.Ytiaoopikmkakbaa
open Go.ChangeShapes Go.WideShapes Go.ChangeAt Go.RowKit Go.Joins
open Go.ChangeMaps (open_string shut_string)
set_option linter.unusedVariables false
set_option linter.unusedSimpArgs false

theorem own : ownKnob Try.prog.godebug = none := by kernel_rfl
theorem laidOut : laidOutB Try.prog = true := by kernel_rfl

theorem bne_self (b : Bool) : (b != b) = false := by cases b <;> rfl

set_option maxHeartbeats 8000000 in
theorem walk (s : ByteArray) (w : World) (_ : s.size ≤ maxLen) :
    Calls Try.prog 5 #[.string s] w fun e w' => e = .returned (.bool true) ∧ Below w.heap.size w w' := by
  by_cases hle : (s.size : Int) ≤ 1048576
  case neg =>
    go_enter Try.func5, Try.ntmps5
    go_wp2_with fail
    go_ret
    exact ⟨rfl, Below.refl _ _⟩
  have hs : s.size ≤ 1048576 := by omega
  obtain ⟨r, hr⟩ : ∃ r, pT s = r := ⟨_, rfl⟩
  obtain ⟨c, hc, hc62⟩ := pT_cnt s
  rw [hr] at hc
  have HR := Lib.hid hr
  obtain ⟨T, hT⟩ : ∃ T, optT r = T := ⟨_, rfl⟩
  obtain ⟨b, hb⟩ : ∃ b, r.isSome = b := ⟨_, rfl⟩
  rw [hT] at hc
  have HC := Lib.hid hc
  have HF : Hid (∀ (w : World) (e : Ending) (w' : World), OptRet r w e w' → ∃ v, e = .returned (.tuple #[.agg #[.int .i64 T.k, .int .i64 T.n, v], .bool b]) ∧ TyIn w' w.heap.size w'.heap.size T v ∧ Below w.heap.size w w') := Lib.hid (by rw [← hT, ← hb]; exact fun w e w' h => h.flat)
  have hbb := bne_self b
  have hcm : c ≤ 1048576 := by omega
  have hK : 1 + 2 * c ≤ 100000000 := by omega
  have hkn : ¬ ((1 + 2 * c : Nat) : Int) < 0 := by omega
  obtain ⟨KK, hKK⟩ : ∃ KK : Int, ((1 + 2 * c : Nat) : Int) = KK := ⟨_, rfl⟩
  rw [hKK] at hkn
  have HKK := Lib.hid hKK
  clear hT hb hc hr hKK
  go_enter Try.func5, Try.ntmps5
  go_wp2_with fail
  go_at_call 16
  refine (parseType_spec s hs r HR.out _).mono ?_
  intro e w1 hret
  obtain ⟨v1, rfl, hty1, hb1⟩ := HF.out _ _ _ hret
  obtain ⟨a1, k1, rfl, _⟩ := hty1.at.slice
  have HA1 : Hid (Below w1.heap.size w1 (w1.alloc (.cells #[.int .i64 T.k, .int .i64 T.n, .slice a1 T.ks.length k1] 29))) := Lib.hid ((Below.refl _ _).alloc (Nat.le_refl _) _)
  have H1 := Lib.hid (hb1.trans (HA1.out.mono hb1.size))
  have HY1 := Lib.hid (hty1.kept HA1.out)
  have HP1 := Lib.hid (tbox_new w1 (.int .i64 T.k) (.int .i64 T.n) (.slice a1 T.ks.length k1) 29)
  have hz1 : (w1.alloc (.cells #[.int .i64 T.k, .int .i64 T.n, .slice a1 T.ks.length k1] 29)).heap.size = w1.heap.size + 1 := by simp
  have hzw : w.heap.size ≤ w1.heap.size := hb1.size
  clear hret hty1 hb1
  go_wp2_with fail
  obtain ⟨W1, hW1⟩ : ∃ W1, w1.alloc (.cells #[.int .i64 T.k, .int .i64 T.n, .slice a1 T.ks.length k1] 29) = W1 := ⟨_, rfl⟩
  rw [hW1] at HA1 H1 HY1 HP1 hz1 ⊢
  clear hW1
  go_at_call 17
  refine (parseType_impl s hs r HR.out _).mono ?_
  intro e w2 hret
  obtain ⟨v2, rfl, hty2, hb2⟩ := HF.out _ _ _ hret
  obtain ⟨a2, k2, rfl, _⟩ := hty2.at.slice
  have HA2 : Hid (Below w2.heap.size w2 (w2.alloc (.cells #[.int .i64 T.k, .int .i64 T.n, .slice a2 T.ks.length k2] 29))) := Lib.hid ((Below.refl _ _).alloc (Nat.le_refl _) _)
  have HB2 := hb2.trans (HA2.out.mono hb2.size)
  have H2 := Lib.hid (H1.out.trans (HB2.mono H1.out.size))
  have HY2 := Lib.hid (HY1.out.kept HB2)
  have HP2 := Lib.hid (HP1.out.kept HB2)
  have HG2 := Lib.hid (hty2.kept HA2.out)
  have HQ2 := Lib.hid (tbox_new w2 (.int .i64 T.k) (.int .i64 T.n) (.slice a2 T.ks.length k2) 29)
  have hz2 : (w2.alloc (.cells #[.int .i64 T.k, .int .i64 T.n, .slice a2 T.ks.length k2] 29)).heap.size = w2.heap.size + 1 := by simp
  have hz12 : W1.heap.size ≤ w2.heap.size := hb2.size
  obtain ⟨p0, p1, p2, pz⟩ := HP2.out
  clear hret hty2 hb2 HB2
  go_wp2_with fail
  obtain ⟨W2, hW2⟩ : ∃ W2, w2.alloc (.cells #[.int .i64 T.k, .int .i64 T.n, .slice a2 T.ks.length k2] 29) = W2 := ⟨_, rfl⟩
  (try rw [hW2])
  rw [hW2] at HA2 H2 HY2 HP2 HG2 HQ2 hz2 p0 p1 p2 pz
  clear hW2
  obtain ⟨q0, q1, q2, qz⟩ := HQ2.out
  go_at_call 13
  refine (eqType_any _ T c _ _ _ (Nat.lt_succ_self _) HC.out hcm HG2.out.at HY2.out.at).mono ?_
  rintro e w3 ⟨rfl, hb3⟩
  have H3 := Lib.hid (H2.out.trans (hb3.mono H2.out.size))
  have HY3 := Lib.hid (HY2.out.kept hb3)
  have HP3 := Lib.hid (HP2.out.kept hb3)
  have HG3 := Lib.hid (HG2.out.kept hb3)
  have HQ3 := Lib.hid (HQ2.out.kept hb3)
  clear p0 p1 p2 pz q0 q1 q2 qz hb3
  obtain ⟨p0, p1, p2, pz⟩ := HP3.out
  obtain ⟨q0, q1, q2, qz⟩ := HQ3.out
  go_wp2_with fail
  go_at_call 18
  refine (markTypeFull_any T c _ _ _ 1 _ HC.out HG3.out hK).mono ?_
  rintro e w4 ⟨rfl, hI, hH⟩
  rw [HKK.out]
  have HI4 := Lib.hid (hI.below (by omega) H3.out H3.out.size)
  have HY4 := Lib.hid (HY3.out.apart hI (.inl (by omega)))
  have HP4 := Lib.hid (HP3.out.away hI (.inl (by omega)))
  have HQ4 := Lib.hid (HQ3.out.away hI (.inr (by omega)))
  have HH4 := Lib.hid hH
  clear p0 p1 p2 pz q0 q1 q2 qz hI hH
  obtain ⟨p0, p1, p2, pz⟩ := HP4.out
  obtain ⟨q0, q1, q2, qz⟩ := HQ4.out
  go_wp2_with fail
  go_at_call 19
  refine (heldType_any T c _ _ _ _ _ 1 _ HH4.out hK).mono ?_
  rintro e w5 ⟨rfl, hb5⟩
  rw [HKK.out]
  have H5 := Lib.hid (HI4.out.trans (hb5.mono HI4.out.size))
  have HY5 := Lib.hid (HY4.out.kept hb5)
  have HP5 := Lib.hid (HP4.out.kept hb5)
  have HQ5 := Lib.hid (HQ4.out.kept hb5)
  have HH5 := Lib.hid (HH4.out.kept hb5)
  clear p0 p1 p2 pz q0 q1 q2 qz hb5
  obtain ⟨p0, p1, p2, pz⟩ := HP5.out
  obtain ⟨q0, q1, q2, qz⟩ := HQ5.out
  go_wp2_with fail
  go_at_call 17
  refine (parseType_impl s hs r HR.out _).mono ?_
  intro e w6 hret
  obtain ⟨v6, rfl, hty6, hb6⟩ := HF.out _ _ _ hret
  obtain ⟨a6, k6, rfl, _⟩ := hty6.at.slice
  have HA6 : Hid (Below w6.heap.size w6 (w6.alloc (.cells #[.int .i64 T.k, .int .i64 T.n, .slice a6 T.ks.length k6] 29))) := Lib.hid ((Below.refl _ _).alloc (Nat.le_refl _) _)
  have HB6 := hb6.trans (HA6.out.mono hb6.size)
  have H6 := Lib.hid (H5.out.trans (HB6.mono H5.out.size))
  have HY6 := Lib.hid (HY5.out.kept HB6)
  have HP6 := Lib.hid (HP5.out.kept HB6)
  have HQ6 := Lib.hid (HQ5.out.kept HB6)
  have HH6 := Lib.hid (HH5.out.kept HB6)
  have HT6 := Lib.hid (hty6.at.kept HA6.out)
  have HS6 := Lib.hid (tbox_new w6 (.int .i64 T.k) (.int .i64 T.n) (.slice a6 T.ks.length k6) 29)
  clear p0 p1 p2 pz q0 q1 q2 qz hret hty6 hb6 HB6
  obtain ⟨p0, p1, p2, pz⟩ := HP6.out
  go_wp2_with fail
  obtain ⟨W6, hW6⟩ : ∃ W6, w6.alloc (.cells #[.int .i64 T.k, .int .i64 T.n, .slice a6 T.ks.length k6] 29) = W6 := ⟨_, rfl⟩
  (try rw [hW6])
  rw [hW6] at HA6 H6 HY6 HP6 HQ6 HH6 HT6 HS6 p0 p1 p2 pz
  clear hW6
  obtain ⟨s0, s1, s2, sz⟩ := HS6.out
  go_at_call 13
  refine (eqType_any _ T c _ _ _ (Nat.lt_succ_self _) HC.out hcm HT6.out HY6.out.at).mono ?_
  rintro e w7 ⟨rfl, hb7⟩
  have H7 := Lib.hid (H6.out.trans (hb7.mono H6.out.size))
  have HQ7 := Lib.hid (HQ6.out.kept hb7)
  have HH7 := Lib.hid (HH6.out.kept hb7)
  clear p0 p1 p2 pz s0 s1 s2 sz hb7
  obtain ⟨q0, q1, q2, qz⟩ := HQ7.out
  go_wp2_with fail
  go_at_call 19
  refine (heldType_any T c _ _ _ _ _ 1 _ HH7.out hK).mono ?_
  rintro e w8 ⟨rfl, hb8⟩
  rw [HKK.out]
  have H8 := Lib.hid (H7.out.trans (hb8.mono H7.out.size))
  clear q0 q1 q2 qz hb8
  go_wp2_with fail
  go_ret
  exact ⟨rfl, H8.out⟩

set_option maxRecDepth 100000 in
theorem lifted (os : Os) (started : os.Started) (H : Type) (enc : TypeId × Value → H) :
    ReturnsInHanded {} Try.checked os 5 .any (Rows.fnExactParseTypeSpec.pre6 enc Try.prog Try.f5 Rows.fnExactParseTypeRow.domain false) (Rows.fnExactParseTypeSpec.post enc Try.prog Try.f5 false true false false) := by
  refine returnsInHanded_of_change (C := Try.checked) own started (by kernel_rfl) Try.func5
    (ChangeSpec.witness6 (enc := enc) (C := Try.checked) false ⟨#[], #[.string ⟨#[]⟩], []⟩ 8 (by kernel_rfl) (by kernel_rfl) (by kernel_rfl) (by kernel_rfl)) ?_
  intro W base args ds gs before hval0 hW hcnd _
  have hval : ∀ (j : Nat) t v, Try.f5.params[j]? = some t → args[j]? = some v → Value.okWide Try.prog W .any base t v := hval0
  have hW' := hW
  obtain ⟨p, q, hA0, hV, rfl, hfz, hnd⟩ := hW
  have hA : DataW.TrodAll enc Try.prog W 0 (fun _ => true) true Try.f5.params.toList args.toList ds p := hA0
  rw [Try.params5] at hA hval
  obtain ⟨v0, vs0, d0, ds0, p0, q0, hargs, rfl, rfl, h0, r0⟩ := trodAll_cons hA
  obtain ⟨rfl, rfl, rfl⟩ := trodAll_nil r0
  obtain rfl : args = #[v0] := by cases args; simp_all
  obtain ⟨rfl, rfl⟩ := trodVars_none hV
  have k0 := h0
  have lt0 : ∀ x ∈ p0, x.block < W.heap.size := by obtain ⟨m, hm⟩ := k0; exact DataW.trod_lt m _ _ _ hm
  obtain ⟨a0, rfl, rfl, rfl, w0⟩ := open_string Try.underlying9 (hval 0 9 v0 rfl rfl) h0
  clear hA0 hval0
  refine (walk a0 W w0).mono fun e W' ⟨he, bel⟩ => ?_
  subst he
  exact ⟨_, rfl, _, _, _, [], _, [], hW', trodAll_mk1 (shut_bool Try.underlying4 _), (trodAll_cons_mk (Below.trod laidOut (by kernel_rfl) (of_decide_eq_true (by kernel_rfl)) k0 bel lt0) trodAll_mk0), rfl, bel.frame _, fun h => by cases h⟩

theorem over : Rows.fnExactParseTypeRow.holds Try.pinned (OpenSpec.ofChange Rows.fnExactParseTypeSpec) :=
  OpenClaim.holds_of_wide 5 Try.f5 rfl rfl rfl rfl rfl rfl rfl ⟨rfl, rfl, rfl, rfl, rfl⟩ rfl rfl rfl rfl rfl (by kernel_rfl) Try.func5 (by kernel_rfl)
    (of_decide_eq_true (by kernel_rfl)) (by unfold Func.isWrapper; first | (rw [if_pos (by decide +kernel)]; kernel_rfl) | (rw [if_neg (by decide +kernel)]; exact ⟨rfl, rfl⟩))
    (fun os started H enc _ => lifted os started H enc)

/-- The given statement. -/
theorem proved : Rows.FnExactParseTypeSaid := over
end Go.Proofs.Ytiaoopikmkakbaa.fnExactParseType
