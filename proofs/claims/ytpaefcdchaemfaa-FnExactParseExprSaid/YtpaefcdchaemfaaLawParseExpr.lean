/-
  FnExactParseExpr returns true for every text: ParseExpr answers as its model, in memory of its own. No conditions.
-/
import Derived.Test.YtpaefcdchaemfaaRows
import Derived.ProofKit
import Derived.OpenShut
import Derived.ShutString
import Derived.ChangeOld
import Derived.Below
import Derived.Lib.SmallJoins
import Derived.Test.YtpaefcdchaemfaaXab
namespace Go.Proofs.Ytpaefcdchaemfaa.fnExactParseExpr
open Go.Proofs.Ytpaefcdchaemfaa
open Go.ChangeShapes Go.WideShapes Go.ChangeAt Go.RowKit Go.Joins
open Go.ChangeMaps (open_string shut_string)
set_option linter.unusedVariables false
set_option linter.unusedSimpArgs false

theorem own : ownKnob Try.prog.godebug = none := by kernel_rfl
theorem laidOut : laidOutB Try.prog = true := by kernel_rfl

theorem bne_self (b : Bool) : (b != b) = false := by cases b <;> rfl

set_option maxRecDepth 100000 in
set_option maxHeartbeats 8000000 in
theorem walk (s : ByteArray) (w : World) (_ : s.size ≤ maxLen) :
    Calls Try.prog 3 #[.string s] w fun e w' => e = .returned (.bool true) ∧ Below w.heap.size w w' := by
  by_cases hle : (s.size : Int) ≤ 1048576
  case neg =>
    go_enter Try.func3, Try.ntmps3
    go_wp2_with fail
    go_ret
    exact ⟨rfl, Below.refl _ _⟩
  have hs : s.size ≤ 1048576 := by omega
  obtain ⟨⟨c, hc, hcm⟩, ct, hct, hctm⟩ := Ox.pxE_facts s
  obtain ⟨T, hT⟩ : ∃ T, Ox.optX (pxE s) = T := ⟨_, rfl⟩
  obtain ⟨b, hb⟩ : ∃ b, (pxE s).isSome = b := ⟨_, rfl⟩
  rw [hT] at hc hct
  have HC := Lib.hid hc
  have HCT := Lib.hid hct
  have HF : Hid (∀ (w : World) (e : Ending) (w' : World), PeRet w e w' (pxE s) → ∃ v, e = .returned (.tuple #[.agg #[.int .i64 T.k, .int .i64 T.n, .string T.m, .string T.s, v], .bool b]) ∧ ExIn w' w.heap.size w'.heap.size T v ∧ Below w.heap.size w w') := Lib.hid (by rw [← hT, ← hb]; exact fun w e w' h => Ox.PeRet.flat h)
  have hbb := bne_self b
  have hK : 1 + 4 * c ≤ 9000000 := by omega
  have hct2 : ct ≤ 1048576 := by omega
  have hkn : ¬ ((1 + 4 * c : Nat) : Int) < 0 := by omega
  obtain ⟨KK, hKK⟩ : ∃ KK : Int, ((1 + 4 * c : Nat) : Int) = KK := ⟨_, rfl⟩
  rw [hKK] at hkn
  have HKK := Lib.hid hKK
  clear hT hb hc hct hKK
  go_enter Try.func3, Try.ntmps3
  go_wp2_with fail
  go_at_call 4
  refine (parseExpr_spec s hs _).mono ?_
  intro e w1 hret
  obtain ⟨v1, rfl, hty1, hb1⟩ := HF.out _ _ _ hret
  obtain ⟨a1, k1, rfl, _⟩ := hty1.at.slice
  have HA1 : Hid (Below w1.heap.size w1 (w1.alloc (.cells #[.int .i64 T.k, .int .i64 T.n, .string T.m, .string T.s, .slice a1 T.ks.length k1] 24))) := Lib.hid ((Below.refl _ _).alloc (Nat.le_refl _) _)
  have H1 := Lib.hid (hb1.trans (HA1.out.mono hb1.size))
  have HY1 := Lib.hid (hty1.kept HA1.out)
  have HP1 := Lib.hid (ebox_new w1 (.int .i64 T.k) (.int .i64 T.n) (.string T.m) (.string T.s) (.slice a1 T.ks.length k1) 24)
  have hz1 : (w1.alloc (.cells #[.int .i64 T.k, .int .i64 T.n, .string T.m, .string T.s, .slice a1 T.ks.length k1] 24)).heap.size = w1.heap.size + 1 := by simp
  have hzw : w.heap.size ≤ w1.heap.size := hb1.size
  clear hret hty1 hb1
  go_wp2_with fail
  obtain ⟨W1, hW1⟩ : ∃ W1, w1.alloc (.cells #[.int .i64 T.k, .int .i64 T.n, .string T.m, .string T.s, .slice a1 T.ks.length k1] 24) = W1 := ⟨_, rfl⟩
  rw [hW1] at HA1 H1 HY1 HP1 hz1 ⊢
  clear hW1
  go_at_call 5
  refine (parseExpr_impl s hs _).mono ?_
  intro e w2 hret
  obtain ⟨v2, rfl, hty2, hb2⟩ := HF.out _ _ _ hret
  obtain ⟨a2, k2, rfl, _⟩ := hty2.at.slice
  have HA2 : Hid (Below w2.heap.size w2 (w2.alloc (.cells #[.int .i64 T.k, .int .i64 T.n, .string T.m, .string T.s, .slice a2 T.ks.length k2] 24))) := Lib.hid ((Below.refl _ _).alloc (Nat.le_refl _) _)
  have HB2 := hb2.trans (HA2.out.mono hb2.size)
  have H2 := Lib.hid (H1.out.trans (HB2.mono H1.out.size))
  have HY2 := Lib.hid (HY1.out.kept HB2)
  have HP2 := Lib.hid (HP1.out.kept HB2)
  have HG2 := Lib.hid (hty2.kept HA2.out)
  have HQ2 := Lib.hid (ebox_new w2 (.int .i64 T.k) (.int .i64 T.n) (.string T.m) (.string T.s) (.slice a2 T.ks.length k2) 24)
  have hz2 : (w2.alloc (.cells #[.int .i64 T.k, .int .i64 T.n, .string T.m, .string T.s, .slice a2 T.ks.length k2] 24)).heap.size = w2.heap.size + 1 := by simp
  have hz12 : W1.heap.size ≤ w2.heap.size := hb2.size
  obtain ⟨p0, p1, p2, p3, p4, pz⟩ := HP2.out
  clear hret hty2 hb2 HB2
  go_wp2_with fail
  obtain ⟨W2, hW2⟩ : ∃ W2, w2.alloc (.cells #[.int .i64 T.k, .int .i64 T.n, .string T.m, .string T.s, .slice a2 T.ks.length k2] 24) = W2 := ⟨_, rfl⟩
  (try rw [hW2])
  rw [hW2] at HA2 H2 HY2 HP2 HG2 HQ2 hz2 p0 p1 p2 p3 p4 pz
  clear hW2
  obtain ⟨q0, q1, q2, q3, q4, qz⟩ := HQ2.out
  go_at_call 6
  refine (Ox.eqExpr_any _ T ct _ _ _ (Nat.lt_succ_self _) HCT.out hct2 HG2.out.at HY2.out.at).mono ?_
  rintro e w3 ⟨rfl, hb3⟩
  have H3 := Lib.hid (H2.out.trans (hb3.mono H2.out.size))
  have HY3 := Lib.hid (HY2.out.kept hb3)
  have HP3 := Lib.hid (HP2.out.kept hb3)
  have HG3 := Lib.hid (HG2.out.kept hb3)
  have HQ3 := Lib.hid (HQ2.out.kept hb3)
  clear p0 p1 p2 p3 p4 pz q0 q1 q2 q3 q4 qz hb3
  obtain ⟨p0, p1, p2, p3, p4, pz⟩ := HP3.out
  obtain ⟨q0, q1, q2, q3, q4, qz⟩ := HQ3.out
  go_wp2_with fail
  go_at_call 7
  refine (Ox.markExprFull_any T c _ _ _ 1 _ HC.out HG3.out (by omega) hK).mono ?_
  rintro e w4 ⟨rfl, hI, hH⟩
  rw [HKK.out]
  have HI4 := Lib.hid (hI.below (by omega) H3.out H3.out.size)
  have HY4 := Lib.hid (HY3.out.keep hI.size (fun b _ h2 h3 => hI.block b h3 (.inl (by omega))))
  have HP4 := Lib.hid (HP3.out.aside hI.size (hI.block _ HP3.out.sz (.inl (by omega))))
  have HQ4 := Lib.hid (HQ3.out.aside hI.size (hI.block _ HQ3.out.sz (.inr (by omega))))
  have HH4 := Lib.hid hH
  clear p0 p1 p2 p3 p4 pz q0 q1 q2 q3 q4 qz hI hH
  obtain ⟨p0, p1, p2, p3, p4, pz⟩ := HP4.out
  obtain ⟨q0, q1, q2, q3, q4, qz⟩ := HQ4.out
  go_wp2_with fail
  go_at_call 8
  refine (Ox.heldExpr_any T c _ _ _ _ _ _ _ 1 _ HH4.out (by omega) hK).mono ?_
  rintro e w5 ⟨rfl, hb5⟩
  rw [HKK.out]
  have H5 := Lib.hid (HI4.out.trans (hb5.mono HI4.out.size))
  have HY5 := Lib.hid (HY4.out.kept hb5)
  have HP5 := Lib.hid (HP4.out.kept hb5)
  have HQ5 := Lib.hid (HQ4.out.kept hb5)
  have HH5 := Lib.hid (HH4.out.kept hb5)
  clear p0 p1 p2 p3 p4 pz q0 q1 q2 q3 q4 qz hb5
  obtain ⟨p0, p1, p2, p3, p4, pz⟩ := HP5.out
  obtain ⟨q0, q1, q2, q3, q4, qz⟩ := HQ5.out
  go_wp2_with fail
  go_at_call 5
  refine (parseExpr_impl s hs _).mono ?_
  intro e w6 hret
  obtain ⟨v6, rfl, hty6, hb6⟩ := HF.out _ _ _ hret
  obtain ⟨a6, k6, rfl, _⟩ := hty6.at.slice
  have HA6 : Hid (Below w6.heap.size w6 (w6.alloc (.cells #[.int .i64 T.k, .int .i64 T.n, .string T.m, .string T.s, .slice a6 T.ks.length k6] 24))) := Lib.hid ((Below.refl _ _).alloc (Nat.le_refl _) _)
  have HB6 := hb6.trans (HA6.out.mono hb6.size)
  have H6 := Lib.hid (H5.out.trans (HB6.mono H5.out.size))
  have HY6 := Lib.hid (HY5.out.kept HB6)
  have HP6 := Lib.hid (HP5.out.kept HB6)
  have HQ6 := Lib.hid (HQ5.out.kept HB6)
  have HH6 := Lib.hid (HH5.out.kept HB6)
  have HT6 := Lib.hid (hty6.at.kept HA6.out)
  have HS6 := Lib.hid (ebox_new w6 (.int .i64 T.k) (.int .i64 T.n) (.string T.m) (.string T.s) (.slice a6 T.ks.length k6) 24)
  clear p0 p1 p2 p3 p4 pz q0 q1 q2 q3 q4 qz hret hty6 hb6 HB6
  obtain ⟨p0, p1, p2, p3, p4, pz⟩ := HP6.out
  go_wp2_with fail
  obtain ⟨W6, hW6⟩ : ∃ W6, w6.alloc (.cells #[.int .i64 T.k, .int .i64 T.n, .string T.m, .string T.s, .slice a6 T.ks.length k6] 24) = W6 := ⟨_, rfl⟩
  (try rw [hW6])
  rw [hW6] at HA6 H6 HY6 HP6 HQ6 HH6 HT6 HS6 p0 p1 p2 p3 p4 pz
  clear hW6
  obtain ⟨s0, s1, s2, s3, s4, sz⟩ := HS6.out
  go_at_call 6
  refine (Ox.eqExpr_any _ T ct _ _ _ (Nat.lt_succ_self _) HCT.out hct2 HT6.out HY6.out.at).mono ?_
  rintro e w7 ⟨rfl, hb7⟩
  have H7 := Lib.hid (H6.out.trans (hb7.mono H6.out.size))
  have HQ7 := Lib.hid (HQ6.out.kept hb7)
  have HH7 := Lib.hid (HH6.out.kept hb7)
  clear p0 p1 p2 p3 p4 pz s0 s1 s2 s3 s4 sz hb7
  obtain ⟨q0, q1, q2, q3, q4, qz⟩ := HQ7.out
  go_wp2_with fail
  go_at_call 8
  refine (Ox.heldExpr_any T c _ _ _ _ _ _ _ 1 _ HH7.out (by omega) hK).mono ?_
  rintro e w8 ⟨rfl, hb8⟩
  rw [HKK.out]
  have H8 := Lib.hid (H7.out.trans (hb8.mono H7.out.size))
  clear q0 q1 q2 q3 q4 qz hb8
  go_wp2_with fail
  go_ret
  exact ⟨rfl, H8.out⟩

set_option maxRecDepth 100000 in
theorem lifted (os : Os) (started : os.Started) (H : Type) (enc : TypeId × Value → H) :
    ReturnsInHanded {} Try.checked os 3 .any (Rows.fnExactParseExprSpec.pre6 enc Try.prog Try.f3 Rows.fnExactParseExprRow.domain false) (Rows.fnExactParseExprSpec.post enc Try.prog Try.f3 false true false false) := by
  refine returnsInHanded_of_change (C := Try.checked) own started (by kernel_rfl) Try.func3
    (ChangeSpec.witness6 (enc := enc) (C := Try.checked) false ⟨#[], #[.string ⟨#[]⟩], []⟩ 8 (by kernel_rfl) (by kernel_rfl) (by kernel_rfl) (by kernel_rfl)) ?_
  intro W base args ds gs before hval0 hW hcnd _
  have hval : ∀ (j : Nat) t v, Try.f3.params[j]? = some t → args[j]? = some v → Value.okWide Try.prog W .any base t v := hval0
  have hW' := hW
  obtain ⟨p, q, hA0, hV, rfl, hfz, hnd⟩ := hW
  have hA : DataW.TrodAll enc Try.prog W 0 (fun _ => true) true Try.f3.params.toList args.toList ds p := hA0
  rw [Try.params3] at hA hval
  obtain ⟨v0, vs0, d0, ds0, p0, q0, hargs, rfl, rfl, h0, r0⟩ := trodAll_cons hA
  obtain ⟨rfl, rfl, rfl⟩ := trodAll_nil r0
  obtain rfl : args = #[v0] := by cases args; simp_all
  obtain ⟨rfl, rfl⟩ := trodVars_none hV
  have k0 := h0
  have lt0 : ∀ x ∈ p0, x.block < W.heap.size := by obtain ⟨m, hm⟩ := k0; exact DataW.trod_lt m _ _ _ hm
  obtain ⟨a0, rfl, rfl, rfl, w0⟩ := open_string Try.underlying9 (hval 0 9 v0 rfl rfl) h0
  clear hA0 hval0
  refine (walk a0 W w0).mono fun e W' ⟨he, bel⟩ => ?_
  subst he
  exact ⟨_, rfl, _, _, _, [], _, [], hW', trodAll_mk1 (shut_bool Try.underlying4 _), (trodAll_cons_mk (Below.trod laidOut (by kernel_rfl) (of_decide_eq_true (by kernel_rfl)) k0 bel lt0) trodAll_mk0), rfl, bel.frame _, fun h => by cases h⟩

theorem over : Rows.fnExactParseExprRow.holds Try.pinned (OpenSpec.ofChange Rows.fnExactParseExprSpec) :=
  OpenClaim.holds_of_wide 3 Try.f3 rfl rfl rfl rfl rfl rfl rfl ⟨rfl, rfl, rfl, rfl, rfl⟩ rfl rfl rfl rfl rfl (by kernel_rfl) Try.func3 (by kernel_rfl)
    (of_decide_eq_true (by kernel_rfl)) (by unfold Func.isWrapper; first | (rw [if_pos (by decide +kernel)]; kernel_rfl) | (rw [if_neg (by decide +kernel)]; exact ⟨rfl, rfl⟩))
    (fun os started H enc _ => lifted os started H enc)

/-- The given statement. -/
theorem proved : Rows.FnExactParseExprSaid := over
end Go.Proofs.Ytpaefcdchaemfaa.fnExactParseExpr
