/-
  FnExactEnvValid returns true for every list of names with types, and it reads as it did: EnvValid answers as its model. No conditions.
-/
import Derived.Test.YtbmelomhflncpaaRows
import Derived.ProofKit
import Derived.OpenShut
import Derived.ShutString
import Derived.ChangeOld
import Derived.Below
import Derived.Lib.SmallJoins
import Derived.Test.YtbmelomhflncpaaKd
namespace Go.Proofs.Ytbmelomhflncpaa.fnExactEnvValid
open Go.Proofs.Ytbmelomhflncpaa
open Go.ChangeShapes Go.WideShapes Go.ChangeAt Go.RowKit Go.Joins
open Go.ChangeMaps (open_string shut_string)
set_option linter.unusedVariables false
set_option linter.unusedSimpArgs false

theorem own : ownKnob Try.prog.godebug = none := by kernel_rfl
theorem laidOut : laidOutB Try.prog = true := by kernel_rfl

set_option maxRecDepth 100000 in
set_option maxHeartbeats 8000000 in
theorem walk (ls : List Kn) (lv : Value) (w : World) (hx : KnAt w ls lv) (hz : KnSz ls) :
    Calls Try.prog 5 #[lv] w fun e w' => e = .returned (.bool true) ∧ Below w.heap.size w w' := by
  obtain ⟨cf, hcf⟩ := kn_cnt hz
  have HX := Lib.hid hx
  have HCF := Lib.hid hcf
  have HZ : Hid (KnSz ls) := Lib.hid hz
  obtain ⟨c, hc⟩ : ∃ c, ls.length + ((List.range ls.length).map cf).sum = c := ⟨_, rfl⟩
  have HC := Lib.hid hc
  obtain ⟨a, cap, rfl, hlen⟩ := hx.slice
  obtain ⟨L, hL⟩ : ∃ L, ls.length = L := ⟨_, rfl⟩
  have HLL := Lib.hid hL
  rw [hL] at hlen HX ⊢
  clear hx hcf hz hc hL
  by_cases hle : (c : Int) ≤ 1048576
  case neg =>
    have HLE : Hid (LeftOf 1048576 (ls.length + ((List.range ls.length).map cf).sum) = -1) := Lib.hid (by rw [HC.out]; exact leftOf_no hle)
    clear hle
    go_enter Try.func5, Try.ntmps5
    go_wp2_with fail
    go_at_call 20
    refine (szKnownS_any ls cf _ 1048576 _ HCF.out HX.out (by omega) (by omega)).mono ?_
    rintro e w1 ⟨rfl, hb1⟩
    rw [HLE.out]
    have HB1 := Lib.hid (hb1)
    clear hb1
    go_wp2_with fail
    go_ret
    exact ⟨rfl, HB1.out⟩
  have hcm : ls.length + ((List.range ls.length).map cf).sum ≤ 1048576 := by rw [HC.out]; omega
  have HCM := Lib.hid hcm
  have HLE : Hid (LeftOf 1048576 (ls.length + ((List.range ls.length).map cf).sum) = 1048576 - (c : Int)) := Lib.hid (by rw [HC.out]; exact leftOf_yes hle)
  have hnn : 0 ≤ 1048576 - (c : Int) := by omega
  have hnn2 : ¬ 1048576 - (c : Int) < 0 := by omega
  clear hle hcm
  obtain ⟨b, hb⟩ : ∃ b, envB ls = b := ⟨_, rfl⟩
  have HV := Lib.hid hb
  have hbb : (b != b) = false := by cases b <;> rfl
  clear hb
  go_enter Try.func5, Try.ntmps5
  go_wp2_with fail
  go_at_call 20
  refine (szKnownS_any ls cf _ 1048576 _ HCF.out HX.out (by omega) (by omega)).mono ?_
  rintro e w1 ⟨rfl, hb1⟩
  rw [HLE.out]
  have H1 := Lib.hid hb1
  clear hb1
  go_wp2_with fail
  go_at_call 22
  refine (toKnownS_any ls cf _ _ HCF.out HCM.out (HX.out.kept H1.out)).mono ?_
  rintro e w2 ⟨v2, rfl, hk2, hb⟩
  obtain ⟨a2, k2, rfl, _⟩ := hk2.at.slice
  have T2 := Lib.hid hk2
  clear hk2
  have Z102 := Lib.hid (show w1.heap.size ≤ w2.heap.size from hb.size)
  have H103 := Lib.hid (H1.out.trans (hb.mono H1.out.size))
  clear hb
  go_wp2_with fail
  go_at_call 21
  refine (envValid_spec ls _ _ HZ.out T2.out.at).mono ?_
  rintro e w3 ⟨rfl, hb⟩
  have Z105 := Lib.hid (show w2.heap.size ≤ w3.heap.size from hb.size)
  have T106 := Lib.hid (T2.out.kept hb)
  have H107 := Lib.hid (H103.out.trans (hb.mono H103.out.size))
  rw [HV.out]
  clear hb
  go_wp2_with fail
  go_at_call 22
  refine (toKnownS_any ls cf _ _ HCF.out HCM.out (HX.out.kept H107.out)).mono ?_
  rintro e w4 ⟨v4, rfl, hk4, hb⟩
  obtain ⟨a4, k4, rfl, _⟩ := hk4.at.slice
  have T4 := Lib.hid hk4
  clear hk4
  have Z109 := Lib.hid (show w3.heap.size ≤ w4.heap.size from hb.size)
  have H110 := Lib.hid (H107.out.trans (hb.mono H107.out.size))
  clear hb
  go_wp2_with fail
  go_at_call 23
  refine (envValid_impl ls _ _ HZ.out T4.out.at).mono ?_
  rintro e w5 ⟨rfl, hb⟩
  have Z112 := Lib.hid (show w4.heap.size ≤ w5.heap.size from hb.size)
  have T113 := Lib.hid (T4.out.kept hb)
  have H114 := Lib.hid (H110.out.trans (hb.mono H110.out.size))
  rw [HV.out]
  clear hb
  go_wp2_with fail
  go_at_call 22
  refine (toKnownS_any ls cf _ _ HCF.out HCM.out (HX.out.kept H114.out)).mono ?_
  rintro e w6 ⟨v6, rfl, hk6, hb⟩
  obtain ⟨a6, k6, rfl, _⟩ := hk6.at.slice
  have T6 := Lib.hid hk6
  clear hk6
  have Z116 := Lib.hid (show w5.heap.size ≤ w6.heap.size from hb.size)
  have T117 := Lib.hid (T113.out.kept hb)
  have H118 := Lib.hid (H114.out.trans (hb.mono H114.out.size))
  clear hb
  go_wp2_with fail
  go_at_call 24
  refine (eqKnownS_any ls cf _ _ _ HCF.out HCM.out T117.out.at T6.out.at).mono ?_
  rintro e w7 ⟨rfl, hb⟩
  have Z120 := Lib.hid (show w6.heap.size ≤ w7.heap.size from hb.size)
  have T121 := Lib.hid (T117.out.kept hb)
  have T122 := Lib.hid (T6.out.kept hb)
  have H123 := Lib.hid (H118.out.trans (hb.mono H118.out.size))
  clear hb
  go_wp2_with fail
  go_ret
  exact ⟨rfl, H123.out⟩

set_option maxRecDepth 100000 in
theorem lifted (os : Os) (started : os.Started) (H : Type) (enc : TypeId × Value → H) :
    ReturnsInHanded {} Try.checked os 5 .any (Rows.fnExactEnvValidSpec.pre6 enc Try.prog Try.f5 Rows.fnExactEnvValidRow.domain false) (Rows.fnExactEnvValidSpec.post enc Try.prog Try.f5 false true false false) := by
  refine returnsInHanded_of_change (C := Try.checked) own started (by kernel_rfl) Try.func5
    (ChangeSpec.witness6 (enc := enc) (C := Try.checked) false ⟨#[], #[.slice none 0 0], []⟩ 8 (by kernel_rfl) (by kernel_rfl) (by kernel_rfl) (by kernel_rfl)) ?_
  intro W base args ds gs before hval0 hW hcnd _
  have hval : ∀ (j : Nat) t v, Try.f5.params[j]? = some t → args[j]? = some v → Value.okWide Try.prog W .any base t v := hval0
  have hW' := hW
  obtain ⟨p, q, hA0, hV, rfl, hfz, hnd⟩ := hW
  have hA : DataW.TrodAll enc Try.prog W 0 (fun _ => true) true Try.f5.params.toList args.toList ds p := hA0
  rw [Try.params5] at hA hval
  obtain ⟨v0, vs0, d0, ds0, p0, q0, hargs, rfl, rfl, h0, r0⟩ := trodAll_cons hA
  obtain ⟨rfl, rfl, rfl⟩ := trodAll_nil r0
  obtain rfl : args = #[v0] := by cases args; simp_all
  obtain ⟨rfl, rfl⟩ := trodVars_none hV
  have k0 := h0
  have lt0 : ∀ x ∈ p0, x.block < W.heap.size := by obtain ⟨m, hm⟩ := k0; exact DataW.trod_lt m _ _ _ hm
  obtain ⟨a0, len0, cap0, rfl⟩ := okWide_slice Try.underlying40 (hval 0 40 v0 rfl rfl)
  obtain ⟨u0, hz0, hn0⟩ : ∃ (ls : List Kn), KnAt W ls (.slice a0 len0 cap0) ∧ KnSz ls := by
    obtain ⟨fuel, hf⟩ := h0
    obtain ⟨ls, v, hcs, hat, hsz⟩ := kns_of_trod fuel _ _ hf
    simp [Value.cells] at hcs
    exact ⟨ls, hcs ▸ hat, hsz⟩
  clear hA0 hval0
  refine (walk u0 (.slice a0 len0 cap0) W hz0 hn0).mono fun e W' ⟨he, bel⟩ => ?_
  subst he
  exact ⟨_, rfl, _, _, _, [], _, [], hW', trodAll_mk1 (shut_bool Try.underlying4 _), (trodAll_cons_mk (Below.trod laidOut (by kernel_rfl) (of_decide_eq_true (by kernel_rfl)) k0 bel lt0) trodAll_mk0), rfl, bel.frame _, fun h => by cases h⟩

theorem over : Rows.fnExactEnvValidRow.holds Try.pinned (OpenSpec.ofChange Rows.fnExactEnvValidSpec) :=
  OpenClaim.holds_of_wide 5 Try.f5 rfl rfl rfl rfl rfl rfl rfl ⟨rfl, rfl, rfl, rfl, rfl⟩ rfl rfl rfl rfl rfl (by kernel_rfl) Try.func5 (by kernel_rfl)
    (of_decide_eq_true (by kernel_rfl)) (by unfold Func.isWrapper; first | (rw [if_pos (by decide +kernel)]; kernel_rfl) | (rw [if_neg (by decide +kernel)]; exact ⟨rfl, rfl⟩))
    (fun os started H enc _ => lifted os started H enc)

/-- The given statement. -/
theorem proved : Rows.FnExactEnvValidSaid := over
end Go.Proofs.Ytbmelomhflncpaa.fnExactEnvValid
