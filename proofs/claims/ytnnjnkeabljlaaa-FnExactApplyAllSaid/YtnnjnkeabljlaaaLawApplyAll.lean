/-
  FnExactApplyAll returns true for every string and every list of edits, and they read as they did: ApplyAll answers as its model. No conditions.
-/
import Derived.Test.YtnnjnkeabljlaaaRows
import Derived.ProofKit
import Derived.OpenShut
import Derived.ShutString
import Derived.ChangeOld
import Derived.Below
import Derived.Lib.SmallJoins
import Derived.Test.YtnnjnkeabljlaaaIj
import Derived.Test.YtnnjnkeabljlaaaIl
import Derived.Test.YtnnjnkeabljlaaaIi
namespace Go.Proofs.Ytnnjnkeabljlaaa.fnExactApplyAll
open Go.Proofs.Ytnnjnkeabljlaaa
open Go.ChangeShapes Go.WideShapes Go.ChangeAt Go.RowKit Go.Joins
open Go.ChangeMaps (open_string shut_string)
set_option linter.unusedVariables false
set_option linter.unusedSimpArgs false

theorem own : ownKnob Try.prog.godebug = none := by kernel_rfl
theorem laidOut : laidOutB Try.prog = true := by kernel_rfl

set_option maxRecDepth 100000 in
set_option maxHeartbeats 8000000 in
theorem walk (s : ByteArray) (ls : List Ed) (lv : Value) (w : World) (hs : s.size ≤ maxLen) (hx : EsAt w ls lv) (hz : EdSz ls) :
    Calls Try.prog 6 #[.string s, lv] w fun e w' => e = .returned (.bool true) ∧ Below w.heap.size w w' := by
  have HSL := Lib.hid hs
  have HX := Lib.hid hx
  have HZ : Hid (EdSz ls) := Lib.hid hz
  obtain ⟨a, cap, rfl, hlen⟩ := hx.slice
  obtain ⟨n, hn⟩ : ∃ n, ls.length = n := ⟨_, rfl⟩
  have HN := Lib.hid hn
  rw [hn] at hlen HX ⊢
  unfold maxLen at hs
  clear hx hz
  by_cases hl : s.size ≤ 1048576
  case neg =>
    go_enter Try.func6, Try.ntmps6
    go_wp2
    go_ret
    exact ⟨rfl, Below.refl _ _⟩
  by_cases hl2 : (n : Int) ≤ 1048576
  case neg =>
    have HL2 : Hid (¬ (ls.length : Int) ≤ 1048576) := Lib.hid (by rw [hn]; exact hl2)
    clear hn hl2
    go_enter Try.func6, Try.ntmps6
    go_wp2_with fail
    go_at_call 18
    refine (szEditS_long ls _ _ HX.out (by have := HL2.out; omega)).mono ?_
    rintro e w1 ⟨rfl, hb1⟩
    go_wp2_with fail
    go_ret
    exact ⟨rfl, hb1⟩
  have HL : Hid ((ls.length : Int) ≤ 1048576) := Lib.hid (by rw [hn]; exact hl2)
  obtain ⟨b, hb⟩ : ∃ b, lft (1048576 - ls.length) ls = b := ⟨_, rfl⟩
  have hbr := lft_range (ls := ls) (n := 1048576 - ls.length) (by rw [hn]; omega)
  rw [hb] at hbr
  have HBB := Lib.hid hb
  clear hn hb hl2
  rcases hbr with rfl | ⟨hb0, hb1⟩
  · go_enter Try.func6, Try.ntmps6
    go_wp2_with fail
    go_at_call 18
    refine (szEditS_any ls _ _ _ HZ.out HX.out HL.out HBB.out).mono ?_
    rintro e w1 ⟨rfl, hb1⟩
    go_wp2_with fail
    go_ret
    exact ⟨rfl, hb1⟩
  have hbn : ¬ b < 0 := by omega
  clear hb0 hb1
  rcases hb : ordB s ls with _ | _
  case false =>
    have HB := Lib.hid hb
    clear hb
    go_enter Try.func6, Try.ntmps6
    go_wp2_with fail
    go_at_call 18
    refine (szEditS_any ls _ _ _ HZ.out HX.out HL.out HBB.out).mono ?_
    rintro e w1 ⟨rfl, hb1⟩
    have HB1 := Lib.hid ((Below.refl w.heap.size w).trans (hb1.mono (Below.refl w.heap.size w).size))
    have HX_1 := Lib.hid (HX.out.kept hb1)
    clear hb1
    go_wp2_with fail
    go_at_call 19
    refine (toEditS_any ls _ _ HL.out HX_1.out).mono ?_
    rintro e w2 ⟨vA1, rfl, hat, hb2⟩
    have HB2 := Lib.hid (HB1.out.trans (hb2.mono HB1.out.size))
    have HX_2 := Lib.hid (HX_1.out.kept hb2)
    have A1 := Lib.hid hat
    clear hat
    clear hb2
    go_wp2_with fail
    go_at_call 9
    refine (applyAll_spec_no s ls _ HB.out HSL.out HZ.out _ A1.out).mono ?_
    rintro e w3 ⟨rfl, hb3⟩
    have HB3 := Lib.hid (HB2.out.trans (hb3.mono HB2.out.size))
    have HX_3 := Lib.hid (HX_2.out.kept hb3)
    have A1_3 := Lib.hid (A1.out.kept hb3)
    clear hb3
    go_wp2_with fail
    go_at_call 19
    refine (toEditS_any ls _ _ HL.out HX_3.out).mono ?_
    rintro e w4 ⟨vA2, rfl, hat, hb4⟩
    have HB4 := Lib.hid (HB3.out.trans (hb4.mono HB3.out.size))
    have HX_4 := Lib.hid (HX_3.out.kept hb4)
    have A2 := Lib.hid hat
    clear hat
    clear hb4
    go_wp2_with fail
    go_at_call 8
    refine (applyAll_impl_no s ls _ HB.out HSL.out HZ.out _ A2.out).mono ?_
    rintro e w5 ⟨rfl, hb5⟩
    have HB5 := Lib.hid (HB4.out.trans (hb5.mono HB4.out.size))
    have HX_5 := Lib.hid (HX_4.out.kept hb5)
    have A2_5 := Lib.hid (A2.out.kept hb5)
    clear hb5
    go_wp2_with fail
    go_at_call 19
    refine (toEditS_any ls _ _ HL.out HX_5.out).mono ?_
    rintro e w6 ⟨vA3, rfl, hat, hb6⟩
    have HB6 := Lib.hid (HB5.out.trans (hb6.mono HB5.out.size))
    have HX_6 := Lib.hid (HX_5.out.kept hb6)
    have A2_6 := Lib.hid (A2_5.out.kept hb6)
    have A3 := Lib.hid hat
    clear hat
    clear hb6
    go_wp2_with fail
    go_at_call 20
    refine (eqEditS_any ls _ _ _ HL.out A2_6.out A3.out).mono ?_
    rintro e w7 ⟨rfl, hb7⟩
    have HB7 := Lib.hid (HB6.out.trans (hb7.mono HB6.out.size))
    have HX_7 := Lib.hid (HX_6.out.kept hb7)
    have A2_7 := Lib.hid (A2_6.out.kept hb7)
    have A3_7 := Lib.hid (A3.out.kept hb7)
    clear hb7
    go_wp2_with fail
    go_ret
    exact ⟨rfl, HB7.out⟩
  case true =>
    have HB := Lib.hid hb
    obtain ⟨y, hy⟩ : ∃ y, apR s ls = y := ⟨_, rfl⟩
    have HY := Lib.hid hy
    clear hb hy
    go_enter Try.func6, Try.ntmps6
    go_wp2_with fail
    go_at_call 18
    refine (szEditS_any ls _ _ _ HZ.out HX.out HL.out HBB.out).mono ?_
    rintro e w1 ⟨rfl, hb1⟩
    have HB1 := Lib.hid ((Below.refl w.heap.size w).trans (hb1.mono (Below.refl w.heap.size w).size))
    have HX_1 := Lib.hid (HX.out.kept hb1)
    clear hb1
    go_wp2_with fail
    go_at_call 19
    refine (toEditS_any ls _ _ HL.out HX_1.out).mono ?_
    rintro e w2 ⟨vA1, rfl, hat, hb2⟩
    have HB2 := Lib.hid (HB1.out.trans (hb2.mono HB1.out.size))
    have HX_2 := Lib.hid (HX_1.out.kept hb2)
    have A1 := Lib.hid hat
    clear hat
    clear hb2
    go_wp2_with fail
    go_at_call 9
    refine (applyAll_spec_yes s ls _ y HB.out HY.out HSL.out HZ.out _ A1.out).mono ?_
    rintro e w3 ⟨rfl, hb3⟩
    have HB3 := Lib.hid (HB2.out.trans (hb3.mono HB2.out.size))
    have HX_3 := Lib.hid (HX_2.out.kept hb3)
    have A1_3 := Lib.hid (A1.out.kept hb3)
    clear hb3
    go_wp2_with fail
    go_at_call 19
    refine (toEditS_any ls _ _ HL.out HX_3.out).mono ?_
    rintro e w4 ⟨vA2, rfl, hat, hb4⟩
    have HB4 := Lib.hid (HB3.out.trans (hb4.mono HB3.out.size))
    have HX_4 := Lib.hid (HX_3.out.kept hb4)
    have A2 := Lib.hid hat
    clear hat
    clear hb4
    go_wp2_with fail
    go_at_call 8
    refine (applyAll_impl_yes s ls _ y HB.out HY.out HSL.out HZ.out _ A2.out).mono ?_
    rintro e w5 ⟨rfl, hb5⟩
    have HB5 := Lib.hid (HB4.out.trans (hb5.mono HB4.out.size))
    have HX_5 := Lib.hid (HX_4.out.kept hb5)
    have A2_5 := Lib.hid (A2.out.kept hb5)
    clear hb5
    go_wp2_with fail
    go_at_call 19
    refine (toEditS_any ls _ _ HL.out HX_5.out).mono ?_
    rintro e w6 ⟨vA3, rfl, hat, hb6⟩
    have HB6 := Lib.hid (HB5.out.trans (hb6.mono HB5.out.size))
    have HX_6 := Lib.hid (HX_5.out.kept hb6)
    have A2_6 := Lib.hid (A2_5.out.kept hb6)
    have A3 := Lib.hid hat
    clear hat
    clear hb6
    go_wp2_with fail
    go_at_call 20
    refine (eqEditS_any ls _ _ _ HL.out A2_6.out A3.out).mono ?_
    rintro e w7 ⟨rfl, hb7⟩
    have HB7 := Lib.hid (HB6.out.trans (hb7.mono HB6.out.size))
    have HX_7 := Lib.hid (HX_6.out.kept hb7)
    have A2_7 := Lib.hid (A2_6.out.kept hb7)
    have A3_7 := Lib.hid (A3.out.kept hb7)
    clear hb7
    go_wp2_with fail
    go_ret
    exact ⟨rfl, HB7.out⟩

set_option maxRecDepth 100000 in
theorem lifted (os : Os) (started : os.Started) (H : Type) (enc : TypeId × Value → H) :
    ReturnsInHanded {} Try.checked os 6 .any (Rows.fnExactApplyAllSpec.pre6 enc Try.prog Try.f6 Rows.fnExactApplyAllRow.domain false) (Rows.fnExactApplyAllSpec.post enc Try.prog Try.f6 false true false false) := by
  refine returnsInHanded_of_change (C := Try.checked) own started (by kernel_rfl) Try.func6
    (ChangeSpec.witness6 (enc := enc) (C := Try.checked) false ⟨#[], #[.string ⟨#[]⟩, .slice none 0 0], []⟩ 8 (by kernel_rfl) (by kernel_rfl) (by kernel_rfl) (by kernel_rfl)) ?_
  intro W base args ds gs before hval0 hW hcnd _
  have hval : ∀ (j : Nat) t v, Try.f6.params[j]? = some t → args[j]? = some v → Value.okWide Try.prog W .any base t v := hval0
  have hW' := hW
  obtain ⟨p, q, hA0, hV, rfl, hfz, hnd⟩ := hW
  have hA : DataW.TrodAll enc Try.prog W 0 (fun _ => true) true Try.f6.params.toList args.toList ds p := hA0
  rw [Try.params6] at hA hval
  obtain ⟨v0, vs0, d0, ds0, p0, q0, hargs, rfl, rfl, h0, r0⟩ := trodAll_cons hA
  obtain ⟨v1, vs1, d1, ds1, p1, q1, rfl, rfl, rfl, h1, r1⟩ := trodAll_cons r0
  obtain ⟨rfl, rfl, rfl⟩ := trodAll_nil r1
  obtain rfl : args = #[v0, v1] := by cases args; simp_all
  obtain ⟨rfl, rfl⟩ := trodVars_none hV
  have k0 := h0
  have lt0 : ∀ x ∈ p0, x.block < W.heap.size := by obtain ⟨m, hm⟩ := k0; exact DataW.trod_lt m _ _ _ hm
  have k1 := h1
  have lt1 : ∀ x ∈ p1, x.block < W.heap.size := by obtain ⟨m, hm⟩ := k1; exact DataW.trod_lt m _ _ _ hm
  obtain ⟨a0, rfl, rfl, rfl, w0⟩ := open_string Try.underlying9 (hval 0 9 v0 rfl rfl) h0
  obtain ⟨a1, len1, cap1, rfl⟩ := okWide_slice Try.underlying38 (hval 1 38 v1 rfl rfl)
  obtain ⟨u1, hz1, hn1⟩ : ∃ (ls : List Ed), EsAt W ls (.slice a1 len1 cap1) ∧ EdSz ls := by
    obtain ⟨fuel, hf⟩ := h1
    obtain ⟨ls, v, hcs, hat, hsz⟩ := eds_of_trod fuel _ _ hf
    simp [Value.cells] at hcs
    exact ⟨ls, hcs ▸ hat, hsz⟩
  clear hA0 hval0
  refine (walk a0 u1 (.slice a1 len1 cap1) W w0 hz1 hn1).mono fun e W' ⟨he, bel⟩ => ?_
  subst he
  exact ⟨_, rfl, _, _, _, [], _, [], hW', trodAll_mk1 (shut_bool Try.underlying4 _), (trodAll_cons_mk (Below.trod laidOut (by kernel_rfl) (of_decide_eq_true (by kernel_rfl)) k0 bel lt0) (trodAll_cons_mk (Below.trod laidOut (by kernel_rfl) (of_decide_eq_true (by kernel_rfl)) k1 bel lt1) trodAll_mk0)), rfl, bel.frame _, fun h => by cases h⟩

theorem over : Rows.fnExactApplyAllRow.holds Try.pinned (OpenSpec.ofChange Rows.fnExactApplyAllSpec) :=
  OpenClaim.holds_of_wide 6 Try.f6 rfl rfl rfl rfl rfl rfl rfl ⟨rfl, rfl, rfl, rfl, rfl⟩ rfl rfl rfl rfl rfl (by kernel_rfl) Try.func6 (by kernel_rfl)
    (of_decide_eq_true (by kernel_rfl)) (by unfold Func.isWrapper; first | (rw [if_pos (by decide +kernel)]; kernel_rfl) | (rw [if_neg (by decide +kernel)]; exact ⟨rfl, rfl⟩))
    (fun os started H enc _ => lifted os started H enc)

/-- The given statement. -/
theorem proved : Rows.FnExactApplyAllSaid := over
end Go.Proofs.Ytnnjnkeabljlaaa.fnExactApplyAll
