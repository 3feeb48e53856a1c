/-
  FnMergeEdits returns true for every slice of bytes, and it reads as it did: a merged text has the length that both edits together yield, is a text, and is the same in both orders. No conditions.
-/
import Derived.Test.YtdicfjgdceacpaaRows
import Derived.ProofKit
import Derived.OpenShut
import Derived.ShutString
import Derived.ChangeOld
import Derived.Below
import Derived.Lib.SmallJoins
import Derived.Test.YtdicfjgdceacpaaIf
import Derived.Deep.RegionHeld3
import Derived.Deep.RegionWith
import Derived.Deep.DeepCutAuto
namespace Go.Proofs.Ytdicfjgdceacpaa.fnMergeEdits
open Go.Proofs.Ytdicfjgdceacpaa
open Go.ChangeShapes Go.WideShapes Go.ChangeAt Go.RowKit Go.Joins
open Go.ChangeMaps (open_string shut_string)
set_option linter.unusedVariables false
set_option linter.unusedSimpArgs false

theorem own : ownKnob Try.prog.godebug = none := by kernel_rfl
theorem laidOut : laidOutB Try.prog = true := by kernel_rfl

theorem applyEdit_impl_at (s : ByteArray) (f t : Int) (i y : ByteArray) (hb : fitsB s f t i = true) (hy : ap s f t i = y) (w : World) :
    Calls Try.prog 20 #[.string s, .agg #[.int .i64 f, .int .i64 t, .string i]] w fun e w' => e = .returned (.tuple #[.string y, .bool true]) ∧ Below w.heap.size w w' := by
  subst hy; exact applyEdit_impl_yes s f t i hb w
theorem textValid_at (s : ByteArray) (b : Bool) (hb : tv s = b) (hs : s.size ≤ maxLen) (w : World) :
    Calls Try.prog 28 #[.string s] w fun e w' => e = .returned (.bool b) ∧ Below w.heap.size w w' :=
  (textValid_impl s b hb hs w).mono (by rintro e w' ⟨h1, h2⟩; subst h2; exact ⟨h1, Below.refl _ _⟩)
set_option maxHeartbeats 8000000 in
theorem walk (a : Option Addr) (len cap : Nat) (zs : List Int) (w : World) (hrow : IsRow w a len cap zs) :
    Calls Try.prog 5 #[.slice a len cap] w fun e w' => e = .returned (.bool true) ∧ Below w.heap.size w w' := by
  have HRow := Lib.hid hrow
  have hm := hrow.len
  unfold maxLen at hm
  clear hrow
  by_cases hl : len ≤ 1048576
  case neg =>
    go_enter Try.func5, Try.ntmps5
    go_wp2
    go_ret
    exact ⟨rfl, Below.refl _ _⟩
  go_enter Try.func5, Try.ntmps5
  go_wp2_with fail
  go_at_call 25
  refine (drawMergeEdits_any a len cap zs _ HRow.out).mono ?_
  rintro e w0 ⟨s, f, t, i, g, u, j, hs, hi, hj, rfl, hb0⟩
  have HB0 := Lib.hid hb0
  have HSL : Hid (s.size ≤ maxLen) := Lib.hid (by unfold maxLen; omega)
  have HIL : Hid (i.size ≤ maxLen) := Lib.hid (by unfold maxLen; omega)
  have HJL : Hid (j.size ≤ maxLen) := Lib.hid (by unfold maxLen; omega)
  clear hb0
  rcases ht : trB s g u j f t i false with _ | _
  · have HT := Lib.hid ht
    clear ht
    have HB1 := Lib.hid (HB0.out.alloc HB0.out.size (.cells #[.int .i64 f, .int .i64 t, .string i] 24))
    have HE1 := Lib.hid (edAt_new w0 f t i 24)
    have HB2 := Lib.hid (HB1.out.alloc HB1.out.size (.cells #[.int .i64 g, .int .i64 u, .string j] 24))
    have HE2 := Lib.hid (HE1.out.below ((Below.refl _ _).alloc (Nat.le_refl _) (.cells #[.int .i64 g, .int .i64 u, .string j] 24)))
    have HF2 := Lib.hid (by have h := edAt_new (w0.alloc (.cells #[.int .i64 f, .int .i64 t, .string i] 24)) g u j 24; rw [size_alloc1] at h; exact h)
    obtain ⟨fa1, fb1, fc1, _, _, _, fz1⟩ := HE2.out
    obtain ⟨fa2, fb2, fc2, _, _, _, fz2⟩ := HF2.out
    go_wp2_with fail
    go_at_call 26
    refine (mergeEdits_impl_no s f t i g u j HT.out HSL.out HIL.out HJL.out _).mono ?_
    rintro e w3 ⟨rfl, hb3⟩
    have HB3 := Lib.hid (HB2.out.trans (hb3.mono HB2.out.size))
    have HE3 := Lib.hid (HE2.out.below hb3)
    have HF3 := Lib.hid (HF2.out.below hb3)
    clear hb3
    clear fa1 fb1 fc1 fz1 fa2 fb2 fc2 fz2
    obtain ⟨fa1, fb1, fc1, _, _, _, fz1⟩ := HE3.out
    obtain ⟨fa2, fb2, fc2, _, _, _, fz2⟩ := HF3.out
    go_wp2_with fail
    go_at_call 27
    refine (mergeEdits_spec_no s f t i g u j HT.out HSL.out HIL.out HJL.out _).mono ?_
    rintro e w4 ⟨rfl, hb4⟩
    have HB4 := Lib.hid (HB3.out.trans (hb4.mono HB3.out.size))
    have HE4 := Lib.hid (HE3.out.below hb4)
    have HF4 := Lib.hid (HF3.out.below hb4)
    clear hb4
    clear fa1 fb1 fc1 fz1 fa2 fb2 fc2 fz2
    obtain ⟨fa1, fb1, fc1, _, _, _, fz1⟩ := HE4.out
    obtain ⟨fa2, fb2, fc2, _, _, _, fz2⟩ := HF4.out
    go_wp2_with fail
    go_ret
    exact ⟨rfl, HB4.out⟩
  obtain ⟨hg, ha, hcl, hm⟩ := trB_iff.mp ht
  obtain ⟨p, hp⟩ : ∃ p, g + mv g u f t i false = p := ⟨_, rfl⟩
  obtain ⟨q, hq⟩ : ∃ q, u + mv g u f t i false = q := ⟨_, rfl⟩
  obtain ⟨y, hy⟩ : ∃ y, ap s f t i = y := ⟨_, rfl⟩
  obtain ⟨x, hx⟩ : ∃ x, ap y p q j = x := ⟨_, rfl⟩
  rw [hy, hp, hq] at hm
  have HT := Lib.hid ht
  have HP := Lib.hid hp
  have HQ := Lib.hid hq
  have HA := Lib.hid ha
  have HG := Lib.hid hg
  have HM := Lib.hid hm
  have HY := Lib.hid hy
  have HX := Lib.hid hx
  have HX0 : Hid (ap (ap s f t i) p q j = x) := Lib.hid (by rw [hy]; exact hx)
  obtain ⟨hv1, hv2, h0, h1, h2, h3⟩ := fitsB_iff.mp ha
  obtain ⟨_, hv4, k0, k1, k2, k3⟩ := fitsB_iff.mp hg
  obtain ⟨_, _, m0, m1, m2, m3⟩ := fitsB_iff.mp hm
  have hzs := tv_size hv1
  have hzy := ap_sz (i := i) h0 h1 h2
  have hzx := ap_sz (i := j) m0 m1 m2
  have hvx := tv_ap' hm
  rw [hy] at hzy
  rw [hx] at hzx hvx
  have hxz := tv_size hvx
  have HVX := Lib.hid hvx
  have HXL : Hid (x.size ≤ maxLen) := Lib.hid (by unfold maxLen; omega)
  have hcv := converge true hg ha hcl
  have HCL := Lib.hid hcl
  have hcv0 : ¬ (f = g ∧ t = u) → ap (ap s g u j) (f + mv f t g u j false) (t + mv f t g u j false) i = x := by
    intro hne
    have h := converge false hg ha hcl
    rw [hy, hp, hq, hx] at h
    rw [mv_first false (!false) hne]
    exact h.symm
  have HCV := Lib.hid hcv0
  have s1 : IntKind.i64.wrap (t - f) = t - f := IntWalk.i64_in _ (by omega)
  have s2 : IntKind.i64.wrap ((s.size : Int) - (t - f)) = (s.size : Int) - (t - f) := IntWalk.i64_in _ (by omega)
  have s3 : IntKind.i64.wrap ((s.size : Int) - (t - f) + (i.size : Int)) = (s.size : Int) - (t - f) + (i.size : Int) := IntWalk.i64_in _ (by omega)
  have s4 : IntKind.i64.wrap (u - g) = u - g := IntWalk.i64_in _ (by omega)
  have s5 : IntKind.i64.wrap ((s.size : Int) - (t - f) + (i.size : Int) - (u - g)) = (s.size : Int) - (t - f) + (i.size : Int) - (u - g) := IntWalk.i64_in _ (by omega)
  have s6 : IntKind.i64.wrap ((s.size : Int) - (t - f) + (i.size : Int) - (u - g) + (j.size : Int)) = (s.size : Int) - (t - f) + (i.size : Int) - (u - g) + (j.size : Int) := IntWalk.i64_in _ (by omega)
  have q1 : ((x.size : Int) == (s.size : Int) - (t - f) + (i.size : Int) - (u - g) + (j.size : Int)) = true := by simp; omega
  clear ht ha hg hcl hm hp hq hx hy hv1 hv2 hv4 hvx hcv hcv0 hzy hzx hzs m0 m1 m2 m3
  rcases ht2 : trB s f t i g u j false with _ | _
  · have HT2 := Lib.hid ht2
    clear ht2
    by_cases hs1 : f = g
    case pos =>
      by_cases hs2 : t = u
      case pos =>
        have e1 : (f == g) = true := by simpa using hs1
        have e2 : (t == u) = true := by simpa using hs2
        clear hs1 hs2
        have HB1 := Lib.hid (HB0.out.alloc HB0.out.size (.cells #[.int .i64 f, .int .i64 t, .string i] 24))
        have HE1 := Lib.hid (edAt_new w0 f t i 24)
        have HB2 := Lib.hid (HB1.out.alloc HB1.out.size (.cells #[.int .i64 g, .int .i64 u, .string j] 24))
        have HE2 := Lib.hid (HE1.out.below ((Below.refl _ _).alloc (Nat.le_refl _) (.cells #[.int .i64 g, .int .i64 u, .string j] 24)))
        have HF2 := Lib.hid (by have h := edAt_new (w0.alloc (.cells #[.int .i64 f, .int .i64 t, .string i] 24)) g u j 24; rw [size_alloc1] at h; exact h)
        obtain ⟨fa1, fb1, fc1, _, _, _, fz1⟩ := HE2.out
        obtain ⟨fa2, fb2, fc2, _, _, _, fz2⟩ := HF2.out
        go_wp2_with fail
        go_at_call 26
        refine (mergeEdits_impl_yes s f t i g u j p q x HT.out HP.out HQ.out HX0.out _).mono ?_
        rintro e w3 ⟨rfl, hb3⟩
        have HB3 := Lib.hid (HB2.out.trans (hb3.mono HB2.out.size))
        have HE3 := Lib.hid (HE2.out.below hb3)
        have HF3 := Lib.hid (HF2.out.below hb3)
        clear hb3
        clear fa1 fb1 fc1 fz1 fa2 fb2 fc2 fz2
        obtain ⟨fa1, fb1, fc1, _, _, _, fz1⟩ := HE3.out
        obtain ⟨fa2, fb2, fc2, _, _, _, fz2⟩ := HF3.out
        go_wp2_with fail
        go_at_call 27
        refine (mergeEdits_spec_yes s f t i g u j p q x HT.out HP.out HQ.out HX0.out _).mono ?_
        rintro e w4 ⟨rfl, hb4⟩
        have HB4 := Lib.hid (HB3.out.trans (hb4.mono HB3.out.size))
        have HE4 := Lib.hid (HE3.out.below hb4)
        have HF4 := Lib.hid (HF3.out.below hb4)
        clear hb4
        clear fa1 fb1 fc1 fz1 fa2 fb2 fc2 fz2
        obtain ⟨fa1, fb1, fc1, _, _, _, fz1⟩ := HE4.out
        obtain ⟨fa2, fb2, fc2, _, _, _, fz2⟩ := HF4.out
        go_wp2_with fail
        go_at_call 26
        refine (mergeEdits_impl_no s g u j f t i HT2.out HSL.out HJL.out HIL.out _).mono ?_
        rintro e w5 ⟨rfl, hb5⟩
        have HB5 := Lib.hid (HB4.out.trans (hb5.mono HB4.out.size))
        have HE5 := Lib.hid (HE4.out.below hb5)
        have HF5 := Lib.hid (HF4.out.below hb5)
        clear hb5
        clear fa1 fb1 fc1 fz1 fa2 fb2 fc2 fz2
        obtain ⟨fa1, fb1, fc1, _, _, _, fz1⟩ := HE5.out
        obtain ⟨fa2, fb2, fc2, _, _, _, fz2⟩ := HF5.out
        go_wp2_with fail
        go_at_call 28
        refine (textValid_at x true HVX.out HXL.out _).mono ?_
        rintro e w6 ⟨rfl, hb6⟩
        have HB6 := Lib.hid (HB5.out.trans (hb6.mono HB5.out.size))
        have HE6 := Lib.hid (HE5.out.below hb6)
        have HF6 := Lib.hid (HF5.out.below hb6)
        clear hb6
        clear fa1 fb1 fc1 fz1 fa2 fb2 fc2 fz2
        obtain ⟨fa1, fb1, fc1, _, _, _, fz1⟩ := HE6.out
        obtain ⟨fa2, fb2, fc2, _, _, _, fz2⟩ := HF6.out
        go_wp2_with fail
        go_ret
        exact ⟨rfl, HB6.out⟩
      case neg =>
        have e1 : (f == g) = true := by simpa using hs1
        have e2 : (t == u) = false := by simpa using hs2
        clear hs1 hs2
        have HB1 := Lib.hid (HB0.out.alloc HB0.out.size (.cells #[.int .i64 f, .int .i64 t, .string i] 24))
        have HE1 := Lib.hid (edAt_new w0 f t i 24)
        have HB2 := Lib.hid (HB1.out.alloc HB1.out.size (.cells #[.int .i64 g, .int .i64 u, .string j] 24))
        have HE2 := Lib.hid (HE1.out.below ((Below.refl _ _).alloc (Nat.le_refl _) (.cells #[.int .i64 g, .int .i64 u, .string j] 24)))
        have HF2 := Lib.hid (by have h := edAt_new (w0.alloc (.cells #[.int .i64 f, .int .i64 t, .string i] 24)) g u j 24; rw [size_alloc1] at h; exact h)
        obtain ⟨fa1, fb1, fc1, _, _, _, fz1⟩ := HE2.out
        obtain ⟨fa2, fb2, fc2, _, _, _, fz2⟩ := HF2.out
        go_wp2_with fail
        go_at_call 26
        refine (mergeEdits_impl_yes s f t i g u j p q x HT.out HP.out HQ.out HX0.out _).mono ?_
        rintro e w3 ⟨rfl, hb3⟩
        have HB3 := Lib.hid (HB2.out.trans (hb3.mono HB2.out.size))
        have HE3 := Lib.hid (HE2.out.below hb3)
        have HF3 := Lib.hid (HF2.out.below hb3)
        clear hb3
        clear fa1 fb1 fc1 fz1 fa2 fb2 fc2 fz2
        obtain ⟨fa1, fb1, fc1, _, _, _, fz1⟩ := HE3.out
        obtain ⟨fa2, fb2, fc2, _, _, _, fz2⟩ := HF3.out
        go_wp2_with fail
        go_at_call 27
        refine (mergeEdits_spec_yes s f t i g u j p q x HT.out HP.out HQ.out HX0.out _).mono ?_
        rintro e w4 ⟨rfl, hb4⟩
        have HB4 := Lib.hid (HB3.out.trans (hb4.mono HB3.out.size))
        have HE4 := Lib.hid (HE3.out.below hb4)
        have HF4 := Lib.hid (HF3.out.below hb4)
        clear hb4
        clear fa1 fb1 fc1 fz1 fa2 fb2 fc2 fz2
        obtain ⟨fa1, fb1, fc1, _, _, _, fz1⟩ := HE4.out
        obtain ⟨fa2, fb2, fc2, _, _, _, fz2⟩ := HF4.out
        go_wp2_with fail
        go_at_call 26
        refine (mergeEdits_impl_no s g u j f t i HT2.out HSL.out HJL.out HIL.out _).mono ?_
        rintro e w5 ⟨rfl, hb5⟩
        have HB5 := Lib.hid (HB4.out.trans (hb5.mono HB4.out.size))
        have HE5 := Lib.hid (HE4.out.below hb5)
        have HF5 := Lib.hid (HF4.out.below hb5)
        clear hb5
        clear fa1 fb1 fc1 fz1 fa2 fb2 fc2 fz2
        obtain ⟨fa1, fb1, fc1, _, _, _, fz1⟩ := HE5.out
        obtain ⟨fa2, fb2, fc2, _, _, _, fz2⟩ := HF5.out
        go_wp2_with fail
        go_at_call 28
        refine (textValid_at x true HVX.out HXL.out _).mono ?_
        rintro e w6 ⟨rfl, hb6⟩
        have HB6 := Lib.hid (HB5.out.trans (hb6.mono HB5.out.size))
        have HE6 := Lib.hid (HE5.out.below hb6)
        have HF6 := Lib.hid (HF5.out.below hb6)
        clear hb6
        clear fa1 fb1 fc1 fz1 fa2 fb2 fc2 fz2
        obtain ⟨fa1, fb1, fc1, _, _, _, fz1⟩ := HE6.out
        obtain ⟨fa2, fb2, fc2, _, _, _, fz2⟩ := HF6.out
        go_wp2_with fail
        go_ret
        exact ⟨rfl, HB6.out⟩
    case neg =>
      have e1 : (f == g) = false := by simpa using hs1
      clear hs1
      have HB1 := Lib.hid (HB0.out.alloc HB0.out.size (.cells #[.int .i64 f, .int .i64 t, .string i] 24))
      have HE1 := Lib.hid (edAt_new w0 f t i 24)
      have HB2 := Lib.hid (HB1.out.alloc HB1.out.size (.cells #[.int .i64 g, .int .i64 u, .string j] 24))
      have HE2 := Lib.hid (HE1.out.below ((Below.refl _ _).alloc (Nat.le_refl _) (.cells #[.int .i64 g, .int .i64 u, .string j] 24)))
      have HF2 := Lib.hid (by have h := edAt_new (w0.alloc (.cells #[.int .i64 f, .int .i64 t, .string i] 24)) g u j 24; rw [size_alloc1] at h; exact h)
      obtain ⟨fa1, fb1, fc1, _, _, _, fz1⟩ := HE2.out
      obtain ⟨fa2, fb2, fc2, _, _, _, fz2⟩ := HF2.out
      go_wp2_with fail
      go_at_call 26
      refine (mergeEdits_impl_yes s f t i g u j p q x HT.out HP.out HQ.out HX0.out _).mono ?_
      rintro e w3 ⟨rfl, hb3⟩
      have HB3 := Lib.hid (HB2.out.trans (hb3.mono HB2.out.size))
      have HE3 := Lib.hid (HE2.out.below hb3)
      have HF3 := Lib.hid (HF2.out.below hb3)
      clear hb3
      clear fa1 fb1 fc1 fz1 fa2 fb2 fc2 fz2
      obtain ⟨fa1, fb1, fc1, _, _, _, fz1⟩ := HE3.out
      obtain ⟨fa2, fb2, fc2, _, _, _, fz2⟩ := HF3.out
      go_wp2_with fail
      go_at_call 27
      refine (mergeEdits_spec_yes s f t i g u j p q x HT.out HP.out HQ.out HX0.out _).mono ?_
      rintro e w4 ⟨rfl, hb4⟩
      have HB4 := Lib.hid (HB3.out.trans (hb4.mono HB3.out.size))
      have HE4 := Lib.hid (HE3.out.below hb4)
      have HF4 := Lib.hid (HF3.out.below hb4)
      clear hb4
      clear fa1 fb1 fc1 fz1 fa2 fb2 fc2 fz2
      obtain ⟨fa1, fb1, fc1, _, _, _, fz1⟩ := HE4.out
      obtain ⟨fa2, fb2, fc2, _, _, _, fz2⟩ := HF4.out
      go_wp2_with fail
      go_at_call 26
      refine (mergeEdits_impl_no s g u j f t i HT2.out HSL.out HJL.out HIL.out _).mono ?_
      rintro e w5 ⟨rfl, hb5⟩
      have HB5 := Lib.hid (HB4.out.trans (hb5.mono HB4.out.size))
      have HE5 := Lib.hid (HE4.out.below hb5)
      have HF5 := Lib.hid (HF4.out.below hb5)
      clear hb5
      clear fa1 fb1 fc1 fz1 fa2 fb2 fc2 fz2
      obtain ⟨fa1, fb1, fc1, _, _, _, fz1⟩ := HE5.out
      obtain ⟨fa2, fb2, fc2, _, _, _, fz2⟩ := HF5.out
      go_wp2_with fail
      go_at_call 28
      refine (textValid_at x true HVX.out HXL.out _).mono ?_
      rintro e w6 ⟨rfl, hb6⟩
      have HB6 := Lib.hid (HB5.out.trans (hb6.mono HB5.out.size))
      have HE6 := Lib.hid (HE5.out.below hb6)
      have HF6 := Lib.hid (HF5.out.below hb6)
      clear hb6
      clear fa1 fb1 fc1 fz1 fa2 fb2 fc2 fz2
      obtain ⟨fa1, fb1, fc1, _, _, _, fz1⟩ := HE6.out
      obtain ⟨fa2, fb2, fc2, _, _, _, fz2⟩ := HF6.out
      go_wp2_with fail
      go_ret
      exact ⟨rfl, HB6.out⟩
  · obtain ⟨p2, hp2⟩ : ∃ p, f + mv f t g u j false = p := ⟨_, rfl⟩
    obtain ⟨q2, hq2⟩ : ∃ q, t + mv f t g u j false = q := ⟨_, rfl⟩
    have HT2 := Lib.hid ht2
    have HP2 := Lib.hid hp2
    have HQ2 := Lib.hid hq2
    clear ht2 hp2 hq2
    by_cases hs1 : f = g
    case pos =>
      by_cases hs2 : t = u
      case pos =>
        have e1 : (f == g) = true := by simpa using hs1
        have e2 : (t == u) = true := by simpa using hs2
        obtain ⟨x2, hx2⟩ : ∃ x2, ap (ap s g u j) p2 q2 i = x2 := ⟨_, rfl⟩
        have HX2 := Lib.hid hx2
        clear hx2
        clear hs1 hs2
        have HB1 := Lib.hid (HB0.out.alloc HB0.out.size (.cells #[.int .i64 f, .int .i64 t, .string i] 24))
        have HE1 := Lib.hid (edAt_new w0 f t i 24)
        have HB2 := Lib.hid (HB1.out.alloc HB1.out.size (.cells #[.int .i64 g, .int .i64 u, .string j] 24))
        have HE2 := Lib.hid (HE1.out.below ((Below.refl _ _).alloc (Nat.le_refl _) (.cells #[.int .i64 g, .int .i64 u, .string j] 24)))
        have HF2 := Lib.hid (by have h := edAt_new (w0.alloc (.cells #[.int .i64 f, .int .i64 t, .string i] 24)) g u j 24; rw [size_alloc1] at h; exact h)
        obtain ⟨fa1, fb1, fc1, _, _, _, fz1⟩ := HE2.out
        obtain ⟨fa2, fb2, fc2, _, _, _, fz2⟩ := HF2.out
        go_wp2_with fail
        go_at_call 26
        refine (mergeEdits_impl_yes s f t i g u j p q x HT.out HP.out HQ.out HX0.out _).mono ?_
        rintro e w3 ⟨rfl, hb3⟩
        have HB3 := Lib.hid (HB2.out.trans (hb3.mono HB2.out.size))
        have HE3 := Lib.hid (HE2.out.below hb3)
        have HF3 := Lib.hid (HF2.out.below hb3)
        clear hb3
        clear fa1 fb1 fc1 fz1 fa2 fb2 fc2 fz2
        obtain ⟨fa1, fb1, fc1, _, _, _, fz1⟩ := HE3.out
        obtain ⟨fa2, fb2, fc2, _, _, _, fz2⟩ := HF3.out
        go_wp2_with fail
        go_at_call 27
        refine (mergeEdits_spec_yes s f t i g u j p q x HT.out HP.out HQ.out HX0.out _).mono ?_
        rintro e w4 ⟨rfl, hb4⟩
        have HB4 := Lib.hid (HB3.out.trans (hb4.mono HB3.out.size))
        have HE4 := Lib.hid (HE3.out.below hb4)
        have HF4 := Lib.hid (HF3.out.below hb4)
        clear hb4
        clear fa1 fb1 fc1 fz1 fa2 fb2 fc2 fz2
        obtain ⟨fa1, fb1, fc1, _, _, _, fz1⟩ := HE4.out
        obtain ⟨fa2, fb2, fc2, _, _, _, fz2⟩ := HF4.out
        go_wp2_with fail
        go_at_call 26
        refine (mergeEdits_impl_yes s g u j f t i p2 q2 x2 HT2.out HP2.out HQ2.out HX2.out _).mono ?_
        rintro e w5 ⟨rfl, hb5⟩
        have HB5 := Lib.hid (HB4.out.trans (hb5.mono HB4.out.size))
        have HE5 := Lib.hid (HE4.out.below hb5)
        have HF5 := Lib.hid (HF4.out.below hb5)
        clear hb5
        clear fa1 fb1 fc1 fz1 fa2 fb2 fc2 fz2
        obtain ⟨fa1, fb1, fc1, _, _, _, fz1⟩ := HE5.out
        obtain ⟨fa2, fb2, fc2, _, _, _, fz2⟩ := HF5.out
        go_wp2_with fail
        go_at_call 28
        refine (textValid_at x true HVX.out HXL.out _).mono ?_
        rintro e w6 ⟨rfl, hb6⟩
        have HB6 := Lib.hid (HB5.out.trans (hb6.mono HB5.out.size))
        have HE6 := Lib.hid (HE5.out.below hb6)
        have HF6 := Lib.hid (HF5.out.below hb6)
        clear hb6
        clear fa1 fb1 fc1 fz1 fa2 fb2 fc2 fz2
        obtain ⟨fa1, fb1, fc1, _, _, _, fz1⟩ := HE6.out
        obtain ⟨fa2, fb2, fc2, _, _, _, fz2⟩ := HF6.out
        go_wp2_with fail
        go_ret
        exact ⟨rfl, HB6.out⟩
      case neg =>
        have e1 : (f == g) = true := by simpa using hs1
        have e2 : (t == u) = false := by simpa using hs2
        have HX2 : Hid (ap (ap s g u j) p2 q2 i = x) := Lib.hid (by rw [← HP2.out, ← HQ2.out]; exact HCV.out (fun h => hs2 h.2))
        clear hs1 hs2
        have HB1 := Lib.hid (HB0.out.alloc HB0.out.size (.cells #[.int .i64 f, .int .i64 t, .string i] 24))
        have HE1 := Lib.hid (edAt_new w0 f t i 24)
        have HB2 := Lib.hid (HB1.out.alloc HB1.out.size (.cells #[.int .i64 g, .int .i64 u, .string j] 24))
        have HE2 := Lib.hid (HE1.out.below ((Below.refl _ _).alloc (Nat.le_refl _) (.cells #[.int .i64 g, .int .i64 u, .string j] 24)))
        have HF2 := Lib.hid (by have h := edAt_new (w0.alloc (.cells #[.int .i64 f, .int .i64 t, .string i] 24)) g u j 24; rw [size_alloc1] at h; exact h)
        obtain ⟨fa1, fb1, fc1, _, _, _, fz1⟩ := HE2.out
        obtain ⟨fa2, fb2, fc2, _, _, _, fz2⟩ := HF2.out
        go_wp2_with fail
        go_at_call 26
        refine (mergeEdits_impl_yes s f t i g u j p q x HT.out HP.out HQ.out HX0.out _).mono ?_
        rintro e w3 ⟨rfl, hb3⟩
        have HB3 := Lib.hid (HB2.out.trans (hb3.mono HB2.out.size))
        have HE3 := Lib.hid (HE2.out.below hb3)
        have HF3 := Lib.hid (HF2.out.below hb3)
        clear hb3
        clear fa1 fb1 fc1 fz1 fa2 fb2 fc2 fz2
        obtain ⟨fa1, fb1, fc1, _, _, _, fz1⟩ := HE3.out
        obtain ⟨fa2, fb2, fc2, _, _, _, fz2⟩ := HF3.out
        go_wp2_with fail
        go_at_call 27
        refine (mergeEdits_spec_yes s f t i g u j p q x HT.out HP.out HQ.out HX0.out _).mono ?_
        rintro e w4 ⟨rfl, hb4⟩
        have HB4 := Lib.hid (HB3.out.trans (hb4.mono HB3.out.size))
        have HE4 := Lib.hid (HE3.out.below hb4)
        have HF4 := Lib.hid (HF3.out.below hb4)
        clear hb4
        clear fa1 fb1 fc1 fz1 fa2 fb2 fc2 fz2
        obtain ⟨fa1, fb1, fc1, _, _, _, fz1⟩ := HE4.out
        obtain ⟨fa2, fb2, fc2, _, _, _, fz2⟩ := HF4.out
        go_wp2_with fail
        go_at_call 26
        refine (mergeEdits_impl_yes s g u j f t i p2 q2 x HT2.out HP2.out HQ2.out HX2.out _).mono ?_
        rintro e w5 ⟨rfl, hb5⟩
        have HB5 := Lib.hid (HB4.out.trans (hb5.mono HB4.out.size))
        have HE5 := Lib.hid (HE4.out.below hb5)
        have HF5 := Lib.hid (HF4.out.below hb5)
        clear hb5
        clear fa1 fb1 fc1 fz1 fa2 fb2 fc2 fz2
        obtain ⟨fa1, fb1, fc1, _, _, _, fz1⟩ := HE5.out
        obtain ⟨fa2, fb2, fc2, _, _, _, fz2⟩ := HF5.out
        go_wp2_with fail
        go_at_call 28
        refine (textValid_at x true HVX.out HXL.out _).mono ?_
        rintro e w6 ⟨rfl, hb6⟩
        have HB6 := Lib.hid (HB5.out.trans (hb6.mono HB5.out.size))
        have HE6 := Lib.hid (HE5.out.below hb6)
        have HF6 := Lib.hid (HF5.out.below hb6)
        clear hb6
        clear fa1 fb1 fc1 fz1 fa2 fb2 fc2 fz2
        obtain ⟨fa1, fb1, fc1, _, _, _, fz1⟩ := HE6.out
        obtain ⟨fa2, fb2, fc2, _, _, _, fz2⟩ := HF6.out
        go_wp2_with fail
        go_ret
        exact ⟨rfl, HB6.out⟩
    case neg =>
      have e1 : (f == g) = false := by simpa using hs1
      have HX2 : Hid (ap (ap s g u j) p2 q2 i = x) := Lib.hid (by rw [← HP2.out, ← HQ2.out]; exact HCV.out (fun h => hs1 h.1))
      clear hs1
      have HB1 := Lib.hid (HB0.out.alloc HB0.out.size (.cells #[.int .i64 f, .int .i64 t, .string i] 24))
      have HE1 := Lib.hid (edAt_new w0 f t i 24)
      have HB2 := Lib.hid (HB1.out.alloc HB1.out.size (.cells #[.int .i64 g, .int .i64 u, .string j] 24))
      have HE2 := Lib.hid (HE1.out.below ((Below.refl _ _).alloc (Nat.le_refl _) (.cells #[.int .i64 g, .int .i64 u, .string j] 24)))
      have HF2 := Lib.hid (by have h := edAt_new (w0.alloc (.cells #[.int .i64 f, .int .i64 t, .string i] 24)) g u j 24; rw [size_alloc1] at h; exact h)
      obtain ⟨fa1, fb1, fc1, _, _, _, fz1⟩ := HE2.out
      obtain ⟨fa2, fb2, fc2, _, _, _, fz2⟩ := HF2.out
      go_wp2_with fail
      go_at_call 26
      refine (mergeEdits_impl_yes s f t i g u j p q x HT.out HP.out HQ.out HX0.out _).mono ?_
      rintro e w3 ⟨rfl, hb3⟩
      have HB3 := Lib.hid (HB2.out.trans (hb3.mono HB2.out.size))
      have HE3 := Lib.hid (HE2.out.below hb3)
      have HF3 := Lib.hid (HF2.out.below hb3)
      clear hb3
      clear fa1 fb1 fc1 fz1 fa2 fb2 fc2 fz2
      obtain ⟨fa1, fb1, fc1, _, _, _, fz1⟩ := HE3.out
      obtain ⟨fa2, fb2, fc2, _, _, _, fz2⟩ := HF3.out
      go_wp2_with fail
      go_at_call 27
      refine (mergeEdits_spec_yes s f t i g u j p q x HT.out HP.out HQ.out HX0.out _).mono ?_
      rintro e w4 ⟨rfl, hb4⟩
      have HB4 := Lib.hid (HB3.out.trans (hb4.mono HB3.out.size))
      have HE4 := Lib.hid (HE3.out.below hb4)
      have HF4 := Lib.hid (HF3.out.below hb4)
      clear hb4
      clear fa1 fb1 fc1 fz1 fa2 fb2 fc2 fz2
      obtain ⟨fa1, fb1, fc1, _, _, _, fz1⟩ := HE4.out
      obtain ⟨fa2, fb2, fc2, _, _, _, fz2⟩ := HF4.out
      go_wp2_with fail
      go_at_call 26
      refine (mergeEdits_impl_yes s g u j f t i p2 q2 x HT2.out HP2.out HQ2.out HX2.out _).mono ?_
      rintro e w5 ⟨rfl, hb5⟩
      have HB5 := Lib.hid (HB4.out.trans (hb5.mono HB4.out.size))
      have HE5 := Lib.hid (HE4.out.below hb5)
      have HF5 := Lib.hid (HF4.out.below hb5)
      clear hb5
      clear fa1 fb1 fc1 fz1 fa2 fb2 fc2 fz2
      obtain ⟨fa1, fb1, fc1, _, _, _, fz1⟩ := HE5.out
      obtain ⟨fa2, fb2, fc2, _, _, _, fz2⟩ := HF5.out
      go_wp2_with fail
      go_at_call 28
      refine (textValid_at x true HVX.out HXL.out _).mono ?_
      rintro e w6 ⟨rfl, hb6⟩
      have HB6 := Lib.hid (HB5.out.trans (hb6.mono HB5.out.size))
      have HE6 := Lib.hid (HE5.out.below hb6)
      have HF6 := Lib.hid (HF5.out.below hb6)
      clear hb6
      clear fa1 fb1 fc1 fz1 fa2 fb2 fc2 fz2
      obtain ⟨fa1, fb1, fc1, _, _, _, fz1⟩ := HE6.out
      obtain ⟨fa2, fb2, fc2, _, _, _, fz2⟩ := HF6.out
      go_wp2_with fail
      go_ret
      exact ⟨rfl, HB6.out⟩

set_option maxRecDepth 100000 in
theorem lifted (os : Os) (started : os.Started) (H : Type) (enc : TypeId × Value → H) :
    ReturnsInHanded {} Try.checked os 5 .any (Rows.fnMergeEditsSpec.pre6 enc Try.prog Try.f5 Rows.fnMergeEditsRow.domain false) (Rows.fnMergeEditsSpec.post enc Try.prog Try.f5 false true false false) := by
  refine returnsInHanded_of_change (C := Try.checked) own started (by kernel_rfl) Try.func5
    (ChangeSpec.witness6 (enc := enc) (C := Try.checked) false ⟨#[], #[.slice none 0 0], []⟩ 8 (by kernel_rfl) (by kernel_rfl) (by kernel_rfl) (by kernel_rfl)) ?_
  intro W base args ds gs before hval0 hW hcnd _
  have hval : ∀ (j : Nat) t v, Try.f5.params[j]? = some t → args[j]? = some v → Value.okWide Try.prog W .any base t v := hval0
  have hW' := hW
  obtain ⟨p, q, hA0, hV, rfl, hfz, hnd⟩ := hW
  have hA : DataW.TrodAll enc Try.prog W 0 (fun _ => true) true Try.f5.params.toList args.toList ds p := hA0
  rw [Try.params5] at hA hval
  obtain ⟨v0, vs0, d0, ds0, p0, q0, hargs, rfl, rfl, h0, r0⟩ := trodAll_cons hA
  obtain ⟨rfl, rfl, rfl⟩ := trodAll_nil r0
  obtain rfl : args = #[v0] := by cases args; simp_all
  obtain ⟨rfl, rfl⟩ := trodVars_none hV
  have k0 := h0
  have lt0 : ∀ x ∈ p0, x.block < W.heap.size := by obtain ⟨m, hm⟩ := k0; exact DataW.trod_lt m _ _ _ hm
  obtain ⟨a0, len0, cap0, rfl⟩ := okWide_slice Try.underlying22 (hval 0 22 v0 rfl rfl)
  obtain ⟨z0, w0⟩ : ∃ zs, IsRow W a0 len0 cap0 zs := by
    obtain ⟨fuel, hf⟩ := h0
    rcases open_ints Try.underlying22 Try.underlying5 (by kernel_rfl) hf with ⟨hcs, _⟩ | ⟨x, l, c, zs, hcs, _, hl, hm, hz, _, hcell, hwz⟩
    · simp [Value.cells] at hcs
      obtain ⟨rfl, rfl, rfl⟩ := hcs
      exact ⟨[], .inl ⟨rfl, rfl, rfl, rfl⟩⟩
    · simp [Value.cells] at hcs
      obtain ⟨rfl, rfl, rfl⟩ := hcs
      exact ⟨zs, .inr ⟨_, rfl, hl, hm, by simpa using hz, hcell, hwz⟩⟩
  clear hA0 hval0
  refine (walk a0 len0 cap0 z0 W w0).mono fun e W' ⟨he, bel⟩ => ?_
  subst he
  exact ⟨_, rfl, _, _, _, [], _, [], hW', trodAll_mk1 (shut_bool Try.underlying4 _), (trodAll_cons_mk (Below.trod laidOut (by kernel_rfl) (of_decide_eq_true (by kernel_rfl)) k0 bel lt0) trodAll_mk0), rfl, bel.frame _, fun h => by cases h⟩

theorem over : Rows.fnMergeEditsRow.holds Try.pinned (OpenSpec.ofChange Rows.fnMergeEditsSpec) :=
  OpenClaim.holds_of_wide 5 Try.f5 rfl rfl rfl rfl rfl rfl rfl ⟨rfl, rfl, rfl, rfl, rfl⟩ rfl rfl rfl rfl rfl (by kernel_rfl) Try.func5 (by kernel_rfl)
    (of_decide_eq_true (by kernel_rfl)) (by unfold Func.isWrapper; first | (rw [if_pos (by decide +kernel)]; kernel_rfl) | (rw [if_neg (by decide +kernel)]; exact ⟨rfl, rfl⟩))
    (fun os started H enc _ => lifted os started H enc)

/-- The given statement. -/
theorem proved : Rows.FnMergeEditsSaid := over
end Go.Proofs.Ytdicfjgdceacpaa.fnMergeEdits
