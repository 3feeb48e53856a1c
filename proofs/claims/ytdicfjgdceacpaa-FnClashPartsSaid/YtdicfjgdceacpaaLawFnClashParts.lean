/-
  FnClashParts returns true for every slice of bytes, and it reads as it did: edits before and behind each other do not clash. No conditions.
-/
import Derived.Test.YtdicfjgdceacpaaRows
import Derived.ProofKit
import Derived.OpenShut
import Derived.ShutString
import Derived.ChangeOld
import Derived.Below
import Derived.Lib.SmallJoins
import Derived.Test.YtdicfjgdceacpaaIf
import Derived.Deep.RegionHeld3
import Derived.Deep.RegionWith
import Derived.Deep.DeepCutAuto
namespace Go.Proofs.Ytdicfjgdceacpaa.fnClashParts
open Go.Proofs.Ytdicfjgdceacpaa
open Go.ChangeShapes Go.WideShapes Go.ChangeAt Go.RowKit Go.Joins
open Go.ChangeMaps (open_string shut_string)
set_option linter.unusedVariables false
set_option linter.unusedSimpArgs false

theorem own : ownKnob Try.prog.godebug = none := by kernel_rfl
theorem laidOut : laidOutB Try.prog = true := by kernel_rfl

theorem applyEdit_impl_at (s : ByteArray) (f t : Int) (i y : ByteArray) (hb : fitsB s f t i = true) (hy : ap s f t i = y) (w : World) :
    Calls Try.prog 20 #[.string s, .agg #[.int .i64 f, .int .i64 t, .string i]] w fun e w' => e = .returned (.tuple #[.string y, .bool true]) ∧ Below w.heap.size w w' := by
  subst hy; exact applyEdit_impl_yes s f t i hb w
set_option maxHeartbeats 8000000 in
theorem walk (a : Option Addr) (len cap : Nat) (zs : List Int) (w : World) (hrow : IsRow w a len cap zs) :
    Calls Try.prog 11 #[.slice a len cap] w fun e w' => e = .returned (.bool true) ∧ Below w.heap.size w w' := by
  have HRow := Lib.hid hrow
  have hm := hrow.len
  unfold maxLen at hm
  clear hrow
  by_cases hl : len ≤ 1048576
  case neg =>
    go_enter Try.func11, Try.ntmps11
    go_wp2
    go_ret
    exact ⟨rfl, Below.refl _ _⟩
  go_enter Try.func11, Try.ntmps11
  go_wp2_with fail
  go_at_call 21
  refine (drawEditsClash_any a len cap zs _ HRow.out).mono ?_
  rintro e w0 ⟨s, f, t, i, g, u, j, hs, hi, hj, rfl, hb0⟩
  have HB0 := Lib.hid hb0
  have HSL : Hid (s.size ≤ maxLen) := Lib.hid (by unfold maxLen; omega)
  have HIL : Hid (i.size ≤ maxLen) := Lib.hid (by unfold maxLen; omega)
  have HJL : Hid (j.size ≤ maxLen) := Lib.hid (by unfold maxLen; omega)
  clear hb0
  rcases ha : fitsB s f t i with _ | _
  · have HA := Lib.hid ha
    have HC : Hid (ecB s f t i g u j = false) := Lib.hid (by unfold ecB; rw [ha]; rfl)
    clear ha
    have HB1 := Lib.hid (HB0.out.alloc HB0.out.size (.cells #[.int .i64 f, .int .i64 t, .string i] 24))
    have HE1 := Lib.hid (edAt_new w0 f t i 24)
    have HB2 := Lib.hid (HB1.out.alloc HB1.out.size (.cells #[.int .i64 g, .int .i64 u, .string j] 24))
    have HE2 := Lib.hid (HE1.out.below ((Below.refl _ _).alloc (Nat.le_refl _) (.cells #[.int .i64 g, .int .i64 u, .string j] 24)))
    have HF2 := Lib.hid (by have h := edAt_new (w0.alloc (.cells #[.int .i64 f, .int .i64 t, .string i] 24)) g u j 24; rw [size_alloc1] at h; exact h)
    obtain ⟨fa1, fb1, fc1, _, _, _, fz1⟩ := HE2.out
    obtain ⟨fa2, fb2, fc2, _, _, _, fz2⟩ := HF2.out
    go_wp2_with fail
    go_at_call 22
    refine (editsClash_impl s f t i g u j _ HC.out HSL.out HIL.out HJL.out _).mono ?_
    rintro e w3 ⟨rfl, hb3⟩
    have HB3 := Lib.hid (HB2.out.trans (hb3.mono HB2.out.size))
    have HE3 := Lib.hid (HE2.out.below hb3)
    have HF3 := Lib.hid (HF2.out.below hb3)
    clear hb3
    clear fa1 fb1 fc1 fz1 fa2 fb2 fc2 fz2
    obtain ⟨fa1, fb1, fc1, _, _, _, fz1⟩ := HE3.out
    obtain ⟨fa2, fb2, fc2, _, _, _, fz2⟩ := HF3.out
    go_wp2_with fail
    go_at_call 23
    refine (editsClash_spec s f t i g u j _ HC.out HSL.out HIL.out HJL.out _).mono ?_
    rintro e w4 ⟨rfl, hb4⟩
    have HB4 := Lib.hid (HB3.out.trans (hb4.mono HB3.out.size))
    have HE4 := Lib.hid (HE3.out.below hb4)
    have HF4 := Lib.hid (HF3.out.below hb4)
    clear hb4
    clear fa1 fb1 fc1 fz1 fa2 fb2 fc2 fz2
    obtain ⟨fa1, fb1, fc1, _, _, _, fz1⟩ := HE4.out
    obtain ⟨fa2, fb2, fc2, _, _, _, fz2⟩ := HF4.out
    go_wp2_with fail
    go_at_call 24
    refine (editValid_impl s f t i _ HA.out HSL.out HIL.out _).mono ?_
    rintro e w5 ⟨rfl, hb5⟩
    have HB5 := Lib.hid (HB4.out.trans (hb5.mono HB4.out.size))
    have HE5 := Lib.hid (HE4.out.below hb5)
    have HF5 := Lib.hid (HF4.out.below hb5)
    clear hb5
    clear fa1 fb1 fc1 fz1 fa2 fb2 fc2 fz2
    obtain ⟨fa1, fb1, fc1, _, _, _, fz1⟩ := HE5.out
    obtain ⟨fa2, fb2, fc2, _, _, _, fz2⟩ := HF5.out
    go_wp2_with fail
    go_at_call 23
    refine (editsClash_spec s f t i g u j _ HC.out HSL.out HIL.out HJL.out _).mono ?_
    rintro e w6 ⟨rfl, hb6⟩
    have HB6 := Lib.hid (HB5.out.trans (hb6.mono HB5.out.size))
    have HE6 := Lib.hid (HE5.out.below hb6)
    have HF6 := Lib.hid (HF5.out.below hb6)
    clear hb6
    clear fa1 fb1 fc1 fz1 fa2 fb2 fc2 fz2
    obtain ⟨fa1, fb1, fc1, _, _, _, fz1⟩ := HE6.out
    obtain ⟨fa2, fb2, fc2, _, _, _, fz2⟩ := HF6.out
    go_wp2_with fail
    go_ret
    exact ⟨rfl, HB6.out⟩
  rcases hg : fitsB s g u j with _ | _
  · have HA := Lib.hid ha
    have HG := Lib.hid hg
    have HC : Hid (ecB s f t i g u j = false) := Lib.hid (by unfold ecB; rw [ha, hg]; rfl)
    clear ha hg
    have HB1 := Lib.hid (HB0.out.alloc HB0.out.size (.cells #[.int .i64 f, .int .i64 t, .string i] 24))
    have HE1 := Lib.hid (edAt_new w0 f t i 24)
    have HB2 := Lib.hid (HB1.out.alloc HB1.out.size (.cells #[.int .i64 g, .int .i64 u, .string j] 24))
    have HE2 := Lib.hid (HE1.out.below ((Below.refl _ _).alloc (Nat.le_refl _) (.cells #[.int .i64 g, .int .i64 u, .string j] 24)))
    have HF2 := Lib.hid (by have h := edAt_new (w0.alloc (.cells #[.int .i64 f, .int .i64 t, .string i] 24)) g u j 24; rw [size_alloc1] at h; exact h)
    obtain ⟨fa1, fb1, fc1, _, _, _, fz1⟩ := HE2.out
    obtain ⟨fa2, fb2, fc2, _, _, _, fz2⟩ := HF2.out
    go_wp2_with fail
    go_at_call 22
    refine (editsClash_impl s f t i g u j _ HC.out HSL.out HIL.out HJL.out _).mono ?_
    rintro e w3 ⟨rfl, hb3⟩
    have HB3 := Lib.hid (HB2.out.trans (hb3.mono HB2.out.size))
    have HE3 := Lib.hid (HE2.out.below hb3)
    have HF3 := Lib.hid (HF2.out.below hb3)
    clear hb3
    clear fa1 fb1 fc1 fz1 fa2 fb2 fc2 fz2
    obtain ⟨fa1, fb1, fc1, _, _, _, fz1⟩ := HE3.out
    obtain ⟨fa2, fb2, fc2, _, _, _, fz2⟩ := HF3.out
    go_wp2_with fail
    go_at_call 23
    refine (editsClash_spec s f t i g u j _ HC.out HSL.out HIL.out HJL.out _).mono ?_
    rintro e w4 ⟨rfl, hb4⟩
    have HB4 := Lib.hid (HB3.out.trans (hb4.mono HB3.out.size))
    have HE4 := Lib.hid (HE3.out.below hb4)
    have HF4 := Lib.hid (HF3.out.below hb4)
    clear hb4
    clear fa1 fb1 fc1 fz1 fa2 fb2 fc2 fz2
    obtain ⟨fa1, fb1, fc1, _, _, _, fz1⟩ := HE4.out
    obtain ⟨fa2, fb2, fc2, _, _, _, fz2⟩ := HF4.out
    go_wp2_with fail
    go_at_call 24
    refine (editValid_impl s f t i _ HA.out HSL.out HIL.out _).mono ?_
    rintro e w5 ⟨rfl, hb5⟩
    have HB5 := Lib.hid (HB4.out.trans (hb5.mono HB4.out.size))
    have HE5 := Lib.hid (HE4.out.below hb5)
    have HF5 := Lib.hid (HF4.out.below hb5)
    clear hb5
    clear fa1 fb1 fc1 fz1 fa2 fb2 fc2 fz2
    obtain ⟨fa1, fb1, fc1, _, _, _, fz1⟩ := HE5.out
    obtain ⟨fa2, fb2, fc2, _, _, _, fz2⟩ := HF5.out
    go_wp2_with fail
    go_at_call 24
    refine (editValid_impl s g u j _ HG.out HSL.out HJL.out _).mono ?_
    rintro e w6 ⟨rfl, hb6⟩
    have HB6 := Lib.hid (HB5.out.trans (hb6.mono HB5.out.size))
    have HE6 := Lib.hid (HE5.out.below hb6)
    have HF6 := Lib.hid (HF5.out.below hb6)
    clear hb6
    clear fa1 fb1 fc1 fz1 fa2 fb2 fc2 fz2
    obtain ⟨fa1, fb1, fc1, _, _, _, fz1⟩ := HE6.out
    obtain ⟨fa2, fb2, fc2, _, _, _, fz2⟩ := HF6.out
    go_wp2_with fail
    go_at_call 23
    refine (editsClash_spec s f t i g u j _ HC.out HSL.out HIL.out HJL.out _).mono ?_
    rintro e w7 ⟨rfl, hb7⟩
    have HB7 := Lib.hid (HB6.out.trans (hb7.mono HB6.out.size))
    have HE7 := Lib.hid (HE6.out.below hb7)
    have HF7 := Lib.hid (HF6.out.below hb7)
    clear hb7
    clear fa1 fb1 fc1 fz1 fa2 fb2 fc2 fz2
    obtain ⟨fa1, fb1, fc1, _, _, _, fz1⟩ := HE7.out
    obtain ⟨fa2, fb2, fc2, _, _, _, fz2⟩ := HF7.out
    go_wp2_with fail
    go_ret
    exact ⟨rfl, HB7.out⟩
  have HA := Lib.hid ha
  have HG := Lib.hid hg
  rcases hc : clB f t g u with _ | _
  · have HC : Hid (ecB s f t i g u j = false) := Lib.hid (by unfold ecB; rw [ha, hg, hc]; rfl)
    clear ha hg hc
    by_cases d1 : t ≤ g
    case pos =>
      have HB1 := Lib.hid (HB0.out.alloc HB0.out.size (.cells #[.int .i64 f, .int .i64 t, .string i] 24))
      have HE1 := Lib.hid (edAt_new w0 f t i 24)
      have HB2 := Lib.hid (HB1.out.alloc HB1.out.size (.cells #[.int .i64 g, .int .i64 u, .string j] 24))
      have HE2 := Lib.hid (HE1.out.below ((Below.refl _ _).alloc (Nat.le_refl _) (.cells #[.int .i64 g, .int .i64 u, .string j] 24)))
      have HF2 := Lib.hid (by have h := edAt_new (w0.alloc (.cells #[.int .i64 f, .int .i64 t, .string i] 24)) g u j 24; rw [size_alloc1] at h; exact h)
      obtain ⟨fa1, fb1, fc1, _, _, _, fz1⟩ := HE2.out
      obtain ⟨fa2, fb2, fc2, _, _, _, fz2⟩ := HF2.out
      go_wp2_with fail
      go_at_call 22
      refine (editsClash_impl s f t i g u j _ HC.out HSL.out HIL.out HJL.out _).mono ?_
      rintro e w3 ⟨rfl, hb3⟩
      have HB3 := Lib.hid (HB2.out.trans (hb3.mono HB2.out.size))
      have HE3 := Lib.hid (HE2.out.below hb3)
      have HF3 := Lib.hid (HF2.out.below hb3)
      clear hb3
      clear fa1 fb1 fc1 fz1 fa2 fb2 fc2 fz2
      obtain ⟨fa1, fb1, fc1, _, _, _, fz1⟩ := HE3.out
      obtain ⟨fa2, fb2, fc2, _, _, _, fz2⟩ := HF3.out
      go_wp2_with fail
      go_at_call 23
      refine (editsClash_spec s f t i g u j _ HC.out HSL.out HIL.out HJL.out _).mono ?_
      rintro e w4 ⟨rfl, hb4⟩
      have HB4 := Lib.hid (HB3.out.trans (hb4.mono HB3.out.size))
      have HE4 := Lib.hid (HE3.out.below hb4)
      have HF4 := Lib.hid (HF3.out.below hb4)
      clear hb4
      clear fa1 fb1 fc1 fz1 fa2 fb2 fc2 fz2
      obtain ⟨fa1, fb1, fc1, _, _, _, fz1⟩ := HE4.out
      obtain ⟨fa2, fb2, fc2, _, _, _, fz2⟩ := HF4.out
      go_wp2_with fail
      go_at_call 24
      refine (editValid_impl s f t i _ HA.out HSL.out HIL.out _).mono ?_
      rintro e w5 ⟨rfl, hb5⟩
      have HB5 := Lib.hid (HB4.out.trans (hb5.mono HB4.out.size))
      have HE5 := Lib.hid (HE4.out.below hb5)
      have HF5 := Lib.hid (HF4.out.below hb5)
      clear hb5
      clear fa1 fb1 fc1 fz1 fa2 fb2 fc2 fz2
      obtain ⟨fa1, fb1, fc1, _, _, _, fz1⟩ := HE5.out
      obtain ⟨fa2, fb2, fc2, _, _, _, fz2⟩ := HF5.out
      go_wp2_with fail
      go_at_call 24
      refine (editValid_impl s g u j _ HG.out HSL.out HJL.out _).mono ?_
      rintro e w6 ⟨rfl, hb6⟩
      have HB6 := Lib.hid (HB5.out.trans (hb6.mono HB5.out.size))
      have HE6 := Lib.hid (HE5.out.below hb6)
      have HF6 := Lib.hid (HF5.out.below hb6)
      clear hb6
      clear fa1 fb1 fc1 fz1 fa2 fb2 fc2 fz2
      obtain ⟨fa1, fb1, fc1, _, _, _, fz1⟩ := HE6.out
      obtain ⟨fa2, fb2, fc2, _, _, _, fz2⟩ := HF6.out
      go_wp2_with fail
      go_ret
      exact ⟨rfl, HB6.out⟩
    case neg =>
      by_cases d2 : u ≤ f
      case pos =>
        have HB1 := Lib.hid (HB0.out.alloc HB0.out.size (.cells #[.int .i64 f, .int .i64 t, .string i] 24))
        have HE1 := Lib.hid (edAt_new w0 f t i 24)
        have HB2 := Lib.hid (HB1.out.alloc HB1.out.size (.cells #[.int .i64 g, .int .i64 u, .string j] 24))
        have HE2 := Lib.hid (HE1.out.below ((Below.refl _ _).alloc (Nat.le_refl _) (.cells #[.int .i64 g, .int .i64 u, .string j] 24)))
        have HF2 := Lib.hid (by have h := edAt_new (w0.alloc (.cells #[.int .i64 f, .int .i64 t, .string i] 24)) g u j 24; rw [size_alloc1] at h; exact h)
        obtain ⟨fa1, fb1, fc1, _, _, _, fz1⟩ := HE2.out
        obtain ⟨fa2, fb2, fc2, _, _, _, fz2⟩ := HF2.out
        go_wp2_with fail
        go_at_call 22
        refine (editsClash_impl s f t i g u j _ HC.out HSL.out HIL.out HJL.out _).mono ?_
        rintro e w3 ⟨rfl, hb3⟩
        have HB3 := Lib.hid (HB2.out.trans (hb3.mono HB2.out.size))
        have HE3 := Lib.hid (HE2.out.below hb3)
        have HF3 := Lib.hid (HF2.out.below hb3)
        clear hb3
        clear fa1 fb1 fc1 fz1 fa2 fb2 fc2 fz2
        obtain ⟨fa1, fb1, fc1, _, _, _, fz1⟩ := HE3.out
        obtain ⟨fa2, fb2, fc2, _, _, _, fz2⟩ := HF3.out
        go_wp2_with fail
        go_at_call 23
        refine (editsClash_spec s f t i g u j _ HC.out HSL.out HIL.out HJL.out _).mono ?_
        rintro e w4 ⟨rfl, hb4⟩
        have HB4 := Lib.hid (HB3.out.trans (hb4.mono HB3.out.size))
        have HE4 := Lib.hid (HE3.out.below hb4)
        have HF4 := Lib.hid (HF3.out.below hb4)
        clear hb4
        clear fa1 fb1 fc1 fz1 fa2 fb2 fc2 fz2
        obtain ⟨fa1, fb1, fc1, _, _, _, fz1⟩ := HE4.out
        obtain ⟨fa2, fb2, fc2, _, _, _, fz2⟩ := HF4.out
        go_wp2_with fail
        go_at_call 24
        refine (editValid_impl s f t i _ HA.out HSL.out HIL.out _).mono ?_
        rintro e w5 ⟨rfl, hb5⟩
        have HB5 := Lib.hid (HB4.out.trans (hb5.mono HB4.out.size))
        have HE5 := Lib.hid (HE4.out.below hb5)
        have HF5 := Lib.hid (HF4.out.below hb5)
        clear hb5
        clear fa1 fb1 fc1 fz1 fa2 fb2 fc2 fz2
        obtain ⟨fa1, fb1, fc1, _, _, _, fz1⟩ := HE5.out
        obtain ⟨fa2, fb2, fc2, _, _, _, fz2⟩ := HF5.out
        go_wp2_with fail
        go_at_call 24
        refine (editValid_impl s g u j _ HG.out HSL.out HJL.out _).mono ?_
        rintro e w6 ⟨rfl, hb6⟩
        have HB6 := Lib.hid (HB5.out.trans (hb6.mono HB5.out.size))
        have HE6 := Lib.hid (HE5.out.below hb6)
        have HF6 := Lib.hid (HF5.out.below hb6)
        clear hb6
        clear fa1 fb1 fc1 fz1 fa2 fb2 fc2 fz2
        obtain ⟨fa1, fb1, fc1, _, _, _, fz1⟩ := HE6.out
        obtain ⟨fa2, fb2, fc2, _, _, _, fz2⟩ := HF6.out
        go_wp2_with fail
        go_ret
        exact ⟨rfl, HB6.out⟩
      case neg =>
        have HB1 := Lib.hid (HB0.out.alloc HB0.out.size (.cells #[.int .i64 f, .int .i64 t, .string i] 24))
        have HE1 := Lib.hid (edAt_new w0 f t i 24)
        have HB2 := Lib.hid (HB1.out.alloc HB1.out.size (.cells #[.int .i64 g, .int .i64 u, .string j] 24))
        have HE2 := Lib.hid (HE1.out.below ((Below.refl _ _).alloc (Nat.le_refl _) (.cells #[.int .i64 g, .int .i64 u, .string j] 24)))
        have HF2 := Lib.hid (by have h := edAt_new (w0.alloc (.cells #[.int .i64 f, .int .i64 t, .string i] 24)) g u j 24; rw [size_alloc1] at h; exact h)
        obtain ⟨fa1, fb1, fc1, _, _, _, fz1⟩ := HE2.out
        obtain ⟨fa2, fb2, fc2, _, _, _, fz2⟩ := HF2.out
        go_wp2_with fail
        go_at_call 22
        refine (editsClash_impl s f t i g u j _ HC.out HSL.out HIL.out HJL.out _).mono ?_
        rintro e w3 ⟨rfl, hb3⟩
        have HB3 := Lib.hid (HB2.out.trans (hb3.mono HB2.out.size))
        have HE3 := Lib.hid (HE2.out.below hb3)
        have HF3 := Lib.hid (HF2.out.below hb3)
        clear hb3
        clear fa1 fb1 fc1 fz1 fa2 fb2 fc2 fz2
        obtain ⟨fa1, fb1, fc1, _, _, _, fz1⟩ := HE3.out
        obtain ⟨fa2, fb2, fc2, _, _, _, fz2⟩ := HF3.out
        go_wp2_with fail
        go_at_call 23
        refine (editsClash_spec s f t i g u j _ HC.out HSL.out HIL.out HJL.out _).mono ?_
        rintro e w4 ⟨rfl, hb4⟩
        have HB4 := Lib.hid (HB3.out.trans (hb4.mono HB3.out.size))
        have HE4 := Lib.hid (HE3.out.below hb4)
        have HF4 := Lib.hid (HF3.out.below hb4)
        clear hb4
        clear fa1 fb1 fc1 fz1 fa2 fb2 fc2 fz2
        obtain ⟨fa1, fb1, fc1, _, _, _, fz1⟩ := HE4.out
        obtain ⟨fa2, fb2, fc2, _, _, _, fz2⟩ := HF4.out
        go_wp2_with fail
        go_at_call 24
        refine (editValid_impl s f t i _ HA.out HSL.out HIL.out _).mono ?_
        rintro e w5 ⟨rfl, hb5⟩
        have HB5 := Lib.hid (HB4.out.trans (hb5.mono HB4.out.size))
        have HE5 := Lib.hid (HE4.out.below hb5)
        have HF5 := Lib.hid (HF4.out.below hb5)
        clear hb5
        clear fa1 fb1 fc1 fz1 fa2 fb2 fc2 fz2
        obtain ⟨fa1, fb1, fc1, _, _, _, fz1⟩ := HE5.out
        obtain ⟨fa2, fb2, fc2, _, _, _, fz2⟩ := HF5.out
        go_wp2_with fail
        go_at_call 24
        refine (editValid_impl s g u j _ HG.out HSL.out HJL.out _).mono ?_
        rintro e w6 ⟨rfl, hb6⟩
        have HB6 := Lib.hid (HB5.out.trans (hb6.mono HB5.out.size))
        have HE6 := Lib.hid (HE5.out.below hb6)
        have HF6 := Lib.hid (HF5.out.below hb6)
        clear hb6
        clear fa1 fb1 fc1 fz1 fa2 fb2 fc2 fz2
        obtain ⟨fa1, fb1, fc1, _, _, _, fz1⟩ := HE6.out
        obtain ⟨fa2, fb2, fc2, _, _, _, fz2⟩ := HF6.out
        go_wp2_with fail
        go_ret
        exact ⟨rfl, HB6.out⟩
  · have HC : Hid (ecB s f t i g u j = true) := Lib.hid (by unfold ecB; rw [ha, hg, hc]; rfl)
    have hcc := clB_iff.mp hc
    have d1 : ¬ t ≤ g := by omega
    have d2 : ¬ u ≤ f := by omega
    clear ha hg hc hcc
    have HB1 := Lib.hid (HB0.out.alloc HB0.out.size (.cells #[.int .i64 f, .int .i64 t, .string i] 24))
    have HE1 := Lib.hid (edAt_new w0 f t i 24)
    have HB2 := Lib.hid (HB1.out.alloc HB1.out.size (.cells #[.int .i64 g, .int .i64 u, .string j] 24))
    have HE2 := Lib.hid (HE1.out.below ((Below.refl _ _).alloc (Nat.le_refl _) (.cells #[.int .i64 g, .int .i64 u, .string j] 24)))
    have HF2 := Lib.hid (by have h := edAt_new (w0.alloc (.cells #[.int .i64 f, .int .i64 t, .string i] 24)) g u j 24; rw [size_alloc1] at h; exact h)
    obtain ⟨fa1, fb1, fc1, _, _, _, fz1⟩ := HE2.out
    obtain ⟨fa2, fb2, fc2, _, _, _, fz2⟩ := HF2.out
    go_wp2_with fail
    go_at_call 22
    refine (editsClash_impl s f t i g u j _ HC.out HSL.out HIL.out HJL.out _).mono ?_
    rintro e w3 ⟨rfl, hb3⟩
    have HB3 := Lib.hid (HB2.out.trans (hb3.mono HB2.out.size))
    have HE3 := Lib.hid (HE2.out.below hb3)
    have HF3 := Lib.hid (HF2.out.below hb3)
    clear hb3
    clear fa1 fb1 fc1 fz1 fa2 fb2 fc2 fz2
    obtain ⟨fa1, fb1, fc1, _, _, _, fz1⟩ := HE3.out
    obtain ⟨fa2, fb2, fc2, _, _, _, fz2⟩ := HF3.out
    go_wp2_with fail
    go_at_call 23
    refine (editsClash_spec s f t i g u j _ HC.out HSL.out HIL.out HJL.out _).mono ?_
    rintro e w4 ⟨rfl, hb4⟩
    have HB4 := Lib.hid (HB3.out.trans (hb4.mono HB3.out.size))
    have HE4 := Lib.hid (HE3.out.below hb4)
    have HF4 := Lib.hid (HF3.out.below hb4)
    clear hb4
    clear fa1 fb1 fc1 fz1 fa2 fb2 fc2 fz2
    obtain ⟨fa1, fb1, fc1, _, _, _, fz1⟩ := HE4.out
    obtain ⟨fa2, fb2, fc2, _, _, _, fz2⟩ := HF4.out
    go_wp2_with fail
    go_at_call 24
    refine (editValid_impl s f t i _ HA.out HSL.out HIL.out _).mono ?_
    rintro e w5 ⟨rfl, hb5⟩
    have HB5 := Lib.hid (HB4.out.trans (hb5.mono HB4.out.size))
    have HE5 := Lib.hid (HE4.out.below hb5)
    have HF5 := Lib.hid (HF4.out.below hb5)
    clear hb5
    clear fa1 fb1 fc1 fz1 fa2 fb2 fc2 fz2
    obtain ⟨fa1, fb1, fc1, _, _, _, fz1⟩ := HE5.out
    obtain ⟨fa2, fb2, fc2, _, _, _, fz2⟩ := HF5.out
    go_wp2_with fail
    go_at_call 24
    refine (editValid_impl s g u j _ HG.out HSL.out HJL.out _).mono ?_
    rintro e w6 ⟨rfl, hb6⟩
    have HB6 := Lib.hid (HB5.out.trans (hb6.mono HB5.out.size))
    have HE6 := Lib.hid (HE5.out.below hb6)
    have HF6 := Lib.hid (HF5.out.below hb6)
    clear hb6
    clear fa1 fb1 fc1 fz1 fa2 fb2 fc2 fz2
    obtain ⟨fa1, fb1, fc1, _, _, _, fz1⟩ := HE6.out
    obtain ⟨fa2, fb2, fc2, _, _, _, fz2⟩ := HF6.out
    go_wp2_with fail
    go_ret
    exact ⟨ret_bool (by simp [d1, d2]), HB6.out⟩

set_option maxRecDepth 100000 in
theorem lifted (os : Os) (started : os.Started) (H : Type) (enc : TypeId × Value → H) :
    ReturnsInHanded {} Try.checked os 11 .any (Rows.fnClashPartsSpec.pre6 enc Try.prog Try.f11 Rows.fnClashPartsRow.domain false) (Rows.fnClashPartsSpec.post enc Try.prog Try.f11 false true false false) := by
  refine returnsInHanded_of_change (C := Try.checked) own started (by kernel_rfl) Try.func11
    (ChangeSpec.witness6 (enc := enc) (C := Try.checked) false ⟨#[], #[.slice none 0 0], []⟩ 8 (by kernel_rfl) (by kernel_rfl) (by kernel_rfl) (by kernel_rfl)) ?_
  intro W base args ds gs before hval0 hW hcnd _
  have hval : ∀ (j : Nat) t v, Try.f11.params[j]? = some t → args[j]? = some v → Value.okWide Try.prog W .any base t v := hval0
  have hW' := hW
  obtain ⟨p, q, hA0, hV, rfl, hfz, hnd⟩ := hW
  have hA : DataW.TrodAll enc Try.prog W 0 (fun _ => true) true Try.f11.params.toList args.toList ds p := hA0
  rw [Try.params11] at hA hval
  obtain ⟨v0, vs0, d0, ds0, p0, q0, hargs, rfl, rfl, h0, r0⟩ := trodAll_cons hA
  obtain ⟨rfl, rfl, rfl⟩ := trodAll_nil r0
  obtain rfl : args = #[v0] := by cases args; simp_all
  obtain ⟨rfl, rfl⟩ := trodVars_none hV
  have k0 := h0
  have lt0 : ∀ x ∈ p0, x.block < W.heap.size := by obtain ⟨m, hm⟩ := k0; exact DataW.trod_lt m _ _ _ hm
  obtain ⟨a0, len0, cap0, rfl⟩ := okWide_slice Try.underlying22 (hval 0 22 v0 rfl rfl)
  obtain ⟨z0, w0⟩ : ∃ zs, IsRow W a0 len0 cap0 zs := by
    obtain ⟨fuel, hf⟩ := h0
    rcases open_ints Try.underlying22 Try.underlying5 (by kernel_rfl) hf with ⟨hcs, _⟩ | ⟨x, l, c, zs, hcs, _, hl, hm, hz, _, hcell, hwz⟩
    · simp [Value.cells] at hcs
      obtain ⟨rfl, rfl, rfl⟩ := hcs
      exact ⟨[], .inl ⟨rfl, rfl, rfl, rfl⟩⟩
    · simp [Value.cells] at hcs
      obtain ⟨rfl, rfl, rfl⟩ := hcs
      exact ⟨zs, .inr ⟨_, rfl, hl, hm, by simpa using hz, hcell, hwz⟩⟩
  clear hA0 hval0
  refine (walk a0 len0 cap0 z0 W w0).mono fun e W' ⟨he, bel⟩ => ?_
  subst he
  exact ⟨_, rfl, _, _, _, [], _, [], hW', trodAll_mk1 (shut_bool Try.underlying4 _), (trodAll_cons_mk (Below.trod laidOut (by kernel_rfl) (of_decide_eq_true (by kernel_rfl)) k0 bel lt0) trodAll_mk0), rfl, bel.frame _, fun h => by cases h⟩

theorem over : Rows.fnClashPartsRow.holds Try.pinned (OpenSpec.ofChange Rows.fnClashPartsSpec) :=
  OpenClaim.holds_of_wide 11 Try.f11 rfl rfl rfl rfl rfl rfl rfl ⟨rfl, rfl, rfl, rfl, rfl⟩ rfl rfl rfl rfl rfl (by kernel_rfl) Try.func11 (by kernel_rfl)
    (of_decide_eq_true (by kernel_rfl)) (by unfold Func.isWrapper; first | (rw [if_pos (by decide +kernel)]; kernel_rfl) | (rw [if_neg (by decide +kernel)]; exact ⟨rfl, rfl⟩))
    (fun os started H enc _ => lifted os started H enc)

/-- The given statement. -/
theorem proved : Rows.FnClashPartsSaid := over
end Go.Proofs.Ytdicfjgdceacpaa.fnClashParts
