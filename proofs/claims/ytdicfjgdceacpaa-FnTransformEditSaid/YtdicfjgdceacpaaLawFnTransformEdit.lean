/-
  FnTransformEdit returns true for every slice of bytes, and it reads as it did: edits that do not clash yield the same text in both orders, if each is transformed by the other one. No conditions.
-/
import Derived.Test.YtdicfjgdceacpaaRows
import Derived.ProofKit
import Derived.OpenShut
import Derived.ShutString
import Derived.ChangeOld
import Derived.Below
import Derived.Lib.SmallJoins
import Derived.Test.YtdicfjgdceacpaaIf
import Derived.Deep.RegionHeld3
import Derived.Deep.RegionWith
import Derived.Deep.DeepCutAuto
namespace Go.Proofs.Ytdicfjgdceacpaa.fnTransformEdit
open Go.Proofs.Ytdicfjgdceacpaa
open Go.ChangeShapes Go.WideShapes Go.ChangeAt Go.RowKit Go.Joins
open Go.ChangeMaps (open_string shut_string)
set_option linter.unusedVariables false
set_option linter.unusedSimpArgs false

theorem own : ownKnob Try.prog.godebug = none := by kernel_rfl
theorem laidOut : laidOutB Try.prog = true := by kernel_rfl

theorem applyEdit_impl_at (s : ByteArray) (f t : Int) (i y : ByteArray) (hb : fitsB s f t i = true) (hy : ap s f t i = y) (w : World) :
    Calls Try.prog 20 #[.string s, .agg #[.int .i64 f, .int .i64 t, .string i]] w fun e w' => e = .returned (.tuple #[.string y, .bool true]) ∧ Below w.heap.size w w' := by
  subst hy; exact applyEdit_impl_yes s f t i hb w
set_option maxHeartbeats 8000000 in
theorem walk (a : Option Addr) (len cap : Nat) (zs : List Int) (w : World) (hrow : IsRow w a len cap zs) :
    Calls Try.prog 3 #[.slice a len cap] w fun e w' => e = .returned (.bool true) ∧ Below w.heap.size w w' := by
  have HRow := Lib.hid hrow
  have hm := hrow.len
  unfold maxLen at hm
  clear hrow
  by_cases hl : len ≤ 1048576
  case neg =>
    go_enter Try.func3, Try.ntmps3
    go_wp2
    go_ret
    exact ⟨rfl, Below.refl _ _⟩
  go_enter Try.func3, Try.ntmps3
  go_wp2_with fail
  go_at_call 17
  refine (drawTransformEdit_any a len cap zs _ HRow.out).mono ?_
  rintro e w0 ⟨s, f, t, i, g, u, j, c, hs, hi, hj, rfl, hb0⟩
  have HB0 := Lib.hid hb0
  have HSL : Hid (s.size ≤ maxLen) := Lib.hid (by unfold maxLen; omega)
  have HIL : Hid (i.size ≤ maxLen) := Lib.hid (by unfold maxLen; omega)
  have HJL : Hid (j.size ≤ maxLen) := Lib.hid (by unfold maxLen; omega)
  clear hb0
  rcases ht : trB s f t i g u j c with _ | _
  · have HT := Lib.hid ht
    clear ht
    have HB1 := Lib.hid (HB0.out.alloc HB0.out.size (.cells #[.int .i64 f, .int .i64 t, .string i] 24))
    have HE1 := Lib.hid (edAt_new w0 f t i 24)
    have HB2 := Lib.hid (HB1.out.alloc HB1.out.size (.cells #[.int .i64 g, .int .i64 u, .string j] 24))
    have HE2 := Lib.hid (HE1.out.below ((Below.refl _ _).alloc (Nat.le_refl _) (.cells #[.int .i64 g, .int .i64 u, .string j] 24)))
    have HF2 := Lib.hid (by have h := edAt_new (w0.alloc (.cells #[.int .i64 f, .int .i64 t, .string i] 24)) g u j 24; rw [size_alloc1] at h; exact h)
    obtain ⟨fa1, fb1, fc1, _, _, _, fz1⟩ := HE2.out
    obtain ⟨fa2, fb2, fc2, _, _, _, fz2⟩ := HF2.out
    go_wp2_with fail
    go_at_call 18
    refine (transform_impl_no s f t i g u j c HT.out HSL.out HIL.out HJL.out _).mono ?_
    rintro e w3 ⟨rfl, hb3⟩
    have HB3 := Lib.hid (HB2.out.trans (hb3.mono HB2.out.size))
    have HE3 := Lib.hid (HE2.out.below hb3)
    have HF3 := Lib.hid (HF2.out.below hb3)
    clear hb3
    clear fa1 fb1 fc1 fz1 fa2 fb2 fc2 fz2
    have HB4 := Lib.hid (HB3.out.alloc HB3.out.size (.cells #[.int .i64 0, .int .i64 0, .string ⟨#[]⟩] 24))
    have HE4 := Lib.hid (HE3.out.below ((Below.refl _ _).alloc (Nat.le_refl _) (.cells #[.int .i64 0, .int .i64 0, .string ⟨#[]⟩] 24)))
    have HF4 := Lib.hid (HF3.out.below ((Below.refl _ _).alloc (Nat.le_refl _) (.cells #[.int .i64 0, .int .i64 0, .string ⟨#[]⟩] 24)))
    have HG4 := Lib.hid (edAt_new w3 0 0 ⟨#[]⟩ 24)
    obtain ⟨fa1, fb1, fc1, _, _, _, fz1⟩ := HE4.out
    obtain ⟨fa2, fb2, fc2, _, _, _, fz2⟩ := HF4.out
    obtain ⟨fa3, fb3, fc3, _, _, _, fz3⟩ := HG4.out
    go_wp2_with fail
    go_at_call 19
    refine (transform_spec_no s f t i g u j c HT.out HSL.out HIL.out HJL.out _).mono ?_
    rintro e w5 ⟨rfl, hb5⟩
    have HB5 := Lib.hid (HB4.out.trans (hb5.mono HB4.out.size))
    have HE5 := Lib.hid (HE4.out.below hb5)
    have HF5 := Lib.hid (HF4.out.below hb5)
    have HG5 := Lib.hid (HG4.out.below hb5)
    clear hb5
    clear fa1 fb1 fc1 fz1 fa2 fb2 fc2 fz2 fa3 fb3 fc3 fz3
    have HB6 := Lib.hid (HB5.out.alloc HB5.out.size (.cells #[.int .i64 0, .int .i64 0, .string ⟨#[]⟩] 24))
    have HE6 := Lib.hid (HE5.out.below ((Below.refl _ _).alloc (Nat.le_refl _) (.cells #[.int .i64 0, .int .i64 0, .string ⟨#[]⟩] 24)))
    have HF6 := Lib.hid (HF5.out.below ((Below.refl _ _).alloc (Nat.le_refl _) (.cells #[.int .i64 0, .int .i64 0, .string ⟨#[]⟩] 24)))
    have HG6 := Lib.hid (HG5.out.below ((Below.refl _ _).alloc (Nat.le_refl _) (.cells #[.int .i64 0, .int .i64 0, .string ⟨#[]⟩] 24)))
    have HK6 := Lib.hid (edAt_new w5 0 0 ⟨#[]⟩ 24)
    obtain ⟨fa1, fb1, fc1, _, _, _, fz1⟩ := HE6.out
    obtain ⟨fa2, fb2, fc2, _, _, _, fz2⟩ := HF6.out
    obtain ⟨fa3, fb3, fc3, _, _, _, fz3⟩ := HG6.out
    obtain ⟨fa4, fb4, fc4, _, _, _, fz4⟩ := HK6.out
    go_wp2_with fail
    go_ret
    exact ⟨rfl, HB6.out⟩
  obtain ⟨ha, hg, hcl, hm⟩ := trB_iff.mp ht
  obtain ⟨p, hp⟩ : ∃ p, f + mv f t g u j c = p := ⟨_, rfl⟩
  obtain ⟨q, hq⟩ : ∃ q, t + mv f t g u j c = q := ⟨_, rfl⟩
  obtain ⟨x, hx⟩ : ∃ x, ap s g u j = x := ⟨_, rfl⟩
  obtain ⟨y, hy⟩ : ∃ y, ap x p q i = y := ⟨_, rfl⟩
  obtain ⟨z, hz⟩ : ∃ z, ap s f t i = z := ⟨_, rfl⟩
  rw [hx, hp, hq] at hm
  have HT := Lib.hid ht
  have HP := Lib.hid hp
  have HQ := Lib.hid hq
  have HA := Lib.hid ha
  have HG := Lib.hid hg
  have HM := Lib.hid hm
  have HX := Lib.hid hx
  have HY := Lib.hid hy
  have HZ := Lib.hid hz
  have hcv := converge c ha hg hcl
  rw [hx, hz, hp, hq, hy] at hcv
  have HCV := Lib.hid hcv
  clear ht ha hg hcl hm hp hq hx hy hz hcv
  rcases ht2 : trB s g u j f t i (!c) with _ | _
  · have HT2 := Lib.hid ht2
    clear ht2
    have HB1 := Lib.hid (HB0.out.alloc HB0.out.size (.cells #[.int .i64 f, .int .i64 t, .string i] 24))
    have HE1 := Lib.hid (edAt_new w0 f t i 24)
    have HB2 := Lib.hid (HB1.out.alloc HB1.out.size (.cells #[.int .i64 g, .int .i64 u, .string j] 24))
    have HE2 := Lib.hid (HE1.out.below ((Below.refl _ _).alloc (Nat.le_refl _) (.cells #[.int .i64 g, .int .i64 u, .string j] 24)))
    have HF2 := Lib.hid (by have h := edAt_new (w0.alloc (.cells #[.int .i64 f, .int .i64 t, .string i] 24)) g u j 24; rw [size_alloc1] at h; exact h)
    obtain ⟨fa1, fb1, fc1, _, _, _, fz1⟩ := HE2.out
    obtain ⟨fa2, fb2, fc2, _, _, _, fz2⟩ := HF2.out
    go_wp2_with fail
    go_at_call 18
    refine (transform_impl_yes s f t i g u j c p q HT.out HP.out HQ.out _).mono ?_
    rintro e w3 ⟨rfl, hb3⟩
    have HB3 := Lib.hid (HB2.out.trans (hb3.mono HB2.out.size))
    have HE3 := Lib.hid (HE2.out.below hb3)
    have HF3 := Lib.hid (HF2.out.below hb3)
    clear hb3
    clear fa1 fb1 fc1 fz1 fa2 fb2 fc2 fz2
    have HB4 := Lib.hid (HB3.out.alloc HB3.out.size (.cells #[.int .i64 p, .int .i64 q, .string i] 24))
    have HE4 := Lib.hid (HE3.out.below ((Below.refl _ _).alloc (Nat.le_refl _) (.cells #[.int .i64 p, .int .i64 q, .string i] 24)))
    have HF4 := Lib.hid (HF3.out.below ((Below.refl _ _).alloc (Nat.le_refl _) (.cells #[.int .i64 p, .int .i64 q, .string i] 24)))
    have HG4 := Lib.hid (edAt_new w3 p q i 24)
    obtain ⟨fa1, fb1, fc1, _, _, _, fz1⟩ := HE4.out
    obtain ⟨fa2, fb2, fc2, _, _, _, fz2⟩ := HF4.out
    obtain ⟨fa3, fb3, fc3, _, _, _, fz3⟩ := HG4.out
    go_wp2_with fail
    go_at_call 19
    refine (transform_spec_yes s f t i g u j c p q HT.out HP.out HQ.out _).mono ?_
    rintro e w5 ⟨rfl, hb5⟩
    have HB5 := Lib.hid (HB4.out.trans (hb5.mono HB4.out.size))
    have HE5 := Lib.hid (HE4.out.below hb5)
    have HF5 := Lib.hid (HF4.out.below hb5)
    have HG5 := Lib.hid (HG4.out.below hb5)
    clear hb5
    clear fa1 fb1 fc1 fz1 fa2 fb2 fc2 fz2 fa3 fb3 fc3 fz3
    have HB6 := Lib.hid (HB5.out.alloc HB5.out.size (.cells #[.int .i64 p, .int .i64 q, .string i] 24))
    have HE6 := Lib.hid (HE5.out.below ((Below.refl _ _).alloc (Nat.le_refl _) (.cells #[.int .i64 p, .int .i64 q, .string i] 24)))
    have HF6 := Lib.hid (HF5.out.below ((Below.refl _ _).alloc (Nat.le_refl _) (.cells #[.int .i64 p, .int .i64 q, .string i] 24)))
    have HG6 := Lib.hid (HG5.out.below ((Below.refl _ _).alloc (Nat.le_refl _) (.cells #[.int .i64 p, .int .i64 q, .string i] 24)))
    have HK6 := Lib.hid (edAt_new w5 p q i 24)
    obtain ⟨fa1, fb1, fc1, _, _, _, fz1⟩ := HE6.out
    obtain ⟨fa2, fb2, fc2, _, _, _, fz2⟩ := HF6.out
    obtain ⟨fa3, fb3, fc3, _, _, _, fz3⟩ := HG6.out
    obtain ⟨fa4, fb4, fc4, _, _, _, fz4⟩ := HK6.out
    go_wp2_with fail
    go_at_call 18
    refine (transform_impl_no s g u j f t i (!c) HT2.out HSL.out HJL.out HIL.out _).mono ?_
    rintro e w7 ⟨rfl, hb7⟩
    have HB7 := Lib.hid (HB6.out.trans (hb7.mono HB6.out.size))
    have HE7 := Lib.hid (HE6.out.below hb7)
    have HF7 := Lib.hid (HF6.out.below hb7)
    have HG7 := Lib.hid (HG6.out.below hb7)
    have HK7 := Lib.hid (HK6.out.below hb7)
    clear hb7
    clear fa1 fb1 fc1 fz1 fa2 fb2 fc2 fz2 fa3 fb3 fc3 fz3 fa4 fb4 fc4 fz4
    have HB8 := Lib.hid (HB7.out.alloc HB7.out.size (.cells #[.int .i64 0, .int .i64 0, .string ⟨#[]⟩] 24))
    have HE8 := Lib.hid (HE7.out.below ((Below.refl _ _).alloc (Nat.le_refl _) (.cells #[.int .i64 0, .int .i64 0, .string ⟨#[]⟩] 24)))
    have HF8 := Lib.hid (HF7.out.below ((Below.refl _ _).alloc (Nat.le_refl _) (.cells #[.int .i64 0, .int .i64 0, .string ⟨#[]⟩] 24)))
    have HG8 := Lib.hid (HG7.out.below ((Below.refl _ _).alloc (Nat.le_refl _) (.cells #[.int .i64 0, .int .i64 0, .string ⟨#[]⟩] 24)))
    have HK8 := Lib.hid (HK7.out.below ((Below.refl _ _).alloc (Nat.le_refl _) (.cells #[.int .i64 0, .int .i64 0, .string ⟨#[]⟩] 24)))
    have HH8 := Lib.hid (edAt_new w7 0 0 ⟨#[]⟩ 24)
    obtain ⟨fa1, fb1, fc1, _, _, _, fz1⟩ := HE8.out
    obtain ⟨fa2, fb2, fc2, _, _, _, fz2⟩ := HF8.out
    obtain ⟨fa3, fb3, fc3, _, _, _, fz3⟩ := HG8.out
    obtain ⟨fa4, fb4, fc4, _, _, _, fz4⟩ := HK8.out
    obtain ⟨fa5, fb5, fc5, _, _, _, fz5⟩ := HH8.out
    go_wp2_with fail
    go_at_call 20
    refine (applyEdit_impl_at s g u j x HG.out HX.out _).mono ?_
    rintro e w9 ⟨rfl, hb9⟩
    have HB9 := Lib.hid (HB8.out.trans (hb9.mono HB8.out.size))
    have HE9 := Lib.hid (HE8.out.below hb9)
    have HF9 := Lib.hid (HF8.out.below hb9)
    have HG9 := Lib.hid (HG8.out.below hb9)
    have HK9 := Lib.hid (HK8.out.below hb9)
    have HH9 := Lib.hid (HH8.out.below hb9)
    clear hb9
    clear fa1 fb1 fc1 fz1 fa2 fb2 fc2 fz2 fa3 fb3 fc3 fz3 fa4 fb4 fc4 fz4 fa5 fb5 fc5 fz5
    obtain ⟨fa1, fb1, fc1, _, _, _, fz1⟩ := HE9.out
    obtain ⟨fa2, fb2, fc2, _, _, _, fz2⟩ := HF9.out
    obtain ⟨fa3, fb3, fc3, _, _, _, fz3⟩ := HG9.out
    obtain ⟨fa4, fb4, fc4, _, _, _, fz4⟩ := HK9.out
    obtain ⟨fa5, fb5, fc5, _, _, _, fz5⟩ := HH9.out
    go_wp2_with fail
    go_at_call 20
    refine (applyEdit_impl_at x p q i y HM.out HY.out _).mono ?_
    rintro e w10 ⟨rfl, hb10⟩
    have HB10 := Lib.hid (HB9.out.trans (hb10.mono HB9.out.size))
    have HE10 := Lib.hid (HE9.out.below hb10)
    have HF10 := Lib.hid (HF9.out.below hb10)
    have HG10 := Lib.hid (HG9.out.below hb10)
    have HK10 := Lib.hid (HK9.out.below hb10)
    have HH10 := Lib.hid (HH9.out.below hb10)
    clear hb10
    clear fa1 fb1 fc1 fz1 fa2 fb2 fc2 fz2 fa3 fb3 fc3 fz3 fa4 fb4 fc4 fz4 fa5 fb5 fc5 fz5
    obtain ⟨fa1, fb1, fc1, _, _, _, fz1⟩ := HE10.out
    obtain ⟨fa2, fb2, fc2, _, _, _, fz2⟩ := HF10.out
    obtain ⟨fa3, fb3, fc3, _, _, _, fz3⟩ := HG10.out
    obtain ⟨fa4, fb4, fc4, _, _, _, fz4⟩ := HK10.out
    obtain ⟨fa5, fb5, fc5, _, _, _, fz5⟩ := HH10.out
    go_wp2_with fail
    go_at_call 20
    refine (applyEdit_impl_at s f t i z HA.out HZ.out _).mono ?_
    rintro e w11 ⟨rfl, hb11⟩
    have HB11 := Lib.hid (HB10.out.trans (hb11.mono HB10.out.size))
    have HE11 := Lib.hid (HE10.out.below hb11)
    have HF11 := Lib.hid (HF10.out.below hb11)
    have HG11 := Lib.hid (HG10.out.below hb11)
    have HK11 := Lib.hid (HK10.out.below hb11)
    have HH11 := Lib.hid (HH10.out.below hb11)
    clear hb11
    clear fa1 fb1 fc1 fz1 fa2 fb2 fc2 fz2 fa3 fb3 fc3 fz3 fa4 fb4 fc4 fz4 fa5 fb5 fc5 fz5
    obtain ⟨fa1, fb1, fc1, _, _, _, fz1⟩ := HE11.out
    obtain ⟨fa2, fb2, fc2, _, _, _, fz2⟩ := HF11.out
    obtain ⟨fa3, fb3, fc3, _, _, _, fz3⟩ := HG11.out
    obtain ⟨fa4, fb4, fc4, _, _, _, fz4⟩ := HK11.out
    obtain ⟨fa5, fb5, fc5, _, _, _, fz5⟩ := HH11.out
    go_wp2_with fail
    go_ret
    exact ⟨rfl, HB11.out⟩
  · obtain ⟨p2, hp2⟩ : ∃ p, g + mv g u f t i (!c) = p := ⟨_, rfl⟩
    obtain ⟨q2, hq2⟩ : ∃ q, u + mv g u f t i (!c) = q := ⟨_, rfl⟩
    have hm2 := (trB_iff.mp ht2).2.2.2
    rw [HZ.out, hp2, hq2] at hm2
    have HT2 := Lib.hid ht2
    have HP2 := Lib.hid hp2
    have HQ2 := Lib.hid hq2
    have HM2 := Lib.hid hm2
    have HY2 : Hid (ap z p2 q2 j = y) := Lib.hid (by rw [← hp2, ← hq2]; exact HCV.out.symm)
    clear ht2 hp2 hq2 hm2
    have HB1 := Lib.hid (HB0.out.alloc HB0.out.size (.cells #[.int .i64 f, .int .i64 t, .string i] 24))
    have HE1 := Lib.hid (edAt_new w0 f t i 24)
    have HB2 := Lib.hid (HB1.out.alloc HB1.out.size (.cells #[.int .i64 g, .int .i64 u, .string j] 24))
    have HE2 := Lib.hid (HE1.out.below ((Below.refl _ _).alloc (Nat.le_refl _) (.cells #[.int .i64 g, .int .i64 u, .string j] 24)))
    have HF2 := Lib.hid (by have h := edAt_new (w0.alloc (.cells #[.int .i64 f, .int .i64 t, .string i] 24)) g u j 24; rw [size_alloc1] at h; exact h)
    obtain ⟨fa1, fb1, fc1, _, _, _, fz1⟩ := HE2.out
    obtain ⟨fa2, fb2, fc2, _, _, _, fz2⟩ := HF2.out
    go_wp2_with fail
    go_at_call 18
    refine (transform_impl_yes s f t i g u j c p q HT.out HP.out HQ.out _).mono ?_
    rintro e w3 ⟨rfl, hb3⟩
    have HB3 := Lib.hid (HB2.out.trans (hb3.mono HB2.out.size))
    have HE3 := Lib.hid (HE2.out.below hb3)
    have HF3 := Lib.hid (HF2.out.below hb3)
    clear hb3
    clear fa1 fb1 fc1 fz1 fa2 fb2 fc2 fz2
    have HB4 := Lib.hid (HB3.out.alloc HB3.out.size (.cells #[.int .i64 p, .int .i64 q, .string i] 24))
    have HE4 := Lib.hid (HE3.out.below ((Below.refl _ _).alloc (Nat.le_refl _) (.cells #[.int .i64 p, .int .i64 q, .string i] 24)))
    have HF4 := Lib.hid (HF3.out.below ((Below.refl _ _).alloc (Nat.le_refl _) (.cells #[.int .i64 p, .int .i64 q, .string i] 24)))
    have HG4 := Lib.hid (edAt_new w3 p q i 24)
    obtain ⟨fa1, fb1, fc1, _, _, _, fz1⟩ := HE4.out
    obtain ⟨fa2, fb2, fc2, _, _, _, fz2⟩ := HF4.out
    obtain ⟨fa3, fb3, fc3, _, _, _, fz3⟩ := HG4.out
    go_wp2_with fail
    go_at_call 19
    refine (transform_spec_yes s f t i g u j c p q HT.out HP.out HQ.out _).mono ?_
    rintro e w5 ⟨rfl, hb5⟩
    have HB5 := Lib.hid (HB4.out.trans (hb5.mono HB4.out.size))
    have HE5 := Lib.hid (HE4.out.below hb5)
    have HF5 := Lib.hid (HF4.out.below hb5)
    have HG5 := Lib.hid (HG4.out.below hb5)
    clear hb5
    clear fa1 fb1 fc1 fz1 fa2 fb2 fc2 fz2 fa3 fb3 fc3 fz3
    have HB6 := Lib.hid (HB5.out.alloc HB5.out.size (.cells #[.int .i64 p, .int .i64 q, .string i] 24))
    have HE6 := Lib.hid (HE5.out.below ((Below.refl _ _).alloc (Nat.le_refl _) (.cells #[.int .i64 p, .int .i64 q, .string i] 24)))
    have HF6 := Lib.hid (HF5.out.below ((Below.refl _ _).alloc (Nat.le_refl _) (.cells #[.int .i64 p, .int .i64 q, .string i] 24)))
    have HG6 := Lib.hid (HG5.out.below ((Below.refl _ _).alloc (Nat.le_refl _) (.cells #[.int .i64 p, .int .i64 q, .string i] 24)))
    have HK6 := Lib.hid (edAt_new w5 p q i 24)
    obtain ⟨fa1, fb1, fc1, _, _, _, fz1⟩ := HE6.out
    obtain ⟨fa2, fb2, fc2, _, _, _, fz2⟩ := HF6.out
    obtain ⟨fa3, fb3, fc3, _, _, _, fz3⟩ := HG6.out
    obtain ⟨fa4, fb4, fc4, _, _, _, fz4⟩ := HK6.out
    go_wp2_with fail
    go_at_call 18
    refine (transform_impl_yes s g u j f t i (!c) p2 q2 HT2.out HP2.out HQ2.out _).mono ?_
    rintro e w7 ⟨rfl, hb7⟩
    have HB7 := Lib.hid (HB6.out.trans (hb7.mono HB6.out.size))
    have HE7 := Lib.hid (HE6.out.below hb7)
    have HF7 := Lib.hid (HF6.out.below hb7)
    have HG7 := Lib.hid (HG6.out.below hb7)
    have HK7 := Lib.hid (HK6.out.below hb7)
    clear hb7
    clear fa1 fb1 fc1 fz1 fa2 fb2 fc2 fz2 fa3 fb3 fc3 fz3 fa4 fb4 fc4 fz4
    have HB8 := Lib.hid (HB7.out.alloc HB7.out.size (.cells #[.int .i64 p2, .int .i64 q2, .string j] 24))
    have HE8 := Lib.hid (HE7.out.below ((Below.refl _ _).alloc (Nat.le_refl _) (.cells #[.int .i64 p2, .int .i64 q2, .string j] 24)))
    have HF8 := Lib.hid (HF7.out.below ((Below.refl _ _).alloc (Nat.le_refl _) (.cells #[.int .i64 p2, .int .i64 q2, .string j] 24)))
    have HG8 := Lib.hid (HG7.out.below ((Below.refl _ _).alloc (Nat.le_refl _) (.cells #[.int .i64 p2, .int .i64 q2, .string j] 24)))
    have HK8 := Lib.hid (HK7.out.below ((Below.refl _ _).alloc (Nat.le_refl _) (.cells #[.int .i64 p2, .int .i64 q2, .string j] 24)))
    have HH8 := Lib.hid (edAt_new w7 p2 q2 j 24)
    obtain ⟨fa1, fb1, fc1, _, _, _, fz1⟩ := HE8.out
    obtain ⟨fa2, fb2, fc2, _, _, _, fz2⟩ := HF8.out
    obtain ⟨fa3, fb3, fc3, _, _, _, fz3⟩ := HG8.out
    obtain ⟨fa4, fb4, fc4, _, _, _, fz4⟩ := HK8.out
    obtain ⟨fa5, fb5, fc5, _, _, _, fz5⟩ := HH8.out
    go_wp2_with fail
    go_at_call 20
    refine (applyEdit_impl_at s g u j x HG.out HX.out _).mono ?_
    rintro e w9 ⟨rfl, hb9⟩
    have HB9 := Lib.hid (HB8.out.trans (hb9.mono HB8.out.size))
    have HE9 := Lib.hid (HE8.out.below hb9)
    have HF9 := Lib.hid (HF8.out.below hb9)
    have HG9 := Lib.hid (HG8.out.below hb9)
    have HK9 := Lib.hid (HK8.out.below hb9)
    have HH9 := Lib.hid (HH8.out.below hb9)
    clear hb9
    clear fa1 fb1 fc1 fz1 fa2 fb2 fc2 fz2 fa3 fb3 fc3 fz3 fa4 fb4 fc4 fz4 fa5 fb5 fc5 fz5
    obtain ⟨fa1, fb1, fc1, _, _, _, fz1⟩ := HE9.out
    obtain ⟨fa2, fb2, fc2, _, _, _, fz2⟩ := HF9.out
    obtain ⟨fa3, fb3, fc3, _, _, _, fz3⟩ := HG9.out
    obtain ⟨fa4, fb4, fc4, _, _, _, fz4⟩ := HK9.out
    obtain ⟨fa5, fb5, fc5, _, _, _, fz5⟩ := HH9.out
    go_wp2_with fail
    go_at_call 20
    refine (applyEdit_impl_at x p q i y HM.out HY.out _).mono ?_
    rintro e w10 ⟨rfl, hb10⟩
    have HB10 := Lib.hid (HB9.out.trans (hb10.mono HB9.out.size))
    have HE10 := Lib.hid (HE9.out.below hb10)
    have HF10 := Lib.hid (HF9.out.below hb10)
    have HG10 := Lib.hid (HG9.out.below hb10)
    have HK10 := Lib.hid (HK9.out.below hb10)
    have HH10 := Lib.hid (HH9.out.below hb10)
    clear hb10
    clear fa1 fb1 fc1 fz1 fa2 fb2 fc2 fz2 fa3 fb3 fc3 fz3 fa4 fb4 fc4 fz4 fa5 fb5 fc5 fz5
    obtain ⟨fa1, fb1, fc1, _, _, _, fz1⟩ := HE10.out
    obtain ⟨fa2, fb2, fc2, _, _, _, fz2⟩ := HF10.out
    obtain ⟨fa3, fb3, fc3, _, _, _, fz3⟩ := HG10.out
    obtain ⟨fa4, fb4, fc4, _, _, _, fz4⟩ := HK10.out
    obtain ⟨fa5, fb5, fc5, _, _, _, fz5⟩ := HH10.out
    go_wp2_with fail
    go_at_call 20
    refine (applyEdit_impl_at s f t i z HA.out HZ.out _).mono ?_
    rintro e w11 ⟨rfl, hb11⟩
    have HB11 := Lib.hid (HB10.out.trans (hb11.mono HB10.out.size))
    have HE11 := Lib.hid (HE10.out.below hb11)
    have HF11 := Lib.hid (HF10.out.below hb11)
    have HG11 := Lib.hid (HG10.out.below hb11)
    have HK11 := Lib.hid (HK10.out.below hb11)
    have HH11 := Lib.hid (HH10.out.below hb11)
    clear hb11
    clear fa1 fb1 fc1 fz1 fa2 fb2 fc2 fz2 fa3 fb3 fc3 fz3 fa4 fb4 fc4 fz4 fa5 fb5 fc5 fz5
    obtain ⟨fa1, fb1, fc1, _, _, _, fz1⟩ := HE11.out
    obtain ⟨fa2, fb2, fc2, _, _, _, fz2⟩ := HF11.out
    obtain ⟨fa3, fb3, fc3, _, _, _, fz3⟩ := HG11.out
    obtain ⟨fa4, fb4, fc4, _, _, _, fz4⟩ := HK11.out
    obtain ⟨fa5, fb5, fc5, _, _, _, fz5⟩ := HH11.out
    go_wp2_with fail
    go_at_call 20
    refine (applyEdit_impl_at z p2 q2 j y HM2.out HY2.out _).mono ?_
    rintro e w12 ⟨rfl, hb12⟩
    have HB12 := Lib.hid (HB11.out.trans (hb12.mono HB11.out.size))
    have HE12 := Lib.hid (HE11.out.below hb12)
    have HF12 := Lib.hid (HF11.out.below hb12)
    have HG12 := Lib.hid (HG11.out.below hb12)
    have HK12 := Lib.hid (HK11.out.below hb12)
    have HH12 := Lib.hid (HH11.out.below hb12)
    clear hb12
    clear fa1 fb1 fc1 fz1 fa2 fb2 fc2 fz2 fa3 fb3 fc3 fz3 fa4 fb4 fc4 fz4 fa5 fb5 fc5 fz5
    obtain ⟨fa1, fb1, fc1, _, _, _, fz1⟩ := HE12.out
    obtain ⟨fa2, fb2, fc2, _, _, _, fz2⟩ := HF12.out
    obtain ⟨fa3, fb3, fc3, _, _, _, fz3⟩ := HG12.out
    obtain ⟨fa4, fb4, fc4, _, _, _, fz4⟩ := HK12.out
    obtain ⟨fa5, fb5, fc5, _, _, _, fz5⟩ := HH12.out
    go_wp2_with fail
    go_ret
    exact ⟨rfl, HB12.out⟩

set_option maxRecDepth 100000 in
theorem lifted (os : Os) (started : os.Started) (H : Type) (enc : TypeId × Value → H) :
    ReturnsInHanded {} Try.checked os 3 .any (Rows.fnTransformEditSpec.pre6 enc Try.prog Try.f3 Rows.fnTransformEditRow.domain false) (Rows.fnTransformEditSpec.post enc Try.prog Try.f3 false true false false) := by
  refine returnsInHanded_of_change (C := Try.checked) own started (by kernel_rfl) Try.func3
    (ChangeSpec.witness6 (enc := enc) (C := Try.checked) false ⟨#[], #[.slice none 0 0], []⟩ 8 (by kernel_rfl) (by kernel_rfl) (by kernel_rfl) (by kernel_rfl)) ?_
  intro W base args ds gs before hval0 hW hcnd _
  have hval : ∀ (j : Nat) t v, Try.f3.params[j]? = some t → args[j]? = some v → Value.okWide Try.prog W .any base t v := hval0
  have hW' := hW
  obtain ⟨p, q, hA0, hV, rfl, hfz, hnd⟩ := hW
  have hA : DataW.TrodAll enc Try.prog W 0 (fun _ => true) true Try.f3.params.toList args.toList ds p := hA0
  rw [Try.params3] at hA hval
  obtain ⟨v0, vs0, d0, ds0, p0, q0, hargs, rfl, rfl, h0, r0⟩ := trodAll_cons hA
  obtain ⟨rfl, rfl, rfl⟩ := trodAll_nil r0
  obtain rfl : args = #[v0] := by cases args; simp_all
  obtain ⟨rfl, rfl⟩ := trodVars_none hV
  have k0 := h0
  have lt0 : ∀ x ∈ p0, x.block < W.heap.size := by obtain ⟨m, hm⟩ := k0; exact DataW.trod_lt m _ _ _ hm
  obtain ⟨a0, len0, cap0, rfl⟩ := okWide_slice Try.underlying22 (hval 0 22 v0 rfl rfl)
  obtain ⟨z0, w0⟩ : ∃ zs, IsRow W a0 len0 cap0 zs := by
    obtain ⟨fuel, hf⟩ := h0
    rcases open_ints Try.underlying22 Try.underlying5 (by kernel_rfl) hf with ⟨hcs, _⟩ | ⟨x, l, c, zs, hcs, _, hl, hm, hz, _, hcell, hwz⟩
    · simp [Value.cells] at hcs
      obtain ⟨rfl, rfl, rfl⟩ := hcs
      exact ⟨[], .inl ⟨rfl, rfl, rfl, rfl⟩⟩
    · simp [Value.cells] at hcs
      obtain ⟨rfl, rfl, rfl⟩ := hcs
      exact ⟨zs, .inr ⟨_, rfl, hl, hm, by simpa using hz, hcell, hwz⟩⟩
  clear hA0 hval0
  refine (walk a0 len0 cap0 z0 W w0).mono fun e W' ⟨he, bel⟩ => ?_
  subst he
  exact ⟨_, rfl, _, _, _, [], _, [], hW', trodAll_mk1 (shut_bool Try.underlying4 _), (trodAll_cons_mk (Below.trod laidOut (by kernel_rfl) (of_decide_eq_true (by kernel_rfl)) k0 bel lt0) trodAll_mk0), rfl, bel.frame _, fun h => by cases h⟩

theorem over : Rows.fnTransformEditRow.holds Try.pinned (OpenSpec.ofChange Rows.fnTransformEditSpec) :=
  OpenClaim.holds_of_wide 3 Try.f3 rfl rfl rfl rfl rfl rfl rfl ⟨rfl, rfl, rfl, rfl, rfl⟩ rfl rfl rfl rfl rfl (by kernel_rfl) Try.func3 (by kernel_rfl)
    (of_decide_eq_true (by kernel_rfl)) (by unfold Func.isWrapper; first | (rw [if_pos (by decide +kernel)]; kernel_rfl) | (rw [if_neg (by decide +kernel)]; exact ⟨rfl, rfl⟩))
    (fun os started H enc _ => lifted os started H enc)

/-- The given statement. -/
theorem proved : Rows.FnTransformEditSaid := over
end Go.Proofs.Ytdicfjgdceacpaa.fnTransformEdit
