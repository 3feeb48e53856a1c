/-
  FnEditsClash returns true for every slice of bytes, and it reads as it did: clashing is symmetric, and an edit that removes something clashes with itself. No conditions.
-/
import Derived.Test.YtdicfjgdceacpaaRows
import Derived.ProofKit
import Derived.OpenShut
import Derived.ShutString
import Derived.ChangeOld
import Derived.Below
import Derived.Lib.SmallJoins
import Derived.Test.YtdicfjgdceacpaaIf
import Derived.Deep.RegionLaw
import Derived.Deep.RegionHeld3
import Derived.Deep.RegionWith
import Derived.Deep.DeepCutAuto
import Derived.Test.YtdicfjgdceacpaaIh
import Derived.BigQuiet
namespace Go.Proofs.Ytdicfjgdceacpaa.fnEditsClash
open Go.Proofs.Ytdicfjgdceacpaa
open Go.ChangeShapes Go.WideShapes Go.ChangeAt Go.RowKit Go.Joins
open Go.ChangeMaps (open_string shut_string)
set_option linter.unusedVariables false
set_option linter.unusedSimpArgs false

theorem own : ownKnob Try.prog.godebug = none := by kernel_rfl
theorem laidOut : laidOutB Try.prog = true := by kernel_rfl

theorem applyEdit_impl_at (s : ByteArray) (f t : Int) (i y : ByteArray) (hb : fitsB s f t i = true) (hy : ap s f t i = y) (w : World) :
    Calls Try.prog 20 #[.string s, .agg #[.int .i64 f, .int .i64 t, .string i]] w fun e w' => e = .returned (.tuple #[.string y, .bool true]) ∧ Below w.heap.size w w' := by
  subst hy; exact applyEdit_impl_yes s f t i hb w
theorem ecB_swap (s : ByteArray) (f t : Int) (i : ByteArray) (g u : Int) (j : ByteArray) : ecB s f t i g u j = ecB s g u j f t i := by
  unfold ecB
  rw [clB_swap]
  rcases fitsB s f t i with _ | _ <;> rcases fitsB s g u j with _ | _ <;> simp
theorem ecB_self (s : ByteArray) (f t : Int) (i : ByteArray) : ecB s f t i f t i = (fitsB s f t i && decide (f < t)) := by
  unfold ecB clB
  rcases fitsB s f t i with _ | _ <;> simp
theorem trB_ecB {s : ByteArray} {f t : Int} {i : ByteArray} {g u : Int} {j : ByteArray} {c : Bool} (h : ecB s f t i g u j = true) : trB s f t i g u j c = false := by
  rcases ht : trB s f t i g u j c with _ | _
  · rfl
  · obtain ⟨_, _, hc, _⟩ := trB_iff.mp ht
    unfold ecB at h
    simp [hc] at h
theorem trB_fits {s : ByteArray} {f t : Int} {i : ByteArray} {g u : Int} {j : ByteArray} {c : Bool} (h : fitsB s f t i = false) : trB s f t i g u j c = false := by
  unfold trB; rw [h]; rfl
set_option maxHeartbeats 8000000 in
theorem walk (a : Option Addr) (len cap : Nat) (zs : List Int) (w : World) (hrow : IsRow w a len cap zs) :
    Calls Try.prog 4 #[.slice a len cap] w fun e w' => e = .returned (.bool true) ∧ Below w.heap.size w w' := by
  have HRow := Lib.hid hrow
  have hm := hrow.len
  unfold maxLen at hm
  clear hrow
  by_cases hl : len ≤ 1048576
  case neg =>
    go_enter Try.func4, Try.ntmps4
    go_wp2
    go_ret
    exact ⟨rfl, Below.refl _ _⟩
  go_enter Try.func4, Try.ntmps4
  go_wp2_with fail
  go_at_call 21
  refine (drawEditsClash_any a len cap zs _ HRow.out).mono ?_
  rintro e w0 ⟨s, f, t, i, g, u, j, hs, hi, hj, rfl, hb0⟩
  have HB0 := Lib.hid hb0
  have HSL : Hid (s.size ≤ maxLen) := Lib.hid (by unfold maxLen; omega)
  have HIL : Hid (i.size ≤ maxLen) := Lib.hid (by unfold maxLen; omega)
  have HJL : Hid (j.size ≤ maxLen) := Lib.hid (by unfold maxLen; omega)
  clear hb0
  rcases hv : fitsB s f t i with _ | _
  case false =>
    have HV := Lib.hid hv
    have HC : Hid (ecB s f t i g u j = false) := Lib.hid (by unfold ecB; rw [hv]; rfl)
    have HCS : Hid (ecB s g u j f t i = false) := Lib.hid (by rw [← ecB_swap]; exact HC.out)
    have HSF : Hid (ecB s f t i f t i = false) := Lib.hid (by rw [ecB_self, hv]; rfl)
    have HT : Hid (trB s f t i g u j true = false) := Lib.hid (trB_fits hv)
    clear hv
    have HB1 := Lib.hid (HB0.out.alloc HB0.out.size (.cells #[.int .i64 f, .int .i64 t, .string i] 24))
    have HE1 := Lib.hid (edAt_new w0 f t i 24)
    have HB2 := Lib.hid (HB1.out.alloc HB1.out.size (.cells #[.int .i64 g, .int .i64 u, .string j] 24))
    have HE2 := Lib.hid (HE1.out.below ((Below.refl _ _).alloc (Nat.le_refl _) (.cells #[.int .i64 g, .int .i64 u, .string j] 24)))
    have HF2 := Lib.hid (by have h := edAt_new (w0.alloc (.cells #[.int .i64 f, .int .i64 t, .string i] 24)) g u j 24; rw [size_alloc1] at h; exact h)
    obtain ⟨fa1, fb1, fc1, _, _, _, fz1⟩ := HE2.out
    obtain ⟨fa2, fb2, fc2, _, _, _, fz2⟩ := HF2.out
    go_wp2_with fail
    go_at_call 22
    refine (editsClash_impl s f t i g u j _ HC.out HSL.out HIL.out HJL.out _).mono ?_
    rintro e w3 ⟨rfl, hb3⟩
    have HB3 := Lib.hid (HB2.out.trans (hb3.mono HB2.out.size))
    have HE3 := Lib.hid (HE2.out.below hb3)
    have HF3 := Lib.hid (HF2.out.below hb3)
    clear hb3
    clear fa1 fb1 fc1 fz1 fa2 fb2 fc2 fz2
    obtain ⟨fa1, fb1, fc1, _, _, _, fz1⟩ := HE3.out
    obtain ⟨fa2, fb2, fc2, _, _, _, fz2⟩ := HF3.out
    go_wp2_with fail
    go_at_call 23
    refine (editsClash_spec s f t i g u j _ HC.out HSL.out HIL.out HJL.out _).mono ?_
    rintro e w4 ⟨rfl, hb4⟩
    have HB4 := Lib.hid (HB3.out.trans (hb4.mono HB3.out.size))
    have HE4 := Lib.hid (HE3.out.below hb4)
    have HF4 := Lib.hid (HF3.out.below hb4)
    clear hb4
    clear fa1 fb1 fc1 fz1 fa2 fb2 fc2 fz2
    obtain ⟨fa1, fb1, fc1, _, _, _, fz1⟩ := HE4.out
    obtain ⟨fa2, fb2, fc2, _, _, _, fz2⟩ := HF4.out
    go_wp2_with fail
    go_at_call 22
    refine (editsClash_impl s g u j f t i _ HCS.out HSL.out HJL.out HIL.out _).mono ?_
    rintro e w5 ⟨rfl, hb5⟩
    have HB5 := Lib.hid (HB4.out.trans (hb5.mono HB4.out.size))
    have HE5 := Lib.hid (HE4.out.below hb5)
    have HF5 := Lib.hid (HF4.out.below hb5)
    clear hb5
    clear fa1 fb1 fc1 fz1 fa2 fb2 fc2 fz2
    obtain ⟨fa1, fb1, fc1, _, _, _, fz1⟩ := HE5.out
    obtain ⟨fa2, fb2, fc2, _, _, _, fz2⟩ := HF5.out
    go_wp2_with fail
    go_at_call 18
    refine (transform_impl_no s f t i g u j true HT.out HSL.out HIL.out HJL.out _).mono ?_
    rintro e w6 ⟨rfl, hb6⟩
    have HB6 := Lib.hid (HB5.out.trans (hb6.mono HB5.out.size))
    have HE6 := Lib.hid (HE5.out.below hb6)
    have HF6 := Lib.hid (HF5.out.below hb6)
    clear hb6
    clear fa1 fb1 fc1 fz1 fa2 fb2 fc2 fz2
    have HB7 := Lib.hid (HB6.out.alloc HB6.out.size (.cells #[.int .i64 0, .int .i64 0, .string ⟨#[]⟩] 24))
    have HE7 := Lib.hid (HE6.out.below ((Below.refl _ _).alloc (Nat.le_refl _) (.cells #[.int .i64 0, .int .i64 0, .string ⟨#[]⟩] 24)))
    have HF7 := Lib.hid (HF6.out.below ((Below.refl _ _).alloc (Nat.le_refl _) (.cells #[.int .i64 0, .int .i64 0, .string ⟨#[]⟩] 24)))
    have HG7 := Lib.hid (edAt_new w6 0 0 ⟨#[]⟩ 24)
    obtain ⟨fa1, fb1, fc1, _, _, _, fz1⟩ := HE7.out
    obtain ⟨fa2, fb2, fc2, _, _, _, fz2⟩ := HF7.out
    obtain ⟨fa3, fb3, fc3, _, _, _, fz3⟩ := HG7.out
    have HEd := Lib.hid HE7.out
    have HBd := Lib.hid (HB7.out)
    obtain ⟨N, hN1, hN2⟩ : ∃ N, w0.heap.size < N ∧ N ≤ (w6.alloc (.cells #[.int .i64 0, .int .i64 0, .string ⟨#[]⟩] 24)).heap.size := ⟨_, HEd.out.sz, Nat.le_refl _⟩
    have HN2 := Lib.hid hN2
    clear hN2
    go_wp2_with fail
    refine wp_region_quiet_litC (C := fun w' => Below w.heap.size w w' ∧ w'.cell? ⟨w0.heap.size, 0, none⟩ = some (.int .i64 f) ∧ w'.cell? ⟨w0.heap.size, 1, none⟩ = some (.int .i64 t) ∧ w'.cell? ⟨w0.heap.size, 2, none⟩ = some (.string i) ∧ N ≤ w'.heap.size) (by kernel_rfl) (by kernel_rfl) ⟨HBd.out.drew, HEd.out.drew.a0, HEd.out.drew.a1, HEd.out.drew.a2, HN2.out⟩ ?_
    iterate 24 (first | go_big_quiet_skip | (go_big_quiet_want; first | (go_big_quiet_op; go_big_quiet_on) | (apply Exists.intro; refine ⟨fun w' hC => ?_, ?_⟩; (obtain ⟨cB, c0, c1, c2, cX⟩ := hC; go_simp; first | done | rfl | exact ⟨rfl, rfl⟩ | (go_at_call 22; refine (editsClash_impl s f t i f t i _ HSF.out HSL.out HIL.out HIL.out _).mono ?_; rintro e w8 ⟨rfl, hb8⟩; exact ⟨rfl, cB.trans (hb8.mono cB.size), (hb8.cell (Nat.lt_of_lt_of_le hN1 cX)).trans c0, (hb8.cell (Nat.lt_of_lt_of_le hN1 cX)).trans c1, (hb8.cell (Nat.lt_of_lt_of_le hN1 cX)).trans c2, Nat.le_trans cX hb8.size⟩) | (go_at_call 24; refine (editValid_impl s f t i _ HV.out HSL.out HIL.out _).mono ?_; rintro e w8 ⟨rfl, hb8⟩; exact ⟨rfl, cB.trans (hb8.mono cB.size), (hb8.cell (Nat.lt_of_lt_of_le hN1 cX)).trans c0, (hb8.cell (Nat.lt_of_lt_of_le hN1 cX)).trans c1, (hb8.cell (Nat.lt_of_lt_of_le hN1 cX)).trans c2, Nat.le_trans cX hb8.size⟩)); (simp only [Act.put, List.setIfInBounds_toArray, List.set_cons_zero, List.set_cons_succ]); go_big_quiet_on)))
    refine wpQuiet_nil ?_
    intro w9 hC
    have HB9 := Lib.hid hC.1
    clear hC
    go_wp2_with fail
    go_ret
    exact ⟨by first | rfl | exact congrArg Ending.returned (congrArg Value.bool (by simp)), HB9.out⟩
  case true =>
    have HV := Lib.hid hv
    by_cases hlt : f < t
    case pos =>
      have HSF : Hid (ecB s f t i f t i = true) := Lib.hid (by rw [ecB_self, hv]; simp [hlt])
      have hltd : decide (f < t) = true := decide_eq_true hlt
      rcases hc : ecB s f t i g u j with _ | _
      case true =>
        have HC := Lib.hid hc
        have HCS : Hid (ecB s g u j f t i = true) := Lib.hid (by rw [← ecB_swap]; exact hc)
        have HT : Hid (trB s f t i g u j true = false) := Lib.hid (trB_ecB hc)
        clear hc hv
        have HB1 := Lib.hid (HB0.out.alloc HB0.out.size (.cells #[.int .i64 f, .int .i64 t, .string i] 24))
        have HE1 := Lib.hid (edAt_new w0 f t i 24)
        have HB2 := Lib.hid (HB1.out.alloc HB1.out.size (.cells #[.int .i64 g, .int .i64 u, .string j] 24))
        have HE2 := Lib.hid (HE1.out.below ((Below.refl _ _).alloc (Nat.le_refl _) (.cells #[.int .i64 g, .int .i64 u, .string j] 24)))
        have HF2 := Lib.hid (by have h := edAt_new (w0.alloc (.cells #[.int .i64 f, .int .i64 t, .string i] 24)) g u j 24; rw [size_alloc1] at h; exact h)
        obtain ⟨fa1, fb1, fc1, _, _, _, fz1⟩ := HE2.out
        obtain ⟨fa2, fb2, fc2, _, _, _, fz2⟩ := HF2.out
        go_wp2_with fail
        go_at_call 22
        refine (editsClash_impl s f t i g u j _ HC.out HSL.out HIL.out HJL.out _).mono ?_
        rintro e w3 ⟨rfl, hb3⟩
        have HB3 := Lib.hid (HB2.out.trans (hb3.mono HB2.out.size))
        have HE3 := Lib.hid (HE2.out.below hb3)
        have HF3 := Lib.hid (HF2.out.below hb3)
        clear hb3
        clear fa1 fb1 fc1 fz1 fa2 fb2 fc2 fz2
        obtain ⟨fa1, fb1, fc1, _, _, _, fz1⟩ := HE3.out
        obtain ⟨fa2, fb2, fc2, _, _, _, fz2⟩ := HF3.out
        go_wp2_with fail
        go_at_call 23
        refine (editsClash_spec s f t i g u j _ HC.out HSL.out HIL.out HJL.out _).mono ?_
        rintro e w4 ⟨rfl, hb4⟩
        have HB4 := Lib.hid (HB3.out.trans (hb4.mono HB3.out.size))
        have HE4 := Lib.hid (HE3.out.below hb4)
        have HF4 := Lib.hid (HF3.out.below hb4)
        clear hb4
        clear fa1 fb1 fc1 fz1 fa2 fb2 fc2 fz2
        obtain ⟨fa1, fb1, fc1, _, _, _, fz1⟩ := HE4.out
        obtain ⟨fa2, fb2, fc2, _, _, _, fz2⟩ := HF4.out
        go_wp2_with fail
        go_at_call 22
        refine (editsClash_impl s g u j f t i _ HCS.out HSL.out HJL.out HIL.out _).mono ?_
        rintro e w5 ⟨rfl, hb5⟩
        have HB5 := Lib.hid (HB4.out.trans (hb5.mono HB4.out.size))
        have HE5 := Lib.hid (HE4.out.below hb5)
        have HF5 := Lib.hid (HF4.out.below hb5)
        clear hb5
        clear fa1 fb1 fc1 fz1 fa2 fb2 fc2 fz2
        obtain ⟨fa1, fb1, fc1, _, _, _, fz1⟩ := HE5.out
        obtain ⟨fa2, fb2, fc2, _, _, _, fz2⟩ := HF5.out
        go_wp2_with fail
        go_at_call 18
        refine (transform_impl_no s f t i g u j true HT.out HSL.out HIL.out HJL.out _).mono ?_
        rintro e w6 ⟨rfl, hb6⟩
        have HB6 := Lib.hid (HB5.out.trans (hb6.mono HB5.out.size))
        have HE6 := Lib.hid (HE5.out.below hb6)
        have HF6 := Lib.hid (HF5.out.below hb6)
        clear hb6
        clear fa1 fb1 fc1 fz1 fa2 fb2 fc2 fz2
        have HB7 := Lib.hid (HB6.out.alloc HB6.out.size (.cells #[.int .i64 0, .int .i64 0, .string ⟨#[]⟩] 24))
        have HE7 := Lib.hid (HE6.out.below ((Below.refl _ _).alloc (Nat.le_refl _) (.cells #[.int .i64 0, .int .i64 0, .string ⟨#[]⟩] 24)))
        have HF7 := Lib.hid (HF6.out.below ((Below.refl _ _).alloc (Nat.le_refl _) (.cells #[.int .i64 0, .int .i64 0, .string ⟨#[]⟩] 24)))
        have HG7 := Lib.hid (edAt_new w6 0 0 ⟨#[]⟩ 24)
        obtain ⟨fa1, fb1, fc1, _, _, _, fz1⟩ := HE7.out
        obtain ⟨fa2, fb2, fc2, _, _, _, fz2⟩ := HF7.out
        obtain ⟨fa3, fb3, fc3, _, _, _, fz3⟩ := HG7.out
        have HEd := Lib.hid HE7.out
        have HBd := Lib.hid (HB7.out)
        obtain ⟨N, hN1, hN2⟩ : ∃ N, w0.heap.size < N ∧ N ≤ (w6.alloc (.cells #[.int .i64 0, .int .i64 0, .string ⟨#[]⟩] 24)).heap.size := ⟨_, HEd.out.sz, Nat.le_refl _⟩
        have HN2 := Lib.hid hN2
        clear hN2
        go_wp2_with fail
        refine wp_region_quiet_litC (C := fun w' => Below w.heap.size w w' ∧ w'.cell? ⟨w0.heap.size, 0, none⟩ = some (.int .i64 f) ∧ w'.cell? ⟨w0.heap.size, 1, none⟩ = some (.int .i64 t) ∧ w'.cell? ⟨w0.heap.size, 2, none⟩ = some (.string i) ∧ N ≤ w'.heap.size) (by kernel_rfl) (by kernel_rfl) ⟨HBd.out.drew, HEd.out.drew.a0, HEd.out.drew.a1, HEd.out.drew.a2, HN2.out⟩ ?_
        iterate 24 (first | go_big_quiet_skip | (go_big_quiet_want; first | (go_big_quiet_op; go_big_quiet_on) | (apply Exists.intro; refine ⟨fun w' hC => ?_, ?_⟩; (obtain ⟨cB, c0, c1, c2, cX⟩ := hC; go_simp; first | done | rfl | exact ⟨rfl, rfl⟩ | (go_at_call 22; refine (editsClash_impl s f t i f t i _ HSF.out HSL.out HIL.out HIL.out _).mono ?_; rintro e w8 ⟨rfl, hb8⟩; exact ⟨rfl, cB.trans (hb8.mono cB.size), (hb8.cell (Nat.lt_of_lt_of_le hN1 cX)).trans c0, (hb8.cell (Nat.lt_of_lt_of_le hN1 cX)).trans c1, (hb8.cell (Nat.lt_of_lt_of_le hN1 cX)).trans c2, Nat.le_trans cX hb8.size⟩) | (go_at_call 24; refine (editValid_impl s f t i _ HV.out HSL.out HIL.out _).mono ?_; rintro e w8 ⟨rfl, hb8⟩; exact ⟨rfl, cB.trans (hb8.mono cB.size), (hb8.cell (Nat.lt_of_lt_of_le hN1 cX)).trans c0, (hb8.cell (Nat.lt_of_lt_of_le hN1 cX)).trans c1, (hb8.cell (Nat.lt_of_lt_of_le hN1 cX)).trans c2, Nat.le_trans cX hb8.size⟩)); (simp only [Act.put, List.setIfInBounds_toArray, List.set_cons_zero, List.set_cons_succ]); go_big_quiet_on)))
        refine wpQuiet_nil ?_
        intro w9 hC
        have HB9 := Lib.hid hC.1
        clear hC
        go_wp2_with fail
        go_ret
        exact ⟨by first | rfl | exact congrArg Ending.returned (congrArg Value.bool (by simp)), HB9.out⟩
      case false =>
        have HC := Lib.hid hc
        have HCS : Hid (ecB s g u j f t i = false) := Lib.hid (by rw [← ecB_swap]; exact hc)
        clear hc hv
        rcases ht : trB s f t i g u j true with _ | _
        case false =>
          have HT := Lib.hid ht
          clear ht
          have HB1 := Lib.hid (HB0.out.alloc HB0.out.size (.cells #[.int .i64 f, .int .i64 t, .string i] 24))
          have HE1 := Lib.hid (edAt_new w0 f t i 24)
          have HB2 := Lib.hid (HB1.out.alloc HB1.out.size (.cells #[.int .i64 g, .int .i64 u, .string j] 24))
          have HE2 := Lib.hid (HE1.out.below ((Below.refl _ _).alloc (Nat.le_refl _) (.cells #[.int .i64 g, .int .i64 u, .string j] 24)))
          have HF2 := Lib.hid (by have h := edAt_new (w0.alloc (.cells #[.int .i64 f, .int .i64 t, .string i] 24)) g u j 24; rw [size_alloc1] at h; exact h)
          obtain ⟨fa1, fb1, fc1, _, _, _, fz1⟩ := HE2.out
          obtain ⟨fa2, fb2, fc2, _, _, _, fz2⟩ := HF2.out
          go_wp2_with fail
          go_at_call 22
          refine (editsClash_impl s f t i g u j _ HC.out HSL.out HIL.out HJL.out _).mono ?_
          rintro e w3 ⟨rfl, hb3⟩
          have HB3 := Lib.hid (HB2.out.trans (hb3.mono HB2.out.size))
          have HE3 := Lib.hid (HE2.out.below hb3)
          have HF3 := Lib.hid (HF2.out.below hb3)
          clear hb3
          clear fa1 fb1 fc1 fz1 fa2 fb2 fc2 fz2
          obtain ⟨fa1, fb1, fc1, _, _, _, fz1⟩ := HE3.out
          obtain ⟨fa2, fb2, fc2, _, _, _, fz2⟩ := HF3.out
          go_wp2_with fail
          go_at_call 23
          refine (editsClash_spec s f t i g u j _ HC.out HSL.out HIL.out HJL.out _).mono ?_
          rintro e w4 ⟨rfl, hb4⟩
          have HB4 := Lib.hid (HB3.out.trans (hb4.mono HB3.out.size))
          have HE4 := Lib.hid (HE3.out.below hb4)
          have HF4 := Lib.hid (HF3.out.below hb4)
          clear hb4
          clear fa1 fb1 fc1 fz1 fa2 fb2 fc2 fz2
          obtain ⟨fa1, fb1, fc1, _, _, _, fz1⟩ := HE4.out
          obtain ⟨fa2, fb2, fc2, _, _, _, fz2⟩ := HF4.out
          go_wp2_with fail
          go_at_call 22
          refine (editsClash_impl s g u j f t i _ HCS.out HSL.out HJL.out HIL.out _).mono ?_
          rintro e w5 ⟨rfl, hb5⟩
          have HB5 := Lib.hid (HB4.out.trans (hb5.mono HB4.out.size))
          have HE5 := Lib.hid (HE4.out.below hb5)
          have HF5 := Lib.hid (HF4.out.below hb5)
          clear hb5
          clear fa1 fb1 fc1 fz1 fa2 fb2 fc2 fz2
          obtain ⟨fa1, fb1, fc1, _, _, _, fz1⟩ := HE5.out
          obtain ⟨fa2, fb2, fc2, _, _, _, fz2⟩ := HF5.out
          go_wp2_with fail
          go_at_call 18
          refine (transform_impl_no s f t i g u j true HT.out HSL.out HIL.out HJL.out _).mono ?_
          rintro e w6 ⟨rfl, hb6⟩
          have HB6 := Lib.hid (HB5.out.trans (hb6.mono HB5.out.size))
          have HE6 := Lib.hid (HE5.out.below hb6)
          have HF6 := Lib.hid (HF5.out.below hb6)
          clear hb6
          clear fa1 fb1 fc1 fz1 fa2 fb2 fc2 fz2
          have HB7 := Lib.hid (HB6.out.alloc HB6.out.size (.cells #[.int .i64 0, .int .i64 0, .string ⟨#[]⟩] 24))
          have HE7 := Lib.hid (HE6.out.below ((Below.refl _ _).alloc (Nat.le_refl _) (.cells #[.int .i64 0, .int .i64 0, .string ⟨#[]⟩] 24)))
          have HF7 := Lib.hid (HF6.out.below ((Below.refl _ _).alloc (Nat.le_refl _) (.cells #[.int .i64 0, .int .i64 0, .string ⟨#[]⟩] 24)))
          have HG7 := Lib.hid (edAt_new w6 0 0 ⟨#[]⟩ 24)
          obtain ⟨fa1, fb1, fc1, _, _, _, fz1⟩ := HE7.out
          obtain ⟨fa2, fb2, fc2, _, _, _, fz2⟩ := HF7.out
          obtain ⟨fa3, fb3, fc3, _, _, _, fz3⟩ := HG7.out
          have HEd := Lib.hid HE7.out
          have HBd := Lib.hid (HB7.out)
          obtain ⟨N, hN1, hN2⟩ : ∃ N, w0.heap.size < N ∧ N ≤ (w6.alloc (.cells #[.int .i64 0, .int .i64 0, .string ⟨#[]⟩] 24)).heap.size := ⟨_, HEd.out.sz, Nat.le_refl _⟩
          have HN2 := Lib.hid hN2
          clear hN2
          go_wp2_with fail
          refine wp_region_quiet_litC (C := fun w' => Below w.heap.size w w' ∧ w'.cell? ⟨w0.heap.size, 0, none⟩ = some (.int .i64 f) ∧ w'.cell? ⟨w0.heap.size, 1, none⟩ = some (.int .i64 t) ∧ w'.cell? ⟨w0.heap.size, 2, none⟩ = some (.string i) ∧ N ≤ w'.heap.size) (by kernel_rfl) (by kernel_rfl) ⟨HBd.out.drew, HEd.out.drew.a0, HEd.out.drew.a1, HEd.out.drew.a2, HN2.out⟩ ?_
          iterate 24 (first | go_big_quiet_skip | (go_big_quiet_want; first | (go_big_quiet_op; go_big_quiet_on) | (apply Exists.intro; refine ⟨fun w' hC => ?_, ?_⟩; (obtain ⟨cB, c0, c1, c2, cX⟩ := hC; go_simp; first | done | rfl | exact ⟨rfl, rfl⟩ | (go_at_call 22; refine (editsClash_impl s f t i f t i _ HSF.out HSL.out HIL.out HIL.out _).mono ?_; rintro e w8 ⟨rfl, hb8⟩; exact ⟨rfl, cB.trans (hb8.mono cB.size), (hb8.cell (Nat.lt_of_lt_of_le hN1 cX)).trans c0, (hb8.cell (Nat.lt_of_lt_of_le hN1 cX)).trans c1, (hb8.cell (Nat.lt_of_lt_of_le hN1 cX)).trans c2, Nat.le_trans cX hb8.size⟩) | (go_at_call 24; refine (editValid_impl s f t i _ HV.out HSL.out HIL.out _).mono ?_; rintro e w8 ⟨rfl, hb8⟩; exact ⟨rfl, cB.trans (hb8.mono cB.size), (hb8.cell (Nat.lt_of_lt_of_le hN1 cX)).trans c0, (hb8.cell (Nat.lt_of_lt_of_le hN1 cX)).trans c1, (hb8.cell (Nat.lt_of_lt_of_le hN1 cX)).trans c2, Nat.le_trans cX hb8.size⟩)); (simp only [Act.put, List.setIfInBounds_toArray, List.set_cons_zero, List.set_cons_succ]); go_big_quiet_on)))
          refine wpQuiet_nil ?_
          intro w9 hC
          have HB9 := Lib.hid hC.1
          clear hC
          go_wp2_with fail
          go_ret
          exact ⟨by first | rfl | exact congrArg Ending.returned (congrArg Value.bool (by simp)), HB9.out⟩
        case true =>
          have HT := Lib.hid ht
          clear ht
          have HB1 := Lib.hid (HB0.out.alloc HB0.out.size (.cells #[.int .i64 f, .int .i64 t, .string i] 24))
          have HE1 := Lib.hid (edAt_new w0 f t i 24)
          have HB2 := Lib.hid (HB1.out.alloc HB1.out.size (.cells #[.int .i64 g, .int .i64 u, .string j] 24))
          have HE2 := Lib.hid (HE1.out.below ((Below.refl _ _).alloc (Nat.le_refl _) (.cells #[.int .i64 g, .int .i64 u, .string j] 24)))
          have HF2 := Lib.hid (by have h := edAt_new (w0.alloc (.cells #[.int .i64 f, .int .i64 t, .string i] 24)) g u j 24; rw [size_alloc1] at h; exact h)
          obtain ⟨fa1, fb1, fc1, _, _, _, fz1⟩ := HE2.out
          obtain ⟨fa2, fb2, fc2, _, _, _, fz2⟩ := HF2.out
          go_wp2_with fail
          go_at_call 22
          refine (editsClash_impl s f t i g u j _ HC.out HSL.out HIL.out HJL.out _).mono ?_
          rintro e w3 ⟨rfl, hb3⟩
          have HB3 := Lib.hid (HB2.out.trans (hb3.mono HB2.out.size))
          have HE3 := Lib.hid (HE2.out.below hb3)
          have HF3 := Lib.hid (HF2.out.below hb3)
          clear hb3
          clear fa1 fb1 fc1 fz1 fa2 fb2 fc2 fz2
          obtain ⟨fa1, fb1, fc1, _, _, _, fz1⟩ := HE3.out
          obtain ⟨fa2, fb2, fc2, _, _, _, fz2⟩ := HF3.out
          go_wp2_with fail
          go_at_call 23
          refine (editsClash_spec s f t i g u j _ HC.out HSL.out HIL.out HJL.out _).mono ?_
          rintro e w4 ⟨rfl, hb4⟩
          have HB4 := Lib.hid (HB3.out.trans (hb4.mono HB3.out.size))
          have HE4 := Lib.hid (HE3.out.below hb4)
          have HF4 := Lib.hid (HF3.out.below hb4)
          clear hb4
          clear fa1 fb1 fc1 fz1 fa2 fb2 fc2 fz2
          obtain ⟨fa1, fb1, fc1, _, _, _, fz1⟩ := HE4.out
          obtain ⟨fa2, fb2, fc2, _, _, _, fz2⟩ := HF4.out
          go_wp2_with fail
          go_at_call 22
          refine (editsClash_impl s g u j f t i _ HCS.out HSL.out HJL.out HIL.out _).mono ?_
          rintro e w5 ⟨rfl, hb5⟩
          have HB5 := Lib.hid (HB4.out.trans (hb5.mono HB4.out.size))
          have HE5 := Lib.hid (HE4.out.below hb5)
          have HF5 := Lib.hid (HF4.out.below hb5)
          clear hb5
          clear fa1 fb1 fc1 fz1 fa2 fb2 fc2 fz2
          obtain ⟨fa1, fb1, fc1, _, _, _, fz1⟩ := HE5.out
          obtain ⟨fa2, fb2, fc2, _, _, _, fz2⟩ := HF5.out
          go_wp2_with fail
          go_at_call 18
          refine (transform_impl_yes s f t i g u j true _ _ HT.out rfl rfl _).mono ?_
          rintro e w6 ⟨rfl, hb6⟩
          have HB6 := Lib.hid (HB5.out.trans (hb6.mono HB5.out.size))
          have HE6 := Lib.hid (HE5.out.below hb6)
          have HF6 := Lib.hid (HF5.out.below hb6)
          clear hb6
          clear fa1 fb1 fc1 fz1 fa2 fb2 fc2 fz2
          have HB7 := Lib.hid (HB6.out.alloc HB6.out.size (.cells #[.int .i64 (f + mv f t g u j true), .int .i64 (t + mv f t g u j true), .string i] 24))
          have HE7 := Lib.hid (HE6.out.below ((Below.refl _ _).alloc (Nat.le_refl _) (.cells #[.int .i64 (f + mv f t g u j true), .int .i64 (t + mv f t g u j true), .string i] 24)))
          have HF7 := Lib.hid (HF6.out.below ((Below.refl _ _).alloc (Nat.le_refl _) (.cells #[.int .i64 (f + mv f t g u j true), .int .i64 (t + mv f t g u j true), .string i] 24)))
          have HG7 := Lib.hid (edAt_new w6 (f + mv f t g u j true) (t + mv f t g u j true) i 24)
          obtain ⟨fa1, fb1, fc1, _, _, _, fz1⟩ := HE7.out
          obtain ⟨fa2, fb2, fc2, _, _, _, fz2⟩ := HF7.out
          obtain ⟨fa3, fb3, fc3, _, _, _, fz3⟩ := HG7.out
          have HEd := Lib.hid HE7.out
          have HBd := Lib.hid (HB7.out)
          obtain ⟨N, hN1, hN2⟩ : ∃ N, w0.heap.size < N ∧ N ≤ (w6.alloc (.cells #[.int .i64 (f + mv f t g u j true), .int .i64 (t + mv f t g u j true), .string i] 24)).heap.size := ⟨_, HEd.out.sz, Nat.le_refl _⟩
          have HN2 := Lib.hid hN2
          clear hN2
          go_wp2_with fail
          refine wp_region_quiet_litC (C := fun w' => Below w.heap.size w w' ∧ w'.cell? ⟨w0.heap.size, 0, none⟩ = some (.int .i64 f) ∧ w'.cell? ⟨w0.heap.size, 1, none⟩ = some (.int .i64 t) ∧ w'.cell? ⟨w0.heap.size, 2, none⟩ = some (.string i) ∧ N ≤ w'.heap.size) (by kernel_rfl) (by kernel_rfl) ⟨HBd.out.drew, HEd.out.drew.a0, HEd.out.drew.a1, HEd.out.drew.a2, HN2.out⟩ ?_
          iterate 24 (first | go_big_quiet_skip | (go_big_quiet_want; first | (go_big_quiet_op; go_big_quiet_on) | (apply Exists.intro; refine ⟨fun w' hC => ?_, ?_⟩; (obtain ⟨cB, c0, c1, c2, cX⟩ := hC; go_simp; first | done | rfl | exact ⟨rfl, rfl⟩ | (go_at_call 22; refine (editsClash_impl s f t i f t i _ HSF.out HSL.out HIL.out HIL.out _).mono ?_; rintro e w8 ⟨rfl, hb8⟩; exact ⟨rfl, cB.trans (hb8.mono cB.size), (hb8.cell (Nat.lt_of_lt_of_le hN1 cX)).trans c0, (hb8.cell (Nat.lt_of_lt_of_le hN1 cX)).trans c1, (hb8.cell (Nat.lt_of_lt_of_le hN1 cX)).trans c2, Nat.le_trans cX hb8.size⟩) | (go_at_call 24; refine (editValid_impl s f t i _ HV.out HSL.out HIL.out _).mono ?_; rintro e w8 ⟨rfl, hb8⟩; exact ⟨rfl, cB.trans (hb8.mono cB.size), (hb8.cell (Nat.lt_of_lt_of_le hN1 cX)).trans c0, (hb8.cell (Nat.lt_of_lt_of_le hN1 cX)).trans c1, (hb8.cell (Nat.lt_of_lt_of_le hN1 cX)).trans c2, Nat.le_trans cX hb8.size⟩)); (simp only [Act.put, List.setIfInBounds_toArray, List.set_cons_zero, List.set_cons_succ]); go_big_quiet_on)))
          refine wpQuiet_nil ?_
          intro w9 hC
          have HB9 := Lib.hid hC.1
          clear hC
          go_wp2_with fail
          go_ret
          exact ⟨by first | rfl | exact congrArg Ending.returned (congrArg Value.bool (by simp)), HB9.out⟩
    case neg =>
      have HSF : Hid (ecB s f t i f t i = false) := Lib.hid (by rw [ecB_self, hv]; simp [hlt])
      have hltd : decide (f < t) = false := decide_eq_false hlt
      rcases hc : ecB s f t i g u j with _ | _
      case true =>
        have HC := Lib.hid hc
        have HCS : Hid (ecB s g u j f t i = true) := Lib.hid (by rw [← ecB_swap]; exact hc)
        have HT : Hid (trB s f t i g u j true = false) := Lib.hid (trB_ecB hc)
        clear hc hv
        have HB1 := Lib.hid (HB0.out.alloc HB0.out.size (.cells #[.int .i64 f, .int .i64 t, .string i] 24))
        have HE1 := Lib.hid (edAt_new w0 f t i 24)
        have HB2 := Lib.hid (HB1.out.alloc HB1.out.size (.cells #[.int .i64 g, .int .i64 u, .string j] 24))
        have HE2 := Lib.hid (HE1.out.below ((Below.refl _ _).alloc (Nat.le_refl _) (.cells #[.int .i64 g, .int .i64 u, .string j] 24)))
        have HF2 := Lib.hid (by have h := edAt_new (w0.alloc (.cells #[.int .i64 f, .int .i64 t, .string i] 24)) g u j 24; rw [size_alloc1] at h; exact h)
        obtain ⟨fa1, fb1, fc1, _, _, _, fz1⟩ := HE2.out
        obtain ⟨fa2, fb2, fc2, _, _, _, fz2⟩ := HF2.out
        go_wp2_with fail
        go_at_call 22
        refine (editsClash_impl s f t i g u j _ HC.out HSL.out HIL.out HJL.out _).mono ?_
        rintro e w3 ⟨rfl, hb3⟩
        have HB3 := Lib.hid (HB2.out.trans (hb3.mono HB2.out.size))
        have HE3 := Lib.hid (HE2.out.below hb3)
        have HF3 := Lib.hid (HF2.out.below hb3)
        clear hb3
        clear fa1 fb1 fc1 fz1 fa2 fb2 fc2 fz2
        obtain ⟨fa1, fb1, fc1, _, _, _, fz1⟩ := HE3.out
        obtain ⟨fa2, fb2, fc2, _, _, _, fz2⟩ := HF3.out
        go_wp2_with fail
        go_at_call 23
        refine (editsClash_spec s f t i g u j _ HC.out HSL.out HIL.out HJL.out _).mono ?_
        rintro e w4 ⟨rfl, hb4⟩
        have HB4 := Lib.hid (HB3.out.trans (hb4.mono HB3.out.size))
        have HE4 := Lib.hid (HE3.out.below hb4)
        have HF4 := Lib.hid (HF3.out.below hb4)
        clear hb4
        clear fa1 fb1 fc1 fz1 fa2 fb2 fc2 fz2
        obtain ⟨fa1, fb1, fc1, _, _, _, fz1⟩ := HE4.out
        obtain ⟨fa2, fb2, fc2, _, _, _, fz2⟩ := HF4.out
        go_wp2_with fail
        go_at_call 22
        refine (editsClash_impl s g u j f t i _ HCS.out HSL.out HJL.out HIL.out _).mono ?_
        rintro e w5 ⟨rfl, hb5⟩
        have HB5 := Lib.hid (HB4.out.trans (hb5.mono HB4.out.size))
        have HE5 := Lib.hid (HE4.out.below hb5)
        have HF5 := Lib.hid (HF4.out.below hb5)
        clear hb5
        clear fa1 fb1 fc1 fz1 fa2 fb2 fc2 fz2
        obtain ⟨fa1, fb1, fc1, _, _, _, fz1⟩ := HE5.out
        obtain ⟨fa2, fb2, fc2, _, _, _, fz2⟩ := HF5.out
        go_wp2_with fail
        go_at_call 18
        refine (transform_impl_no s f t i g u j true HT.out HSL.out HIL.out HJL.out _).mono ?_
        rintro e w6 ⟨rfl, hb6⟩
        have HB6 := Lib.hid (HB5.out.trans (hb6.mono HB5.out.size))
        have HE6 := Lib.hid (HE5.out.below hb6)
        have HF6 := Lib.hid (HF5.out.below hb6)
        clear hb6
        clear fa1 fb1 fc1 fz1 fa2 fb2 fc2 fz2
        have HB7 := Lib.hid (HB6.out.alloc HB6.out.size (.cells #[.int .i64 0, .int .i64 0, .string ⟨#[]⟩] 24))
        have HE7 := Lib.hid (HE6.out.below ((Below.refl _ _).alloc (Nat.le_refl _) (.cells #[.int .i64 0, .int .i64 0, .string ⟨#[]⟩] 24)))
        have HF7 := Lib.hid (HF6.out.below ((Below.refl _ _).alloc (Nat.le_refl _) (.cells #[.int .i64 0, .int .i64 0, .string ⟨#[]⟩] 24)))
        have HG7 := Lib.hid (edAt_new w6 0 0 ⟨#[]⟩ 24)
        obtain ⟨fa1, fb1, fc1, _, _, _, fz1⟩ := HE7.out
        obtain ⟨fa2, fb2, fc2, _, _, _, fz2⟩ := HF7.out
        obtain ⟨fa3, fb3, fc3, _, _, _, fz3⟩ := HG7.out
        have HEd := Lib.hid HE7.out
        have HBd := Lib.hid (HB7.out)
        obtain ⟨N, hN1, hN2⟩ : ∃ N, w0.heap.size < N ∧ N ≤ (w6.alloc (.cells #[.int .i64 0, .int .i64 0, .string ⟨#[]⟩] 24)).heap.size := ⟨_, HEd.out.sz, Nat.le_refl _⟩
        have HN2 := Lib.hid hN2
        clear hN2
        go_wp2_with fail
        refine wp_region_quiet_litC (C := fun w' => Below w.heap.size w w' ∧ w'.cell? ⟨w0.heap.size, 0, none⟩ = some (.int .i64 f) ∧ w'.cell? ⟨w0.heap.size, 1, none⟩ = some (.int .i64 t) ∧ w'.cell? ⟨w0.heap.size, 2, none⟩ = some (.string i) ∧ N ≤ w'.heap.size) (by kernel_rfl) (by kernel_rfl) ⟨HBd.out.drew, HEd.out.drew.a0, HEd.out.drew.a1, HEd.out.drew.a2, HN2.out⟩ ?_
        iterate 24 (first | go_big_quiet_skip | (go_big_quiet_want; first | (go_big_quiet_op; go_big_quiet_on) | (apply Exists.intro; refine ⟨fun w' hC => ?_, ?_⟩; (obtain ⟨cB, c0, c1, c2, cX⟩ := hC; go_simp; first | done | rfl | exact ⟨rfl, rfl⟩ | (go_at_call 22; refine (editsClash_impl s f t i f t i _ HSF.out HSL.out HIL.out HIL.out _).mono ?_; rintro e w8 ⟨rfl, hb8⟩; exact ⟨rfl, cB.trans (hb8.mono cB.size), (hb8.cell (Nat.lt_of_lt_of_le hN1 cX)).trans c0, (hb8.cell (Nat.lt_of_lt_of_le hN1 cX)).trans c1, (hb8.cell (Nat.lt_of_lt_of_le hN1 cX)).trans c2, Nat.le_trans cX hb8.size⟩) | (go_at_call 24; refine (editValid_impl s f t i _ HV.out HSL.out HIL.out _).mono ?_; rintro e w8 ⟨rfl, hb8⟩; exact ⟨rfl, cB.trans (hb8.mono cB.size), (hb8.cell (Nat.lt_of_lt_of_le hN1 cX)).trans c0, (hb8.cell (Nat.lt_of_lt_of_le hN1 cX)).trans c1, (hb8.cell (Nat.lt_of_lt_of_le hN1 cX)).trans c2, Nat.le_trans cX hb8.size⟩)); (simp only [Act.put, List.setIfInBounds_toArray, List.set_cons_zero, List.set_cons_succ]); go_big_quiet_on)))
        refine wpQuiet_nil ?_
        intro w9 hC
        have HB9 := Lib.hid hC.1
        clear hC
        go_wp2_with fail
        go_ret
        exact ⟨by first | rfl | exact congrArg Ending.returned (congrArg Value.bool (by simp)), HB9.out⟩
      case false =>
        have HC := Lib.hid hc
        have HCS : Hid (ecB s g u j f t i = false) := Lib.hid (by rw [← ecB_swap]; exact hc)
        clear hc hv
        rcases ht : trB s f t i g u j true with _ | _
        case false =>
          have HT := Lib.hid ht
          clear ht
          have HB1 := Lib.hid (HB0.out.alloc HB0.out.size (.cells #[.int .i64 f, .int .i64 t, .string i] 24))
          have HE1 := Lib.hid (edAt_new w0 f t i 24)
          have HB2 := Lib.hid (HB1.out.alloc HB1.out.size (.cells #[.int .i64 g, .int .i64 u, .string j] 24))
          have HE2 := Lib.hid (HE1.out.below ((Below.refl _ _).alloc (Nat.le_refl _) (.cells #[.int .i64 g, .int .i64 u, .string j] 24)))
          have HF2 := Lib.hid (by have h := edAt_new (w0.alloc (.cells #[.int .i64 f, .int .i64 t, .string i] 24)) g u j 24; rw [size_alloc1] at h; exact h)
          obtain ⟨fa1, fb1, fc1, _, _, _, fz1⟩ := HE2.out
          obtain ⟨fa2, fb2, fc2, _, _, _, fz2⟩ := HF2.out
          go_wp2_with fail
          go_at_call 22
          refine (editsClash_impl s f t i g u j _ HC.out HSL.out HIL.out HJL.out _).mono ?_
          rintro e w3 ⟨rfl, hb3⟩
          have HB3 := Lib.hid (HB2.out.trans (hb3.mono HB2.out.size))
          have HE3 := Lib.hid (HE2.out.below hb3)
          have HF3 := Lib.hid (HF2.out.below hb3)
          clear hb3
          clear fa1 fb1 fc1 fz1 fa2 fb2 fc2 fz2
          obtain ⟨fa1, fb1, fc1, _, _, _, fz1⟩ := HE3.out
          obtain ⟨fa2, fb2, fc2, _, _, _, fz2⟩ := HF3.out
          go_wp2_with fail
          go_at_call 23
          refine (editsClash_spec s f t i g u j _ HC.out HSL.out HIL.out HJL.out _).mono ?_
          rintro e w4 ⟨rfl, hb4⟩
          have HB4 := Lib.hid (HB3.out.trans (hb4.mono HB3.out.size))
          have HE4 := Lib.hid (HE3.out.below hb4)
          have HF4 := Lib.hid (HF3.out.below hb4)
          clear hb4
          clear fa1 fb1 fc1 fz1 fa2 fb2 fc2 fz2
          obtain ⟨fa1, fb1, fc1, _, _, _, fz1⟩ := HE4.out
          obtain ⟨fa2, fb2, fc2, _, _, _, fz2⟩ := HF4.out
          go_wp2_with fail
          go_at_call 22
          refine (editsClash_impl s g u j f t i _ HCS.out HSL.out HJL.out HIL.out _).mono ?_
          rintro e w5 ⟨rfl, hb5⟩
          have HB5 := Lib.hid (HB4.out.trans (hb5.mono HB4.out.size))
          have HE5 := Lib.hid (HE4.out.below hb5)
          have HF5 := Lib.hid (HF4.out.below hb5)
          clear hb5
          clear fa1 fb1 fc1 fz1 fa2 fb2 fc2 fz2
          obtain ⟨fa1, fb1, fc1, _, _, _, fz1⟩ := HE5.out
          obtain ⟨fa2, fb2, fc2, _, _, _, fz2⟩ := HF5.out
          go_wp2_with fail
          go_at_call 18
          refine (transform_impl_no s f t i g u j true HT.out HSL.out HIL.out HJL.out _).mono ?_
          rintro e w6 ⟨rfl, hb6⟩
          have HB6 := Lib.hid (HB5.out.trans (hb6.mono HB5.out.size))
          have HE6 := Lib.hid (HE5.out.below hb6)
          have HF6 := Lib.hid (HF5.out.below hb6)
          clear hb6
          clear fa1 fb1 fc1 fz1 fa2 fb2 fc2 fz2
          have HB7 := Lib.hid (HB6.out.alloc HB6.out.size (.cells #[.int .i64 0, .int .i64 0, .string ⟨#[]⟩] 24))
          have HE7 := Lib.hid (HE6.out.below ((Below.refl _ _).alloc (Nat.le_refl _) (.cells #[.int .i64 0, .int .i64 0, .string ⟨#[]⟩] 24)))
          have HF7 := Lib.hid (HF6.out.below ((Below.refl _ _).alloc (Nat.le_refl _) (.cells #[.int .i64 0, .int .i64 0, .string ⟨#[]⟩] 24)))
          have HG7 := Lib.hid (edAt_new w6 0 0 ⟨#[]⟩ 24)
          obtain ⟨fa1, fb1, fc1, _, _, _, fz1⟩ := HE7.out
          obtain ⟨fa2, fb2, fc2, _, _, _, fz2⟩ := HF7.out
          obtain ⟨fa3, fb3, fc3, _, _, _, fz3⟩ := HG7.out
          have HEd := Lib.hid HE7.out
          have HBd := Lib.hid (HB7.out)
          obtain ⟨N, hN1, hN2⟩ : ∃ N, w0.heap.size < N ∧ N ≤ (w6.alloc (.cells #[.int .i64 0, .int .i64 0, .string ⟨#[]⟩] 24)).heap.size := ⟨_, HEd.out.sz, Nat.le_refl _⟩
          have HN2 := Lib.hid hN2
          clear hN2
          go_wp2_with fail
          refine wp_region_quiet_litC (C := fun w' => Below w.heap.size w w' ∧ w'.cell? ⟨w0.heap.size, 0, none⟩ = some (.int .i64 f) ∧ w'.cell? ⟨w0.heap.size, 1, none⟩ = some (.int .i64 t) ∧ w'.cell? ⟨w0.heap.size, 2, none⟩ = some (.string i) ∧ N ≤ w'.heap.size) (by kernel_rfl) (by kernel_rfl) ⟨HBd.out.drew, HEd.out.drew.a0, HEd.out.drew.a1, HEd.out.drew.a2, HN2.out⟩ ?_
          iterate 24 (first | go_big_quiet_skip | (go_big_quiet_want; first | (go_big_quiet_op; go_big_quiet_on) | (apply Exists.intro; refine ⟨fun w' hC => ?_, ?_⟩; (obtain ⟨cB, c0, c1, c2, cX⟩ := hC; go_simp; first | done | rfl | exact ⟨rfl, rfl⟩ | (go_at_call 22; refine (editsClash_impl s f t i f t i _ HSF.out HSL.out HIL.out HIL.out _).mono ?_; rintro e w8 ⟨rfl, hb8⟩; exact ⟨rfl, cB.trans (hb8.mono cB.size), (hb8.cell (Nat.lt_of_lt_of_le hN1 cX)).trans c0, (hb8.cell (Nat.lt_of_lt_of_le hN1 cX)).trans c1, (hb8.cell (Nat.lt_of_lt_of_le hN1 cX)).trans c2, Nat.le_trans cX hb8.size⟩) | (go_at_call 24; refine (editValid_impl s f t i _ HV.out HSL.out HIL.out _).mono ?_; rintro e w8 ⟨rfl, hb8⟩; exact ⟨rfl, cB.trans (hb8.mono cB.size), (hb8.cell (Nat.lt_of_lt_of_le hN1 cX)).trans c0, (hb8.cell (Nat.lt_of_lt_of_le hN1 cX)).trans c1, (hb8.cell (Nat.lt_of_lt_of_le hN1 cX)).trans c2, Nat.le_trans cX hb8.size⟩)); (simp only [Act.put, List.setIfInBounds_toArray, List.set_cons_zero, List.set_cons_succ]); go_big_quiet_on)))
          refine wpQuiet_nil ?_
          intro w9 hC
          have HB9 := Lib.hid hC.1
          clear hC
          go_wp2_with fail
          go_ret
          exact ⟨by first | rfl | exact congrArg Ending.returned (congrArg Value.bool (by simp)), HB9.out⟩
        case true =>
          have HT := Lib.hid ht
          clear ht
          have HB1 := Lib.hid (HB0.out.alloc HB0.out.size (.cells #[.int .i64 f, .int .i64 t, .string i] 24))
          have HE1 := Lib.hid (edAt_new w0 f t i 24)
          have HB2 := Lib.hid (HB1.out.alloc HB1.out.size (.cells #[.int .i64 g, .int .i64 u, .string j] 24))
          have HE2 := Lib.hid (HE1.out.below ((Below.refl _ _).alloc (Nat.le_refl _) (.cells #[.int .i64 g, .int .i64 u, .string j] 24)))
          have HF2 := Lib.hid (by have h := edAt_new (w0.alloc (.cells #[.int .i64 f, .int .i64 t, .string i] 24)) g u j 24; rw [size_alloc1] at h; exact h)
          obtain ⟨fa1, fb1, fc1, _, _, _, fz1⟩ := HE2.out
          obtain ⟨fa2, fb2, fc2, _, _, _, fz2⟩ := HF2.out
          go_wp2_with fail
          go_at_call 22
          refine (editsClash_impl s f t i g u j _ HC.out HSL.out HIL.out HJL.out _).mono ?_
          rintro e w3 ⟨rfl, hb3⟩
          have HB3 := Lib.hid (HB2.out.trans (hb3.mono HB2.out.size))
          have HE3 := Lib.hid (HE2.out.below hb3)
          have HF3 := Lib.hid (HF2.out.below hb3)
          clear hb3
          clear fa1 fb1 fc1 fz1 fa2 fb2 fc2 fz2
          obtain ⟨fa1, fb1, fc1, _, _, _, fz1⟩ := HE3.out
          obtain ⟨fa2, fb2, fc2, _, _, _, fz2⟩ := HF3.out
          go_wp2_with fail
          go_at_call 23
          refine (editsClash_spec s f t i g u j _ HC.out HSL.out HIL.out HJL.out _).mono ?_
          rintro e w4 ⟨rfl, hb4⟩
          have HB4 := Lib.hid (HB3.out.trans (hb4.mono HB3.out.size))
          have HE4 := Lib.hid (HE3.out.below hb4)
          have HF4 := Lib.hid (HF3.out.below hb4)
          clear hb4
          clear fa1 fb1 fc1 fz1 fa2 fb2 fc2 fz2
          obtain ⟨fa1, fb1, fc1, _, _, _, fz1⟩ := HE4.out
          obtain ⟨fa2, fb2, fc2, _, _, _, fz2⟩ := HF4.out
          go_wp2_with fail
          go_at_call 22
          refine (editsClash_impl s g u j f t i _ HCS.out HSL.out HJL.out HIL.out _).mono ?_
          rintro e w5 ⟨rfl, hb5⟩
          have HB5 := Lib.hid (HB4.out.trans (hb5.mono HB4.out.size))
          have HE5 := Lib.hid (HE4.out.below hb5)
          have HF5 := Lib.hid (HF4.out.below hb5)
          clear hb5
          clear fa1 fb1 fc1 fz1 fa2 fb2 fc2 fz2
          obtain ⟨fa1, fb1, fc1, _, _, _, fz1⟩ := HE5.out
          obtain ⟨fa2, fb2, fc2, _, _, _, fz2⟩ := HF5.out
          go_wp2_with fail
          go_at_call 18
          refine (transform_impl_yes s f t i g u j true _ _ HT.out rfl rfl _).mono ?_
          rintro e w6 ⟨rfl, hb6⟩
          have HB6 := Lib.hid (HB5.out.trans (hb6.mono HB5.out.size))
          have HE6 := Lib.hid (HE5.out.below hb6)
          have HF6 := Lib.hid (HF5.out.below hb6)
          clear hb6
          clear fa1 fb1 fc1 fz1 fa2 fb2 fc2 fz2
          have HB7 := Lib.hid (HB6.out.alloc HB6.out.size (.cells #[.int .i64 (f + mv f t g u j true), .int .i64 (t + mv f t g u j true), .string i] 24))
          have HE7 := Lib.hid (HE6.out.below ((Below.refl _ _).alloc (Nat.le_refl _) (.cells #[.int .i64 (f + mv f t g u j true), .int .i64 (t + mv f t g u j true), .string i] 24)))
          have HF7 := Lib.hid (HF6.out.below ((Below.refl _ _).alloc (Nat.le_refl _) (.cells #[.int .i64 (f + mv f t g u j true), .int .i64 (t + mv f t g u j true), .string i] 24)))
          have HG7 := Lib.hid (edAt_new w6 (f + mv f t g u j true) (t + mv f t g u j true) i 24)
          obtain ⟨fa1, fb1, fc1, _, _, _, fz1⟩ := HE7.out
          obtain ⟨fa2, fb2, fc2, _, _, _, fz2⟩ := HF7.out
          obtain ⟨fa3, fb3, fc3, _, _, _, fz3⟩ := HG7.out
          have HEd := Lib.hid HE7.out
          have HBd := Lib.hid (HB7.out)
          obtain ⟨N, hN1, hN2⟩ : ∃ N, w0.heap.size < N ∧ N ≤ (w6.alloc (.cells #[.int .i64 (f + mv f t g u j true), .int .i64 (t + mv f t g u j true), .string i] 24)).heap.size := ⟨_, HEd.out.sz, Nat.le_refl _⟩
          have HN2 := Lib.hid hN2
          clear hN2
          go_wp2_with fail
          refine wp_region_quiet_litC (C := fun w' => Below w.heap.size w w' ∧ w'.cell? ⟨w0.heap.size, 0, none⟩ = some (.int .i64 f) ∧ w'.cell? ⟨w0.heap.size, 1, none⟩ = some (.int .i64 t) ∧ w'.cell? ⟨w0.heap.size, 2, none⟩ = some (.string i) ∧ N ≤ w'.heap.size) (by kernel_rfl) (by kernel_rfl) ⟨HBd.out.drew, HEd.out.drew.a0, HEd.out.drew.a1, HEd.out.drew.a2, HN2.out⟩ ?_
          iterate 24 (first | go_big_quiet_skip | (go_big_quiet_want; first | (go_big_quiet_op; go_big_quiet_on) | (apply Exists.intro; refine ⟨fun w' hC => ?_, ?_⟩; (obtain ⟨cB, c0, c1, c2, cX⟩ := hC; go_simp; first | done | rfl | exact ⟨rfl, rfl⟩ | (go_at_call 22; refine (editsClash_impl s f t i f t i _ HSF.out HSL.out HIL.out HIL.out _).mono ?_; rintro e w8 ⟨rfl, hb8⟩; exact ⟨rfl, cB.trans (hb8.mono cB.size), (hb8.cell (Nat.lt_of_lt_of_le hN1 cX)).trans c0, (hb8.cell (Nat.lt_of_lt_of_le hN1 cX)).trans c1, (hb8.cell (Nat.lt_of_lt_of_le hN1 cX)).trans c2, Nat.le_trans cX hb8.size⟩) | (go_at_call 24; refine (editValid_impl s f t i _ HV.out HSL.out HIL.out _).mono ?_; rintro e w8 ⟨rfl, hb8⟩; exact ⟨rfl, cB.trans (hb8.mono cB.size), (hb8.cell (Nat.lt_of_lt_of_le hN1 cX)).trans c0, (hb8.cell (Nat.lt_of_lt_of_le hN1 cX)).trans c1, (hb8.cell (Nat.lt_of_lt_of_le hN1 cX)).trans c2, Nat.le_trans cX hb8.size⟩)); (simp only [Act.put, List.setIfInBounds_toArray, List.set_cons_zero, List.set_cons_succ]); go_big_quiet_on)))
          refine wpQuiet_nil ?_
          intro w9 hC
          have HB9 := Lib.hid hC.1
          clear hC
          go_wp2_with fail
          go_ret
          exact ⟨by first | rfl | exact congrArg Ending.returned (congrArg Value.bool (by simp)), HB9.out⟩

set_option maxRecDepth 100000 in
theorem lifted (os : Os) (started : os.Started) (H : Type) (enc : TypeId × Value → H) :
    ReturnsInHanded {} Try.checked os 4 .any (Rows.fnEditsClashSpec.pre6 enc Try.prog Try.f4 Rows.fnEditsClashRow.domain false) (Rows.fnEditsClashSpec.post enc Try.prog Try.f4 false true false false) := by
  refine returnsInHanded_of_change (C := Try.checked) own started (by kernel_rfl) Try.func4
    (ChangeSpec.witness6 (enc := enc) (C := Try.checked) false ⟨#[], #[.slice none 0 0], []⟩ 8 (by kernel_rfl) (by kernel_rfl) (by kernel_rfl) (by kernel_rfl)) ?_
  intro W base args ds gs before hval0 hW hcnd _
  have hval : ∀ (j : Nat) t v, Try.f4.params[j]? = some t → args[j]? = some v → Value.okWide Try.prog W .any base t v := hval0
  have hW' := hW
  obtain ⟨p, q, hA0, hV, rfl, hfz, hnd⟩ := hW
  have hA : DataW.TrodAll enc Try.prog W 0 (fun _ => true) true Try.f4.params.toList args.toList ds p := hA0
  rw [Try.params4] at hA hval
  obtain ⟨v0, vs0, d0, ds0, p0, q0, hargs, rfl, rfl, h0, r0⟩ := trodAll_cons hA
  obtain ⟨rfl, rfl, rfl⟩ := trodAll_nil r0
  obtain rfl : args = #[v0] := by cases args; simp_all
  obtain ⟨rfl, rfl⟩ := trodVars_none hV
  have k0 := h0
  have lt0 : ∀ x ∈ p0, x.block < W.heap.size := by obtain ⟨m, hm⟩ := k0; exact DataW.trod_lt m _ _ _ hm
  obtain ⟨a0, len0, cap0, rfl⟩ := okWide_slice Try.underlying22 (hval 0 22 v0 rfl rfl)
  obtain ⟨z0, w0⟩ : ∃ zs, IsRow W a0 len0 cap0 zs := by
    obtain ⟨fuel, hf⟩ := h0
    rcases open_ints Try.underlying22 Try.underlying5 (by kernel_rfl) hf with ⟨hcs, _⟩ | ⟨x, l, c, zs, hcs, _, hl, hm, hz, _, hcell, hwz⟩
    · simp [Value.cells] at hcs
      obtain ⟨rfl, rfl, rfl⟩ := hcs
      exact ⟨[], .inl ⟨rfl, rfl, rfl, rfl⟩⟩
    · simp [Value.cells] at hcs
      obtain ⟨rfl, rfl, rfl⟩ := hcs
      exact ⟨zs, .inr ⟨_, rfl, hl, hm, by simpa using hz, hcell, hwz⟩⟩
  clear hA0 hval0
  refine (walk a0 len0 cap0 z0 W w0).mono fun e W' ⟨he, bel⟩ => ?_
  subst he
  exact ⟨_, rfl, _, _, _, [], _, [], hW', trodAll_mk1 (shut_bool Try.underlying4 _), (trodAll_cons_mk (Below.trod laidOut (by kernel_rfl) (of_decide_eq_true (by kernel_rfl)) k0 bel lt0) trodAll_mk0), rfl, bel.frame _, fun h => by cases h⟩

theorem over : Rows.fnEditsClashRow.holds Try.pinned (OpenSpec.ofChange Rows.fnEditsClashSpec) :=
  OpenClaim.holds_of_wide 4 Try.f4 rfl rfl rfl rfl rfl rfl rfl ⟨rfl, rfl, rfl, rfl, rfl⟩ rfl rfl rfl rfl rfl (by kernel_rfl) Try.func4 (by kernel_rfl)
    (of_decide_eq_true (by kernel_rfl)) (by unfold Func.isWrapper; first | (rw [if_pos (by decide +kernel)]; kernel_rfl) | (rw [if_neg (by decide +kernel)]; exact ⟨rfl, rfl⟩))
    (fun os started H enc _ => lifted os started H enc)

/-- The given statement. -/
theorem proved : Rows.FnEditsClashSaid := over
end Go.Proofs.Ytdicfjgdceacpaa.fnEditsClash
