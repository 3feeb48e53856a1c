/-
  What the checks and moves of edits return, in the program and in the model of it: whether two edits clash, whether one is behind the other, by how much a text grows, an edit after another one. For edits whose places are at most a million; what was in memory stays.
-/
import Derived.Test.YtnnjnkeabljlaaaProg
import Derived.Test.YtnnjnkeabljlaaaUc
import Derived.Test.YtnnjnkeabljlaaaIa
import Derived.Test.YtnnjnkeabljlaaaTf
import Derived.Deep.RegionHeld3
import Derived.Deep.DeepCutAuto
namespace Go.Proofs.Ytnnjnkeabljlaaa
open Go.RowKit
set_option linter.unusedVariables false
set_option linter.unusedSimpArgs false

theorem bool_of {a b : Bool} (h : a = true ↔ b = true) : a = b := by cases a <;> cases b <;> simp_all
theorem clB_val {f t g u : Int} {b : Bool} (h : (f < u ∧ g < t) ↔ b = true) : clB f t g u = b := bool_of (clB_iff.trans h)
theorem bhB_val {f t g u : Int} {c b : Bool} (h : (if f = g ∧ t = u then c = false else u ≤ f) ↔ b = true) : bhB f t g u c = b := by
  unfold bhB
  by_cases h1 : f = g ∧ t = u
  · rw [if_pos h1] at *; cases c <;> cases b <;> simp_all
  · rw [if_neg h1] at *; exact bool_of ((decide_eq_true_iff).trans h)
set_option maxRecDepth 100000 in
set_option maxHeartbeats 2000000 in
theorem clashes_any (f t : Int) (i : ByteArray) (g u : Int) (j : ByteArray) (b : Bool) (hb : clB f t g u = b) (w : World) :
    Calls Try.prog 35 #[.agg #[.int .i64 f, .int .i64 t, .string i], .agg #[.int .i64 g, .int .i64 u, .string j]] w fun e w' => e = .returned (.bool b) ∧ Below w.heap.size w w' := by
  subst hb
  by_cases h1 : f < u
  case pos =>
    by_cases h2 : g < t
    case pos =>
      have HV : Hid (clB f t g u = true) := Lib.hid (clB_val (by simp [*]))
      go_enter Try.func35, Try.ntmps35
      go_wp2
      go_ret
      exact ⟨ret_bool HV.out.symm, ((Below.refl _ _).alloc (Nat.le_refl _) _).alloc (by simp) _⟩
    case neg =>
      have HV : Hid (clB f t g u = false) := Lib.hid (clB_val (by simp [*]))
      go_enter Try.func35, Try.ntmps35
      go_wp2
      go_ret
      exact ⟨ret_bool HV.out.symm, ((Below.refl _ _).alloc (Nat.le_refl _) _).alloc (by simp) _⟩
  case neg =>
    by_cases h2 : g < t
    case pos =>
      have HV : Hid (clB f t g u = false) := Lib.hid (clB_val (by simp [*]))
      go_enter Try.func35, Try.ntmps35
      go_wp2
      go_ret
      exact ⟨ret_bool HV.out.symm, ((Below.refl _ _).alloc (Nat.le_refl _) _).alloc (by simp) _⟩
    case neg =>
      have HV : Hid (clB f t g u = false) := Lib.hid (clB_val (by simp [*]))
      go_enter Try.func35, Try.ntmps35
      go_wp2
      go_ret
      exact ⟨ret_bool HV.out.symm, ((Below.refl _ _).alloc (Nat.le_refl _) _).alloc (by simp) _⟩

set_option maxRecDepth 100000 in
set_option maxHeartbeats 1000000 in
theorem l8Grow_any (f t : Int) (i : ByteArray) (d : Int) (hd : grw f t i = d) (h0 : 0 ≤ f) (h1 : f ≤ t) (h2 : t ≤ 1000000) (hi : i.size ≤ 1000000) (w : World) :
    Calls Try.prog 33 #[.agg #[.int .i64 f, .int .i64 t, .string i]] w fun e w' => e = .returned (.int .i64 d) ∧ Below w.heap.size w w' := by
  unfold grw at hd
  subst hd
  go_enter Try.func33, Try.ntmps33
  go_wp2
  go_ret
  exact ⟨rfl, (Below.refl _ _).alloc (Nat.le_refl _) _⟩

set_option maxRecDepth 100000 in
set_option maxHeartbeats 1000000 in
theorem growth_at (f t : Int) (i : ByteArray) (d : Int) (hd : grw f t i = d) (h0 : 0 ≤ f) (h1 : f ≤ t) (h2 : t ≤ 1000000) (hi : i.size ≤ 1000000) (w : World) :
    Calls Try.prog 25 #[.agg #[.int .i64 f, .int .i64 t, .string i]] w fun e w' => e = .returned (.int .i64 d) ∧ Below w.heap.size w w' := by
  subst hd
  exact growth_any f t i h0 h1 h2 hi w

set_option maxRecDepth 100000 in
set_option maxHeartbeats 1000000 in
theorem shifted_any (f t : Int) (i : ByteArray) (d : Int) (h0 : -1000000 ≤ f) (h1 : f ≤ 1000000) (h2 : -1000000 ≤ t) (h3 : t ≤ 1000000) (hd : -1000000 ≤ d) (he : d ≤ 1000000) (w : World) :
    Calls Try.prog 42 #[.agg #[.int .i64 f, .int .i64 t, .string i], .int .i64 d] w fun e w' => e = .returned (.agg #[.int .i64 (f + d), .int .i64 (t + d), .string i]) ∧ Below w.heap.size w w' := by
  go_enter Try.func42, Try.ntmps42
  go_wp2
  exact bodyPost_ret (v := .agg #[.int .i64 (f + d), .int .i64 (t + d), .string i]) (by simp [results, Try.results42, go_sem]) rfl ⟨rfl, ((Below.refl _ _).alloc (Nat.le_refl _) _).alloc (by simp) _⟩


end Go.Proofs.Ytnnjnkeabljlaaa
