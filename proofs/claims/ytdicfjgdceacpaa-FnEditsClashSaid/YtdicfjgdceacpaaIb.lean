/-
  What the checks and moves of edits return, in the program and in the model of it: whether two edits clash, whether one is behind the other, by how much a text grows, an edit after another one. For edits whose places are at most a million; what was in memory stays.
-/
import Derived.Test.YtdicfjgdceacpaaProg
import Derived.Test.YtdicfjgdceacpaaUc
import Derived.Test.YtdicfjgdceacpaaIa
import Derived.Test.YtdicfjgdceacpaaTf
import Derived.Deep.RegionHeld3
import Derived.Deep.DeepCutAuto
namespace Go.Proofs.Ytdicfjgdceacpaa
open Go.RowKit
set_option linter.unusedVariables false
set_option linter.unusedSimpArgs false

theorem bool_of {a b : Bool} (h : a = true ↔ b = true) : a = b := by cases a <;> cases b <;> simp_all
theorem clB_val {f t g u : Int} {b : Bool} (h : (f < u ∧ g < t) ↔ b = true) : clB f t g u = b := bool_of (clB_iff.trans h)
theorem bhB_val {f t g u : Int} {c b : Bool} (h : (if f = g ∧ t = u then c = false else u ≤ f) ↔ b = true) : bhB f t g u c = b := by
  unfold bhB
  by_cases h1 : f = g ∧ t = u
  · rw [if_pos h1] at *; cases c <;> cases b <;> simp_all
  · rw [if_neg h1] at *; exact bool_of ((decide_eq_true_iff).trans h)
set_option maxHeartbeats 2000000 in
theorem clashes_any (f t : Int) (i : ByteArray) (g u : Int) (j : ByteArray) (b : Bool) (hb : clB f t g u = b) (w : World) :
    Calls Try.prog 49 #[.agg #[.int .i64 f, .int .i64 t, .string i], .agg #[.int .i64 g, .int .i64 u, .string j]] w fun e w' => e = .returned (.bool b) ∧ Below w.heap.size w w' := by
  subst hb
  by_cases h1 : f < u
  case pos =>
    by_cases h2 : g < t
    case pos =>
      have HV : Hid (clB f t g u = true) := Lib.hid (clB_val (by simp [*]))
      go_enter Try.func49, Try.ntmps49
      go_wp2
      go_ret
      exact ⟨ret_bool HV.out.symm, ((Below.refl _ _).alloc (Nat.le_refl _) _).alloc (by simp) _⟩
    case neg =>
      have HV : Hid (clB f t g u = false) := Lib.hid (clB_val (by simp [*]))
      go_enter Try.func49, Try.ntmps49
      go_wp2
      go_ret
      exact ⟨ret_bool HV.out.symm, ((Below.refl _ _).alloc (Nat.le_refl _) _).alloc (by simp) _⟩
  case neg =>
    by_cases h2 : g < t
    case pos =>
      have HV : Hid (clB f t g u = false) := Lib.hid (clB_val (by simp [*]))
      go_enter Try.func49, Try.ntmps49
      go_wp2
      go_ret
      exact ⟨ret_bool HV.out.symm, ((Below.refl _ _).alloc (Nat.le_refl _) _).alloc (by simp) _⟩
    case neg =>
      have HV : Hid (clB f t g u = false) := Lib.hid (clB_val (by simp [*]))
      go_enter Try.func49, Try.ntmps49
      go_wp2
      go_ret
      exact ⟨ret_bool HV.out.symm, ((Below.refl _ _).alloc (Nat.le_refl _) _).alloc (by simp) _⟩

set_option maxHeartbeats 4000000 in
theorem l8Clash_any (f t : Int) (i : ByteArray) (g u : Int) (j : ByteArray) (b : Bool) (hb : clB f t g u = b) (hp : f ≤ t) (hq : g ≤ u) (w : World) :
    Calls Try.prog 53 #[.agg #[.int .i64 f, .int .i64 t, .string i], .agg #[.int .i64 g, .int .i64 u, .string j]] w fun e w' => e = .returned (.bool b) ∧ Below w.heap.size w w' := by
  subst hb
  by_cases h1 : f = t
  case pos =>
    by_cases h2 : g = u
    case pos =>
      have HV : Hid (clB f t g u = false) := Lib.hid (clB_val (by simp; omega))
      have e1 : (f == t) = true := by simp; omega
      have e2 : (g == u) = true := by simp; omega
      clear h1 h2 hp hq
      go_enter Try.func53, Try.ntmps53
      go_wp2
      go_ret
      exact ⟨ret_bool HV.out.symm, ((Below.refl _ _).alloc (Nat.le_refl _) _).alloc (by simp) _⟩
    case neg =>
      by_cases h3 : g < f
      case pos =>
        by_cases h4 : f < u
        case pos =>
          have HV : Hid (clB f t g u = true) := Lib.hid (clB_val (by simp; omega))
          have e1 : (f == t) = true := by simp; omega
          have e2 : (g == u) = false := by simp; omega
          clear h1 h2 hp hq
          go_enter Try.func53, Try.ntmps53
          go_wp2
          go_ret
          exact ⟨ret_bool HV.out.symm, ((Below.refl _ _).alloc (Nat.le_refl _) _).alloc (by simp) _⟩
        case neg =>
          have HV : Hid (clB f t g u = false) := Lib.hid (clB_val (by simp; omega))
          have e1 : (f == t) = true := by simp; omega
          have e2 : (g == u) = false := by simp; omega
          clear h1 h2 hp hq
          go_enter Try.func53, Try.ntmps53
          go_wp2
          go_ret
          exact ⟨ret_bool HV.out.symm, ((Below.refl _ _).alloc (Nat.le_refl _) _).alloc (by simp) _⟩
      case neg =>
        have HV : Hid (clB f t g u = false) := Lib.hid (clB_val (by simp; omega))
        have e1 : (f == t) = true := by simp; omega
        have e2 : (g == u) = false := by simp; omega
        clear h1 h2 hp hq
        go_enter Try.func53, Try.ntmps53
        go_wp2
        go_ret
        exact ⟨ret_bool HV.out.symm, ((Below.refl _ _).alloc (Nat.le_refl _) _).alloc (by simp) _⟩
  case neg =>
    by_cases h2 : g = u
    case pos =>
      by_cases h3 : f < g
      case pos =>
        by_cases h4 : g < t
        case pos =>
          have HV : Hid (clB f t g u = true) := Lib.hid (clB_val (by simp; omega))
          have e1 : (f == t) = false := by simp; omega
          have e2 : (g == u) = true := by simp; omega
          clear h1 h2 hp hq
          go_enter Try.func53, Try.ntmps53
          go_wp2
          go_ret
          exact ⟨ret_bool HV.out.symm, ((Below.refl _ _).alloc (Nat.le_refl _) _).alloc (by simp) _⟩
        case neg =>
          have HV : Hid (clB f t g u = false) := Lib.hid (clB_val (by simp; omega))
          have e1 : (f == t) = false := by simp; omega
          have e2 : (g == u) = true := by simp; omega
          clear h1 h2 hp hq
          go_enter Try.func53, Try.ntmps53
          go_wp2
          go_ret
          exact ⟨ret_bool HV.out.symm, ((Below.refl _ _).alloc (Nat.le_refl _) _).alloc (by simp) _⟩
      case neg =>
        have HV : Hid (clB f t g u = false) := Lib.hid (clB_val (by simp; omega))
        have e1 : (f == t) = false := by simp; omega
        have e2 : (g == u) = true := by simp; omega
        clear h1 h2 hp hq
        go_enter Try.func53, Try.ntmps53
        go_wp2
        go_ret
        exact ⟨ret_bool HV.out.symm, ((Below.refl _ _).alloc (Nat.le_refl _) _).alloc (by simp) _⟩
    case neg =>
      by_cases h3 : f < u
      case pos =>
        by_cases h4 : g < t
        case pos =>
          have HV : Hid (clB f t g u = true) := Lib.hid (clB_val (by simp; omega))
          have e1 : (f == t) = false := by simp; omega
          have e2 : (g == u) = false := by simp; omega
          clear h1 h2 hp hq
          go_enter Try.func53, Try.ntmps53
          go_wp2
          go_ret
          exact ⟨ret_bool HV.out.symm, ((Below.refl _ _).alloc (Nat.le_refl _) _).alloc (by simp) _⟩
        case neg =>
          have HV : Hid (clB f t g u = false) := Lib.hid (clB_val (by simp; omega))
          have e1 : (f == t) = false := by simp; omega
          have e2 : (g == u) = false := by simp; omega
          clear h1 h2 hp hq
          go_enter Try.func53, Try.ntmps53
          go_wp2
          go_ret
          exact ⟨ret_bool HV.out.symm, ((Below.refl _ _).alloc (Nat.le_refl _) _).alloc (by simp) _⟩
      case neg =>
        have HV : Hid (clB f t g u = false) := Lib.hid (clB_val (by simp; omega))
        have e1 : (f == t) = false := by simp; omega
        have e2 : (g == u) = false := by simp; omega
        clear h1 h2 hp hq
        go_enter Try.func53, Try.ntmps53
        go_wp2
        go_ret
        exact ⟨ret_bool HV.out.symm, ((Below.refl _ _).alloc (Nat.le_refl _) _).alloc (by simp) _⟩

set_option maxHeartbeats 1000000 in
theorem samePlace_any (f t : Int) (i : ByteArray) (g u : Int) (j : ByteArray) (b : Bool) (hb : (f == g && t == u) = b) (w : World) :
    Calls Try.prog 71 #[.agg #[.int .i64 f, .int .i64 t, .string i], .agg #[.int .i64 g, .int .i64 u, .string j]] w fun e w' => e = .returned (.bool b) ∧ Below w.heap.size w w' := by
  subst hb
  by_cases h1 : f = g
  case pos =>
    by_cases h2 : t = u
    case pos =>
      have HV : Hid ((f == g && t == u) = true) := Lib.hid (by simp [h1, h2])
      have e1 : (f == g) = true := by simp [h1]
      have e2 : (t == u) = true := by simp [h2]
      clear h1 h2
      go_enter Try.func71, Try.ntmps71
      go_wp2
      go_ret
      exact ⟨ret_bool HV.out.symm, ((Below.refl _ _).alloc (Nat.le_refl _) _).alloc (by simp) _⟩
    case neg =>
      have HV : Hid ((f == g && t == u) = false) := Lib.hid (by simp [h1, h2])
      have e1 : (f == g) = true := by simp [h1]
      have e2 : (t == u) = false := by simp [h2]
      clear h1 h2
      go_enter Try.func71, Try.ntmps71
      go_wp2
      go_ret
      exact ⟨ret_bool HV.out.symm, ((Below.refl _ _).alloc (Nat.le_refl _) _).alloc (by simp) _⟩
  case neg =>
    have HV : Hid ((f == g && t == u) = false) := Lib.hid (by simp [h1])
    have e1 : (f == g) = false := by simp [h1]
    clear h1
    go_enter Try.func71, Try.ntmps71
    go_wp2
    go_ret
    exact ⟨ret_bool HV.out.symm, ((Below.refl _ _).alloc (Nat.le_refl _) _).alloc (by simp) _⟩

set_option maxHeartbeats 2000000 in
theorem behind_any (f t : Int) (i : ByteArray) (g u : Int) (j : ByteArray) (c b : Bool) (hb : bhB f t g u c = b) (w : World) :
    Calls Try.prog 67 #[.agg #[.int .i64 f, .int .i64 t, .string i], .agg #[.int .i64 g, .int .i64 u, .string j], .bool c] w fun e w' => e = .returned (.bool b) ∧ Below w.heap.size w w' := by
  subst hb
  by_cases h1 : f = g ∧ t = u
  case pos =>
    have HS : Hid ((f == g && t == u) = true) := Lib.hid (by simp [h1.1, h1.2])
    have HV : Hid (bhB f t g u c = !c) := Lib.hid (by unfold bhB; rw [if_pos h1])
    clear h1
    go_enter Try.func67, Try.ntmps67
    go_wp2_with (go_at_call 71; refine (samePlace_any f t i g u j _ HS.out _).mono ?_; rintro e w1 ⟨rfl, hb1⟩)
    go_ret
    exact ⟨ret_bool (by first | exact HV.out.symm | (rw [HV.out]; exact decide_eq_false (by omega)) | (rw [HV.out]; exact decide_eq_true (by omega))), (((Below.refl _ _).alloc (Nat.le_refl _) _).alloc (by simp) _).trans (hb1.mono (by simp; omega))⟩
  case neg =>
    have HS : Hid ((f == g && t == u) = false) := Lib.hid (by simpa using h1)
    by_cases h3 : u ≤ f
    case pos =>
      have HV : Hid (bhB f t g u c = true) := Lib.hid (by unfold bhB; rw [if_neg h1]; simp [h3])
      clear h1
      go_enter Try.func67, Try.ntmps67
      go_wp2_with fail
      go_at_call 71
      refine (samePlace_any f t i g u j _ HS.out _).mono ?_
      rintro e w1 ⟨rfl, hb1⟩
      obtain ⟨hc1, hf1⟩ := bcell hb1
      have hz1 := hb1.size
      simp at hz1
      go_wp2
      go_ret
      exact ⟨ret_bool (by first | exact HV.out.symm | (rw [HV.out]; exact decide_eq_false (by omega)) | (rw [HV.out]; exact decide_eq_true (by omega))), (((Below.refl _ _).alloc (Nat.le_refl _) _).alloc (by simp) _).trans (hb1.mono (by simp; omega))⟩
    case neg =>
      have HV : Hid (bhB f t g u c = false) := Lib.hid (by unfold bhB; rw [if_neg h1]; simp [h3])
      clear h1
      go_enter Try.func67, Try.ntmps67
      go_wp2_with fail
      go_at_call 71
      refine (samePlace_any f t i g u j _ HS.out _).mono ?_
      rintro e w1 ⟨rfl, hb1⟩
      obtain ⟨hc1, hf1⟩ := bcell hb1
      have hz1 := hb1.size
      simp at hz1
      go_wp2
      go_ret
      exact ⟨ret_bool (by first | exact HV.out.symm | (rw [HV.out]; exact decide_eq_false (by omega)) | (rw [HV.out]; exact decide_eq_true (by omega))), (((Below.refl _ _).alloc (Nat.le_refl _) _).alloc (by simp) _).trans (hb1.mono (by simp; omega))⟩

set_option maxHeartbeats 2000000 in
theorem l8Behind_any (f t : Int) (i : ByteArray) (g u : Int) (j : ByteArray) (c b : Bool) (hb : bhB f t g u c = b) (hp : f ≤ t) (hq : g ≤ u) (hc : clB f t g u = false) (w : World) :
    Calls Try.prog 54 #[.agg #[.int .i64 f, .int .i64 t, .string i], .agg #[.int .i64 g, .int .i64 u, .string j], .bool c] w fun e w' => e = .returned (.bool b) ∧ Below w.heap.size w w' := by
  subst hb
  by_cases h1 : f = g ∧ t = u ∧ f = t
  case pos =>
    have HV : Hid (bhB f t g u c = !c) := Lib.hid (by unfold bhB; rw [if_pos ⟨h1.1, h1.2.1⟩])
    have e1 : (f == g) = true := by simp [h1.1]
    have e2 : (t == u) = true := by simp [h1.2.1]
    have e3 : (f == t) = true := by simp [h1.2.2]
    clear h1 hp hq hc
    go_enter Try.func54, Try.ntmps54
    go_wp2
    go_ret
    exact ⟨ret_bool HV.out.symm, ((Below.refl _ _).alloc (Nat.le_refl _) _).alloc (by simp) _⟩
  case neg =>
    have hcc := clB_no.mp hc
    have h1' : ¬ (f = g ∧ t = u) := by omega
    by_cases h3 : u ≤ f
    case neg =>
      have HV : Hid (bhB f t g u c = false) := Lib.hid (by unfold bhB; rw [if_neg h1']; simp [h3])
      by_cases e1' : f = g
      · have e1 : (f == g) = true := by simp [e1']
        have e2 : (t == u) = false := by simp; omega
        clear h1 h1' hp hq hc hcc e1'
        go_enter Try.func54, Try.ntmps54
        go_wp2
        go_ret
        exact ⟨ret_bool HV.out.symm, ((Below.refl _ _).alloc (Nat.le_refl _) _).alloc (by simp) _⟩
      · have e1 : (f == g) = false := by simp [e1']
        clear h1 h1' hp hq hc hcc e1'
        go_enter Try.func54, Try.ntmps54
        go_wp2
        go_ret
        exact ⟨ret_bool HV.out.symm, ((Below.refl _ _).alloc (Nat.le_refl _) _).alloc (by simp) _⟩
    case pos =>
      have HV : Hid (bhB f t g u c = true) := Lib.hid (by unfold bhB; rw [if_neg h1']; simp [h3])
      by_cases e1' : f = g
      · have e1 : (f == g) = true := by simp [e1']
        have e2 : (t == u) = false := by simp; omega
        have h4 : ¬ g < f := by omega
        have h5 : u < t := by omega
        clear h1 h1' hp hq hc hcc e1'
        go_enter Try.func54, Try.ntmps54
        go_wp2
        go_ret
        exact ⟨ret_bool HV.out.symm, ((Below.refl _ _).alloc (Nat.le_refl _) _).alloc (by simp) _⟩
      · have e1 : (f == g) = false := by simp [e1']
        have h4 : g < f := by omega
        clear h1 h1' hp hq hc hcc e1'
        go_enter Try.func54, Try.ntmps54
        go_wp2
        go_ret
        exact ⟨ret_bool HV.out.symm, ((Below.refl _ _).alloc (Nat.le_refl _) _).alloc (by simp) _⟩

set_option maxHeartbeats 1000000 in
theorem l8Grow_any (f t : Int) (i : ByteArray) (d : Int) (hd : grw f t i = d) (h0 : 0 ≤ f) (h1 : f ≤ t) (h2 : t ≤ 1000000) (hi : i.size ≤ 1000000) (w : World) :
    Calls Try.prog 55 #[.agg #[.int .i64 f, .int .i64 t, .string i]] w fun e w' => e = .returned (.int .i64 d) ∧ Below w.heap.size w w' := by
  unfold grw at hd
  subst hd
  go_enter Try.func55, Try.ntmps55
  go_wp2
  go_ret
  exact ⟨rfl, (Below.refl _ _).alloc (Nat.le_refl _) _⟩

set_option maxHeartbeats 1000000 in
theorem growth_at (f t : Int) (i : ByteArray) (d : Int) (hd : grw f t i = d) (h0 : 0 ≤ f) (h1 : f ≤ t) (h2 : t ≤ 1000000) (hi : i.size ≤ 1000000) (w : World) :
    Calls Try.prog 60 #[.agg #[.int .i64 f, .int .i64 t, .string i]] w fun e w' => e = .returned (.int .i64 d) ∧ Below w.heap.size w w' := by
  subst hd
  exact growth_any f t i h0 h1 h2 hi w

set_option maxHeartbeats 1000000 in
theorem shifted_any (f t : Int) (i : ByteArray) (d : Int) (h0 : -1000000 ≤ f) (h1 : f ≤ 1000000) (h2 : -1000000 ≤ t) (h3 : t ≤ 1000000) (hd : -1000000 ≤ d) (he : d ≤ 1000000) (w : World) :
    Calls Try.prog 68 #[.agg #[.int .i64 f, .int .i64 t, .string i], .int .i64 d] w fun e w' => e = .returned (.agg #[.int .i64 (f + d), .int .i64 (t + d), .string i]) ∧ Below w.heap.size w w' := by
  go_enter Try.func68, Try.ntmps68
  go_wp2
  exact bodyPost_ret (v := .agg #[.int .i64 (f + d), .int .i64 (t + d), .string i]) (by simp [results, Try.results68, go_sem]) rfl ⟨rfl, ((Below.refl _ _).alloc (Nat.le_refl _) _).alloc (by simp) _⟩


end Go.Proofs.Ytdicfjgdceacpaa
