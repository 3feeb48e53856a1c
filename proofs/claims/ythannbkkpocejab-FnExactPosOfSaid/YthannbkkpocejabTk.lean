/-
  What MoveOffset returns, in the program and in the model: for every string of at most maxLen bytes, every edit and every offset; what was in memory stays.
-/
import Derived.Test.YthannbkkpocejabProg
import Derived.Test.YthannbkkpocejabTd
namespace Go.Proofs.Ythannbkkpocejab
open Go.RowKit

/-- Where an offset goes, and whether it stays. -/
def mv (s : ByteArray) (f t : Int) (i : ByteArray) (at_ : Int) : Int × Bool :=
  if fitsB s f t i = true ∧ 0 ≤ at_ ∧ at_ ≤ s.size then (if at_ < f then (at_, true) else if t ≤ at_ then (at_ - t + f + i.size, true) else (0, false)) else (0, false)
theorem mv_0 {s : ByteArray} {f t : Int} {i : ByteArray} {at_ : Int} (h : fitsB s f t i = false) : mv s f t i at_ = (0, false) := by unfold mv; rw [if_neg (by simp [h])]
theorem mv_1 {s : ByteArray} {f t : Int} {i : ByteArray} {at_ : Int} (h : ¬ (0 ≤ at_ ∧ at_ ≤ s.size)) : mv s f t i at_ = (0, false) := by unfold mv; rw [if_neg (by intro k; exact h k.2)]
theorem mv_2 {s : ByteArray} {f t : Int} {i : ByteArray} {at_ : Int} (h : fitsB s f t i = true) (h1 : 0 ≤ at_ ∧ at_ ≤ s.size) (h2 : at_ < f) : mv s f t i at_ = (at_, true) := by unfold mv; rw [if_pos ⟨h, h1⟩, if_pos h2]
theorem mv_3 {s : ByteArray} {f t : Int} {i : ByteArray} {at_ : Int} (h : fitsB s f t i = true) (h1 : 0 ≤ at_ ∧ at_ ≤ s.size) (h2 : ¬ at_ < f) (h3 : t ≤ at_) : mv s f t i at_ = (at_ - t + f + i.size, true) := by unfold mv; rw [if_pos ⟨h, h1⟩, if_neg h2, if_pos h3]
theorem mv_4 {s : ByteArray} {f t : Int} {i : ByteArray} {at_ : Int} (h : fitsB s f t i = true) (h1 : 0 ≤ at_ ∧ at_ ≤ s.size) (h2 : ¬ at_ < f) (h3 : ¬ t ≤ at_) : mv s f t i at_ = (0, false) := by unfold mv; rw [if_pos ⟨h, h1⟩, if_neg h2, if_neg h3]
theorem ret_mv {p q : Int × Bool} (h : p = q) : Ending.returned (.tuple #[.int .i64 q.1, .bool q.2]) = .returned (.tuple #[.int .i64 p.1, .bool p.2]) := by rw [h]
theorem ret_mvi {p : Int × Bool} {a b : Int} {o : Bool} (h : p = (a, o)) (hab : b = a) : Ending.returned (.tuple #[.int .i64 b, .bool o]) = .returned (.tuple #[.int .i64 p.1, .bool p.2]) := by rw [h, hab]

set_option maxHeartbeats 400000 in
theorem within_any (n : Int) (s : ByteArray) (b : Bool) (hb : decide (0 ≤ n ∧ n ≤ s.size) = b) (w : World) :
    Calls Try.prog 37 #[.int .i64 n, .string s] w fun e w' => e = .returned (.bool b) ∧ w = w' := by
  by_cases h0 : 0 ≤ n
  · by_cases h1 : n ≤ (s.size : Int)
    · obtain rfl : b = true := by rw [← hb]; exact decide_eq_true ⟨h0, h1⟩
      clear hb
      go_enter Try.func37, Try.ntmps37
      go_wp2
      go_ret
      exact ⟨rfl, rfl⟩
    · obtain rfl : b = false := by rw [← hb]; exact decide_eq_false (fun h => h1 h.2)
      clear hb
      go_enter Try.func37, Try.ntmps37
      go_wp2
      go_ret
      exact ⟨rfl, rfl⟩
  · obtain rfl : b = false := by rw [← hb]; exact decide_eq_false (fun h => h0 h.1)
    clear hb
    go_enter Try.func37, Try.ntmps37
    go_wp2
    go_ret
    exact ⟨rfl, rfl⟩

set_option maxHeartbeats 400000 in
theorem moved_before (f t : Int) (i : ByteArray) (n : Int) (h2 : n < f) (w : World) :
    Calls Try.prog 38 #[.agg #[.int .i64 f, .int .i64 t, .string i], .int .i64 n] w fun e w' => e = .returned (.tuple #[.int .i64 n, .bool true]) ∧ Below w.heap.size w w' := by
  go_enter Try.func38, Try.ntmps38
  go_wp2
  go_ret2
  exact ⟨rfl, (Below.refl _ _).alloc (Nat.le_refl _) _⟩

set_option maxHeartbeats 400000 in
theorem moved_inside (f t : Int) (i : ByteArray) (n : Int) (h2 : f ≤ n) (h3 : n < t) (w : World) :
    Calls Try.prog 38 #[.agg #[.int .i64 f, .int .i64 t, .string i], .int .i64 n] w fun e w' => e = .returned (.tuple #[.int .i64 0, .bool false]) ∧ Below w.heap.size w w' := by
  go_enter Try.func38, Try.ntmps38
  go_wp2
  go_ret2
  exact ⟨rfl, (Below.refl _ _).alloc (Nat.le_refl _) _⟩

set_option maxHeartbeats 400000 in
theorem moved_behind (f t : Int) (i : ByteArray) (n : Int) (h0 : 0 ≤ f) (h1 : f ≤ t) (h2 : t ≤ n) (h3 : n ≤ 2000) (hi : i.size ≤ 2000) (w : World) :
    Calls Try.prog 38 #[.agg #[.int .i64 f, .int .i64 t, .string i], .int .i64 n] w fun e w' => e = .returned (.tuple #[.int .i64 (n + ((i.size : Int) - (t - f))), .bool true]) ∧ Below w.heap.size w w' := by
  go_enter Try.func38, Try.ntmps38
  go_wp2_with (go_at_call 41; refine (growth_any f t i h0 h1 (by omega) (by omega) _).mono ?_; rintro e w1 ⟨rfl, hb1⟩)
  go_ret2
  exact ⟨rfl, ((Below.refl _ _).alloc (Nat.le_refl _) _).trans (hb1.mono (by simp))⟩

set_option maxHeartbeats 1000000 in
theorem moveOffset_impl (s : ByteArray) (f t : Int) (i : ByteArray) (n : Int) (hs : s.size ≤ maxLen) (hi : i.size ≤ maxLen) (w : World) :
    Calls Try.prog 24 #[.string s, .agg #[.int .i64 f, .int .i64 t, .string i], .int .i64 n] w fun e w' => e = .returned (.tuple #[.int .i64 (mv s f t i n).1, .bool (mv s f t i n).2]) ∧ Below w.heap.size w w' := by
  have HSL := Lib.hid hs
  have HIL := Lib.hid hi
  unfold maxLen at hs hi
  rcases hfit : fitsB s f t i with _ | _
  · have HF := Lib.hid hfit
    clear hfit
    have HR := Lib.hid (mv_0 (at_ := n) HF.out)
    go_enter Try.func24, Try.ntmps24
    go_wp2_with (first | (go_at_call 29; refine (fits_any s f t i _ HF.out HSL.out HIL.out _).mono ?_; rintro e w1 ⟨rfl, hb1⟩; obtain ⟨hc1, hf1⟩ := bcell hb1; have hz1 : w.heap.size < w1.heap.size := by have := hb1.size; (try simp at this); omega))
    go_ret2
    exact ⟨ret_mv HR.out, (((Below.refl _ _).alloc (Nat.le_refl _) _).trans (hb1.mono (by first | omega | (simp; done) | (simp; omega))))⟩
  obtain ⟨hv1, hv2, h0, h1, h2, h3⟩ := fitsB_iff.mp hfit
  have hs2 := tv_size hv1
  have hi2 := tv_size hv2
  have HF := Lib.hid hfit
  clear hfit hv1 hv2
  by_cases hin : 0 ≤ n ∧ n ≤ s.size
  case neg =>
    have HW := Lib.hid (decide_eq_false hin)
    have HN := Lib.hid hin
    clear hin
    have HR := Lib.hid (mv_1 (f := f) (t := t) (i := i) HN.out)
    go_enter Try.func24, Try.ntmps24
    go_wp2_with (first | (go_at_call 29; refine (fits_any s f t i _ HF.out HSL.out HIL.out _).mono ?_; rintro e w1 ⟨rfl, hb1⟩; obtain ⟨hc1, hf1⟩ := bcell hb1; have hz1 : w.heap.size < w1.heap.size := by have := hb1.size; (try simp at this); omega) | (go_at_call 37; refine (within_any n s _ HW.out _).mono ?_; rintro e w2 ⟨rfl, rfl⟩))
    go_ret2
    exact ⟨ret_mv HR.out, (((Below.refl _ _).alloc (Nat.le_refl _) _).trans (hb1.mono (by first | omega | (simp; done) | (simp; omega))))⟩
  have HW := Lib.hid (decide_eq_true hin)
  have HN := Lib.hid hin
  obtain ⟨hn0, hn1⟩ := hin
  by_cases hnf : n < f
  case pos =>
    have HR := Lib.hid (mv_2 HF.out HN.out hnf)
    go_enter Try.func24, Try.ntmps24
    go_wp2_with (first | (go_at_call 29; refine (fits_any s f t i _ HF.out HSL.out HIL.out _).mono ?_; rintro e w1 ⟨rfl, hb1⟩; obtain ⟨hc1, hf1⟩ := bcell hb1; have hz1 : w.heap.size < w1.heap.size := by have := hb1.size; (try simp at this); omega) | (go_at_call 37; refine (within_any n s _ HW.out _).mono ?_; rintro e w2 ⟨rfl, rfl⟩) | (go_at_call 38; refine (moved_before f t i n hnf _).mono ?_; rintro e w3 ⟨rfl, hb3⟩))
    go_ret2
    exact ⟨ret_mv HR.out, ((((Below.refl _ _).alloc (Nat.le_refl _) _).trans (hb1.mono (by first | omega | (simp; done) | (simp; omega)))).trans (hb3.mono (by omega)))⟩
  by_cases hnt : t ≤ n
  case pos =>
    have HR := Lib.hid (mv_3 HF.out HN.out hnf hnt)
    go_enter Try.func24, Try.ntmps24
    go_wp2_with (first | (go_at_call 29; refine (fits_any s f t i _ HF.out HSL.out HIL.out _).mono ?_; rintro e w1 ⟨rfl, hb1⟩; obtain ⟨hc1, hf1⟩ := bcell hb1; have hz1 : w.heap.size < w1.heap.size := by have := hb1.size; (try simp at this); omega) | (go_at_call 37; refine (within_any n s _ HW.out _).mono ?_; rintro e w2 ⟨rfl, rfl⟩) | (go_at_call 38; refine (moved_behind f t i n h0 h1 hnt (by omega) hi2 _).mono ?_; rintro e w3 ⟨rfl, hb3⟩))
    go_ret2
    exact ⟨ret_mvi HR.out (by omega), ((((Below.refl _ _).alloc (Nat.le_refl _) _).trans (hb1.mono (by first | omega | (simp; done) | (simp; omega)))).trans (hb3.mono (by omega)))⟩
  have HR := Lib.hid (mv_4 HF.out HN.out hnf hnt)
  go_enter Try.func24, Try.ntmps24
  go_wp2_with (first | (go_at_call 29; refine (fits_any s f t i _ HF.out HSL.out HIL.out _).mono ?_; rintro e w1 ⟨rfl, hb1⟩; obtain ⟨hc1, hf1⟩ := bcell hb1; have hz1 : w.heap.size < w1.heap.size := by have := hb1.size; (try simp at this); omega) | (go_at_call 37; refine (within_any n s _ HW.out _).mono ?_; rintro e w2 ⟨rfl, rfl⟩) | (go_at_call 38; refine (moved_inside f t i n (by omega) (by omega) _).mono ?_; rintro e w3 ⟨rfl, hb3⟩))
  go_ret2
  exact ⟨ret_mv HR.out, ((((Below.refl _ _).alloc (Nat.le_refl _) _).trans (hb1.mono (by first | omega | (simp; done) | (simp; omega)))).trans (hb3.mono (by omega)))⟩

set_option maxHeartbeats 1000000 in
theorem moveOffset_spec (s : ByteArray) (f t : Int) (i : ByteArray) (n : Int) (hs : s.size ≤ maxLen) (hi : i.size ≤ maxLen) (w : World) :
    Calls Try.prog 23 #[.string s, .agg #[.int .i64 f, .int .i64 t, .string i], .int .i64 n] w fun e w' => e = .returned (.tuple #[.int .i64 (mv s f t i n).1, .bool (mv s f t i n).2]) ∧ Below w.heap.size w w' := by
  have HSL := Lib.hid hs
  have HIL := Lib.hid hi
  unfold maxLen at hs hi
  rcases hfit : fitsB s f t i with _ | _
  · have HF := Lib.hid hfit
    clear hfit
    have HR := Lib.hid (mv_0 (at_ := n) HF.out)
    go_enter Try.func23, Try.ntmps23
    go_wp2_with (first | (go_at_call 11; refine (editValid_spec s f t i _ HF.out HSL.out HIL.out _).mono ?_; rintro e w1 ⟨rfl, hb1⟩; obtain ⟨hc1, hf1⟩ := bcell hb1; have hz1 : w.heap.size < w1.heap.size := by have := hb1.size; (try simp at this); omega))
    go_ret2
    exact ⟨ret_mv HR.out, (((Below.refl _ _).alloc (Nat.le_refl _) _).trans (hb1.mono (by first | omega | (simp; done) | (simp; omega))))⟩
  obtain ⟨hv1, hv2, h0, h1, h2, h3⟩ := fitsB_iff.mp hfit
  have hs2 := tv_size hv1
  have hi2 := tv_size hv2
  have HF := Lib.hid hfit
  clear hfit hv1 hv2
  by_cases hn0 : 0 ≤ n
  case neg =>
    have HR := Lib.hid (mv_1 (s := s) (f := f) (t := t) (i := i) (at_ := n) (fun h => hn0 h.1))
    go_enter Try.func23, Try.ntmps23
    go_wp2_with (first | (go_at_call 11; refine (editValid_spec s f t i _ HF.out HSL.out HIL.out _).mono ?_; rintro e w1 ⟨rfl, hb1⟩; obtain ⟨hc1, hf1⟩ := bcell hb1; have hz1 : w.heap.size < w1.heap.size := by have := hb1.size; (try simp at this); omega))
    go_ret2
    exact ⟨ret_mv HR.out, (((Below.refl _ _).alloc (Nat.le_refl _) _).trans (hb1.mono (by first | omega | (simp; done) | (simp; omega))))⟩
  by_cases hn1 : n ≤ s.size
  case neg =>
    have HR := Lib.hid (mv_1 (s := s) (f := f) (t := t) (i := i) (at_ := n) (fun h => hn1 h.2))
    go_enter Try.func23, Try.ntmps23
    go_wp2_with (first | (go_at_call 11; refine (editValid_spec s f t i _ HF.out HSL.out HIL.out _).mono ?_; rintro e w1 ⟨rfl, hb1⟩; obtain ⟨hc1, hf1⟩ := bcell hb1; have hz1 : w.heap.size < w1.heap.size := by have := hb1.size; (try simp at this); omega))
    go_ret2
    exact ⟨ret_mv HR.out, (((Below.refl _ _).alloc (Nat.le_refl _) _).trans (hb1.mono (by first | omega | (simp; done) | (simp; omega))))⟩
  have HN : Hid (0 ≤ n ∧ n ≤ s.size) := Lib.hid ⟨hn0, hn1⟩
  by_cases hnf : n < f
  case pos =>
    have HR := Lib.hid (mv_2 HF.out HN.out hnf)
    go_enter Try.func23, Try.ntmps23
    go_wp2_with (first | (go_at_call 11; refine (editValid_spec s f t i _ HF.out HSL.out HIL.out _).mono ?_; rintro e w1 ⟨rfl, hb1⟩; obtain ⟨hc1, hf1⟩ := bcell hb1; have hz1 : w.heap.size < w1.heap.size := by have := hb1.size; (try simp at this); omega))
    go_ret2
    exact ⟨ret_mv HR.out, (((Below.refl _ _).alloc (Nat.le_refl _) _).trans (hb1.mono (by first | omega | (simp; done) | (simp; omega))))⟩
  by_cases hnt : t ≤ n
  case pos =>
    have HR := Lib.hid (mv_3 HF.out HN.out hnf hnt)
    go_enter Try.func23, Try.ntmps23
    go_wp2_with (first | (go_at_call 11; refine (editValid_spec s f t i _ HF.out HSL.out HIL.out _).mono ?_; rintro e w1 ⟨rfl, hb1⟩; obtain ⟨hc1, hf1⟩ := bcell hb1; have hz1 : w.heap.size < w1.heap.size := by have := hb1.size; (try simp at this); omega))
    go_ret2
    exact ⟨ret_mv HR.out, (((Below.refl _ _).alloc (Nat.le_refl _) _).trans (hb1.mono (by first | omega | (simp; done) | (simp; omega))))⟩
  have HR := Lib.hid (mv_4 HF.out HN.out hnf hnt)
  go_enter Try.func23, Try.ntmps23
  go_wp2_with (first | (go_at_call 11; refine (editValid_spec s f t i _ HF.out HSL.out HIL.out _).mono ?_; rintro e w1 ⟨rfl, hb1⟩; obtain ⟨hc1, hf1⟩ := bcell hb1; have hz1 : w.heap.size < w1.heap.size := by have := hb1.size; (try simp at this); omega))
  go_ret2
  exact ⟨ret_mv HR.out, (((Below.refl _ _).alloc (Nat.le_refl _) _).trans (hb1.mono (by first | omega | (simp; done) | (simp; omega))))⟩

end Go.Proofs.Ythannbkkpocejab
