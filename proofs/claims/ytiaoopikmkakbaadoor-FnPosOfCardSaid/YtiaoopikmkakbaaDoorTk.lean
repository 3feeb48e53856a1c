/-
  What MoveOffset returns, in the program and in the model: for every string of at most maxLen bytes, every edit and every offset; what was in memory stays.
-/
import Derived.Test.YtiaoopikmkakbaaDoorProg
import Derived.Test.YtiaoopikmkakbaaDoorTb
namespace Go.Proofs.YtiaoopikmkakbaaDoor
open Go.RowKit

/-- Where an offset goes, and whether it stays. -/
def mv (s : ByteArray) (f t : Int) (i : ByteArray) (at_ : Int) : Int × Bool :=
  if fitsB s f t i = true ∧ 0 ≤ at_ ∧ at_ ≤ s.size then (if at_ < f then (at_, true) else if t ≤ at_ then (at_ - t + f + i.size, true) else (0, false)) else (0, false)
theorem mv_0 {s : ByteArray} {f t : Int} {i : ByteArray} {at_ : Int} (h : fitsB s f t i = false) : mv s f t i at_ = (0, false) := by unfold mv; rw [if_neg (by simp [h])]
theorem mv_1 {s : ByteArray} {f t : Int} {i : ByteArray} {at_ : Int} (h : ¬ (0 ≤ at_ ∧ at_ ≤ s.size)) : mv s f t i at_ = (0, false) := by unfold mv; rw [if_neg (by intro k; exact h k.2)]
theorem mv_2 {s : ByteArray} {f t : Int} {i : ByteArray} {at_ : Int} (h : fitsB s f t i = true) (h1 : 0 ≤ at_ ∧ at_ ≤ s.size) (h2 : at_ < f) : mv s f t i at_ = (at_, true) := by unfold mv; rw [if_pos ⟨h, h1⟩, if_pos h2]
theorem mv_3 {s : ByteArray} {f t : Int} {i : ByteArray} {at_ : Int} (h : fitsB s f t i = true) (h1 : 0 ≤ at_ ∧ at_ ≤ s.size) (h2 : ¬ at_ < f) (h3 : t ≤ at_) : mv s f t i at_ = (at_ - t + f + i.size, true) := by unfold mv; rw [if_pos ⟨h, h1⟩, if_neg h2, if_pos h3]
theorem mv_4 {s : ByteArray} {f t : Int} {i : ByteArray} {at_ : Int} (h : fitsB s f t i = true) (h1 : 0 ≤ at_ ∧ at_ ≤ s.size) (h2 : ¬ at_ < f) (h3 : ¬ t ≤ at_) : mv s f t i at_ = (0, false) := by unfold mv; rw [if_pos ⟨h, h1⟩, if_neg h2, if_neg h3]
theorem ret_mv {p q : Int × Bool} (h : p = q) : Ending.returned (.tuple #[.int .i64 q.1, .bool q.2]) = .returned (.tuple #[.int .i64 p.1, .bool p.2]) := by rw [h]
theorem ret_mvi {p : Int × Bool} {a b : Int} {o : Bool} (h : p = (a, o)) (hab : b = a) : Ending.returned (.tuple #[.int .i64 b, .bool o]) = .returned (.tuple #[.int .i64 p.1, .bool p.2]) := by rw [h, hab]

set_option maxHeartbeats 400000 in
theorem within_any (n : Int) (s : ByteArray) (b : Bool) (hb : decide (0 ≤ n ∧ n ≤ s.size) = b) (w : World) :
    Calls Tryd.prog 26 #[.int .i64 n, .string s] w fun e w' => e = .returned (.bool b) ∧ w = w' := by
  by_cases h0 : 0 ≤ n
  · by_cases h1 : n ≤ (s.size : Int)
    · obtain rfl : b = true := by rw [← hb]; exact decide_eq_true ⟨h0, h1⟩
      clear hb
      go_enter Tryd.func26, Tryd.ntmps26
      go_wp2
      go_ret
      exact ⟨rfl, rfl⟩
    · obtain rfl : b = false := by rw [← hb]; exact decide_eq_false (fun h => h1 h.2)
      clear hb
      go_enter Tryd.func26, Tryd.ntmps26
      go_wp2
      go_ret
      exact ⟨rfl, rfl⟩
  · obtain rfl : b = false := by rw [← hb]; exact decide_eq_false (fun h => h0 h.1)
    clear hb
    go_enter Tryd.func26, Tryd.ntmps26
    go_wp2
    go_ret
    exact ⟨rfl, rfl⟩







end Go.Proofs.YtiaoopikmkakbaaDoor
