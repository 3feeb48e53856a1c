/-
  Names of values and of files: one letter, small or big.
-/
import Derived.Test.YtpihopmgckdigaaDoorEc
import Derived.Test.YtpihopmgckdigaaDoorZc
namespace Go.Proofs.YtpihopmgckdigaaDoor.Ox
open Go.Proofs.YtpihopmgckdigaaDoor
open Go.RowKit
set_option linter.unusedVariables false
set_option linter.unusedSimpArgs false

def inB (lo hi c : Int) : Bool := decide (lo ≤ c ∧ c ≤ hi)
theorem inB_yes {lo hi c : Int} (h1 : lo ≤ c) (h2 : c ≤ hi) : inB lo hi c = true := decide_eq_true ⟨h1, h2⟩
theorem inB_lo {lo hi c : Int} (h1 : ¬ lo ≤ c) : inB lo hi c = false := decide_eq_false (fun h => h1 h.1)
theorem inB_hi {lo hi c : Int} (h1 : ¬ c ≤ hi) : inB lo hi c = false := decide_eq_false (fun h => h1 h.2)
/-- One byte from lo to hi. -/
def oneB (lo hi : Int) (s : ByteArray) : Bool := if h : s.size = 1 then inB lo hi (((s[0]'(by omega)).toNat : Nat) : Int) else false
theorem oneB_no {lo hi : Int} {s : ByteArray} (h : ¬ s.size = 1) : oneB lo hi s = false := by unfold oneB; rw [dif_neg h]
theorem oneB_is {lo hi : Int} {s : ByteArray} (h : s.size = 1) : oneB lo hi s = inB lo hi (((s[0]'(by omega)).toNat : Nat) : Int) := by unfold oneB; rw [dif_pos h]
set_option maxRecDepth 100000 in
set_option maxHeartbeats 1000000 in
theorem isFileLetter_any (c : Int) (w : World) : Calls Tryd.prog 78 #[.int .u8 c] w fun e w' => e = .returned (.bool (inB 65 90 c)) ∧ w' = w := by
  by_cases h1 : 65 ≤ c
  · by_cases h2 : c ≤ 90
    · have H : Hid (inB 65 90 c = true) := Lib.hid (inB_yes h1 h2)
      go_enter Tryd.func78, Tryd.ntmps78
      go_wp2_with fail
      go_ret
      exact ⟨ret_bz (by rw [H.out]), rfl⟩
    · have H : Hid (inB 65 90 c = false) := Lib.hid (inB_hi h2)
      go_enter Tryd.func78, Tryd.ntmps78
      go_wp2_with fail
      go_ret
      exact ⟨ret_bz (by rw [H.out]), rfl⟩
  · have H : Hid (inB 65 90 c = false) := Lib.hid (inB_lo h1)
    go_enter Tryd.func78, Tryd.ntmps78
    go_wp2_with fail
    go_ret
    exact ⟨ret_bz (by rw [H.out]), rfl⟩
set_option maxRecDepth 100000 in
set_option maxHeartbeats 1000000 in
theorem isFileName_any (s : ByteArray) (w : World) : Calls Tryd.prog 52 #[.string s] w fun e w' => e = .returned (.bool (oneB 65 90 s)) ∧ w' = w := by
  by_cases hs : s.size = 1
  · have H := Lib.hid (oneB_is (lo := 65) (hi := 90) hs)
    go_enter Tryd.func52, Tryd.ntmps52
    go_wp2_with fail
    go_at_call 78
    refine (isFileLetter_any _ _).mono ?_
    rintro e w1 ⟨rfl, rfl⟩
    go_wp2_with fail
    go_ret
    exact ⟨ret_bz (by rw [H.out]), rfl⟩
  · have H := Lib.hid (oneB_no (lo := 65) (hi := 90) hs)
    have hs1 : ((s.size : Int) == 1) = false := by rw [beq_eq_false_iff_ne]; omega
    clear hs
    go_enter Tryd.func52, Tryd.ntmps52
    go_wp2_with fail
    go_ret
    exact ⟨ret_bz (by rw [H.out]), rfl⟩
set_option maxRecDepth 100000 in
set_option maxHeartbeats 1000000 in
theorem l3Big_any (s : ByteArray) (w : World) : Calls Tryd.prog 50 #[.string s] w fun e w' => e = .returned (.bool (oneB 65 90 s)) ∧ w' = w := by
  by_cases hs : s.size = 1
  · have H := Lib.hid (oneB_is (lo := 65) (hi := 90) hs)
    by_cases h1 : (65 : Int) ≤ (((s[0]'(by omega)).toNat : Nat) : Int)
    · by_cases h2 : (((s[0]'(by omega)).toNat : Nat) : Int) ≤ 90
      · have H2 : Hid (oneB 65 90 s = true) := Lib.hid (by rw [H.out]; exact inB_yes h1 h2)
        go_enter Tryd.func50, Tryd.ntmps50
        go_wp2_with fail
        go_ret
        exact ⟨ret_bz (by rw [H2.out]), rfl⟩
      · have H2 : Hid (oneB 65 90 s = false) := Lib.hid (by rw [H.out]; exact inB_hi h2)
        go_enter Tryd.func50, Tryd.ntmps50
        go_wp2_with fail
        go_ret
        exact ⟨ret_bz (by rw [H2.out]), rfl⟩
    · have H2 : Hid (oneB 65 90 s = false) := Lib.hid (by rw [H.out]; exact inB_lo h1)
      go_enter Tryd.func50, Tryd.ntmps50
      go_wp2_with fail
      go_ret
      exact ⟨ret_bz (by rw [H2.out]), rfl⟩
  · have H := Lib.hid (oneB_no (lo := 65) (hi := 90) hs)
    have hs1 : ((s.size : Int) == 1) = false := by rw [beq_eq_false_iff_ne]; omega
    clear hs
    go_enter Tryd.func50, Tryd.ntmps50
    go_wp2_with fail
    go_ret
    exact ⟨ret_bz (by rw [H.out]), rfl⟩

def kidsX (k : Int) : Int := if k = 1 ∨ k = 2 then 0 else if k = 3 ∨ k = 9 ∨ k = 10 then 1 else if k = 4 ∨ k = 5 ∨ k = 6 ∨ k = 8 then 2 else if k = 7 then 3 else -1
end Go.Proofs.YtpihopmgckdigaaDoor.Ox
