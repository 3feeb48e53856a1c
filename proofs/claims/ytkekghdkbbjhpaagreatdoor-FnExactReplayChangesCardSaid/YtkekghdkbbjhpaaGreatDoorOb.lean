/-
  The fields of a node of an expression: what the program and the model ask of them.
-/
import Derived.Test.YtkekghdkbbjhpaaGreatDoorOa
import Derived.Test.YtkekghdkbbjhpaaGreatDoorShelf
import Derived.Test.YtkekghdkbbjhpaaGreatDoorZd
namespace Go.Proofs.YtkekghdkbbjhpaaGreatDoor.Ox
open Go.Proofs.YtkekghdkbbjhpaaGreatDoor
open Go.RowKit
set_option linter.unusedVariables false
set_option linter.unusedSimpArgs false

def formX (k : Int) : ByteArray := if k = 3 then ⟨#[92, 120, 46, 69]⟩ else if k = 4 then ⟨#[40, 69, 32, 69, 41]⟩ else if k = 5 then ⟨#[40, 69, 43, 69, 41]⟩ else if k = 6 then ⟨#[123, 120, 61, 69, 59, 69, 125]⟩ else if k = 7 then ⟨#[63, 60, 69, 44, 69, 44, 69, 62]⟩ else if k = 8 then ⟨#[40, 69, 44, 69, 41]⟩ else if k = 9 then ⟨#[94, 69]⟩ else if k = 10 then ⟨#[95, 69]⟩ else ⟨#[]⟩
set_option maxRecDepth 100000 in
set_option maxHeartbeats 2000000 in
theorem exprForm_any (k : Int) (w : World) : Calls Tryz.prog 193 #[.int .i64 k] w fun e w' => e = .returned (.string (formX k)) ∧ w' = w := by
  by_cases h3 : k = 3
  · subst h3
    go_enter Tryz.func193, Tryz.ntmps193
    go_wp2_with fail
    go_ret
    exact ⟨rfl, rfl⟩
  by_cases h4 : k = 4
  · subst h4
    go_enter Tryz.func193, Tryz.ntmps193
    go_wp2_with fail
    go_ret
    exact ⟨rfl, rfl⟩
  by_cases h5 : k = 5
  · subst h5
    go_enter Tryz.func193, Tryz.ntmps193
    go_wp2_with fail
    go_ret
    exact ⟨rfl, rfl⟩
  by_cases h6 : k = 6
  · subst h6
    go_enter Tryz.func193, Tryz.ntmps193
    go_wp2_with fail
    go_ret
    exact ⟨rfl, rfl⟩
  by_cases h7 : k = 7
  · subst h7
    go_enter Tryz.func193, Tryz.ntmps193
    go_wp2_with fail
    go_ret
    exact ⟨rfl, rfl⟩
  by_cases h8 : k = 8
  · subst h8
    go_enter Tryz.func193, Tryz.ntmps193
    go_wp2_with fail
    go_ret
    exact ⟨rfl, rfl⟩
  by_cases h9 : k = 9
  · subst h9
    go_enter Tryz.func193, Tryz.ntmps193
    go_wp2_with fail
    go_ret
    exact ⟨rfl, rfl⟩
  by_cases h10 : k = 10
  · subst h10
    go_enter Tryz.func193, Tryz.ntmps193
    go_wp2_with fail
    go_ret
    exact ⟨rfl, rfl⟩
  have e3 : (k == 3) = false := by simpa using h3
  have e4 : (k == 4) = false := by simpa using h4
  have e5 : (k == 5) = false := by simpa using h5
  have e6 : (k == 6) = false := by simpa using h6
  have e7 : (k == 7) = false := by simpa using h7
  have e8 : (k == 8) = false := by simpa using h8
  have e9 : (k == 9) = false := by simpa using h9
  have e10 : (k == 10) = false := by simpa using h10
  have H : Hid (formX k = ⟨#[]⟩) := Lib.hid (by unfold formX; simp only [h3, h4, h5, h6, h7, h8, h9, h10, if_false])
  clear h3 h4 h5 h6 h7 h8 h9 h10
  go_enter Tryz.func193, Tryz.ntmps193
  go_wp2_with fail
  go_ret
  exact ⟨by rw [H.out]; rfl, rfl⟩

def nameOk (bx : Bool) (s : ByteArray) : Bool := if bx = true then oneB 97 122 s else s.toList.isEmpty
def fitB (bx : Bool) (c : Nat) (n : Int) (m s : ByteArray) (l : Nat) : Bool := decide (n = 0) && (m.toList.isEmpty && (nameOk bx s && decide (l = c)))
theorem fit_n {bx : Bool} {c : Nat} {n : Int} {m s : ByteArray} {l : Nat} (h : ¬ n = 0) : fitB bx c n m s l = false := by unfold fitB; rw [decide_eq_false h]; rfl
theorem fit_m {bx : Bool} {c : Nat} {n : Int} {m s : ByteArray} {l : Nat} (h : m.toList.isEmpty = false) : fitB bx c n m s l = false := by unfold fitB; rw [h]; simp
theorem fit_s {bx : Bool} {c : Nat} {n : Int} {m s : ByteArray} {l : Nat} (h : nameOk bx s = false) : fitB bx c n m s l = false := by unfold fitB; rw [h]; simp
theorem fit_l {bx : Bool} {c : Nat} {n : Int} {m s : ByteArray} {l : Nat} (h : ¬ l = c) : fitB bx c n m s l = false := by unfold fitB; rw [decide_eq_false h]; simp
theorem fit_y {bx : Bool} {c : Nat} {n : Int} {m s : ByteArray} {l : Nat} (h1 : n = 0) (h2 : m.toList.isEmpty = true) (h3 : nameOk bx s = true) (h4 : l = c) : fitB bx c n m s l = true := by unfold fitB; rw [decide_eq_true h1, h2, h3, decide_eq_true h4]; rfl
theorem count_q {F : ByteArray} {c : Nat} (h : Lib.countByte F.data.toList 69 = c) (w : World) : Calls Tryz.prog 200 #[.string F, .string ⟨#[69]⟩] w fun e w' => e = .returned (.int .i64 c) ∧ w' = w := by
  subst h; exact Tryz.strings_Count_one F 69 w
theorem empty_is {s : ByteArray} (h : s.toList.isEmpty = true) : s.toList = [] := List.isEmpty_iff.1 h
theorem not_empty {s : ByteArray} (h : ¬ s.toList = []) : s.toList.isEmpty = false := by
  rcases e : s.toList.isEmpty with _ | _
  · rfl
  · exact absurd (List.isEmpty_iff.1 e) h
theorem empty_not {s : ByteArray} (h : s.toList.isEmpty = false) : ¬ s.toList = [] := fun e => by rw [e] at h; cases h
set_option maxRecDepth 100000 in
set_option maxHeartbeats 4000000 in
theorem fit_form_true (k n : Int) (m s F : ByteArray) (c l : Nat) (a : Option Addr) (cap : Nat) (w : World) (k1 : (k == 1) = false) (k2 : (k == 2) = false) (hF : formX k = F) (hX : decide (0 ≤ Lib.indexByte F.data.toList 120) = true) (hC : Lib.countByte F.data.toList 69 = c) (hc9 : c ≤ 9) (hne : ¬ F.toList = []) (hl : l ≤ 9223372036854775807) :
    Calls Tryz.prog 197 #[.agg #[.int .i64 k, .int .i64 n, .string m, .string s, .slice a l cap]] w fun e w' => e = .returned (.bool (fitB true c n m s l)) ∧ Below w.heap.size w w' := by
  have HFE : Hid (F.toList.isEmpty = false) := Lib.hid (not_empty hne)
  have HF := Lib.hid hF
  have HX := Lib.hid hX
  have HC := Lib.hid hC
  obtain ⟨nb, hnb⟩ : ∃ b, nameOk true s = b := ⟨_, rfl⟩
  have HNN := Lib.hid hnb
  have HNB : Hid (oneB 97 122 s = nb) := Lib.hid (by rw [← hnb]; rfl)
  clear hF hX hC hnb
  by_cases hn : n = 0
  case neg =>
    have HR := Lib.hid (fit_n (bx := true) (c := c) (m := m) (s := s) (l := l) hn)
    have hn1 : (n == 0) = false := by simpa using hn
    clear hn
    go_enter Tryz.func197, Tryz.ntmps197
    go_wp2_with fail
    go_at_call 193
    refine (exprForm_any k _).mono ?_
    rintro e w1 ⟨rfl, rfl⟩
    rw [HF.out]
    go_wp2_with fail
    go_at_call 118
    refine (Tryz.strings_Contains_one F 120 _).mono ?_
    rintro e w1 ⟨rfl, rfl⟩
    rw [HX.out]
    go_wp2_with fail
    go_at_call 199
    refine (isValueName_any s _).mono ?_
    rintro e w1 ⟨rfl, rfl⟩
    rw [HNB.out]
    go_wp2_with fail
    go_quiet ((go_at_call 200; exact Calls.quiet_of_same (count_q HC.out _)))
    all_goals go_wp2_with fail
    all_goals go_ret
    all_goals exact ⟨ret_bz HR.out.symm, (by first | exact ((Below.refl _ _).alloc (Nat.le_refl _) _) | exact ((Below.refl _ _).alloc (Nat.le_refl _) _).drew | exact below_drewN ((Below.refl _ _).alloc (Nat.le_refl _) _) _)⟩
  subst hn
  rcases hm : m.toList.isEmpty with _ | _
  · have HR := Lib.hid (fit_m (bx := true) (c := c) (n := 0) (s := s) (l := l) hm)
    have hm1 := empty_not hm
    go_enter Tryz.func197, Tryz.ntmps197
    go_wp2_with fail
    go_at_call 193
    refine (exprForm_any k _).mono ?_
    rintro e w1 ⟨rfl, rfl⟩
    rw [HF.out]
    go_wp2_with fail
    go_at_call 118
    refine (Tryz.strings_Contains_one F 120 _).mono ?_
    rintro e w1 ⟨rfl, rfl⟩
    rw [HX.out]
    go_wp2_with fail
    go_at_call 199
    refine (isValueName_any s _).mono ?_
    rintro e w1 ⟨rfl, rfl⟩
    rw [HNB.out]
    go_wp2_with fail
    go_quiet ((go_at_call 200; exact Calls.quiet_of_same (count_q HC.out _)))
    all_goals go_wp2_with fail
    all_goals go_ret
    all_goals exact ⟨ret_bz HR.out.symm, (by first | exact ((Below.refl _ _).alloc (Nat.le_refl _) _) | exact ((Below.refl _ _).alloc (Nat.le_refl _) _).drew | exact below_drewN ((Below.refl _ _).alloc (Nat.le_refl _) _) _)⟩
  have hm1 := empty_is hm
  rcases nb with _ | _
  · have HR := Lib.hid (fit_s (c := c) (n := 0) (m := m) (l := l) HNN.out)
    go_enter Tryz.func197, Tryz.ntmps197
    go_wp2_with fail
    go_at_call 193
    refine (exprForm_any k _).mono ?_
    rintro e w1 ⟨rfl, rfl⟩
    rw [HF.out]
    go_wp2_with fail
    go_at_call 118
    refine (Tryz.strings_Contains_one F 120 _).mono ?_
    rintro e w1 ⟨rfl, rfl⟩
    rw [HX.out]
    go_wp2_with fail
    go_at_call 199
    refine (isValueName_any s _).mono ?_
    rintro e w1 ⟨rfl, rfl⟩
    rw [HNB.out]
    go_wp2_with fail
    go_quiet ((go_at_call 200; exact Calls.quiet_of_same (count_q HC.out _)))
    all_goals go_wp2_with fail
    all_goals go_ret
    all_goals exact ⟨ret_bz HR.out.symm, (by first | exact ((Below.refl _ _).alloc (Nat.le_refl _) _) | exact ((Below.refl _ _).alloc (Nat.le_refl _) _).drew | exact below_drewN ((Below.refl _ _).alloc (Nat.le_refl _) _) _)⟩
  by_cases hlc : l = c
  case neg =>
    have HR := Lib.hid (fit_l (bx := true) (n := 0) (m := m) (s := s) hlc)
    have hlc1 : ((l : Int) == (c : Int)) = false := by rw [beq_eq_false_iff_ne]; omega
    clear hlc
    go_enter Tryz.func197, Tryz.ntmps197
    go_wp2_with fail
    go_at_call 193
    refine (exprForm_any k _).mono ?_
    rintro e w1 ⟨rfl, rfl⟩
    rw [HF.out]
    go_wp2_with fail
    go_at_call 118
    refine (Tryz.strings_Contains_one F 120 _).mono ?_
    rintro e w1 ⟨rfl, rfl⟩
    rw [HX.out]
    go_wp2_with fail
    go_at_call 199
    refine (isValueName_any s _).mono ?_
    rintro e w1 ⟨rfl, rfl⟩
    rw [HNB.out]
    go_wp2_with fail
    go_quiet ((go_at_call 200; exact Calls.quiet_of_same (count_q HC.out _)))
    all_goals go_wp2_with fail
    all_goals go_ret
    all_goals exact ⟨ret_bz HR.out.symm, (by first | exact ((Below.refl _ _).alloc (Nat.le_refl _) _) | exact ((Below.refl _ _).alloc (Nat.le_refl _) _).drew | exact below_drewN ((Below.refl _ _).alloc (Nat.le_refl _) _) _)⟩
  have HR := Lib.hid (fit_y (n := 0) rfl hm HNN.out hlc)
  have hlc1 : ((l : Int) == (c : Int)) = true := by rw [beq_iff_eq]; omega
  clear hlc
  go_enter Tryz.func197, Tryz.ntmps197
  go_wp2_with fail
  go_at_call 193
  refine (exprForm_any k _).mono ?_
  rintro e w1 ⟨rfl, rfl⟩
  rw [HF.out]
  go_wp2_with fail
  go_at_call 118
  refine (Tryz.strings_Contains_one F 120 _).mono ?_
  rintro e w1 ⟨rfl, rfl⟩
  rw [HX.out]
  go_wp2_with fail
  go_at_call 199
  refine (isValueName_any s _).mono ?_
  rintro e w1 ⟨rfl, rfl⟩
  rw [HNB.out]
  go_wp2_with fail
  go_quiet ((go_at_call 200; exact Calls.quiet_of_same (count_q HC.out _)))
  all_goals go_wp2_with fail
  all_goals go_ret
  all_goals exact ⟨ret_bz (by rw [HR.out, HFE.out]; rfl), (by first | exact ((Below.refl _ _).alloc (Nat.le_refl _) _) | exact ((Below.refl _ _).alloc (Nat.le_refl _) _).drew | exact below_drewN ((Below.refl _ _).alloc (Nat.le_refl _) _) _)⟩
set_option maxRecDepth 100000 in
set_option maxHeartbeats 4000000 in
theorem fit_form_false (k n : Int) (m s F : ByteArray) (c l : Nat) (a : Option Addr) (cap : Nat) (w : World) (k1 : (k == 1) = false) (k2 : (k == 2) = false) (hF : formX k = F) (hX : decide (0 ≤ Lib.indexByte F.data.toList 120) = false) (hC : Lib.countByte F.data.toList 69 = c) (hc9 : c ≤ 9) (hne : ¬ F.toList = []) (hl : l ≤ 9223372036854775807) :
    Calls Tryz.prog 197 #[.agg #[.int .i64 k, .int .i64 n, .string m, .string s, .slice a l cap]] w fun e w' => e = .returned (.bool (fitB false c n m s l)) ∧ Below w.heap.size w w' := by
  have HFE : Hid (F.toList.isEmpty = false) := Lib.hid (not_empty hne)
  have HF := Lib.hid hF
  have HX := Lib.hid hX
  have HC := Lib.hid hC
  obtain ⟨nb, hnb⟩ : ∃ b, nameOk false s = b := ⟨_, rfl⟩
  have HNN := Lib.hid hnb
  have HNB : Hid (s.toList.isEmpty = nb) := Lib.hid (by rw [← hnb]; rfl)
  clear hF hX hC hnb
  have hs1 := HNB.out
  by_cases hn : n = 0
  case neg =>
    have HR := Lib.hid (fit_n (bx := false) (c := c) (m := m) (s := s) (l := l) hn)
    have hn1 : (n == 0) = false := by simpa using hn
    clear hn
    go_enter Tryz.func197, Tryz.ntmps197
    go_wp2_with fail
    go_at_call 193
    refine (exprForm_any k _).mono ?_
    rintro e w1 ⟨rfl, rfl⟩
    rw [HF.out]
    go_wp2_with fail
    go_at_call 118
    refine (Tryz.strings_Contains_one F 120 _).mono ?_
    rintro e w1 ⟨rfl, rfl⟩
    rw [HX.out]
    go_wp2_with fail
    go_quiet ((go_at_call 200; exact Calls.quiet_of_same (count_q HC.out _)))
    all_goals go_wp2_with fail
    all_goals go_ret
    all_goals exact ⟨ret_bz HR.out.symm, (by first | exact ((Below.refl _ _).alloc (Nat.le_refl _) _) | exact ((Below.refl _ _).alloc (Nat.le_refl _) _).drew | exact below_drewN ((Below.refl _ _).alloc (Nat.le_refl _) _) _)⟩
  subst hn
  rcases hm : m.toList.isEmpty with _ | _
  · have HR := Lib.hid (fit_m (bx := false) (c := c) (n := 0) (s := s) (l := l) hm)
    have hm1 := empty_not hm
    go_enter Tryz.func197, Tryz.ntmps197
    go_wp2_with fail
    go_at_call 193
    refine (exprForm_any k _).mono ?_
    rintro e w1 ⟨rfl, rfl⟩
    rw [HF.out]
    go_wp2_with fail
    go_at_call 118
    refine (Tryz.strings_Contains_one F 120 _).mono ?_
    rintro e w1 ⟨rfl, rfl⟩
    rw [HX.out]
    go_wp2_with fail
    go_quiet ((go_at_call 200; exact Calls.quiet_of_same (count_q HC.out _)))
    all_goals go_wp2_with fail
    all_goals go_ret
    all_goals exact ⟨ret_bz HR.out.symm, (by first | exact ((Below.refl _ _).alloc (Nat.le_refl _) _) | exact ((Below.refl _ _).alloc (Nat.le_refl _) _).drew | exact below_drewN ((Below.refl _ _).alloc (Nat.le_refl _) _) _)⟩
  have hm1 := empty_is hm
  rcases nb with _ | _
  · have HR := Lib.hid (fit_s (c := c) (n := 0) (m := m) (l := l) HNN.out)
    go_enter Tryz.func197, Tryz.ntmps197
    go_wp2_with fail
    go_at_call 193
    refine (exprForm_any k _).mono ?_
    rintro e w1 ⟨rfl, rfl⟩
    rw [HF.out]
    go_wp2_with fail
    go_at_call 118
    refine (Tryz.strings_Contains_one F 120 _).mono ?_
    rintro e w1 ⟨rfl, rfl⟩
    rw [HX.out]
    go_wp2_with fail
    go_quiet ((go_at_call 200; exact Calls.quiet_of_same (count_q HC.out _)))
    all_goals go_wp2_with fail
    all_goals go_ret
    all_goals exact ⟨ret_bz HR.out.symm, (by first | exact ((Below.refl _ _).alloc (Nat.le_refl _) _) | exact ((Below.refl _ _).alloc (Nat.le_refl _) _).drew | exact below_drewN ((Below.refl _ _).alloc (Nat.le_refl _) _) _)⟩
  by_cases hlc : l = c
  case neg =>
    have HR := Lib.hid (fit_l (bx := false) (n := 0) (m := m) (s := s) hlc)
    have hlc1 : ((l : Int) == (c : Int)) = false := by rw [beq_eq_false_iff_ne]; omega
    clear hlc
    go_enter Tryz.func197, Tryz.ntmps197
    go_wp2_with fail
    go_at_call 193
    refine (exprForm_any k _).mono ?_
    rintro e w1 ⟨rfl, rfl⟩
    rw [HF.out]
    go_wp2_with fail
    go_at_call 118
    refine (Tryz.strings_Contains_one F 120 _).mono ?_
    rintro e w1 ⟨rfl, rfl⟩
    rw [HX.out]
    go_wp2_with fail
    go_quiet ((go_at_call 200; exact Calls.quiet_of_same (count_q HC.out _)))
    all_goals go_wp2_with fail
    all_goals go_ret
    all_goals exact ⟨ret_bz HR.out.symm, (by first | exact ((Below.refl _ _).alloc (Nat.le_refl _) _) | exact ((Below.refl _ _).alloc (Nat.le_refl _) _).drew | exact below_drewN ((Below.refl _ _).alloc (Nat.le_refl _) _) _)⟩
  have HR := Lib.hid (fit_y (n := 0) rfl hm HNN.out hlc)
  have hlc1 : ((l : Int) == (c : Int)) = true := by rw [beq_iff_eq]; omega
  clear hlc
  go_enter Tryz.func197, Tryz.ntmps197
  go_wp2_with fail
  go_at_call 193
  refine (exprForm_any k _).mono ?_
  rintro e w1 ⟨rfl, rfl⟩
  rw [HF.out]
  go_wp2_with fail
  go_at_call 118
  refine (Tryz.strings_Contains_one F 120 _).mono ?_
  rintro e w1 ⟨rfl, rfl⟩
  rw [HX.out]
  go_wp2_with fail
  go_quiet ((go_at_call 200; exact Calls.quiet_of_same (count_q HC.out _)))
  all_goals go_wp2_with fail
  all_goals go_ret
  all_goals exact ⟨ret_bz (by rw [HR.out, HFE.out]; rfl), (by first | exact ((Below.refl _ _).alloc (Nat.le_refl _) _) | exact ((Below.refl _ _).alloc (Nat.le_refl _) _).drew | exact below_drewN ((Below.refl _ _).alloc (Nat.le_refl _) _) _)⟩

end Go.Proofs.YtkekghdkbbjhpaaGreatDoor.Ox
