/-
  The fields of a node of an expression: exprFieldsFit of the program, l3Own of the model.
-/
import Derived.Test.YtkekghdkbbjhpaaGreatDoorOb
namespace Go.Proofs.YtkekghdkbbjhpaaGreatDoor.Ox
open Go.Proofs.YtkekghdkbbjhpaaGreatDoor
open Go.RowKit
set_option linter.unusedVariables false
set_option linter.unusedSimpArgs false

def fit1 (n : Int) (m s : ByteArray) (l : Nat) : Bool := inB 0 99 n && (m.toList.isEmpty && (s.toList.isEmpty && decide (l = 0)))
def fit2 (n : Int) (m s : ByteArray) (l : Nat) : Bool := decide (n = 0) && ((m.toList.isEmpty || oneB 65 90 m) && (oneB 97 122 s && decide (l = 0)))
def own1 (n : Int) (m s : ByteArray) : Bool := inB 0 99 n && (s.toList.isEmpty && m.toList.isEmpty)
def own2 (n : Int) (m s : ByteArray) : Bool := decide (n = 0) && (oneB 97 122 s && (m.toList.isEmpty || oneB 65 90 m))
def own3 (n : Int) (m s : ByteArray) : Bool := decide (n = 0) && (oneB 97 122 s && m.toList.isEmpty)
def own4 (n : Int) (m s : ByteArray) : Bool := decide (n = 0) && (s.toList.isEmpty && m.toList.isEmpty)
set_option maxRecDepth 100000 in
set_option maxHeartbeats 4000000 in
theorem fit1_impl (n : Int) (m s : ByteArray) (l : Nat) (a : Option Addr) (cap : Nat) (w : World) (hl : l ≤ 9223372036854775807) :
    Calls Tryz.prog 197 #[.agg #[.int .i64 1, .int .i64 n, .string m, .string s, .slice a l cap]] w fun e w' => e = .returned (.bool (fit1 n m s l)) ∧ Below w.heap.size w w' := by
  by_cases hn0 : 0 ≤ n
  case neg =>
    have HI := Lib.hid (inB_lo (hi := 99) hn0)
    have HR : Hid (fit1 n m s l = false) := Lib.hid (by unfold fit1; simp [HI.out])
    go_enter Tryz.func197, Tryz.ntmps197
    go_wp2_with fail
    go_ret
    exact ⟨ret_bz HR.out.symm, (by first | exact ((Below.refl _ _).alloc (Nat.le_refl _) _) | exact ((Below.refl _ _).alloc (Nat.le_refl _) _).drew | exact below_drewN ((Below.refl _ _).alloc (Nat.le_refl _) _) _)⟩
  by_cases hn9 : n ≤ 99
  case neg =>
    have HI := Lib.hid (inB_hi (lo := 0) hn9)
    have HR : Hid (fit1 n m s l = false) := Lib.hid (by unfold fit1; simp [HI.out])
    go_enter Tryz.func197, Tryz.ntmps197
    go_wp2_with fail
    go_ret
    exact ⟨ret_bz HR.out.symm, (by first | exact ((Below.refl _ _).alloc (Nat.le_refl _) _) | exact ((Below.refl _ _).alloc (Nat.le_refl _) _).drew | exact below_drewN ((Below.refl _ _).alloc (Nat.le_refl _) _) _)⟩
  have HI := Lib.hid (inB_yes hn0 hn9)
  rcases hm : m.toList.isEmpty with _ | _
  · have hm1 := empty_not hm
    have HR : Hid (fit1 n m s l = false) := Lib.hid (by unfold fit1; simp [HI.out, hm])
    go_enter Tryz.func197, Tryz.ntmps197
    go_wp2_with fail
    go_ret
    exact ⟨ret_bz HR.out.symm, (by first | exact ((Below.refl _ _).alloc (Nat.le_refl _) _) | exact ((Below.refl _ _).alloc (Nat.le_refl _) _).drew | exact below_drewN ((Below.refl _ _).alloc (Nat.le_refl _) _) _)⟩
  have hm1 := empty_is hm
  rcases hs : s.toList.isEmpty with _ | _
  · have hs1 := empty_not hs
    have HR : Hid (fit1 n m s l = false) := Lib.hid (by unfold fit1; simp [HI.out, hm, hs])
    go_enter Tryz.func197, Tryz.ntmps197
    go_wp2_with fail
    go_ret
    exact ⟨ret_bz HR.out.symm, (by first | exact ((Below.refl _ _).alloc (Nat.le_refl _) _) | exact ((Below.refl _ _).alloc (Nat.le_refl _) _).drew | exact below_drewN ((Below.refl _ _).alloc (Nat.le_refl _) _) _)⟩
  have hs1 := empty_is hs
  by_cases hz : l = 0
  case neg =>
    have hz1 : ((l : Int) == 0) = false := by rw [beq_eq_false_iff_ne]; omega
    have HR : Hid (fit1 n m s l = false) := Lib.hid (by unfold fit1; simp [HI.out, hm, hs, hz])
    go_enter Tryz.func197, Tryz.ntmps197
    go_wp2_with fail
    go_ret
    exact ⟨ret_bz HR.out.symm, (by first | exact ((Below.refl _ _).alloc (Nat.le_refl _) _) | exact ((Below.refl _ _).alloc (Nat.le_refl _) _).drew | exact below_drewN ((Below.refl _ _).alloc (Nat.le_refl _) _) _)⟩
  have hz1 : ((l : Int) == 0) = true := by rw [beq_iff_eq]; omega
  have HR : Hid (fit1 n m s l = true) := Lib.hid (by unfold fit1; simp [HI.out, hm, hs, hz])
  go_enter Tryz.func197, Tryz.ntmps197
  go_wp2_with fail
  go_ret
  exact ⟨ret_bz HR.out.symm, (by first | exact ((Below.refl _ _).alloc (Nat.le_refl _) _) | exact ((Below.refl _ _).alloc (Nat.le_refl _) _).drew | exact below_drewN ((Below.refl _ _).alloc (Nat.le_refl _) _) _)⟩
set_option maxRecDepth 100000 in
set_option maxHeartbeats 4000000 in
theorem fit2_impl (n : Int) (m s : ByteArray) (l : Nat) (a : Option Addr) (cap : Nat) (w : World) (hl : l ≤ 9223372036854775807) :
    Calls Tryz.prog 197 #[.agg #[.int .i64 2, .int .i64 n, .string m, .string s, .slice a l cap]] w fun e w' => e = .returned (.bool (fit2 n m s l)) ∧ Below w.heap.size w w' := by
  by_cases hn : n = 0
  case neg =>
    have hn1 : (n == 0) = false := by simpa using hn
    have HR : Hid (fit2 n m s l = false) := Lib.hid (by unfold fit2; simp [hn])
    go_enter Tryz.func197, Tryz.ntmps197
    go_wp2_with (first | (go_at_call 199; refine (isValueName_any s _).mono ?_; rintro e w1 ⟨rfl, rfl⟩; rw [HV.out]) | (go_at_call 99; refine (isFileName_any m _).mono ?_; rintro e w1 ⟨rfl, rfl⟩; rw [HM.out]))
    go_ret
    exact ⟨ret_bz HR.out.symm, (by first | exact ((Below.refl _ _).alloc (Nat.le_refl _) _) | exact ((Below.refl _ _).alloc (Nat.le_refl _) _).drew | exact below_drewN ((Below.refl _ _).alloc (Nat.le_refl _) _) _)⟩
  have hn1 : (n == 0) = true := by simpa using hn
  rcases hm : m.toList.isEmpty with _ | _
  case true =>
    have hm1 := empty_is hm
    rcases hv : oneB 97 122 s with _ | _
    · have HV := Lib.hid hv
      have HR : Hid (fit2 n m s l = false) := Lib.hid (by unfold fit2; simp [hn, hm, hv])
      go_enter Tryz.func197, Tryz.ntmps197
      go_wp2_with (first | (go_at_call 199; refine (isValueName_any s _).mono ?_; rintro e w1 ⟨rfl, rfl⟩; rw [HV.out]) | (go_at_call 99; refine (isFileName_any m _).mono ?_; rintro e w1 ⟨rfl, rfl⟩; rw [HM.out]))
      go_ret
      exact ⟨ret_bz HR.out.symm, (by first | exact ((Below.refl _ _).alloc (Nat.le_refl _) _) | exact ((Below.refl _ _).alloc (Nat.le_refl _) _).drew | exact below_drewN ((Below.refl _ _).alloc (Nat.le_refl _) _) _)⟩
    have HV := Lib.hid hv
    by_cases hz : l = 0
    case neg =>
      have hz1 : ((l : Int) == 0) = false := by rw [beq_eq_false_iff_ne]; omega
      have HR : Hid (fit2 n m s l = false) := Lib.hid (by unfold fit2; simp [hn, hm, hv, hz])
      go_enter Tryz.func197, Tryz.ntmps197
      go_wp2_with (first | (go_at_call 199; refine (isValueName_any s _).mono ?_; rintro e w1 ⟨rfl, rfl⟩; rw [HV.out]) | (go_at_call 99; refine (isFileName_any m _).mono ?_; rintro e w1 ⟨rfl, rfl⟩; rw [HM.out]))
      go_ret
      exact ⟨ret_bz HR.out.symm, (by first | exact ((Below.refl _ _).alloc (Nat.le_refl _) _) | exact ((Below.refl _ _).alloc (Nat.le_refl _) _).drew | exact below_drewN ((Below.refl _ _).alloc (Nat.le_refl _) _) _)⟩
    have hz1 : ((l : Int) == 0) = true := by rw [beq_iff_eq]; omega
    have HR : Hid (fit2 n m s l = true) := Lib.hid (by unfold fit2; simp [hn, hm, hv, hz])
    go_enter Tryz.func197, Tryz.ntmps197
    go_wp2_with (first | (go_at_call 199; refine (isValueName_any s _).mono ?_; rintro e w1 ⟨rfl, rfl⟩; rw [HV.out]) | (go_at_call 99; refine (isFileName_any m _).mono ?_; rintro e w1 ⟨rfl, rfl⟩; rw [HM.out]))
    go_ret
    exact ⟨ret_bz HR.out.symm, (by first | exact ((Below.refl _ _).alloc (Nat.le_refl _) _) | exact ((Below.refl _ _).alloc (Nat.le_refl _) _).drew | exact below_drewN ((Below.refl _ _).alloc (Nat.le_refl _) _) _)⟩
  have hm1 := empty_not hm
  rcases hf : oneB 65 90 m with _ | _
  · have HM := Lib.hid hf
    have HR : Hid (fit2 n m s l = false) := Lib.hid (by unfold fit2; simp [hn, hm, hf])
    go_enter Tryz.func197, Tryz.ntmps197
    go_wp2_with (first | (go_at_call 199; refine (isValueName_any s _).mono ?_; rintro e w1 ⟨rfl, rfl⟩; rw [HV.out]) | (go_at_call 99; refine (isFileName_any m _).mono ?_; rintro e w1 ⟨rfl, rfl⟩; rw [HM.out]))
    go_ret
    exact ⟨ret_bz HR.out.symm, (by first | exact ((Below.refl _ _).alloc (Nat.le_refl _) _) | exact ((Below.refl _ _).alloc (Nat.le_refl _) _).drew | exact below_drewN ((Below.refl _ _).alloc (Nat.le_refl _) _) _)⟩
  have HM := Lib.hid hf
  rcases hv : oneB 97 122 s with _ | _
  · have HV := Lib.hid hv
    have HR : Hid (fit2 n m s l = false) := Lib.hid (by unfold fit2; simp [hn, hm, hf, hv])
    go_enter Tryz.func197, Tryz.ntmps197
    go_wp2_with (first | (go_at_call 199; refine (isValueName_any s _).mono ?_; rintro e w1 ⟨rfl, rfl⟩; rw [HV.out]) | (go_at_call 99; refine (isFileName_any m _).mono ?_; rintro e w1 ⟨rfl, rfl⟩; rw [HM.out]))
    go_ret
    exact ⟨ret_bz HR.out.symm, (by first | exact ((Below.refl _ _).alloc (Nat.le_refl _) _) | exact ((Below.refl _ _).alloc (Nat.le_refl _) _).drew | exact below_drewN ((Below.refl _ _).alloc (Nat.le_refl _) _) _)⟩
  have HV := Lib.hid hv
  by_cases hz : l = 0
  case neg =>
    have hz1 : ((l : Int) == 0) = false := by rw [beq_eq_false_iff_ne]; omega
    have HR : Hid (fit2 n m s l = false) := Lib.hid (by unfold fit2; simp [hn, hm, hf, hv, hz])
    go_enter Tryz.func197, Tryz.ntmps197
    go_wp2_with (first | (go_at_call 199; refine (isValueName_any s _).mono ?_; rintro e w1 ⟨rfl, rfl⟩; rw [HV.out]) | (go_at_call 99; refine (isFileName_any m _).mono ?_; rintro e w1 ⟨rfl, rfl⟩; rw [HM.out]))
    go_ret
    exact ⟨ret_bz HR.out.symm, (by first | exact ((Below.refl _ _).alloc (Nat.le_refl _) _) | exact ((Below.refl _ _).alloc (Nat.le_refl _) _).drew | exact below_drewN ((Below.refl _ _).alloc (Nat.le_refl _) _) _)⟩
  have hz1 : ((l : Int) == 0) = true := by rw [beq_iff_eq]; omega
  have HR : Hid (fit2 n m s l = true) := Lib.hid (by unfold fit2; simp [hn, hm, hf, hv, hz])
  go_enter Tryz.func197, Tryz.ntmps197
  go_wp2_with (first | (go_at_call 199; refine (isValueName_any s _).mono ?_; rintro e w1 ⟨rfl, rfl⟩; rw [HV.out]) | (go_at_call 99; refine (isFileName_any m _).mono ?_; rintro e w1 ⟨rfl, rfl⟩; rw [HM.out]))
  go_ret
  exact ⟨ret_bz HR.out.symm, (by first | exact ((Below.refl _ _).alloc (Nat.le_refl _) _) | exact ((Below.refl _ _).alloc (Nat.le_refl _) _).drew | exact below_drewN ((Below.refl _ _).alloc (Nat.le_refl _) _) _)⟩
/-- Whether a node's own fields are right, and the number of its operands. -/
def fieldsX (k n : Int) (m s : ByteArray) (l : Nat) : Bool :=
  if k = 1 then fit1 n m s l else if k = 2 then fit2 n m s l else if k = 3 then fitB true 1 n m s l else if k = 4 then fitB false 2 n m s l else if k = 5 then fitB false 2 n m s l
  else if k = 6 then fitB true 2 n m s l else if k = 7 then fitB false 3 n m s l else if k = 8 then fitB false 2 n m s l else if k = 9 then fitB false 1 n m s l else if k = 10 then fitB false 1 n m s l else false
def ownX (k n : Int) (m s : ByteArray) : Bool := if k = 1 then own1 n m s else if k = 2 then own2 n m s else if k = 3 then own3 n m s else if k = 6 then own3 n m s else own4 n m s
set_option maxRecDepth 100000 in
set_option maxHeartbeats 2000000 in
theorem fit0_impl (k n : Int) (m s : ByteArray) (l : Nat) (a : Option Addr) (cap : Nat) (w : World) (hl : l ≤ 9223372036854775807) (k1 : (k == 1) = false) (k2 : (k == 2) = false) (hF : formX k = ⟨#[]⟩) :
    Calls Tryz.prog 197 #[.agg #[.int .i64 k, .int .i64 n, .string m, .string s, .slice a l cap]] w fun e w' => e = .returned (.bool false) ∧ Below w.heap.size w w' := by
  have HF := Lib.hid hF
  have HX : Hid (decide (0 ≤ Lib.indexByte (ByteArray.mk #[]).data.toList 120) = false) := Lib.hid (by decide)
  have HE : Hid ((ByteArray.mk #[]).toList = []) := Lib.hid (by rw [ByteArray.toList_eq])
  clear hF
  go_enter Tryz.func197, Tryz.ntmps197
  go_wp2_with fail
  go_at_call 193
  refine (exprForm_any k _).mono ?_
  rintro e w1 ⟨rfl, rfl⟩
  rw [HF.out]
  go_wp2_with fail
  go_at_call 118
  refine (Tryz.strings_Contains_one ⟨#[]⟩ 120 _).mono ?_
  rintro e w1 ⟨rfl, rfl⟩
  rw [HX.out]
  go_wp2_with fail
  go_quiet (fail)
  all_goals go_wp2_with fail
  all_goals go_ret
  all_goals exact ⟨rfl, (by first | exact ((Below.refl _ _).alloc (Nat.le_refl _) _) | exact ((Below.refl _ _).alloc (Nat.le_refl _) _).drew | exact below_drewN ((Below.refl _ _).alloc (Nat.le_refl _) _) _)⟩
theorem exprFieldsFit_any (k n : Int) (m s : ByteArray) (l : Nat) (a : Option Addr) (cap : Nat) (w : World) (hl : l ≤ 9223372036854775807) :
    Calls Tryz.prog 197 #[.agg #[.int .i64 k, .int .i64 n, .string m, .string s, .slice a l cap]] w fun e w' => e = .returned (.bool (fieldsX k n m s l)) ∧ Below w.heap.size w w' := by
  by_cases h1 : k = 1
  · subst h1; exact fit1_impl n m s l a cap w hl
  by_cases h2 : k = 2
  · subst h2; exact fit2_impl n m s l a cap w hl
  have k1 : (k == 1) = false := by simpa using h1
  have k2 : (k == 2) = false := by simpa using h2
  by_cases h3 : k = 3
  · subst h3
    exact fit_form_true 3 n m s (formX 3) 1 l a cap w k1 k2 rfl (by decide) (by decide) (by decide) (by rw [ByteArray.toList_eq]; decide) hl
  by_cases h4 : k = 4
  · subst h4
    exact fit_form_false 4 n m s (formX 4) 2 l a cap w k1 k2 rfl (by decide) (by decide) (by decide) (by rw [ByteArray.toList_eq]; decide) hl
  by_cases h5 : k = 5
  · subst h5
    exact fit_form_false 5 n m s (formX 5) 2 l a cap w k1 k2 rfl (by decide) (by decide) (by decide) (by rw [ByteArray.toList_eq]; decide) hl
  by_cases h6 : k = 6
  · subst h6
    exact fit_form_true 6 n m s (formX 6) 2 l a cap w k1 k2 rfl (by decide) (by decide) (by decide) (by rw [ByteArray.toList_eq]; decide) hl
  by_cases h7 : k = 7
  · subst h7
    exact fit_form_false 7 n m s (formX 7) 3 l a cap w k1 k2 rfl (by decide) (by decide) (by decide) (by rw [ByteArray.toList_eq]; decide) hl
  by_cases h8 : k = 8
  · subst h8
    exact fit_form_false 8 n m s (formX 8) 2 l a cap w k1 k2 rfl (by decide) (by decide) (by decide) (by rw [ByteArray.toList_eq]; decide) hl
  by_cases h9 : k = 9
  · subst h9
    exact fit_form_false 9 n m s (formX 9) 1 l a cap w k1 k2 rfl (by decide) (by decide) (by decide) (by rw [ByteArray.toList_eq]; decide) hl
  by_cases h10 : k = 10
  · subst h10
    exact fit_form_false 10 n m s (formX 10) 1 l a cap w k1 k2 rfl (by decide) (by decide) (by decide) (by rw [ByteArray.toList_eq]; decide) hl
  have e : fieldsX k n m s l = false := by unfold fieldsX; simp only [h1, h2, h3, h4, h5, h6, h7, h8, h9, h10, if_false]
  rw [e]
  exact fit0_impl k n m s l a cap w hl k1 k2 (by unfold formX; simp only [h3, h4, h5, h6, h7, h8, h9, h10, if_false])

end Go.Proofs.YtkekghdkbbjhpaaGreatDoor.Ox
