/-
  Sets of names as bits of a number, against lists of names; which operand binds a name.
-/
import Derived.Test.YtlgbkhkmfgdehaaRb
namespace Go.Proofs.Ytlgbkhkmfgdehaa.Ox
open Go.Proofs.Ytlgbkhkmfgdehaa
open Go.RowKit
set_option linter.unusedVariables false
set_option linter.unusedSimpArgs false

theorem bits_or_u32 (a b : Nat) (ha : a < 67108864) (hb : b < 67108864) : bits .or .u32 (a : Int) (b : Int) = ((a ||| b : Nat) : Int) := by
  have hx : a ||| b < 2 ^ 26 := Nat.or_lt_two_pow (by omega) (by omega)
  have h1 : (BitVec.ofInt 32 (a : Int)).toNat = a := by
    rw [BitVec.ofInt_natCast, BitVec.toNat_ofNat]; exact Nat.mod_eq_of_lt (by omega)
  have h2 : (BitVec.ofInt 32 (b : Int)).toNat = b := by
    rw [BitVec.ofInt_natCast, BitVec.toNat_ofNat]; exact Nat.mod_eq_of_lt (by omega)
  show IntKind.u32.wrap ((BitVec.ofInt 32 (a : Int) ||| BitVec.ofInt 32 (b : Int)).toNat : Int) = _
  rw [BitVec.toNat_or, h1, h2]
  show (((a ||| b : Nat) : Int)) % 4294967296 = _
  omega
def wt (M k : Nat) : Nat := M ||| 2 ^ k
theorem pow26 {k : Nat} (h : k ≤ 25) : 2 ^ k < 67108864 := Nat.lt_of_le_of_lt (Nat.pow_le_pow_right (by omega) h) (by decide)
theorem wt_lt {M k : Nat} (hM : M < 67108864) (h : k ≤ 25) : wt M k < 67108864 := Nat.or_lt_two_pow (n := 26) hM (pow26 h)
theorem wt_bits {M k : Nat} (hM : M < 67108864) (h : k ≤ 25) : bits .or .u32 (M : Int) ((2 : Int) ^ k % 4294967296) = ((wt M k : Nat) : Int) := by
  have hp := pow26 h
  have e : ((2 : Int) ^ k) = ((2 ^ k : Nat) : Int) := by push_cast; rfl
  have e2 : ((2 : Int) ^ k % 4294967296) = ((2 ^ k : Nat) : Int) := by
    rw [e]
    generalize 2 ^ k = P at hp ⊢
    omega
  rw [e2]
  exact bits_or_u32 M (2 ^ k) hM hp
theorem wt_test (M k i : Nat) : (wt M k).testBit i = (M.testBit i || decide (k = i)) := by
  unfold wt
  rw [Nat.testBit_or, Nat.testBit_two_pow]
def hsB (M k : Nat) : Bool := decide (M = wt M k)
theorem hsB_test (M k : Nat) : hsB M k = M.testBit k := by
  rcases h : M.testBit k with _ | _
  · refine decide_eq_false (fun e => ?_)
    have h2 := wt_test M k k
    rw [← e, h] at h2
    simp at h2
  · refine decide_eq_true (Nat.eq_of_testBit_eq (fun i => ?_))
    rw [wt_test]
    by_cases e : k = i
    · subst e; rw [h]; simp
    · simp [e]
/-- The number of a name of one letter. -/
def nk (s : ByteArray) : Nat := if h : 0 < s.size then (s[0]'h).toNat - 97 else 0
theorem nk_is {s : ByteArray} (h : s.size = 1) : nk s = (s[0]'(by omega)).toNat - 97 := by unfold nk; rw [dif_pos (by omega)]
theorem one_size {lo hi : Int} {s : ByteArray} (h : oneB lo hi s = true) : s.size = 1 := by
  by_cases e : s.size = 1
  · exact e
  · rw [oneB_no e] at h; cases h
theorem one_range {s : ByteArray} (h : oneB 97 122 s = true) : (97 : Int) ≤ (((s[0]'(by rw [one_size h]; omega)).toNat : Nat) : Int) ∧ (((s[0]'(by rw [one_size h]; omega)).toNat : Nat) : Int) ≤ 122 := by
  have hs := one_size h
  rw [oneB_is hs] at h
  exact of_decide_eq_true h
theorem nk_le {s : ByteArray} (h : oneB 97 122 s = true) : nk s ≤ 25 := by
  have hr := one_range h
  rw [nk_is (one_size h)]
  omega
set_option maxRecDepth 100000 in
set_option maxHeartbeats 1000000 in
theorem with_any (M : Nat) (s : ByteArray) (hM : M < 67108864) (ho : oneB 97 122 s = true) (w : World) : Calls Try.prog 89 #[.int .u32 (M : Int), .string s] w fun e w' => e = .returned (.int .u32 ((wt M (nk s) : Nat) : Int)) ∧ w' = w := by
  have hs := one_size ho
  obtain ⟨h1, h2⟩ := one_range ho
  have HV : Hid (bits .or .u32 (M : Int) ((2 : Int) ^ ((s[0]'(by omega)).toNat - 97) % 4294967296) = ((wt M (nk s) : Nat) : Int)) := Lib.hid (by
    rw [nk_is hs]
    exact wt_bits hM (by omega))
  go_enter Try.func89, Try.ntmps89
  go_wp2_with fail
  go_ret
  refine ⟨?_, rfl⟩
  rw [← HV.out]
  rfl
set_option maxRecDepth 100000 in
set_option maxHeartbeats 1000000 in
theorem has_any (M : Nat) (s : ByteArray) (hM : M < 67108864) (ho : oneB 97 122 s = true) (w : World) : Calls Try.prog 86 #[.int .u32 (M : Int), .string s] w fun e w' => e = .returned (.bool (hsB M (nk s))) ∧ w' = w := by
  have HO := Lib.hid ho
  have hW := wt_lt hM (nk_le ho)
  obtain ⟨V, hV⟩ : ∃ V, wt M (nk s) = V := ⟨_, rfl⟩
  have HV := Lib.hid hV
  rw [hV] at hW
  clear ho hV
  have hb : ((M : Int) == (V : Int)) = hsB M (nk s) := by
    unfold hsB
    rw [HV.out]
    by_cases e : M = V
    · rw [decide_eq_true e, beq_iff_eq]; omega
    · rw [decide_eq_false e, beq_eq_false_iff_ne]; omega
  have HB := Lib.hid hb
  clear hb
  go_enter Try.func86, Try.ntmps86
  go_wp2_with fail
  go_at_call 89
  refine (with_any M s hM HO.out _).mono ?_
  rintro e w1 ⟨rfl, rfl⟩
  rw [HV.out]
  go_wp2_with fail
  go_ret
  exact ⟨ret_bz HB.out, rfl⟩
/-- The names of the list are the bits of the number. -/
structure Bnd (b : List ByteArray) (M : Nat) : Prop where
  lt : M < 67108864
  eq : ∀ s, oneB 97 122 s = true → hasB b s = hsB M (nk s)
theorem Bnd.nil : Bnd [] 0 := ⟨by omega, fun s _ => by rw [hsB_test]; simp [hasB]⟩
theorem list_one {s : ByteArray} (h : s.size = 1) : s.toList = [s[0]'(by omega)] := by
  rw [ByteArray.toList_eq]
  obtain ⟨d⟩ := s
  obtain ⟨l⟩ := d
  match l, h with
  | [c], _ => rfl
theorem same_nk {s t : ByteArray} (hs : oneB 97 122 s = true) (ht : oneB 97 122 t = true) : s.toList = t.toList ↔ nk s = nk t := by
  have h1 := one_size hs
  have h2 := one_size ht
  have r1 := one_range hs
  have r2 := one_range ht
  rw [list_one h1, list_one h2, nk_is h1, nk_is h2]
  constructor
  · intro e
    injection e with e _
    rw [e]
  · intro e
    have : (s[0]'(by omega)).toNat = (t[0]'(by omega)).toNat := by omega
    rw [UInt8.toNat_inj.1 this]
theorem Bnd.put {b : List ByteArray} {M : Nat} (h : Bnd b M) {s : ByteArray} (hs : oneB 97 122 s = true) : Bnd (b ++ [s]) (wt M (nk s)) where
  lt := wt_lt h.lt (nk_le hs)
  eq := fun t ht => by
    have h1 := h.eq t ht
    rw [hsB_test] at h1 ⊢
    rw [wt_test, ← h1]
    have e : hasB (b ++ [s]) t = (hasB b t || decide (s.toList = t.toList)) := by simp [hasB]
    rw [e]
    congr 1
    by_cases h2 : nk s = nk t
    · rw [decide_eq_true h2, decide_eq_true ((same_nk hs ht).2 h2)]
    · rw [decide_eq_false h2, decide_eq_false (fun e => h2 ((same_nk hs ht).1 e))]
/-- Which operand binds the node's name. -/
def bindB (k : Int) (i : Nat) : Bool := decide (k = 3) || (decide (k = 6) && decide (i = 1))
set_option maxRecDepth 100000 in
set_option maxHeartbeats 1000000 in
theorem bindsIn_any (k n : Int) (m s : ByteArray) (a : Option Addr) (l cap i : Nat) (hi : i ≤ 1000000) (w : World) : Calls Try.prog 88 #[.agg #[.int .i64 k, .int .i64 n, .string m, .string s, .slice a l cap], .int .i64 (i : Int)] w fun e w' => e = .returned (.bool (bindB k i)) ∧ Below w.heap.size w w' := by
  by_cases h3 : k = 3
  · have HR : Hid (bindB k i = true) := Lib.hid (by unfold bindB; rw [decide_eq_true h3]; rfl)
    have e3 : (k == 3) = true := by simpa using h3
    clear h3
    go_enter Try.func88, Try.ntmps88
    go_wp2_with fail
    go_ret
    exact ⟨ret_bz HR.out.symm, by first | exact Below.refl _ _ | exact (Below.refl _ _).alloc (Nat.le_refl _) _⟩
  have e3 : (k == 3) = false := by simpa using h3
  by_cases h6 : k = 6
  · have e6 : (k == 6) = true := by simpa using h6
    by_cases h1 : i = 1
    · have HR : Hid (bindB k i = true) := Lib.hid (by unfold bindB; rw [decide_eq_true h6, decide_eq_true h1]; simp)
      have e1 : ((i : Int) == 1) = true := by rw [beq_iff_eq]; omega
      clear h3 h6 h1
      go_enter Try.func88, Try.ntmps88
      go_wp2_with fail
      go_ret
      exact ⟨ret_bz HR.out.symm, by first | exact Below.refl _ _ | exact (Below.refl _ _).alloc (Nat.le_refl _) _⟩
    · have HR : Hid (bindB k i = false) := Lib.hid (by unfold bindB; rw [decide_eq_false h3, decide_eq_false h1]; simp)
      have e1 : ((i : Int) == 1) = false := by rw [beq_eq_false_iff_ne]; omega
      clear h3 h6 h1
      go_enter Try.func88, Try.ntmps88
      go_wp2_with fail
      go_ret
      exact ⟨ret_bz HR.out.symm, by first | exact Below.refl _ _ | exact (Below.refl _ _).alloc (Nat.le_refl _) _⟩
  · have HR : Hid (bindB k i = false) := Lib.hid (by unfold bindB; rw [decide_eq_false h3, decide_eq_false h6]; rfl)
    have e6 : (k == 6) = false := by simpa using h6
    clear h3 h6
    go_enter Try.func88, Try.ntmps88
    go_wp2_with fail
    go_ret
    exact ⟨ret_bz HR.out.symm, by first | exact Below.refl _ _ | exact (Below.refl _ _).alloc (Nat.le_refl _) _⟩

end Go.Proofs.Ytlgbkhkmfgdehaa.Ox
