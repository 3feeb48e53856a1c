/-
  A number and a name with its file, read by the model.
-/
import Derived.Test.YtpaefcdchaemfaaWb
namespace Go.Proofs.Ytpaefcdchaemfaa
open Go.RowKit Go.Proofs.Ytpaefcdchaemfaa.Ox
set_option linter.unusedVariables false
set_option linter.unusedSimpArgs false

set_option maxHeartbeats 1000000 in
theorem num_small (s : ByteArray) (i : Nat) (I : Int) (hI : I = i) (hs : s.size ≤ 1048576) (hi : i < s.size) (hd : dig (by8 s i) = true) (h2 : by8 s i = 48 ∨ dig (by8 s (i + 1)) = false) (w : World) :
    Calls Try.prog 16 #[.string s, .int .i64 I] w fun e w' => XRet w e w' (.ok (.node 1 (by8 s i - 48) e0 e0 []) (i + 1)) := by
  have r1 := by8_idx Try.prog 9 Try.underlying9 hi
  rw [← hI] at r1
  obtain ⟨c, hc⟩ : ∃ c, by8 s i = c := ⟨_, rfl⟩
  rw [hc] at r1 hd h2 ⊢
  obtain ⟨d1, d2⟩ := of_decide_eq_true hd
  have s1 : IntKind.u8.wrap (c - 48) = c - 48 := IntWalk.u8_in _ (by omega)
  have s2 : IntKind.i64.wrap (c - 48) = c - 48 := IntWalk.i64_in _ (by omega)
  have h0 : (0 : Int) ≤ I := by omega
  have h1 : I < (s.size : Int) := by omega
  have s3 : IntKind.i64.wrap (I + 1) = I + 1 := IntWalk.i64_in _ (by omega)
  have HI := Lib.hid hI
  have HI1 : Hid (I + 1 = ((i + 1 : Nat) : Int)) := Lib.hid (by omega)
  have HB : Hid (Below w.heap.size w (w.alloc (.cells #[.int .i64 0, .int .i64 0, .string ⟨#[]⟩, .string ⟨#[]⟩, .slice none 0 0] 24))) := Lib.hid ((Below.refl _ _).alloc (Nat.le_refl _) _)
  have hi1 : i + 1 ≤ 1048600 := by omega
  clear hI hi hd
  rcases Decidable.em (c - 48 = 0) with z | z
  · have z1 : ((c - 48 : Int) == 0) = true := by rw [beq_iff_eq]; exact z
    clear z h2 hc
    go_enter Try.func16, Try.ntmps16
    go_wp2_with fail
    exact bodyPost_ret (v := .tuple #[.agg #[.int .i64 1, .int .i64 (c - 48), .string ⟨#[]⟩, .string ⟨#[]⟩, .slice none 0 0], .int .i64 (I + 1)]) (by simp [results, Try.results16, go_sem]) rfl ⟨_, _, HI1.out, rfl, .bare _ _ _ _ _ _ _ _, (Below.refl _ _).alloc (Nat.le_refl _) _⟩
  · have z1 : ((c - 48 : Int) == 0) = false := by rw [beq_eq_false_iff_ne]; exact z
    have HD : Hid (dig (by8 s (i + 1)) = false) := Lib.hid (h2.resolve_left (by omega))
    clear z h2 hc
    go_enter Try.func16, Try.ntmps16
    go_wp2_with fail
    go_at_call 15
    refine (l3Digit_any s (i + 1) _ HI1.out hs hi1 _).mono ?_
    rintro e w1 ⟨rfl, rfl⟩
    rw [HD.out]
    go_wp2_with fail
    exact bodyPost_ret (v := .tuple #[.agg #[.int .i64 1, .int .i64 (c - 48), .string ⟨#[]⟩, .string ⟨#[]⟩, .slice none 0 0], .int .i64 (I + 1)]) (by simp [results, Try.results16, go_sem]) rfl ⟨_, _, HI1.out, rfl, .bare _ _ _ _ _ _ _ _, (Below.refl _ _).alloc (Nat.le_refl _) _⟩
set_option maxHeartbeats 1000000 in
theorem num_big (s : ByteArray) (i : Nat) (I : Int) (hI : I = i) (hs : s.size ≤ 1048576) (hi : i < s.size) (hd : dig (by8 s i) = true) (h2 : ¬ (by8 s i = 48 ∨ dig (by8 s (i + 1)) = false)) (w : World) :
    Calls Try.prog 16 #[.string s, .int .i64 I] w fun e w' => XRet w e w' (.ok (.node 1 (10 * (by8 s i - 48) + (by8 s (i + 1) - 48)) e0 e0 []) (i + 2)) := by
  have hd2 : dig (by8 s (i + 1)) = true := by
    cases h : dig (by8 s (i + 1)) with
    | true => rfl
    | false => exact absurd (.inr h) h2
  have h48 : ¬ by8 s i = 48 := fun h => h2 (.inl h)
  have r1 := by8_idx Try.prog 9 Try.underlying9 hi
  have r2 := by8_idx Try.prog 9 Try.underlying9 (dig_lt hd2)
  have hi2 := dig_lt hd2
  rw [show (((i + 1 : Nat) : Int)) = I + 1 by omega] at r2
  rw [← hI] at r1
  have HD : Hid (dig (by8 s (i + 1)) = true) := Lib.hid hd2
  obtain ⟨c, hc⟩ : ∃ c, by8 s i = c := ⟨_, rfl⟩
  obtain ⟨d, hdd⟩ : ∃ d, by8 s (i + 1) = d := ⟨_, rfl⟩
  rw [hc] at r1 hd h48 ⊢
  rw [hdd] at r2 hd2 ⊢
  obtain ⟨d1, d2⟩ := of_decide_eq_true hd
  obtain ⟨d3, d4⟩ := of_decide_eq_true hd2
  have s1 : IntKind.u8.wrap (c - 48) = c - 48 := IntWalk.u8_in _ (by omega)
  have s2 : IntKind.i64.wrap (c - 48) = c - 48 := IntWalk.i64_in _ (by omega)
  have s4 : IntKind.u8.wrap (d - 48) = d - 48 := IntWalk.u8_in _ (by omega)
  have s5 : IntKind.i64.wrap (d - 48) = d - 48 := IntWalk.i64_in _ (by omega)
  have s6 : IntKind.i64.wrap (10 * (c - 48)) = 10 * (c - 48) := IntWalk.i64_in _ (by omega)
  have s7 : IntKind.i64.wrap (10 * (c - 48) + (d - 48)) = 10 * (c - 48) + (d - 48) := IntWalk.i64_in _ (by omega)
  have h0 : (0 : Int) ≤ I := by omega
  have h1 : I < (s.size : Int) := by omega
  have h3 : (0 : Int) ≤ I + 1 := by omega
  have h4 : I + 1 < (s.size : Int) := by omega
  have s3 : IntKind.i64.wrap (I + 1) = I + 1 := IntWalk.i64_in _ (by omega)
  have s8 : IntKind.i64.wrap (I + 2) = I + 2 := IntWalk.i64_in _ (by omega)
  have HI1 : Hid (I + 1 = ((i + 1 : Nat) : Int)) := Lib.hid (by omega)
  have HI2 : Hid (I + 2 = ((i + 2 : Nat) : Int)) := Lib.hid (by omega)
  have hi1 : i + 1 ≤ 1048600 := by omega
  have z1 : ((c - 48 : Int) == 0) = false := by rw [beq_eq_false_iff_ne]; omega
  clear hI hi hd hd2 h48 h2 hc hdd hi2
  go_enter Try.func16, Try.ntmps16
  go_wp2_with fail
  go_at_call 15
  refine (l3Digit_any s (i + 1) _ HI1.out hs hi1 _).mono ?_
  rintro e w1 ⟨rfl, rfl⟩
  rw [HD.out]
  go_wp2_with fail
  exact bodyPost_ret (v := .tuple #[.agg #[.int .i64 1, .int .i64 (10 * (c - 48) + (d - 48)), .string ⟨#[]⟩, .string ⟨#[]⟩, .slice none 0 0], .int .i64 (I + 2)]) (by simp [results, Try.results16, go_sem]) rfl ⟨_, _, HI2.out, rfl, .bare _ _ _ _ _ _ _ _, (Below.refl _ _).alloc (Nat.le_refl _) _⟩
theorem l3Number_any (s : ByteArray) (i : Nat) (I : Int) (hI : I = i) (hs : s.size ≤ 1048576) (hi : i < s.size) (hd : dig (by8 s i) = true) (w : World) :
    Calls Try.prog 16 #[.string s, .int .i64 I] w fun e w' => XRet w e w' (pxN s i) := by
  unfold pxN
  by_cases h : by8 s i = 48 ∨ dig (by8 s (i + 1)) = false
  · rw [if_pos h]; exact num_small s i I hI hs hi hd h w
  · rw [if_neg h]; exact num_big s i I hI hs hi hd h w

theorem sign_at (s : ByteArray) (n : Nat) (N : Int) (hN : N = n) (c : Int) (b : Bool) (hc : c ≠ 0) (hb : (by8 s n == c) = b) (w : World) :
    Calls Try.prog 23 #[.string s, .int .i64 N, .int .u8 c] w fun e w' => e = .returned (.bool b) ∧ w' = w := by
  subst hN; exact l2Sign_any s n c b hc hb w
/-- What a reader returns that fails at once. -/
def z5 : Value := .agg #[.int .i64 0, .int .i64 0, .string ⟨#[]⟩, .string ⟨#[]⟩, .slice none 0 0]
set_option maxHeartbeats 4000000 in
theorem l3Dotted_any (s : ByteArray) (i : Nat) (I : Int) (hI : I = i) (hs : s.size ≤ 1048576) (hi : i < s.size) (w : World) :
    Calls Try.prog 19 #[.string s, .int .i64 I] w fun e w' => XRet w e w' (pxD s i) := by
  have h0 : (0 : Int) ≤ I := by omega
  have h1 : I < (s.size : Int) := by omega
  have h2 : I ≤ 1048577 := by omega
  have s3 : IntKind.i64.wrap (I + 1) = I + 1 := IntWalk.i64_in _ (by omega)
  have s8 : IntKind.i64.wrap (I + 2) = I + 2 := IntWalk.i64_in _ (by omega)
  have s9 : IntKind.i64.wrap (I + 3) = I + 3 := IntWalk.i64_in _ (by omega)
  have t2 : IntKind.i64.wrap (-2 - I) = -2 - I := IntWalk.i64_in _ (by omega)
  have t3 : IntKind.i64.wrap (-3 - I) = -3 - I := IntWalk.i64_in _ (by omega)
  have HI1 : Hid (I + 1 = ((i + 1 : Nat) : Int)) := Lib.hid (by omega)
  have HI2 : Hid (I + 2 = ((i + 2 : Nat) : Int)) := Lib.hid (by omega)
  have HI3 : Hid (I + 3 = ((i + 3 : Nat) : Int)) := Lib.hid (by omega)
  have hi2 : i + 2 ≤ 1048600 := by omega
  have HT : Hid (I.toNat = i ∧ (I + 1).toNat = i + 1 ∧ (I + 2).toNat = i + 2 ∧ (I + 3).toNat = i + 3) := Lib.hid (by omega)
  have HN1 : Hid (-2 - I = -1 - ((i + 1 : Nat) : Int)) := Lib.hid (by omega)
  have HN2 : Hid (-3 - I = -1 - ((i + 2 : Nat) : Int)) := Lib.hid (by omega)
  unfold pxD
  by_cases h46 : by8 s (i + 1) = 46
  case neg =>
    rw [if_neg h46]
    have H46 : Hid ((by8 s (i + 1) == 46) = false) := Lib.hid (beq_eq_false_iff_ne.2 h46)
    clear hI hi h46
    go_enter Try.func19, Try.ntmps19
    go_wp2_with fail
    go_at_call 23
    refine (sign_at s _ _ HI1.out 46 false (by omega) H46.out _).mono ?_
    rintro e w1 ⟨rfl, rfl⟩
    go_wp2_with fail
    exact bodyPost_ret (v := .tuple #[.agg #[.int .i64 0, .int .i64 0, .string ⟨#[]⟩, .string ⟨#[]⟩, .slice none 0 0], .int .i64 (-2 - I)]) (by simp [results, Try.results19, go_sem]) rfl ⟨_, _, _, _, _, _, _, _, HN1.out, rfl, (Below.refl _ _).alloc (Nat.le_refl _) _⟩
  rw [if_pos h46]
  have H46 : Hid ((by8 s (i + 1) == 46) = true) := Lib.hid (beq_iff_eq.2 h46)
  by_cases hsm : sml (by8 s (i + 2)) = true
  case neg =>
    rw [if_neg hsm]
    have HSM : Hid (sml (by8 s (i + 2)) = false) := Lib.hid (by cases h : sml (by8 s (i + 2)) with | true => exact absurd h hsm | false => rfl)
    clear hI hi h46 hsm
    go_enter Try.func19, Try.ntmps19
    go_wp2_with fail
    go_at_call 23
    refine (sign_at s _ _ HI1.out 46 true (by omega) H46.out _).mono ?_
    rintro e w1 ⟨rfl, rfl⟩
    go_wp2_with fail
    go_at_call 17
    refine (l3IsSmall_any s _ _ HI2.out hs hi2 _).mono ?_
    rintro e w1 ⟨rfl, rfl⟩
    rw [HSM.out]
    go_wp2_with fail
    exact bodyPost_ret (v := .tuple #[.agg #[.int .i64 0, .int .i64 0, .string ⟨#[]⟩, .string ⟨#[]⟩, .slice none 0 0], .int .i64 (-3 - I)]) (by simp [results, Try.results19, go_sem]) rfl ⟨_, _, _, _, _, _, _, _, HN2.out, rfl, (Below.refl _ _).alloc (Nat.le_refl _) _⟩
  rw [if_pos hsm]
  have HSM : Hid (sml (by8 s (i + 2)) = true) := Lib.hid hsm
  have h5 : I + 3 ≤ (s.size : Int) := by have := sml_lt hsm; omega
  have h6 : I + 1 ≤ (s.size : Int) := by omega
  have h7 : (0 : Int) ≤ I + 2 := by omega
  have h8 : I ≤ I + 1 := by omega
  have h9 : I + 2 ≤ I + 3 := by omega
  clear hI hi h46 hsm
  go_enter Try.func19, Try.ntmps19
  go_wp2_with fail
  go_at_call 23
  refine (sign_at s _ _ HI1.out 46 true (by omega) H46.out _).mono ?_
  rintro e w1 ⟨rfl, rfl⟩
  go_wp2_with fail
  go_at_call 17
  refine (l3IsSmall_any s _ _ HI2.out hs hi2 _).mono ?_
  rintro e w1 ⟨rfl, rfl⟩
  rw [HSM.out]
  go_wp2_with fail
  go_region
  all_goals go_wp2_with fail
  all_goals exact bodyPost_ret (v := .tuple #[.agg #[.int .i64 2, .int .i64 0, .string (s.extract I.toNat (I + 1).toNat), .string (s.extract (I + 2).toNat (I + 3).toNat), .slice none 0 0], .int .i64 (I + 3)]) (by simp [results, Try.results19, go_sem]) rfl ⟨.slice none 0 0, _, HI3.out, by rw [HT.out.1, HT.out.2.1, HT.out.2.2.1, HT.out.2.2.2]; rfl, .bare _ _ _ _ _ _ _ _, by first | exact (Below.refl _ _).alloc (Nat.le_refl _) _ | exact ((Below.refl _ _).alloc (Nat.le_refl _) _).drew | exact (((Below.refl _ _).alloc (Nat.le_refl _) _).drew).drew⟩

end Go.Proofs.Ytpaefcdchaemfaa
