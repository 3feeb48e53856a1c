/-
  The program's reader: the point refused; a number.
-/
import Derived.Test.YtpaefcdchaemfaaWp
namespace Go.Proofs.Ytpaefcdchaemfaa
open Go.RowKit
set_option linter.unusedVariables false
set_option linter.unusedSimpArgs false

set_option maxRecDepth 100000 in
set_option maxHeartbeats 4000000 in
theorem point_no (s : ByteArray) (hs : s.size ≤ 1048576) (p i : Nat) (I O : Int) (hI : I = (i : Int)) (hi : i ≤ s.size) (hO : -10 ≤ O) (hO2 : O ≤ 1048576) (hl : by8 s i ≠ 46 ∨ 2000 < I + O) (w : World) (hp : LR w p s I O) :
    Calls Try.prog 47 #[.pointer (some ⟨p, 0, none⟩), .string ⟨#[46]⟩] w fun e w' => ∃ v, e = .returned v ∧ Mis v ∧ Inside p (p + 1) w w' := by
  have HP := Lib.hid hp
  have HI := Lib.hid hI
  have HLI := Lib.hid hi
  obtain ⟨c, hc⟩ : ∃ c, by8 s i = c := ⟨_, rfl⟩
  rw [hc] at hl
  have HB := Lib.hid hc
  have HLL : Hid ((c == 46) = false ∨ 2000 < I + O + 0) := Lib.hid (hl.imp beq_eq_false_iff_ne.2 (fun h => by omega))
  clear hp hI hi hl hc
  go_enter Try.func47, Try.ntmps47
  go_wp2_with fail
  go_loopw [10] (fun jv wr => jv = .int .i64 0 ∧ wr = w) (fun j _ => 1 - (intOf j).toNat)
  case atStart => exact ⟨rfl, rfl⟩
  case round =>
    obtain ⟨rfl, rfl⟩ := hrel
    go_wp2_with fail
    go_region_with (first | (go_at_call 36; refine (peek_any s hs p i I O HI.out HLI.out _ (HP.out.kept (Below.refl _ _).drew)).mono ?_; rintro e w1 ⟨rfl, hb1⟩; have HP1 := Lib.hid ((HP.out.kept (Below.refl _ _).drew).kept hb1); have HN1 := Lib.hid (in_below (lo := p) (hi := p + 1) ((Below.refl wr.heap.size wr).drew.trans (hb1.mono (Nat.le_refl _)))); rw [HB.out]; clear hb1) | (go_at_call 40; refine (take_no s hs p i I O 0 _ HI.out HLI.out hO hO2 (by omega) (by omega) HLL.out _ HP1.out).mono ?_; rintro e w2 ⟨v, rfl, ⟨k, rfl⟩, hb2⟩; have HN2 := Lib.hid (HN1.out.trans (in_below hb2)); clear hb2))
    all_goals (try go_wp2_with fail)
    all_goals (try go_ret)
    all_goals exact ⟨_, rfl, ⟨_, rfl⟩, HN2.out⟩
set_option maxRecDepth 100000 in
set_option maxHeartbeats 4000000 in
theorem number_no1 (s : ByteArray) (hs : s.size ≤ 1048576) (p i : Nat) (I O : Int) (hI : I = (i : Int)) (hi : i < s.size) (hO : 1 ≤ O) (hO2 : O ≤ 1048576) (hd : dig (by8 s i) = true) (hl : 2000 < I + O) (w : World) (hp : LR w p s I O) :
    Calls Try.prog 38 #[.pointer (some ⟨p, 0, none⟩)] w fun e w' => ∃ (k : Int) (v : Value), e = .returned (.tuple #[.int .i64 k, v]) ∧ Mis v ∧ Inside p (p + 1) w w' := by
  have HI := Lib.hid hI
  have HI1 : Hid (I + 1 = ((i + 1 : Nat) : Int)) := Lib.hid (by omega)
  have HLT := Lib.hid hi
  have HLE : Hid (i ≤ s.size) := Lib.hid (Nat.le_of_lt hi)
  have HLE1 : Hid (i + 1 ≤ s.size) := Lib.hid hi
  have HP := Lib.hid hp
  have HN : Hid (Inside p (p + 1) w w) := Lib.hid (Inside.refl _ _ _)
  obtain ⟨c, hc⟩ : ∃ c, by8 s i = c := ⟨_, rfl⟩
  have HC := Lib.hid hc
  rw [hc] at hd 
  obtain ⟨d1, d2⟩ := of_decide_eq_true hd
  have s1 : IntKind.u8.wrap (c - 48) = c - 48 := IntWalk.u8_in _ (by omega)
  have s2 : IntKind.i64.wrap (c - 48) = c - 48 := IntWalk.i64_in _ (by omega)
  have HL : Hid (true = false ∨ 2000 < I + O + 0) := Lib.hid (.inr (by omega))
  clear hI hi hp hd hc hl
  go_enter Try.func38, Try.ntmps38
  go_wp2_with fail
  go_at_call 36
  refine (peek_any s hs p i I _ HI.out HLE.out _ HP.out).mono ?_
  rintro e w1 ⟨rfl, hb1⟩
  have HP1 := Lib.hid (HP.out.kept hb1)
  have HN1 := Lib.hid (HN.out.trans (in_below hb1))
  clear hb1
  rw [HC.out]
  go_wp2_with fail
  go_at_call 40
  refine (take_no s hs p i I (O) (0) _ HI.out HLE.out (by omega) (by omega) (by omega) (by omega) HL.out _ HP1.out).mono ?_
  rintro e w2 ⟨v2, rfl, ⟨k2, rfl⟩, hb2⟩
  have HN2 := Lib.hid (HN1.out.trans (in_below hb2))
  clear hb2
  go_wp2_with fail
  go_ret2
  exact ⟨_, _, rfl, ⟨_, rfl⟩, HN2.out⟩
set_option maxRecDepth 100000 in
set_option maxHeartbeats 4000000 in
theorem number_one_z (s : ByteArray) (hs : s.size ≤ 1048576) (p i : Nat) (I O : Int) (hI : I = (i : Int)) (hi : i < s.size) (hO : 1 ≤ O) (hO2 : O ≤ 1048576) (hd : dig (by8 s i) = true) (hl : I + O ≤ 2000) (hz : by8 s i = 48) (w : World) (hp : LR w p s I O) :
    Calls Try.prog 38 #[.pointer (some ⟨p, 0, none⟩)] w fun e w' => e = .returned (.tuple #[.int .i64 (by8 s i - 48), .nilIface]) ∧ LR w' p s (I + 1) (O - 1) ∧ Inside p (p + 1) w w' := by
  have HI := Lib.hid hI
  have HI1 : Hid (I + 1 = ((i + 1 : Nat) : Int)) := Lib.hid (by omega)
  have HLT := Lib.hid hi
  have HLE : Hid (i ≤ s.size) := Lib.hid (Nat.le_of_lt hi)
  have HLE1 : Hid (i + 1 ≤ s.size) := Lib.hid hi
  have HP := Lib.hid hp
  have HN : Hid (Inside p (p + 1) w w) := Lib.hid (Inside.refl _ _ _)
  obtain ⟨c, hc⟩ : ∃ c, by8 s i = c := ⟨_, rfl⟩
  have HC := Lib.hid hc
  rw [hc] at hd hz ⊢
  obtain ⟨d1, d2⟩ := of_decide_eq_true hd
  have s1 : IntKind.u8.wrap (c - 48) = c - 48 := IntWalk.u8_in _ (by omega)
  have s2 : IntKind.i64.wrap (c - 48) = c - 48 := IntWalk.i64_in _ (by omega)
  have HL : Hid (I + O + 0 ≤ 2000) := Lib.hid (by omega)
  have z1 : ¬ c - 48 > 0 := by omega
  clear hI hi hp hd hc hl hz 
  go_enter Try.func38, Try.ntmps38
  go_wp2_with fail
  go_at_call 36
  refine (peek_any s hs p i I _ HI.out HLE.out _ HP.out).mono ?_
  rintro e w1 ⟨rfl, hb1⟩
  have HP1 := Lib.hid (HP.out.kept hb1)
  have HN1 := Lib.hid (HN.out.trans (in_below hb1))
  clear hb1
  rw [HC.out]
  go_wp2_with fail
  go_at_call 40
  refine (take_is _ (by first | rfl | decide) s hs p i I (O) (0) HI.out HLT.out (by omega) (by omega) (by omega) (by omega) HL.out _ HP1.out).mono ?_
  rintro e w2 ⟨rfl, hp2, hn2⟩
  have HP2 := Lib.hid (hp2.at0 (J := I + 1) (Q := O - 1) (by omega) (by omega))
  have HN2 := Lib.hid (HN1.out.trans hn2)
  clear hp2 hn2
  go_wp2_with fail
  go_loopw [4] (fun nv wr => nv = .int .i64 (c - 48) ∧ Hid (LR wr p s (I + 1) (O - 1)) ∧ Hid (Inside p (p + 1) w wr)) (fun _ _ => 0)
  case atStart => exact ⟨rfl, HP2, HN2⟩
  case round =>
    obtain ⟨rfl, HP3, HN3⟩ := hrel
    go_wp2_with fail
    go_ret2
    exact ⟨rfl, HP3.out, HN3.out⟩
set_option maxRecDepth 100000 in
set_option maxHeartbeats 4000000 in
theorem number_one_d (s : ByteArray) (hs : s.size ≤ 1048576) (p i : Nat) (I O : Int) (hI : I = (i : Int)) (hi : i < s.size) (hO : 1 ≤ O) (hO2 : O ≤ 1048576) (hd : dig (by8 s i) = true) (hl : I + O ≤ 2000) (hz : by8 s i ≠ 48) (hd2 : dig (by8 s (i + 1)) = false) (w : World) (hp : LR w p s I O) :
    Calls Try.prog 38 #[.pointer (some ⟨p, 0, none⟩)] w fun e w' => e = .returned (.tuple #[.int .i64 (by8 s i - 48), .nilIface]) ∧ LR w' p s (I + 1) (O - 1) ∧ Inside p (p + 1) w w' := by
  have HI := Lib.hid hI
  have HI1 : Hid (I + 1 = ((i + 1 : Nat) : Int)) := Lib.hid (by omega)
  have HLT := Lib.hid hi
  have HLE : Hid (i ≤ s.size) := Lib.hid (Nat.le_of_lt hi)
  have HLE1 : Hid (i + 1 ≤ s.size) := Lib.hid hi
  have HP := Lib.hid hp
  have HN : Hid (Inside p (p + 1) w w) := Lib.hid (Inside.refl _ _ _)
  obtain ⟨c, hc⟩ : ∃ c, by8 s i = c := ⟨_, rfl⟩
  have HC := Lib.hid hc
  rw [hc] at hd hz ⊢
  obtain ⟨d1, d2⟩ := of_decide_eq_true hd
  have s1 : IntKind.u8.wrap (c - 48) = c - 48 := IntWalk.u8_in _ (by omega)
  have s2 : IntKind.i64.wrap (c - 48) = c - 48 := IntWalk.i64_in _ (by omega)
  have HL : Hid (I + O + 0 ≤ 2000) := Lib.hid (by omega)
  have z1 : c - 48 > 0 := by omega
  have HDD : Hid (dig (by8 s (i + 1)) = false) := Lib.hid hd2
  clear hI hi hp hd hc hl hz hd2
  go_enter Try.func38, Try.ntmps38
  go_wp2_with fail
  go_at_call 36
  refine (peek_any s hs p i I _ HI.out HLE.out _ HP.out).mono ?_
  rintro e w1 ⟨rfl, hb1⟩
  have HP1 := Lib.hid (HP.out.kept hb1)
  have HN1 := Lib.hid (HN.out.trans (in_below hb1))
  clear hb1
  rw [HC.out]
  go_wp2_with fail
  go_at_call 40
  refine (take_is _ (by first | rfl | decide) s hs p i I (O) (0) HI.out HLT.out (by omega) (by omega) (by omega) (by omega) HL.out _ HP1.out).mono ?_
  rintro e w2 ⟨rfl, hp2, hn2⟩
  have HP2 := Lib.hid (hp2.at0 (J := I + 1) (Q := O - 1) (by omega) (by omega))
  have HN2 := Lib.hid (HN1.out.trans hn2)
  clear hp2 hn2
  go_wp2_with fail
  go_loopw [4] (fun nv wr => nv = .int .i64 (c - 48) ∧ Hid (LR wr p s (I + 1) (O - 1)) ∧ Hid (Inside p (p + 1) w wr)) (fun _ _ => 0)
  case atStart => exact ⟨rfl, HP2, HN2⟩
  case round =>
    obtain ⟨rfl, HP3, HN3⟩ := hrel
    go_wp2_with fail
    go_at_call 36
    refine (peek_any s hs p (i + 1) (I + 1) _ HI1.out HLE1.out _ HP3.out).mono ?_
    rintro e w4 ⟨rfl, hb4⟩
    have HP4 := Lib.hid (HP3.out.kept hb4)
    have HN4 := Lib.hid (HN3.out.trans (in_below hb4))
    clear hb4
    go_wp2_with fail
    go_at_call 37
    refine (isDigit_any _ _).mono ?_
    rintro e wq ⟨rfl, rfl⟩
    rw [HDD.out]
    go_wp2_with fail
    go_ret2
    exact ⟨rfl, HP4.out, HN4.out⟩
set_option maxRecDepth 100000 in
set_option maxHeartbeats 4000000 in
theorem number_no2 (s : ByteArray) (hs : s.size ≤ 1048576) (p i : Nat) (I O : Int) (hI : I = (i : Int)) (hi : i < s.size) (hO : 1 ≤ O) (hO2 : O ≤ 1048576) (hd : dig (by8 s i) = true) (hl : I + O = 2000) (hz : by8 s i ≠ 48) (hd2 : dig (by8 s (i + 1)) = true) (w : World) (hp : LR w p s I O) :
    Calls Try.prog 38 #[.pointer (some ⟨p, 0, none⟩)] w fun e w' => ∃ (k : Int) (v : Value), e = .returned (.tuple #[.int .i64 k, v]) ∧ Mis v ∧ Inside p (p + 1) w w' := by
  have HI := Lib.hid hI
  have HI1 : Hid (I + 1 = ((i + 1 : Nat) : Int)) := Lib.hid (by omega)
  have HLT := Lib.hid hi
  have HLE : Hid (i ≤ s.size) := Lib.hid (Nat.le_of_lt hi)
  have HLE1 : Hid (i + 1 ≤ s.size) := Lib.hid hi
  have HP := Lib.hid hp
  have HN : Hid (Inside p (p + 1) w w) := Lib.hid (Inside.refl _ _ _)
  obtain ⟨c, hc⟩ : ∃ c, by8 s i = c := ⟨_, rfl⟩
  have HC := Lib.hid hc
  rw [hc] at hd hz
  obtain ⟨d1, d2⟩ := of_decide_eq_true hd
  have s1 : IntKind.u8.wrap (c - 48) = c - 48 := IntWalk.u8_in _ (by omega)
  have s2 : IntKind.i64.wrap (c - 48) = c - 48 := IntWalk.i64_in _ (by omega)
  have HL : Hid (I + O + 0 ≤ 2000) := Lib.hid (by omega)
  have HL2 : Hid (true = false ∨ 2000 < I + 1 + (O - 1) + 1) := Lib.hid (.inr (by omega))
  have z1 : c - 48 > 0 := by omega
  have HDD : Hid (dig (by8 s (i + 1)) = true) := Lib.hid hd2
  have HLT1 : Hid (i + 1 < s.size) := Lib.hid (dig_lt hd2)
  have HI2 : Hid (I + 2 = ((i + 2 : Nat) : Int)) := Lib.hid (by omega)
  have HLE2 : Hid (i + 2 ≤ s.size) := Lib.hid HLT1.out
  obtain ⟨d, hdd⟩ : ∃ d, by8 s (i + 1) = d := ⟨_, rfl⟩
  have HD := Lib.hid hdd
  rw [hdd] at hd2
  obtain ⟨d3, d4⟩ := of_decide_eq_true hd2
  have s4 : IntKind.u8.wrap (d - 48) = d - 48 := IntWalk.u8_in _ (by omega)
  have s5 : IntKind.i64.wrap (d - 48) = d - 48 := IntWalk.i64_in _ (by omega)
  have s6 : IntKind.i64.wrap (10 * (c - 48)) = 10 * (c - 48) := IntWalk.i64_in _ (by omega)
  have s7 : IntKind.i64.wrap (10 * (c - 48) + (d - 48)) = 10 * (c - 48) + (d - 48) := IntWalk.i64_in _ (by omega)
  have z2 : ¬ 10 * (c - 48) + (d - 48) > 99 := by omega
  have z3 : 10 * (c - 48) + (d - 48) > 0 := by omega
  clear hI hi hp hd hc hl hz hd2 hdd
  go_enter Try.func38, Try.ntmps38
  go_wp2_with fail
  go_at_call 36
  refine (peek_any s hs p i I _ HI.out HLE.out _ HP.out).mono ?_
  rintro e w1 ⟨rfl, hb1⟩
  have HP1 := Lib.hid (HP.out.kept hb1)
  have HN1 := Lib.hid (HN.out.trans (in_below hb1))
  clear hb1
  rw [HC.out]
  go_wp2_with fail
  go_at_call 40
  refine (take_is _ (by first | rfl | decide) s hs p i I (O) (0) HI.out HLT.out (by omega) (by omega) (by omega) (by omega) HL.out _ HP1.out).mono ?_
  rintro e w2 ⟨rfl, hp2, hn2⟩
  have HP2 := Lib.hid (hp2.at0 (J := I + 1) (Q := O - 1) (by omega) (by omega))
  have HN2 := Lib.hid (HN1.out.trans hn2)
  clear hp2 hn2
  go_wp2_with fail
  go_loopw [4] (fun nv wr => nv = .int .i64 (c - 48) ∧ Hid (LR wr p s (I + 1) (O - 1)) ∧ Hid (Inside p (p + 1) w wr)) (fun _ _ => 0)
  case atStart => exact ⟨rfl, HP2, HN2⟩
  case round =>
    obtain ⟨rfl, HP3, HN3⟩ := hrel
    go_wp2_with fail
    go_at_call 36
    refine (peek_any s hs p (i + 1) (I + 1) _ HI1.out HLE1.out _ HP3.out).mono ?_
    rintro e w4 ⟨rfl, hb4⟩
    have HP4 := Lib.hid (HP3.out.kept hb4)
    have HN4 := Lib.hid (HN3.out.trans (in_below hb4))
    clear hb4
    go_wp2_with fail
    go_at_call 37
    refine (isDigit_any _ _).mono ?_
    rintro e wq ⟨rfl, rfl⟩
    rw [HDD.out]
    go_wp2_with fail
    go_at_call 36
    refine (peek_any s hs p (i + 1) (I + 1) _ HI1.out HLE1.out _ HP4.out).mono ?_
    rintro e w5 ⟨rfl, hb5⟩
    have HP5 := Lib.hid (HP4.out.kept hb5)
    have HN5 := Lib.hid (HN4.out.trans (in_below hb5))
    clear hb5
    rw [HD.out]
    go_wp2_with fail
    go_at_call 40
    refine (take_no s hs p (i + 1) (I + 1) (O - 1) (1) _ HI1.out HLE1.out (by omega) (by omega) (by omega) (by omega) HL2.out _ HP5.out).mono ?_
    rintro e w6 ⟨v6, rfl, ⟨k6, rfl⟩, hb6⟩
    have HN6 := Lib.hid (HN5.out.trans (in_below hb6))
    clear hb6
    go_wp2_with fail
    go_ret2
    exact ⟨_, _, rfl, ⟨_, rfl⟩, HN6.out⟩
set_option maxRecDepth 100000 in
set_option maxHeartbeats 4000000 in
theorem number_two (s : ByteArray) (hs : s.size ≤ 1048576) (p i : Nat) (I O : Int) (hI : I = (i : Int)) (hi : i < s.size) (hO : 1 ≤ O) (hO2 : O ≤ 1048576) (hd : dig (by8 s i) = true) (hl : I + O ≤ 1999) (hz : by8 s i ≠ 48) (hd2 : dig (by8 s (i + 1)) = true) (w : World) (hp : LR w p s I O) :
    Calls Try.prog 38 #[.pointer (some ⟨p, 0, none⟩)] w fun e w' => e = .returned (.tuple #[.int .i64 (10 * (by8 s i - 48) + (by8 s (i + 1) - 48)), .nilIface]) ∧ LR w' p s (I + 2) (O - 1) ∧ Inside p (p + 1) w w' := by
  have HI := Lib.hid hI
  have HI1 : Hid (I + 1 = ((i + 1 : Nat) : Int)) := Lib.hid (by omega)
  have HLT := Lib.hid hi
  have HLE : Hid (i ≤ s.size) := Lib.hid (Nat.le_of_lt hi)
  have HLE1 : Hid (i + 1 ≤ s.size) := Lib.hid hi
  have HP := Lib.hid hp
  have HN : Hid (Inside p (p + 1) w w) := Lib.hid (Inside.refl _ _ _)
  obtain ⟨c, hc⟩ : ∃ c, by8 s i = c := ⟨_, rfl⟩
  have HC := Lib.hid hc
  rw [hc] at hd hz ⊢
  obtain ⟨d1, d2⟩ := of_decide_eq_true hd
  have s1 : IntKind.u8.wrap (c - 48) = c - 48 := IntWalk.u8_in _ (by omega)
  have s2 : IntKind.i64.wrap (c - 48) = c - 48 := IntWalk.i64_in _ (by omega)
  have HL : Hid (I + O + 0 ≤ 2000) := Lib.hid (by omega)
  have HL2 : Hid (I + 1 + (O - 1) + 1 ≤ 2000) := Lib.hid (by omega)
  have z1 : c - 48 > 0 := by omega
  have HDD : Hid (dig (by8 s (i + 1)) = true) := Lib.hid hd2
  have HLT1 : Hid (i + 1 < s.size) := Lib.hid (dig_lt hd2)
  have HI2 : Hid (I + 2 = ((i + 2 : Nat) : Int)) := Lib.hid (by omega)
  have HLE2 : Hid (i + 2 ≤ s.size) := Lib.hid HLT1.out
  obtain ⟨d, hdd⟩ : ∃ d, by8 s (i + 1) = d := ⟨_, rfl⟩
  have HD := Lib.hid hdd
  rw [hdd] at hd2 ⊢
  obtain ⟨d3, d4⟩ := of_decide_eq_true hd2
  have s4 : IntKind.u8.wrap (d - 48) = d - 48 := IntWalk.u8_in _ (by omega)
  have s5 : IntKind.i64.wrap (d - 48) = d - 48 := IntWalk.i64_in _ (by omega)
  have s6 : IntKind.i64.wrap (10 * (c - 48)) = 10 * (c - 48) := IntWalk.i64_in _ (by omega)
  have s7 : IntKind.i64.wrap (10 * (c - 48) + (d - 48)) = 10 * (c - 48) + (d - 48) := IntWalk.i64_in _ (by omega)
  have z2 : ¬ 10 * (c - 48) + (d - 48) > 99 := by omega
  have z3 : 10 * (c - 48) + (d - 48) > 0 := by omega
  clear hI hi hp hd hc hl hz hd2 hdd
  go_enter Try.func38, Try.ntmps38
  go_wp2_with fail
  go_at_call 36
  refine (peek_any s hs p i I _ HI.out HLE.out _ HP.out).mono ?_
  rintro e w1 ⟨rfl, hb1⟩
  have HP1 := Lib.hid (HP.out.kept hb1)
  have HN1 := Lib.hid (HN.out.trans (in_below hb1))
  clear hb1
  rw [HC.out]
  go_wp2_with fail
  go_at_call 40
  refine (take_is _ (by first | rfl | decide) s hs p i I (O) (0) HI.out HLT.out (by omega) (by omega) (by omega) (by omega) HL.out _ HP1.out).mono ?_
  rintro e w2 ⟨rfl, hp2, hn2⟩
  have HP2 := Lib.hid (hp2.at0 (J := I + 1) (Q := O - 1) (by omega) (by omega))
  have HN2 := Lib.hid (HN1.out.trans hn2)
  clear hp2 hn2
  go_wp2_with fail
  go_loopw [4] (fun nv wr => (nv = .int .i64 (c - 48) ∧ Hid (LR wr p s (I + 1) (O - 1)) ∧ Hid (Inside p (p + 1) w wr)) ∨ (nv = .int .i64 (10 * (c - 48) + (d - 48)) ∧ Hid (LR wr p s (I + 2) (O - 1)) ∧ Hid (Inside p (p + 1) w wr))) (fun n _ => 1000 - (intOf n).toNat)
  case atStart => exact .inl ⟨rfl, HP2, HN2⟩
  case round =>
    rcases hrel with ⟨rfl, HP3, HN3⟩ | ⟨rfl, HP3, HN3⟩
    case inl =>
      go_wp2_with fail
      go_at_call 36
      refine (peek_any s hs p (i + 1) (I + 1) _ HI1.out HLE1.out _ HP3.out).mono ?_
      rintro e w4 ⟨rfl, hb4⟩
      have HP4 := Lib.hid (HP3.out.kept hb4)
      have HN4 := Lib.hid (HN3.out.trans (in_below hb4))
      clear hb4
      go_wp2_with fail
      go_at_call 37
      refine (isDigit_any _ _).mono ?_
      rintro e wq ⟨rfl, rfl⟩
      rw [HDD.out]
      go_wp2_with fail
      go_at_call 36
      refine (peek_any s hs p (i + 1) (I + 1) _ HI1.out HLE1.out _ HP4.out).mono ?_
      rintro e w5 ⟨rfl, hb5⟩
      have HP5 := Lib.hid (HP4.out.kept hb5)
      have HN5 := Lib.hid (HN4.out.trans (in_below hb5))
      clear hb5
      rw [HD.out]
      go_wp2_with fail
      go_at_call 40
      refine (take_is _ (by first | rfl | decide) s hs p (i + 1) (I + 1) ((O - 1)) (1) HI1.out HLT1.out (by omega) (by omega) (by omega) (by omega) HL2.out _ HP5.out).mono ?_
      rintro e w6 ⟨rfl, hp6, hn6⟩
      have HP6 := Lib.hid (hp6.at0 (J := I + 2) (Q := O - 1) (by omega) (by omega))
      have HN6 := Lib.hid (HN5.out.trans hn6)
      clear hp6 hn6
      go_wp2_with fail
      go_roundw
      case rel => exact .inr ⟨rfl, HP6, HN6⟩
      case measure => simp [intOf]; omega
    case inr =>
      go_wp2_with fail
      go_at_call 36
      refine (peek_any s hs p (i + 2) (I + 2) _ HI2.out HLE2.out _ HP3.out).mono ?_
      rintro e w7 ⟨rfl, hb7⟩
      have HP7 := Lib.hid (HP3.out.kept hb7)
      have HN7 := Lib.hid (HN3.out.trans (in_below hb7))
      clear hb7
      go_wp2_with fail
      go_at_call 37
      refine (isDigit_any _ _).mono ?_
      rintro e wq ⟨rfl, rfl⟩
      obtain ⟨b, hb⟩ : ∃ b, dig (by8 s (i + 2)) = b := ⟨_, rfl⟩
      rw [hb]
      cases b with
      | false =>
        clear hb
        go_wp2_with fail
        go_ret2
        exact ⟨rfl, HP7.out, HN7.out⟩
      | true =>
        obtain ⟨x, hx⟩ : ∃ x, by8 s (i + 2) = x := ⟨_, rfl⟩
        have HX := Lib.hid hx
        rw [hx] at hb
        obtain ⟨x3, x4⟩ := of_decide_eq_true hb
        have t4 : IntKind.u8.wrap (x - 48) = x - 48 := IntWalk.u8_in _ (by omega)
        have t5 : IntKind.i64.wrap (x - 48) = x - 48 := IntWalk.i64_in _ (by omega)
        have t6 : IntKind.i64.wrap (10 * (10 * (c - 48) + (d - 48))) = 10 * (10 * (c - 48) + (d - 48)) := IntWalk.i64_in _ (by omega)
        have t7 : IntKind.i64.wrap (10 * (10 * (c - 48) + (d - 48)) + (x - 48)) = 10 * (10 * (c - 48) + (d - 48)) + (x - 48) := IntWalk.i64_in _ (by omega)
        have t8 : 10 * (10 * (c - 48) + (d - 48)) + (x - 48) > 99 := by omega
        clear hb hx
        go_wp2_with fail
        go_at_call 36
        refine (peek_any s hs p (i + 2) (I + 2) _ HI2.out HLE2.out _ HP7.out).mono ?_
        rintro e w8 ⟨rfl, hb8⟩
        have HP8 := Lib.hid (HP7.out.kept hb8)
        have HN8 := Lib.hid (HN7.out.trans (in_below hb8))
        clear hb8
        rw [HX.out]
        go_wp2_with fail
        go_ret2
        exact ⟨rfl, HP8.out, HN8.out⟩

end Go.Proofs.Ytpaefcdchaemfaa
