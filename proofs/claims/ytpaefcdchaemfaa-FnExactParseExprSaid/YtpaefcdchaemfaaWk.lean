/-
  The model's parser of expressions answers as the plain one.
-/
import Derived.Test.YtpaefcdchaemfaaWj
namespace Go.Proofs.Ytpaefcdchaemfaa
open Go.RowKit Go.Proofs.Ytpaefcdchaemfaa.Ox
set_option linter.unusedVariables false
set_option linter.unusedSimpArgs false

theorem sg3 (j : Nat) (hj : j < (⟨#[44, 44, 62]⟩ : ByteArray).size) : by8 ⟨#[44, 44, 62]⟩ j = ([44, 44, 62] : List Int).getD j 0 ∧ ([44, 44, 62] : List Int).getD j 0 ≠ 0 := by
  obtain rfl | rfl | rfl : j = 0 ∨ j = 1 ∨ j = 2 := by have : (⟨#[44, 44, 62]⟩ : ByteArray).size = 3 := rfl; omega
  · exact ⟨by decide, by decide⟩
  · exact ⟨by decide, by decide⟩
  · exact ⟨by decide, by decide⟩
theorem pxN_ok (s : ByteArray) (i : Nat) : ∃ x n, pxN s i = .ok x n := by
  unfold pxN
  by_cases h : by8 s i = 48 ∨ dig (by8 s (i + 1)) = false
  · rw [if_pos h]; exact ⟨_, _, rfl⟩
  · rw [if_neg h]; exact ⟨_, _, rfl⟩
set_option maxHeartbeats 2000000 in
theorem parse_end (s : ByteArray) (hs : s.size ≤ 1048576) (D : Int) (i : Nat) (I : Int) (hI : I = i) (hi : i ≤ s.size) (h : D < 1 ∨ ¬ i < s.size) (hD0 : 0 ≤ D) (hD1 : D ≤ 100) (w : World) :
    Calls Try.prog 9 #[.string s, .int .i64 I, .int .i64 D] w fun e w' => XRet w e w' (.no i) := by
  have s1 : IntKind.i64.wrap (-1 - I) = -1 - I := IntWalk.i64_in _ (by omega)
  have HN : Hid (-1 - I = -1 - (i : Int)) := Lib.hid (by omega)
  by_cases hd : D < 1
  · clear hI h
    go_enter Try.func9, Try.ntmps9
    go_wp2_with fail
    exact bodyPost_ret (v := .tuple #[.agg #[.int .i64 0, .int .i64 0, .string ⟨#[]⟩, .string ⟨#[]⟩, .slice none 0 0], .int .i64 (-1 - I)]) (by simp [results, Try.results9, go_sem]) rfl ⟨_, _, _, _, _, _, _, _, HN.out, rfl, (Below.refl _ _).alloc (Nat.le_refl _) _⟩
  · have hle : (s.size : Int) ≤ I := by rcases h with h | h <;> omega
    have hlt : ¬ I < (s.size : Int) := by omega
    clear hI h
    go_enter Try.func9, Try.ntmps9
    go_wp2_with fail
    exact bodyPost_ret (v := .tuple #[.agg #[.int .i64 0, .int .i64 0, .string ⟨#[]⟩, .string ⟨#[]⟩, .slice none 0 0], .int .i64 (-1 - I)]) (by simp [results, Try.results9, go_sem]) rfl ⟨_, _, _, _, _, _, _, _, HN.out, rfl, (Below.refl _ _).alloc (Nat.le_refl _) _⟩
set_option maxRecDepth 100000 in
set_option maxHeartbeats 8000000 in
theorem parse_dig (s : ByteArray) (hs : s.size ≤ 1048576) (d : Nat) (hd : d ≤ 50) (D : Int) (hD : D = ((d + 1 : Nat) : Int)) (HIH : Hid (PxT s d)) (i : Nat) (I : Int) (hI : I = i) (hi : i < s.size) (c : Int) (hc : by8 s i = c) (w : World) (h1 : dig c = true) (x : Ex) (n : Nat) (HP : Hid (pxN s i = .ok x n)) :
    Calls Try.prog 9 #[.string s, .int .i64 I, .int .i64 D] w fun e w' => XRet w e w' (.ok x n) := by
  have r1 := by8_idx Try.prog 9 Try.underlying9 hi
  rw [← hI, hc] at r1
  obtain ⟨S, hS⟩ : ∃ S, w.heap.size = S := ⟨_, rfl⟩
  have HS := Lib.hid hS
  obtain ⟨W1, hW1⟩ : ∃ W, w.alloc (.cells #[.int .i64 0, .int .i64 0, .string ⟨#[]⟩, .string ⟨#[]⟩, .slice none 0 0] 24) = W := ⟨_, rfl⟩
  have HW1 := Lib.hid hW1
  have HR1 : Hid (R5 W1 S) := Lib.hid (by rw [← hW1, ← hS]; exact r5_new w _)
  have HB1 : Hid (Below S w W1) := Lib.hid (by rw [← hW1, ← hS]; exact (Below.refl _ _).alloc (Nat.le_refl _) _)
  have hz1 : W1.heap.size = S + 1 := by rw [← hW1, ← hS]; simp
  have HI := Lib.hid hI
  have hi2 : i ≤ 1048600 := by omega
  have g0 : (0 : Int) ≤ I := by omega
  have g1 : I < (s.size : Int) := by omega
  have g2 : I + 1 ≤ (s.size : Int) := by omega
  have g3 : I ≤ I + 1 := by omega
  have g4 : ¬ D < 1 := by omega
  have g5 : ¬ (s.size : Int) ≤ I := by omega
  have g6 : 1 ≤ D := by omega
  have g7 : D ≤ 51 := by omega
  have s1 : IntKind.i64.wrap (I + 1) = I + 1 := IntWalk.i64_in _ (by omega)
  have s2 : IntKind.i64.wrap (I + 2) = I + 2 := IntWalk.i64_in _ (by omega)
  have s3 : IntKind.i64.wrap (D - 1) = D - 1 := IntWalk.i64_in _ (by omega)
  have s4 : IntKind.i64.wrap (-1 - I) = -1 - I := IntWalk.i64_in _ (by omega)
  have s5 : IntKind.i64.wrap (-2 - I) = -2 - I := IntWalk.i64_in _ (by omega)
  have HI1 : Hid (I + 1 = ((i + 1 : Nat) : Int)) := Lib.hid (by omega)
  have HD := Lib.hid (show D - 1 = (d : Int) by omega)
  have HDG := Lib.hid (show dig (by8 s i) = dig c by rw [hc])
  have HSM := Lib.hid (show sml (by8 s i) = sml c by rw [hc])
  have HT : Hid (I.toNat = i ∧ (I + 1).toNat = i + 1) := Lib.hid (by omega)
  have HBG : Hid (oneB 65 90 (s.extract I.toNat (I + 1).toNat) = bigL c) := Lib.hid (by rw [HT.out.1, HT.out.2, one_ext hi, hc]; rfl)
  have hi1 : i + 1 ≤ s.size := by omega
  have hiS : i < s.size := hi
  have HII := Lib.hid hi
  have HDT : Hid (dig (by8 s i) = true) := Lib.hid (by rw [hc]; exact h1)
  clear hI hD hW1 hc hi hiS
  go_enter Try.func9, Try.ntmps9
  go_wp2_with fail
  rw [HW1.out]
  try rw [hS]
  go_at_call 15
  refine (l3Digit_any s i I HI.out hs hi2 _).mono ?_
  rintro e wd ⟨rfl, rfl⟩
  rw [HDG.out, h1]
  go_wp2_with fail
  go_at_call 16
  refine (l3Number_any s i I HI.out hs HII.out HDT.out _).mono ?_
  rintro e w3 hx
  rw [HP.out] at hx
  obtain ⟨v, N, hN, rfl, hex, hb⟩ := hx
  have HEX := Lib.hid hex
  obtain ⟨xa, xc, rfl, _⟩ := hex.at.slice
  have HN := Lib.hid hN
  have HR3 := Lib.hid (HR1.out.kept hb)
  have HB3 := Lib.hid (HB1.out.trans (hb.mono (by omega)))
  clear hb hN hex
  obtain ⟨p0, p1, p2, p3, p4, f0, f1, f2, f3, f4, psz⟩ := HR3.out
  go_wp2_with fail
  exact bodyPost_ret (v := .tuple #[.agg #[.int .i64 x.k, .int .i64 x.n, .string x.m, .string x.s, .slice xa x.ks.length xc], .int .i64 N]) (by simp [results, Try.results9, go_sem, p0, p1, p2, p3, p4, psz]) rfl ⟨_, N, HN.out, rfl, ex5 HS.out (by have h := HEX.out; rw [hz1] at h; exact h) _ _ _ _ _, below5 HS.out HB3.out _ _ _ _ _⟩
set_option maxRecDepth 100000 in
set_option maxHeartbeats 8000000 in
theorem parse_sml (s : ByteArray) (hs : s.size ≤ 1048576) (d : Nat) (hd : d ≤ 50) (D : Int) (hD : D = ((d + 1 : Nat) : Int)) (HIH : Hid (PxT s d)) (i : Nat) (I : Int) (hI : I = i) (hi : i < s.size) (c : Int) (hc : by8 s i = c) (w : World) (h1 : dig c = false) (h2 : sml c = true) :
    Calls Try.prog 9 #[.string s, .int .i64 I, .int .i64 D] w fun e w' => XRet w e w' (.ok (.node 2 0 e0 (s.extract i (i + 1)) []) (i + 1)) := by
  have r1 := by8_idx Try.prog 9 Try.underlying9 hi
  rw [← hI, hc] at r1
  obtain ⟨S, hS⟩ : ∃ S, w.heap.size = S := ⟨_, rfl⟩
  have HS := Lib.hid hS
  obtain ⟨W1, hW1⟩ : ∃ W, w.alloc (.cells #[.int .i64 0, .int .i64 0, .string ⟨#[]⟩, .string ⟨#[]⟩, .slice none 0 0] 24) = W := ⟨_, rfl⟩
  have HW1 := Lib.hid hW1
  have HR1 : Hid (R5 W1 S) := Lib.hid (by rw [← hW1, ← hS]; exact r5_new w _)
  have HB1 : Hid (Below S w W1) := Lib.hid (by rw [← hW1, ← hS]; exact (Below.refl _ _).alloc (Nat.le_refl _) _)
  have hz1 : W1.heap.size = S + 1 := by rw [← hW1, ← hS]; simp
  have HI := Lib.hid hI
  have hi2 : i ≤ 1048600 := by omega
  have g0 : (0 : Int) ≤ I := by omega
  have g1 : I < (s.size : Int) := by omega
  have g2 : I + 1 ≤ (s.size : Int) := by omega
  have g3 : I ≤ I + 1 := by omega
  have g4 : ¬ D < 1 := by omega
  have g5 : ¬ (s.size : Int) ≤ I := by omega
  have g6 : 1 ≤ D := by omega
  have g7 : D ≤ 51 := by omega
  have s1 : IntKind.i64.wrap (I + 1) = I + 1 := IntWalk.i64_in _ (by omega)
  have s2 : IntKind.i64.wrap (I + 2) = I + 2 := IntWalk.i64_in _ (by omega)
  have s3 : IntKind.i64.wrap (D - 1) = D - 1 := IntWalk.i64_in _ (by omega)
  have s4 : IntKind.i64.wrap (-1 - I) = -1 - I := IntWalk.i64_in _ (by omega)
  have s5 : IntKind.i64.wrap (-2 - I) = -2 - I := IntWalk.i64_in _ (by omega)
  have HI1 : Hid (I + 1 = ((i + 1 : Nat) : Int)) := Lib.hid (by omega)
  have HD := Lib.hid (show D - 1 = (d : Int) by omega)
  have HDG := Lib.hid (show dig (by8 s i) = dig c by rw [hc])
  have HSM := Lib.hid (show sml (by8 s i) = sml c by rw [hc])
  have HT : Hid (I.toNat = i ∧ (I + 1).toNat = i + 1) := Lib.hid (by omega)
  have HBG : Hid (oneB 65 90 (s.extract I.toNat (I + 1).toNat) = bigL c) := Lib.hid (by rw [HT.out.1, HT.out.2, one_ext hi, hc]; rfl)
  have hi1 : i + 1 ≤ s.size := by omega
  have hiS : i < s.size := hi
  have HII := Lib.hid hi
  clear hI hD hW1 hc hi hiS
  go_enter Try.func9, Try.ntmps9
  go_wp2_with fail
  rw [HW1.out]
  try rw [hS]
  go_at_call 15
  refine (l3Digit_any s i I HI.out hs hi2 _).mono ?_
  rintro e wd ⟨rfl, rfl⟩
  rw [HDG.out, h1]
  go_wp2_with fail
  go_at_call 17
  refine (l3IsSmall_any s i I HI.out hs hi2 _).mono ?_
  rintro e ws ⟨rfl, rfl⟩
  rw [HSM.out, h2]
  obtain ⟨p0, p1, p2, p3, p4, f0, f1, f2, f3, f4, psz⟩ := HR1.out
  go_wp2_with fail
  exact bodyPost_ret (v := .tuple #[.agg #[.int .i64 2, .int .i64 0, .string ⟨#[]⟩, .string (s.extract I.toNat (I + 1).toNat), .slice none 0 0], .int .i64 (I + 1)]) (by simp [results, Try.results9, go_sem, p0, p1, p2, p3, p4, psz]) rfl ⟨Value.slice none 0 0, I + 1, HI1.out, by rw [HT.out.1, HT.out.2]; rfl, ex5 HS.out (.bare _ _ _ _ _ _ _ _) _ _ _ _ _, below5 HS.out HB1.out _ _ _ _ _⟩
set_option maxRecDepth 100000 in
set_option maxHeartbeats 8000000 in
theorem parse_big_ok (s : ByteArray) (hs : s.size ≤ 1048576) (d : Nat) (hd : d ≤ 50) (D : Int) (hD : D = ((d + 1 : Nat) : Int)) (HIH : Hid (PxT s d)) (i : Nat) (I : Int) (hI : I = i) (hi : i < s.size) (c : Int) (hc : by8 s i = c) (w : World) (h1 : dig c = false) (h2 : sml c = false) (h3 : bigL c = true) (x : Ex) (n : Nat) (HP : Hid (pxD s i = .ok x n)) :
    Calls Try.prog 9 #[.string s, .int .i64 I, .int .i64 D] w fun e w' => XRet w e w' (.ok x n) := by
  have r1 := by8_idx Try.prog 9 Try.underlying9 hi
  rw [← hI, hc] at r1
  obtain ⟨S, hS⟩ : ∃ S, w.heap.size = S := ⟨_, rfl⟩
  have HS := Lib.hid hS
  obtain ⟨W1, hW1⟩ : ∃ W, w.alloc (.cells #[.int .i64 0, .int .i64 0, .string ⟨#[]⟩, .string ⟨#[]⟩, .slice none 0 0] 24) = W := ⟨_, rfl⟩
  have HW1 := Lib.hid hW1
  have HR1 : Hid (R5 W1 S) := Lib.hid (by rw [← hW1, ← hS]; exact r5_new w _)
  have HB1 : Hid (Below S w W1) := Lib.hid (by rw [← hW1, ← hS]; exact (Below.refl _ _).alloc (Nat.le_refl _) _)
  have hz1 : W1.heap.size = S + 1 := by rw [← hW1, ← hS]; simp
  have HI := Lib.hid hI
  have hi2 : i ≤ 1048600 := by omega
  have g0 : (0 : Int) ≤ I := by omega
  have g1 : I < (s.size : Int) := by omega
  have g2 : I + 1 ≤ (s.size : Int) := by omega
  have g3 : I ≤ I + 1 := by omega
  have g4 : ¬ D < 1 := by omega
  have g5 : ¬ (s.size : Int) ≤ I := by omega
  have g6 : 1 ≤ D := by omega
  have g7 : D ≤ 51 := by omega
  have s1 : IntKind.i64.wrap (I + 1) = I + 1 := IntWalk.i64_in _ (by omega)
  have s2 : IntKind.i64.wrap (I + 2) = I + 2 := IntWalk.i64_in _ (by omega)
  have s3 : IntKind.i64.wrap (D - 1) = D - 1 := IntWalk.i64_in _ (by omega)
  have s4 : IntKind.i64.wrap (-1 - I) = -1 - I := IntWalk.i64_in _ (by omega)
  have s5 : IntKind.i64.wrap (-2 - I) = -2 - I := IntWalk.i64_in _ (by omega)
  have HI1 : Hid (I + 1 = ((i + 1 : Nat) : Int)) := Lib.hid (by omega)
  have HD := Lib.hid (show D - 1 = (d : Int) by omega)
  have HDG := Lib.hid (show dig (by8 s i) = dig c by rw [hc])
  have HSM := Lib.hid (show sml (by8 s i) = sml c by rw [hc])
  have HT : Hid (I.toNat = i ∧ (I + 1).toNat = i + 1) := Lib.hid (by omega)
  have HBG : Hid (oneB 65 90 (s.extract I.toNat (I + 1).toNat) = bigL c) := Lib.hid (by rw [HT.out.1, HT.out.2, one_ext hi, hc]; rfl)
  have hi1 : i + 1 ≤ s.size := by omega
  have hiS : i < s.size := hi
  have HII := Lib.hid hi
  clear hI hD hW1 hc hi hiS
  go_enter Try.func9, Try.ntmps9
  go_wp2_with fail
  rw [HW1.out]
  try rw [hS]
  go_at_call 15
  refine (l3Digit_any s i I HI.out hs hi2 _).mono ?_
  rintro e wd ⟨rfl, rfl⟩
  rw [HDG.out, h1]
  go_wp2_with fail
  go_at_call 17
  refine (l3IsSmall_any s i I HI.out hs hi2 _).mono ?_
  rintro e ws ⟨rfl, rfl⟩
  rw [HSM.out, h2]
  go_wp2_with fail
  go_at_call 18
  refine (l3Big_any _ _).mono ?_
  rintro e wb ⟨rfl, rfl⟩
  rw [HBG.out, h3]
  go_wp2_with fail
  go_at_call 19
  refine (l3Dotted_any s i I HI.out hs HII.out _).mono ?_
  rintro e w3 hx
  rw [HP.out] at hx
  obtain ⟨v, N, hN, rfl, hex, hb⟩ := hx
  have HEX := Lib.hid hex
  obtain ⟨xa, xc, rfl, _⟩ := hex.at.slice
  have HN := Lib.hid hN
  have HR3 := Lib.hid (HR1.out.kept hb)
  have HB3 := Lib.hid (HB1.out.trans (hb.mono (by omega)))
  clear hb hN hex
  obtain ⟨p0, p1, p2, p3, p4, f0, f1, f2, f3, f4, psz⟩ := HR3.out
  go_wp2_with fail
  exact bodyPost_ret (v := .tuple #[.agg #[.int .i64 x.k, .int .i64 x.n, .string x.m, .string x.s, .slice xa x.ks.length xc], .int .i64 N]) (by simp [results, Try.results9, go_sem, p0, p1, p2, p3, p4, psz]) rfl ⟨_, N, HN.out, rfl, ex5 HS.out (by have h := HEX.out; rw [hz1] at h; exact h) _ _ _ _ _, below5 HS.out HB3.out _ _ _ _ _⟩
set_option maxRecDepth 100000 in
set_option maxHeartbeats 8000000 in
theorem parse_big_no (s : ByteArray) (hs : s.size ≤ 1048576) (d : Nat) (hd : d ≤ 50) (D : Int) (hD : D = ((d + 1 : Nat) : Int)) (HIH : Hid (PxT s d)) (i : Nat) (I : Int) (hI : I = i) (hi : i < s.size) (c : Int) (hc : by8 s i = c) (w : World) (h1 : dig c = false) (h2 : sml c = false) (h3 : bigL c = true) (k : Nat) (HP : Hid (pxD s i = .no k)) :
    Calls Try.prog 9 #[.string s, .int .i64 I, .int .i64 D] w fun e w' => XRet w e w' (.no k) := by
  have r1 := by8_idx Try.prog 9 Try.underlying9 hi
  rw [← hI, hc] at r1
  obtain ⟨S, hS⟩ : ∃ S, w.heap.size = S := ⟨_, rfl⟩
  have HS := Lib.hid hS
  obtain ⟨W1, hW1⟩ : ∃ W, w.alloc (.cells #[.int .i64 0, .int .i64 0, .string ⟨#[]⟩, .string ⟨#[]⟩, .slice none 0 0] 24) = W := ⟨_, rfl⟩
  have HW1 := Lib.hid hW1
  have HR1 : Hid (R5 W1 S) := Lib.hid (by rw [← hW1, ← hS]; exact r5_new w _)
  have HB1 : Hid (Below S w W1) := Lib.hid (by rw [← hW1, ← hS]; exact (Below.refl _ _).alloc (Nat.le_refl _) _)
  have hz1 : W1.heap.size = S + 1 := by rw [← hW1, ← hS]; simp
  have HI := Lib.hid hI
  have hi2 : i ≤ 1048600 := by omega
  have g0 : (0 : Int) ≤ I := by omega
  have g1 : I < (s.size : Int) := by omega
  have g2 : I + 1 ≤ (s.size : Int) := by omega
  have g3 : I ≤ I + 1 := by omega
  have g4 : ¬ D < 1 := by omega
  have g5 : ¬ (s.size : Int) ≤ I := by omega
  have g6 : 1 ≤ D := by omega
  have g7 : D ≤ 51 := by omega
  have s1 : IntKind.i64.wrap (I + 1) = I + 1 := IntWalk.i64_in _ (by omega)
  have s2 : IntKind.i64.wrap (I + 2) = I + 2 := IntWalk.i64_in _ (by omega)
  have s3 : IntKind.i64.wrap (D - 1) = D - 1 := IntWalk.i64_in _ (by omega)
  have s4 : IntKind.i64.wrap (-1 - I) = -1 - I := IntWalk.i64_in _ (by omega)
  have s5 : IntKind.i64.wrap (-2 - I) = -2 - I := IntWalk.i64_in _ (by omega)
  have HI1 : Hid (I + 1 = ((i + 1 : Nat) : Int)) := Lib.hid (by omega)
  have HD := Lib.hid (show D - 1 = (d : Int) by omega)
  have HDG := Lib.hid (show dig (by8 s i) = dig c by rw [hc])
  have HSM := Lib.hid (show sml (by8 s i) = sml c by rw [hc])
  have HT : Hid (I.toNat = i ∧ (I + 1).toNat = i + 1) := Lib.hid (by omega)
  have HBG : Hid (oneB 65 90 (s.extract I.toNat (I + 1).toNat) = bigL c) := Lib.hid (by rw [HT.out.1, HT.out.2, one_ext hi, hc]; rfl)
  have hi1 : i + 1 ≤ s.size := by omega
  have hiS : i < s.size := hi
  have HII := Lib.hid hi
  clear hI hD hW1 hc hi hiS
  go_enter Try.func9, Try.ntmps9
  go_wp2_with fail
  rw [HW1.out]
  try rw [hS]
  go_at_call 15
  refine (l3Digit_any s i I HI.out hs hi2 _).mono ?_
  rintro e wd ⟨rfl, rfl⟩
  rw [HDG.out, h1]
  go_wp2_with fail
  go_at_call 17
  refine (l3IsSmall_any s i I HI.out hs hi2 _).mono ?_
  rintro e ws ⟨rfl, rfl⟩
  rw [HSM.out, h2]
  go_wp2_with fail
  go_at_call 18
  refine (l3Big_any _ _).mono ?_
  rintro e wb ⟨rfl, rfl⟩
  rw [HBG.out, h3]
  go_wp2_with fail
  go_at_call 19
  refine (l3Dotted_any s i I HI.out hs HII.out _).mono ?_
  rintro e w3 hx
  rw [HP.out] at hx
  obtain ⟨q1, q2, q3, q4, q5, q6, q7, N, hN, rfl, hb⟩ := hx
  have HN := Lib.hid hN
  have HR3 := Lib.hid (HR1.out.kept hb)
  have HB3 := Lib.hid (HB1.out.trans (hb.mono (by omega)))
  clear hb hN
  obtain ⟨p0, p1, p2, p3, p4, f0, f1, f2, f3, f4, psz⟩ := HR3.out
  go_wp2_with fail
  exact bodyPost_ret (v := .tuple #[.agg #[.int .i64 q1, .int .i64 q2, .string q3, .string q4, .slice q5 q6 q7], .int .i64 N]) (by simp [results, Try.results9, go_sem, p0, p1, p2, p3, p4, psz]) rfl ⟨_, _, _, _, _, _, _, _, HN.out, rfl, below5 HS.out HB3.out _ _ _ _ _⟩
set_option maxRecDepth 100000 in
set_option maxHeartbeats 8000000 in
theorem parse_rnd_ok (s : ByteArray) (hs : s.size ≤ 1048576) (d : Nat) (hd : d ≤ 50) (D : Int) (hD : D = ((d + 1 : Nat) : Int)) (HIH : Hid (PxT s d)) (i : Nat) (I : Int) (hI : I = i) (hi : i < s.size) (c : Int) (hc : by8 s i = c) (w : World) (h0 : c = 40) (x : Ex) (n : Nat) (HP : Hid (pxR (px s d) s (i + 1) = .ok x n)) :
    Calls Try.prog 9 #[.string s, .int .i64 I, .int .i64 D] w fun e w' => XRet w e w' (.ok x n) := by
  subst h0
  have r1 := by8_idx Try.prog 9 Try.underlying9 hi
  rw [← hI, hc] at r1
  obtain ⟨S, hS⟩ : ∃ S, w.heap.size = S := ⟨_, rfl⟩
  have HS := Lib.hid hS
  obtain ⟨W1, hW1⟩ : ∃ W, w.alloc (.cells #[.int .i64 0, .int .i64 0, .string ⟨#[]⟩, .string ⟨#[]⟩, .slice none 0 0] 24) = W := ⟨_, rfl⟩
  have HW1 := Lib.hid hW1
  have HR1 : Hid (R5 W1 S) := Lib.hid (by rw [← hW1, ← hS]; exact r5_new w _)
  have HB1 : Hid (Below S w W1) := Lib.hid (by rw [← hW1, ← hS]; exact (Below.refl _ _).alloc (Nat.le_refl _) _)
  have hz1 : W1.heap.size = S + 1 := by rw [← hW1, ← hS]; simp
  have HI := Lib.hid hI
  have hi2 : i ≤ 1048600 := by omega
  have g0 : (0 : Int) ≤ I := by omega
  have g1 : I < (s.size : Int) := by omega
  have g2 : I + 1 ≤ (s.size : Int) := by omega
  have g3 : I ≤ I + 1 := by omega
  have g4 : ¬ D < 1 := by omega
  have g5 : ¬ (s.size : Int) ≤ I := by omega
  have g6 : 1 ≤ D := by omega
  have g7 : D ≤ 51 := by omega
  have s1 : IntKind.i64.wrap (I + 1) = I + 1 := IntWalk.i64_in _ (by omega)
  have s2 : IntKind.i64.wrap (I + 2) = I + 2 := IntWalk.i64_in _ (by omega)
  have s3 : IntKind.i64.wrap (D - 1) = D - 1 := IntWalk.i64_in _ (by omega)
  have s4 : IntKind.i64.wrap (-1 - I) = -1 - I := IntWalk.i64_in _ (by omega)
  have s5 : IntKind.i64.wrap (-2 - I) = -2 - I := IntWalk.i64_in _ (by omega)
  have HI1 : Hid (I + 1 = ((i + 1 : Nat) : Int)) := Lib.hid (by omega)
  have HD := Lib.hid (show D - 1 = (d : Int) by omega)
  have HDG := Lib.hid (show dig (by8 s i) = dig 40 by rw [hc])
  have HSM := Lib.hid (show sml (by8 s i) = sml 40 by rw [hc])
  have HT : Hid (I.toNat = i ∧ (I + 1).toNat = i + 1) := Lib.hid (by omega)
  have HBG : Hid (oneB 65 90 (s.extract I.toNat (I + 1).toNat) = bigL 40) := Lib.hid (by rw [HT.out.1, HT.out.2, one_ext hi, hc]; rfl)
  have hi1 : i + 1 ≤ s.size := by omega
  have hiS : i < s.size := hi
  have HII := Lib.hid hi
  clear hI hD hW1 hc hi hiS
  go_enter Try.func9, Try.ntmps9
  go_wp2_with fail
  rw [HW1.out]
  try rw [hS]
  go_at_call 15
  refine (l3Digit_any s i I HI.out hs hi2 _).mono ?_
  rintro e wd ⟨rfl, rfl⟩
  rw [HDG.out, show dig 40 = false from rfl]
  go_wp2_with fail
  go_at_call 17
  refine (l3IsSmall_any s i I HI.out hs hi2 _).mono ?_
  rintro e ws ⟨rfl, rfl⟩
  rw [HSM.out, show sml 40 = false from rfl]
  go_wp2_with fail
  go_at_call 18
  refine (l3Big_any _ _).mono ?_
  rintro e wb ⟨rfl, rfl⟩
  rw [HBG.out, show bigL 40 = false from rfl]
  go_wp2_with fail
  go_at_call 20
  refine (l3Round_any s hs d (D - 1) HD.out HIH (i + 1) (I + 1) HI1.out hi1 _).mono ?_
  rintro e w3 hx
  rw [HP.out] at hx
  obtain ⟨v, N, hN, rfl, hex, hb⟩ := hx
  have HEX := Lib.hid hex
  obtain ⟨xa, xc, rfl, _⟩ := hex.at.slice
  have HN := Lib.hid hN
  have HR3 := Lib.hid (HR1.out.kept hb)
  have HB3 := Lib.hid (HB1.out.trans (hb.mono (by omega)))
  clear hb hN hex
  obtain ⟨p0, p1, p2, p3, p4, f0, f1, f2, f3, f4, psz⟩ := HR3.out
  go_wp2_with fail
  exact bodyPost_ret (v := .tuple #[.agg #[.int .i64 x.k, .int .i64 x.n, .string x.m, .string x.s, .slice xa x.ks.length xc], .int .i64 N]) (by simp [results, Try.results9, go_sem, p0, p1, p2, p3, p4, psz]) rfl ⟨_, N, HN.out, rfl, ex5 HS.out (by have h := HEX.out; rw [hz1] at h; exact h) _ _ _ _ _, below5 HS.out HB3.out _ _ _ _ _⟩
set_option maxRecDepth 100000 in
set_option maxHeartbeats 8000000 in
theorem parse_rnd_no (s : ByteArray) (hs : s.size ≤ 1048576) (d : Nat) (hd : d ≤ 50) (D : Int) (hD : D = ((d + 1 : Nat) : Int)) (HIH : Hid (PxT s d)) (i : Nat) (I : Int) (hI : I = i) (hi : i < s.size) (c : Int) (hc : by8 s i = c) (w : World) (h0 : c = 40) (k : Nat) (HP : Hid (pxR (px s d) s (i + 1) = .no k)) :
    Calls Try.prog 9 #[.string s, .int .i64 I, .int .i64 D] w fun e w' => XRet w e w' (.no k) := by
  subst h0
  have r1 := by8_idx Try.prog 9 Try.underlying9 hi
  rw [← hI, hc] at r1
  obtain ⟨S, hS⟩ : ∃ S, w.heap.size = S := ⟨_, rfl⟩
  have HS := Lib.hid hS
  obtain ⟨W1, hW1⟩ : ∃ W, w.alloc (.cells #[.int .i64 0, .int .i64 0, .string ⟨#[]⟩, .string ⟨#[]⟩, .slice none 0 0] 24) = W := ⟨_, rfl⟩
  have HW1 := Lib.hid hW1
  have HR1 : Hid (R5 W1 S) := Lib.hid (by rw [← hW1, ← hS]; exact r5_new w _)
  have HB1 : Hid (Below S w W1) := Lib.hid (by rw [← hW1, ← hS]; exact (Below.refl _ _).alloc (Nat.le_refl _) _)
  have hz1 : W1.heap.size = S + 1 := by rw [← hW1, ← hS]; simp
  have HI := Lib.hid hI
  have hi2 : i ≤ 1048600 := by omega
  have g0 : (0 : Int) ≤ I := by omega
  have g1 : I < (s.size : Int) := by omega
  have g2 : I + 1 ≤ (s.size : Int) := by omega
  have g3 : I ≤ I + 1 := by omega
  have g4 : ¬ D < 1 := by omega
  have g5 : ¬ (s.size : Int) ≤ I := by omega
  have g6 : 1 ≤ D := by omega
  have g7 : D ≤ 51 := by omega
  have s1 : IntKind.i64.wrap (I + 1) = I + 1 := IntWalk.i64_in _ (by omega)
  have s2 : IntKind.i64.wrap (I + 2) = I + 2 := IntWalk.i64_in _ (by omega)
  have s3 : IntKind.i64.wrap (D - 1) = D - 1 := IntWalk.i64_in _ (by omega)
  have s4 : IntKind.i64.wrap (-1 - I) = -1 - I := IntWalk.i64_in _ (by omega)
  have s5 : IntKind.i64.wrap (-2 - I) = -2 - I := IntWalk.i64_in _ (by omega)
  have HI1 : Hid (I + 1 = ((i + 1 : Nat) : Int)) := Lib.hid (by omega)
  have HD := Lib.hid (show D - 1 = (d : Int) by omega)
  have HDG := Lib.hid (show dig (by8 s i) = dig 40 by rw [hc])
  have HSM := Lib.hid (show sml (by8 s i) = sml 40 by rw [hc])
  have HT : Hid (I.toNat = i ∧ (I + 1).toNat = i + 1) := Lib.hid (by omega)
  have HBG : Hid (oneB 65 90 (s.extract I.toNat (I + 1).toNat) = bigL 40) := Lib.hid (by rw [HT.out.1, HT.out.2, one_ext hi, hc]; rfl)
  have hi1 : i + 1 ≤ s.size := by omega
  have hiS : i < s.size := hi
  have HII := Lib.hid hi
  clear hI hD hW1 hc hi hiS
  go_enter Try.func9, Try.ntmps9
  go_wp2_with fail
  rw [HW1.out]
  try rw [hS]
  go_at_call 15
  refine (l3Digit_any s i I HI.out hs hi2 _).mono ?_
  rintro e wd ⟨rfl, rfl⟩
  rw [HDG.out, show dig 40 = false from rfl]
  go_wp2_with fail
  go_at_call 17
  refine (l3IsSmall_any s i I HI.out hs hi2 _).mono ?_
  rintro e ws ⟨rfl, rfl⟩
  rw [HSM.out, show sml 40 = false from rfl]
  go_wp2_with fail
  go_at_call 18
  refine (l3Big_any _ _).mono ?_
  rintro e wb ⟨rfl, rfl⟩
  rw [HBG.out, show bigL 40 = false from rfl]
  go_wp2_with fail
  go_at_call 20
  refine (l3Round_any s hs d (D - 1) HD.out HIH (i + 1) (I + 1) HI1.out hi1 _).mono ?_
  rintro e w3 hx
  rw [HP.out] at hx
  obtain ⟨q1, q2, q3, q4, q5, q6, q7, N, hN, rfl, hb⟩ := hx
  have HN := Lib.hid hN
  have HR3 := Lib.hid (HR1.out.kept hb)
  have HB3 := Lib.hid (HB1.out.trans (hb.mono (by omega)))
  clear hb hN
  obtain ⟨p0, p1, p2, p3, p4, f0, f1, f2, f3, f4, psz⟩ := HR3.out
  go_wp2_with fail
  exact bodyPost_ret (v := .tuple #[.agg #[.int .i64 q1, .int .i64 q2, .string q3, .string q4, .slice q5 q6 q7], .int .i64 N]) (by simp [results, Try.results9, go_sem, p0, p1, p2, p3, p4, psz]) rfl ⟨_, _, _, _, _, _, _, _, HN.out, rfl, below5 HS.out HB3.out _ _ _ _ _⟩
set_option maxRecDepth 100000 in
set_option maxHeartbeats 8000000 in
theorem parse_fun_ok (s : ByteArray) (hs : s.size ≤ 1048576) (d : Nat) (hd : d ≤ 50) (D : Int) (hD : D = ((d + 1 : Nat) : Int)) (HIH : Hid (PxT s d)) (i : Nat) (I : Int) (hI : I = i) (hi : i < s.size) (c : Int) (hc : by8 s i = c) (w : World) (h0 : c = 92) (x : Ex) (n : Nat) (HP : Hid (pxF (px s d) s (i + 1) = .ok x n)) :
    Calls Try.prog 9 #[.string s, .int .i64 I, .int .i64 D] w fun e w' => XRet w e w' (.ok x n) := by
  subst h0
  have r1 := by8_idx Try.prog 9 Try.underlying9 hi
  rw [← hI, hc] at r1
  obtain ⟨S, hS⟩ : ∃ S, w.heap.size = S := ⟨_, rfl⟩
  have HS := Lib.hid hS
  obtain ⟨W1, hW1⟩ : ∃ W, w.alloc (.cells #[.int .i64 0, .int .i64 0, .string ⟨#[]⟩, .string ⟨#[]⟩, .slice none 0 0] 24) = W := ⟨_, rfl⟩
  have HW1 := Lib.hid hW1
  have HR1 : Hid (R5 W1 S) := Lib.hid (by rw [← hW1, ← hS]; exact r5_new w _)
  have HB1 : Hid (Below S w W1) := Lib.hid (by rw [← hW1, ← hS]; exact (Below.refl _ _).alloc (Nat.le_refl _) _)
  have hz1 : W1.heap.size = S + 1 := by rw [← hW1, ← hS]; simp
  have HI := Lib.hid hI
  have hi2 : i ≤ 1048600 := by omega
  have g0 : (0 : Int) ≤ I := by omega
  have g1 : I < (s.size : Int) := by omega
  have g2 : I + 1 ≤ (s.size : Int) := by omega
  have g3 : I ≤ I + 1 := by omega
  have g4 : ¬ D < 1 := by omega
  have g5 : ¬ (s.size : Int) ≤ I := by omega
  have g6 : 1 ≤ D := by omega
  have g7 : D ≤ 51 := by omega
  have s1 : IntKind.i64.wrap (I + 1) = I + 1 := IntWalk.i64_in _ (by omega)
  have s2 : IntKind.i64.wrap (I + 2) = I + 2 := IntWalk.i64_in _ (by omega)
  have s3 : IntKind.i64.wrap (D - 1) = D - 1 := IntWalk.i64_in _ (by omega)
  have s4 : IntKind.i64.wrap (-1 - I) = -1 - I := IntWalk.i64_in _ (by omega)
  have s5 : IntKind.i64.wrap (-2 - I) = -2 - I := IntWalk.i64_in _ (by omega)
  have HI1 : Hid (I + 1 = ((i + 1 : Nat) : Int)) := Lib.hid (by omega)
  have HD := Lib.hid (show D - 1 = (d : Int) by omega)
  have HDG := Lib.hid (show dig (by8 s i) = dig 92 by rw [hc])
  have HSM := Lib.hid (show sml (by8 s i) = sml 92 by rw [hc])
  have HT : Hid (I.toNat = i ∧ (I + 1).toNat = i + 1) := Lib.hid (by omega)
  have HBG : Hid (oneB 65 90 (s.extract I.toNat (I + 1).toNat) = bigL 92) := Lib.hid (by rw [HT.out.1, HT.out.2, one_ext hi, hc]; rfl)
  have hi1 : i + 1 ≤ s.size := by omega
  have hiS : i < s.size := hi
  have HII := Lib.hid hi
  clear hI hD hW1 hc hi hiS
  go_enter Try.func9, Try.ntmps9
  go_wp2_with fail
  rw [HW1.out]
  try rw [hS]
  go_at_call 15
  refine (l3Digit_any s i I HI.out hs hi2 _).mono ?_
  rintro e wd ⟨rfl, rfl⟩
  rw [HDG.out, show dig 92 = false from rfl]
  go_wp2_with fail
  go_at_call 17
  refine (l3IsSmall_any s i I HI.out hs hi2 _).mono ?_
  rintro e ws ⟨rfl, rfl⟩
  rw [HSM.out, show sml 92 = false from rfl]
  go_wp2_with fail
  go_at_call 18
  refine (l3Big_any _ _).mono ?_
  rintro e wb ⟨rfl, rfl⟩
  rw [HBG.out, show bigL 92 = false from rfl]
  go_wp2_with fail
  go_at_call 21
  refine (l3Fun_any s hs d (D - 1) HD.out HIH (i + 1) (I + 1) HI1.out hi1 _).mono ?_
  rintro e w3 hx
  rw [HP.out] at hx
  obtain ⟨v, N, hN, rfl, hex, hb⟩ := hx
  have HEX := Lib.hid hex
  obtain ⟨xa, xc, rfl, _⟩ := hex.at.slice
  have HN := Lib.hid hN
  have HR3 := Lib.hid (HR1.out.kept hb)
  have HB3 := Lib.hid (HB1.out.trans (hb.mono (by omega)))
  clear hb hN hex
  obtain ⟨p0, p1, p2, p3, p4, f0, f1, f2, f3, f4, psz⟩ := HR3.out
  go_wp2_with fail
  exact bodyPost_ret (v := .tuple #[.agg #[.int .i64 x.k, .int .i64 x.n, .string x.m, .string x.s, .slice xa x.ks.length xc], .int .i64 N]) (by simp [results, Try.results9, go_sem, p0, p1, p2, p3, p4, psz]) rfl ⟨_, N, HN.out, rfl, ex5 HS.out (by have h := HEX.out; rw [hz1] at h; exact h) _ _ _ _ _, below5 HS.out HB3.out _ _ _ _ _⟩
set_option maxRecDepth 100000 in
set_option maxHeartbeats 8000000 in
theorem parse_fun_no (s : ByteArray) (hs : s.size ≤ 1048576) (d : Nat) (hd : d ≤ 50) (D : Int) (hD : D = ((d + 1 : Nat) : Int)) (HIH : Hid (PxT s d)) (i : Nat) (I : Int) (hI : I = i) (hi : i < s.size) (c : Int) (hc : by8 s i = c) (w : World) (h0 : c = 92) (k : Nat) (HP : Hid (pxF (px s d) s (i + 1) = .no k)) :
    Calls Try.prog 9 #[.string s, .int .i64 I, .int .i64 D] w fun e w' => XRet w e w' (.no k) := by
  subst h0
  have r1 := by8_idx Try.prog 9 Try.underlying9 hi
  rw [← hI, hc] at r1
  obtain ⟨S, hS⟩ : ∃ S, w.heap.size = S := ⟨_, rfl⟩
  have HS := Lib.hid hS
  obtain ⟨W1, hW1⟩ : ∃ W, w.alloc (.cells #[.int .i64 0, .int .i64 0, .string ⟨#[]⟩, .string ⟨#[]⟩, .slice none 0 0] 24) = W := ⟨_, rfl⟩
  have HW1 := Lib.hid hW1
  have HR1 : Hid (R5 W1 S) := Lib.hid (by rw [← hW1, ← hS]; exact r5_new w _)
  have HB1 : Hid (Below S w W1) := Lib.hid (by rw [← hW1, ← hS]; exact (Below.refl _ _).alloc (Nat.le_refl _) _)
  have hz1 : W1.heap.size = S + 1 := by rw [← hW1, ← hS]; simp
  have HI := Lib.hid hI
  have hi2 : i ≤ 1048600 := by omega
  have g0 : (0 : Int) ≤ I := by omega
  have g1 : I < (s.size : Int) := by omega
  have g2 : I + 1 ≤ (s.size : Int) := by omega
  have g3 : I ≤ I + 1 := by omega
  have g4 : ¬ D < 1 := by omega
  have g5 : ¬ (s.size : Int) ≤ I := by omega
  have g6 : 1 ≤ D := by omega
  have g7 : D ≤ 51 := by omega
  have s1 : IntKind.i64.wrap (I + 1) = I + 1 := IntWalk.i64_in _ (by omega)
  have s2 : IntKind.i64.wrap (I + 2) = I + 2 := IntWalk.i64_in _ (by omega)
  have s3 : IntKind.i64.wrap (D - 1) = D - 1 := IntWalk.i64_in _ (by omega)
  have s4 : IntKind.i64.wrap (-1 - I) = -1 - I := IntWalk.i64_in _ (by omega)
  have s5 : IntKind.i64.wrap (-2 - I) = -2 - I := IntWalk.i64_in _ (by omega)
  have HI1 : Hid (I + 1 = ((i + 1 : Nat) : Int)) := Lib.hid (by omega)
  have HD := Lib.hid (show D - 1 = (d : Int) by omega)
  have HDG := Lib.hid (show dig (by8 s i) = dig 92 by rw [hc])
  have HSM := Lib.hid (show sml (by8 s i) = sml 92 by rw [hc])
  have HT : Hid (I.toNat = i ∧ (I + 1).toNat = i + 1) := Lib.hid (by omega)
  have HBG : Hid (oneB 65 90 (s.extract I.toNat (I + 1).toNat) = bigL 92) := Lib.hid (by rw [HT.out.1, HT.out.2, one_ext hi, hc]; rfl)
  have hi1 : i + 1 ≤ s.size := by omega
  have hiS : i < s.size := hi
  have HII := Lib.hid hi
  clear hI hD hW1 hc hi hiS
  go_enter Try.func9, Try.ntmps9
  go_wp2_with fail
  rw [HW1.out]
  try rw [hS]
  go_at_call 15
  refine (l3Digit_any s i I HI.out hs hi2 _).mono ?_
  rintro e wd ⟨rfl, rfl⟩
  rw [HDG.out, show dig 92 = false from rfl]
  go_wp2_with fail
  go_at_call 17
  refine (l3IsSmall_any s i I HI.out hs hi2 _).mono ?_
  rintro e ws ⟨rfl, rfl⟩
  rw [HSM.out, show sml 92 = false from rfl]
  go_wp2_with fail
  go_at_call 18
  refine (l3Big_any _ _).mono ?_
  rintro e wb ⟨rfl, rfl⟩
  rw [HBG.out, show bigL 92 = false from rfl]
  go_wp2_with fail
  go_at_call 21
  refine (l3Fun_any s hs d (D - 1) HD.out HIH (i + 1) (I + 1) HI1.out hi1 _).mono ?_
  rintro e w3 hx
  rw [HP.out] at hx
  obtain ⟨q1, q2, q3, q4, q5, q6, q7, N, hN, rfl, hb⟩ := hx
  have HN := Lib.hid hN
  have HR3 := Lib.hid (HR1.out.kept hb)
  have HB3 := Lib.hid (HB1.out.trans (hb.mono (by omega)))
  clear hb hN
  obtain ⟨p0, p1, p2, p3, p4, f0, f1, f2, f3, f4, psz⟩ := HR3.out
  go_wp2_with fail
  exact bodyPost_ret (v := .tuple #[.agg #[.int .i64 q1, .int .i64 q2, .string q3, .string q4, .slice q5 q6 q7], .int .i64 N]) (by simp [results, Try.results9, go_sem, p0, p1, p2, p3, p4, psz]) rfl ⟨_, _, _, _, _, _, _, _, HN.out, rfl, below5 HS.out HB3.out _ _ _ _ _⟩
set_option maxRecDepth 100000 in
set_option maxHeartbeats 8000000 in
theorem parse_let_ok (s : ByteArray) (hs : s.size ≤ 1048576) (d : Nat) (hd : d ≤ 50) (D : Int) (hD : D = ((d + 1 : Nat) : Int)) (HIH : Hid (PxT s d)) (i : Nat) (I : Int) (hI : I = i) (hi : i < s.size) (c : Int) (hc : by8 s i = c) (w : World) (h0 : c = 123) (x : Ex) (n : Nat) (HP : Hid (pxL (px s d) s (i + 1) = .ok x n)) :
    Calls Try.prog 9 #[.string s, .int .i64 I, .int .i64 D] w fun e w' => XRet w e w' (.ok x n) := by
  subst h0
  have r1 := by8_idx Try.prog 9 Try.underlying9 hi
  rw [← hI, hc] at r1
  obtain ⟨S, hS⟩ : ∃ S, w.heap.size = S := ⟨_, rfl⟩
  have HS := Lib.hid hS
  obtain ⟨W1, hW1⟩ : ∃ W, w.alloc (.cells #[.int .i64 0, .int .i64 0, .string ⟨#[]⟩, .string ⟨#[]⟩, .slice none 0 0] 24) = W := ⟨_, rfl⟩
  have HW1 := Lib.hid hW1
  have HR1 : Hid (R5 W1 S) := Lib.hid (by rw [← hW1, ← hS]; exact r5_new w _)
  have HB1 : Hid (Below S w W1) := Lib.hid (by rw [← hW1, ← hS]; exact (Below.refl _ _).alloc (Nat.le_refl _) _)
  have hz1 : W1.heap.size = S + 1 := by rw [← hW1, ← hS]; simp
  have HI := Lib.hid hI
  have hi2 : i ≤ 1048600 := by omega
  have g0 : (0 : Int) ≤ I := by omega
  have g1 : I < (s.size : Int) := by omega
  have g2 : I + 1 ≤ (s.size : Int) := by omega
  have g3 : I ≤ I + 1 := by omega
  have g4 : ¬ D < 1 := by omega
  have g5 : ¬ (s.size : Int) ≤ I := by omega
  have g6 : 1 ≤ D := by omega
  have g7 : D ≤ 51 := by omega
  have s1 : IntKind.i64.wrap (I + 1) = I + 1 := IntWalk.i64_in _ (by omega)
  have s2 : IntKind.i64.wrap (I + 2) = I + 2 := IntWalk.i64_in _ (by omega)
  have s3 : IntKind.i64.wrap (D - 1) = D - 1 := IntWalk.i64_in _ (by omega)
  have s4 : IntKind.i64.wrap (-1 - I) = -1 - I := IntWalk.i64_in _ (by omega)
  have s5 : IntKind.i64.wrap (-2 - I) = -2 - I := IntWalk.i64_in _ (by omega)
  have HI1 : Hid (I + 1 = ((i + 1 : Nat) : Int)) := Lib.hid (by omega)
  have HD := Lib.hid (show D - 1 = (d : Int) by omega)
  have HDG := Lib.hid (show dig (by8 s i) = dig 123 by rw [hc])
  have HSM := Lib.hid (show sml (by8 s i) = sml 123 by rw [hc])
  have HT : Hid (I.toNat = i ∧ (I + 1).toNat = i + 1) := Lib.hid (by omega)
  have HBG : Hid (oneB 65 90 (s.extract I.toNat (I + 1).toNat) = bigL 123) := Lib.hid (by rw [HT.out.1, HT.out.2, one_ext hi, hc]; rfl)
  have hi1 : i + 1 ≤ s.size := by omega
  have hiS : i < s.size := hi
  have HII := Lib.hid hi
  clear hI hD hW1 hc hi hiS
  go_enter Try.func9, Try.ntmps9
  go_wp2_with fail
  rw [HW1.out]
  try rw [hS]
  go_at_call 15
  refine (l3Digit_any s i I HI.out hs hi2 _).mono ?_
  rintro e wd ⟨rfl, rfl⟩
  rw [HDG.out, show dig 123 = false from rfl]
  go_wp2_with fail
  go_at_call 17
  refine (l3IsSmall_any s i I HI.out hs hi2 _).mono ?_
  rintro e ws ⟨rfl, rfl⟩
  rw [HSM.out, show sml 123 = false from rfl]
  go_wp2_with fail
  go_at_call 18
  refine (l3Big_any _ _).mono ?_
  rintro e wb ⟨rfl, rfl⟩
  rw [HBG.out, show bigL 123 = false from rfl]
  go_wp2_with fail
  go_at_call 22
  refine (l3Let_any s hs d (D - 1) HD.out HIH (i + 1) (I + 1) HI1.out hi1 _).mono ?_
  rintro e w3 hx
  rw [HP.out] at hx
  obtain ⟨v, N, hN, rfl, hex, hb⟩ := hx
  have HEX := Lib.hid hex
  obtain ⟨xa, xc, rfl, _⟩ := hex.at.slice
  have HN := Lib.hid hN
  have HR3 := Lib.hid (HR1.out.kept hb)
  have HB3 := Lib.hid (HB1.out.trans (hb.mono (by omega)))
  clear hb hN hex
  obtain ⟨p0, p1, p2, p3, p4, f0, f1, f2, f3, f4, psz⟩ := HR3.out
  go_wp2_with fail
  exact bodyPost_ret (v := .tuple #[.agg #[.int .i64 x.k, .int .i64 x.n, .string x.m, .string x.s, .slice xa x.ks.length xc], .int .i64 N]) (by simp [results, Try.results9, go_sem, p0, p1, p2, p3, p4, psz]) rfl ⟨_, N, HN.out, rfl, ex5 HS.out (by have h := HEX.out; rw [hz1] at h; exact h) _ _ _ _ _, below5 HS.out HB3.out _ _ _ _ _⟩
set_option maxRecDepth 100000 in
set_option maxHeartbeats 8000000 in
theorem parse_let_no (s : ByteArray) (hs : s.size ≤ 1048576) (d : Nat) (hd : d ≤ 50) (D : Int) (hD : D = ((d + 1 : Nat) : Int)) (HIH : Hid (PxT s d)) (i : Nat) (I : Int) (hI : I = i) (hi : i < s.size) (c : Int) (hc : by8 s i = c) (w : World) (h0 : c = 123) (k : Nat) (HP : Hid (pxL (px s d) s (i + 1) = .no k)) :
    Calls Try.prog 9 #[.string s, .int .i64 I, .int .i64 D] w fun e w' => XRet w e w' (.no k) := by
  subst h0
  have r1 := by8_idx Try.prog 9 Try.underlying9 hi
  rw [← hI, hc] at r1
  obtain ⟨S, hS⟩ : ∃ S, w.heap.size = S := ⟨_, rfl⟩
  have HS := Lib.hid hS
  obtain ⟨W1, hW1⟩ : ∃ W, w.alloc (.cells #[.int .i64 0, .int .i64 0, .string ⟨#[]⟩, .string ⟨#[]⟩, .slice none 0 0] 24) = W := ⟨_, rfl⟩
  have HW1 := Lib.hid hW1
  have HR1 : Hid (R5 W1 S) := Lib.hid (by rw [← hW1, ← hS]; exact r5_new w _)
  have HB1 : Hid (Below S w W1) := Lib.hid (by rw [← hW1, ← hS]; exact (Below.refl _ _).alloc (Nat.le_refl _) _)
  have hz1 : W1.heap.size = S + 1 := by rw [← hW1, ← hS]; simp
  have HI := Lib.hid hI
  have hi2 : i ≤ 1048600 := by omega
  have g0 : (0 : Int) ≤ I := by omega
  have g1 : I < (s.size : Int) := by omega
  have g2 : I + 1 ≤ (s.size : Int) := by omega
  have g3 : I ≤ I + 1 := by omega
  have g4 : ¬ D < 1 := by omega
  have g5 : ¬ (s.size : Int) ≤ I := by omega
  have g6 : 1 ≤ D := by omega
  have g7 : D ≤ 51 := by omega
  have s1 : IntKind.i64.wrap (I + 1) = I + 1 := IntWalk.i64_in _ (by omega)
  have s2 : IntKind.i64.wrap (I + 2) = I + 2 := IntWalk.i64_in _ (by omega)
  have s3 : IntKind.i64.wrap (D - 1) = D - 1 := IntWalk.i64_in _ (by omega)
  have s4 : IntKind.i64.wrap (-1 - I) = -1 - I := IntWalk.i64_in _ (by omega)
  have s5 : IntKind.i64.wrap (-2 - I) = -2 - I := IntWalk.i64_in _ (by omega)
  have HI1 : Hid (I + 1 = ((i + 1 : Nat) : Int)) := Lib.hid (by omega)
  have HD := Lib.hid (show D - 1 = (d : Int) by omega)
  have HDG := Lib.hid (show dig (by8 s i) = dig 123 by rw [hc])
  have HSM := Lib.hid (show sml (by8 s i) = sml 123 by rw [hc])
  have HT : Hid (I.toNat = i ∧ (I + 1).toNat = i + 1) := Lib.hid (by omega)
  have HBG : Hid (oneB 65 90 (s.extract I.toNat (I + 1).toNat) = bigL 123) := Lib.hid (by rw [HT.out.1, HT.out.2, one_ext hi, hc]; rfl)
  have hi1 : i + 1 ≤ s.size := by omega
  have hiS : i < s.size := hi
  have HII := Lib.hid hi
  clear hI hD hW1 hc hi hiS
  go_enter Try.func9, Try.ntmps9
  go_wp2_with fail
  rw [HW1.out]
  try rw [hS]
  go_at_call 15
  refine (l3Digit_any s i I HI.out hs hi2 _).mono ?_
  rintro e wd ⟨rfl, rfl⟩
  rw [HDG.out, show dig 123 = false from rfl]
  go_wp2_with fail
  go_at_call 17
  refine (l3IsSmall_any s i I HI.out hs hi2 _).mono ?_
  rintro e ws ⟨rfl, rfl⟩
  rw [HSM.out, show sml 123 = false from rfl]
  go_wp2_with fail
  go_at_call 18
  refine (l3Big_any _ _).mono ?_
  rintro e wb ⟨rfl, rfl⟩
  rw [HBG.out, show bigL 123 = false from rfl]
  go_wp2_with fail
  go_at_call 22
  refine (l3Let_any s hs d (D - 1) HD.out HIH (i + 1) (I + 1) HI1.out hi1 _).mono ?_
  rintro e w3 hx
  rw [HP.out] at hx
  obtain ⟨q1, q2, q3, q4, q5, q6, q7, N, hN, rfl, hb⟩ := hx
  have HN := Lib.hid hN
  have HR3 := Lib.hid (HR1.out.kept hb)
  have HB3 := Lib.hid (HB1.out.trans (hb.mono (by omega)))
  clear hb hN
  obtain ⟨p0, p1, p2, p3, p4, f0, f1, f2, f3, f4, psz⟩ := HR3.out
  go_wp2_with fail
  exact bodyPost_ret (v := .tuple #[.agg #[.int .i64 q1, .int .i64 q2, .string q3, .string q4, .slice q5 q6 q7], .int .i64 N]) (by simp [results, Try.results9, go_sem, p0, p1, p2, p3, p4, psz]) rfl ⟨_, _, _, _, _, _, _, _, HN.out, rfl, below5 HS.out HB3.out _ _ _ _ _⟩

end Go.Proofs.Ytpaefcdchaemfaa
