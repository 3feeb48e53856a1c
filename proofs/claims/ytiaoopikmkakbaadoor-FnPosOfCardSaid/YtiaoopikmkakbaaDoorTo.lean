/-
  What PosOf returns, in the program and in the model: for every string of at most maxLen bytes and every offset; what was in memory stays.
-/
import Derived.Test.YtiaoopikmkakbaaDoorProg
import Derived.Test.YtiaoopikmkakbaaDoorTk
import Derived.Test.YtiaoopikmkakbaaDoorTn
import Derived.Test.YtiaoopikmkakbaaDoorShelf
namespace Go.Proofs.YtiaoopikmkakbaaDoor
open Go.RowKit

set_option maxHeartbeats 400000 in
theorem placeIn_any (s : ByteArray) (n : Nat) (hn : n ≤ s.size) (hs : s.size ≤ 2000) (w : World) :
    Calls Tryd.prog 27 #[.int .i64 n, .string s] w fun e w' => e = .returned (.agg #[.int .i64 (lnN s n), .int .i64 (colN s n)]) ∧ Below w.heap.size w w' := by
  have hn' : (n : Int) ≤ (s.size : Int) := by omega
  have hx : (s.extract 0 n).size = n := by simp only [ByteArray.size_extract]; omega
  have HC := Lib.hid (col_cut s n hn)
  have HL := Lib.hid (ln_cut s n)
  have hb := colN_bd s n
  have hbi : -1 ≤ Lib.lastIndexByte (s.extract 0 n) 10 ∧ Lib.lastIndexByte (s.extract 0 n) 10 < n := by
    have := HC.out
    rcases Lib.lastIndexByte_spec (s.extract 0 n) 10 with h | ⟨i, h1, h2, _⟩
    · omega
    · rw [hx] at h1; omega
  obtain ⟨li, hli⟩ : ∃ li, Lib.lastIndexByte (s.extract 0 n) 10 = li := ⟨_, rfl⟩
  rw [hli] at hbi
  obtain ⟨hb1, hb2⟩ := hbi
  have HLI := Lib.hid hli
  clear hli hb
  go_enter Tryd.func27, Tryd.ntmps27
  go_wp2_with fail
  go_at_call 39
  refine (Tryd.strings_LastIndexByte _ 10 (by rw [hx]; omega) _).mono ?_
  rintro e w1 ⟨rfl, rfl⟩
  rw [HLI.out]
  go_wp2_with fail
  go_at_call 40
  refine (Tryd.strings_Count_one _ 10 _).mono ?_
  rintro e w1 ⟨rfl, rfl⟩
  rw [HL.out]
  go_wp2_with fail
  exact bodyPost_ret (v := .agg #[.int .i64 (lnN s n), .int .i64 ((n : Int) - (li + 1))]) (by simp [results, Tryd.results27, go_sem]) rfl ⟨by rw [← HC.out, HLI.out], (Below.refl _ _).alloc (Nat.le_refl _) _⟩

set_option maxHeartbeats 2000000 in
theorem posOf_impl_no (s : ByteArray) (n : Int) (h : tv s = false ∨ ¬ (0 ≤ n ∧ n ≤ s.size)) (hs : s.size ≤ maxLen) (w : World) :
    Calls Tryd.prog 10 #[.string s, .int .i64 n] w fun e w' => e = .returned (.tuple #[.agg #[.int .i64 0, .int .i64 0], .bool false]) ∧ Below w.heap.size w w' := by
  have HSL := Lib.hid hs
  unfold maxLen at hs
  rcases hv : tv s with _ | _
  · have HV := Lib.hid hv
    clear hv h
    go_enter Tryd.func10, Tryd.ntmps10
    go_wp2_with (go_at_call 19; refine (textValid_impl s false HV.out HSL.out _).mono ?_; rintro e w1 ⟨rfl, rfl⟩)
    exact bodyPost_ret (v := .tuple #[.agg #[.int .i64 0, .int .i64 0], .bool false]) (by simp [results, Tryd.results10, go_sem]) rfl ⟨rfl, (Below.refl _ _).alloc (Nat.le_refl _) _⟩
  · have HV := Lib.hid hv
    have hn : ¬ (0 ≤ n ∧ n ≤ s.size) := by simpa [hv] using h
    clear hv h
    have HW := Lib.hid (decide_eq_false hn)
    clear hn
    go_enter Tryd.func10, Tryd.ntmps10
    go_wp2_with (first | (go_at_call 19; refine (textValid_impl s true HV.out HSL.out _).mono ?_; rintro e w1 ⟨rfl, rfl⟩) | (go_at_call 26; refine (within_any n s _ HW.out _).mono ?_; rintro e w2 ⟨rfl, rfl⟩))
    exact bodyPost_ret (v := .tuple #[.agg #[.int .i64 0, .int .i64 0], .bool false]) (by simp [results, Tryd.results10, go_sem]) rfl ⟨rfl, (Below.refl _ _).alloc (Nat.le_refl _) _⟩

set_option maxHeartbeats 2000000 in
theorem posOf_spec_no (s : ByteArray) (n : Int) (h : tv s = false ∨ ¬ (0 ≤ n ∧ n ≤ s.size)) (hs : s.size ≤ maxLen) (w : World) :
    Calls Tryd.prog 11 #[.string s, .int .i64 n] w fun e w' => e = .returned (.tuple #[.agg #[.int .i64 0, .int .i64 0], .bool false]) ∧ Below w.heap.size w w' := by
  have HSL := Lib.hid hs
  unfold maxLen at hs
  rcases hv : tv s with _ | _
  · have HV := Lib.hid hv
    clear hv h
    go_enter Tryd.func11, Tryd.ntmps11
    go_wp2_with (go_at_call 20; refine (textValid_spec s false HV.out HSL.out _).mono ?_; rintro e w1 ⟨rfl, rfl⟩)
    exact bodyPost_ret (v := .tuple #[.agg #[.int .i64 0, .int .i64 0], .bool false]) (by simp [results, Tryd.results11, go_sem]) rfl ⟨rfl, (Below.refl _ _).alloc (Nat.le_refl _) _⟩
  · have HV := Lib.hid hv
    have hn : ¬ (0 ≤ n ∧ n ≤ s.size) := by simpa [hv] using h
    clear hv h
    by_cases h0 : 0 ≤ n
    · have h1 : (s.size : Int) < n := by omega
      clear hn
      go_enter Tryd.func11, Tryd.ntmps11
      go_wp2_with (go_at_call 20; refine (textValid_spec s true HV.out HSL.out _).mono ?_; rintro e w1 ⟨rfl, rfl⟩)
      exact bodyPost_ret (v := .tuple #[.agg #[.int .i64 0, .int .i64 0], .bool false]) (by simp [results, Tryd.results11, go_sem]) rfl ⟨rfl, (Below.refl _ _).alloc (Nat.le_refl _) _⟩
    · clear hn
      go_enter Tryd.func11, Tryd.ntmps11
      go_wp2_with (go_at_call 20; refine (textValid_spec s true HV.out HSL.out _).mono ?_; rintro e w1 ⟨rfl, rfl⟩)
      exact bodyPost_ret (v := .tuple #[.agg #[.int .i64 0, .int .i64 0], .bool false]) (by simp [results, Tryd.results11, go_sem]) rfl ⟨rfl, (Below.refl _ _).alloc (Nat.le_refl _) _⟩

set_option maxHeartbeats 2000000 in
theorem posOf_impl_yes (s : ByteArray) (n : Nat) (hv : tv s = true) (hn : n ≤ s.size) (w : World) :
    Calls Tryd.prog 10 #[.string s, .int .i64 n] w fun e w' => e = .returned (.tuple #[.agg #[.int .i64 (lnN s n), .int .i64 (colN s n)], .bool true]) ∧ Below w.heap.size w w' := by
  have hs := tv_size hv
  have HV := Lib.hid hv
  have HSL : Hid (s.size ≤ maxLen) := Lib.hid (by unfold maxLen; omega)
  have HW : Hid (decide (0 ≤ (n : Int) ∧ (n : Int) ≤ (s.size : Int)) = true) := Lib.hid (decide_eq_true ⟨by omega, by omega⟩)
  clear hv
  go_enter Tryd.func10, Tryd.ntmps10
  go_wp2_with (first | (go_at_call 19; refine (textValid_impl s true HV.out HSL.out _).mono ?_; rintro e w1 ⟨rfl, rfl⟩) | (go_at_call 26; refine (within_any n s _ HW.out _).mono ?_; rintro e w2 ⟨rfl, rfl⟩) | (go_at_call 27; refine (placeIn_any s n hn hs _).mono ?_; rintro e w3 ⟨rfl, hb3⟩; obtain ⟨hc3, hf3⟩ := bcell hb3; have hz3 : w.heap.size < w3.heap.size := by have := hb3.size; (try simp at this); omega))
  exact bodyPost_ret (v := .tuple #[.agg #[.int .i64 (lnN s n), .int .i64 (colN s n)], .bool true]) (by simp [results, Tryd.results10, go_sem, hc3]) rfl ⟨rfl, (((((Below.refl _ _).alloc (Nat.le_refl _) _).trans (hb3.mono (by first | omega | (simp; done) | (simp; omega)))).setCell (p := ⟨w.heap.size, 0, none⟩) (Nat.le_refl _) _).setCell (p := ⟨w.heap.size, 1, none⟩) (Nat.le_refl _) _)⟩

set_option maxHeartbeats 2000000 in
theorem posOf_spec_yes (s : ByteArray) (n : Nat) (hv : tv s = true) (hn : n ≤ s.size) (w : World) :
    Calls Tryd.prog 11 #[.string s, .int .i64 n] w fun e w' => e = .returned (.tuple #[.agg #[.int .i64 (lnN s n), .int .i64 (colN s n)], .bool true]) ∧ Below w.heap.size w w' := by
  have hs := tv_size hv
  have HV := Lib.hid hv
  have HSL : Hid (s.size ≤ maxLen) := Lib.hid (by unfold maxLen; omega)
  have hni : (n : Int) ≤ (s.size : Int) := by omega
  have HN := Lib.hid hn
  clear hv
  go_enter Tryd.func11, Tryd.ntmps11
  go_wp2_with (go_at_call 20; refine (textValid_spec s true HV.out HSL.out _).mono ?_; rintro e w1 ⟨rfl, rfl⟩)
  go_loopw [7] (fun i wr => ∃ k : Nat, k ≤ n ∧ i = .int .i64 k ∧ wr = (w.alloc (.cells #[.int .i64 0, .int .i64 0] 26)).alloc (.cells #[.int .i64 (lnN s k), .int .i64 (colN s k)] 26)) (fun i _ => n - (intOf i).toNat)
  case atStart => exact ⟨0, Nat.zero_le _, rfl, by rw [lnN_zero, colN_zero]; rfl⟩
  case round =>
    obtain ⟨k, hk, rfl, rfl⟩ := hrel
    have hc := colN_bd s k
    have hl := lnN_le s k
    by_cases hlt : k < n
    · have hlt' : (k : Int) < (n : Int) := by omega
      have hks : k < s.size := by have := HN.out; omega
      rcases hb : ((s[k].toNat : Int) == 10) with _ | _
      · have E1 := Lib.hid (lnN_other s k hks hb)
        have E2 := Lib.hid (colN_other s k hks hb)
        go_wp2
        go_roundw
        case rel => exact ⟨k + 1, by omega, by go_num, by rw [E1.out, E2.out]⟩
        case measure => simp [intOf]; omega
      · have E1 := Lib.hid (lnN_nl s k hks hb)
        have E2 := Lib.hid (colN_nl s k hks hb)
        go_wp2
        go_roundw
        case rel => exact ⟨k + 1, by omega, by go_num, by rw [E1.out, E2.out]; push_cast; rfl⟩
        case measure => simp [intOf]; omega
    · obtain rfl : k = n := by omega
      go_wp2
      exact bodyPost_ret (v := .tuple #[.agg #[.int .i64 (lnN s k), .int .i64 (colN s k)], .bool true]) (by simp [results, Tryd.results11, go_sem]) rfl ⟨rfl, ((Below.refl _ _).alloc (Nat.le_refl _) _).alloc (by simp) _⟩

end Go.Proofs.YtiaoopikmkakbaaDoor
