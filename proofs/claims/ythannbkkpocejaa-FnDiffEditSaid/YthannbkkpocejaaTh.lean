/-
  What commonBeginning, commonEnd (in the program) and l1Diff (in the model) return: for all strings of at most 2000 bytes; what was in memory stays.
-/
import Derived.Test.YthannbkkpocejaaProg
import Derived.Test.YthannbkkpocejaaTd
import Derived.Test.YthannbkkpocejaaTg
import Derived.Deep.QuietTactic
import Derived.BigQuiet
import Derived.IntWalk
namespace Go.Proofs.Ythannbkkpocejaa
open Go.RowKit

set_option maxHeartbeats 1000000 in
theorem cb_any0 (a b : ByteArray) (ha : a.size ≤ 2000) (w : World) :
    Calls Try.prog 41 #[.string a, .string b] w fun e w' => e = .returned (.int .i64 (cp a b)) ∧ ∃ n, w' = w.drewN n := by
  go_enter Try.func41, Try.ntmps41
  go_wp2
  go_loopw [5] (fun i wr => ∃ k n : Nat, k ≤ a.size ∧ k ≤ b.size ∧ i = .int .i64 k ∧ Hid (upC a b k) ∧ wr = w.drewN n) (fun i _ => a.size - (intOf i).toNat)
  case atStart => exact ⟨0, 0, Nat.zero_le _, Nat.zero_le _, rfl, Lib.hid (upC_zero a b), rfl⟩
  case round =>
    obtain ⟨k, n, hka, hkb, rfl, hup, rfl⟩ := hrel
    by_cases h1 : k < a.size
    · by_cases h2 : k < b.size
      · have h1' : (k : Int) < (a.size : Int) := by omega
        have h2' : (k : Int) < (b.size : Int) := by omega
        rcases he : ((a[k].toNat : Int) == (b[k].toNat : Int)) with _ | _
        · have HE := Lib.hid (upC_stop hup.out h1 h2 he)
          go_wp2_with fail
          go_quiet (fail)
          go_wp2
          go_ret
          exact ⟨ret_int (by rw [HE.out]), n + nq, by first | rfl | rw [World.drewN_drewN]⟩
        · have HU := Lib.hid (upC_succ hup.out h1 h2 he)
          go_wp2_with fail
          go_quiet (fail)
          go_wp2
          go_roundw
          case rel => exact ⟨k + 1, n + nq, by omega, by omega, by go_num, HU, by first | rfl | rw [World.drewN_drewN]⟩
          case measure => simp [intOf]; omega
      · have HE := Lib.hid (upC_end hup.out (.inr (by omega)))
        have h1' : (k : Int) < (a.size : Int) := by omega
        have hd : decide (k < b.size) = false := by simpa using h2
        clear h2
        go_wp2_with fail
        go_quiet (fail)
        go_wp2
        go_ret
        exact ⟨ret_int (by rw [HE.out]), n + nq, by first | rfl | rw [World.drewN_drewN]⟩
    · have HE := Lib.hid (upC_end hup.out (.inl (by omega)))
      have hd : decide (k < a.size) = false := by simpa using h1
      clear h1
      go_wp2_with fail
      go_quiet (fail)
      go_wp2
      go_ret
      exact ⟨ret_int (by rw [HE.out]), n + nq, by first | rfl | rw [World.drewN_drewN]⟩

/-- The byte at an offset that is counted from the end of a string. -/
theorem idx_end (P : Program) (t : TypeId) (h : P.underlying t = some .string) (a : ByteArray) (k : Nat) (hk : k < a.size) (w : World) :
    (Instr.index t (.string a) (.int .i64 ((a.size : Int) - 1 - k))).run P w = .ok (.int .u8 ((a[a.size - 1 - k]'(by omega)).toNat : Int)) w := by
  have ht : ((a.size : Int) - 1 - k).toNat = a.size - 1 - k := by omega
  rw [run_index_string _ _ _ _ _ h, dif_pos ⟨by omega, by omega⟩]
  simp only [ht]

set_option maxHeartbeats 1000000 in
theorem ce_any0 (a b : ByteArray) (ha : a.size ≤ 2000) (hb : b.size ≤ 2000) (w : World) :
    Calls Try.prog 42 #[.string a, .string b] w fun e w' => e = .returned (.int .i64 (ce a b 0)) ∧ ∃ n, w' = w.drewN n := by
  go_enter Try.func42, Try.ntmps42
  go_wp2
  go_loopw [5] (fun i wr => ∃ k n : Nat, k ≤ a.size ∧ k ≤ b.size ∧ i = .int .i64 k ∧ Hid (upE a b 0 k) ∧ wr = w.drewN n) (fun i _ => a.size - (intOf i).toNat)
  case atStart => exact ⟨0, 0, Nat.zero_le _, Nat.zero_le _, rfl, Lib.hid (upE_zero a b 0), rfl⟩
  case round =>
    obtain ⟨k, n, hka, hkb, rfl, hup, rfl⟩ := hrel
    by_cases h1 : k < a.size
    · by_cases h2 : k < b.size
      · have h1' : (k : Int) < (a.size : Int) := by omega
        have h2' : (k : Int) < (b.size : Int) := by omega
        have i1 : a.size - 1 - k < a.size := by omega
        have i2 : b.size - 1 - k < b.size := by omega
        rcases he : ((a[a.size - 1 - k].toNat : Int) == (b[b.size - 1 - k].toNat : Int)) with _ | _
        · have HE := Lib.hid (upE_stop (h := 0) hup.out h1 h2 he)
          have r1 := idx_end Try.prog 9 Try.underlying9 a k h1
          have r2 := idx_end Try.prog 9 Try.underlying9 b k h2
          go_wp2_with fail
          go_quiet (fail)
          clear r1 r2
          go_wp2
          go_ret
          exact ⟨ret_int (by rw [HE.out]), n + nq, by first | rfl | rw [World.drewN_drewN]⟩
        · have HU := Lib.hid (upE_succ (h := 0) hup.out h1 h2 he)
          have r1 := idx_end Try.prog 9 Try.underlying9 a k h1
          have r2 := idx_end Try.prog 9 Try.underlying9 b k h2
          go_wp2_with fail
          go_quiet (fail)
          clear r1 r2
          go_wp2
          go_roundw
          case rel => exact ⟨k + 1, n + nq, by omega, by omega, by go_num, HU, by first | rfl | rw [World.drewN_drewN]⟩
          case measure => simp [intOf]; omega
      · have HE := Lib.hid (upE_end (h := 0) hup.out (.inr (by omega)))
        have h1' : (k : Int) < (a.size : Int) := by omega
        have hd : decide (k < b.size) = false := by simpa using h2
        clear h2
        go_wp2_with fail
        go_quiet (fail)
        go_wp2
        go_ret
        exact ⟨ret_int (by rw [HE.out]), n + nq, by first | rfl | rw [World.drewN_drewN]⟩
    · have HE := Lib.hid (upE_end (h := 0) hup.out (.inl (by omega)))
      have hd : decide (k < a.size) = false := by simpa using h1
      clear h1
      go_wp2_with fail
      go_quiet (fail)
      go_wp2
      go_ret
      exact ⟨ret_int (by rw [HE.out]), n + nq, by first | rfl | rw [World.drewN_drewN]⟩

theorem cb_any (a b : ByteArray) (k : Nat) (hk : cp a b = k) (ha : a.size ≤ 2000) (w : World) :
    Calls Try.prog 41 #[.string a, .string b] w fun e w' => e = .returned (.int .i64 k) ∧ ∃ n, w' = w.drewN n := by
  subst hk; exact cb_any0 a b ha w
theorem ce_any (a b : ByteArray) (m : Nat) (hm : ce a b 0 = m) (ha : a.size ≤ 2000) (hb : b.size ≤ 2000) (w : World) :
    Calls Try.prog 42 #[.string a, .string b] w fun e w' => e = .returned (.int .i64 m) ∧ ∃ n, w' = w.drewN n := by
  subst hm; exact ce_any0 a b ha hb w

end Go.Proofs.Ythannbkkpocejaa
