/-
  What l1Diff and DiffEdit return, in the program and in the model: for all texts; what was in memory stays.
-/
import Derived.Test.YthannbkkpocejaaProg
import Derived.Test.YthannbkkpocejaaTf
import Derived.Test.YthannbkkpocejaaTh
namespace Go.Proofs.Ythannbkkpocejaa
open Go.RowKit

theorem diff_ret {a b : ByteArray} {k m : Nat} (hk : cp a b = k) (hm : ce a b k = m) :
    Ending.returned (.agg #[.int .i64 k, .int .i64 ((a.size : Int) - m), .string (b.extract k (b.size - m))]) = .returned (.agg #[.int .i64 (cp a b), .int .i64 ((a.size : Int) - ce a b (cp a b)), .string (b.extract (cp a b) (b.size - ce a b (cp a b)))]) := by
  subst hk; subst hm; rfl

set_option maxHeartbeats 4000000 in
theorem l1Diff_any (a b : ByteArray) (ha : a.size ≤ 2000) (hb : b.size ≤ 2000) (w : World) :
    Calls Try.prog 43 #[.string a, .string b] w fun e w' => e = .returned (.agg #[.int .i64 (cp a b), .int .i64 ((a.size : Int) - ce a b (cp a b)), .string (b.extract (cp a b) (b.size - ce a b (cp a b)))]) ∧ Below w.heap.size w w' := by
  go_enter Try.func43, Try.ntmps43
  go_wp2
  go_loopw [5] (fun i wr => ∃ k n : Nat, k ≤ a.size ∧ k ≤ b.size ∧ i = .int .i64 k ∧ Hid (upC a b k) ∧ wr = (w.alloc (.cells #[.int .i64 0, .int .i64 0, .string ⟨#[]⟩] 24)).drewN n) (fun i _ => a.size - (intOf i).toNat)
  case atStart => exact ⟨0, 0, Nat.zero_le _, Nat.zero_le _, rfl, Lib.hid (upC_zero a b), rfl⟩
  case round =>
    obtain ⟨k, n, hka, hkb, rfl, hup, rfl⟩ := hrel
    by_cases h1 : k < a.size
    · by_cases h2 : k < b.size
      · have h1' : (k : Int) < (a.size : Int) := by omega
        have h2' : (k : Int) < (b.size : Int) := by omega
        rcases he : ((a[k].toNat : Int) == (b[k].toNat : Int)) with _ | _
        · have HE := Lib.hid (upC_stop hup.out h1 h2 he)
          go_wp2_with fail
          go_quiet (fail)
          clear he
          go_wp2_with fail
          go_loopw [6] (fun i wr => ∃ m n : Nat, m + k ≤ a.size ∧ m + k ≤ b.size ∧ i = .int .i64 m ∧ Hid (upE a b k m) ∧ wr = (w.alloc (.cells #[.int .i64 0, .int .i64 0, .string ⟨#[]⟩] 24)).drewN n) (fun i _ => a.size - (intOf i).toNat)
          case atStart => exact ⟨0, n + nq, by omega, by omega, rfl, Lib.hid (upE_zero a b k), by first | rfl | rw [World.drewN_drewN]⟩
          case round =>
            obtain ⟨m, n2, hma, hmb, rfl, hue, rfl⟩ := hrel
            by_cases g1 : m + k < a.size
            · by_cases g2 : m + k < b.size
              · have g1' : (m : Int) < (a.size : Int) - k := by omega
                have g2' : (m : Int) < (b.size : Int) - k := by omega
                have i1 : a.size - 1 - m < a.size := by omega
                have i2 : b.size - 1 - m < b.size := by omega
                have r1 := idx_end Try.prog 9 Try.underlying9 a m (by omega)
                have r2 := idx_end Try.prog 9 Try.underlying9 b m (by omega)
                rcases hf : ((a[a.size - 1 - m].toNat : Int) == (b[b.size - 1 - m].toNat : Int)) with _ | _
                · have HM := Lib.hid (upE_stop (h := k) hue.out g1 g2 hf)
                  go_wp2_with fail
                  go_quiet (fail)
                  clear r1 r2 hf
                  go_wp2
                  exact bodyPost_ret (v := .agg #[.int .i64 k, .int .i64 ((a.size : Int) - m), .string (b.extract k (b.size - m))]) (by simp [results, Try.results43, go_sem]) rfl ⟨diff_ret HE.out HM.out, below_set3 (below_drewN ((Below.refl _ _).alloc (Nat.le_refl _) _) _) (Nat.le_refl _)⟩
                · have HU := Lib.hid (upE_succ (h := k) hue.out g1 g2 hf)
                  go_wp2_with fail
                  go_quiet (fail)
                  clear r1 r2 hf
                  go_wp2
                  go_roundw
                  case rel => exact ⟨m + 1, n2 + nq, by omega, by omega, by go_num, HU, by first | rfl | rw [World.drewN_drewN]⟩
                  case measure => simp [intOf]; omega
              · have HM := Lib.hid (upE_end (h := k) hue.out (.inr (by omega)))
                have g1' : (m : Int) < (a.size : Int) - k := by omega
                have hd : decide ((m : Int) < (b.size : Int) - k) = false := decide_eq_false (by omega)
                clear g2
                go_wp2_with fail
                go_quiet (fail)
                clear hd
                go_wp2
                exact bodyPost_ret (v := .agg #[.int .i64 k, .int .i64 ((a.size : Int) - m), .string (b.extract k (b.size - m))]) (by simp [results, Try.results43, go_sem]) rfl ⟨diff_ret HE.out HM.out, below_set3 (below_drewN ((Below.refl _ _).alloc (Nat.le_refl _) _) _) (Nat.le_refl _)⟩
            · have HM := Lib.hid (upE_end (h := k) hue.out (.inl (by omega)))
              have hd : decide ((m : Int) < (a.size : Int) - k) = false := decide_eq_false (by omega)
              clear g1
              go_wp2_with fail
              go_quiet (fail)
              clear hd
              go_wp2
              exact bodyPost_ret (v := .agg #[.int .i64 k, .int .i64 ((a.size : Int) - m), .string (b.extract k (b.size - m))]) (by simp [results, Try.results43, go_sem]) rfl ⟨diff_ret HE.out HM.out, below_set3 (below_drewN ((Below.refl _ _).alloc (Nat.le_refl _) _) _) (Nat.le_refl _)⟩
        · have HU := Lib.hid (upC_succ hup.out h1 h2 he)
          go_wp2_with fail
          go_quiet (fail)
          clear he
          go_wp2
          go_roundw
          case rel => exact ⟨k + 1, n + nq, by omega, by omega, by go_num, HU, by first | rfl | rw [World.drewN_drewN]⟩
          case measure => simp [intOf]; omega
      · have HE := Lib.hid (upC_end hup.out (.inr (by omega)))
        have h1' : (k : Int) < (a.size : Int) := by omega
        have hd : decide (k < b.size) = false := by simpa using h2
        clear h2
        go_wp2_with fail
        go_quiet (fail)
        clear hd
        go_wp2_with fail
        go_loopw [6] (fun i wr => ∃ m n : Nat, m + k ≤ a.size ∧ m + k ≤ b.size ∧ i = .int .i64 m ∧ Hid (upE a b k m) ∧ wr = (w.alloc (.cells #[.int .i64 0, .int .i64 0, .string ⟨#[]⟩] 24)).drewN n) (fun i _ => a.size - (intOf i).toNat)
        case atStart => exact ⟨0, n + nq, by omega, by omega, rfl, Lib.hid (upE_zero a b k), by first | rfl | rw [World.drewN_drewN]⟩
        case round =>
          obtain ⟨m, n2, hma, hmb, rfl, hue, rfl⟩ := hrel
          by_cases g1 : m + k < a.size
          · by_cases g2 : m + k < b.size
            · have g1' : (m : Int) < (a.size : Int) - k := by omega
              have g2' : (m : Int) < (b.size : Int) - k := by omega
              have i1 : a.size - 1 - m < a.size := by omega
              have i2 : b.size - 1 - m < b.size := by omega
              have r1 := idx_end Try.prog 9 Try.underlying9 a m (by omega)
              have r2 := idx_end Try.prog 9 Try.underlying9 b m (by omega)
              rcases hf : ((a[a.size - 1 - m].toNat : Int) == (b[b.size - 1 - m].toNat : Int)) with _ | _
              · have HM := Lib.hid (upE_stop (h := k) hue.out g1 g2 hf)
                go_wp2_with fail
                go_quiet (fail)
                clear r1 r2 hf
                go_wp2
                exact bodyPost_ret (v := .agg #[.int .i64 k, .int .i64 ((a.size : Int) - m), .string (b.extract k (b.size - m))]) (by simp [results, Try.results43, go_sem]) rfl ⟨diff_ret HE.out HM.out, below_set3 (below_drewN ((Below.refl _ _).alloc (Nat.le_refl _) _) _) (Nat.le_refl _)⟩
              · have HU := Lib.hid (upE_succ (h := k) hue.out g1 g2 hf)
                go_wp2_with fail
                go_quiet (fail)
                clear r1 r2 hf
                go_wp2
                go_roundw
                case rel => exact ⟨m + 1, n2 + nq, by omega, by omega, by go_num, HU, by first | rfl | rw [World.drewN_drewN]⟩
                case measure => simp [intOf]; omega
            · have HM := Lib.hid (upE_end (h := k) hue.out (.inr (by omega)))
              have g1' : (m : Int) < (a.size : Int) - k := by omega
              have hd : decide ((m : Int) < (b.size : Int) - k) = false := decide_eq_false (by omega)
              clear g2
              go_wp2_with fail
              go_quiet (fail)
              clear hd
              go_wp2
              exact bodyPost_ret (v := .agg #[.int .i64 k, .int .i64 ((a.size : Int) - m), .string (b.extract k (b.size - m))]) (by simp [results, Try.results43, go_sem]) rfl ⟨diff_ret HE.out HM.out, below_set3 (below_drewN ((Below.refl _ _).alloc (Nat.le_refl _) _) _) (Nat.le_refl _)⟩
          · have HM := Lib.hid (upE_end (h := k) hue.out (.inl (by omega)))
            have hd : decide ((m : Int) < (a.size : Int) - k) = false := decide_eq_false (by omega)
            clear g1
            go_wp2_with fail
            go_quiet (fail)
            clear hd
            go_wp2
            exact bodyPost_ret (v := .agg #[.int .i64 k, .int .i64 ((a.size : Int) - m), .string (b.extract k (b.size - m))]) (by simp [results, Try.results43, go_sem]) rfl ⟨diff_ret HE.out HM.out, below_set3 (below_drewN ((Below.refl _ _).alloc (Nat.le_refl _) _) _) (Nat.le_refl _)⟩
    · have HE := Lib.hid (upC_end hup.out (.inl (by omega)))
      have hd : decide (k < a.size) = false := by simpa using h1
      clear h1
      go_wp2_with fail
      go_quiet (fail)
      clear hd
      go_wp2_with fail
      go_loopw [6] (fun i wr => ∃ m n : Nat, m + k ≤ a.size ∧ m + k ≤ b.size ∧ i = .int .i64 m ∧ Hid (upE a b k m) ∧ wr = (w.alloc (.cells #[.int .i64 0, .int .i64 0, .string ⟨#[]⟩] 24)).drewN n) (fun i _ => a.size - (intOf i).toNat)
      case atStart => exact ⟨0, n + nq, by omega, by omega, rfl, Lib.hid (upE_zero a b k), by first | rfl | rw [World.drewN_drewN]⟩
      case round =>
        obtain ⟨m, n2, hma, hmb, rfl, hue, rfl⟩ := hrel
        by_cases g1 : m + k < a.size
        · by_cases g2 : m + k < b.size
          · have g1' : (m : Int) < (a.size : Int) - k := by omega
            have g2' : (m : Int) < (b.size : Int) - k := by omega
            have i1 : a.size - 1 - m < a.size := by omega
            have i2 : b.size - 1 - m < b.size := by omega
            have r1 := idx_end Try.prog 9 Try.underlying9 a m (by omega)
            have r2 := idx_end Try.prog 9 Try.underlying9 b m (by omega)
            rcases hf : ((a[a.size - 1 - m].toNat : Int) == (b[b.size - 1 - m].toNat : Int)) with _ | _
            · have HM := Lib.hid (upE_stop (h := k) hue.out g1 g2 hf)
              go_wp2_with fail
              go_quiet (fail)
              clear r1 r2 hf
              go_wp2
              exact bodyPost_ret (v := .agg #[.int .i64 k, .int .i64 ((a.size : Int) - m), .string (b.extract k (b.size - m))]) (by simp [results, Try.results43, go_sem]) rfl ⟨diff_ret HE.out HM.out, below_set3 (below_drewN ((Below.refl _ _).alloc (Nat.le_refl _) _) _) (Nat.le_refl _)⟩
            · have HU := Lib.hid (upE_succ (h := k) hue.out g1 g2 hf)
              go_wp2_with fail
              go_quiet (fail)
              clear r1 r2 hf
              go_wp2
              go_roundw
              case rel => exact ⟨m + 1, n2 + nq, by omega, by omega, by go_num, HU, by first | rfl | rw [World.drewN_drewN]⟩
              case measure => simp [intOf]; omega
          · have HM := Lib.hid (upE_end (h := k) hue.out (.inr (by omega)))
            have g1' : (m : Int) < (a.size : Int) - k := by omega
            have hd : decide ((m : Int) < (b.size : Int) - k) = false := decide_eq_false (by omega)
            clear g2
            go_wp2_with fail
            go_quiet (fail)
            clear hd
            go_wp2
            exact bodyPost_ret (v := .agg #[.int .i64 k, .int .i64 ((a.size : Int) - m), .string (b.extract k (b.size - m))]) (by simp [results, Try.results43, go_sem]) rfl ⟨diff_ret HE.out HM.out, below_set3 (below_drewN ((Below.refl _ _).alloc (Nat.le_refl _) _) _) (Nat.le_refl _)⟩
        · have HM := Lib.hid (upE_end (h := k) hue.out (.inl (by omega)))
          have hd : decide ((m : Int) < (a.size : Int) - k) = false := decide_eq_false (by omega)
          clear g1
          go_wp2_with fail
          go_quiet (fail)
          clear hd
          go_wp2
          exact bodyPost_ret (v := .agg #[.int .i64 k, .int .i64 ((a.size : Int) - m), .string (b.extract k (b.size - m))]) (by simp [results, Try.results43, go_sem]) rfl ⟨diff_ret HE.out HM.out, below_set3 (below_drewN ((Below.refl _ _).alloc (Nat.le_refl _) _) _) (Nat.le_refl _)⟩

end Go.Proofs.Ythannbkkpocejaa
