/-
  What DiffEdit returns, in the program and in the model: for all strings of at most maxLen bytes; what was in memory stays.
-/
import Derived.Test.YthannbkkpocejaaProg
import Derived.Test.YthannbkkpocejaaTi
namespace Go.Proofs.Ythannbkkpocejaa
open Go.RowKit

/-- A call in a quiet region whose world has drawn before. -/
theorem quiet_sum {P : Program} {f : FuncId} {args : Array Value} {w : World} {n x : Nat} {v : Value}
    (h : Calls P f args (w.drewN (n + x)) fun e w' => e = .returned v ∧ ∃ m, w' = (w.drewN (n + x)).drewN m) : Calls P f args (w.drewN (n + x)) fun e w'' => e = .returned v ∧ ∃ m, w'' = w.drewN (n + m) :=
  h.mono fun _ _ ⟨he, m, hm⟩ => ⟨he, x + m, by rw [hm, World.drewN_drewN, Nat.add_assoc]⟩
theorem diff_ret2 {a b : ByteArray} {k m : Nat} (hk : cp a b = k) (hm : ce a b k = m) :
    Ending.returned (.tuple #[.agg #[.int .i64 k, .int .i64 ((a.size : Int) - m), .string (b.extract k (b.size - m))], .bool true]) = .returned (.tuple #[.agg #[.int .i64 (cp a b), .int .i64 ((a.size : Int) - ce a b (cp a b)), .string (b.extract (cp a b) (b.size - ce a b (cp a b)))], .bool true]) := by
  subst hk; subst hm; rfl

set_option maxHeartbeats 400000 in
theorem diffEdit_spec_no (a b : ByteArray) (h : tv a = false ∨ tv b = false) (ha : a.size ≤ maxLen) (hb : b.size ≤ maxLen) (w : World) :
    Calls Try.prog 21 #[.string a, .string b] w fun e w' => e = .returned (.tuple #[.agg #[.int .i64 0, .int .i64 0, .string ⟨#[]⟩], .bool false]) ∧ Below w.heap.size w w' := by
  have HAL := Lib.hid ha
  have HBL := Lib.hid hb
  unfold maxLen at ha hb
  rcases hv : tv a with _ | _
  · have HA := Lib.hid hv
    clear h hv
    go_enter Try.func21, Try.ntmps21
    go_wp2_with (first | (go_at_call_of 29 (Value.string a); refine (textValid_spec a _ HA.out HAL.out _).mono ?_; rintro e w1 ⟨rfl, rfl⟩) | (go_at_call_of 29 (Value.string b); refine (textValid_spec b _ HB.out HBL.out _).mono ?_; rintro e w1 ⟨rfl, rfl⟩))
    exact bodyPost_ret (v := .tuple #[.agg #[.int .i64 0, .int .i64 0, .string ⟨#[]⟩], .bool false]) (by simp [results, Try.results21, go_sem]) rfl ⟨rfl, (Below.refl _ _).alloc (Nat.le_refl _) _⟩
  · have hw : tv b = false := by simpa [hv] using h
    have HA := Lib.hid hv
    have HB := Lib.hid hw
    clear h hv hw
    go_enter Try.func21, Try.ntmps21
    go_wp2_with (first | (go_at_call_of 29 (Value.string a); refine (textValid_spec a _ HA.out HAL.out _).mono ?_; rintro e w1 ⟨rfl, rfl⟩) | (go_at_call_of 29 (Value.string b); refine (textValid_spec b _ HB.out HBL.out _).mono ?_; rintro e w1 ⟨rfl, rfl⟩))
    exact bodyPost_ret (v := .tuple #[.agg #[.int .i64 0, .int .i64 0, .string ⟨#[]⟩], .bool false]) (by simp [results, Try.results21, go_sem]) rfl ⟨rfl, (Below.refl _ _).alloc (Nat.le_refl _) _⟩

set_option maxHeartbeats 400000 in
theorem diffEdit_impl_no (a b : ByteArray) (h : tv a = false ∨ tv b = false) (ha : a.size ≤ maxLen) (hb : b.size ≤ maxLen) (w : World) :
    Calls Try.prog 20 #[.string a, .string b] w fun e w' => e = .returned (.tuple #[.agg #[.int .i64 0, .int .i64 0, .string ⟨#[]⟩], .bool false]) ∧ Below w.heap.size w w' := by
  have HAL := Lib.hid ha
  have HBL := Lib.hid hb
  unfold maxLen at ha hb
  rcases hv : tv a with _ | _
  · have HA := Lib.hid hv
    clear h hv
    go_enter Try.func20, Try.ntmps20
    go_wp2_with (first | (go_at_call_of 18 (Value.string a); refine (textValid_impl a _ HA.out HAL.out _).mono ?_; rintro e w1 ⟨rfl, rfl⟩) | (go_at_call_of 18 (Value.string b); refine (textValid_impl b _ HB.out HBL.out _).mono ?_; rintro e w1 ⟨rfl, rfl⟩))
    exact bodyPost_ret (v := .tuple #[.agg #[.int .i64 0, .int .i64 0, .string ⟨#[]⟩], .bool false]) (by simp [results, Try.results20, go_sem]) rfl ⟨rfl, (Below.refl _ _).alloc (Nat.le_refl _) _⟩
  · have hw : tv b = false := by simpa [hv] using h
    have HA := Lib.hid hv
    have HB := Lib.hid hw
    clear h hv hw
    go_enter Try.func20, Try.ntmps20
    go_wp2_with (first | (go_at_call_of 18 (Value.string a); refine (textValid_impl a _ HA.out HAL.out _).mono ?_; rintro e w1 ⟨rfl, rfl⟩) | (go_at_call_of 18 (Value.string b); refine (textValid_impl b _ HB.out HBL.out _).mono ?_; rintro e w1 ⟨rfl, rfl⟩))
    exact bodyPost_ret (v := .tuple #[.agg #[.int .i64 0, .int .i64 0, .string ⟨#[]⟩], .bool false]) (by simp [results, Try.results20, go_sem]) rfl ⟨rfl, (Below.refl _ _).alloc (Nat.le_refl _) _⟩

set_option maxHeartbeats 1000000 in
theorem diffEdit_spec_yes (a b : ByteArray) (hv : tv a = true) (hw : tv b = true) (w : World) :
    Calls Try.prog 21 #[.string a, .string b] w fun e w' => e = .returned (.tuple #[.agg #[.int .i64 (cp a b), .int .i64 ((a.size : Int) - ce a b (cp a b)), .string (b.extract (cp a b) (b.size - ce a b (cp a b)))], .bool true]) ∧ Below w.heap.size w w' := by
  have ha := tv_size hv
  have hb := tv_size hw
  have HA := Lib.hid hv
  have HB := Lib.hid hw
  clear hv hw
  go_enter Try.func21, Try.ntmps21
  go_wp2_with (first | (go_at_call_of 29 (Value.string a); refine (textValid_spec a _ HA.out (by unfold maxLen; omega) _).mono ?_; rintro e w1 ⟨rfl, rfl⟩) | (go_at_call_of 29 (Value.string b); refine (textValid_spec b _ HB.out (by unfold maxLen; omega) _).mono ?_; rintro e w1 ⟨rfl, rfl⟩) | (go_at_call 43; refine (l1Diff_any a b ha hb _).mono ?_; rintro e w1 ⟨rfl, hb1⟩; obtain ⟨hc1, hf1⟩ := bcell hb1; have hz1 : w.heap.size < w1.heap.size := by have := hb1.size; (try simp at this); omega))
  have H1 : Below w.heap.size w w1 := ((Below.refl _ _).alloc (Nat.le_refl _) _).trans (hb1.mono (by first | omega | (simp; done) | (simp; omega)))
  exact bodyPost_ret (v := .tuple #[.agg #[.int .i64 (cp a b), .int .i64 ((a.size : Int) - ce a b (cp a b)), .string (b.extract (cp a b) (b.size - ce a b (cp a b)))], .bool true]) (by simp [results, Try.results21, go_sem, hc1]) rfl ⟨rfl, below_set3 H1 (by simp)⟩

set_option maxHeartbeats 1000000 in
theorem diffEdit_impl_yes (a b : ByteArray) (hv : tv a = true) (hw : tv b = true) (w : World) :
    Calls Try.prog 20 #[.string a, .string b] w fun e w' => e = .returned (.tuple #[.agg #[.int .i64 (cp a b), .int .i64 ((a.size : Int) - ce a b (cp a b)), .string (b.extract (cp a b) (b.size - ce a b (cp a b)))], .bool true]) ∧ Below w.heap.size w w' := by
  have ha := tv_size hv
  have hb := tv_size hw
  have HA := Lib.hid hv
  have HB := Lib.hid hw
  clear hv hw
  obtain ⟨k, hk⟩ : ∃ k, cp a b = k := ⟨_, rfl⟩
  obtain ⟨m, hm⟩ : ∃ m, ce a b k = m := ⟨_, rfl⟩
  have bk := cp_le a b
  have bm := ce_le a b k
  rw [hk] at bk
  rw [hm] at bm
  obtain ⟨bk1, bk2⟩ := bk
  obtain ⟨bm1, bm2⟩ := bm
  have bm1' : m + k ≤ a.size := by omega
  have bm2' : m + k ≤ b.size := by omega
  clear bm1 bm2
  have HE := Lib.hid hk
  have HM := Lib.hid hm
  have HC := Lib.hid ((ce_cut a b k).trans hm)
  have hx : (a.extract k a.size).size ≤ 2000 := by simp; omega
  have hy : (b.extract k b.size).size ≤ 2000 := by simp; omega
  have HX := Lib.hid hx
  have HY := Lib.hid hy
  clear hk hm hx hy
  go_enter Try.func20, Try.ntmps20
  go_wp2_with (first | (go_at_call_of 18 (Value.string a); refine (textValid_impl a _ HA.out (by unfold maxLen; omega) _).mono ?_; rintro e w1 ⟨rfl, rfl⟩) | (go_at_call_of 18 (Value.string b); refine (textValid_impl b _ HB.out (by unfold maxLen; omega) _).mono ?_; rintro e w1 ⟨rfl, rfl⟩) | (go_at_call 41; refine (cb_any a b k HE.out ha _).mono ?_; rintro e w1 ⟨rfl, n1, rfl⟩))
  go_quiet ((go_at_call 42; exact quiet_sum (ce_any _ _ m HC.out HX.out HY.out _)))
  go_wp2
  exact bodyPost_ret (v := .tuple #[.agg #[.int .i64 k, .int .i64 ((a.size : Int) - m), .string (b.extract k (b.size - m))], .bool true]) (by simp [results, Try.results20, go_sem]) rfl ⟨diff_ret2 HE.out HM.out, below_set3 (below_drewN ((Below.refl _ _).alloc (Nat.le_refl _) _) _) (Nat.le_refl _)⟩

end Go.Proofs.Ythannbkkpocejaa
