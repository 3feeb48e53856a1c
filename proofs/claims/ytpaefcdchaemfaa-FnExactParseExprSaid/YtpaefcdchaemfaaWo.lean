/-
  The program's reader of a line: its box (text, offset, bytes that are owed), the next byte, the tests of a byte, one byte taken.
-/
import Derived.Test.YtpaefcdchaemfaaProg
import Derived.Test.YtpaefcdchaemfaaWa
import Derived.Test.YtpaefcdchaemfaaZo
import Derived.Test.YtpaefcdchaemfaaOa
import Derived.Deep.RegionLaw
import Derived.BigQuiet
namespace Go.Proofs.Ytpaefcdchaemfaa
open Go.RowKit
set_option linter.unusedVariables false
set_option linter.unusedSimpArgs false

/-- The reader's box. -/
structure LR (w : World) (p : Nat) (s : ByteArray) (I O : Int) : Prop where
  c0 : w.cell? ⟨p, 0, none⟩ = some (.string s)
  c1 : w.cell? ⟨p, 1, none⟩ = some (.int .i64 I)
  c2 : w.cell? ⟨p, 2, none⟩ = some (.int .i64 O)
  f1 : w.frozen? ⟨p, 1, none⟩ = false
  f2 : w.frozen? ⟨p, 2, none⟩ = false
  sz : p < w.heap.size
theorem LR.keep {w w' : World} {p : Nat} {s : ByteArray} {I O : Int} (h : LR w p s I O) (hs : w.heap.size ≤ w'.heap.size) (e : w'.heap[p]? = w.heap[p]?) : LR w' p s I O :=
  ⟨(cellEq e).trans h.c0, (cellEq e).trans h.c1, (cellEq e).trans h.c2, (frozenEq e).trans h.f1, (frozenEq e).trans h.f2, Nat.lt_of_lt_of_le h.sz hs⟩
theorem LR.kept {w w' : World} {p : Nat} {s : ByteArray} {I O : Int} (h : LR w p s I O) (hb : Below w.heap.size w w') : LR w' p s I O := h.keep hb.size (hb.block p h.sz)
theorem LR.set {w : World} {p : Nat} {s : ByteArray} {I O : Int} (h : LR w p s I O) (J Q : Int) : LR ((w.setCell ⟨p, 1, none⟩ (.int .i64 J)).setCell ⟨p, 2, none⟩ (.int .i64 Q)) p s J Q := by
  refine ⟨?_, ?_, ?_, ?_, ?_, by simpa using h.sz⟩
  · rw [World.cell?_setCell_other _ _ _ _ (fun e => by injection e with _ e2 _; omega), World.cell?_setCell_other _ _ _ _ (fun e => by injection e with _ e2 _; omega)]; exact h.c0
  · rw [World.cell?_setCell_other _ _ _ _ (fun e => by injection e with _ e2 _; omega)]
    exact World.cell?_setCell_same' _ _ _ (by rw [h.c1]; rfl)
  · refine World.cell?_setCell_same' _ _ _ ?_
    rw [World.cell?_setCell_other _ _ _ _ (fun e => by injection e with _ e2 _; omega), h.c2]; rfl
  · rw [World.frozen?_setCell, World.frozen?_setCell]; exact h.f1
  · rw [World.frozen?_setCell, World.frozen?_setCell]; exact h.f2
theorem LR.in {w : World} {p : Nat} (J Q : Value) : Inside p (p + 1) w ((w.setCell ⟨p, 1, none⟩ J).setCell ⟨p, 2, none⟩ Q) :=
  (Inside.set w 1 _ (Nat.le_refl _) (Nat.lt_succ_self _)).trans (Inside.set _ 2 _ (Nat.le_refl _) (Nat.lt_succ_self _))
theorem in_below {lo hi : Nat} {w w' : World} (h : Below w.heap.size w w') : Inside lo hi w w' := ⟨h.os, h.tape, h.output, h.size, fun x hx _ => h.block x hx⟩
/-- An error of the reader. -/
def Mis (v : Value) : Prop := ∃ k : Int, v = .iface 57 (.agg #[.int .i64 k])
theorem ret_b2 {a b : Bool} (h : a = b) : Ending.returned (.bool a) = .returned (.bool b) := by rw [h]

set_option maxHeartbeats 1000000 in
theorem peek_any (s : ByteArray) (hs : s.size ≤ 1048576) (p i : Nat) (I O : Int) (hI : I = (i : Int)) (hi : i ≤ s.size) (w : World) (hp : LR w p s I O) :
    Calls Try.prog 36 #[.pointer (some ⟨p, 0, none⟩)] w fun e w' => e = .returned (.int .u8 (by8 s i)) ∧ Below w.heap.size w w' := by
  obtain ⟨c0, c1, c2, f1, f2, sz⟩ := hp
  by_cases h : i < s.size
  · have r1 := by8_idx Try.prog 9 Try.underlying9 h
    rw [← hI] at r1
    have h1 : (I == (s.size : Int)) = false := by rw [beq_eq_false_iff_ne]; omega
    have h2 : (0 : Int) ≤ I := by omega
    have h3 : I < (s.size : Int) := by omega
    obtain ⟨c, hc⟩ : ∃ c, by8 s i = c := ⟨_, rfl⟩
    rw [hc] at r1 ⊢
    clear h hc hI
    go_enter Try.func36, Try.ntmps36
    go_wp2_with fail
    go_quiet (fail)
    go_wp2_with fail
    go_quiet (fail)
    try go_wp2_with fail
    go_ret
    exact ⟨rfl, below_drewN (below_drewN (Below.refl _ _) _) _⟩
  · have h1 : (I == (s.size : Int)) = true := by rw [beq_iff_eq]; omega
    have hd : Hid (by8 s i = 0) := Lib.hid (by8_end h)
    clear h hI
    go_enter Try.func36, Try.ntmps36
    go_wp2_with fail
    go_quiet (fail)
    try go_wp2_with fail
    go_ret
    exact ⟨by rw [hd.out]; rfl, below_drewN (Below.refl _ _) _⟩
set_option maxHeartbeats 1000000 in
theorem isDigit_any (c : Int) (w : World) : Calls Try.prog 37 #[.int .u8 c] w fun e w' => e = .returned (.bool (dig c)) ∧ w' = w := by
  by_cases h2 : (48 : Int) ≤ c
  · by_cases h3 : c ≤ 57
    · have hd : Hid (dig c = true) := Lib.hid (decide_eq_true ⟨h2, h3⟩)
      go_enter Try.func37, Try.ntmps37
      go_wp2_with fail
      go_ret
      exact ⟨ret_b2 (by rw [hd.out]), rfl⟩
    · have hd : Hid (dig c = false) := Lib.hid (decide_eq_false (fun h => h3 h.2))
      go_enter Try.func37, Try.ntmps37
      go_wp2_with fail
      go_ret
      exact ⟨ret_b2 (by rw [hd.out]), rfl⟩
  · have hd : Hid (dig c = false) := Lib.hid (decide_eq_false (fun h => h2 h.1))
    go_enter Try.func37, Try.ntmps37
    go_wp2_with fail
    go_ret
    exact ⟨ret_b2 (by rw [hd.out]), rfl⟩
set_option maxHeartbeats 1000000 in
theorem isValueLetter_any (c : Int) (w : World) : Calls Try.prog 39 #[.int .u8 c] w fun e w' => e = .returned (.bool (sml c)) ∧ w' = w := by
  by_cases h2 : (97 : Int) ≤ c
  · by_cases h3 : c ≤ 122
    · have hd : Hid (sml c = true) := Lib.hid (decide_eq_true ⟨h2, h3⟩)
      go_enter Try.func39, Try.ntmps39
      go_wp2_with fail
      go_ret
      exact ⟨ret_b2 (by rw [hd.out]), rfl⟩
    · have hd : Hid (sml c = false) := Lib.hid (decide_eq_false (fun h => h3 h.2))
      go_enter Try.func39, Try.ntmps39
      go_wp2_with fail
      go_ret
      exact ⟨ret_b2 (by rw [hd.out]), rfl⟩
  · have hd : Hid (sml c = false) := Lib.hid (decide_eq_false (fun h => h2 h.1))
    go_enter Try.func39, Try.ntmps39
    go_wp2_with fail
    go_ret
    exact ⟨ret_b2 (by rw [hd.out]), rfl⟩
set_option maxHeartbeats 1000000 in
theorem isFileLetter_any (c : Int) (w : World) : Calls Try.prog 41 #[.int .u8 c] w fun e w' => e = .returned (.bool (bigL c)) ∧ w' = w := by
  by_cases h2 : (65 : Int) ≤ c
  · by_cases h3 : c ≤ 90
    · have hd : Hid (bigL c = true) := Lib.hid (decide_eq_true ⟨h2, h3⟩)
      go_enter Try.func41, Try.ntmps41
      go_wp2_with fail
      go_ret
      exact ⟨ret_b2 (by rw [hd.out]), rfl⟩
    · have hd : Hid (bigL c = false) := Lib.hid (decide_eq_false (fun h => h3 h.2))
      go_enter Try.func41, Try.ntmps41
      go_wp2_with fail
      go_ret
      exact ⟨ret_b2 (by rw [hd.out]), rfl⟩
  · have hd : Hid (bigL c = false) := Lib.hid (decide_eq_false (fun h => h2 h.1))
    go_enter Try.func41, Try.ntmps41
    go_wp2_with fail
    go_ret
    exact ⟨ret_b2 (by rw [hd.out]), rfl⟩

set_option maxHeartbeats 2000000 in
theorem take_ok (s : ByteArray) (hs : s.size ≤ 1048576) (p i : Nat) (I O M : Int) (hI : I = (i : Int)) (hi : i < s.size) (hO : -10 ≤ O) (hO2 : O ≤ 1048576) (hM : -10 ≤ M) (hM2 : M ≤ 10) (hl : I + O + M ≤ 2000) (w : World) (hp : LR w p s I O) :
    Calls Try.prog 40 #[.pointer (some ⟨p, 0, none⟩), .bool true, .int .i64 M] w fun e w' => e = .returned (.tuple #[.string (s.extract i (i + 1)), .nilIface]) ∧ LR w' p s (I + 1) (O - 1 + M) ∧ Inside p (p + 1) w w' := by
  have HP := Lib.hid hp
  obtain ⟨c0, c1, c2, f1, f2, sz⟩ := hp
  have s1 : IntKind.i64.wrap (O - 1) = O - 1 := IntWalk.i64_in _ (by omega)
  have s2 : IntKind.i64.wrap (O - 1 + M) = O - 1 + M := IntWalk.i64_in _ (by omega)
  have s3 : IntKind.i64.wrap (I + 1) = I + 1 := IntWalk.i64_in _ (by omega)
  have s4 : IntKind.i64.wrap (I + 1 + (O - 1 + M)) = I + 1 + (O - 1 + M) := IntWalk.i64_in _ (by omega)
  have s5 : IntKind.i64.wrap (I + 1 - 1) = I := by rw [IntWalk.i64_in _ (by omega)]; omega
  have h1 : ¬ I + 1 + (O - 1 + M) > 2000 := by omega
  have h2 : (0 : Int) ≤ I := by omega
  have h3 : I + 1 ≤ (s.size : Int) := by omega
  have h4 : I ≤ I + 1 := by omega
  have h5 : (0 : Int) ≤ I + 1 := by omega
  have HT : Hid (s.extract I.toNat (I + 1).toNat = s.extract i (i + 1)) := Lib.hid (by rw [show I.toNat = i by omega, show (I + 1).toNat = i + 1 by omega])
  clear hI hi hl
  go_enter Try.func40, Try.ntmps40
  go_wp2_with fail
  go_quiet (fail)
  try go_wp2_with fail
  go_ret2
  exact ⟨by rw [← HT.out]; rfl, (HP.out.set _ _).kept (below_drewN (Below.refl _ _) _), (LR.in _ _).trans (in_below (below_drewN (Below.refl _ _) _))⟩
set_option maxHeartbeats 2000000 in
theorem take_no (s : ByteArray) (hs : s.size ≤ 1048576) (p i : Nat) (I O M : Int) (b : Bool) (hI : I = (i : Int)) (hi : i ≤ s.size) (hO : -10 ≤ O) (hO2 : O ≤ 1048576) (hM : -10 ≤ M) (hM2 : M ≤ 10) (hl : b = false ∨ 2000 < I + O + M) (w : World) (hp : LR w p s I O) :
    Calls Try.prog 40 #[.pointer (some ⟨p, 0, none⟩), .bool b, .int .i64 M] w fun e w' => ∃ v, e = .returned (.tuple #[.string ⟨#[]⟩, v]) ∧ Mis v ∧ Below w.heap.size w w' := by
  obtain ⟨c0, c1, c2, f1, f2, sz⟩ := hp
  have s1 : IntKind.i64.wrap (O - 1) = O - 1 := IntWalk.i64_in _ (by omega)
  have s2 : IntKind.i64.wrap (O - 1 + M) = O - 1 + M := IntWalk.i64_in _ (by omega)
  cases b with
  | false =>
    clear hl hI hi
    go_enter Try.func40, Try.ntmps40
    go_wp2_with fail
    go_quiet (fail)
    try go_wp2_with fail
    go_ret2
    exact ⟨_, rfl, ⟨_, rfl⟩, below_drewN (Below.refl _ _) _⟩
  | true =>
    have s3 : IntKind.i64.wrap (I + 1) = I + 1 := IntWalk.i64_in _ (by omega)
    have s4 : IntKind.i64.wrap (I + 1 + (O - 1 + M)) = I + 1 + (O - 1 + M) := IntWalk.i64_in _ (by omega)
    have h1 : I + 1 + (O - 1 + M) > 2000 := by rcases hl with h | h; cases h; omega
    clear hl hI hi
    go_enter Try.func40, Try.ntmps40
    go_wp2_with fail
    go_quiet (fail)
    try go_wp2_with fail
    go_ret2
    exact ⟨_, rfl, ⟨_, rfl⟩, below_drewN (Below.refl _ _) _⟩

end Go.Proofs.Ytpaefcdchaemfaa
