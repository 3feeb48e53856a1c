/-
  The program's reader: what a part of it returns (the plain parser's tree, where the bytes that are owed still fit); a number, a name with its file.
-/
import Derived.Test.YtpaefcdchaemfaaWq
import Derived.Test.YtpaefcdchaemfaaWe
namespace Go.Proofs.Ytpaefcdchaemfaa
open Go.RowKit Go.Proofs.Ytpaefcdchaemfaa.Ox
set_option linter.unusedVariables false
set_option linter.unusedSimpArgs false

/-- The tree that is read, if the bytes that are owed still fit behind it. -/
def lim (O : Int) : Rs → Option (Ex × Nat)
  | .ok x n => if (n : Int) + O ≤ 2001 then some (x, n) else none
  | .no _ => none
theorem lim_ok {O : Int} {x : Ex} {n : Nat} (h : (n : Int) + O ≤ 2001) : lim O (.ok x n) = some (x, n) := if_pos h
theorem lim_off {O : Int} {x : Ex} {n : Nat} (h : 2001 < (n : Int) + O) : lim O (.ok x n) = none := if_neg (by omega)
/-- What a part of the reader returns. -/
def PqRet (p : Nat) (s : ByteArray) (O : Int) (w : World) (e : Ending) (w' : World) : Option (Ex × Nat) → Prop
  | some (x, n) => ∃ v, e = .returned (.tuple #[.agg #[.int .i64 x.k, .int .i64 x.n, .string x.m, .string x.s, v], .nilIface]) ∧ ExIn w' w.heap.size w'.heap.size x v ∧ LR w' p s n (O - 1) ∧ Inside p (p + 1) w w'
  | none => ∃ (a b : Int) (m t : ByteArray) (q : Option Addr) (l c : Nat) (v : Value), e = .returned (.tuple #[.agg #[.int .i64 a, .int .i64 b, .string m, .string t, .slice q l c], v]) ∧ Mis v ∧ Inside p (p + 1) w w'
theorem PqRet.of {p : Nat} {s : ByteArray} {O : Int} {w w' : World} {e : Ending} {r r' : Option (Ex × Nat)} (h : PqRet p s O w e w' r) (hr : r' = r) : PqRet p s O w e w' r' := by rw [hr]; exact h
theorem R5.inside {w w' : World} {B p : Nat} (h : R5 w B) (hI : Inside p (p + 1) w w') (hp : p < B) : R5 w' B := h.keep hI.size (hI.block B h.sz (.inr (by omega)))
theorem ExIn.inside {w w' : World} {lo hi p : Nat} {x : Ex} {v : Value} (h : ExIn w lo hi x v) (hI : Inside p (p + 1) w w') (hp : p < lo) : ExIn w' lo hi x v := h.keep hI.size (fun b h1 _ h3 => hI.block b h3 (.inr (by omega)))
theorem put5_heap {W : World} {B : Nat} (a b c d e : Value) {q : Nat} (h : q ≠ B) : (put5 W B a b c d e).heap[q]? = W.heap[q]? := by
  unfold put5
  rw [Below.heap_setCell _ _ _ _ h, Below.heap_setCell _ _ _ _ h, Below.heap_setCell _ _ _ _ h, Below.heap_setCell _ _ _ _ h, Below.heap_setCell _ _ _ _ h]
theorem put5_sz {W : World} {B : Nat} (a b c d e : Value) : (put5 W B a b c d e).heap.size = W.heap.size := by simp [put5]
theorem Inside.put {lo hi b : Nat} {w W : World} (h : Inside lo hi w W) (hB : w.heap.size ≤ b) (o : Nat) (u : Value) : Inside lo hi w (W.setCell ⟨b, o, none⟩ u) :=
  ⟨h.os, h.tape, h.output, by simpa using h.size, fun q hq ho => (heap_setCell_other W ⟨b, o, none⟩ q u (by show q ≠ b; omega)).trans (h.block q hq ho)⟩
theorem put5_in {w W : World} {S p : Nat} (hS : w.heap.size = S) (h : Inside p (p + 1) w W) (a b c d e : Value) : Inside p (p + 1) w (put5 W S a b c d e) :=
  ((((h.put (Nat.le_of_eq hS) 0 a).put (Nat.le_of_eq hS) 1 b).put (Nat.le_of_eq hS) 2 c).put (Nat.le_of_eq hS) 3 d).put (Nat.le_of_eq hS) 4 e
theorem put5_lr {W : World} {S p : Nat} {s : ByteArray} {I O : Int} (h : LR W p s I O) (hp : p < S) (a b c d e : Value) : LR (put5 W S a b c d e) p s I O :=
  h.keep (by rw [put5_sz]; exact Nat.le_refl _) (put5_heap _ _ _ _ _ (by omega))

/-- number: one contract. -/
theorem number_any (s : ByteArray) (hs : s.size ≤ 1048576) (p i : Nat) (I O : Int) (hI : I = (i : Int)) (hi : i < s.size) (hO : 1 ≤ O) (hO2 : O ≤ 1048576) (hd : dig (by8 s i) = true) (w : World) (hp : LR w p s I O) :
    Calls Try.prog 38 #[.pointer (some ⟨p, 0, none⟩)] w fun e w' => (∃ (a : Int) (n : Nat), lim O (pxN s i) = some (.node 1 a e0 e0 [], n) ∧ e = .returned (.tuple #[.int .i64 a, .nilIface]) ∧ LR w' p s n (O - 1) ∧ Inside p (p + 1) w w') ∨ (lim O (pxN s i) = none ∧ ∃ (k : Int) (v : Value), e = .returned (.tuple #[.int .i64 k, v]) ∧ Mis v ∧ Inside p (p + 1) w w') := by
  by_cases h0 : 2000 < I + O
  · refine (number_no1 s hs p i I O hI hi hO hO2 hd h0 w hp).mono (fun e w' h => .inr ⟨?_, h⟩)
    unfold pxN
    by_cases h : by8 s i = 48 ∨ dig (by8 s (i + 1)) = false
    · rw [if_pos h]; exact lim_off (by omega)
    · rw [if_neg h]; exact lim_off (by omega)
  by_cases hz : by8 s i = 48
  · refine (number_one_z s hs p i I O hI hi hO hO2 hd (by omega) hz w hp).mono (fun e w' h => .inl ⟨by8 s i - 48, i + 1, ?_, h.1, h.2.1.at0 (by omega) rfl, h.2.2⟩)
    unfold pxN; rw [if_pos (.inl hz)]; exact lim_ok (by omega)
  cases hd2 : dig (by8 s (i + 1)) with
  | false =>
    refine (number_one_d s hs p i I O hI hi hO hO2 hd (by omega) hz hd2 w hp).mono (fun e w' h => .inl ⟨by8 s i - 48, i + 1, ?_, h.1, h.2.1.at0 (by omega) rfl, h.2.2⟩)
    unfold pxN; rw [if_pos (.inr hd2)]; exact lim_ok (by omega)
  | true =>
    have hn : ¬ (by8 s i = 48 ∨ dig (by8 s (i + 1)) = false) := fun h => by rcases h with h | h; exact hz h; rw [hd2] at h; cases h
    by_cases h1 : I + O = 2000
    · refine (number_no2 s hs p i I O hI hi hO hO2 hd h1 hz hd2 w hp).mono (fun e w' h => .inr ⟨?_, h⟩)
      unfold pxN; rw [if_neg hn]; exact lim_off (by omega)
    · refine (number_two s hs p i I O hI hi hO hO2 hd (by omega) hz hd2 w hp).mono (fun e w' h => .inl ⟨10 * (by8 s i - 48) + (by8 s (i + 1) - 48), i + 2, ?_, h.1, h.2.1.at0 (by omega) rfl, h.2.2⟩)
      unfold pxN; rw [if_neg hn]; exact lim_ok (by omega)
set_option maxRecDepth 100000 in
set_option maxHeartbeats 4000000 in
theorem file_no1 (s : ByteArray) (hs : s.size ≤ 1048576) (p i : Nat) (I O : Int) (hI : I = (i : Int)) (hi : i < s.size) (hO : 1 ≤ O) (hO2 : O ≤ 1048576) (hl : 1998 < I + O) (w : World) (hp : LR w p s I O) :
    Calls Try.prog 42 #[.pointer (some ⟨p, 0, none⟩)] w fun e w' => PqRet p s O w e w' none := by
  obtain ⟨S, hS⟩ : ∃ S, w.heap.size = S := ⟨_, rfl⟩
  have HS := Lib.hid hS
  obtain ⟨W1, hW1⟩ : ∃ W, w.alloc (.cells #[.int .i64 0, .int .i64 0, .string ⟨#[]⟩, .string ⟨#[]⟩, .slice none 0 0] 24) = W := ⟨_, rfl⟩
  have HW1 := Lib.hid hW1
  have HR1 : Hid (R5 W1 S) := Lib.hid (by rw [← hW1, ← hS]; exact r5_new w _)
  have HB1 : Hid (Below S w W1) := Lib.hid (by rw [← hW1, ← hS]; exact (Below.refl _ _).alloc (Nat.le_refl _) _)
  have hz1 : W1.heap.size = S + 1 := by rw [← hW1, ← hS]; simp
  have hps : p < S := by have := hp.sz; omega
  have HPS := Lib.hid hps
  have HP1 := Lib.hid (hp.kept (by rw [hS]; exact HB1.out))
  have HN1 : Hid (Inside p (p + 1) w W1) := Lib.hid (in_below (by rw [hS]; exact HB1.out))
  have HI := Lib.hid hI
  have HLT := Lib.hid hi
  have HLE : Hid (i ≤ s.size) := Lib.hid (Nat.le_of_lt hi)
  have HI1 : Hid (I + 1 = ((i + 1 : Nat) : Int)) := Lib.hid (by omega)
  have HI2 : Hid (I + 2 = ((i + 2 : Nat) : Int)) := Lib.hid (by omega)
  have HLE1 : Hid (i + 1 ≤ s.size) := Lib.hid hi
  have HL : Hid (true = false ∨ 2000 < I + O + 2) := Lib.hid (.inr (by omega))
  clear hI hi hp hl hps hW1
  go_enter Try.func42, Try.ntmps42
  go_wp2_with fail
  rw [HW1.out]
  try rw [hS]
  go_at_call 40
  refine (take_no s hs p i I (O) (2) _ HI.out HLE.out (by omega) (by omega) (by omega) (by omega) HL.out _ HP1.out).mono ?_
  rintro e w2 ⟨v2, rfl, ⟨k2, rfl⟩, hb2⟩
  have HN2 := Lib.hid (HN1.out.trans (in_below hb2))
  have HR2 := Lib.hid (HR1.out.kept hb2)
  clear hb2
  obtain ⟨p0, p1, p2, p3, p4, f0, f1, f2, f3, f4, psz⟩ := HR2.out
  go_wp2_with fail
  exact bodyPost_ret (v := .tuple #[.agg #[.int .i64 0, .int .i64 0, .string ⟨#[]⟩, .string ⟨#[]⟩, .slice none 0 0], .iface 57 (.agg #[.int .i64 k2])]) (by simp [results, Try.results42, go_sem, p0, p1, p2, p3, p4, psz]) rfl ⟨_, _, _, _, _, _, _, _, rfl, ⟨_, rfl⟩, put5_in HS.out HN2.out _ _ _ _ _⟩
set_option maxRecDepth 100000 in
set_option maxHeartbeats 4000000 in
theorem file_no2 (s : ByteArray) (hs : s.size ≤ 1048576) (p i : Nat) (I O : Int) (hI : I = (i : Int)) (hi : i < s.size) (hO : 1 ≤ O) (hO2 : O ≤ 1048576) (hl : I + O ≤ 1998) (h46 : by8 s (i + 1) ≠ 46) (w : World) (hp : LR w p s I O) :
    Calls Try.prog 42 #[.pointer (some ⟨p, 0, none⟩)] w fun e w' => PqRet p s O w e w' none := by
  obtain ⟨S, hS⟩ : ∃ S, w.heap.size = S := ⟨_, rfl⟩
  have HS := Lib.hid hS
  obtain ⟨W1, hW1⟩ : ∃ W, w.alloc (.cells #[.int .i64 0, .int .i64 0, .string ⟨#[]⟩, .string ⟨#[]⟩, .slice none 0 0] 24) = W := ⟨_, rfl⟩
  have HW1 := Lib.hid hW1
  have HR1 : Hid (R5 W1 S) := Lib.hid (by rw [← hW1, ← hS]; exact r5_new w _)
  have HB1 : Hid (Below S w W1) := Lib.hid (by rw [← hW1, ← hS]; exact (Below.refl _ _).alloc (Nat.le_refl _) _)
  have hz1 : W1.heap.size = S + 1 := by rw [← hW1, ← hS]; simp
  have hps : p < S := by have := hp.sz; omega
  have HPS := Lib.hid hps
  have HP1 := Lib.hid (hp.kept (by rw [hS]; exact HB1.out))
  have HN1 : Hid (Inside p (p + 1) w W1) := Lib.hid (in_below (by rw [hS]; exact HB1.out))
  have HI := Lib.hid hI
  have HLT := Lib.hid hi
  have HLE : Hid (i ≤ s.size) := Lib.hid (Nat.le_of_lt hi)
  have HI1 : Hid (I + 1 = ((i + 1 : Nat) : Int)) := Lib.hid (by omega)
  have HI2 : Hid (I + 2 = ((i + 2 : Nat) : Int)) := Lib.hid (by omega)
  have HLE1 : Hid (i + 1 ≤ s.size) := Lib.hid hi
  have hO3 : O ≤ 1998 := by omega
  have HL : Hid (I + O + 2 ≤ 2000) := Lib.hid (by omega)
  have HL2 : Hid (by8 s (i + 1) ≠ 46 ∨ 2000 < I + 1 + (O + 1)) := Lib.hid (.inl h46)
  clear hI hi hp hl hps hW1 h46
  go_enter Try.func42, Try.ntmps42
  go_wp2_with fail
  rw [HW1.out]
  try rw [hS]
  go_at_call 40
  refine (take_is _ (by first | rfl | decide) s hs p i I (O) (2) HI.out HLT.out (by omega) (by omega) (by omega) (by omega) HL.out _ HP1.out).mono ?_
  rintro e w2 ⟨rfl, hp2, hn2⟩
  have HP2 := Lib.hid (hp2.at0 (J := I + 1) (Q := O + 1) (by omega) (by omega))
  have HN2 := Lib.hid (HN1.out.trans hn2)
  have HR2 := Lib.hid (HR1.out.inside hn2 HPS.out)
  clear hp2 hn2
  go_wp2_with fail
  go_at_call 47
  refine (point_no s hs p (i + 1) (I + 1) (O + 1) HI1.out HLE1.out (by omega) (by omega) HL2.out _ HP2.out).mono ?_
  rintro e w3 ⟨v3, rfl, ⟨k3, rfl⟩, hn3⟩
  have HN3 := Lib.hid (HN2.out.trans hn3)
  have HR3 := Lib.hid (HR2.out.inside hn3 HPS.out)
  clear hn3
  obtain ⟨p0, p1, p2, p3, p4, f0, f1, f2, f3, f4, psz⟩ := HR3.out
  go_wp2_with fail
  exact bodyPost_ret (v := .tuple #[.agg #[.int .i64 0, .int .i64 0, .string ⟨#[]⟩, .string ⟨#[]⟩, .slice none 0 0], .iface 57 (.agg #[.int .i64 k3])]) (by simp [results, Try.results42, go_sem, p0, p1, p2, p3, p4, psz]) rfl ⟨_, _, _, _, _, _, _, _, rfl, ⟨_, rfl⟩, put5_in HS.out HN3.out _ _ _ _ _⟩
set_option maxRecDepth 100000 in
set_option maxHeartbeats 4000000 in
theorem file_no3 (s : ByteArray) (hs : s.size ≤ 1048576) (p i : Nat) (I O : Int) (hI : I = (i : Int)) (hi : i < s.size) (hO : 1 ≤ O) (hO2 : O ≤ 1048576) (hl : I + O ≤ 1998) (h46 : by8 s (i + 1) = 46) (hsm : sml (by8 s (i + 2)) = false) (w : World) (hp : LR w p s I O) :
    Calls Try.prog 42 #[.pointer (some ⟨p, 0, none⟩)] w fun e w' => PqRet p s O w e w' none := by
  obtain ⟨S, hS⟩ : ∃ S, w.heap.size = S := ⟨_, rfl⟩
  have HS := Lib.hid hS
  obtain ⟨W1, hW1⟩ : ∃ W, w.alloc (.cells #[.int .i64 0, .int .i64 0, .string ⟨#[]⟩, .string ⟨#[]⟩, .slice none 0 0] 24) = W := ⟨_, rfl⟩
  have HW1 := Lib.hid hW1
  have HR1 : Hid (R5 W1 S) := Lib.hid (by rw [← hW1, ← hS]; exact r5_new w _)
  have HB1 : Hid (Below S w W1) := Lib.hid (by rw [← hW1, ← hS]; exact (Below.refl _ _).alloc (Nat.le_refl _) _)
  have hz1 : W1.heap.size = S + 1 := by rw [← hW1, ← hS]; simp
  have hps : p < S := by have := hp.sz; omega
  have HPS := Lib.hid hps
  have HP1 := Lib.hid (hp.kept (by rw [hS]; exact HB1.out))
  have HN1 : Hid (Inside p (p + 1) w W1) := Lib.hid (in_below (by rw [hS]; exact HB1.out))
  have HI := Lib.hid hI
  have HLT := Lib.hid hi
  have HLE : Hid (i ≤ s.size) := Lib.hid (Nat.le_of_lt hi)
  have HI1 : Hid (I + 1 = ((i + 1 : Nat) : Int)) := Lib.hid (by omega)
  have HI2 : Hid (I + 2 = ((i + 2 : Nat) : Int)) := Lib.hid (by omega)
  have HLE1 : Hid (i + 1 ≤ s.size) := Lib.hid hi
  have hO3 : O ≤ 1998 := by omega
  have HL : Hid (I + O + 2 ≤ 2000) := Lib.hid (by omega)
  have HB46 := Lib.hid h46
  have HLT1 : Hid (i + 1 < s.size) := Lib.hid (by8_lt (by omega))
  have HLE2 : Hid (i + 2 ≤ s.size) := Lib.hid HLT1.out
  have HL2 : Hid (I + 1 + (O + 1) ≤ 2000) := Lib.hid (by omega)
  have HSM := Lib.hid hsm
  clear hI hi hp hl hps hW1 h46 hsm
  go_enter Try.func42, Try.ntmps42
  go_wp2_with fail
  rw [HW1.out]
  try rw [hS]
  go_at_call 40
  refine (take_is _ (by first | rfl | decide) s hs p i I (O) (2) HI.out HLT.out (by omega) (by omega) (by omega) (by omega) HL.out _ HP1.out).mono ?_
  rintro e w2 ⟨rfl, hp2, hn2⟩
  have HP2 := Lib.hid (hp2.at0 (J := I + 1) (Q := O + 1) (by omega) (by omega))
  have HN2 := Lib.hid (HN1.out.trans hn2)
  have HR2 := Lib.hid (HR1.out.inside hn2 HPS.out)
  clear hp2 hn2
  go_wp2_with fail
  go_at_call 47
  refine (point_ok s hs p (i + 1) (I + 1) (O + 1) HI1.out HLT1.out (by omega) (by omega) HL2.out HB46.out _ HP2.out).mono ?_
  rintro e w3 ⟨rfl, hp3, hn3⟩
  have HP3 := Lib.hid (hp3.at0 (J := I + 2) (Q := O) (by omega) (by omega))
  have HN3 := Lib.hid (HN2.out.trans hn3)
  have HR3 := Lib.hid (HR2.out.inside hn3 HPS.out)
  clear hp3 hn3
  go_wp2_with fail
  go_at_call 36
  refine (peek_any s hs p (i + 2) (I + 2) _ HI2.out HLE2.out _ HP3.out).mono ?_
  rintro e w4 ⟨rfl, hb4⟩
  have HP4 := Lib.hid (HP3.out.kept hb4)
  have HN4 := Lib.hid (HN3.out.trans (in_below hb4))
  have HR4 := Lib.hid (HR3.out.kept hb4)
  clear hb4
  go_wp2_with fail
  go_at_call 39
  refine (isValueLetter_any _ _).mono ?_
  rintro e wq ⟨rfl, rfl⟩
  rw [HSM.out]
  go_wp2_with fail
  go_at_call 40
  refine (take_no s hs p (i + 2) (I + 2) (O) (0) _ HI2.out HLE2.out (by omega) (by omega) (by omega) (by omega) (.inl rfl) _ HP4.out).mono ?_
  rintro e w5 ⟨v5, rfl, ⟨k5, rfl⟩, hb5⟩
  have HN5 := Lib.hid (HN4.out.trans (in_below hb5))
  have HR5 := Lib.hid (HR4.out.kept hb5)
  clear hb5
  obtain ⟨p0, p1, p2, p3, p4, f0, f1, f2, f3, f4, psz⟩ := HR5.out
  go_wp2_with fail
  exact bodyPost_ret (v := .tuple #[.agg #[.int .i64 2, .int .i64 0, .string (s.extract i (i + 1)), .string ⟨#[]⟩, .slice none 0 0], .iface 57 (.agg #[.int .i64 k5])]) (by simp [results, Try.results42, go_sem, p0, p1, p2, p3, p4, psz]) rfl ⟨_, _, _, _, _, _, _, _, rfl, ⟨_, rfl⟩, put5_in HS.out HN5.out _ _ _ _ _⟩
set_option maxRecDepth 100000 in
set_option maxHeartbeats 4000000 in
theorem file_ok (s : ByteArray) (hs : s.size ≤ 1048576) (p i : Nat) (I O : Int) (hI : I = (i : Int)) (hi : i < s.size) (hO : 1 ≤ O) (hO2 : O ≤ 1048576) (hl : I + O ≤ 1998) (h46 : by8 s (i + 1) = 46) (hsm : sml (by8 s (i + 2)) = true) (w : World) (hp : LR w p s I O) :
    Calls Try.prog 42 #[.pointer (some ⟨p, 0, none⟩)] w fun e w' => PqRet p s O w e w' (some (.node 2 0 (s.extract i (i + 1)) (s.extract (i + 2) (i + 3)) [], i + 3)) := by
  obtain ⟨S, hS⟩ : ∃ S, w.heap.size = S := ⟨_, rfl⟩
  have HS := Lib.hid hS
  obtain ⟨W1, hW1⟩ : ∃ W, w.alloc (.cells #[.int .i64 0, .int .i64 0, .string ⟨#[]⟩, .string ⟨#[]⟩, .slice none 0 0] 24) = W := ⟨_, rfl⟩
  have HW1 := Lib.hid hW1
  have HR1 : Hid (R5 W1 S) := Lib.hid (by rw [← hW1, ← hS]; exact r5_new w _)
  have HB1 : Hid (Below S w W1) := Lib.hid (by rw [← hW1, ← hS]; exact (Below.refl _ _).alloc (Nat.le_refl _) _)
  have hz1 : W1.heap.size = S + 1 := by rw [← hW1, ← hS]; simp
  have hps : p < S := by have := hp.sz; omega
  have HPS := Lib.hid hps
  have HP1 := Lib.hid (hp.kept (by rw [hS]; exact HB1.out))
  have HN1 : Hid (Inside p (p + 1) w W1) := Lib.hid (in_below (by rw [hS]; exact HB1.out))
  have HI := Lib.hid hI
  have HLT := Lib.hid hi
  have HLE : Hid (i ≤ s.size) := Lib.hid (Nat.le_of_lt hi)
  have HI1 : Hid (I + 1 = ((i + 1 : Nat) : Int)) := Lib.hid (by omega)
  have HI2 : Hid (I + 2 = ((i + 2 : Nat) : Int)) := Lib.hid (by omega)
  have HLE1 : Hid (i + 1 ≤ s.size) := Lib.hid hi
  have hO3 : O ≤ 1998 := by omega
  have HL : Hid (I + O + 2 ≤ 2000) := Lib.hid (by omega)
  have HB46 := Lib.hid h46
  have HLT1 : Hid (i + 1 < s.size) := Lib.hid (by8_lt (by omega))
  have HLE2 : Hid (i + 2 ≤ s.size) := Lib.hid HLT1.out
  have HL2 : Hid (I + 1 + (O + 1) ≤ 2000) := Lib.hid (by omega)
  have HL3 : Hid (I + 2 + O + 0 ≤ 2000) := Lib.hid (by omega)
  have HSM := Lib.hid hsm
  have HLT2 : Hid (i + 2 < s.size) := Lib.hid (sml_lt hsm)
  have HI3 : Hid (I + 3 = ((i + 3 : Nat) : Int)) := Lib.hid (by omega)
  clear hI hi hp hl hps hW1 h46 hsm
  go_enter Try.func42, Try.ntmps42
  go_wp2_with fail
  rw [HW1.out]
  try rw [hS]
  go_at_call 40
  refine (take_is _ (by first | rfl | decide) s hs p i I (O) (2) HI.out HLT.out (by omega) (by omega) (by omega) (by omega) HL.out _ HP1.out).mono ?_
  rintro e w2 ⟨rfl, hp2, hn2⟩
  have HP2 := Lib.hid (hp2.at0 (J := I + 1) (Q := O + 1) (by omega) (by omega))
  have HN2 := Lib.hid (HN1.out.trans hn2)
  have HR2 := Lib.hid (HR1.out.inside hn2 HPS.out)
  clear hp2 hn2
  go_wp2_with fail
  go_at_call 47
  refine (point_ok s hs p (i + 1) (I + 1) (O + 1) HI1.out HLT1.out (by omega) (by omega) HL2.out HB46.out _ HP2.out).mono ?_
  rintro e w3 ⟨rfl, hp3, hn3⟩
  have HP3 := Lib.hid (hp3.at0 (J := I + 2) (Q := O) (by omega) (by omega))
  have HN3 := Lib.hid (HN2.out.trans hn3)
  have HR3 := Lib.hid (HR2.out.inside hn3 HPS.out)
  clear hp3 hn3
  go_wp2_with fail
  go_at_call 36
  refine (peek_any s hs p (i + 2) (I + 2) _ HI2.out HLE2.out _ HP3.out).mono ?_
  rintro e w4 ⟨rfl, hb4⟩
  have HP4 := Lib.hid (HP3.out.kept hb4)
  have HN4 := Lib.hid (HN3.out.trans (in_below hb4))
  have HR4 := Lib.hid (HR3.out.kept hb4)
  clear hb4
  go_wp2_with fail
  go_at_call 39
  refine (isValueLetter_any _ _).mono ?_
  rintro e wq ⟨rfl, rfl⟩
  rw [HSM.out]
  go_wp2_with fail
  go_at_call 40
  refine (take_is _ (by first | rfl | decide) s hs p (i + 2) (I + 2) (O) (0) HI2.out HLT2.out (by omega) (by omega) (by omega) (by omega) HL3.out _ HP4.out).mono ?_
  rintro e w5 ⟨rfl, hp5, hn5⟩
  have HP5 := Lib.hid (hp5.at0 (J := I + 3) (Q := O - 1) (by omega) (by omega))
  have HN5 := Lib.hid (HN4.out.trans hn5)
  have HR5 := Lib.hid (HR4.out.inside hn5 HPS.out)
  clear hp5 hn5
  obtain ⟨p0, p1, p2, p3, p4, f0, f1, f2, f3, f4, psz⟩ := HR5.out
  go_wp2_with fail
  exact bodyPost_ret (v := .tuple #[.agg #[.int .i64 2, .int .i64 0, .string (s.extract i (i + 1)), .string (s.extract (i + 2) (i + 3)), .slice none 0 0], .nilIface]) (by simp [results, Try.results42, go_sem, p0, p1, p2, p3, p4, psz]) rfl ⟨.slice none 0 0, rfl, .bare _ _ _ _ _ _ _ _, (put5_lr HP5.out HPS.out _ _ _ _ _).at0 HI3.out rfl, put5_in HS.out HN5.out _ _ _ _ _⟩
theorem nameOfFile_any (s : ByteArray) (hs : s.size ≤ 1048576) (p i : Nat) (I O : Int) (hI : I = (i : Int)) (hi : i < s.size) (hO : 1 ≤ O) (hO2 : O ≤ 1048576) (w : World) (hp : LR w p s I O) :
    Calls Try.prog 42 #[.pointer (some ⟨p, 0, none⟩)] w fun e w' => PqRet p s O w e w' (lim O (pxD s i)) := by
  have hno : ∀ r : Option (Ex × Nat), r = none → (1998 < I + O ∨ by8 s (i + 1) ≠ 46 ∨ sml (by8 s (i + 2)) = false) → lim O (pxD s i) = none := by
    intro r _ h
    unfold pxD
    by_cases h46 : by8 s (i + 1) = 46
    · rw [if_pos h46]
      by_cases hsm : sml (by8 s (i + 2)) = true
      · rw [if_pos hsm]; refine lim_off ?_
        rcases h with h | h | h
        · omega
        · exact absurd h46 h
        · rw [h] at hsm; cases hsm
      · rw [if_neg hsm]; rfl
    · rw [if_neg h46]; rfl
  by_cases h1 : 1998 < I + O
  · exact (file_no1 s hs p i I O hI hi hO hO2 h1 w hp).mono (fun e w' h => h.of (hno none rfl (.inl h1)))
  by_cases h46 : by8 s (i + 1) = 46
  case neg => exact (file_no2 s hs p i I O hI hi hO hO2 (by omega) h46 w hp).mono (fun e w' h => h.of (hno none rfl (.inr (.inl h46))))
  cases hsm : sml (by8 s (i + 2)) with
  | false => exact (file_no3 s hs p i I O hI hi hO hO2 (by omega) h46 hsm w hp).mono (fun e w' h => h.of (hno none rfl (.inr (.inr hsm))))
  | true =>
    refine (file_ok s hs p i I O hI hi hO hO2 (by omega) h46 hsm w hp).mono (fun e w' h => h.of ?_)
    unfold pxD; rw [if_pos h46, if_pos hsm]; exact lim_ok (by omega)

end Go.Proofs.Ytpaefcdchaemfaa
