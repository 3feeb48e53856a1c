/-
  The program's reader: an expression, no deeper than d, for every d up to 12.
  A valid expression is not long: every node has at most eight bytes of its own.
  ParseExpr of the program: the valid expression with which the text ends.
-/
import Derived.Test.YtpaefcdchaemfaaWw
import Derived.Test.YtpaefcdchaemfaaWu
import Derived.Test.YtpaefcdchaemfaaWn
namespace Go.Proofs.Ytpaefcdchaemfaa
open Go.RowKit Go.Proofs.Ytpaefcdchaemfaa.Ox
set_option linter.unusedVariables false
set_option linter.unusedSimpArgs false

/-- exprNode reads as the plain parser does, to a depth. -/
def EnT (s : ByteArray) (d : Nat) : Prop := ∀ (w : World) (p n : Nat) (N O D : Int), D = (d : Int) → N = (n : Int) → n ≤ s.size → 1 ≤ O → O ≤ 3000 → LR w p s N O → Calls Try.prog 28 #[.pointer (some ⟨p, 0, none⟩), .int .i64 D] w fun e w' => PqRet p s O w e w' (lim O (px s d n))
/-- A box of one cell. -/
structure Bx (w : World) (B : Nat) (v : Value) : Prop where
  c0 : w.cell? ⟨B, 0, none⟩ = some v
  sz : B < w.heap.size
theorem Bx.keep {w w' : World} {B : Nat} {v : Value} (h : Bx w B v) (hs : w.heap.size ≤ w'.heap.size) (e : w'.heap[B]? = w.heap[B]?) : Bx w' B v := ⟨(cellEq e).trans h.c0, Nat.lt_of_lt_of_le h.sz hs⟩
theorem Bx.kept {w w' : World} {B : Nat} {v : Value} (h : Bx w B v) (hb : Below w.heap.size w w') : Bx w' B v := h.keep hb.size (hb.block B h.sz)
theorem Bx.inside {w w' : World} {B p : Nat} {v : Value} (h : Bx w B v) (hI : Inside p (p + 1) w w') (hp : p < B) : Bx w' B v := h.keep hI.size (hI.block B h.sz (.inr (by omega)))
theorem bx_new (w : World) (v : Value) (T : TypeId) : Bx (w.alloc (.cells #[v] T)) w.heap.size v := ⟨by go_simp, by simp⟩
theorem put5_inB {w W : World} {B p : Nat} (hB : w.heap.size ≤ B) (h : Inside p (p + 1) w W) (a b c d e : Value) : Inside p (p + 1) w (put5 W B a b c d e) :=
  ((((h.put hB 0 a).put hB 1 b).put hB 2 c).put hB 3 d).put hB 4 e
theorem put5_exB {w W : World} {B lo : Nat} {x : Ex} {v : Value} (hB : w.heap.size ≤ B) (h : ExIn W lo W.heap.size x v) (hlo : B < lo) (a b c d e : Value) : ExIn (put5 W B a b c d e) w.heap.size (put5 W B a b c d e).heap.size x v := by
  refine ExIn.wide (h.keep (by rw [put5_sz]; exact Nat.le_refl _) (fun q h1 _ _ => put5_heap _ _ _ _ _ (by omega))) (by omega) (by rw [put5_sz]; exact Nat.le_refl _)
theorem two_sz (w : World) (a b : Obj) : ((w.alloc a).alloc b).heap.size = w.heap.size + 2 := by simp
theorem one_sz (w : World) (a : Obj) : (w.alloc a).heap.size = w.heap.size + 1 := by simp

set_option maxRecDepth 100000 in
set_option maxHeartbeats 4000000 in
theorem operand_ok (s : ByteArray) (d : Nat) (hd : d ≤ 12) (HIH : Hid (EnT s d)) (p A B n : Nat) (N O D : Int) (hD : D = ((d + 1 : Nat) : Int)) (hN : N = (n : Int)) (hn : n ≤ s.size) (hO : 1 ≤ O) (hO2 : O ≤ 3000) (w : World) (hp : LR w p s N O) (hA : Bx w A (.pointer (some ⟨p, 0, none⟩))) (hB : Bx w B (.int .i64 D)) (x : Ex) (n' : Nat) (HLIM : Hid (lim O (px s d n) = some (x, n'))) :
    Calls Try.prog 45 #[.pointer (some ⟨A, 0, none⟩), .pointer (some ⟨B, 0, none⟩)] w fun e w' => PqRet p s O w e w' (some (x, n')) := by
  obtain ⟨S, hS⟩ : ∃ S, w.heap.size = S := ⟨_, rfl⟩
  have HS := Lib.hid hS
  obtain ⟨W1, hW1⟩ : ∃ W, w.alloc (.cells #[.int .i64 0, .int .i64 0, .string ⟨#[]⟩, .string ⟨#[]⟩, .slice none 0 0] 24) = W := ⟨_, rfl⟩
  have HW1 := Lib.hid hW1
  have HR1 : Hid (R5 W1 S) := Lib.hid (by rw [← hW1, ← hS]; exact r5_new w _)
  have HB1 : Hid (Below S w W1) := Lib.hid (by rw [← hW1, ← hS]; exact (Below.refl _ _).alloc (Nat.le_refl _) _)
  have hz1 : W1.heap.size = S + 1 := by rw [← hW1, ← hS]; simp
  have hps : p < S := by have := hp.sz; omega
  have HPS := Lib.hid hps
  have HP1 := Lib.hid (hp.kept (by rw [hS]; exact HB1.out))
  have HN1 : Hid (Inside p (p + 1) w W1) := Lib.hid (in_below (by rw [hS]; exact HB1.out))
  have a0 : (w.alloc (.cells #[.int .i64 0, .int .i64 0, .string ⟨#[]⟩, .string ⟨#[]⟩, .slice none 0 0] 24)).cell? ⟨A, 0, none⟩ = some (.pointer (some ⟨p, 0, none⟩)) := (hA.kept ((Below.refl _ _).alloc (Nat.le_refl _) _)).c0
  have b0 : (w.alloc (.cells #[.int .i64 0, .int .i64 0, .string ⟨#[]⟩, .string ⟨#[]⟩, .slice none 0 0] 24)).cell? ⟨B, 0, none⟩ = some (.int .i64 D) := (hB.kept ((Below.refl _ _).alloc (Nat.le_refl _) _)).c0
  have s1 : IntKind.i64.wrap (D - 1) = D - 1 := IntWalk.i64_in _ (by omega)
  have HD : Hid (D - 1 = (d : Int)) := Lib.hid (by omega)
  have HNN := Lib.hid hN
  have HNS := Lib.hid hn
  clear hp hA hB hD hN hn hW1
  go_enter Try.func45, Try.ntmps45
  go_wp2_with fail
  rw [HW1.out]
  try rw [hS]
  go_at_call 28
  refine (HIH.out W1 p n N O _ HD.out HNN.out HNS.out hO hO2 HP1.out).mono ?_
  rintro e w3 hx
  rw [HLIM.out] at hx
  obtain ⟨v, rfl, hex, hp3, hn3⟩ := hx
  obtain ⟨xa, xc, rfl, _⟩ := hex.at.slice
  have HEX := Lib.hid hex
  have HP3 := Lib.hid hp3
  have HR3 := Lib.hid (HR1.out.inside hn3 HPS.out)
  have HN3 := Lib.hid (HN1.out.trans hn3)
  have HZ1 := Lib.hid hz1
  clear hex hp3 hn3
  obtain ⟨p0, p1, p2, p3, p4, f0, f1, f2, f3, f4, psz⟩ := HR3.out
  go_wp2_with fail
  exact bodyPost_ret (v := .tuple #[.agg #[.int .i64 x.k, .int .i64 x.n, .string x.m, .string x.s, .slice xa x.ks.length xc], .nilIface]) (by simp [results, Try.results45, go_sem, p0, p1, p2, p3, p4, psz]) rfl ⟨_, rfl, put5_exB (Nat.le_of_eq HS.out) HEX.out (by rw [HZ1.out]; exact Nat.lt_succ_self _) _ _ _ _ _, put5_lr HP3.out HPS.out _ _ _ _ _, put5_in HS.out HN3.out _ _ _ _ _⟩
set_option maxRecDepth 100000 in
set_option maxHeartbeats 4000000 in
theorem operand_no (s : ByteArray) (d : Nat) (hd : d ≤ 12) (HIH : Hid (EnT s d)) (p A B n : Nat) (N O D : Int) (hD : D = ((d + 1 : Nat) : Int)) (hN : N = (n : Int)) (hn : n ≤ s.size) (hO : 1 ≤ O) (hO2 : O ≤ 3000) (w : World) (hp : LR w p s N O) (hA : Bx w A (.pointer (some ⟨p, 0, none⟩))) (hB : Bx w B (.int .i64 D)) (HLIM : Hid (lim O (px s d n) = none)) :
    Calls Try.prog 45 #[.pointer (some ⟨A, 0, none⟩), .pointer (some ⟨B, 0, none⟩)] w fun e w' => PqRet p s O w e w' none := by
  obtain ⟨S, hS⟩ : ∃ S, w.heap.size = S := ⟨_, rfl⟩
  have HS := Lib.hid hS
  obtain ⟨W1, hW1⟩ : ∃ W, w.alloc (.cells #[.int .i64 0, .int .i64 0, .string ⟨#[]⟩, .string ⟨#[]⟩, .slice none 0 0] 24) = W := ⟨_, rfl⟩
  have HW1 := Lib.hid hW1
  have HR1 : Hid (R5 W1 S) := Lib.hid (by rw [← hW1, ← hS]; exact r5_new w _)
  have HB1 : Hid (Below S w W1) := Lib.hid (by rw [← hW1, ← hS]; exact (Below.refl _ _).alloc (Nat.le_refl _) _)
  have hz1 : W1.heap.size = S + 1 := by rw [← hW1, ← hS]; simp
  have hps : p < S := by have := hp.sz; omega
  have HPS := Lib.hid hps
  have HP1 := Lib.hid (hp.kept (by rw [hS]; exact HB1.out))
  have HN1 : Hid (Inside p (p + 1) w W1) := Lib.hid (in_below (by rw [hS]; exact HB1.out))
  have a0 : (w.alloc (.cells #[.int .i64 0, .int .i64 0, .string ⟨#[]⟩, .string ⟨#[]⟩, .slice none 0 0] 24)).cell? ⟨A, 0, none⟩ = some (.pointer (some ⟨p, 0, none⟩)) := (hA.kept ((Below.refl _ _).alloc (Nat.le_refl _) _)).c0
  have b0 : (w.alloc (.cells #[.int .i64 0, .int .i64 0, .string ⟨#[]⟩, .string ⟨#[]⟩, .slice none 0 0] 24)).cell? ⟨B, 0, none⟩ = some (.int .i64 D) := (hB.kept ((Below.refl _ _).alloc (Nat.le_refl _) _)).c0
  have s1 : IntKind.i64.wrap (D - 1) = D - 1 := IntWalk.i64_in _ (by omega)
  have HD : Hid (D - 1 = (d : Int)) := Lib.hid (by omega)
  have HNN := Lib.hid hN
  have HNS := Lib.hid hn
  clear hp hA hB hD hN hn hW1
  go_enter Try.func45, Try.ntmps45
  go_wp2_with fail
  rw [HW1.out]
  try rw [hS]
  go_at_call 28
  refine (HIH.out W1 p n N O _ HD.out HNN.out HNS.out hO hO2 HP1.out).mono ?_
  rintro e w3 hx
  rw [HLIM.out] at hx
  obtain ⟨y1, y2, y3, y4, y5, y6, y7, v7, rfl, ⟨k3, rfl⟩, hn3⟩ := hx
  have HR3 := Lib.hid (HR1.out.inside hn3 HPS.out)
  have HN3 := Lib.hid (HN1.out.trans hn3)
  clear hn3
  obtain ⟨p0, p1, p2, p3, p4, f0, f1, f2, f3, f4, psz⟩ := HR3.out
  go_wp2_with fail
  exact bodyPost_ret (v := .tuple #[.agg #[.int .i64 y1, .int .i64 y2, .string y3, .string y4, .slice y5 y6 y7], .iface 57 (.agg #[.int .i64 k3])]) (by simp [results, Try.results45, go_sem, p0, p1, p2, p3, p4, psz]) rfl ⟨_, _, _, _, _, _, _, _, rfl, ⟨_, rfl⟩, put5_in HS.out HN3.out _ _ _ _ _⟩
theorem operand_any (s : ByteArray) (d : Nat) (hd : d ≤ 12) (HIH : Hid (EnT s d)) (p A B : Nat) (D : Int) (hD : D = ((d + 1 : Nat) : Int)) (w : World) (hA : Bx w A (.pointer (some ⟨p, 0, none⟩))) (hB : Bx w B (.int .i64 D)) (hpA : p < A) (hpB : p < B) : OpT s d p A B w := by
  intro W n N O hI hN hn hO hO2 hp
  have hA' := hA.inside hI hpA
  have hB' := hB.inside hI hpB
  rcases hl : lim O (px s d n) with _ | ⟨x, n'⟩
  · exact operand_no s d hd HIH p A B n N O D hD hN hn hO hO2 W hp hA' hB' (Lib.hid hl)
  · exact operand_ok s d hd HIH p A B n N O D hD hN hn hO hO2 W hp hA' hB' x n' (Lib.hid hl)
set_option maxRecDepth 100000 in
set_option maxHeartbeats 4000000 in
theorem node_0 (s : ByteArray) (hs : s.size ≤ 1048576) (d : Nat) (hd : d ≤ 12) (D : Int) (hD : D = (d : Int)) (p i : Nat) (I O : Int) (hI : I = (i : Int)) (hi : i ≤ s.size) (hO : 1 ≤ O) (hO2 : O ≤ 3000) (w : World) (hp : LR w p s I O) (h0 : d = 0) :
    Calls Try.prog 28 #[.pointer (some ⟨p, 0, none⟩), .int .i64 D] w fun e w' => PqRet p s O w e w' none := by
  obtain ⟨S, hS⟩ : ∃ S, w.heap.size = S := ⟨_, rfl⟩
  have HS := Lib.hid hS
  obtain ⟨W1, hW1⟩ : ∃ W, ((w.alloc (.cells #[.pointer (some ⟨p, 0, none⟩)] 48)).alloc (.cells #[.int .i64 D] 3)).alloc (.cells #[.int .i64 0, .int .i64 0, .string ⟨#[]⟩, .string ⟨#[]⟩, .slice none 0 0] 24) = W := ⟨_, rfl⟩
  have HW1 := Lib.hid hW1
  have hb1 : Below w.heap.size w W1 := by rw [← hW1]; exact (((Below.refl _ _).alloc (Nat.le_refl _) _).alloc (by simp) _).alloc (by simp; omega) _
  have HA1 : Hid (Bx W1 S (.pointer (some ⟨p, 0, none⟩))) := Lib.hid (by rw [← hW1, ← hS]; exact ((bx_new w _ _).kept ((Below.refl _ _).alloc (Nat.le_refl _) _)).kept ((Below.refl _ _).alloc (Nat.le_refl _) _))
  have HB1 : Hid (Bx W1 (S + 1) (.int .i64 D)) := Lib.hid (by
    have h := (bx_new (w.alloc (.cells #[.pointer (some ⟨p, 0, none⟩)] 48)) (.int .i64 D) 3).kept ((Below.refl _ _).alloc (Nat.le_refl _) (.cells #[.int .i64 0, .int .i64 0, .string ⟨#[]⟩, .string ⟨#[]⟩, .slice none 0 0] 24))
    rw [one_sz, hW1, hS] at h; exact h)
  have HR1 : Hid (R5 W1 (S + 1 + 1)) := Lib.hid (by
    have h := r5_new ((w.alloc (.cells #[.pointer (some ⟨p, 0, none⟩)] 48)).alloc (.cells #[.int .i64 D] 3)) 24
    rw [one_sz, one_sz, hW1, hS] at h; exact h)
  have hps : p < S := by have := hp.sz; omega
  have HPS : Hid (p < S + 1 + 1) := Lib.hid (by omega)
  have HSB : Hid (w.heap.size ≤ S + 1 + 1) := Lib.hid (by omega)
  have HP1 := Lib.hid (hp.kept hb1)
  have HN1 : Hid (Inside p (p + 1) w W1) := Lib.hid (in_below hb1)
  have hz1 : W1.heap.size = S + 3 := by rw [← hW1, one_sz, one_sz, one_sz, hS]
  have HI := Lib.hid hI
  have HLE := Lib.hid hi
  have HZ1 := Lib.hid hz1
  have e1 : ¬ p = S + 1 + 1 := by omega
  have e2 : ¬ S + 1 + 1 = p := by omega
  have e3 : ¬ S = S + 1 + 1 := by omega
  have e4 : ¬ S + 1 + 1 = S := by omega
  obtain ⟨c, hc⟩ : ∃ c, by8 s i = c := ⟨_, rfl⟩
  have HC := Lib.hid hc
  subst h0
  obtain rfl : D = 0 := by omega
  clear hI hi hp hps hb1 hW1 hD hc
  go_enter Try.func28, Try.ntmps28
  obtain ⟨a0, az⟩ := HA1.out
  obtain ⟨b0, bz⟩ := HB1.out
  go_wp2_with fail
  rw [HW1.out]
  try rw [hS]
  go_at_call 36
  refine (peek_any s hs p i I O HI.out HLE.out _ HP1.out).mono ?_
  rintro e w2 ⟨rfl, hb2⟩
  rw [HC.out]
  have HA2 := Lib.hid (HA1.out.kept hb2)
  have HB2 := Lib.hid (HB1.out.kept hb2)
  have HR2 := Lib.hid (HR1.out.kept hb2)
  have HP2 := Lib.hid (HP1.out.kept hb2)
  have HN2 := Lib.hid (HN1.out.trans (in_below hb2))
  have HZ2 : Hid (_ ≤ _) := Lib.hid hb2.size
  clear hb2 a0 az b0 bz
  obtain ⟨a0, az⟩ := HA2.out
  obtain ⟨b0, bz⟩ := HB2.out
  obtain ⟨p0, p1, p2, p3, p4, f0, f1, f2, f3, f4, psz⟩ := HR2.out
  obtain ⟨l0, l1, l2, l3, l4, lz⟩ := HP2.out
  go_wp2_with fail
  go_region
  all_goals (try go_wp2_with fail)
  all_goals exact bodyPost_ret (v := .tuple #[.agg #[.int .i64 0, .int .i64 0, .string ⟨#[]⟩, .string ⟨#[]⟩, .slice none 0 0], .iface 57 (.agg #[.int .i64 I])]) (by simp [results, Try.results28, go_sem, p0, p1, p2, p3, p4, psz]) rfl ⟨_, _, _, _, _, _, _, _, rfl, ⟨_, rfl⟩, (put5_inB HSB.out HN2.out _ _ _ _ _).trans (in_below (Below.refl _ _).drew)⟩
set_option maxRecDepth 100000 in
set_option maxHeartbeats 4000000 in
theorem node_dig (s : ByteArray) (hs : s.size ≤ 1048576) (d : Nat) (hd : d ≤ 12) (D : Int) (hD : D = (d : Int)) (p i : Nat) (I O : Int) (hI : I = (i : Int)) (hi : i ≤ s.size) (hO : 1 ≤ O) (hO2 : O ≤ 3000) (w : World) (hp : LR w p s I O) (hd1 : 1 ≤ d) (hlt : i < s.size) (hdg : dig (by8 s i) = true) (r : Rs) (hr : pxN s i = r) :
    Calls Try.prog 28 #[.pointer (some ⟨p, 0, none⟩), .int .i64 D] w fun e w' => PqRet p s O w e w' (lim O r) := by
  obtain ⟨S, hS⟩ : ∃ S, w.heap.size = S := ⟨_, rfl⟩
  have HS := Lib.hid hS
  obtain ⟨W1, hW1⟩ : ∃ W, ((w.alloc (.cells #[.pointer (some ⟨p, 0, none⟩)] 48)).alloc (.cells #[.int .i64 D] 3)).alloc (.cells #[.int .i64 0, .int .i64 0, .string ⟨#[]⟩, .string ⟨#[]⟩, .slice none 0 0] 24) = W := ⟨_, rfl⟩
  have HW1 := Lib.hid hW1
  have hb1 : Below w.heap.size w W1 := by rw [← hW1]; exact (((Below.refl _ _).alloc (Nat.le_refl _) _).alloc (by simp) _).alloc (by simp; omega) _
  have HA1 : Hid (Bx W1 S (.pointer (some ⟨p, 0, none⟩))) := Lib.hid (by rw [← hW1, ← hS]; exact ((bx_new w _ _).kept ((Below.refl _ _).alloc (Nat.le_refl _) _)).kept ((Below.refl _ _).alloc (Nat.le_refl _) _))
  have HB1 : Hid (Bx W1 (S + 1) (.int .i64 D)) := Lib.hid (by
    have h := (bx_new (w.alloc (.cells #[.pointer (some ⟨p, 0, none⟩)] 48)) (.int .i64 D) 3).kept ((Below.refl _ _).alloc (Nat.le_refl _) (.cells #[.int .i64 0, .int .i64 0, .string ⟨#[]⟩, .string ⟨#[]⟩, .slice none 0 0] 24))
    rw [one_sz, hW1, hS] at h; exact h)
  have HR1 : Hid (R5 W1 (S + 1 + 1)) := Lib.hid (by
    have h := r5_new ((w.alloc (.cells #[.pointer (some ⟨p, 0, none⟩)] 48)).alloc (.cells #[.int .i64 D] 3)) 24
    rw [one_sz, one_sz, hW1, hS] at h; exact h)
  have hps : p < S := by have := hp.sz; omega
  have HPS : Hid (p < S + 1 + 1) := Lib.hid (by omega)
  have HSB : Hid (w.heap.size ≤ S + 1 + 1) := Lib.hid (by omega)
  have HP1 := Lib.hid (hp.kept hb1)
  have HN1 : Hid (Inside p (p + 1) w W1) := Lib.hid (in_below hb1)
  have hz1 : W1.heap.size = S + 3 := by rw [← hW1, one_sz, one_sz, one_sz, hS]
  have HI := Lib.hid hI
  have HLE := Lib.hid hi
  have HZ1 := Lib.hid hz1
  have e1 : ¬ p = S + 1 + 1 := by omega
  have e2 : ¬ S + 1 + 1 = p := by omega
  have e3 : ¬ S = S + 1 + 1 := by omega
  have e4 : ¬ S + 1 + 1 = S := by omega
  have hD1 : (D == 0) = false := by rw [beq_eq_false_iff_ne]; omega
  have HLT := Lib.hid hlt
  have HDT := Lib.hid hdg
  have HRR := Lib.hid hr
  obtain ⟨c, hc⟩ : ∃ c, by8 s i = c := ⟨_, rfl⟩
  have HC := Lib.hid hc
  have HDG : Hid (dig c = true) := Lib.hid (by rw [← hc]; exact hdg)
  clear hdg hr hlt
  clear hI hi hp hps hb1 hW1 hD hc
  go_enter Try.func28, Try.ntmps28
  obtain ⟨a0, az⟩ := HA1.out
  obtain ⟨b0, bz⟩ := HB1.out
  go_wp2_with fail
  rw [HW1.out]
  try rw [hS]
  go_at_call 36
  refine (peek_any s hs p i I O HI.out HLE.out _ HP1.out).mono ?_
  rintro e w2 ⟨rfl, hb2⟩
  rw [HC.out]
  have HA2 := Lib.hid (HA1.out.kept hb2)
  have HB2 := Lib.hid (HB1.out.kept hb2)
  have HR2 := Lib.hid (HR1.out.kept hb2)
  have HP2 := Lib.hid (HP1.out.kept hb2)
  have HN2 := Lib.hid (HN1.out.trans (in_below hb2))
  have HZ2 : Hid (_ ≤ _) := Lib.hid hb2.size
  clear hb2 a0 az b0 bz
  obtain ⟨a0, az⟩ := HA2.out
  obtain ⟨b0, bz⟩ := HB2.out
  go_wp2_with fail
  go_at_call 37
  refine (isDigit_any _ _).mono ?_
  rintro e wq ⟨rfl, rfl⟩
  rw [HDG.out]
  go_wp2_with fail
  go_at_call 38
  refine (number_any s hs p i I O HI.out HLT.out hO (by omega) HDT.out _ HP2.out).mono ?_
  rintro e w3 hx
  rw [HRR.out] at hx
  rcases hx with ⟨a, n, hl, rfl, hp3, hn3⟩ | ⟨hl, k3, v3, rfl, ⟨m3, rfl⟩, hn3⟩
  case inl =>
    have HLM := Lib.hid hl
    have HP3 := Lib.hid hp3
    have HR3 := Lib.hid (HR2.out.inside hn3 HPS.out)
    have HN3 := Lib.hid (HN2.out.trans hn3)
    clear hl hp3 hn3 a0 az b0 bz
    obtain ⟨p0, p1, p2, p3, p4, f0, f1, f2, f3, f4, psz⟩ := HR3.out
    go_wp2_with fail
    exact bodyPost_ret (v := .tuple #[.agg #[.int .i64 1, .int .i64 a, .string ⟨#[]⟩, .string ⟨#[]⟩, .slice none 0 0], .nilIface]) (by simp [results, Try.results28, go_sem, p0, p1, p2, p3, p4, psz]) rfl (PqRet.of (r := some (.node 1 a e0 e0 [], n)) ⟨.slice none 0 0, rfl, .bare _ _ _ _ _ _ _ _, put5_lr HP3.out HPS.out _ _ _ _ _, put5_inB HSB.out HN3.out _ _ _ _ _⟩ HLM.out)
  case inr =>
    have HLM := Lib.hid hl
    have HR3 := Lib.hid (HR2.out.inside hn3 HPS.out)
    have HN3 := Lib.hid (HN2.out.trans hn3)
    clear hl hn3 a0 az b0 bz
    obtain ⟨p0, p1, p2, p3, p4, f0, f1, f2, f3, f4, psz⟩ := HR3.out
    go_wp2_with fail
    exact bodyPost_ret (v := .tuple #[.agg #[.int .i64 1, .int .i64 k3, .string ⟨#[]⟩, .string ⟨#[]⟩, .slice none 0 0], .iface 57 (.agg #[.int .i64 m3])]) (by simp [results, Try.results28, go_sem, p0, p1, p2, p3, p4, psz]) rfl (PqRet.of (r := none) ⟨_, _, _, _, _, _, _, _, rfl, ⟨_, rfl⟩, put5_inB HSB.out HN3.out _ _ _ _ _⟩ HLM.out)
set_option maxRecDepth 100000 in
set_option maxHeartbeats 4000000 in
theorem node_sml_ok (s : ByteArray) (hs : s.size ≤ 1048576) (d : Nat) (hd : d ≤ 12) (D : Int) (hD : D = (d : Int)) (p i : Nat) (I O : Int) (hI : I = (i : Int)) (hi : i ≤ s.size) (hO : 1 ≤ O) (hO2 : O ≤ 3000) (w : World) (hp : LR w p s I O) (hd1 : 1 ≤ d) (hlt : i < s.size) (hdg : dig (by8 s i) = false) (hsm : sml (by8 s i) = true) (hl : I + O ≤ 2000) :
    Calls Try.prog 28 #[.pointer (some ⟨p, 0, none⟩), .int .i64 D] w fun e w' => PqRet p s O w e w' (some (.node 2 0 e0 (s.extract i (i + 1)) [], i + 1)) := by
  obtain ⟨S, hS⟩ : ∃ S, w.heap.size = S := ⟨_, rfl⟩
  have HS := Lib.hid hS
  obtain ⟨W1, hW1⟩ : ∃ W, ((w.alloc (.cells #[.pointer (some ⟨p, 0, none⟩)] 48)).alloc (.cells #[.int .i64 D] 3)).alloc (.cells #[.int .i64 0, .int .i64 0, .string ⟨#[]⟩, .string ⟨#[]⟩, .slice none 0 0] 24) = W := ⟨_, rfl⟩
  have HW1 := Lib.hid hW1
  have hb1 : Below w.heap.size w W1 := by rw [← hW1]; exact (((Below.refl _ _).alloc (Nat.le_refl _) _).alloc (by simp) _).alloc (by simp; omega) _
  have HA1 : Hid (Bx W1 S (.pointer (some ⟨p, 0, none⟩))) := Lib.hid (by rw [← hW1, ← hS]; exact ((bx_new w _ _).kept ((Below.refl _ _).alloc (Nat.le_refl _) _)).kept ((Below.refl _ _).alloc (Nat.le_refl _) _))
  have HB1 : Hid (Bx W1 (S + 1) (.int .i64 D)) := Lib.hid (by
    have h := (bx_new (w.alloc (.cells #[.pointer (some ⟨p, 0, none⟩)] 48)) (.int .i64 D) 3).kept ((Below.refl _ _).alloc (Nat.le_refl _) (.cells #[.int .i64 0, .int .i64 0, .string ⟨#[]⟩, .string ⟨#[]⟩, .slice none 0 0] 24))
    rw [one_sz, hW1, hS] at h; exact h)
  have HR1 : Hid (R5 W1 (S + 1 + 1)) := Lib.hid (by
    have h := r5_new ((w.alloc (.cells #[.pointer (some ⟨p, 0, none⟩)] 48)).alloc (.cells #[.int .i64 D] 3)) 24
    rw [one_sz, one_sz, hW1, hS] at h; exact h)
  have hps : p < S := by have := hp.sz; omega
  have HPS : Hid (p < S + 1 + 1) := Lib.hid (by omega)
  have HSB : Hid (w.heap.size ≤ S + 1 + 1) := Lib.hid (by omega)
  have HP1 := Lib.hid (hp.kept hb1)
  have HN1 : Hid (Inside p (p + 1) w W1) := Lib.hid (in_below hb1)
  have hz1 : W1.heap.size = S + 3 := by rw [← hW1, one_sz, one_sz, one_sz, hS]
  have HI := Lib.hid hI
  have HLE := Lib.hid hi
  have HZ1 := Lib.hid hz1
  have e1 : ¬ p = S + 1 + 1 := by omega
  have e2 : ¬ S + 1 + 1 = p := by omega
  have e3 : ¬ S = S + 1 + 1 := by omega
  have e4 : ¬ S + 1 + 1 = S := by omega
  have hD1 : (D == 0) = false := by rw [beq_eq_false_iff_ne]; omega
  have HLT := Lib.hid hlt
  have HL : Hid (I + O + 0 ≤ 2000) := Lib.hid (by omega)
  have HI1 : Hid (I + 1 = ((i + 1 : Nat) : Int)) := Lib.hid (by omega)
  obtain ⟨c, hc⟩ : ∃ c, by8 s i = c := ⟨_, rfl⟩
  have HC := Lib.hid hc
  have HDG : Hid (dig c = false) := Lib.hid (by rw [← hc]; exact hdg)
  have HSM : Hid (sml c = true) := Lib.hid (by rw [← hc]; exact hsm)
  clear hdg hsm hlt
  clear hI hi hp hps hb1 hW1 hD hc
  go_enter Try.func28, Try.ntmps28
  obtain ⟨a0, az⟩ := HA1.out
  obtain ⟨b0, bz⟩ := HB1.out
  go_wp2_with fail
  rw [HW1.out]
  try rw [hS]
  go_at_call 36
  refine (peek_any s hs p i I O HI.out HLE.out _ HP1.out).mono ?_
  rintro e w2 ⟨rfl, hb2⟩
  rw [HC.out]
  have HA2 := Lib.hid (HA1.out.kept hb2)
  have HB2 := Lib.hid (HB1.out.kept hb2)
  have HR2 := Lib.hid (HR1.out.kept hb2)
  have HP2 := Lib.hid (HP1.out.kept hb2)
  have HN2 := Lib.hid (HN1.out.trans (in_below hb2))
  have HZ2 : Hid (_ ≤ _) := Lib.hid hb2.size
  clear hb2 a0 az b0 bz
  obtain ⟨a0, az⟩ := HA2.out
  obtain ⟨b0, bz⟩ := HB2.out
  go_wp2_with fail
  go_at_call 37
  refine (isDigit_any _ _).mono ?_
  rintro e wq ⟨rfl, rfl⟩
  rw [HDG.out]
  go_wp2_with fail
  go_at_call 39
  refine (isValueLetter_any _ _).mono ?_
  rintro e wq ⟨rfl, rfl⟩
  rw [HSM.out]
  go_wp2_with fail
  go_at_call 40
  refine (take_is _ rfl s hs p i I O 0 HI.out HLT.out (by omega) (by omega) (by omega) (by omega) HL.out _ HP2.out).mono ?_
  rintro e w3 ⟨rfl, hp3, hn3⟩
  have HP3 := Lib.hid (hp3.at0 (J := I + 1) (Q := O - 1) rfl (by omega))
  have HR3 := Lib.hid (HR2.out.inside hn3 HPS.out)
  have HN3 := Lib.hid (HN2.out.trans hn3)
  clear hp3 hn3 a0 az b0 bz
  obtain ⟨p0, p1, p2, p3, p4, f0, f1, f2, f3, f4, psz⟩ := HR3.out
  go_wp2_with fail
  exact bodyPost_ret (v := .tuple #[.agg #[.int .i64 2, .int .i64 0, .string ⟨#[]⟩, .string (s.extract i (i + 1)), .slice none 0 0], .nilIface]) (by simp [results, Try.results28, go_sem, p0, p1, p2, p3, p4, psz]) rfl ⟨.slice none 0 0, rfl, .bare _ _ _ _ _ _ _ _, (put5_lr HP3.out HPS.out _ _ _ _ _).at0 HI1.out rfl, put5_inB HSB.out HN3.out _ _ _ _ _⟩
set_option maxRecDepth 100000 in
set_option maxHeartbeats 4000000 in
theorem node_sml_no (s : ByteArray) (hs : s.size ≤ 1048576) (d : Nat) (hd : d ≤ 12) (D : Int) (hD : D = (d : Int)) (p i : Nat) (I O : Int) (hI : I = (i : Int)) (hi : i ≤ s.size) (hO : 1 ≤ O) (hO2 : O ≤ 3000) (w : World) (hp : LR w p s I O) (hd1 : 1 ≤ d) (hdg : dig (by8 s i) = false) (hsm : sml (by8 s i) = true) (hl : 2000 < I + O) :
    Calls Try.prog 28 #[.pointer (some ⟨p, 0, none⟩), .int .i64 D] w fun e w' => PqRet p s O w e w' none := by
  obtain ⟨S, hS⟩ : ∃ S, w.heap.size = S := ⟨_, rfl⟩
  have HS := Lib.hid hS
  obtain ⟨W1, hW1⟩ : ∃ W, ((w.alloc (.cells #[.pointer (some ⟨p, 0, none⟩)] 48)).alloc (.cells #[.int .i64 D] 3)).alloc (.cells #[.int .i64 0, .int .i64 0, .string ⟨#[]⟩, .string ⟨#[]⟩, .slice none 0 0] 24) = W := ⟨_, rfl⟩
  have HW1 := Lib.hid hW1
  have hb1 : Below w.heap.size w W1 := by rw [← hW1]; exact (((Below.refl _ _).alloc (Nat.le_refl _) _).alloc (by simp) _).alloc (by simp; omega) _
  have HA1 : Hid (Bx W1 S (.pointer (some ⟨p, 0, none⟩))) := Lib.hid (by rw [← hW1, ← hS]; exact ((bx_new w _ _).kept ((Below.refl _ _).alloc (Nat.le_refl _) _)).kept ((Below.refl _ _).alloc (Nat.le_refl _) _))
  have HB1 : Hid (Bx W1 (S + 1) (.int .i64 D)) := Lib.hid (by
    have h := (bx_new (w.alloc (.cells #[.pointer (some ⟨p, 0, none⟩)] 48)) (.int .i64 D) 3).kept ((Below.refl _ _).alloc (Nat.le_refl _) (.cells #[.int .i64 0, .int .i64 0, .string ⟨#[]⟩, .string ⟨#[]⟩, .slice none 0 0] 24))
    rw [one_sz, hW1, hS] at h; exact h)
  have HR1 : Hid (R5 W1 (S + 1 + 1)) := Lib.hid (by
    have h := r5_new ((w.alloc (.cells #[.pointer (some ⟨p, 0, none⟩)] 48)).alloc (.cells #[.int .i64 D] 3)) 24
    rw [one_sz, one_sz, hW1, hS] at h; exact h)
  have hps : p < S := by have := hp.sz; omega
  have HPS : Hid (p < S + 1 + 1) := Lib.hid (by omega)
  have HSB : Hid (w.heap.size ≤ S + 1 + 1) := Lib.hid (by omega)
  have HP1 := Lib.hid (hp.kept hb1)
  have HN1 : Hid (Inside p (p + 1) w W1) := Lib.hid (in_below hb1)
  have hz1 : W1.heap.size = S + 3 := by rw [← hW1, one_sz, one_sz, one_sz, hS]
  have HI := Lib.hid hI
  have HLE := Lib.hid hi
  have HZ1 := Lib.hid hz1
  have e1 : ¬ p = S + 1 + 1 := by omega
  have e2 : ¬ S + 1 + 1 = p := by omega
  have e3 : ¬ S = S + 1 + 1 := by omega
  have e4 : ¬ S + 1 + 1 = S := by omega
  have hD1 : (D == 0) = false := by rw [beq_eq_false_iff_ne]; omega
  have HL : Hid (2000 < I + O + 0) := Lib.hid (by omega)
  obtain ⟨c, hc⟩ : ∃ c, by8 s i = c := ⟨_, rfl⟩
  have HC := Lib.hid hc
  have HDG : Hid (dig c = false) := Lib.hid (by rw [← hc]; exact hdg)
  have HSM : Hid (sml c = true) := Lib.hid (by rw [← hc]; exact hsm)
  clear hdg hsm
  clear hI hi hp hps hb1 hW1 hD hc
  go_enter Try.func28, Try.ntmps28
  obtain ⟨a0, az⟩ := HA1.out
  obtain ⟨b0, bz⟩ := HB1.out
  go_wp2_with fail
  rw [HW1.out]
  try rw [hS]
  go_at_call 36
  refine (peek_any s hs p i I O HI.out HLE.out _ HP1.out).mono ?_
  rintro e w2 ⟨rfl, hb2⟩
  rw [HC.out]
  have HA2 := Lib.hid (HA1.out.kept hb2)
  have HB2 := Lib.hid (HB1.out.kept hb2)
  have HR2 := Lib.hid (HR1.out.kept hb2)
  have HP2 := Lib.hid (HP1.out.kept hb2)
  have HN2 := Lib.hid (HN1.out.trans (in_below hb2))
  have HZ2 : Hid (_ ≤ _) := Lib.hid hb2.size
  clear hb2 a0 az b0 bz
  obtain ⟨a0, az⟩ := HA2.out
  obtain ⟨b0, bz⟩ := HB2.out
  go_wp2_with fail
  go_at_call 37
  refine (isDigit_any _ _).mono ?_
  rintro e wq ⟨rfl, rfl⟩
  rw [HDG.out]
  go_wp2_with fail
  go_at_call 39
  refine (isValueLetter_any _ _).mono ?_
  rintro e wq ⟨rfl, rfl⟩
  rw [HSM.out]
  go_wp2_with fail
  go_at_call 40
  refine (take_no s hs p i I O 0 _ HI.out HLE.out (by omega) (by omega) (by omega) (by omega) (.inr HL.out) _ HP2.out).mono ?_
  rintro e w3 ⟨v3, rfl, ⟨m3, rfl⟩, hb3⟩
  have hn3 := in_below (lo := p) (hi := p + 1) hb3
  have HR3 := Lib.hid (HR2.out.inside hn3 HPS.out)
  have HN3 := Lib.hid (HN2.out.trans hn3)
  clear hb3 hn3 a0 az b0 bz
  obtain ⟨p0, p1, p2, p3, p4, f0, f1, f2, f3, f4, psz⟩ := HR3.out
  go_wp2_with fail
  exact bodyPost_ret (v := .tuple #[.agg #[.int .i64 2, .int .i64 0, .string ⟨#[]⟩, .string ⟨#[]⟩, .slice none 0 0], .iface 57 (.agg #[.int .i64 m3])]) (by simp [results, Try.results28, go_sem, p0, p1, p2, p3, p4, psz]) rfl ⟨_, _, _, _, _, _, _, _, rfl, ⟨_, rfl⟩, put5_inB HSB.out HN3.out _ _ _ _ _⟩
set_option maxRecDepth 100000 in
set_option maxHeartbeats 4000000 in
theorem node_big (s : ByteArray) (hs : s.size ≤ 1048576) (d : Nat) (hd : d ≤ 12) (D : Int) (hD : D = (d : Int)) (p i : Nat) (I O : Int) (hI : I = (i : Int)) (hi : i ≤ s.size) (hO : 1 ≤ O) (hO2 : O ≤ 3000) (w : World) (hp : LR w p s I O) (hd1 : 1 ≤ d) (hlt : i < s.size) (hdg : dig (by8 s i) = false) (hsm : sml (by8 s i) = false) (hbg : bigL (by8 s i) = true) (r : Rs) (hr : pxD s i = r) :
    Calls Try.prog 28 #[.pointer (some ⟨p, 0, none⟩), .int .i64 D] w fun e w' => PqRet p s O w e w' (lim O r) := by
  obtain ⟨S, hS⟩ : ∃ S, w.heap.size = S := ⟨_, rfl⟩
  have HS := Lib.hid hS
  obtain ⟨W1, hW1⟩ : ∃ W, ((w.alloc (.cells #[.pointer (some ⟨p, 0, none⟩)] 48)).alloc (.cells #[.int .i64 D] 3)).alloc (.cells #[.int .i64 0, .int .i64 0, .string ⟨#[]⟩, .string ⟨#[]⟩, .slice none 0 0] 24) = W := ⟨_, rfl⟩
  have HW1 := Lib.hid hW1
  have hb1 : Below w.heap.size w W1 := by rw [← hW1]; exact (((Below.refl _ _).alloc (Nat.le_refl _) _).alloc (by simp) _).alloc (by simp; omega) _
  have HA1 : Hid (Bx W1 S (.pointer (some ⟨p, 0, none⟩))) := Lib.hid (by rw [← hW1, ← hS]; exact ((bx_new w _ _).kept ((Below.refl _ _).alloc (Nat.le_refl _) _)).kept ((Below.refl _ _).alloc (Nat.le_refl _) _))
  have HB1 : Hid (Bx W1 (S + 1) (.int .i64 D)) := Lib.hid (by
    have h := (bx_new (w.alloc (.cells #[.pointer (some ⟨p, 0, none⟩)] 48)) (.int .i64 D) 3).kept ((Below.refl _ _).alloc (Nat.le_refl _) (.cells #[.int .i64 0, .int .i64 0, .string ⟨#[]⟩, .string ⟨#[]⟩, .slice none 0 0] 24))
    rw [one_sz, hW1, hS] at h; exact h)
  have HR1 : Hid (R5 W1 (S + 1 + 1)) := Lib.hid (by
    have h := r5_new ((w.alloc (.cells #[.pointer (some ⟨p, 0, none⟩)] 48)).alloc (.cells #[.int .i64 D] 3)) 24
    rw [one_sz, one_sz, hW1, hS] at h; exact h)
  have hps : p < S := by have := hp.sz; omega
  have HPS : Hid (p < S + 1 + 1) := Lib.hid (by omega)
  have HSB : Hid (w.heap.size ≤ S + 1 + 1) := Lib.hid (by omega)
  have HP1 := Lib.hid (hp.kept hb1)
  have HN1 : Hid (Inside p (p + 1) w W1) := Lib.hid (in_below hb1)
  have hz1 : W1.heap.size = S + 3 := by rw [← hW1, one_sz, one_sz, one_sz, hS]
  have HI := Lib.hid hI
  have HLE := Lib.hid hi
  have HZ1 := Lib.hid hz1
  have e1 : ¬ p = S + 1 + 1 := by omega
  have e2 : ¬ S + 1 + 1 = p := by omega
  have e3 : ¬ S = S + 1 + 1 := by omega
  have e4 : ¬ S + 1 + 1 = S := by omega
  have hD1 : (D == 0) = false := by rw [beq_eq_false_iff_ne]; omega
  have HLT := Lib.hid hlt
  have HRR := Lib.hid hr
  obtain ⟨c, hc⟩ : ∃ c, by8 s i = c := ⟨_, rfl⟩
  have HC := Lib.hid hc
  have HDG : Hid (dig c = false) := Lib.hid (by rw [← hc]; exact hdg)
  have HSM : Hid (sml c = false) := Lib.hid (by rw [← hc]; exact hsm)
  have HBG : Hid (bigL c = true) := Lib.hid (by rw [← hc]; exact hbg)
  clear hdg hsm hbg hr hlt
  clear hI hi hp hps hb1 hW1 hD hc
  go_enter Try.func28, Try.ntmps28
  obtain ⟨a0, az⟩ := HA1.out
  obtain ⟨b0, bz⟩ := HB1.out
  go_wp2_with fail
  rw [HW1.out]
  try rw [hS]
  go_at_call 36
  refine (peek_any s hs p i I O HI.out HLE.out _ HP1.out).mono ?_
  rintro e w2 ⟨rfl, hb2⟩
  rw [HC.out]
  have HA2 := Lib.hid (HA1.out.kept hb2)
  have HB2 := Lib.hid (HB1.out.kept hb2)
  have HR2 := Lib.hid (HR1.out.kept hb2)
  have HP2 := Lib.hid (HP1.out.kept hb2)
  have HN2 := Lib.hid (HN1.out.trans (in_below hb2))
  have HZ2 : Hid (_ ≤ _) := Lib.hid hb2.size
  clear hb2 a0 az b0 bz
  obtain ⟨a0, az⟩ := HA2.out
  obtain ⟨b0, bz⟩ := HB2.out
  go_wp2_with fail
  go_at_call 37
  refine (isDigit_any _ _).mono ?_
  rintro e wq ⟨rfl, rfl⟩
  rw [HDG.out]
  go_wp2_with fail
  go_at_call 39
  refine (isValueLetter_any _ _).mono ?_
  rintro e wq ⟨rfl, rfl⟩
  rw [HSM.out]
  go_wp2_with fail
  go_at_call 41
  refine (isFileLetter_any _ _).mono ?_
  rintro e wq ⟨rfl, rfl⟩
  rw [HBG.out]
  go_wp2_with fail
  go_at_call 42
  refine (nameOfFile_any s hs p i I O HI.out HLT.out hO (by omega) _ HP2.out).mono ?_
  rintro e w3 hx
  rw [HRR.out] at hx
  rcases hl : lim O r with _ | ⟨x, n⟩
  case none =>
    have HLM := Lib.hid hl
    rw [hl] at hx
    obtain ⟨y1, y2, y3, y4, y5, y6, y7, v3, rfl, ⟨m3, rfl⟩, hn3⟩ := hx
    have HR3 := Lib.hid (HR2.out.inside hn3 HPS.out)
    have HN3 := Lib.hid (HN2.out.trans hn3)
    clear hl hn3 a0 az b0 bz
    obtain ⟨p0, p1, p2, p3, p4, f0, f1, f2, f3, f4, psz⟩ := HR3.out
    go_wp2_with fail
    exact bodyPost_ret (v := .tuple #[.agg #[.int .i64 y1, .int .i64 y2, .string y3, .string y4, .slice y5 y6 y7], .iface 57 (.agg #[.int .i64 m3])]) (by simp [results, Try.results28, go_sem, p0, p1, p2, p3, p4, psz]) rfl (PqRet.of (r := none) ⟨_, _, _, _, _, _, _, _, rfl, ⟨_, rfl⟩, put5_inB HSB.out HN3.out _ _ _ _ _⟩ HLM.out)
  case some =>
    have HLM := Lib.hid hl
    rw [hl] at hx
    obtain ⟨v, rfl, hex, hp3, hn3⟩ := hx
    obtain ⟨xa, xc, rfl, _⟩ := hex.at.slice
    have HEX := Lib.hid hex
    have HP3 := Lib.hid hp3
    have HR3 := Lib.hid (HR2.out.inside hn3 HPS.out)
    have HN3 := Lib.hid (HN2.out.trans hn3)
    have HZ3 : Hid (S + 1 + 1 < _) := Lib.hid HR2.out.sz
    clear hl hex hp3 hn3 a0 az b0 bz
    obtain ⟨p0, p1, p2, p3, p4, f0, f1, f2, f3, f4, psz⟩ := HR3.out
    go_wp2_with fail
    exact bodyPost_ret (v := .tuple #[.agg #[.int .i64 x.k, .int .i64 x.n, .string x.m, .string x.s, .slice xa x.ks.length xc], .nilIface]) (by simp [results, Try.results28, go_sem, p0, p1, p2, p3, p4, psz]) rfl (PqRet.of (r := some (x, n)) ⟨_, rfl, put5_exB HSB.out HEX.out HZ3.out _ _ _ _ _, put5_lr HP3.out HPS.out _ _ _ _ _, put5_inB HSB.out HN3.out _ _ _ _ _⟩ HLM.out)
theorem begin_two (c : Int) : fk ⟨#[]⟩ c ≠ 0 → 2 ≤ (formX (fk ⟨#[]⟩ c)).size := by
  rw [fk_begin]
  by_cases g : c = 40; · subst g; intro _; decide
  by_cases g : c = 92; · subst g; intro _; decide
  by_cases g : c = 123; · subst g; intro _; decide
  by_cases g : c = 63; · subst g; intro _; decide
  by_cases g : c = 94; · subst g; intro _; decide
  by_cases g : c = 95; · subst g; intro _; decide
  intro h
  exact absurd (by simp only [*, eq_comm (b := c), if_false]) h
set_option maxRecDepth 100000 in
set_option maxHeartbeats 4000000 in
theorem node_form (s : ByteArray) (hs : s.size ≤ 1048576) (d : Nat) (hd : d ≤ 12) (D : Int) (hD : D = (d : Int)) (p i : Nat) (I O : Int) (hI : I = (i : Int)) (hi : i ≤ s.size) (hO : 1 ≤ O) (hO2 : O ≤ 3000) (w : World) (hp : LR w p s I O) (hd1 : 1 ≤ d) (d1 : Nat) (hdd : d = d1 + 1) (HIH : Hid (EnT s d1)) (hdg : dig (by8 s i) = false) (hsm : sml (by8 s i) = false) (hbg : bigL (by8 s i) = false) (R : Option (Int × ByteArray × List Ex × Nat))
    (hR : (if fk ⟨#[]⟩ (by8 s i) ≠ 0 ∧ (i : Int) + O + ((formX (fk ⟨#[]⟩ (by8 s i))).size - 1 : Nat) ≤ 2000 then rf (fun n O => lim O (px s d1 n)) s ((formX (fk ⟨#[]⟩ (by8 s i))).size - 1) (fk ⟨#[]⟩ (by8 s i)) 1 e0 [] (i + 1) (O - 1 + ((formX (fk ⟨#[]⟩ (by8 s i))).size - 1 : Nat)) else none) = R) :
    Calls Try.prog 28 #[.pointer (some ⟨p, 0, none⟩), .int .i64 D] w fun e w' => PqRet p s O w e w' (R.map frm) := by
  obtain ⟨S, hS⟩ : ∃ S, w.heap.size = S := ⟨_, rfl⟩
  have HS := Lib.hid hS
  obtain ⟨W1, hW1⟩ : ∃ W, ((w.alloc (.cells #[.pointer (some ⟨p, 0, none⟩)] 48)).alloc (.cells #[.int .i64 D] 3)).alloc (.cells #[.int .i64 0, .int .i64 0, .string ⟨#[]⟩, .string ⟨#[]⟩, .slice none 0 0] 24) = W := ⟨_, rfl⟩
  have HW1 := Lib.hid hW1
  have hb1 : Below w.heap.size w W1 := by rw [← hW1]; exact (((Below.refl _ _).alloc (Nat.le_refl _) _).alloc (by simp) _).alloc (by simp; omega) _
  have HA1 : Hid (Bx W1 S (.pointer (some ⟨p, 0, none⟩))) := Lib.hid (by rw [← hW1, ← hS]; exact ((bx_new w _ _).kept ((Below.refl _ _).alloc (Nat.le_refl _) _)).kept ((Below.refl _ _).alloc (Nat.le_refl _) _))
  have HB1 : Hid (Bx W1 (S + 1) (.int .i64 D)) := Lib.hid (by
    have h := (bx_new (w.alloc (.cells #[.pointer (some ⟨p, 0, none⟩)] 48)) (.int .i64 D) 3).kept ((Below.refl _ _).alloc (Nat.le_refl _) (.cells #[.int .i64 0, .int .i64 0, .string ⟨#[]⟩, .string ⟨#[]⟩, .slice none 0 0] 24))
    rw [one_sz, hW1, hS] at h; exact h)
  have HR1 : Hid (R5 W1 (S + 1 + 1)) := Lib.hid (by
    have h := r5_new ((w.alloc (.cells #[.pointer (some ⟨p, 0, none⟩)] 48)).alloc (.cells #[.int .i64 D] 3)) 24
    rw [one_sz, one_sz, hW1, hS] at h; exact h)
  have hps : p < S := by have := hp.sz; omega
  have HPS : Hid (p < S + 1 + 1) := Lib.hid (by omega)
  have HSB : Hid (w.heap.size ≤ S + 1 + 1) := Lib.hid (by omega)
  have HP1 := Lib.hid (hp.kept hb1)
  have HN1 : Hid (Inside p (p + 1) w W1) := Lib.hid (in_below hb1)
  have hz1 : W1.heap.size = S + 3 := by rw [← hW1, one_sz, one_sz, one_sz, hS]
  have HI := Lib.hid hI
  have HLE := Lib.hid hi
  have HZ1 := Lib.hid hz1
  have e1 : ¬ p = S + 1 + 1 := by omega
  have e2 : ¬ S + 1 + 1 = p := by omega
  have e3 : ¬ S = S + 1 + 1 := by omega
  have e4 : ¬ S + 1 + 1 = S := by omega
  have hD1 : (D == 0) = false := by rw [beq_eq_false_iff_ne]; omega
  have HRR := Lib.hid hR
  obtain ⟨c, hc⟩ : ∃ c, by8 s i = c := ⟨_, rfl⟩
  have HC := Lib.hid hc
  have HDG : Hid (dig c = false) := Lib.hid (by rw [← hc]; exact hdg)
  have HSM : Hid (sml c = false) := Lib.hid (by rw [← hc]; exact hsm)
  have HBG : Hid (bigL c = false) := Lib.hid (by rw [← hc]; exact hbg)
  have HDD : Hid (D = ((d1 + 1 : Nat) : Int)) := Lib.hid (by omega)
  have HD12 : Hid (d1 ≤ 12) := Lib.hid (by omega)
  have HPA : Hid (p < S ∧ p < S + 1) := Lib.hid (by omega)
  clear hdg hsm hbg hR hdd
  clear hI hi hp hps hb1 hW1 hD hc
  go_enter Try.func28, Try.ntmps28
  obtain ⟨a0, az⟩ := HA1.out
  obtain ⟨b0, bz⟩ := HB1.out
  go_wp2_with fail
  rw [HW1.out]
  try rw [hS]
  go_at_call 36
  refine (peek_any s hs p i I O HI.out HLE.out _ HP1.out).mono ?_
  rintro e w2 ⟨rfl, hb2⟩
  rw [HC.out]
  have HA2 := Lib.hid (HA1.out.kept hb2)
  have HB2 := Lib.hid (HB1.out.kept hb2)
  have HR2 := Lib.hid (HR1.out.kept hb2)
  have HP2 := Lib.hid (HP1.out.kept hb2)
  have HN2 := Lib.hid (HN1.out.trans (in_below hb2))
  have HZ2 : Hid (_ ≤ _) := Lib.hid hb2.size
  clear hb2 a0 az b0 bz
  obtain ⟨a0, az⟩ := HA2.out
  obtain ⟨b0, bz⟩ := HB2.out
  go_wp2_with fail
  go_at_call 37
  refine (isDigit_any _ _).mono ?_
  rintro e wq ⟨rfl, rfl⟩
  rw [HDG.out]
  go_wp2_with fail
  go_at_call 39
  refine (isValueLetter_any _ _).mono ?_
  rintro e wq ⟨rfl, rfl⟩
  rw [HSM.out]
  go_wp2_with fail
  go_at_call 41
  refine (isFileLetter_any _ _).mono ?_
  rintro e wq ⟨rfl, rfl⟩
  rw [HBG.out]
  go_wp2_with fail
  go_at_call 43
  refine (readForm_any s hs d1 p S (S + 1) i I O HI.out HLE.out hO hO2 _ HP2.out (operand_any s d1 HD12.out HIH p S (S + 1) D HDD.out _ HA2.out HB2.out HPA.out.1 HPA.out.2) _ _ _ rfl rfl rfl (fun h => begin_two _ h) R HRR.out).mono ?_
  rintro e w3 hx
  rcases hl : R with _ | ⟨k, m, xs, n⟩
  case none =>
    have HLM : Hid (R.map frm = none) := Lib.hid (by rw [hl]; rfl)
    rw [hl] at hx
    obtain ⟨y1, y2, y3, y4, y5, v3, rfl, ⟨m3, rfl⟩, hn3⟩ := hx
    have HR3 := Lib.hid (HR2.out.inside hn3 HPS.out)
    have HN3 := Lib.hid (HN2.out.trans hn3)
    have hb4 : Below w3.heap.size w3 (w3.alloc (.cells #[.int .i64 y1, .string y2, .slice y3 y4 y5] 64)) := (Below.refl _ _).alloc (Nat.le_refl _) _
    have HR4 := Lib.hid (HR3.out.kept hb4)
    have HN4 := Lib.hid (HN3.out.trans (in_below hb4))
    clear hl hn3 hb4 a0 az b0 bz
    obtain ⟨p0, p1, p2, p3, p4, f0, f1, f2, f3, f4, psz⟩ := HR4.out
    go_wp2_with fail
    exact bodyPost_ret (v := .tuple #[.agg #[.int .i64 y1, .int .i64 0, .string ⟨#[]⟩, .string y2, .slice y3 y4 y5], .iface 57 (.agg #[.int .i64 m3])]) (by simp [results, Try.results28, go_sem, p0, p1, p2, p3, p4, psz]) rfl (PqRet.of (r := none) ⟨_, _, _, _, _, _, _, _, rfl, ⟨_, rfl⟩, put5_inB HSB.out HN4.out _ _ _ _ _⟩ HLM.out)
  case some =>
    have HLM : Hid (R.map frm = some (.node k 0 e0 m xs, n)) := Lib.hid (by rw [hl]; rfl)
    rw [hl] at hx
    obtain ⟨v, rfl, hex, hp3, hn3⟩ := hx
    obtain ⟨xa, xc, rfl, _⟩ := hex.at.slice
    have HEX := Lib.hid hex
    have HP3 := Lib.hid hp3
    have HR3 := Lib.hid (HR2.out.inside hn3 HPS.out)
    have HN3 := Lib.hid (HN2.out.trans hn3)
    have HZ3 : Hid (S + 1 + 1 < _) := Lib.hid HR2.out.sz
    have hb4 : Below w3.heap.size w3 (w3.alloc (.cells #[.int .i64 k, .string m, .slice xa (Ex.node k 0 e0 m xs).ks.length xc] 64)) := (Below.refl _ _).alloc (Nat.le_refl _) _
    have HR4 := Lib.hid (HR3.out.kept hb4)
    have HN4 := Lib.hid (HN3.out.trans (in_below hb4))
    have HP4 := Lib.hid (HP3.out.kept hb4)
    have HEX4 := Lib.hid ((HEX.out.kept hb4).wide (Nat.le_refl _) hb4.size)
    clear hl hex hp3 hn3 hb4 a0 az b0 bz
    obtain ⟨p0, p1, p2, p3, p4, f0, f1, f2, f3, f4, psz⟩ := HR4.out
    go_wp2_with fail
    exact bodyPost_ret (v := .tuple #[.agg #[.int .i64 k, .int .i64 0, .string ⟨#[]⟩, .string m, .slice xa (Ex.node k 0 e0 m xs).ks.length xc], .nilIface]) (by simp [results, Try.results28, go_sem, p0, p1, p2, p3, p4, psz]) rfl (PqRet.of (r := some (.node k 0 e0 m xs, n)) ⟨_, rfl, put5_exB HSB.out HEX4.out HZ3.out _ _ _ _ _, put5_lr HP4.out HPS.out _ _ _ _ _, put5_inB HSB.out HN4.out _ _ _ _ _⟩ HLM.out)
theorem exprNode_any (s : ByteArray) (hs : s.size ≤ 1048576) : ∀ d, d ≤ 12 → EnT s d := by
  intro d
  induction d with
  | zero =>
    intro _ w p n N O D hD hN hn hO hO2 hp
    exact node_0 s hs 0 (by omega) D hD p n N O hN hn hO hO2 w hp rfl
  | succ d ih =>
    intro hd w p n N O D hD hN hn hO hO2 hp
    have HIH := Lib.hid (ih (by omega))
    cases g1 : dig (by8 s n) with
    | true =>
      have hlt := dig_lt g1
      refine (node_dig s hs (d + 1) hd D hD p n N O hN hn hO hO2 w hp (by omega) hlt g1 _ rfl).mono (fun e w' h => h.of ?_)
      rw [px, if_pos hlt, if_pos g1]
    | false =>
    cases g2 : sml (by8 s n) with
    | true =>
      have hlt := sml_lt g2
      have hpx : px s (d + 1) n = .ok (.node 2 0 e0 (s.extract n (n + 1)) []) (n + 1) := by rw [px, if_pos hlt, if_neg (by rw [g1]; exact Bool.false_ne_true), if_pos g2]
      rw [hpx]
      by_cases hl : N + O ≤ 2000
      · exact (node_sml_ok s hs (d + 1) hd D hD p n N O hN hn hO hO2 w hp (by omega) hlt g1 g2 hl).mono (fun e w' h => h.of (lim_ok (by omega)))
      · exact (node_sml_no s hs (d + 1) hd D hD p n N O hN hn hO hO2 w hp (by omega) g1 g2 (by omega)).mono (fun e w' h => h.of (lim_off (by omega)))
    | false =>
    cases g3 : bigL (by8 s n) with
    | true =>
      have hlt : n < s.size := by8_lt (fun e => by rw [e] at g3; cases g3)
      refine (node_big s hs (d + 1) hd D hD p n N O hN hn hO hO2 w hp (by omega) hlt g1 g2 g3 _ rfl).mono (fun e w' h => h.of ?_)
      rw [px, if_pos hlt, if_neg (by rw [g1]; exact Bool.false_ne_true), if_neg (by rw [g2]; exact Bool.false_ne_true), if_pos g3]
    | false =>
    refine (node_form s hs (d + 1) hd D hD p n N O hN hn hO hO2 w hp (by omega) d rfl HIH g1 g2 g3 _ rfl).mono (fun e w' h => h.of ?_)
    by_cases hlt : n < s.size
    · rw [lim_form s d n O hlt g1 g2 g3 _ rfl (fun h => by have := begin_two _ h; omega)]
      by_cases hc : fk ⟨#[]⟩ (by8 s n) ≠ 0 ∧ (n : Int) + O + ((formX (fk ⟨#[]⟩ (by8 s n))).size - 1 : Nat) ≤ 2000
      · rw [if_pos hc, if_pos hc]
      · rw [if_neg hc, if_neg hc]; rfl
    · have h0 : ¬ fk ⟨#[]⟩ (by8 s n) ≠ 0 := fun h => hlt (fk_lt h)
      rw [if_neg (fun h => h0 h.1), px, if_neg hlt]
      rfl

end Go.Proofs.Ytpaefcdchaemfaa

namespace Go.Proofs.Ytpaefcdchaemfaa
open Go.RowKit Go.Proofs.Ytpaefcdchaemfaa.Ox
set_option linter.unusedVariables false
set_option linter.unusedSimpArgs false

theorem rf0_le {f : Nat → Rs} {s : ByteArray} {g : Ex → Nat} (hf : ∀ i x n, f i = .ok x n → n ≤ i + 8 * g x) : ∀ (r : Nat) (k : Int) (j : Nat) (m : ByteArray) (xs : List Ex) (n : Nat) (q : Int × ByteArray × List Ex × Nat), rf0 f s r k j m xs n = some q → q.2.2.2 + 8 * (xs.map g).sum ≤ n + r + 8 * (q.2.2.1.map g).sum
  | 0, k, j, m, xs, n, q, h => by simp only [rf0] at h; injection h with h; subst h; exact Nat.le_refl _
  | r + 1, k, j, m, xs, n, q, h => by
    rw [rf0] at h
    split at h
    · split at h
      · have := rf0_le hf r _ _ _ _ _ q h; omega
      · cases h
    · split at h
      · cases hx : f n with
        | no e => rw [hx] at h; cases h
        | ok x n' =>
          rw [hx] at h
          have h1 := hf n x n' hx
          have h2 := rf0_le hf r _ _ _ _ _ q h
          rw [List.map_append, List.sum_append] at h2
          simp only [List.map_cons, List.map_nil, List.sum_cons, List.sum_nil] at h2
          omega
      · split at h
        · have := rf0_le hf r _ _ _ _ _ q h; omega
        · cases h
theorem form9' (k : Int) : (formX k).size ≤ 8 := by
  unfold formX
  by_cases h : k = 3; · subst h; decide
  by_cases h : k = 4; · subst h; decide
  by_cases h : k = 5; · subst h; decide
  by_cases h : k = 6; · subst h; decide
  by_cases h : k = 7; · subst h; decide
  by_cases h : k = 8; · subst h; decide
  by_cases h : k = 9; · subst h; decide
  by_cases h : k = 10; · subst h; decide
  simp only [*, if_false]
  decide
theorem nd_sum (d : Nat) (k n : Int) (m s : ByteArray) (ks : List Ex) : ndX (d + 1) (.node k n m s ks) = 1 + (ks.map (ndX d)).sum := by
  show 1 + ((List.range ks.length).map fun i => ndX d (ks.getD i Ex.dummy)).sum = _
  congr 2
  apply List.ext_getElem (by simp)
  intro i h1 h2
  simp at h1 h2
  simp [List.getD, h1]
theorem opt_of {r : Rs} {x : Ex} {n : Nat} (h : r = .ok x n) : r.opt = some (x, n) := by rw [h]; rfl
theorem px_le (s : ByteArray) : ∀ (d i : Nat) (x : Ex) (n : Nat), px s d i = .ok x n → n ≤ i + 8 * ndX d x := by
  intro d
  induction d with
  | zero => intro i x n h; cases h
  | succ d ih =>
    intro i x n h
    have h1 : 1 ≤ ndX (d + 1) x := by cases x; rw [nd_sum]; omega
    have small : ∀ (y : Ex) (b : Nat), b ≤ i + 3 → (Rs.ok y b) = .ok x n → n ≤ i + 8 * ndX (d + 1) x := by
      intro y b hb e
      injection e with e1 e2
      omega
    have hp := h
    rw [px] at h
    by_cases hi : i < s.size
    case neg => rw [if_neg hi] at h; cases h
    rw [if_pos hi] at h
    cases g1 : dig (by8 s i) with
    | true =>
      rw [if_pos g1] at h
      unfold pxN at h
      split at h
      · exact small _ _ (by omega) h
      · exact small _ _ (by omega) h
    | false =>
    cases g2 : sml (by8 s i) with
    | true => rw [if_neg (by rw [g1]; exact Bool.false_ne_true), if_pos g2] at h; exact small _ _ (by omega) h
    | false =>
    cases g3 : bigL (by8 s i) with
    | true =>
      rw [if_neg (by rw [g1]; exact Bool.false_ne_true), if_neg (by rw [g2]; exact Bool.false_ne_true), if_pos g3] at h
      unfold pxD at h
      split at h
      · split at h
        · exact small _ _ (by omega) h
        · cases h
      · cases h
    | false =>
    have ho := px_form s d i hi g1 g2 g3
    rw [opt_of hp] at ho
    by_cases hk : fk ⟨#[]⟩ (by8 s i) ≠ 0
    case neg => rw [if_neg hk] at ho; cases ho
    rw [if_pos hk] at ho
    cases hq : rf0 (px s d) s ((formX (fk ⟨#[]⟩ (by8 s i))).size - 1) (fk ⟨#[]⟩ (by8 s i)) 1 e0 [] (i + 1) with
    | none => rw [hq] at ho; cases ho
    | some q =>
      rw [hq] at ho
      obtain ⟨a, b, c, N⟩ := q
      have hle := rf0_le (g := ndX d) (fun i x n h => ih i x n h) _ _ _ _ _ _ _ hq
      simp only [List.map_nil, List.sum_nil] at hle
      have e : (x, n) = (Ex.node a 0 e0 b c, N) := by
        have h2 : some (x, n) = some (frm (a, b, c, N)) := ho
        injection h2
      injection e with e1 e2
      subst e1 e2
      rw [nd_sum]
      have hz : (formX (fk ⟨#[]⟩ (by8 s i))).size ≤ 8 := by
        have h9 := form9' (fk ⟨#[]⟩ (by8 s i))
        exact h9
      omega
/-- What ParseExpr answers, with the bytes that are owed. -/
theorem pxE_lim (s : ByteArray) : pxE s = match lim 1 (px s 12 0) with
    | some (x, n) => if n = s.size ∧ okX 12 x = true then some x else none
    | none => none := by
  unfold pxE
  cases hp : px s 12 0 with
  | no k => rfl
  | ok x n =>
    by_cases hl : (n : Int) + 1 ≤ 2001
    · rw [lim_ok hl]
    · rw [lim_off (by omega)]
      refine if_neg (fun h => ?_)
      have h1 := (okX_iff.1 h.2).2
      have h2 := px_le s 12 0 x n hp
      omega

end Go.Proofs.Ytpaefcdchaemfaa

namespace Go.Proofs.Ytpaefcdchaemfaa
open Go.RowKit Go.Proofs.Ytpaefcdchaemfaa.Ox
set_option linter.unusedVariables false
set_option linter.unusedSimpArgs false

set_option maxHeartbeats 2000000 in
theorem end_ok (s : ByteArray) (hs : s.size ≤ 1048576) (p : Nat) (I O : Int) (hI : I = (s.size : Int)) (w : World) (hp : LR w p s I O) :
    Calls Try.prog 29 #[.pointer (some ⟨p, 0, none⟩), .bool true] w fun e w' => e = .returned .nilIface ∧ Below w.heap.size w w' := by
  obtain ⟨c0, c1, c2, f1, f2, sz⟩ := hp
  have h1 : decide (I < (s.size : Int)) = false := decide_eq_false (by omega)
  clear hI
  go_enter Try.func29, Try.ntmps29
  go_wp2_with fail
  go_quiet (fail)
  try go_wp2_with fail
  go_ret
  exact ⟨rfl, below_drewN (Below.refl _ _) _⟩
set_option maxHeartbeats 2000000 in
theorem end_off (s : ByteArray) (hs : s.size ≤ 1048576) (p : Nat) (I O : Int) (b : Bool) (hI : I < (s.size : Int)) (w : World) (hp : LR w p s I O) :
    Calls Try.prog 29 #[.pointer (some ⟨p, 0, none⟩), .bool b] w fun e w' => ∃ v, e = .returned v ∧ Mis v ∧ Below w.heap.size w w' := by
  obtain ⟨c0, c1, c2, f1, f2, sz⟩ := hp
  have h1 : decide (I < (s.size : Int)) = true := decide_eq_true hI
  go_enter Try.func29, Try.ntmps29
  go_wp2_with fail
  go_quiet (fail)
  try go_wp2_with fail
  go_ret
  exact ⟨_, rfl, ⟨_, rfl⟩, below_drewN (Below.refl _ _) _⟩
set_option maxHeartbeats 2000000 in
theorem end_bad (s : ByteArray) (hs : s.size ≤ 1048576) (p : Nat) (I O : Int) (hI : I = (s.size : Int)) (w : World) (hp : LR w p s I O) :
    Calls Try.prog 29 #[.pointer (some ⟨p, 0, none⟩), .bool false] w fun e w' => ∃ v, e = .returned v ∧ Mis v ∧ Below w.heap.size w w' := by
  obtain ⟨c0, c1, c2, f1, f2, sz⟩ := hp
  have h1 : decide (I < (s.size : Int)) = false := decide_eq_false (by omega)
  clear hI
  go_enter Try.func29, Try.ntmps29
  go_wp2_with fail
  go_quiet (fail)
  try go_wp2_with fail
  go_ret
  exact ⟨_, rfl, ⟨_, rfl⟩, below_drewN (Below.refl _ _) _⟩
theorem end_no (s : ByteArray) (hs : s.size ≤ 1048576) (p : Nat) (I O : Int) (b : Bool) (hI : I ≤ (s.size : Int)) (h : ¬ (I = (s.size : Int) ∧ b = true)) (w : World) (hp : LR w p s I O) :
    Calls Try.prog 29 #[.pointer (some ⟨p, 0, none⟩), .bool b] w fun e w' => ∃ v, e = .returned v ∧ Mis v ∧ Below w.heap.size w w' := by
  by_cases h1 : I < (s.size : Int)
  · exact end_off s hs p I O b h1 w hp
  · cases b with
    | true => exact absurd ⟨by omega, rfl⟩ h
    | false => exact end_bad s hs p I O (by omega) w hp
/-- What wholeExpr returns. -/
def WeRet (p : Nat) (w : World) (e : Ending) (w' : World) : Option Ex → Prop
  | some x => ∃ v, e = .returned (.tuple #[.agg #[.int .i64 x.k, .int .i64 x.n, .string x.m, .string x.s, v], .nilIface]) ∧ ExIn w' w.heap.size w'.heap.size x v ∧ Inside p (p + 1) w w'
  | none => ∃ v, e = .returned (.tuple #[.agg #[.int .i64 0, .int .i64 0, .string ⟨#[]⟩, .string ⟨#[]⟩, .slice none 0 0], v]) ∧ Mis v ∧ Inside p (p + 1) w w'
theorem WeRet.of {p : Nat} {w w' : World} {e : Ending} {r r' : Option Ex} (h : WeRet p w e w' r) (hr : r' = r) : WeRet p w e w' r' := by rw [hr]; exact h
set_option maxRecDepth 100000 in
set_option maxHeartbeats 4000000 in
theorem whole_none (s : ByteArray) (hs : s.size ≤ 1048576) (p : Nat) (w : World) (hp : LR w p s 0 1) (HLIM : Hid (lim 1 (px s 12 0) = none)) :
    Calls Try.prog 11 #[.pointer (some ⟨p, 0, none⟩)] w fun e w' => WeRet p w e w' none := by
  obtain ⟨S, hS⟩ : ∃ S, w.heap.size = S := ⟨_, rfl⟩
  have HS := Lib.hid hS
  obtain ⟨W1, hW1⟩ : ∃ W, w.alloc (.cells #[.int .i64 0, .int .i64 0, .string ⟨#[]⟩, .string ⟨#[]⟩, .slice none 0 0] 24) = W := ⟨_, rfl⟩
  have HW1 := Lib.hid hW1
  have HR1 : Hid (R5 W1 S) := Lib.hid (by rw [← hW1, ← hS]; exact r5_new w _)
  have HB1 : Hid (Below S w W1) := Lib.hid (by rw [← hW1, ← hS]; exact (Below.refl _ _).alloc (Nat.le_refl _) _)
  have hz1 : W1.heap.size = S + 1 := by rw [← hW1, ← hS]; simp
  have hps : p < S := by have := hp.sz; omega
  have HPS := Lib.hid hps
  have HP1 := Lib.hid (hp.kept (by rw [hS]; exact HB1.out))
  have HN1 : Hid (Inside p (p + 1) w W1) := Lib.hid (in_below (by rw [hS]; exact HB1.out))
  have HEN := Lib.hid (exprNode_any s hs 12 (Nat.le_refl _))
  have HZ1 := Lib.hid hz1
  clear hp hW1
  go_enter Try.func11, Try.ntmps11
  go_wp2_with fail
  rw [HW1.out]
  try rw [hS]
  go_at_call 28
  refine (HEN.out W1 p 0 0 1 12 rfl rfl (Nat.zero_le _) (by omega) (by omega) HP1.out).mono ?_
  rintro e w3 hx
  rw [HLIM.out] at hx
  obtain ⟨y1, y2, y3, y4, y5, y6, y7, v7, rfl, ⟨k3, rfl⟩, hn3⟩ := hx
  have HR3 := Lib.hid (HR1.out.inside hn3 HPS.out)
  have HN3 := Lib.hid (HN1.out.trans hn3)
  have hb4 : Below w3.heap.size w3 (w3.alloc (.cells #[.int .i64 y1, .int .i64 y2, .string y3, .string y4, .slice y5 y6 y7] 24)) := (Below.refl _ _).alloc (Nat.le_refl _) _
  have HR4 := Lib.hid (HR3.out.kept hb4)
  have HN4 := Lib.hid (HN3.out.trans (in_below hb4))
  clear hb4 hn3
  obtain ⟨p0, p1, p2, p3, p4, f0, f1, f2, f3, f4, psz⟩ := HR4.out
  go_wp2_with fail
  exact bodyPost_ret (v := .tuple #[.agg #[.int .i64 0, .int .i64 0, .string ⟨#[]⟩, .string ⟨#[]⟩, .slice none 0 0], .iface 57 (.agg #[.int .i64 k3])]) (by simp [results, Try.results11, go_sem, p0, p1, p2, p3, p4, psz]) rfl ⟨_, rfl, ⟨_, rfl⟩, put5_in HS.out HN4.out _ _ _ _ _⟩
set_option maxRecDepth 100000 in
set_option maxHeartbeats 4000000 in
theorem whole_ok (s : ByteArray) (hs : s.size ≤ 1048576) (p : Nat) (w : World) (hp : LR w p s 0 1) (x : Ex) (n : Nat) (HLIM : Hid (lim 1 (px s 12 0) = some (x, n))) (hn : (n : Int) = (s.size : Int)) (HV : Hid (okX 12 x = true)) :
    Calls Try.prog 11 #[.pointer (some ⟨p, 0, none⟩)] w fun e w' => WeRet p w e w' (some x) := by
  obtain ⟨S, hS⟩ : ∃ S, w.heap.size = S := ⟨_, rfl⟩
  have HS := Lib.hid hS
  obtain ⟨W1, hW1⟩ : ∃ W, w.alloc (.cells #[.int .i64 0, .int .i64 0, .string ⟨#[]⟩, .string ⟨#[]⟩, .slice none 0 0] 24) = W := ⟨_, rfl⟩
  have HW1 := Lib.hid hW1
  have HR1 : Hid (R5 W1 S) := Lib.hid (by rw [← hW1, ← hS]; exact r5_new w _)
  have HB1 : Hid (Below S w W1) := Lib.hid (by rw [← hW1, ← hS]; exact (Below.refl _ _).alloc (Nat.le_refl _) _)
  have hz1 : W1.heap.size = S + 1 := by rw [← hW1, ← hS]; simp
  have hps : p < S := by have := hp.sz; omega
  have HPS := Lib.hid hps
  have HP1 := Lib.hid (hp.kept (by rw [hS]; exact HB1.out))
  have HN1 : Hid (Inside p (p + 1) w W1) := Lib.hid (in_below (by rw [hS]; exact HB1.out))
  have HEN := Lib.hid (exprNode_any s hs 12 (Nat.le_refl _))
  have HZ1 := Lib.hid hz1
  clear hp hW1
  go_enter Try.func11, Try.ntmps11
  go_wp2_with fail
  rw [HW1.out]
  try rw [hS]
  go_at_call 28
  refine (HEN.out W1 p 0 0 1 12 rfl rfl (Nat.zero_le _) (by omega) (by omega) HP1.out).mono ?_
  rintro e w3 hx
  rw [HLIM.out] at hx
  obtain ⟨v, rfl, hex, hp3, hn3⟩ := hx
  obtain ⟨xa, xc, rfl, _⟩ := hex.at.slice
  have HEX := Lib.hid hex
  have HP3 := Lib.hid hp3
  have HR3 := Lib.hid (HR1.out.inside hn3 HPS.out)
  have HN3 := Lib.hid (HN1.out.trans hn3)
  obtain ⟨E, hE⟩ : ∃ E, w3.heap.size = E := ⟨_, rfl⟩
  obtain ⟨W4, hW4⟩ : ∃ W, w3.alloc (.cells #[.int .i64 x.k, .int .i64 x.n, .string x.m, .string x.s, .slice xa x.ks.length xc] 24) = W := ⟨_, rfl⟩
  have hb4 : Below w3.heap.size w3 W4 := by rw [← hW4]; exact (Below.refl _ _).alloc (Nat.le_refl _) _
  have HBX4 := Lib.hid (ebox_new w3 (.int .i64 x.k) (.int .i64 x.n) (.string x.m) (.string x.s) (.slice xa x.ks.length xc) 24)
  rw [hW4, hE] at HBX4
  have HR4 := Lib.hid (HR3.out.kept hb4)
  have HP4 := Lib.hid (HP3.out.kept hb4)
  have HN4 := Lib.hid (HN3.out.trans (in_below hb4))
  have HEX4 := Lib.hid ((HEX.out.kept hb4).wide (Nat.le_refl _) hb4.size)
  have HW4 := Lib.hid hW4
  have HSE : Hid (¬ E = S) := Lib.hid (by have := HR3.out.sz; omega)
  clear hex hp3 hn3 hb4 hW4
  obtain ⟨b0, b1, b2, b3, b4, bz⟩ := HBX4.out
  go_wp2_with fail
  rw [HW4.out]
  try rw [hE]
  go_at_call 30
  refine (exprValid_impl x _ _ HEX4.out.at).mono ?_
  rintro e w5 ⟨rfl, hb5⟩
  have HBX5 := Lib.hid (HBX4.out.kept hb5)
  have HR5 := Lib.hid (HR4.out.kept hb5)
  have HP5 := Lib.hid (HP4.out.kept hb5)
  have HN5 := Lib.hid (HN4.out.trans (in_below hb5))
  have HEX5 := Lib.hid ((HEX4.out.kept hb5).wide (Nat.le_refl _) hb5.size)
  clear hb5 b0 b1 b2 b3 b4 bz
  go_wp2_with fail
  go_at_call 29
  rw [HV.out]
  refine (end_ok s hs p n _ hn _ HP5.out).mono ?_
  rintro e w6 ⟨rfl, hb6⟩
  have HBX6 := Lib.hid (HBX5.out.kept hb6)
  have HR6 := Lib.hid (HR5.out.kept hb6)
  have HN6 := Lib.hid (HN5.out.trans (in_below hb6))
  have HEX6 := Lib.hid ((HEX5.out.kept hb6).wide (Nat.le_refl _) hb6.size)
  clear hb6
  have hse := HSE.out
  have hse2 : ¬ S = E := fun h => hse h.symm
  obtain ⟨b0, b1, b2, b3, b4, bz⟩ := HBX6.out
  obtain ⟨p0, p1, p2, p3, p4, f0, f1, f2, f3, f4, psz⟩ := HR6.out
  go_wp2_with fail
  exact bodyPost_ret (v := .tuple #[.agg #[.int .i64 x.k, .int .i64 x.n, .string x.m, .string x.s, .slice xa x.ks.length xc], .nilIface]) (by simp [results, Try.results11, go_sem, p0, p1, p2, p3, p4, psz]) rfl ⟨_, rfl, put5_exB (Nat.le_of_eq HS.out) HEX6.out (by rw [HZ1.out]; exact Nat.lt_succ_self _) _ _ _ _ _, put5_in HS.out HN6.out _ _ _ _ _⟩
set_option maxRecDepth 100000 in
set_option maxHeartbeats 4000000 in
theorem whole_no (s : ByteArray) (hs : s.size ≤ 1048576) (p : Nat) (w : World) (hp : LR w p s 0 1) (x : Ex) (n : Nat) (HLIM : Hid (lim 1 (px s 12 0) = some (x, n))) (hnz : (n : Int) ≤ (s.size : Int)) (b : Bool) (HV : Hid (okX 12 x = b)) (hn : ¬ ((n : Int) = (s.size : Int) ∧ b = true)) :
    Calls Try.prog 11 #[.pointer (some ⟨p, 0, none⟩)] w fun e w' => WeRet p w e w' none := by
  obtain ⟨S, hS⟩ : ∃ S, w.heap.size = S := ⟨_, rfl⟩
  have HS := Lib.hid hS
  obtain ⟨W1, hW1⟩ : ∃ W, w.alloc (.cells #[.int .i64 0, .int .i64 0, .string ⟨#[]⟩, .string ⟨#[]⟩, .slice none 0 0] 24) = W := ⟨_, rfl⟩
  have HW1 := Lib.hid hW1
  have HR1 : Hid (R5 W1 S) := Lib.hid (by rw [← hW1, ← hS]; exact r5_new w _)
  have HB1 : Hid (Below S w W1) := Lib.hid (by rw [← hW1, ← hS]; exact (Below.refl _ _).alloc (Nat.le_refl _) _)
  have hz1 : W1.heap.size = S + 1 := by rw [← hW1, ← hS]; simp
  have hps : p < S := by have := hp.sz; omega
  have HPS := Lib.hid hps
  have HP1 := Lib.hid (hp.kept (by rw [hS]; exact HB1.out))
  have HN1 : Hid (Inside p (p + 1) w W1) := Lib.hid (in_below (by rw [hS]; exact HB1.out))
  have HEN := Lib.hid (exprNode_any s hs 12 (Nat.le_refl _))
  have HZ1 := Lib.hid hz1
  clear hp hW1
  go_enter Try.func11, Try.ntmps11
  go_wp2_with fail
  rw [HW1.out]
  try rw [hS]
  go_at_call 28
  refine (HEN.out W1 p 0 0 1 12 rfl rfl (Nat.zero_le _) (by omega) (by omega) HP1.out).mono ?_
  rintro e w3 hx
  rw [HLIM.out] at hx
  obtain ⟨v, rfl, hex, hp3, hn3⟩ := hx
  obtain ⟨xa, xc, rfl, _⟩ := hex.at.slice
  have HEX := Lib.hid hex
  have HP3 := Lib.hid hp3
  have HR3 := Lib.hid (HR1.out.inside hn3 HPS.out)
  have HN3 := Lib.hid (HN1.out.trans hn3)
  obtain ⟨E, hE⟩ : ∃ E, w3.heap.size = E := ⟨_, rfl⟩
  obtain ⟨W4, hW4⟩ : ∃ W, w3.alloc (.cells #[.int .i64 x.k, .int .i64 x.n, .string x.m, .string x.s, .slice xa x.ks.length xc] 24) = W := ⟨_, rfl⟩
  have hb4 : Below w3.heap.size w3 W4 := by rw [← hW4]; exact (Below.refl _ _).alloc (Nat.le_refl _) _
  have HBX4 := Lib.hid (ebox_new w3 (.int .i64 x.k) (.int .i64 x.n) (.string x.m) (.string x.s) (.slice xa x.ks.length xc) 24)
  rw [hW4, hE] at HBX4
  have HR4 := Lib.hid (HR3.out.kept hb4)
  have HP4 := Lib.hid (HP3.out.kept hb4)
  have HN4 := Lib.hid (HN3.out.trans (in_below hb4))
  have HEX4 := Lib.hid ((HEX.out.kept hb4).wide (Nat.le_refl _) hb4.size)
  have HW4 := Lib.hid hW4
  have HSE : Hid (¬ E = S) := Lib.hid (by have := HR3.out.sz; omega)
  clear hex hp3 hn3 hb4 hW4
  obtain ⟨b0, b1, b2, b3, b4, bz⟩ := HBX4.out
  go_wp2_with fail
  rw [HW4.out]
  try rw [hE]
  go_at_call 30
  refine (exprValid_impl x _ _ HEX4.out.at).mono ?_
  rintro e w5 ⟨rfl, hb5⟩
  have HBX5 := Lib.hid (HBX4.out.kept hb5)
  have HR5 := Lib.hid (HR4.out.kept hb5)
  have HP5 := Lib.hid (HP4.out.kept hb5)
  have HN5 := Lib.hid (HN4.out.trans (in_below hb5))
  have HEX5 := Lib.hid ((HEX4.out.kept hb5).wide (Nat.le_refl _) hb5.size)
  clear hb5 b0 b1 b2 b3 b4 bz
  go_wp2_with fail
  go_at_call 29
  rw [HV.out]
  refine (end_no s hs p n _ b hnz hn _ HP5.out).mono ?_
  rintro e w6 ⟨v6, rfl, ⟨k6, rfl⟩, hb6⟩
  have HBX6 := Lib.hid (HBX5.out.kept hb6)
  have HR6 := Lib.hid (HR5.out.kept hb6)
  have HN6 := Lib.hid (HN5.out.trans (in_below hb6))
  have HEX6 := Lib.hid ((HEX5.out.kept hb6).wide (Nat.le_refl _) hb6.size)
  clear hb6
  obtain ⟨p0, p1, p2, p3, p4, f0, f1, f2, f3, f4, psz⟩ := HR6.out
  go_wp2_with fail
  exact bodyPost_ret (v := .tuple #[.agg #[.int .i64 0, .int .i64 0, .string ⟨#[]⟩, .string ⟨#[]⟩, .slice none 0 0], .iface 57 (.agg #[.int .i64 k6])]) (by simp [results, Try.results11, go_sem, p0, p1, p2, p3, p4, psz]) rfl ⟨_, rfl, ⟨_, rfl⟩, put5_in HS.out HN6.out _ _ _ _ _⟩
theorem wholeExpr_any (s : ByteArray) (hs : s.size ≤ 1048576) (p : Nat) (w : World) (hp : LR w p s 0 1) : Calls Try.prog 11 #[.pointer (some ⟨p, 0, none⟩)] w fun e w' => WeRet p w e w' (pxE s) := by
  rw [pxE_lim]
  rcases hl : lim 1 (px s 12 0) with _ | ⟨x, n⟩
  · exact whole_none s hs p w hp (Lib.hid hl)
  · have hn := (lim_in (Nat.zero_le _) hl).2.1
    show Calls _ _ _ _ fun e w' => WeRet p w e w' (if n = s.size ∧ okX 12 x = true then some x else none)
    by_cases h : n = s.size ∧ okX 12 x = true
    · rw [if_pos h]; exact whole_ok s hs p w hp x n (Lib.hid hl) (by omega) (Lib.hid h.2)
    · rw [if_neg h]; exact whole_no s hs p w hp x n (Lib.hid hl) (by omega) _ (Lib.hid rfl) (fun h2 => h ⟨by omega, h2.2⟩)
theorem lr_new (w : World) (s : ByteArray) (I O : Int) (T : TypeId) : LR (w.alloc (.cells #[.string s, .int .i64 I, .int .i64 O] T)) w.heap.size s I O := ⟨by go_simp, by go_simp, by go_simp, by go_simp, by go_simp, by simp⟩
set_option maxRecDepth 100000 in
set_option maxHeartbeats 4000000 in
theorem parse_none (s : ByteArray) (hs : s.size ≤ 1048576) (HX : Hid (pxE s = none)) (w : World) : Calls Try.prog 5 #[.string s] w fun e w' => PeRet w e w' none := by
  obtain ⟨S, hS⟩ : ∃ S, w.heap.size = S := ⟨_, rfl⟩
  have HS := Lib.hid hS
  obtain ⟨W1, hW1⟩ : ∃ W, w.alloc (.cells #[.int .i64 0, .int .i64 0, .string ⟨#[]⟩, .string ⟨#[]⟩, .slice none 0 0] 24) = W := ⟨_, rfl⟩
  have HW1 := Lib.hid hW1
  have HR1 : Hid (R5 W1 S) := Lib.hid (by rw [← hW1, ← hS]; exact r5_new w _)
  have HB1 : Hid (Below S w W1) := Lib.hid (by rw [← hW1, ← hS]; exact (Below.refl _ _).alloc (Nat.le_refl _) _)
  have hz1 : W1.heap.size = S + 1 := by rw [← hW1, ← hS]; simp
  obtain ⟨W2, hW2⟩ : ∃ W, W1.alloc (.cells #[.string s, .int .i64 0, .int .i64 1] 34) = W := ⟨_, rfl⟩
  have hb2 : Below W1.heap.size W1 W2 := by rw [← hW2]; exact (Below.refl _ _).alloc (Nat.le_refl _) _
  have HP2 : Hid (LR W2 (S + 1) s 0 1) := Lib.hid (by have h := lr_new W1 s 0 1 34; rw [hW2, hz1] at h; exact h)
  have HR2 := Lib.hid (HR1.out.kept hb2)
  have HB2 := Lib.hid (HB1.out.trans (hb2.mono (by omega)))
  have HZ2 : Hid (S + 1 < W2.heap.size) := Lib.hid HP2.out.sz
  have HW2 := Lib.hid hW2
  have HZ1 := Lib.hid hz1
  have HWE := Lib.hid (wholeExpr_any s hs (S + 1) W2 HP2.out)
  clear hW2 hb2 hz1
  go_enter Try.func5, Try.ntmps5
  go_wp2_with fail
  rw [HW2.out]
  rw [HZ1.out]
  try rw [hS]
  go_at_call 11
  refine HWE.out.mono ?_
  rintro e w3 hx
  rw [HX.out] at hx
  obtain ⟨v3, rfl, ⟨k3, rfl⟩, hn3⟩ := hx
  have HB3 : Hid (Below S w w3) := Lib.hid (hn3.below (B := S) (by omega) HB2.out (by have := HZ2.out; omega))
  have HR3 := Lib.hid (HR2.out.keep hn3.size (hn3.block S HR2.out.sz (.inl (by omega))))
  have hb4 : Below w3.heap.size w3 (w3.alloc (.cells #[.int .i64 0, .int .i64 0, .string ⟨#[]⟩, .string ⟨#[]⟩, .slice none 0 0] 24)) := (Below.refl _ _).alloc (Nat.le_refl _) _
  have HR4 := Lib.hid (HR3.out.kept hb4)
  have HB4 := Lib.hid (HB3.out.trans (hb4.mono (by have := HR3.out.sz; omega)))
  have hse : ¬ w3.heap.size = S := by have := HR3.out.sz; omega
  have hse2 : ¬ S = w3.heap.size := fun h => hse h.symm
  clear hb4 hn3
  obtain ⟨p0, p1, p2, p3, p4, f0, f1, f2, f3, f4, psz⟩ := HR4.out
  go_wp2_with fail
  go_region
  all_goals (try go_wp2_with fail)
  all_goals exact bodyPost_ret (v := .tuple #[.agg #[.int .i64 0, .int .i64 0, .string ⟨#[]⟩, .string ⟨#[]⟩, .slice none 0 0], .bool false]) (by simp [results, Try.results5, go_sem, p0, p1, p2, p3, p4, psz]) rfl ⟨rfl, (below5 HS.out HB4.out _ _ _ _ _).drew⟩
set_option maxRecDepth 100000 in
set_option maxHeartbeats 4000000 in
theorem parse_some (s : ByteArray) (hs : s.size ≤ 1048576) (x : Ex) (HX : Hid (pxE s = some x)) (w : World) : Calls Try.prog 5 #[.string s] w fun e w' => PeRet w e w' (some x) := by
  obtain ⟨S, hS⟩ : ∃ S, w.heap.size = S := ⟨_, rfl⟩
  have HS := Lib.hid hS
  obtain ⟨W1, hW1⟩ : ∃ W, w.alloc (.cells #[.int .i64 0, .int .i64 0, .string ⟨#[]⟩, .string ⟨#[]⟩, .slice none 0 0] 24) = W := ⟨_, rfl⟩
  have HW1 := Lib.hid hW1
  have HR1 : Hid (R5 W1 S) := Lib.hid (by rw [← hW1, ← hS]; exact r5_new w _)
  have HB1 : Hid (Below S w W1) := Lib.hid (by rw [← hW1, ← hS]; exact (Below.refl _ _).alloc (Nat.le_refl _) _)
  have hz1 : W1.heap.size = S + 1 := by rw [← hW1, ← hS]; simp
  obtain ⟨W2, hW2⟩ : ∃ W, W1.alloc (.cells #[.string s, .int .i64 0, .int .i64 1] 34) = W := ⟨_, rfl⟩
  have hb2 : Below W1.heap.size W1 W2 := by rw [← hW2]; exact (Below.refl _ _).alloc (Nat.le_refl _) _
  have HP2 : Hid (LR W2 (S + 1) s 0 1) := Lib.hid (by have h := lr_new W1 s 0 1 34; rw [hW2, hz1] at h; exact h)
  have HR2 := Lib.hid (HR1.out.kept hb2)
  have HB2 := Lib.hid (HB1.out.trans (hb2.mono (by omega)))
  have HZ2 : Hid (S + 1 < W2.heap.size) := Lib.hid HP2.out.sz
  have HW2 := Lib.hid hW2
  have HZ1 := Lib.hid hz1
  have HWE := Lib.hid (wholeExpr_any s hs (S + 1) W2 HP2.out)
  clear hW2 hb2 hz1
  go_enter Try.func5, Try.ntmps5
  go_wp2_with fail
  rw [HW2.out]
  rw [HZ1.out]
  try rw [hS]
  go_at_call 11
  refine HWE.out.mono ?_
  rintro e w3 hx
  rw [HX.out] at hx
  obtain ⟨v, rfl, hex, hn3⟩ := hx
  obtain ⟨xa, xc, rfl, _⟩ := hex.at.slice
  have HB3 : Hid (Below S w w3) := Lib.hid (hn3.below (B := S) (by omega) HB2.out (by have := HZ2.out; omega))
  have HR3 := Lib.hid (HR2.out.keep hn3.size (hn3.block S HR2.out.sz (.inl (by omega))))
  have hb4 : Below w3.heap.size w3 (w3.alloc (.cells #[.int .i64 x.k, .int .i64 x.n, .string x.m, .string x.s, .slice xa x.ks.length xc] 24)) := (Below.refl _ _).alloc (Nat.le_refl _) _
  have HR4 := Lib.hid (HR3.out.kept hb4)
  have HB4 := Lib.hid (HB3.out.trans (hb4.mono (by have := HR3.out.sz; omega)))
  have HEX4 := Lib.hid ((hex.kept hb4).wide (show S + 1 ≤ W2.heap.size by have := HZ2.out; omega) hb4.size)
  have hse : ¬ w3.heap.size = S := by have := HR3.out.sz; omega
  have hse2 : ¬ S = w3.heap.size := fun h => hse h.symm
  clear hb4 hn3 hex
  obtain ⟨p0, p1, p2, p3, p4, f0, f1, f2, f3, f4, psz⟩ := HR4.out
  go_wp2_with fail
  go_region
  all_goals (try go_wp2_with fail)
  all_goals exact bodyPost_ret (v := .tuple #[.agg #[.int .i64 x.k, .int .i64 x.n, .string x.m, .string x.s, .slice xa x.ks.length xc], .bool true]) (by simp [results, Try.results5, go_sem, p0, p1, p2, p3, p4, psz]) rfl ⟨_, rfl, (ex5 HS.out HEX4.out _ _ _ _ _).kept ((Below.refl _ _).drew), (below5 HS.out HB4.out _ _ _ _ _).drew⟩
theorem parseExpr_impl (s : ByteArray) (hs : s.size ≤ 1048576) (w : World) : Calls Try.prog 5 #[.string s] w fun e w' => PeRet w e w' (pxE s) := by
  rcases h : pxE s with _ | x
  · exact parse_none s hs (Lib.hid h) w
  · exact parse_some s hs x (Lib.hid h) w

end Go.Proofs.Ytpaefcdchaemfaa

