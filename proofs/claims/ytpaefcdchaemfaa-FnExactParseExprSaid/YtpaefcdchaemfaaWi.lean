/-
  A call, a sum or a pair, read by the model.
-/
import Derived.Test.YtpaefcdchaemfaaWh
import Derived.Deep.RegionLaw
namespace Go.Proofs.Ytpaefcdchaemfaa
open Go.RowKit Go.Proofs.Ytpaefcdchaemfaa.Ox
set_option linter.unusedVariables false
set_option linter.unusedSimpArgs false

theorem below6 {w W : World} {S : Nat} (hS : w.heap.size = S) (h : Below S w W) (hw : S < W.heap.size) (a b c d e : Value) (o1 : Obj) : Below w.heap.size w ((put5 W S a b c d e).alloc o1) := by
  have h5 := below5 hS h a b c d e
  exact h5.alloc (by rw [put5_size, hS]; omega) _
theorem sg1 (j : Nat) (hj : j < (⟨#[41]⟩ : ByteArray).size) : by8 ⟨#[41]⟩ j = ([41] : List Int).getD j 0 ∧ ([41] : List Int).getD j 0 ≠ 0 := by
  obtain rfl : j = 0 := by have : (⟨#[41]⟩ : ByteArray).size = 1 := rfl; omega
  exact ⟨by decide, by decide⟩
theorem ser_one {f : Nat → Rs} {s : ByteArray} {c : Int} {i n : Nat} {xs : List Ex} (h : ser f s [c] i = .ok xs n) : ∃ x, xs = [x] := by
  unfold ser at h
  cases hf : f i with
  | no k => rw [hf] at h; cases h
  | ok x m =>
    rw [hf] at h
    dsimp only at h
    by_cases hb : by8 s m = c
    · rw [if_pos hb, ser_nil] at h; cases h; exact ⟨x, rfl⟩
    · rw [if_neg hb] at h; cases h
/-- The one expression of a row. -/
theorem one_of {w : World} {lo hi : Nat} {k n : Int} {m s : ByteArray} {x : Ex} {g c : Nat} (h : ExIn w lo hi (.node k n m s [x]) (.slice (some ⟨g, 0, none⟩) 1 c)) :
    ∃ v l h, Fd w g 0 x v ∧ lo ≤ l ∧ h ≤ hi ∧ ExIn w l h x v := by
  generalize hv : Value.slice (some ⟨g, 0, none⟩) 1 c = v at h
  cases h with
  | row lo hi k n m s ks b cap vs l h hb1 hb2 hw hl h0 hf hin hd h3 =>
    cases hv
    have a := h0 0 (by simp)
    have b := hin 0 (by simp)
    have c := h3 0 (by simp)
    exact ⟨vs 0, l 0, h 0, a, b.1, b.2.1, c⟩
set_option maxRecDepth 100000 in
set_option maxHeartbeats 8000000 in
theorem round_no (s : ByteArray) (hs : s.size ≤ 1048576) (d : Nat) (D : Int) (hD : D = (d : Int)) (HIH : Hid (PxT s d)) (i : Nat) (I : Int) (hI : I = i) (hi : i ≤ s.size) (w : World) (k : Nat) (HP : Hid (px s d i = .no k)) (hk : k ≤ s.size + 1) :
    Calls Try.prog 20 #[.string s, .int .i64 I, .int .i64 D] w fun e w' => XRet w e w' (.no k) := by
  obtain ⟨S, hS⟩ : ∃ S, w.heap.size = S := ⟨_, rfl⟩
  have HS := Lib.hid hS
  obtain ⟨W1, hW1⟩ : ∃ W, w.alloc (.cells #[.int .i64 0, .int .i64 0, .string ⟨#[]⟩, .string ⟨#[]⟩, .slice none 0 0] 24) = W := ⟨_, rfl⟩
  have HW1 := Lib.hid hW1
  have HR1 : Hid (R5 W1 S) := Lib.hid (by rw [← hW1, ← hS]; exact r5_new w _)
  have HB1 : Hid (Below S w W1) := Lib.hid (by rw [← hW1, ← hS]; exact (Below.refl _ _).alloc (Nat.le_refl _) _)
  have hz1 : W1.heap.size = S + 1 := by rw [← hW1, ← hS]; simp
  have HI := Lib.hid hI
  have HD := Lib.hid hD
  clear hI hD hW1
  go_enter Try.func20, Try.ntmps20
  go_wp2_with fail
  rw [HW1.out]
  try rw [hS]
  go_at_call 9
  refine (HIH.out _ D I i HD.out HI.out hi).mono ?_
  rintro e w2 hx
  rw [HP.out] at hx
  obtain ⟨q1, q2, q3, q4, q5, q6, q7, N, hN, rfl, hb⟩ := hx
  have hN0 : N < 0 := by omega
  have HN := Lib.hid hN
  have HR3 := Lib.hid (HR1.out.kept hb)
  have HB3 := Lib.hid (HB1.out.trans (hb.mono (by omega)))
  have hw3 : S < w2.heap.size := HR3.out.sz
  clear hb hN
  obtain ⟨p0, p1, p2, p3, p4, f0, f1, f2, f3, f4, psz⟩ := HR3.out
  go_wp2_with fail
  exact bodyPost_ret (v := .tuple #[.agg #[.int .i64 0, .int .i64 0, .string ⟨#[]⟩, .string ⟨#[]⟩, .slice none 0 0], .int .i64 N]) (by simp [results, Try.results20, go_sem, p0, p1, p2, p3, p4, psz]) rfl ⟨_, _, _, _, _, _, _, _, HN.out, rfl, below6 HS.out HB3.out hw3 _ _ _ _ _ _⟩
set_option maxRecDepth 100000 in
set_option maxHeartbeats 8000000 in
theorem round_off (s : ByteArray) (hs : s.size ≤ 1048576) (d : Nat) (D : Int) (hD : D = (d : Int)) (HIH : Hid (PxT s d)) (i : Nat) (I : Int) (hI : I = i) (hi : i ≤ s.size) (w : World) (a : Ex) (n : Nat) (HP : Hid (px s d i = .ok a n)) (hn : n ≤ s.size) (H32 : Hid ((by8 s n == 32) = false)) (H43 : Hid ((by8 s n == 43) = false)) (H44 : Hid ((by8 s n == 44) = false)) :
    Calls Try.prog 20 #[.string s, .int .i64 I, .int .i64 D] w fun e w' => XRet w e w' (.no n) := by
  obtain ⟨S, hS⟩ : ∃ S, w.heap.size = S := ⟨_, rfl⟩
  have HS := Lib.hid hS
  obtain ⟨W1, hW1⟩ : ∃ W, w.alloc (.cells #[.int .i64 0, .int .i64 0, .string ⟨#[]⟩, .string ⟨#[]⟩, .slice none 0 0] 24) = W := ⟨_, rfl⟩
  have HW1 := Lib.hid hW1
  have HR1 : Hid (R5 W1 S) := Lib.hid (by rw [← hW1, ← hS]; exact r5_new w _)
  have HB1 : Hid (Below S w W1) := Lib.hid (by rw [← hW1, ← hS]; exact (Below.refl _ _).alloc (Nat.le_refl _) _)
  have hz1 : W1.heap.size = S + 1 := by rw [← hW1, ← hS]; simp
  have HI := Lib.hid hI
  have HD := Lib.hid hD
  clear hI hD hW1
  go_enter Try.func20, Try.ntmps20
  go_wp2_with fail
  rw [HW1.out]
  try rw [hS]
  go_at_call 9
  refine (HIH.out _ D I i HD.out HI.out hi).mono ?_
  rintro e w2 hx
  rw [HP.out] at hx
  obtain ⟨va, N, hN, rfl, hex, hb⟩ := hx
  obtain ⟨aa, ac, rfl, _⟩ := hex.at.slice
  have hN0 : ¬ N < 0 := by omega
  have hN1 : 0 ≤ N := by omega
  have hN2 : N ≤ 1048576 := by omega
  have s1 : IntKind.i64.wrap (N + 1) = N + 1 := IntWalk.i64_in _ (by omega)
  have s2 : IntKind.i64.wrap (-1 - N) = -1 - N := IntWalk.i64_in _ (by omega)
  have HN := Lib.hid hN
  have HN1 : Hid (N + 1 = ((n + 1 : Nat) : Int)) := Lib.hid (by omega)
  have HNR : Hid (-1 - N = -1 - (n : Int)) := Lib.hid (by omega)
  have HA2 := Lib.hid hex
  have HR2 := Lib.hid (HR1.out.kept hb)
  have HB2 := Lib.hid (HB1.out.trans (hb.mono (by omega)))
  have hw2 : S + 1 ≤ w2.heap.size := by have := hb.size; omega
  clear hb hN hex
  obtain ⟨W3, hW3⟩ : ∃ W, w2.alloc (.cells #[.int .i64 a.k, .int .i64 a.n, .string a.m, .string a.s, .slice aa a.ks.length ac] 24) = W := ⟨_, rfl⟩
  obtain ⟨E, hE⟩ : ∃ E, w2.heap.size = E := ⟨_, rfl⟩
  have hbA : Below w2.heap.size w2 W3 := by rw [← hW3]; exact (Below.refl _ _).alloc (Nat.le_refl _) _
  have HBX := Lib.hid (ebox_new w2 (.int .i64 a.k) (.int .i64 a.n) (.string a.m) (.string a.s) (.slice aa a.ks.length ac) 24)
  rw [hW3, hE] at HBX
  have HR3 := Lib.hid (HR2.out.kept hbA)
  have HA3 := Lib.hid (HA2.out.kept hbA)
  have HB3 := Lib.hid (HB2.out.trans (hbA.mono (by omega)))
  have hz3 : W3.heap.size = E + 1 := by rw [← hW3, ← hE]; simp
  have HW3 := Lib.hid hW3
  clear hW3 hbA
  obtain ⟨p0, p1, p2, p3, p4, f0, f1, f2, f3, f4, psz⟩ := HR3.out
  go_wp2_with fail
  rw [HW3.out]
  try rw [hE]
  go_at_call 23
  refine (sign_at s n N HN.out 32 false (by omega) H32.out _).mono ?_
  rintro e wq ⟨rfl, rfl⟩
  go_wp2_with fail
  go_at_call 23
  refine (sign_at s n N HN.out 43 false (by omega) H43.out _).mono ?_
  rintro e wq ⟨rfl, rfl⟩
  go_wp2_with fail
  go_at_call 23
  refine (sign_at s n N HN.out 44 false (by omega) H44.out _).mono ?_
  rintro e wq ⟨rfl, rfl⟩
  go_wp2_with fail
  exact bodyPost_ret (v := .tuple #[.agg #[.int .i64 0, .int .i64 0, .string ⟨#[]⟩, .string ⟨#[]⟩, .slice none 0 0], .int .i64 (-1 - N)]) (by simp [results, Try.results20, go_sem, p0, p1, p2, p3, p4, psz]) rfl ⟨_, _, _, _, _, _, _, _, HNR.out, rfl, below5 HS.out HB3.out _ _ _ _ _⟩
set_option maxRecDepth 100000 in
set_option maxHeartbeats 8000000 in
theorem round_no4 (s : ByteArray) (hs : s.size ≤ 1048576) (d : Nat) (D : Int) (hD : D = (d : Int)) (HIH : Hid (PxT s d)) (i : Nat) (I : Int) (hI : I = i) (hi : i ≤ s.size) (w : World) (a : Ex) (n : Nat) (HP : Hid (px s d i = .ok a n)) (hn : n + 1 ≤ s.size) (H32 : Hid ((by8 s n == 32) = true)) (k : Nat) (HQ : Hid (ser (px s d) s [41] (n + 1) = .no k)) (hk : k ≤ s.size + 1) :
    Calls Try.prog 20 #[.string s, .int .i64 I, .int .i64 D] w fun e w' => XRet w e w' (.no k) := by
  obtain ⟨S, hS⟩ : ∃ S, w.heap.size = S := ⟨_, rfl⟩
  have HS := Lib.hid hS
  obtain ⟨W1, hW1⟩ : ∃ W, w.alloc (.cells #[.int .i64 0, .int .i64 0, .string ⟨#[]⟩, .string ⟨#[]⟩, .slice none 0 0] 24) = W := ⟨_, rfl⟩
  have HW1 := Lib.hid hW1
  have HR1 : Hid (R5 W1 S) := Lib.hid (by rw [← hW1, ← hS]; exact r5_new w _)
  have HB1 : Hid (Below S w W1) := Lib.hid (by rw [← hW1, ← hS]; exact (Below.refl _ _).alloc (Nat.le_refl _) _)
  have hz1 : W1.heap.size = S + 1 := by rw [← hW1, ← hS]; simp
  have HI := Lib.hid hI
  have HD := Lib.hid hD
  clear hI hD hW1
  go_enter Try.func20, Try.ntmps20
  go_wp2_with fail
  rw [HW1.out]
  try rw [hS]
  go_at_call 9
  refine (HIH.out _ D I i HD.out HI.out hi).mono ?_
  rintro e w2 hx
  rw [HP.out] at hx
  obtain ⟨va, N, hN, rfl, hex, hb⟩ := hx
  obtain ⟨aa, ac, rfl, _⟩ := hex.at.slice
  have hN0 : ¬ N < 0 := by omega
  have hN1 : 0 ≤ N := by omega
  have hN2 : N ≤ 1048576 := by omega
  have s1 : IntKind.i64.wrap (N + 1) = N + 1 := IntWalk.i64_in _ (by omega)
  have s2 : IntKind.i64.wrap (-1 - N) = -1 - N := IntWalk.i64_in _ (by omega)
  have HN := Lib.hid hN
  have HN1 : Hid (N + 1 = ((n + 1 : Nat) : Int)) := Lib.hid (by omega)
  have HNR : Hid (-1 - N = -1 - (n : Int)) := Lib.hid (by omega)
  have HA2 := Lib.hid hex
  have HR2 := Lib.hid (HR1.out.kept hb)
  have HB2 := Lib.hid (HB1.out.trans (hb.mono (by omega)))
  have hw2 : S + 1 ≤ w2.heap.size := by have := hb.size; omega
  clear hb hN hex
  obtain ⟨W3, hW3⟩ : ∃ W, w2.alloc (.cells #[.int .i64 a.k, .int .i64 a.n, .string a.m, .string a.s, .slice aa a.ks.length ac] 24) = W := ⟨_, rfl⟩
  obtain ⟨E, hE⟩ : ∃ E, w2.heap.size = E := ⟨_, rfl⟩
  have hbA : Below w2.heap.size w2 W3 := by rw [← hW3]; exact (Below.refl _ _).alloc (Nat.le_refl _) _
  have HBX := Lib.hid (ebox_new w2 (.int .i64 a.k) (.int .i64 a.n) (.string a.m) (.string a.s) (.slice aa a.ks.length ac) 24)
  rw [hW3, hE] at HBX
  have HR3 := Lib.hid (HR2.out.kept hbA)
  have HA3 := Lib.hid (HA2.out.kept hbA)
  have HB3 := Lib.hid (HB2.out.trans (hbA.mono (by omega)))
  have hz3 : W3.heap.size = E + 1 := by rw [← hW3, ← hE]; simp
  have HW3 := Lib.hid hW3
  clear hW3 hbA
  go_wp2_with fail
  rw [HW3.out]
  try rw [hE]
  go_at_call 23
  refine (sign_at s n N HN.out 32 true (by omega) H32.out _).mono ?_
  rintro e wq ⟨rfl, rfl⟩
  go_wp2_with fail
  go_at_call 24
  refine (l3Series_any s hs d D HD.out HIH ⟨#[41]⟩ [41] rfl (by decide) sg1 (n + 1) (N + 1) HN1.out hn _).mono ?_
  rintro e w4 hx
  rw [HQ.out] at hx
  obtain ⟨q1, q2, q3, M, hM, rfl, hb⟩ := hx
  have hM0 : M < 0 := by omega
  have HM := Lib.hid hM
  have HR4 := Lib.hid (HR3.out.kept hb)
  have HB4 := Lib.hid (HB3.out.trans (hb.mono (by omega)))
  clear hb hM
  obtain ⟨p0, p1, p2, p3, p4, f0, f1, f2, f3, f4, psz⟩ := HR4.out
  go_wp2_with fail
  exact bodyPost_ret (v := .tuple #[.agg #[.int .i64 0, .int .i64 0, .string ⟨#[]⟩, .string ⟨#[]⟩, .slice none 0 0], .int .i64 M]) (by simp [results, Try.results20, go_sem, p0, p1, p2, p3, p4, psz]) rfl ⟨_, _, _, _, _, _, _, _, HM.out, rfl, below5 HS.out HB4.out _ _ _ _ _⟩
set_option maxRecDepth 100000 in
set_option maxHeartbeats 8000000 in
theorem round_no5 (s : ByteArray) (hs : s.size ≤ 1048576) (d : Nat) (D : Int) (hD : D = (d : Int)) (HIH : Hid (PxT s d)) (i : Nat) (I : Int) (hI : I = i) (hi : i ≤ s.size) (w : World) (a : Ex) (n : Nat) (HP : Hid (px s d i = .ok a n)) (hn : n + 1 ≤ s.size) (H32 : Hid ((by8 s n == 32) = false)) (H43 : Hid ((by8 s n == 43) = true)) (k : Nat) (HQ : Hid (ser (px s d) s [41] (n + 1) = .no k)) (hk : k ≤ s.size + 1) :
    Calls Try.prog 20 #[.string s, .int .i64 I, .int .i64 D] w fun e w' => XRet w e w' (.no k) := by
  obtain ⟨S, hS⟩ : ∃ S, w.heap.size = S := ⟨_, rfl⟩
  have HS := Lib.hid hS
  obtain ⟨W1, hW1⟩ : ∃ W, w.alloc (.cells #[.int .i64 0, .int .i64 0, .string ⟨#[]⟩, .string ⟨#[]⟩, .slice none 0 0] 24) = W := ⟨_, rfl⟩
  have HW1 := Lib.hid hW1
  have HR1 : Hid (R5 W1 S) := Lib.hid (by rw [← hW1, ← hS]; exact r5_new w _)
  have HB1 : Hid (Below S w W1) := Lib.hid (by rw [← hW1, ← hS]; exact (Below.refl _ _).alloc (Nat.le_refl _) _)
  have hz1 : W1.heap.size = S + 1 := by rw [← hW1, ← hS]; simp
  have HI := Lib.hid hI
  have HD := Lib.hid hD
  clear hI hD hW1
  go_enter Try.func20, Try.ntmps20
  go_wp2_with fail
  rw [HW1.out]
  try rw [hS]
  go_at_call 9
  refine (HIH.out _ D I i HD.out HI.out hi).mono ?_
  rintro e w2 hx
  rw [HP.out] at hx
  obtain ⟨va, N, hN, rfl, hex, hb⟩ := hx
  obtain ⟨aa, ac, rfl, _⟩ := hex.at.slice
  have hN0 : ¬ N < 0 := by omega
  have hN1 : 0 ≤ N := by omega
  have hN2 : N ≤ 1048576 := by omega
  have s1 : IntKind.i64.wrap (N + 1) = N + 1 := IntWalk.i64_in _ (by omega)
  have s2 : IntKind.i64.wrap (-1 - N) = -1 - N := IntWalk.i64_in _ (by omega)
  have HN := Lib.hid hN
  have HN1 : Hid (N + 1 = ((n + 1 : Nat) : Int)) := Lib.hid (by omega)
  have HNR : Hid (-1 - N = -1 - (n : Int)) := Lib.hid (by omega)
  have HA2 := Lib.hid hex
  have HR2 := Lib.hid (HR1.out.kept hb)
  have HB2 := Lib.hid (HB1.out.trans (hb.mono (by omega)))
  have hw2 : S + 1 ≤ w2.heap.size := by have := hb.size; omega
  clear hb hN hex
  obtain ⟨W3, hW3⟩ : ∃ W, w2.alloc (.cells #[.int .i64 a.k, .int .i64 a.n, .string a.m, .string a.s, .slice aa a.ks.length ac] 24) = W := ⟨_, rfl⟩
  obtain ⟨E, hE⟩ : ∃ E, w2.heap.size = E := ⟨_, rfl⟩
  have hbA : Below w2.heap.size w2 W3 := by rw [← hW3]; exact (Below.refl _ _).alloc (Nat.le_refl _) _
  have HBX := Lib.hid (ebox_new w2 (.int .i64 a.k) (.int .i64 a.n) (.string a.m) (.string a.s) (.slice aa a.ks.length ac) 24)
  rw [hW3, hE] at HBX
  have HR3 := Lib.hid (HR2.out.kept hbA)
  have HA3 := Lib.hid (HA2.out.kept hbA)
  have HB3 := Lib.hid (HB2.out.trans (hbA.mono (by omega)))
  have hz3 : W3.heap.size = E + 1 := by rw [← hW3, ← hE]; simp
  have HW3 := Lib.hid hW3
  clear hW3 hbA
  go_wp2_with fail
  rw [HW3.out]
  try rw [hE]
  go_at_call 23
  refine (sign_at s n N HN.out 32 false (by omega) H32.out _).mono ?_
  rintro e wq ⟨rfl, rfl⟩
  go_wp2_with fail
  go_at_call 23
  refine (sign_at s n N HN.out 43 true (by omega) H43.out _).mono ?_
  rintro e wq ⟨rfl, rfl⟩
  go_wp2_with fail
  go_at_call 24
  refine (l3Series_any s hs d D HD.out HIH ⟨#[41]⟩ [41] rfl (by decide) sg1 (n + 1) (N + 1) HN1.out hn _).mono ?_
  rintro e w4 hx
  rw [HQ.out] at hx
  obtain ⟨q1, q2, q3, M, hM, rfl, hb⟩ := hx
  have hM0 : M < 0 := by omega
  have HM := Lib.hid hM
  have HR4 := Lib.hid (HR3.out.kept hb)
  have HB4 := Lib.hid (HB3.out.trans (hb.mono (by omega)))
  clear hb hM
  obtain ⟨p0, p1, p2, p3, p4, f0, f1, f2, f3, f4, psz⟩ := HR4.out
  go_wp2_with fail
  exact bodyPost_ret (v := .tuple #[.agg #[.int .i64 0, .int .i64 0, .string ⟨#[]⟩, .string ⟨#[]⟩, .slice none 0 0], .int .i64 M]) (by simp [results, Try.results20, go_sem, p0, p1, p2, p3, p4, psz]) rfl ⟨_, _, _, _, _, _, _, _, HM.out, rfl, below5 HS.out HB4.out _ _ _ _ _⟩
set_option maxRecDepth 100000 in
set_option maxHeartbeats 8000000 in
theorem round_no8 (s : ByteArray) (hs : s.size ≤ 1048576) (d : Nat) (D : Int) (hD : D = (d : Int)) (HIH : Hid (PxT s d)) (i : Nat) (I : Int) (hI : I = i) (hi : i ≤ s.size) (w : World) (a : Ex) (n : Nat) (HP : Hid (px s d i = .ok a n)) (hn : n + 1 ≤ s.size) (H32 : Hid ((by8 s n == 32) = false)) (H43 : Hid ((by8 s n == 43) = false)) (H44 : Hid ((by8 s n == 44) = true)) (k : Nat) (HQ : Hid (ser (px s d) s [41] (n + 1) = .no k)) (hk : k ≤ s.size + 1) :
    Calls Try.prog 20 #[.string s, .int .i64 I, .int .i64 D] w fun e w' => XRet w e w' (.no k) := by
  obtain ⟨S, hS⟩ : ∃ S, w.heap.size = S := ⟨_, rfl⟩
  have HS := Lib.hid hS
  obtain ⟨W1, hW1⟩ : ∃ W, w.alloc (.cells #[.int .i64 0, .int .i64 0, .string ⟨#[]⟩, .string ⟨#[]⟩, .slice none 0 0] 24) = W := ⟨_, rfl⟩
  have HW1 := Lib.hid hW1
  have HR1 : Hid (R5 W1 S) := Lib.hid (by rw [← hW1, ← hS]; exact r5_new w _)
  have HB1 : Hid (Below S w W1) := Lib.hid (by rw [← hW1, ← hS]; exact (Below.refl _ _).alloc (Nat.le_refl _) _)
  have hz1 : W1.heap.size = S + 1 := by rw [← hW1, ← hS]; simp
  have HI := Lib.hid hI
  have HD := Lib.hid hD
  clear hI hD hW1
  go_enter Try.func20, Try.ntmps20
  go_wp2_with fail
  rw [HW1.out]
  try rw [hS]
  go_at_call 9
  refine (HIH.out _ D I i HD.out HI.out hi).mono ?_
  rintro e w2 hx
  rw [HP.out] at hx
  obtain ⟨va, N, hN, rfl, hex, hb⟩ := hx
  obtain ⟨aa, ac, rfl, _⟩ := hex.at.slice
  have hN0 : ¬ N < 0 := by omega
  have hN1 : 0 ≤ N := by omega
  have hN2 : N ≤ 1048576 := by omega
  have s1 : IntKind.i64.wrap (N + 1) = N + 1 := IntWalk.i64_in _ (by omega)
  have s2 : IntKind.i64.wrap (-1 - N) = -1 - N := IntWalk.i64_in _ (by omega)
  have HN := Lib.hid hN
  have HN1 : Hid (N + 1 = ((n + 1 : Nat) : Int)) := Lib.hid (by omega)
  have HNR : Hid (-1 - N = -1 - (n : Int)) := Lib.hid (by omega)
  have HA2 := Lib.hid hex
  have HR2 := Lib.hid (HR1.out.kept hb)
  have HB2 := Lib.hid (HB1.out.trans (hb.mono (by omega)))
  have hw2 : S + 1 ≤ w2.heap.size := by have := hb.size; omega
  clear hb hN hex
  obtain ⟨W3, hW3⟩ : ∃ W, w2.alloc (.cells #[.int .i64 a.k, .int .i64 a.n, .string a.m, .string a.s, .slice aa a.ks.length ac] 24) = W := ⟨_, rfl⟩
  obtain ⟨E, hE⟩ : ∃ E, w2.heap.size = E := ⟨_, rfl⟩
  have hbA : Below w2.heap.size w2 W3 := by rw [← hW3]; exact (Below.refl _ _).alloc (Nat.le_refl _) _
  have HBX := Lib.hid (ebox_new w2 (.int .i64 a.k) (.int .i64 a.n) (.string a.m) (.string a.s) (.slice aa a.ks.length ac) 24)
  rw [hW3, hE] at HBX
  have HR3 := Lib.hid (HR2.out.kept hbA)
  have HA3 := Lib.hid (HA2.out.kept hbA)
  have HB3 := Lib.hid (HB2.out.trans (hbA.mono (by omega)))
  have hz3 : W3.heap.size = E + 1 := by rw [← hW3, ← hE]; simp
  have HW3 := Lib.hid hW3
  clear hW3 hbA
  go_wp2_with fail
  rw [HW3.out]
  try rw [hE]
  go_at_call 23
  refine (sign_at s n N HN.out 32 false (by omega) H32.out _).mono ?_
  rintro e wq ⟨rfl, rfl⟩
  go_wp2_with fail
  go_at_call 23
  refine (sign_at s n N HN.out 43 false (by omega) H43.out _).mono ?_
  rintro e wq ⟨rfl, rfl⟩
  go_wp2_with fail
  go_at_call 23
  refine (sign_at s n N HN.out 44 true (by omega) H44.out _).mono ?_
  rintro e wq ⟨rfl, rfl⟩
  go_wp2_with fail
  go_at_call 24
  refine (l3Series_any s hs d D HD.out HIH ⟨#[41]⟩ [41] rfl (by decide) sg1 (n + 1) (N + 1) HN1.out hn _).mono ?_
  rintro e w4 hx
  rw [HQ.out] at hx
  obtain ⟨q1, q2, q3, M, hM, rfl, hb⟩ := hx
  have hM0 : M < 0 := by omega
  have HM := Lib.hid hM
  have HR4 := Lib.hid (HR3.out.kept hb)
  have HB4 := Lib.hid (HB3.out.trans (hb.mono (by omega)))
  clear hb hM
  obtain ⟨p0, p1, p2, p3, p4, f0, f1, f2, f3, f4, psz⟩ := HR4.out
  go_wp2_with fail
  exact bodyPost_ret (v := .tuple #[.agg #[.int .i64 0, .int .i64 0, .string ⟨#[]⟩, .string ⟨#[]⟩, .slice none 0 0], .int .i64 M]) (by simp [results, Try.results20, go_sem, p0, p1, p2, p3, p4, psz]) rfl ⟨_, _, _, _, _, _, _, _, HM.out, rfl, below5 HS.out HB4.out _ _ _ _ _⟩

end Go.Proofs.Ytpaefcdchaemfaa
