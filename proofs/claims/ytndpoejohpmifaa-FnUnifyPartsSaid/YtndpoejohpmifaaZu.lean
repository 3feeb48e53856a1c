/-
  l2Parse of the model: two types joined.
-/
import Derived.Test.YtndpoejohpmifaaZt
namespace Go.Proofs.Ytndpoejohpmifaa
open Go.RowKit
set_option linter.unusedVariables false
set_option linter.unusedSimpArgs false

theorem sizeA (w : World) (o : Obj) : (w.alloc o).heap.size = w.heap.size + 1 := by simp
theorem sign_N (s : ByteArray) (n : Nat) (N : Int) (hN : N = n) (c : Int) (b : Bool) (hc : c ≠ 0) (hb : (by8 s n == c) = b) (w : World) :
    Calls Try.prog 86 #[.string s, .int .i64 N, .int .u8 c] w fun e w' => e = .returned (.bool b) ∧ w' = w := by
  subst hN; exact l2Sign_any s n c b hc hb w
theorem boxes {w w2 : World} {B : Nat} {x y z : Value} {T : TypeId} (hb : Below (w.alloc (.cells #[x, y, z] T)).heap.size (w.alloc (.cells #[x, y, z] T)) w2) (hB : B = w.heap.size) :
    w2.cell? ⟨B, 0, none⟩ = some x ∧ w2.cell? ⟨B, 1, none⟩ = some y ∧ w2.cell? ⟨B, 2, none⟩ = some z := by
  subst hB
  have hlt : w.heap.size < (w.alloc (.cells #[x, y, z] T)).heap.size := by simp
  exact ⟨(hb.cell (p := ⟨w.heap.size, 0, none⟩) hlt).trans (by go_simp), (hb.cell (p := ⟨w.heap.size, 1, none⟩) hlt).trans (by go_simp), (hb.cell (p := ⟨w.heap.size, 2, none⟩) hlt).trans (by go_simp)⟩

set_option maxRecDepth 100000 in
set_option maxHeartbeats 2000000 in
theorem prs_j1 (s : ByteArray) (hs : s.size ≤ 1048576) (d : Nat) (hd : d ≤ 16) (D : Int) (i : Nat) (I : Int) (w : World) (hD : D = ((d + 1 : Nat) : Int)) (hI : I = i) (hi : i < s.size) (hc : by8 s i = 40) (HIH : Hid (PrsT s d)) (ta : Ty) (n : Nat) (HX : Hid (prs s d (i + 1) = some (ta, n))) (H42 : Hid ((by8 s n == 42) = false)) (H62 : Hid ((by8 s n == 62) = false)) :
    Calls Try.prog 51 #[.string s, .int .i64 I, .int .i64 D] w (PrsRet none w) := by
  have r1 := by8_idx Try.prog 9 Try.underlying9 hi
  rw [← hI, hc] at r1
  have h0 : 0 ≤ I := by omega
  have h1 : I ≤ 1048577 := by omega
  have h2 : ¬ D < 1 := by omega
  have h3 : I < (s.size : Int) := by omega
  have HI := Lib.hid (show I + 1 = ((i + 1 : Nat) : Int) by omega)
  have HR := Lib.hid (rb_new w 25)
  have HA0 : Hid (Below w.heap.size w (w.alloc (.cells #[.int .i64 0, .int .i64 0, .slice none 0 0] 25))) := Lib.hid ((Below.refl _ _).alloc (Nat.le_refl _) _)
  have HD := Lib.hid (show D - 1 = (d : Int) by omega)
  have HLE := Lib.hid (show i + 1 ≤ 1048577 by omega)
  have h4 : 1 ≤ D := by omega
  have h5 : D ≤ 17 := by omega
  have hn : n ≤ 1048576 := Nat.le_trans (prs_le s d _ _ _ HX.out) hs
  clear hI hi hD hc
  go_enter Try.func51, Try.ntmps51
  go_wp2_with fail
  go_at_call 51
  refine (HIH.out _ _ _ _ _ HD.out HI.out HLE.out HX.out).mono ?_
  rintro e w1 ⟨v, N, hN, rfl, hty, hb⟩
  rw [sizeA] at hty
  have HT := Lib.hid hty
  obtain ⟨a1, k1, rfl, _⟩ := hty.at.slice
  have hz1 : w.heap.size < w1.heap.size := by have := hb.size; simp at this; omega
  have HR1 := Lib.hid (HR.out.kept hb)
  have HB1 := Lib.hid (HA0.out.trans (hb.mono HA0.out.size))
  have hN0 : ¬ N < 0 := by omega
  have hN1 : 0 ≤ N := by omega
  have hN2 : N ≤ 1048577 := by omega
  have HN := Lib.hid hN
  have HNS := Lib.hid (show N + 1 = ((n + 1 : Nat) : Int) by omega)
  have HLE2 := Lib.hid (show n + 1 ≤ 1048577 by omega)
  have HR2 := Lib.hid (HR1.out.kept ((Below.refl w1.heap.size w1).alloc (Nat.le_refl _) (.cells #[.int .i64 ta.k, .int .i64 ta.n, .slice a1 ta.ks.length k1] 25)))
  have HB2 := Lib.hid (HB1.out.alloc HB1.out.size (.cells #[.int .i64 ta.k, .int .i64 ta.n, .slice a1 ta.ks.length k1] 25))
  obtain ⟨p0, p1, p2, f0, f1, f2, psz⟩ := HR1.out
  have HZ1 := Lib.hid hz1
  clear hb hty hN hn
  go_wp2_with fail
  go_at_call 86
  refine (sign_N s n N HN.out 42 false (by omega) H42.out _).mono ?_
  rintro e wq ⟨rfl, rfl⟩
  go_wp2_with fail
  go_at_call 86
  refine (sign_N s n N HN.out 42 false (by omega) H42.out _).mono ?_
  rintro e wq ⟨rfl, rfl⟩
  go_wp2_with fail
  go_at_call 86
  refine (sign_N s n N HN.out 62 false (by omega) H62.out _).mono ?_
  rintro e wq ⟨rfl, rfl⟩
  go_wp2_with fail
  exact bodyPost_ret (v := .tuple #[.agg #[.int .i64 0, .int .i64 0, .slice none 0 0], .int .i64 (-1 - N)]) (by simp [results, Try.results51, go_sem, p0, p1, p2, psz, hz1]) rfl ⟨_, by omega, by omega, rfl, (res_below HB1.out _ _ _).alloc (by have := HB1.out.size; simp; omega) _⟩

set_option maxRecDepth 100000 in
set_option maxHeartbeats 2000000 in
theorem prs_j2_3 (s : ByteArray) (hs : s.size ≤ 1048576) (d : Nat) (hd : d ≤ 16) (D : Int) (i : Nat) (I : Int) (w : World) (hD : D = ((d + 1 : Nat) : Int)) (hI : I = i) (hi : i < s.size) (hc : by8 s i = 40) (HIH : Hid (PrsT s d)) (ta : Ty) (n : Nat) (HX : Hid (prs s d (i + 1) = some (ta, n))) (H42 : Hid ((by8 s n == 42) = true)) (H62 : Hid ((by8 s n == 62) = false)) (HY : Hid (prs s d (n + 1) = none)) :
    Calls Try.prog 51 #[.string s, .int .i64 I, .int .i64 D] w (PrsRet none w) := by
  have r1 := by8_idx Try.prog 9 Try.underlying9 hi
  rw [← hI, hc] at r1
  have h0 : 0 ≤ I := by omega
  have h1 : I ≤ 1048577 := by omega
  have h2 : ¬ D < 1 := by omega
  have h3 : I < (s.size : Int) := by omega
  have HI := Lib.hid (show I + 1 = ((i + 1 : Nat) : Int) by omega)
  have HR := Lib.hid (rb_new w 25)
  have HA0 : Hid (Below w.heap.size w (w.alloc (.cells #[.int .i64 0, .int .i64 0, .slice none 0 0] 25))) := Lib.hid ((Below.refl _ _).alloc (Nat.le_refl _) _)
  have HD := Lib.hid (show D - 1 = (d : Int) by omega)
  have HLE := Lib.hid (show i + 1 ≤ 1048577 by omega)
  have h4 : 1 ≤ D := by omega
  have h5 : D ≤ 17 := by omega
  have hn : n ≤ 1048576 := Nat.le_trans (prs_le s d _ _ _ HX.out) hs
  clear hI hi hD hc
  go_enter Try.func51, Try.ntmps51
  go_wp2_with fail
  go_at_call 51
  refine (HIH.out _ _ _ _ _ HD.out HI.out HLE.out HX.out).mono ?_
  rintro e w1 ⟨v, N, hN, rfl, hty, hb⟩
  rw [sizeA] at hty
  have HT := Lib.hid hty
  obtain ⟨a1, k1, rfl, _⟩ := hty.at.slice
  have hz1 : w.heap.size < w1.heap.size := by have := hb.size; simp at this; omega
  have HR1 := Lib.hid (HR.out.kept hb)
  have HB1 := Lib.hid (HA0.out.trans (hb.mono HA0.out.size))
  have hN0 : ¬ N < 0 := by omega
  have hN1 : 0 ≤ N := by omega
  have hN2 : N ≤ 1048577 := by omega
  have HN := Lib.hid hN
  have HNS := Lib.hid (show N + 1 = ((n + 1 : Nat) : Int) by omega)
  have HLE2 := Lib.hid (show n + 1 ≤ 1048577 by omega)
  have HR2 := Lib.hid (HR1.out.kept ((Below.refl w1.heap.size w1).alloc (Nat.le_refl _) (.cells #[.int .i64 ta.k, .int .i64 ta.n, .slice a1 ta.ks.length k1] 25)))
  have HB2 := Lib.hid (HB1.out.alloc HB1.out.size (.cells #[.int .i64 ta.k, .int .i64 ta.n, .slice a1 ta.ks.length k1] 25))
  obtain ⟨p0, p1, p2, f0, f1, f2, psz⟩ := HR1.out
  have HZ1 := Lib.hid hz1
  clear hb hty hN hn
  go_wp2_with fail
  go_at_call 86
  refine (sign_N s n N HN.out 42 true (by omega) H42.out _).mono ?_
  rintro e wq ⟨rfl, rfl⟩
  go_wp2_with fail
  go_at_call 86
  refine (sign_N s n N HN.out 42 true (by omega) H42.out _).mono ?_
  rintro e wq ⟨rfl, rfl⟩
  go_wp2_with fail
  go_at_call 51
  refine (HIH.out _ _ _ _ _ HD.out HNS.out HLE2.out HY.out).mono ?_
  rintro e w2 ⟨E, hE, hE2, rfl, hb⟩
  have HR3 := Lib.hid (HR2.out.kept hb)
  have HB3 := Lib.hid (HB2.out.trans (hb.mono HB2.out.size))
  have hz2 : w.heap.size < w2.heap.size := HR3.out.sz
  clear p0 p1 p2 f0 f1 f2 psz
  obtain ⟨p0, p1, p2, f0, f1, f2, psz⟩ := HR3.out
  clear hb
  go_wp2_with fail
  exact bodyPost_ret (v := .tuple #[.agg #[.int .i64 0, .int .i64 0, .slice none 0 0], .int .i64 E]) (by simp [results, Try.results51, go_sem, p0, p1, p2, psz]) rfl ⟨_, by omega, by omega, rfl, (res_below HB3.out _ _ _).alloc (by have := HB3.out.size; simp; omega) _⟩

set_option maxRecDepth 100000 in
set_option maxHeartbeats 2000000 in
theorem prs_j3_3 (s : ByteArray) (hs : s.size ≤ 1048576) (d : Nat) (hd : d ≤ 16) (D : Int) (i : Nat) (I : Int) (w : World) (hD : D = ((d + 1 : Nat) : Int)) (hI : I = i) (hi : i < s.size) (hc : by8 s i = 40) (HIH : Hid (PrsT s d)) (ta : Ty) (n : Nat) (HX : Hid (prs s d (i + 1) = some (ta, n))) (H42 : Hid ((by8 s n == 42) = true)) (H62 : Hid ((by8 s n == 62) = false)) (tb : Ty) (m : Nat) (HY : Hid (prs s d (n + 1) = some (tb, m))) (H41 : Hid ((by8 s m == 41) = false)) :
    Calls Try.prog 51 #[.string s, .int .i64 I, .int .i64 D] w (PrsRet none w) := by
  have r1 := by8_idx Try.prog 9 Try.underlying9 hi
  rw [← hI, hc] at r1
  have h0 : 0 ≤ I := by omega
  have h1 : I ≤ 1048577 := by omega
  have h2 : ¬ D < 1 := by omega
  have h3 : I < (s.size : Int) := by omega
  have HI := Lib.hid (show I + 1 = ((i + 1 : Nat) : Int) by omega)
  have HR := Lib.hid (rb_new w 25)
  have HA0 : Hid (Below w.heap.size w (w.alloc (.cells #[.int .i64 0, .int .i64 0, .slice none 0 0] 25))) := Lib.hid ((Below.refl _ _).alloc (Nat.le_refl _) _)
  have HD := Lib.hid (show D - 1 = (d : Int) by omega)
  have HLE := Lib.hid (show i + 1 ≤ 1048577 by omega)
  have h4 : 1 ≤ D := by omega
  have h5 : D ≤ 17 := by omega
  have hn : n ≤ 1048576 := Nat.le_trans (prs_le s d _ _ _ HX.out) hs
  clear hI hi hD hc
  go_enter Try.func51, Try.ntmps51
  go_wp2_with fail
  go_at_call 51
  refine (HIH.out _ _ _ _ _ HD.out HI.out HLE.out HX.out).mono ?_
  rintro e w1 ⟨v, N, hN, rfl, hty, hb⟩
  rw [sizeA] at hty
  have HT := Lib.hid hty
  obtain ⟨a1, k1, rfl, _⟩ := hty.at.slice
  have hz1 : w.heap.size < w1.heap.size := by have := hb.size; simp at this; omega
  have HR1 := Lib.hid (HR.out.kept hb)
  have HB1 := Lib.hid (HA0.out.trans (hb.mono HA0.out.size))
  have hN0 : ¬ N < 0 := by omega
  have hN1 : 0 ≤ N := by omega
  have hN2 : N ≤ 1048577 := by omega
  have HN := Lib.hid hN
  have HNS := Lib.hid (show N + 1 = ((n + 1 : Nat) : Int) by omega)
  have HLE2 := Lib.hid (show n + 1 ≤ 1048577 by omega)
  have HR2 := Lib.hid (HR1.out.kept ((Below.refl w1.heap.size w1).alloc (Nat.le_refl _) (.cells #[.int .i64 ta.k, .int .i64 ta.n, .slice a1 ta.ks.length k1] 25)))
  have HB2 := Lib.hid (HB1.out.alloc HB1.out.size (.cells #[.int .i64 ta.k, .int .i64 ta.n, .slice a1 ta.ks.length k1] 25))
  obtain ⟨p0, p1, p2, f0, f1, f2, psz⟩ := HR1.out
  have HZ1 := Lib.hid hz1
  clear hb hty hN hn
  go_wp2_with fail
  go_at_call 86
  refine (sign_N s n N HN.out 42 true (by omega) H42.out _).mono ?_
  rintro e wq ⟨rfl, rfl⟩
  go_wp2_with fail
  go_at_call 86
  refine (sign_N s n N HN.out 42 true (by omega) H42.out _).mono ?_
  rintro e wq ⟨rfl, rfl⟩
  go_wp2_with fail
  go_at_call 51
  refine (HIH.out _ _ _ _ _ HD.out HNS.out HLE2.out HY.out).mono ?_
  rintro e w2 ⟨v2, E, hE, rfl, hty2, hb⟩
  have HT2 := Lib.hid hty2
  obtain ⟨a2, k2, rfl, _⟩ := hty2.at.slice
  have hm : m ≤ 1048576 := Nat.le_trans (prs_le s d _ _ _ HY.out) hs
  have HR3 := Lib.hid (HR2.out.kept hb)
  have HB3 := Lib.hid (HB2.out.trans (hb.mono HB2.out.size))
  have hz2 : w.heap.size < w2.heap.size := HR3.out.sz
  have hz3 : w1.heap.size < w2.heap.size := by have := hb.size; simp at this; omega
  have hE0 : ¬ E < 0 := by omega
  have hE1 : 0 ≤ E := by omega
  have hE2 : E ≤ 1048577 := by omega
  have HE := Lib.hid hE
  obtain ⟨q0, q1, q2⟩ := boxes hb rfl
  have HT1 := Lib.hid ((HT.out.kept ((Below.refl w1.heap.size w1).alloc (Nat.le_refl _) (.cells #[.int .i64 ta.k, .int .i64 ta.n, .slice a1 ta.ks.length k1] 25))).kept hb)
  have HR4 := Lib.hid (HR3.out.kept ((Below.refl w2.heap.size w2).alloc (Nat.le_refl _) (.cells #[.int .i64 tb.k, .int .i64 tb.n, .slice a2 tb.ks.length k2] 25)))
  have HB4 := Lib.hid (HB3.out.alloc HB3.out.size (.cells #[.int .i64 tb.k, .int .i64 tb.n, .slice a2 tb.ks.length k2] 25))
  clear p0 p1 p2 f0 f1 f2 psz
  obtain ⟨p0, p1, p2, f0, f1, f2, psz⟩ := HR3.out
  clear hb hty2 hE hm
  go_wp2_with fail
  go_at_call 86
  refine (sign_N s m E HE.out 41 false (by omega) H41.out _).mono ?_
  rintro e wq ⟨rfl, rfl⟩
  go_wp2_with fail
  exact bodyPost_ret (v := .tuple #[.agg #[.int .i64 0, .int .i64 0, .slice none 0 0], .int .i64 (-1 - E)]) (by simp [results, Try.results51, go_sem, p0, p1, p2, psz, hz2]) rfl ⟨_, by omega, by omega, rfl, (res_below HB3.out _ _ _).alloc (by have := HB3.out.size; simp; omega) _⟩

set_option maxRecDepth 100000 in
set_option maxHeartbeats 2000000 in
theorem prs_j4_3 (s : ByteArray) (hs : s.size ≤ 1048576) (d : Nat) (hd : d ≤ 16) (D : Int) (i : Nat) (I : Int) (w : World) (hD : D = ((d + 1 : Nat) : Int)) (hI : I = i) (hi : i < s.size) (hc : by8 s i = 40) (HIH : Hid (PrsT s d)) (ta : Ty) (n : Nat) (HX : Hid (prs s d (i + 1) = some (ta, n))) (H42 : Hid ((by8 s n == 42) = true)) (H62 : Hid ((by8 s n == 62) = false)) (tb : Ty) (m : Nat) (HY : Hid (prs s d (n + 1) = some (tb, m))) (H41 : Hid ((by8 s m == 41) = true)) :
    Calls Try.prog 51 #[.string s, .int .i64 I, .int .i64 D] w (PrsRet (some (.node 3 0 [ta, tb], m + 1)) w) := by
  have r1 := by8_idx Try.prog 9 Try.underlying9 hi
  rw [← hI, hc] at r1
  have h0 : 0 ≤ I := by omega
  have h1 : I ≤ 1048577 := by omega
  have h2 : ¬ D < 1 := by omega
  have h3 : I < (s.size : Int) := by omega
  have HI := Lib.hid (show I + 1 = ((i + 1 : Nat) : Int) by omega)
  have HR := Lib.hid (rb_new w 25)
  have HA0 : Hid (Below w.heap.size w (w.alloc (.cells #[.int .i64 0, .int .i64 0, .slice none 0 0] 25))) := Lib.hid ((Below.refl _ _).alloc (Nat.le_refl _) _)
  have HD := Lib.hid (show D - 1 = (d : Int) by omega)
  have HLE := Lib.hid (show i + 1 ≤ 1048577 by omega)
  have h4 : 1 ≤ D := by omega
  have h5 : D ≤ 17 := by omega
  have hn : n ≤ 1048576 := Nat.le_trans (prs_le s d _ _ _ HX.out) hs
  clear hI hi hD hc
  go_enter Try.func51, Try.ntmps51
  go_wp2_with fail
  go_at_call 51
  refine (HIH.out _ _ _ _ _ HD.out HI.out HLE.out HX.out).mono ?_
  rintro e w1 ⟨v, N, hN, rfl, hty, hb⟩
  rw [sizeA] at hty
  have HT := Lib.hid hty
  obtain ⟨a1, k1, rfl, _⟩ := hty.at.slice
  have hz1 : w.heap.size < w1.heap.size := by have := hb.size; simp at this; omega
  have HR1 := Lib.hid (HR.out.kept hb)
  have HB1 := Lib.hid (HA0.out.trans (hb.mono HA0.out.size))
  have hN0 : ¬ N < 0 := by omega
  have hN1 : 0 ≤ N := by omega
  have hN2 : N ≤ 1048577 := by omega
  have HN := Lib.hid hN
  have HNS := Lib.hid (show N + 1 = ((n + 1 : Nat) : Int) by omega)
  have HLE2 := Lib.hid (show n + 1 ≤ 1048577 by omega)
  have HR2 := Lib.hid (HR1.out.kept ((Below.refl w1.heap.size w1).alloc (Nat.le_refl _) (.cells #[.int .i64 ta.k, .int .i64 ta.n, .slice a1 ta.ks.length k1] 25)))
  have HB2 := Lib.hid (HB1.out.alloc HB1.out.size (.cells #[.int .i64 ta.k, .int .i64 ta.n, .slice a1 ta.ks.length k1] 25))
  obtain ⟨p0, p1, p2, f0, f1, f2, psz⟩ := HR1.out
  have HZ1 := Lib.hid hz1
  clear hb hty hN hn
  go_wp2_with fail
  go_at_call 86
  refine (sign_N s n N HN.out 42 true (by omega) H42.out _).mono ?_
  rintro e wq ⟨rfl, rfl⟩
  go_wp2_with fail
  go_at_call 86
  refine (sign_N s n N HN.out 42 true (by omega) H42.out _).mono ?_
  rintro e wq ⟨rfl, rfl⟩
  go_wp2_with fail
  go_at_call 51
  refine (HIH.out _ _ _ _ _ HD.out HNS.out HLE2.out HY.out).mono ?_
  rintro e w2 ⟨v2, E, hE, rfl, hty2, hb⟩
  have HT2 := Lib.hid hty2
  obtain ⟨a2, k2, rfl, _⟩ := hty2.at.slice
  have hm : m ≤ 1048576 := Nat.le_trans (prs_le s d _ _ _ HY.out) hs
  have HR3 := Lib.hid (HR2.out.kept hb)
  have HB3 := Lib.hid (HB2.out.trans (hb.mono HB2.out.size))
  have hz2 : w.heap.size < w2.heap.size := HR3.out.sz
  have hz3 : w1.heap.size < w2.heap.size := by have := hb.size; simp at this; omega
  have hE0 : ¬ E < 0 := by omega
  have hE1 : 0 ≤ E := by omega
  have hE2 : E ≤ 1048577 := by omega
  have HE := Lib.hid hE
  obtain ⟨q0, q1, q2⟩ := boxes hb rfl
  have HT1 := Lib.hid ((HT.out.kept ((Below.refl w1.heap.size w1).alloc (Nat.le_refl _) (.cells #[.int .i64 ta.k, .int .i64 ta.n, .slice a1 ta.ks.length k1] 25))).kept hb)
  have HR4 := Lib.hid (HR3.out.kept ((Below.refl w2.heap.size w2).alloc (Nat.le_refl _) (.cells #[.int .i64 tb.k, .int .i64 tb.n, .slice a2 tb.ks.length k2] 25)))
  have HB4 := Lib.hid (HB3.out.alloc HB3.out.size (.cells #[.int .i64 tb.k, .int .i64 tb.n, .slice a2 tb.ks.length k2] 25))
  clear p0 p1 p2 f0 f1 f2 psz
  obtain ⟨p0, p1, p2, f0, f1, f2, psz⟩ := HR3.out
  clear hb hty2 hE hm
  go_wp2_with fail
  go_at_call 86
  refine (sign_N s m E HE.out 41 true (by omega) H41.out _).mono ?_
  rintro e wq ⟨rfl, rfl⟩
  go_wp2_with fail
  go_at_call 87
  refine (l2Node_any 3 ta tb _ _ (w.heap.size + 1) (w.heap.size + 1) w1.heap.size _ w2.heap.size _ (HT1.out.kept ((Below.refl _ _).alloc (Nat.le_refl _) _)) (HT2.out.kept ((Below.refl _ _).alloc (Nat.le_refl _) _)) (Nat.le_refl _) ?_ ?_ ?_ ?_ ?_).mono ?_
  · have := HZ1.out; simp; omega
  · simp
  · simp; omega
  · simp
  · simp; omega
  rintro e w3 ⟨v3, rfl, hty3, hb3⟩
  have HT3 := Lib.hid hty3
  obtain ⟨a3, k3, rfl, _⟩ := hty3.at.slice
  have HR5 := Lib.hid (HR4.out.kept hb3)
  have HB5 := Lib.hid (HB4.out.trans (hb3.mono HB4.out.size))
  clear p0 p1 p2 f0 f1 f2 psz q0 q1 q2
  obtain ⟨p0, p1, p2, f0, f1, f2, psz⟩ := HR5.out
  clear hb3 hty3
  go_wp2_with fail
  exact bodyPost_ret (v := .tuple #[.agg #[.int .i64 3, .int .i64 0, .slice a3 2 k3], .int .i64 (E + 1)]) (by simp [results, Try.results51, go_sem, p0, p1, p2, psz, Ty.k, Ty.n, Ty.ks]) rfl ⟨_, _, by have := HE.out; omega, rfl, res_ty HT3.out (Nat.le_refl _) _ _ _, res_below HB5.out _ _ _⟩

set_option maxRecDepth 100000 in
set_option maxHeartbeats 2000000 in
theorem prs_j2_2 (s : ByteArray) (hs : s.size ≤ 1048576) (d : Nat) (hd : d ≤ 16) (D : Int) (i : Nat) (I : Int) (w : World) (hD : D = ((d + 1 : Nat) : Int)) (hI : I = i) (hi : i < s.size) (hc : by8 s i = 40) (HIH : Hid (PrsT s d)) (ta : Ty) (n : Nat) (HX : Hid (prs s d (i + 1) = some (ta, n))) (H42 : Hid ((by8 s n == 42) = false)) (H62 : Hid ((by8 s n == 62) = true)) (HY : Hid (prs s d (n + 1) = none)) :
    Calls Try.prog 51 #[.string s, .int .i64 I, .int .i64 D] w (PrsRet none w) := by
  have r1 := by8_idx Try.prog 9 Try.underlying9 hi
  rw [← hI, hc] at r1
  have h0 : 0 ≤ I := by omega
  have h1 : I ≤ 1048577 := by omega
  have h2 : ¬ D < 1 := by omega
  have h3 : I < (s.size : Int) := by omega
  have HI := Lib.hid (show I + 1 = ((i + 1 : Nat) : Int) by omega)
  have HR := Lib.hid (rb_new w 25)
  have HA0 : Hid (Below w.heap.size w (w.alloc (.cells #[.int .i64 0, .int .i64 0, .slice none 0 0] 25))) := Lib.hid ((Below.refl _ _).alloc (Nat.le_refl _) _)
  have HD := Lib.hid (show D - 1 = (d : Int) by omega)
  have HLE := Lib.hid (show i + 1 ≤ 1048577 by omega)
  have h4 : 1 ≤ D := by omega
  have h5 : D ≤ 17 := by omega
  have hn : n ≤ 1048576 := Nat.le_trans (prs_le s d _ _ _ HX.out) hs
  clear hI hi hD hc
  go_enter Try.func51, Try.ntmps51
  go_wp2_with fail
  go_at_call 51
  refine (HIH.out _ _ _ _ _ HD.out HI.out HLE.out HX.out).mono ?_
  rintro e w1 ⟨v, N, hN, rfl, hty, hb⟩
  rw [sizeA] at hty
  have HT := Lib.hid hty
  obtain ⟨a1, k1, rfl, _⟩ := hty.at.slice
  have hz1 : w.heap.size < w1.heap.size := by have := hb.size; simp at this; omega
  have HR1 := Lib.hid (HR.out.kept hb)
  have HB1 := Lib.hid (HA0.out.trans (hb.mono HA0.out.size))
  have hN0 : ¬ N < 0 := by omega
  have hN1 : 0 ≤ N := by omega
  have hN2 : N ≤ 1048577 := by omega
  have HN := Lib.hid hN
  have HNS := Lib.hid (show N + 1 = ((n + 1 : Nat) : Int) by omega)
  have HLE2 := Lib.hid (show n + 1 ≤ 1048577 by omega)
  have HR2 := Lib.hid (HR1.out.kept ((Below.refl w1.heap.size w1).alloc (Nat.le_refl _) (.cells #[.int .i64 ta.k, .int .i64 ta.n, .slice a1 ta.ks.length k1] 25)))
  have HB2 := Lib.hid (HB1.out.alloc HB1.out.size (.cells #[.int .i64 ta.k, .int .i64 ta.n, .slice a1 ta.ks.length k1] 25))
  obtain ⟨p0, p1, p2, f0, f1, f2, psz⟩ := HR1.out
  have HZ1 := Lib.hid hz1
  clear hb hty hN hn
  go_wp2_with fail
  go_at_call 86
  refine (sign_N s n N HN.out 42 false (by omega) H42.out _).mono ?_
  rintro e wq ⟨rfl, rfl⟩
  go_wp2_with fail
  go_at_call 86
  refine (sign_N s n N HN.out 42 false (by omega) H42.out _).mono ?_
  rintro e wq ⟨rfl, rfl⟩
  go_wp2_with fail
  go_at_call 86
  refine (sign_N s n N HN.out 62 true (by omega) H62.out _).mono ?_
  rintro e wq ⟨rfl, rfl⟩
  go_wp2_with fail
  go_at_call 51
  refine (HIH.out _ _ _ _ _ HD.out HNS.out HLE2.out HY.out).mono ?_
  rintro e w2 ⟨E, hE, hE2, rfl, hb⟩
  have HR3 := Lib.hid (HR2.out.kept hb)
  have HB3 := Lib.hid (HB2.out.trans (hb.mono HB2.out.size))
  have hz2 : w.heap.size < w2.heap.size := HR3.out.sz
  clear p0 p1 p2 f0 f1 f2 psz
  obtain ⟨p0, p1, p2, f0, f1, f2, psz⟩ := HR3.out
  clear hb
  go_wp2_with fail
  exact bodyPost_ret (v := .tuple #[.agg #[.int .i64 0, .int .i64 0, .slice none 0 0], .int .i64 E]) (by simp [results, Try.results51, go_sem, p0, p1, p2, psz]) rfl ⟨_, by omega, by omega, rfl, (res_below HB3.out _ _ _).alloc (by have := HB3.out.size; simp; omega) _⟩

set_option maxRecDepth 100000 in
set_option maxHeartbeats 2000000 in
theorem prs_j3_2 (s : ByteArray) (hs : s.size ≤ 1048576) (d : Nat) (hd : d ≤ 16) (D : Int) (i : Nat) (I : Int) (w : World) (hD : D = ((d + 1 : Nat) : Int)) (hI : I = i) (hi : i < s.size) (hc : by8 s i = 40) (HIH : Hid (PrsT s d)) (ta : Ty) (n : Nat) (HX : Hid (prs s d (i + 1) = some (ta, n))) (H42 : Hid ((by8 s n == 42) = false)) (H62 : Hid ((by8 s n == 62) = true)) (tb : Ty) (m : Nat) (HY : Hid (prs s d (n + 1) = some (tb, m))) (H41 : Hid ((by8 s m == 41) = false)) :
    Calls Try.prog 51 #[.string s, .int .i64 I, .int .i64 D] w (PrsRet none w) := by
  have r1 := by8_idx Try.prog 9 Try.underlying9 hi
  rw [← hI, hc] at r1
  have h0 : 0 ≤ I := by omega
  have h1 : I ≤ 1048577 := by omega
  have h2 : ¬ D < 1 := by omega
  have h3 : I < (s.size : Int) := by omega
  have HI := Lib.hid (show I + 1 = ((i + 1 : Nat) : Int) by omega)
  have HR := Lib.hid (rb_new w 25)
  have HA0 : Hid (Below w.heap.size w (w.alloc (.cells #[.int .i64 0, .int .i64 0, .slice none 0 0] 25))) := Lib.hid ((Below.refl _ _).alloc (Nat.le_refl _) _)
  have HD := Lib.hid (show D - 1 = (d : Int) by omega)
  have HLE := Lib.hid (show i + 1 ≤ 1048577 by omega)
  have h4 : 1 ≤ D := by omega
  have h5 : D ≤ 17 := by omega
  have hn : n ≤ 1048576 := Nat.le_trans (prs_le s d _ _ _ HX.out) hs
  clear hI hi hD hc
  go_enter Try.func51, Try.ntmps51
  go_wp2_with fail
  go_at_call 51
  refine (HIH.out _ _ _ _ _ HD.out HI.out HLE.out HX.out).mono ?_
  rintro e w1 ⟨v, N, hN, rfl, hty, hb⟩
  rw [sizeA] at hty
  have HT := Lib.hid hty
  obtain ⟨a1, k1, rfl, _⟩ := hty.at.slice
  have hz1 : w.heap.size < w1.heap.size := by have := hb.size; simp at this; omega
  have HR1 := Lib.hid (HR.out.kept hb)
  have HB1 := Lib.hid (HA0.out.trans (hb.mono HA0.out.size))
  have hN0 : ¬ N < 0 := by omega
  have hN1 : 0 ≤ N := by omega
  have hN2 : N ≤ 1048577 := by omega
  have HN := Lib.hid hN
  have HNS := Lib.hid (show N + 1 = ((n + 1 : Nat) : Int) by omega)
  have HLE2 := Lib.hid (show n + 1 ≤ 1048577 by omega)
  have HR2 := Lib.hid (HR1.out.kept ((Below.refl w1.heap.size w1).alloc (Nat.le_refl _) (.cells #[.int .i64 ta.k, .int .i64 ta.n, .slice a1 ta.ks.length k1] 25)))
  have HB2 := Lib.hid (HB1.out.alloc HB1.out.size (.cells #[.int .i64 ta.k, .int .i64 ta.n, .slice a1 ta.ks.length k1] 25))
  obtain ⟨p0, p1, p2, f0, f1, f2, psz⟩ := HR1.out
  have HZ1 := Lib.hid hz1
  clear hb hty hN hn
  go_wp2_with fail
  go_at_call 86
  refine (sign_N s n N HN.out 42 false (by omega) H42.out _).mono ?_
  rintro e wq ⟨rfl, rfl⟩
  go_wp2_with fail
  go_at_call 86
  refine (sign_N s n N HN.out 42 false (by omega) H42.out _).mono ?_
  rintro e wq ⟨rfl, rfl⟩
  go_wp2_with fail
  go_at_call 86
  refine (sign_N s n N HN.out 62 true (by omega) H62.out _).mono ?_
  rintro e wq ⟨rfl, rfl⟩
  go_wp2_with fail
  go_at_call 51
  refine (HIH.out _ _ _ _ _ HD.out HNS.out HLE2.out HY.out).mono ?_
  rintro e w2 ⟨v2, E, hE, rfl, hty2, hb⟩
  have HT2 := Lib.hid hty2
  obtain ⟨a2, k2, rfl, _⟩ := hty2.at.slice
  have hm : m ≤ 1048576 := Nat.le_trans (prs_le s d _ _ _ HY.out) hs
  have HR3 := Lib.hid (HR2.out.kept hb)
  have HB3 := Lib.hid (HB2.out.trans (hb.mono HB2.out.size))
  have hz2 : w.heap.size < w2.heap.size := HR3.out.sz
  have hz3 : w1.heap.size < w2.heap.size := by have := hb.size; simp at this; omega
  have hE0 : ¬ E < 0 := by omega
  have hE1 : 0 ≤ E := by omega
  have hE2 : E ≤ 1048577 := by omega
  have HE := Lib.hid hE
  obtain ⟨q0, q1, q2⟩ := boxes hb rfl
  have HT1 := Lib.hid ((HT.out.kept ((Below.refl w1.heap.size w1).alloc (Nat.le_refl _) (.cells #[.int .i64 ta.k, .int .i64 ta.n, .slice a1 ta.ks.length k1] 25))).kept hb)
  have HR4 := Lib.hid (HR3.out.kept ((Below.refl w2.heap.size w2).alloc (Nat.le_refl _) (.cells #[.int .i64 tb.k, .int .i64 tb.n, .slice a2 tb.ks.length k2] 25)))
  have HB4 := Lib.hid (HB3.out.alloc HB3.out.size (.cells #[.int .i64 tb.k, .int .i64 tb.n, .slice a2 tb.ks.length k2] 25))
  clear p0 p1 p2 f0 f1 f2 psz
  obtain ⟨p0, p1, p2, f0, f1, f2, psz⟩ := HR3.out
  clear hb hty2 hE hm
  go_wp2_with fail
  go_at_call 86
  refine (sign_N s m E HE.out 41 false (by omega) H41.out _).mono ?_
  rintro e wq ⟨rfl, rfl⟩
  go_wp2_with fail
  exact bodyPost_ret (v := .tuple #[.agg #[.int .i64 0, .int .i64 0, .slice none 0 0], .int .i64 (-1 - E)]) (by simp [results, Try.results51, go_sem, p0, p1, p2, psz, hz2]) rfl ⟨_, by omega, by omega, rfl, (res_below HB3.out _ _ _).alloc (by have := HB3.out.size; simp; omega) _⟩

set_option maxRecDepth 100000 in
set_option maxHeartbeats 2000000 in
theorem prs_j4_2 (s : ByteArray) (hs : s.size ≤ 1048576) (d : Nat) (hd : d ≤ 16) (D : Int) (i : Nat) (I : Int) (w : World) (hD : D = ((d + 1 : Nat) : Int)) (hI : I = i) (hi : i < s.size) (hc : by8 s i = 40) (HIH : Hid (PrsT s d)) (ta : Ty) (n : Nat) (HX : Hid (prs s d (i + 1) = some (ta, n))) (H42 : Hid ((by8 s n == 42) = false)) (H62 : Hid ((by8 s n == 62) = true)) (tb : Ty) (m : Nat) (HY : Hid (prs s d (n + 1) = some (tb, m))) (H41 : Hid ((by8 s m == 41) = true)) :
    Calls Try.prog 51 #[.string s, .int .i64 I, .int .i64 D] w (PrsRet (some (.node 2 0 [ta, tb], m + 1)) w) := by
  have r1 := by8_idx Try.prog 9 Try.underlying9 hi
  rw [← hI, hc] at r1
  have h0 : 0 ≤ I := by omega
  have h1 : I ≤ 1048577 := by omega
  have h2 : ¬ D < 1 := by omega
  have h3 : I < (s.size : Int) := by omega
  have HI := Lib.hid (show I + 1 = ((i + 1 : Nat) : Int) by omega)
  have HR := Lib.hid (rb_new w 25)
  have HA0 : Hid (Below w.heap.size w (w.alloc (.cells #[.int .i64 0, .int .i64 0, .slice none 0 0] 25))) := Lib.hid ((Below.refl _ _).alloc (Nat.le_refl _) _)
  have HD := Lib.hid (show D - 1 = (d : Int) by omega)
  have HLE := Lib.hid (show i + 1 ≤ 1048577 by omega)
  have h4 : 1 ≤ D := by omega
  have h5 : D ≤ 17 := by omega
  have hn : n ≤ 1048576 := Nat.le_trans (prs_le s d _ _ _ HX.out) hs
  clear hI hi hD hc
  go_enter Try.func51, Try.ntmps51
  go_wp2_with fail
  go_at_call 51
  refine (HIH.out _ _ _ _ _ HD.out HI.out HLE.out HX.out).mono ?_
  rintro e w1 ⟨v, N, hN, rfl, hty, hb⟩
  rw [sizeA] at hty
  have HT := Lib.hid hty
  obtain ⟨a1, k1, rfl, _⟩ := hty.at.slice
  have hz1 : w.heap.size < w1.heap.size := by have := hb.size; simp at this; omega
  have HR1 := Lib.hid (HR.out.kept hb)
  have HB1 := Lib.hid (HA0.out.trans (hb.mono HA0.out.size))
  have hN0 : ¬ N < 0 := by omega
  have hN1 : 0 ≤ N := by omega
  have hN2 : N ≤ 1048577 := by omega
  have HN := Lib.hid hN
  have HNS := Lib.hid (show N + 1 = ((n + 1 : Nat) : Int) by omega)
  have HLE2 := Lib.hid (show n + 1 ≤ 1048577 by omega)
  have HR2 := Lib.hid (HR1.out.kept ((Below.refl w1.heap.size w1).alloc (Nat.le_refl _) (.cells #[.int .i64 ta.k, .int .i64 ta.n, .slice a1 ta.ks.length k1] 25)))
  have HB2 := Lib.hid (HB1.out.alloc HB1.out.size (.cells #[.int .i64 ta.k, .int .i64 ta.n, .slice a1 ta.ks.length k1] 25))
  obtain ⟨p0, p1, p2, f0, f1, f2, psz⟩ := HR1.out
  have HZ1 := Lib.hid hz1
  clear hb hty hN hn
  go_wp2_with fail
  go_at_call 86
  refine (sign_N s n N HN.out 42 false (by omega) H42.out _).mono ?_
  rintro e wq ⟨rfl, rfl⟩
  go_wp2_with fail
  go_at_call 86
  refine (sign_N s n N HN.out 42 false (by omega) H42.out _).mono ?_
  rintro e wq ⟨rfl, rfl⟩
  go_wp2_with fail
  go_at_call 86
  refine (sign_N s n N HN.out 62 true (by omega) H62.out _).mono ?_
  rintro e wq ⟨rfl, rfl⟩
  go_wp2_with fail
  go_at_call 51
  refine (HIH.out _ _ _ _ _ HD.out HNS.out HLE2.out HY.out).mono ?_
  rintro e w2 ⟨v2, E, hE, rfl, hty2, hb⟩
  have HT2 := Lib.hid hty2
  obtain ⟨a2, k2, rfl, _⟩ := hty2.at.slice
  have hm : m ≤ 1048576 := Nat.le_trans (prs_le s d _ _ _ HY.out) hs
  have HR3 := Lib.hid (HR2.out.kept hb)
  have HB3 := Lib.hid (HB2.out.trans (hb.mono HB2.out.size))
  have hz2 : w.heap.size < w2.heap.size := HR3.out.sz
  have hz3 : w1.heap.size < w2.heap.size := by have := hb.size; simp at this; omega
  have hE0 : ¬ E < 0 := by omega
  have hE1 : 0 ≤ E := by omega
  have hE2 : E ≤ 1048577 := by omega
  have HE := Lib.hid hE
  obtain ⟨q0, q1, q2⟩ := boxes hb rfl
  have HT1 := Lib.hid ((HT.out.kept ((Below.refl w1.heap.size w1).alloc (Nat.le_refl _) (.cells #[.int .i64 ta.k, .int .i64 ta.n, .slice a1 ta.ks.length k1] 25))).kept hb)
  have HR4 := Lib.hid (HR3.out.kept ((Below.refl w2.heap.size w2).alloc (Nat.le_refl _) (.cells #[.int .i64 tb.k, .int .i64 tb.n, .slice a2 tb.ks.length k2] 25)))
  have HB4 := Lib.hid (HB3.out.alloc HB3.out.size (.cells #[.int .i64 tb.k, .int .i64 tb.n, .slice a2 tb.ks.length k2] 25))
  clear p0 p1 p2 f0 f1 f2 psz
  obtain ⟨p0, p1, p2, f0, f1, f2, psz⟩ := HR3.out
  clear hb hty2 hE hm
  go_wp2_with fail
  go_at_call 86
  refine (sign_N s m E HE.out 41 true (by omega) H41.out _).mono ?_
  rintro e wq ⟨rfl, rfl⟩
  go_wp2_with fail
  go_at_call 87
  refine (l2Node_any 2 ta tb _ _ (w.heap.size + 1) (w.heap.size + 1) w1.heap.size _ w2.heap.size _ (HT1.out.kept ((Below.refl _ _).alloc (Nat.le_refl _) _)) (HT2.out.kept ((Below.refl _ _).alloc (Nat.le_refl _) _)) (Nat.le_refl _) ?_ ?_ ?_ ?_ ?_).mono ?_
  · have := HZ1.out; simp; omega
  · simp
  · simp; omega
  · simp
  · simp; omega
  rintro e w3 ⟨v3, rfl, hty3, hb3⟩
  have HT3 := Lib.hid hty3
  obtain ⟨a3, k3, rfl, _⟩ := hty3.at.slice
  have HR5 := Lib.hid (HR4.out.kept hb3)
  have HB5 := Lib.hid (HB4.out.trans (hb3.mono HB4.out.size))
  clear p0 p1 p2 f0 f1 f2 psz q0 q1 q2
  obtain ⟨p0, p1, p2, f0, f1, f2, psz⟩ := HR5.out
  clear hb3 hty3
  go_wp2_with fail
  exact bodyPost_ret (v := .tuple #[.agg #[.int .i64 2, .int .i64 0, .slice a3 2 k3], .int .i64 (E + 1)]) (by simp [results, Try.results51, go_sem, p0, p1, p2, psz, Ty.k, Ty.n, Ty.ks]) rfl ⟨_, _, by have := HE.out; omega, rfl, res_ty HT3.out (Nat.le_refl _) _ _ _, res_below HB5.out _ _ _⟩

end Go.Proofs.Ytndpoejohpmifaa
