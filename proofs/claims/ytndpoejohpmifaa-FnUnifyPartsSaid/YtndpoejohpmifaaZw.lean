/-
  parseJoin of the program, and so parse for every text.
-/
import Derived.Test.YtndpoejohpmifaaZv
namespace Go.Proofs.Ytndpoejohpmifaa
open Go.RowKit
set_option linter.unusedVariables false
set_option linter.unusedSimpArgs false

theorem box_inside {w w1 w2 : World} {B p : Nat} {x y z : Value} (h : w1.cell? ⟨B, 0, none⟩ = some x ∧ w1.cell? ⟨B, 1, none⟩ = some y ∧ w1.cell? ⟨B, 2, none⟩ = some z) (hI : Inside p (p + 1) w1 w2) (hp : p < B) (hB : B < w1.heap.size) :
    w2.cell? ⟨B, 0, none⟩ = some x ∧ w2.cell? ⟨B, 1, none⟩ = some y ∧ w2.cell? ⟨B, 2, none⟩ = some z := by
  have e := hI.block B hB (.inr (by omega))
  exact ⟨(cellEq e).trans h.1, (cellEq e).trans h.2.1, (cellEq e).trans h.2.2⟩
theorem box_new (w : World) (x y z : Value) (T : TypeId) : (w.alloc (.cells #[x, y, z] T)).cell? ⟨w.heap.size, 0, none⟩ = some x ∧ (w.alloc (.cells #[x, y, z] T)).cell? ⟨w.heap.size, 1, none⟩ = some y ∧ (w.alloc (.cells #[x, y, z] T)).cell? ⟨w.heap.size, 2, none⟩ = some z := ⟨by go_simp, by go_simp, by go_simp⟩
theorem bx_kept {w1 w2 : World} {B : Nat} {x y z : Value} (h : w1.cell? ⟨B, 0, none⟩ = some x ∧ w1.cell? ⟨B, 1, none⟩ = some y ∧ w1.cell? ⟨B, 2, none⟩ = some z) (hb : Below w1.heap.size w1 w2) (hB : B < w1.heap.size) :
    w2.cell? ⟨B, 0, none⟩ = some x ∧ w2.cell? ⟨B, 1, none⟩ = some y ∧ w2.cell? ⟨B, 2, none⟩ = some z :=
  ⟨(hb.cell (p := ⟨B, 0, none⟩) hB).trans h.1, (hb.cell (p := ⟨B, 1, none⟩) hB).trans h.2.1, (hb.cell (p := ⟨B, 2, none⟩) hB).trans h.2.2⟩
theorem TyIn.inside {w w' : World} {lo hi p : Nat} {t : Ty} {v : Value} (h : TyIn w lo hi t v) (hI : Inside p (p + 1) w w') (hp : p < lo) : TyIn w' lo hi t v :=
  h.keep hI.size (fun b h1 _ h3 => hI.block b h3 (.inr (by omega)))

set_option maxRecDepth 100000 in
set_option maxHeartbeats 2000000 in
theorem join_0 (s : ByteArray) (hs : s.size ≤ 1048576) (d : Nat) (hd : d ≤ 16) (D : Int) (i p : Nat) (w : World) (hD : D = ((d + 1 : Nat) : Int)) (hi : i ≤ s.size) (hp : PAt w p s i) (HIH : Hid (ImpT s d)) (HX : Hid (prs s d i = none)) :
    Calls Try.prog 75 #[.pointer (some ⟨p, 0, none⟩), .int .i64 D] w (ImpRet p s none w) := by
  have HP0 := Lib.hid (hp.kept ((Below.refl _ _).alloc (Nat.le_refl _) (.cells #[.int .i64 0, .int .i64 0, .slice none 0 0] 25)))
  have HR0 := Lib.hid (rb_new w 25)
  have HI0 : Hid (Inside p (p + 1) w (w.alloc (.cells #[.int .i64 0, .int .i64 0, .slice none 0 0] 25))) := Lib.hid (Inside.of_below ((Below.refl _ _).alloc (Nat.le_refl _) _))
  have hz := hp.sz
  have h4 : 1 ≤ D := by omega
  have h5 : D ≤ 17 := by omega
  have HI := Lib.hid hi
  have HD := Lib.hid (show D - 1 = (d : Int) by omega)
  clear hp hD hi
  go_enter Try.func75, Try.ntmps75
  go_wp2_with fail
  go_at_call 40
  refine (HIH.out _ _ _ _ _ HD.out HI.out HP0.out HX.out).mono ?_
  rintro e w1 ⟨rfl, hn, hI1⟩
  have HN := Lib.hid hn
  have hz1 : w.heap.size + 1 ≤ w1.heap.size := by have := hI1.size; simp at this; omega
  have HI1 := Lib.hid (HI0.out.trans hI1)
  have HR1 := Lib.hid (HR0.out.inside hI1 hz)
  obtain ⟨p0, p1, p2, f0, f1, f2, psz⟩ := HR1.out
  clear hn hI1
  go_wp2_with fail
  exact bodyPost_ret (v := .tuple #[.agg #[.int .i64 0, .int .i64 0, .slice none 0 0], .bool false]) (by simp [results, Try.results75, go_sem, p0, p1, p2, psz]) rfl ⟨rfl, (by obtain ⟨n, h1, h2⟩ := HN.out; exact ⟨n, h1, (PAt.res h2 (by omega) _ _ _).kept ((Below.refl _ _).alloc (Nat.le_refl _) _)⟩), (imp_res HI1.out (Nat.le_refl _) hz (by omega) _ _ _).trans (Inside.of_below ((Below.refl _ _).alloc (Nat.le_refl _) _))⟩

set_option maxRecDepth 100000 in
set_option maxHeartbeats 2000000 in
theorem join_1 (s : ByteArray) (hs : s.size ≤ 1048576) (d : Nat) (hd : d ≤ 16) (D : Int) (i p : Nat) (w : World) (hD : D = ((d + 1 : Nat) : Int)) (hi : i ≤ s.size) (hp : PAt w p s i) (HIH : Hid (ImpT s d)) (ta : Ty) (n : Nat) (HX : Hid (prs s d i = some (ta, n))) (H62 : Hid (by8 s n ≠ 62)) (H42 : Hid (by8 s n ≠ 42)) :
    Calls Try.prog 75 #[.pointer (some ⟨p, 0, none⟩), .int .i64 D] w (ImpRet p s none w) := by
  have HP0 := Lib.hid (hp.kept ((Below.refl _ _).alloc (Nat.le_refl _) (.cells #[.int .i64 0, .int .i64 0, .slice none 0 0] 25)))
  have HR0 := Lib.hid (rb_new w 25)
  have HI0 : Hid (Inside p (p + 1) w (w.alloc (.cells #[.int .i64 0, .int .i64 0, .slice none 0 0] 25))) := Lib.hid (Inside.of_below ((Below.refl _ _).alloc (Nat.le_refl _) _))
  have hz := hp.sz
  have h4 : 1 ≤ D := by omega
  have h5 : D ≤ 17 := by omega
  have HI := Lib.hid hi
  have HD := Lib.hid (show D - 1 = (d : Int) by omega)
  clear hp hD hi
  go_enter Try.func75, Try.ntmps75
  go_wp2_with fail
  go_at_call 40
  refine (HIH.out _ _ _ _ _ HD.out HI.out HP0.out HX.out).mono ?_
  rintro e w1 ⟨v, rfl, hty, hp1, hI1⟩
  obtain ⟨a1, k1, rfl, _⟩ := hty.at.slice
  have hnn : n ≤ s.size := prs_le s d _ _ _ HX.out
  have hz1 : w.heap.size + 1 ≤ w1.heap.size := by have := hI1.size; simp at this; omega
  have HT := Lib.hid (hty.wide (show w.heap.size + 1 ≤ _ by simp) (Nat.le_refl _))
  have HA : Hid (Below w1.heap.size w1 (w1.alloc (.cells #[.int .i64 ta.k, .int .i64 ta.n, .slice a1 ta.ks.length k1] 25))) := Lib.hid ((Below.refl _ _).alloc (Nat.le_refl _) _)
  have HP2 := Lib.hid (hp1.kept HA.out)
  have HI2 := Lib.hid ((HI0.out.trans hI1).trans (Inside.of_below HA.out))
  have HR2 := Lib.hid ((HR0.out.inside hI1 hz).kept HA.out)
  have HX2 := Lib.hid (box_new w1 (.int .i64 ta.k) (.int .i64 ta.n) (.slice a1 ta.ks.length k1) 25)
  have HT2 := Lib.hid (HT.out.kept HA.out)
  have hzA : (w1.alloc (.cells #[.int .i64 ta.k, .int .i64 ta.n, .slice a1 ta.ks.length k1] 25)).heap.size = w1.heap.size + 1 := by simp
  clear hp1 hI1 hty HP0 HR0 HI0
  go_wp2_with fail
  obtain ⟨W1, hW1⟩ : ∃ W1, w1.alloc (.cells #[.int .i64 ta.k, .int .i64 ta.n, .slice a1 ta.ks.length k1] 25) = W1 := ⟨_, rfl⟩
  rw [hW1] at HA HP2 HI2 HR2 HX2 HT2 hzA ⊢
  clear hW1
  go_at_call 74
  refine (next_any p s n _ HP2.out hnn hs).mono ?_
  rintro e w2 ⟨rfl, hp2, hI2⟩
  have HP3 := Lib.hid hp2
  have hz2 : w1.heap.size + 1 ≤ w2.heap.size := by have := hI2.size; omega
  have HI3 := Lib.hid (HI2.out.trans hI2)
  have HR3 := Lib.hid (HR2.out.inside hI2 hz)
  have HX3 := Lib.hid (box_inside (w := w) HX2.out hI2 (by omega) (by omega))
  have HT3 := Lib.hid (HT2.out.inside hI2 (by omega))
  clear hp2 hI2 HP2 HR2 HX2 HT2 HI2
  have HN : Hid (∃ j, j ≤ s.size ∧ PAt w2 p s j) := Lib.hid ⟨_, by split <;> omega, HP3.out⟩
  obtain ⟨p0, p1, p2, f0, f1, f2, psz⟩ := HR3.out
  clear hnn
  go_wp2_with fail
  go_at_call 115
  refine (joinKind_no _ H62.out H42.out _).mono ?_
  rintro e wq ⟨rfl, rfl⟩
  go_wp2_with fail
  exact bodyPost_ret (v := .tuple #[.agg #[.int .i64 0, .int .i64 0, .slice none 0 0], .bool false]) (by simp [results, Try.results75, go_sem, p0, p1, p2, psz]) rfl ⟨rfl, (by obtain ⟨n, h1, h2⟩ := HN.out; exact ⟨n, h1, (PAt.res h2 (by omega) _ _ _)⟩), (imp_res HI3.out (Nat.le_refl _) hz (by omega) _ _ _)⟩

set_option maxRecDepth 100000 in
set_option maxHeartbeats 2000000 in
theorem join_2_fun (s : ByteArray) (hs : s.size ≤ 1048576) (d : Nat) (hd : d ≤ 16) (D : Int) (i p : Nat) (w : World) (hD : D = ((d + 1 : Nat) : Int)) (hi : i ≤ s.size) (hp : PAt w p s i) (HIH : Hid (ImpT s d)) (ta : Ty) (n : Nat) (HX : Hid (prs s d i = some (ta, n))) (hc : by8 s n = 62) (HY : Hid (prs s d (n + 1) = none)) :
    Calls Try.prog 75 #[.pointer (some ⟨p, 0, none⟩), .int .i64 D] w (ImpRet p s none w) := by
  have HP0 := Lib.hid (hp.kept ((Below.refl _ _).alloc (Nat.le_refl _) (.cells #[.int .i64 0, .int .i64 0, .slice none 0 0] 25)))
  have HR0 := Lib.hid (rb_new w 25)
  have HI0 : Hid (Inside p (p + 1) w (w.alloc (.cells #[.int .i64 0, .int .i64 0, .slice none 0 0] 25))) := Lib.hid (Inside.of_below ((Below.refl _ _).alloc (Nat.le_refl _) _))
  have hz := hp.sz
  have h4 : 1 ≤ D := by omega
  have h5 : D ≤ 17 := by omega
  have HI := Lib.hid hi
  have HD := Lib.hid (show D - 1 = (d : Int) by omega)
  clear hp hD hi
  go_enter Try.func75, Try.ntmps75
  go_wp2_with fail
  go_at_call 40
  refine (HIH.out _ _ _ _ _ HD.out HI.out HP0.out HX.out).mono ?_
  rintro e w1 ⟨v, rfl, hty, hp1, hI1⟩
  obtain ⟨a1, k1, rfl, _⟩ := hty.at.slice
  have hnn : n ≤ s.size := prs_le s d _ _ _ HX.out
  have hz1 : w.heap.size + 1 ≤ w1.heap.size := by have := hI1.size; simp at this; omega
  have HT := Lib.hid (hty.wide (show w.heap.size + 1 ≤ _ by simp) (Nat.le_refl _))
  have HA : Hid (Below w1.heap.size w1 (w1.alloc (.cells #[.int .i64 ta.k, .int .i64 ta.n, .slice a1 ta.ks.length k1] 25))) := Lib.hid ((Below.refl _ _).alloc (Nat.le_refl _) _)
  have HP2 := Lib.hid (hp1.kept HA.out)
  have HI2 := Lib.hid ((HI0.out.trans hI1).trans (Inside.of_below HA.out))
  have HR2 := Lib.hid ((HR0.out.inside hI1 hz).kept HA.out)
  have HX2 := Lib.hid (box_new w1 (.int .i64 ta.k) (.int .i64 ta.n) (.slice a1 ta.ks.length k1) 25)
  have HT2 := Lib.hid (HT.out.kept HA.out)
  have hzA : (w1.alloc (.cells #[.int .i64 ta.k, .int .i64 ta.n, .slice a1 ta.ks.length k1] 25)).heap.size = w1.heap.size + 1 := by simp
  have hlt : n < s.size := by
    by_cases h : n < s.size
    · exact h
    · rw [by8_end h] at hc; omega
  clear hp1 hI1 hty HP0 HR0 HI0
  go_wp2_with fail
  obtain ⟨W1, hW1⟩ : ∃ W1, w1.alloc (.cells #[.int .i64 ta.k, .int .i64 ta.n, .slice a1 ta.ks.length k1] 25) = W1 := ⟨_, rfl⟩
  rw [hW1] at HA HP2 HI2 HR2 HX2 HT2 hzA ⊢
  clear hW1
  go_at_call 74
  refine (next_any p s n _ HP2.out hnn hs).mono ?_
  rintro e w2 ⟨rfl, hp2, hI2⟩
  have HP3 := Lib.hid hp2
  have hz2 : w1.heap.size + 1 ≤ w2.heap.size := by have := hI2.size; omega
  have HI3 := Lib.hid (HI2.out.trans hI2)
  have HR3 := Lib.hid (HR2.out.inside hI2 hz)
  have HX3 := Lib.hid (box_inside (w := w) HX2.out hI2 (by omega) (by omega))
  have HT3 := Lib.hid (HT2.out.inside hI2 (by omega))
  clear hp2 hI2 HP2 HR2 HX2 HT2 HI2
  rw [if_pos hlt] at HP3
  rw [hc]
  have hlt' : n + 1 ≤ s.size := hlt
  have HLT := Lib.hid hlt'
  obtain ⟨p0, p1, p2, f0, f1, f2, psz⟩ := HR3.out
  clear hnn hlt hlt'
  go_wp2_with fail
  go_at_call 115
  refine (joinKind_fun _).mono ?_
  rintro e wq ⟨rfl, hq⟩
  have hq2 := hq.symm
  clear hq
  subst hq2
  go_wp2_with fail
  go_at_call 40
  refine (HIH.out _ _ _ _ _ HD.out HLT.out HP3.out HY.out).mono ?_
  rintro e w3 ⟨rfl, hn, hI4⟩
  have HN := Lib.hid hn
  have hz3 : w2.heap.size ≤ w3.heap.size := hI4.size
  have HI4 := Lib.hid (HI3.out.trans hI4)
  have HR4 := Lib.hid (HR3.out.inside hI4 hz)
  clear p0 p1 p2 f0 f1 f2 psz
  obtain ⟨p0, p1, p2, f0, f1, f2, psz⟩ := HR4.out
  clear hn hI4
  go_wp2_with fail
  exact bodyPost_ret (v := .tuple #[.agg #[.int .i64 0, .int .i64 0, .slice none 0 0], .bool false]) (by simp [results, Try.results75, go_sem, p0, p1, p2, psz]) rfl ⟨rfl, (by obtain ⟨n, h1, h2⟩ := HN.out; exact ⟨n, h1, (PAt.res h2 (by omega) _ _ _).kept ((Below.refl _ _).alloc (Nat.le_refl _) _)⟩), (imp_res HI4.out (Nat.le_refl _) hz (by omega) _ _ _).trans (Inside.of_below ((Below.refl _ _).alloc (Nat.le_refl _) _))⟩

set_option maxRecDepth 100000 in
set_option maxHeartbeats 2000000 in
theorem join_3_fun (s : ByteArray) (hs : s.size ≤ 1048576) (d : Nat) (hd : d ≤ 16) (D : Int) (i p : Nat) (w : World) (hD : D = ((d + 1 : Nat) : Int)) (hi : i ≤ s.size) (hp : PAt w p s i) (HIH : Hid (ImpT s d)) (ta : Ty) (n : Nat) (HX : Hid (prs s d i = some (ta, n))) (hc : by8 s n = 62) (tb : Ty) (m : Nat) (HY : Hid (prs s d (n + 1) = some (tb, m))) (H41 : Hid ((by8 s m == 41) = false)) :
    Calls Try.prog 75 #[.pointer (some ⟨p, 0, none⟩), .int .i64 D] w (ImpRet p s none w) := by
  have HP0 := Lib.hid (hp.kept ((Below.refl _ _).alloc (Nat.le_refl _) (.cells #[.int .i64 0, .int .i64 0, .slice none 0 0] 25)))
  have HR0 := Lib.hid (rb_new w 25)
  have HI0 : Hid (Inside p (p + 1) w (w.alloc (.cells #[.int .i64 0, .int .i64 0, .slice none 0 0] 25))) := Lib.hid (Inside.of_below ((Below.refl _ _).alloc (Nat.le_refl _) _))
  have hz := hp.sz
  have h4 : 1 ≤ D := by omega
  have h5 : D ≤ 17 := by omega
  have HI := Lib.hid hi
  have HD := Lib.hid (show D - 1 = (d : Int) by omega)
  clear hp hD hi
  go_enter Try.func75, Try.ntmps75
  go_wp2_with fail
  go_at_call 40
  refine (HIH.out _ _ _ _ _ HD.out HI.out HP0.out HX.out).mono ?_
  rintro e w1 ⟨v, rfl, hty, hp1, hI1⟩
  obtain ⟨a1, k1, rfl, _⟩ := hty.at.slice
  have hnn : n ≤ s.size := prs_le s d _ _ _ HX.out
  have hz1 : w.heap.size + 1 ≤ w1.heap.size := by have := hI1.size; simp at this; omega
  have HT := Lib.hid (hty.wide (show w.heap.size + 1 ≤ _ by simp) (Nat.le_refl _))
  have HA : Hid (Below w1.heap.size w1 (w1.alloc (.cells #[.int .i64 ta.k, .int .i64 ta.n, .slice a1 ta.ks.length k1] 25))) := Lib.hid ((Below.refl _ _).alloc (Nat.le_refl _) _)
  have HP2 := Lib.hid (hp1.kept HA.out)
  have HI2 := Lib.hid ((HI0.out.trans hI1).trans (Inside.of_below HA.out))
  have HR2 := Lib.hid ((HR0.out.inside hI1 hz).kept HA.out)
  have HX2 := Lib.hid (box_new w1 (.int .i64 ta.k) (.int .i64 ta.n) (.slice a1 ta.ks.length k1) 25)
  have HT2 := Lib.hid (HT.out.kept HA.out)
  have hzA : (w1.alloc (.cells #[.int .i64 ta.k, .int .i64 ta.n, .slice a1 ta.ks.length k1] 25)).heap.size = w1.heap.size + 1 := by simp
  have hlt : n < s.size := by
    by_cases h : n < s.size
    · exact h
    · rw [by8_end h] at hc; omega
  clear hp1 hI1 hty HP0 HR0 HI0
  go_wp2_with fail
  obtain ⟨W1, hW1⟩ : ∃ W1, w1.alloc (.cells #[.int .i64 ta.k, .int .i64 ta.n, .slice a1 ta.ks.length k1] 25) = W1 := ⟨_, rfl⟩
  rw [hW1] at HA HP2 HI2 HR2 HX2 HT2 hzA ⊢
  clear hW1
  go_at_call 74
  refine (next_any p s n _ HP2.out hnn hs).mono ?_
  rintro e w2 ⟨rfl, hp2, hI2⟩
  have HP3 := Lib.hid hp2
  have hz2 : w1.heap.size + 1 ≤ w2.heap.size := by have := hI2.size; omega
  have HI3 := Lib.hid (HI2.out.trans hI2)
  have HR3 := Lib.hid (HR2.out.inside hI2 hz)
  have HX3 := Lib.hid (box_inside (w := w) HX2.out hI2 (by omega) (by omega))
  have HT3 := Lib.hid (HT2.out.inside hI2 (by omega))
  clear hp2 hI2 HP2 HR2 HX2 HT2 HI2
  rw [if_pos hlt] at HP3
  rw [hc]
  have hlt' : n + 1 ≤ s.size := hlt
  have HLT := Lib.hid hlt'
  obtain ⟨p0, p1, p2, f0, f1, f2, psz⟩ := HR3.out
  clear hnn hlt hlt'
  go_wp2_with fail
  go_at_call 115
  refine (joinKind_fun _).mono ?_
  rintro e wq ⟨rfl, hq⟩
  have hq2 := hq.symm
  clear hq
  subst hq2
  go_wp2_with fail
  go_at_call 40
  refine (HIH.out _ _ _ _ _ HD.out HLT.out HP3.out HY.out).mono ?_
  rintro e w3 ⟨v2, rfl, hty2, hp4, hI4⟩
  obtain ⟨a2, k2, rfl, _⟩ := hty2.at.slice
  have hmm : m ≤ s.size := prs_le s d _ _ _ HY.out
  have hz3 : w2.heap.size ≤ w3.heap.size := hI4.size
  have HB : Hid (Below w3.heap.size w3 (w3.alloc (.cells #[.int .i64 tb.k, .int .i64 tb.n, .slice a2 tb.ks.length k2] 25))) := Lib.hid ((Below.refl _ _).alloc (Nat.le_refl _) _)
  have HP4 := Lib.hid (hp4.kept HB.out)
  have HI4 := Lib.hid ((HI3.out.trans hI4).trans (Inside.of_below HB.out))
  have HR4 := Lib.hid ((HR3.out.inside hI4 hz).kept HB.out)
  have HX4 := Lib.hid (bx_kept (box_inside (w := w) HX3.out hI4 (by omega) (by omega)) HB.out (by omega))
  have HT4 := Lib.hid ((HT3.out.inside hI4 (by omega)).kept HB.out)
  have HY4 := Lib.hid (hty2.kept HB.out)
  have HZ4 := Lib.hid (box_new w3 (.int .i64 tb.k) (.int .i64 tb.n) (.slice a2 tb.ks.length k2) 25)
  have hzB : (w3.alloc (.cells #[.int .i64 tb.k, .int .i64 tb.n, .slice a2 tb.ks.length k2] 25)).heap.size = w3.heap.size + 1 := by simp
  clear hty2 hp4 hI4 HP3 HX3 HT3 HI3 p0 p1 p2 f0 f1 f2 psz
  go_wp2_with fail
  obtain ⟨W3, hW3⟩ : ∃ W3, w3.alloc (.cells #[.int .i64 tb.k, .int .i64 tb.n, .slice a2 tb.ks.length k2] 25) = W3 := ⟨_, rfl⟩
  rw [hW3] at HB HP4 HI4 HR4 HX4 HT4 HY4 HZ4 hzB ⊢
  clear hW3
  go_at_call 74
  refine (next_any p s m _ HP4.out hmm hs).mono ?_
  rintro e w5 ⟨rfl, hp5, hI5⟩
  have hz5 : w3.heap.size + 1 ≤ w5.heap.size := by have := hI5.size; omega
  have HP5 := Lib.hid hp5
  have HI5 := Lib.hid (HI4.out.trans hI5)
  have HR5 := Lib.hid (HR4.out.inside hI5 hz)
  have HX5 := Lib.hid (box_inside (w := w) HX4.out hI5 (by omega) (by omega))
  have HZ5 := Lib.hid (box_inside (w := w) HZ4.out hI5 (by omega) (by omega))
  have HT5 := Lib.hid (HT4.out.inside hI5 (by omega))
  have HY5 := Lib.hid (HY4.out.inside hI5 (by omega))
  clear hp5 hI5 HP4 HX4 HT4 HI4 HY4 HZ4
  have HN : Hid (∃ j, j ≤ s.size ∧ PAt w5 p s j) := Lib.hid ⟨_, by split <;> omega, HP5.out⟩
  have h41 := H41.out
  obtain ⟨p0, p1, p2, f0, f1, f2, psz⟩ := HR5.out
  clear hmm
  go_wp2_with fail
  exact bodyPost_ret (v := .tuple #[.agg #[.int .i64 0, .int .i64 0, .slice none 0 0], .bool false]) (by simp [results, Try.results75, go_sem, p0, p1, p2, psz]) rfl ⟨rfl, (by obtain ⟨n, h1, h2⟩ := HN.out; exact ⟨n, h1, (PAt.res h2 (by omega) _ _ _)⟩), (imp_res HI5.out (Nat.le_refl _) hz (by omega) _ _ _)⟩

set_option maxRecDepth 100000 in
set_option maxHeartbeats 2000000 in
theorem join_4_fun (s : ByteArray) (hs : s.size ≤ 1048576) (d : Nat) (hd : d ≤ 16) (D : Int) (i p : Nat) (w : World) (hD : D = ((d + 1 : Nat) : Int)) (hi : i ≤ s.size) (hp : PAt w p s i) (HIH : Hid (ImpT s d)) (ta : Ty) (n : Nat) (HX : Hid (prs s d i = some (ta, n))) (hc : by8 s n = 62) (tb : Ty) (m : Nat) (HY : Hid (prs s d (n + 1) = some (tb, m))) (H41 : Hid ((by8 s m == 41) = true)) :
    Calls Try.prog 75 #[.pointer (some ⟨p, 0, none⟩), .int .i64 D] w (ImpRet p s (some (.node 2 0 [ta, tb], m + 1)) w) := by
  have HP0 := Lib.hid (hp.kept ((Below.refl _ _).alloc (Nat.le_refl _) (.cells #[.int .i64 0, .int .i64 0, .slice none 0 0] 25)))
  have HR0 := Lib.hid (rb_new w 25)
  have HI0 : Hid (Inside p (p + 1) w (w.alloc (.cells #[.int .i64 0, .int .i64 0, .slice none 0 0] 25))) := Lib.hid (Inside.of_below ((Below.refl _ _).alloc (Nat.le_refl _) _))
  have hz := hp.sz
  have h4 : 1 ≤ D := by omega
  have h5 : D ≤ 17 := by omega
  have HI := Lib.hid hi
  have HD := Lib.hid (show D - 1 = (d : Int) by omega)
  clear hp hD hi
  go_enter Try.func75, Try.ntmps75
  go_wp2_with fail
  go_at_call 40
  refine (HIH.out _ _ _ _ _ HD.out HI.out HP0.out HX.out).mono ?_
  rintro e w1 ⟨v, rfl, hty, hp1, hI1⟩
  obtain ⟨a1, k1, rfl, _⟩ := hty.at.slice
  have hnn : n ≤ s.size := prs_le s d _ _ _ HX.out
  have hz1 : w.heap.size + 1 ≤ w1.heap.size := by have := hI1.size; simp at this; omega
  have HT := Lib.hid (hty.wide (show w.heap.size + 1 ≤ _ by simp) (Nat.le_refl _))
  have HA : Hid (Below w1.heap.size w1 (w1.alloc (.cells #[.int .i64 ta.k, .int .i64 ta.n, .slice a1 ta.ks.length k1] 25))) := Lib.hid ((Below.refl _ _).alloc (Nat.le_refl _) _)
  have HP2 := Lib.hid (hp1.kept HA.out)
  have HI2 := Lib.hid ((HI0.out.trans hI1).trans (Inside.of_below HA.out))
  have HR2 := Lib.hid ((HR0.out.inside hI1 hz).kept HA.out)
  have HX2 := Lib.hid (box_new w1 (.int .i64 ta.k) (.int .i64 ta.n) (.slice a1 ta.ks.length k1) 25)
  have HT2 := Lib.hid (HT.out.kept HA.out)
  have hzA : (w1.alloc (.cells #[.int .i64 ta.k, .int .i64 ta.n, .slice a1 ta.ks.length k1] 25)).heap.size = w1.heap.size + 1 := by simp
  have hlt : n < s.size := by
    by_cases h : n < s.size
    · exact h
    · rw [by8_end h] at hc; omega
  clear hp1 hI1 hty HP0 HR0 HI0
  go_wp2_with fail
  obtain ⟨W1, hW1⟩ : ∃ W1, w1.alloc (.cells #[.int .i64 ta.k, .int .i64 ta.n, .slice a1 ta.ks.length k1] 25) = W1 := ⟨_, rfl⟩
  rw [hW1] at HA HP2 HI2 HR2 HX2 HT2 hzA ⊢
  clear hW1
  go_at_call 74
  refine (next_any p s n _ HP2.out hnn hs).mono ?_
  rintro e w2 ⟨rfl, hp2, hI2⟩
  have HP3 := Lib.hid hp2
  have hz2 : w1.heap.size + 1 ≤ w2.heap.size := by have := hI2.size; omega
  have HI3 := Lib.hid (HI2.out.trans hI2)
  have HR3 := Lib.hid (HR2.out.inside hI2 hz)
  have HX3 := Lib.hid (box_inside (w := w) HX2.out hI2 (by omega) (by omega))
  have HT3 := Lib.hid (HT2.out.inside hI2 (by omega))
  clear hp2 hI2 HP2 HR2 HX2 HT2 HI2
  rw [if_pos hlt] at HP3
  rw [hc]
  have hlt' : n + 1 ≤ s.size := hlt
  have HLT := Lib.hid hlt'
  obtain ⟨p0, p1, p2, f0, f1, f2, psz⟩ := HR3.out
  clear hnn hlt hlt'
  go_wp2_with fail
  go_at_call 115
  refine (joinKind_fun _).mono ?_
  rintro e wq ⟨rfl, hq⟩
  have hq2 := hq.symm
  clear hq
  subst hq2
  go_wp2_with fail
  go_at_call 40
  refine (HIH.out _ _ _ _ _ HD.out HLT.out HP3.out HY.out).mono ?_
  rintro e w3 ⟨v2, rfl, hty2, hp4, hI4⟩
  obtain ⟨a2, k2, rfl, _⟩ := hty2.at.slice
  have hmm : m ≤ s.size := prs_le s d _ _ _ HY.out
  have hz3 : w2.heap.size ≤ w3.heap.size := hI4.size
  have HB : Hid (Below w3.heap.size w3 (w3.alloc (.cells #[.int .i64 tb.k, .int .i64 tb.n, .slice a2 tb.ks.length k2] 25))) := Lib.hid ((Below.refl _ _).alloc (Nat.le_refl _) _)
  have HP4 := Lib.hid (hp4.kept HB.out)
  have HI4 := Lib.hid ((HI3.out.trans hI4).trans (Inside.of_below HB.out))
  have HR4 := Lib.hid ((HR3.out.inside hI4 hz).kept HB.out)
  have HX4 := Lib.hid (bx_kept (box_inside (w := w) HX3.out hI4 (by omega) (by omega)) HB.out (by omega))
  have HT4 := Lib.hid ((HT3.out.inside hI4 (by omega)).kept HB.out)
  have HY4 := Lib.hid (hty2.kept HB.out)
  have HZ4 := Lib.hid (box_new w3 (.int .i64 tb.k) (.int .i64 tb.n) (.slice a2 tb.ks.length k2) 25)
  have hzB : (w3.alloc (.cells #[.int .i64 tb.k, .int .i64 tb.n, .slice a2 tb.ks.length k2] 25)).heap.size = w3.heap.size + 1 := by simp
  clear hty2 hp4 hI4 HP3 HX3 HT3 HI3 p0 p1 p2 f0 f1 f2 psz
  go_wp2_with fail
  obtain ⟨W3, hW3⟩ : ∃ W3, w3.alloc (.cells #[.int .i64 tb.k, .int .i64 tb.n, .slice a2 tb.ks.length k2] 25) = W3 := ⟨_, rfl⟩
  rw [hW3] at HB HP4 HI4 HR4 HX4 HT4 HY4 HZ4 hzB ⊢
  clear hW3
  go_at_call 74
  refine (next_any p s m _ HP4.out hmm hs).mono ?_
  rintro e w5 ⟨rfl, hp5, hI5⟩
  have hz5 : w3.heap.size + 1 ≤ w5.heap.size := by have := hI5.size; omega
  have HP5 := Lib.hid hp5
  have HI5 := Lib.hid (HI4.out.trans hI5)
  have HR5 := Lib.hid (HR4.out.inside hI5 hz)
  have HX5 := Lib.hid (box_inside (w := w) HX4.out hI5 (by omega) (by omega))
  have HZ5 := Lib.hid (box_inside (w := w) HZ4.out hI5 (by omega) (by omega))
  have HT5 := Lib.hid (HT4.out.inside hI5 (by omega))
  have HY5 := Lib.hid (HY4.out.inside hI5 (by omega))
  clear hp5 hI5 HP4 HX4 HT4 HI4 HY4 HZ4
  have h41 := H41.out
  have hlm : m < s.size := by
    by_cases h : m < s.size
    · exact h
    · rw [by8_end h] at h41; simp at h41
  rw [if_pos hlm] at HP5
  obtain ⟨p0, p1, p2, f0, f1, f2, psz⟩ := HR5.out
  obtain ⟨x0, x1, x2⟩ := HX5.out
  obtain ⟨y0, y1, y2⟩ := HZ5.out
  have HZZ := Lib.hid (show w.heap.size + 1 ≤ w1.heap.size ∧ w1.heap.size ≤ w2.heap.size ∧ w2.heap.size ≤ w3.heap.size ∧ w3.heap.size ≤ w5.heap.size ∧ w1.heap.size ≤ w5.heap.size ∧ w.heap.size + 1 ≤ w5.heap.size ∧ w.heap.size + 1 ≤ w2.heap.size by omega)
  clear hmm hlm
  go_wp2_with fail
  go_at_call 91
  refine (joinType_any 2 ta tb _ _ (w.heap.size + 1) (w.heap.size + 1) w1.heap.size w2.heap.size w3.heap.size _ HT5.out HY5.out (Nat.le_refl _) HZZ.out.2.2.2.2.2.2 HZZ.out.2.1 HZZ.out.2.2.2.2.1 HZZ.out.2.2.2.1 HZZ.out.2.2.2.2.2.1).mono ?_
  rintro e w6 ⟨v3, rfl, hty3, hb3⟩
  have HT6 := Lib.hid hty3
  obtain ⟨a3, k3, rfl, _⟩ := hty3.at.slice
  have HR6 := Lib.hid (HR5.out.kept hb3)
  have HP6 := Lib.hid (HP5.out.kept hb3)
  have HI6 := Lib.hid (HI5.out.trans (Inside.of_below hb3))
  have hz6 : w5.heap.size ≤ w6.heap.size := hb3.size
  clear p0 p1 p2 f0 f1 f2 psz x0 x1 x2 y0 y1 y2
  obtain ⟨p0, p1, p2, f0, f1, f2, psz⟩ := HR6.out
  clear hb3 hty3
  go_wp2_with fail
  exact bodyPost_ret (v := .tuple #[.agg #[.int .i64 2, .int .i64 0, .slice a3 2 k3], .bool true]) (by simp [results, Try.results75, go_sem, p0, p1, p2, psz, Ty.k, Ty.n, Ty.ks]) rfl ⟨_, rfl, res_ty HT6.out (Nat.le_refl _) _ _ _, PAt.res HP6.out (by omega) _ _ _, imp_res HI6.out (Nat.le_refl _) hz (by omega) _ _ _⟩

set_option maxRecDepth 100000 in
set_option maxHeartbeats 2000000 in
theorem join_2_pair (s : ByteArray) (hs : s.size ≤ 1048576) (d : Nat) (hd : d ≤ 16) (D : Int) (i p : Nat) (w : World) (hD : D = ((d + 1 : Nat) : Int)) (hi : i ≤ s.size) (hp : PAt w p s i) (HIH : Hid (ImpT s d)) (ta : Ty) (n : Nat) (HX : Hid (prs s d i = some (ta, n))) (hc : by8 s n = 42) (HY : Hid (prs s d (n + 1) = none)) :
    Calls Try.prog 75 #[.pointer (some ⟨p, 0, none⟩), .int .i64 D] w (ImpRet p s none w) := by
  have HP0 := Lib.hid (hp.kept ((Below.refl _ _).alloc (Nat.le_refl _) (.cells #[.int .i64 0, .int .i64 0, .slice none 0 0] 25)))
  have HR0 := Lib.hid (rb_new w 25)
  have HI0 : Hid (Inside p (p + 1) w (w.alloc (.cells #[.int .i64 0, .int .i64 0, .slice none 0 0] 25))) := Lib.hid (Inside.of_below ((Below.refl _ _).alloc (Nat.le_refl _) _))
  have hz := hp.sz
  have h4 : 1 ≤ D := by omega
  have h5 : D ≤ 17 := by omega
  have HI := Lib.hid hi
  have HD := Lib.hid (show D - 1 = (d : Int) by omega)
  clear hp hD hi
  go_enter Try.func75, Try.ntmps75
  go_wp2_with fail
  go_at_call 40
  refine (HIH.out _ _ _ _ _ HD.out HI.out HP0.out HX.out).mono ?_
  rintro e w1 ⟨v, rfl, hty, hp1, hI1⟩
  obtain ⟨a1, k1, rfl, _⟩ := hty.at.slice
  have hnn : n ≤ s.size := prs_le s d _ _ _ HX.out
  have hz1 : w.heap.size + 1 ≤ w1.heap.size := by have := hI1.size; simp at this; omega
  have HT := Lib.hid (hty.wide (show w.heap.size + 1 ≤ _ by simp) (Nat.le_refl _))
  have HA : Hid (Below w1.heap.size w1 (w1.alloc (.cells #[.int .i64 ta.k, .int .i64 ta.n, .slice a1 ta.ks.length k1] 25))) := Lib.hid ((Below.refl _ _).alloc (Nat.le_refl _) _)
  have HP2 := Lib.hid (hp1.kept HA.out)
  have HI2 := Lib.hid ((HI0.out.trans hI1).trans (Inside.of_below HA.out))
  have HR2 := Lib.hid ((HR0.out.inside hI1 hz).kept HA.out)
  have HX2 := Lib.hid (box_new w1 (.int .i64 ta.k) (.int .i64 ta.n) (.slice a1 ta.ks.length k1) 25)
  have HT2 := Lib.hid (HT.out.kept HA.out)
  have hzA : (w1.alloc (.cells #[.int .i64 ta.k, .int .i64 ta.n, .slice a1 ta.ks.length k1] 25)).heap.size = w1.heap.size + 1 := by simp
  have hlt : n < s.size := by
    by_cases h : n < s.size
    · exact h
    · rw [by8_end h] at hc; omega
  clear hp1 hI1 hty HP0 HR0 HI0
  go_wp2_with fail
  obtain ⟨W1, hW1⟩ : ∃ W1, w1.alloc (.cells #[.int .i64 ta.k, .int .i64 ta.n, .slice a1 ta.ks.length k1] 25) = W1 := ⟨_, rfl⟩
  rw [hW1] at HA HP2 HI2 HR2 HX2 HT2 hzA ⊢
  clear hW1
  go_at_call 74
  refine (next_any p s n _ HP2.out hnn hs).mono ?_
  rintro e w2 ⟨rfl, hp2, hI2⟩
  have HP3 := Lib.hid hp2
  have hz2 : w1.heap.size + 1 ≤ w2.heap.size := by have := hI2.size; omega
  have HI3 := Lib.hid (HI2.out.trans hI2)
  have HR3 := Lib.hid (HR2.out.inside hI2 hz)
  have HX3 := Lib.hid (box_inside (w := w) HX2.out hI2 (by omega) (by omega))
  have HT3 := Lib.hid (HT2.out.inside hI2 (by omega))
  clear hp2 hI2 HP2 HR2 HX2 HT2 HI2
  rw [if_pos hlt] at HP3
  rw [hc]
  have hlt' : n + 1 ≤ s.size := hlt
  have HLT := Lib.hid hlt'
  obtain ⟨p0, p1, p2, f0, f1, f2, psz⟩ := HR3.out
  clear hnn hlt hlt'
  go_wp2_with fail
  go_at_call 115
  refine (joinKind_pair _).mono ?_
  rintro e wq ⟨rfl, hq⟩
  have hq2 := hq.symm
  clear hq
  subst hq2
  go_wp2_with fail
  go_at_call 40
  refine (HIH.out _ _ _ _ _ HD.out HLT.out HP3.out HY.out).mono ?_
  rintro e w3 ⟨rfl, hn, hI4⟩
  have HN := Lib.hid hn
  have hz3 : w2.heap.size ≤ w3.heap.size := hI4.size
  have HI4 := Lib.hid (HI3.out.trans hI4)
  have HR4 := Lib.hid (HR3.out.inside hI4 hz)
  clear p0 p1 p2 f0 f1 f2 psz
  obtain ⟨p0, p1, p2, f0, f1, f2, psz⟩ := HR4.out
  clear hn hI4
  go_wp2_with fail
  exact bodyPost_ret (v := .tuple #[.agg #[.int .i64 0, .int .i64 0, .slice none 0 0], .bool false]) (by simp [results, Try.results75, go_sem, p0, p1, p2, psz]) rfl ⟨rfl, (by obtain ⟨n, h1, h2⟩ := HN.out; exact ⟨n, h1, (PAt.res h2 (by omega) _ _ _).kept ((Below.refl _ _).alloc (Nat.le_refl _) _)⟩), (imp_res HI4.out (Nat.le_refl _) hz (by omega) _ _ _).trans (Inside.of_below ((Below.refl _ _).alloc (Nat.le_refl _) _))⟩

set_option maxRecDepth 100000 in
set_option maxHeartbeats 2000000 in
theorem join_3_pair (s : ByteArray) (hs : s.size ≤ 1048576) (d : Nat) (hd : d ≤ 16) (D : Int) (i p : Nat) (w : World) (hD : D = ((d + 1 : Nat) : Int)) (hi : i ≤ s.size) (hp : PAt w p s i) (HIH : Hid (ImpT s d)) (ta : Ty) (n : Nat) (HX : Hid (prs s d i = some (ta, n))) (hc : by8 s n = 42) (tb : Ty) (m : Nat) (HY : Hid (prs s d (n + 1) = some (tb, m))) (H41 : Hid ((by8 s m == 41) = false)) :
    Calls Try.prog 75 #[.pointer (some ⟨p, 0, none⟩), .int .i64 D] w (ImpRet p s none w) := by
  have HP0 := Lib.hid (hp.kept ((Below.refl _ _).alloc (Nat.le_refl _) (.cells #[.int .i64 0, .int .i64 0, .slice none 0 0] 25)))
  have HR0 := Lib.hid (rb_new w 25)
  have HI0 : Hid (Inside p (p + 1) w (w.alloc (.cells #[.int .i64 0, .int .i64 0, .slice none 0 0] 25))) := Lib.hid (Inside.of_below ((Below.refl _ _).alloc (Nat.le_refl _) _))
  have hz := hp.sz
  have h4 : 1 ≤ D := by omega
  have h5 : D ≤ 17 := by omega
  have HI := Lib.hid hi
  have HD := Lib.hid (show D - 1 = (d : Int) by omega)
  clear hp hD hi
  go_enter Try.func75, Try.ntmps75
  go_wp2_with fail
  go_at_call 40
  refine (HIH.out _ _ _ _ _ HD.out HI.out HP0.out HX.out).mono ?_
  rintro e w1 ⟨v, rfl, hty, hp1, hI1⟩
  obtain ⟨a1, k1, rfl, _⟩ := hty.at.slice
  have hnn : n ≤ s.size := prs_le s d _ _ _ HX.out
  have hz1 : w.heap.size + 1 ≤ w1.heap.size := by have := hI1.size; simp at this; omega
  have HT := Lib.hid (hty.wide (show w.heap.size + 1 ≤ _ by simp) (Nat.le_refl _))
  have HA : Hid (Below w1.heap.size w1 (w1.alloc (.cells #[.int .i64 ta.k, .int .i64 ta.n, .slice a1 ta.ks.length k1] 25))) := Lib.hid ((Below.refl _ _).alloc (Nat.le_refl _) _)
  have HP2 := Lib.hid (hp1.kept HA.out)
  have HI2 := Lib.hid ((HI0.out.trans hI1).trans (Inside.of_below HA.out))
  have HR2 := Lib.hid ((HR0.out.inside hI1 hz).kept HA.out)
  have HX2 := Lib.hid (box_new w1 (.int .i64 ta.k) (.int .i64 ta.n) (.slice a1 ta.ks.length k1) 25)
  have HT2 := Lib.hid (HT.out.kept HA.out)
  have hzA : (w1.alloc (.cells #[.int .i64 ta.k, .int .i64 ta.n, .slice a1 ta.ks.length k1] 25)).heap.size = w1.heap.size + 1 := by simp
  have hlt : n < s.size := by
    by_cases h : n < s.size
    · exact h
    · rw [by8_end h] at hc; omega
  clear hp1 hI1 hty HP0 HR0 HI0
  go_wp2_with fail
  obtain ⟨W1, hW1⟩ : ∃ W1, w1.alloc (.cells #[.int .i64 ta.k, .int .i64 ta.n, .slice a1 ta.ks.length k1] 25) = W1 := ⟨_, rfl⟩
  rw [hW1] at HA HP2 HI2 HR2 HX2 HT2 hzA ⊢
  clear hW1
  go_at_call 74
  refine (next_any p s n _ HP2.out hnn hs).mono ?_
  rintro e w2 ⟨rfl, hp2, hI2⟩
  have HP3 := Lib.hid hp2
  have hz2 : w1.heap.size + 1 ≤ w2.heap.size := by have := hI2.size; omega
  have HI3 := Lib.hid (HI2.out.trans hI2)
  have HR3 := Lib.hid (HR2.out.inside hI2 hz)
  have HX3 := Lib.hid (box_inside (w := w) HX2.out hI2 (by omega) (by omega))
  have HT3 := Lib.hid (HT2.out.inside hI2 (by omega))
  clear hp2 hI2 HP2 HR2 HX2 HT2 HI2
  rw [if_pos hlt] at HP3
  rw [hc]
  have hlt' : n + 1 ≤ s.size := hlt
  have HLT := Lib.hid hlt'
  obtain ⟨p0, p1, p2, f0, f1, f2, psz⟩ := HR3.out
  clear hnn hlt hlt'
  go_wp2_with fail
  go_at_call 115
  refine (joinKind_pair _).mono ?_
  rintro e wq ⟨rfl, hq⟩
  have hq2 := hq.symm
  clear hq
  subst hq2
  go_wp2_with fail
  go_at_call 40
  refine (HIH.out _ _ _ _ _ HD.out HLT.out HP3.out HY.out).mono ?_
  rintro e w3 ⟨v2, rfl, hty2, hp4, hI4⟩
  obtain ⟨a2, k2, rfl, _⟩ := hty2.at.slice
  have hmm : m ≤ s.size := prs_le s d _ _ _ HY.out
  have hz3 : w2.heap.size ≤ w3.heap.size := hI4.size
  have HB : Hid (Below w3.heap.size w3 (w3.alloc (.cells #[.int .i64 tb.k, .int .i64 tb.n, .slice a2 tb.ks.length k2] 25))) := Lib.hid ((Below.refl _ _).alloc (Nat.le_refl _) _)
  have HP4 := Lib.hid (hp4.kept HB.out)
  have HI4 := Lib.hid ((HI3.out.trans hI4).trans (Inside.of_below HB.out))
  have HR4 := Lib.hid ((HR3.out.inside hI4 hz).kept HB.out)
  have HX4 := Lib.hid (bx_kept (box_inside (w := w) HX3.out hI4 (by omega) (by omega)) HB.out (by omega))
  have HT4 := Lib.hid ((HT3.out.inside hI4 (by omega)).kept HB.out)
  have HY4 := Lib.hid (hty2.kept HB.out)
  have HZ4 := Lib.hid (box_new w3 (.int .i64 tb.k) (.int .i64 tb.n) (.slice a2 tb.ks.length k2) 25)
  have hzB : (w3.alloc (.cells #[.int .i64 tb.k, .int .i64 tb.n, .slice a2 tb.ks.length k2] 25)).heap.size = w3.heap.size + 1 := by simp
  clear hty2 hp4 hI4 HP3 HX3 HT3 HI3 p0 p1 p2 f0 f1 f2 psz
  go_wp2_with fail
  obtain ⟨W3, hW3⟩ : ∃ W3, w3.alloc (.cells #[.int .i64 tb.k, .int .i64 tb.n, .slice a2 tb.ks.length k2] 25) = W3 := ⟨_, rfl⟩
  rw [hW3] at HB HP4 HI4 HR4 HX4 HT4 HY4 HZ4 hzB ⊢
  clear hW3
  go_at_call 74
  refine (next_any p s m _ HP4.out hmm hs).mono ?_
  rintro e w5 ⟨rfl, hp5, hI5⟩
  have hz5 : w3.heap.size + 1 ≤ w5.heap.size := by have := hI5.size; omega
  have HP5 := Lib.hid hp5
  have HI5 := Lib.hid (HI4.out.trans hI5)
  have HR5 := Lib.hid (HR4.out.inside hI5 hz)
  have HX5 := Lib.hid (box_inside (w := w) HX4.out hI5 (by omega) (by omega))
  have HZ5 := Lib.hid (box_inside (w := w) HZ4.out hI5 (by omega) (by omega))
  have HT5 := Lib.hid (HT4.out.inside hI5 (by omega))
  have HY5 := Lib.hid (HY4.out.inside hI5 (by omega))
  clear hp5 hI5 HP4 HX4 HT4 HI4 HY4 HZ4
  have HN : Hid (∃ j, j ≤ s.size ∧ PAt w5 p s j) := Lib.hid ⟨_, by split <;> omega, HP5.out⟩
  have h41 := H41.out
  obtain ⟨p0, p1, p2, f0, f1, f2, psz⟩ := HR5.out
  clear hmm
  go_wp2_with fail
  exact bodyPost_ret (v := .tuple #[.agg #[.int .i64 0, .int .i64 0, .slice none 0 0], .bool false]) (by simp [results, Try.results75, go_sem, p0, p1, p2, psz]) rfl ⟨rfl, (by obtain ⟨n, h1, h2⟩ := HN.out; exact ⟨n, h1, (PAt.res h2 (by omega) _ _ _)⟩), (imp_res HI5.out (Nat.le_refl _) hz (by omega) _ _ _)⟩

set_option maxRecDepth 100000 in
set_option maxHeartbeats 2000000 in
theorem join_4_pair (s : ByteArray) (hs : s.size ≤ 1048576) (d : Nat) (hd : d ≤ 16) (D : Int) (i p : Nat) (w : World) (hD : D = ((d + 1 : Nat) : Int)) (hi : i ≤ s.size) (hp : PAt w p s i) (HIH : Hid (ImpT s d)) (ta : Ty) (n : Nat) (HX : Hid (prs s d i = some (ta, n))) (hc : by8 s n = 42) (tb : Ty) (m : Nat) (HY : Hid (prs s d (n + 1) = some (tb, m))) (H41 : Hid ((by8 s m == 41) = true)) :
    Calls Try.prog 75 #[.pointer (some ⟨p, 0, none⟩), .int .i64 D] w (ImpRet p s (some (.node 3 0 [ta, tb], m + 1)) w) := by
  have HP0 := Lib.hid (hp.kept ((Below.refl _ _).alloc (Nat.le_refl _) (.cells #[.int .i64 0, .int .i64 0, .slice none 0 0] 25)))
  have HR0 := Lib.hid (rb_new w 25)
  have HI0 : Hid (Inside p (p + 1) w (w.alloc (.cells #[.int .i64 0, .int .i64 0, .slice none 0 0] 25))) := Lib.hid (Inside.of_below ((Below.refl _ _).alloc (Nat.le_refl _) _))
  have hz := hp.sz
  have h4 : 1 ≤ D := by omega
  have h5 : D ≤ 17 := by omega
  have HI := Lib.hid hi
  have HD := Lib.hid (show D - 1 = (d : Int) by omega)
  clear hp hD hi
  go_enter Try.func75, Try.ntmps75
  go_wp2_with fail
  go_at_call 40
  refine (HIH.out _ _ _ _ _ HD.out HI.out HP0.out HX.out).mono ?_
  rintro e w1 ⟨v, rfl, hty, hp1, hI1⟩
  obtain ⟨a1, k1, rfl, _⟩ := hty.at.slice
  have hnn : n ≤ s.size := prs_le s d _ _ _ HX.out
  have hz1 : w.heap.size + 1 ≤ w1.heap.size := by have := hI1.size; simp at this; omega
  have HT := Lib.hid (hty.wide (show w.heap.size + 1 ≤ _ by simp) (Nat.le_refl _))
  have HA : Hid (Below w1.heap.size w1 (w1.alloc (.cells #[.int .i64 ta.k, .int .i64 ta.n, .slice a1 ta.ks.length k1] 25))) := Lib.hid ((Below.refl _ _).alloc (Nat.le_refl _) _)
  have HP2 := Lib.hid (hp1.kept HA.out)
  have HI2 := Lib.hid ((HI0.out.trans hI1).trans (Inside.of_below HA.out))
  have HR2 := Lib.hid ((HR0.out.inside hI1 hz).kept HA.out)
  have HX2 := Lib.hid (box_new w1 (.int .i64 ta.k) (.int .i64 ta.n) (.slice a1 ta.ks.length k1) 25)
  have HT2 := Lib.hid (HT.out.kept HA.out)
  have hzA : (w1.alloc (.cells #[.int .i64 ta.k, .int .i64 ta.n, .slice a1 ta.ks.length k1] 25)).heap.size = w1.heap.size + 1 := by simp
  have hlt : n < s.size := by
    by_cases h : n < s.size
    · exact h
    · rw [by8_end h] at hc; omega
  clear hp1 hI1 hty HP0 HR0 HI0
  go_wp2_with fail
  obtain ⟨W1, hW1⟩ : ∃ W1, w1.alloc (.cells #[.int .i64 ta.k, .int .i64 ta.n, .slice a1 ta.ks.length k1] 25) = W1 := ⟨_, rfl⟩
  rw [hW1] at HA HP2 HI2 HR2 HX2 HT2 hzA ⊢
  clear hW1
  go_at_call 74
  refine (next_any p s n _ HP2.out hnn hs).mono ?_
  rintro e w2 ⟨rfl, hp2, hI2⟩
  have HP3 := Lib.hid hp2
  have hz2 : w1.heap.size + 1 ≤ w2.heap.size := by have := hI2.size; omega
  have HI3 := Lib.hid (HI2.out.trans hI2)
  have HR3 := Lib.hid (HR2.out.inside hI2 hz)
  have HX3 := Lib.hid (box_inside (w := w) HX2.out hI2 (by omega) (by omega))
  have HT3 := Lib.hid (HT2.out.inside hI2 (by omega))
  clear hp2 hI2 HP2 HR2 HX2 HT2 HI2
  rw [if_pos hlt] at HP3
  rw [hc]
  have hlt' : n + 1 ≤ s.size := hlt
  have HLT := Lib.hid hlt'
  obtain ⟨p0, p1, p2, f0, f1, f2, psz⟩ := HR3.out
  clear hnn hlt hlt'
  go_wp2_with fail
  go_at_call 115
  refine (joinKind_pair _).mono ?_
  rintro e wq ⟨rfl, hq⟩
  have hq2 := hq.symm
  clear hq
  subst hq2
  go_wp2_with fail
  go_at_call 40
  refine (HIH.out _ _ _ _ _ HD.out HLT.out HP3.out HY.out).mono ?_
  rintro e w3 ⟨v2, rfl, hty2, hp4, hI4⟩
  obtain ⟨a2, k2, rfl, _⟩ := hty2.at.slice
  have hmm : m ≤ s.size := prs_le s d _ _ _ HY.out
  have hz3 : w2.heap.size ≤ w3.heap.size := hI4.size
  have HB : Hid (Below w3.heap.size w3 (w3.alloc (.cells #[.int .i64 tb.k, .int .i64 tb.n, .slice a2 tb.ks.length k2] 25))) := Lib.hid ((Below.refl _ _).alloc (Nat.le_refl _) _)
  have HP4 := Lib.hid (hp4.kept HB.out)
  have HI4 := Lib.hid ((HI3.out.trans hI4).trans (Inside.of_below HB.out))
  have HR4 := Lib.hid ((HR3.out.inside hI4 hz).kept HB.out)
  have HX4 := Lib.hid (bx_kept (box_inside (w := w) HX3.out hI4 (by omega) (by omega)) HB.out (by omega))
  have HT4 := Lib.hid ((HT3.out.inside hI4 (by omega)).kept HB.out)
  have HY4 := Lib.hid (hty2.kept HB.out)
  have HZ4 := Lib.hid (box_new w3 (.int .i64 tb.k) (.int .i64 tb.n) (.slice a2 tb.ks.length k2) 25)
  have hzB : (w3.alloc (.cells #[.int .i64 tb.k, .int .i64 tb.n, .slice a2 tb.ks.length k2] 25)).heap.size = w3.heap.size + 1 := by simp
  clear hty2 hp4 hI4 HP3 HX3 HT3 HI3 p0 p1 p2 f0 f1 f2 psz
  go_wp2_with fail
  obtain ⟨W3, hW3⟩ : ∃ W3, w3.alloc (.cells #[.int .i64 tb.k, .int .i64 tb.n, .slice a2 tb.ks.length k2] 25) = W3 := ⟨_, rfl⟩
  rw [hW3] at HB HP4 HI4 HR4 HX4 HT4 HY4 HZ4 hzB ⊢
  clear hW3
  go_at_call 74
  refine (next_any p s m _ HP4.out hmm hs).mono ?_
  rintro e w5 ⟨rfl, hp5, hI5⟩
  have hz5 : w3.heap.size + 1 ≤ w5.heap.size := by have := hI5.size; omega
  have HP5 := Lib.hid hp5
  have HI5 := Lib.hid (HI4.out.trans hI5)
  have HR5 := Lib.hid (HR4.out.inside hI5 hz)
  have HX5 := Lib.hid (box_inside (w := w) HX4.out hI5 (by omega) (by omega))
  have HZ5 := Lib.hid (box_inside (w := w) HZ4.out hI5 (by omega) (by omega))
  have HT5 := Lib.hid (HT4.out.inside hI5 (by omega))
  have HY5 := Lib.hid (HY4.out.inside hI5 (by omega))
  clear hp5 hI5 HP4 HX4 HT4 HI4 HY4 HZ4
  have h41 := H41.out
  have hlm : m < s.size := by
    by_cases h : m < s.size
    · exact h
    · rw [by8_end h] at h41; simp at h41
  rw [if_pos hlm] at HP5
  obtain ⟨p0, p1, p2, f0, f1, f2, psz⟩ := HR5.out
  obtain ⟨x0, x1, x2⟩ := HX5.out
  obtain ⟨y0, y1, y2⟩ := HZ5.out
  have HZZ := Lib.hid (show w.heap.size + 1 ≤ w1.heap.size ∧ w1.heap.size ≤ w2.heap.size ∧ w2.heap.size ≤ w3.heap.size ∧ w3.heap.size ≤ w5.heap.size ∧ w1.heap.size ≤ w5.heap.size ∧ w.heap.size + 1 ≤ w5.heap.size ∧ w.heap.size + 1 ≤ w2.heap.size by omega)
  clear hmm hlm
  go_wp2_with fail
  go_at_call 91
  refine (joinType_any 3 ta tb _ _ (w.heap.size + 1) (w.heap.size + 1) w1.heap.size w2.heap.size w3.heap.size _ HT5.out HY5.out (Nat.le_refl _) HZZ.out.2.2.2.2.2.2 HZZ.out.2.1 HZZ.out.2.2.2.2.1 HZZ.out.2.2.2.1 HZZ.out.2.2.2.2.2.1).mono ?_
  rintro e w6 ⟨v3, rfl, hty3, hb3⟩
  have HT6 := Lib.hid hty3
  obtain ⟨a3, k3, rfl, _⟩ := hty3.at.slice
  have HR6 := Lib.hid (HR5.out.kept hb3)
  have HP6 := Lib.hid (HP5.out.kept hb3)
  have HI6 := Lib.hid (HI5.out.trans (Inside.of_below hb3))
  have hz6 : w5.heap.size ≤ w6.heap.size := hb3.size
  clear p0 p1 p2 f0 f1 f2 psz x0 x1 x2 y0 y1 y2
  obtain ⟨p0, p1, p2, f0, f1, f2, psz⟩ := HR6.out
  clear hb3 hty3
  go_wp2_with fail
  exact bodyPost_ret (v := .tuple #[.agg #[.int .i64 3, .int .i64 0, .slice a3 2 k3], .bool true]) (by simp [results, Try.results75, go_sem, p0, p1, p2, psz, Ty.k, Ty.n, Ty.ks]) rfl ⟨_, rfl, res_ty HT6.out (Nat.le_refl _) _ _ _, PAt.res HP6.out (by omega) _ _ _, imp_res HI6.out (Nat.le_refl _) hz (by omega) _ _ _⟩

end Go.Proofs.Ytndpoejohpmifaa
