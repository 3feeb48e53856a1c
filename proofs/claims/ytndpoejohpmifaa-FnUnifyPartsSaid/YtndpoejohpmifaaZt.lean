/-
  l2Parse of the model: the type at an offset.
-/
import Derived.Test.YtndpoejohpmifaaZrs
namespace Go.Proofs.Ytndpoejohpmifaa
open Go.RowKit
set_option linter.unusedVariables false
set_option linter.unusedSimpArgs false

theorem next_any (p : Nat) (s : ByteArray) (i : Nat) (w : World) (hp : PAt w p s i) (hi : i ≤ s.size) (hs : s.size ≤ 1048576) :
    Calls Try.prog 74 #[.pointer (some ⟨p, 0, none⟩)] w fun e w' => e = .returned (.int .u8 (by8 s i)) ∧ PAt w' p s (if i < s.size then i + 1 else i) ∧ Inside p (p + 1) w w' := by
  by_cases h : i < s.size
  · rw [if_pos h]; exact next_in p s i w hp h hs
  · rw [if_neg h, by8_end h]
    obtain rfl : i = s.size := by omega
    exact next_end p s w hp

/-- A result's cells, still empty. -/
structure RB (w : World) (B : Nat) : Prop where
  c0 : w.cell? ⟨B, 0, none⟩ = some (.int .i64 0)
  c1 : w.cell? ⟨B, 1, none⟩ = some (.int .i64 0)
  c2 : w.cell? ⟨B, 2, none⟩ = some (.slice none 0 0)
  f0 : w.frozen? ⟨B, 0, none⟩ = false
  f1 : w.frozen? ⟨B, 1, none⟩ = false
  f2 : w.frozen? ⟨B, 2, none⟩ = false
  sz : B < w.heap.size
theorem RB.keep {w w' : World} {B : Nat} (h : RB w B) (hs : w.heap.size ≤ w'.heap.size) (hb : w'.heap[B]? = w.heap[B]?) : RB w' B :=
  ⟨(cellEq hb).trans h.c0, (cellEq hb).trans h.c1, (cellEq hb).trans h.c2, (frozenEq hb).trans h.f0, (frozenEq hb).trans h.f1, (frozenEq hb).trans h.f2, Nat.lt_of_lt_of_le h.sz hs⟩
theorem RB.kept {w w' : World} {B : Nat} (h : RB w B) (hb : Below w.heap.size w w') : RB w' B := h.keep hb.size (hb.block B h.sz)
theorem rb_new (w : World) (T : TypeId) : RB (w.alloc (.cells #[.int .i64 0, .int .i64 0, .slice none 0 0] T)) w.heap.size := ⟨by go_simp, by go_simp, by go_simp, by go_simp, by go_simp, by go_simp, by simp⟩
theorem res_below {w W : World} (h : Below w.heap.size w W) (x y z : Value) : Below w.heap.size w (((W.setCell ⟨w.heap.size, 0, none⟩ x).setCell ⟨w.heap.size, 1, none⟩ y).setCell ⟨w.heap.size, 2, none⟩ z) :=
  ((h.setCell (p := ⟨w.heap.size, 0, none⟩) (Nat.le_refl _) _).setCell (p := ⟨w.heap.size, 1, none⟩) (Nat.le_refl _) _).setCell (p := ⟨w.heap.size, 2, none⟩) (Nat.le_refl _) _
theorem res_ty {w W : World} {B : Nat} {t : Ty} {v : Value} (h : TyIn W (B + 1) W.heap.size t v) (hB : w.heap.size ≤ B) (x y z : Value) :
    TyIn (((W.setCell ⟨B, 0, none⟩ x).setCell ⟨B, 1, none⟩ y).setCell ⟨B, 2, none⟩ z) w.heap.size (((W.setCell ⟨B, 0, none⟩ x).setCell ⟨B, 1, none⟩ y).setCell ⟨B, 2, none⟩ z).heap.size t v := by
  refine TyIn.wide (h.keep (by simp) (fun b h1 _ _ => ?_)) (by omega) (by simp)
  rw [heap_setCell_other _ ⟨B, 2, none⟩ b _ (by show b ≠ B; omega), heap_setCell_other _ ⟨B, 1, none⟩ b _ (by show b ≠ B; omega), heap_setCell_other _ ⟨B, 0, none⟩ b _ (by show b ≠ B; omega)]

/-- What l2Parse returns: the type and the offset after it, or a negative number. -/
def PrsRet : Option (Ty × Nat) → World → Ending → World → Prop
  | some (t, n), w, e, w' => ∃ (v : Value) (N : Int), N = (n : Int) ∧ e = .returned (.tuple #[.agg #[.int .i64 t.k, .int .i64 t.n, v], .int .i64 N]) ∧ TyIn w' w.heap.size w'.heap.size t v ∧ Below w.heap.size w w'
  | none, w, e, w' => ∃ N : Int, N < 0 ∧ -1048600 ≤ N ∧ e = .returned (.tuple #[.agg #[.int .i64 0, .int .i64 0, .slice none 0 0], .int .i64 N]) ∧ Below w.heap.size w w'
def PrsT (s : ByteArray) (d : Nat) : Prop := ∀ (D : Int) (i : Nat) (I : Int) (w : World) (r : Option (Ty × Nat)), D = d → I = i → i ≤ 1048577 → prs s d i = r →
    Calls Try.prog 51 #[.string s, .int .i64 I, .int .i64 D] w (PrsRet r w)

theorem prs_0 (s : ByteArray) : PrsT s 0 := by
  intro D i I w r hD hI hi hr
  obtain rfl : D = 0 := by omega
  have hr2 : r = none := by rw [← hr]; rfl
  subst hr2
  have h0 : 0 ≤ I := by omega
  have h1 : I ≤ 1048577 := by omega
  clear hr hI hi hD
  go_enter Try.func51, Try.ntmps51
  go_wp2_with fail
  exact bodyPost_ret (v := .tuple #[.agg #[.int .i64 0, .int .i64 0, .slice none 0 0], .int .i64 (-1 - I)]) (by simp [results, Try.results51, go_sem]) rfl ⟨_, by omega, by omega, rfl, (Below.refl _ _).alloc (Nat.le_refl _) _⟩
theorem prs_e (s : ByteArray) (d : Nat) (D : Int) (i : Nat) (I : Int) (w : World) (hD : D = ((d + 1 : Nat) : Int)) (hI : I = i) (hi : i ≤ 1048577) (he : ¬ i < s.size) :
    Calls Try.prog 51 #[.string s, .int .i64 I, .int .i64 D] w (PrsRet none w) := by
  have h0 : 0 ≤ I := by omega
  have h1 : I ≤ 1048577 := by omega
  have h2 : ¬ D < 1 := by omega
  have h3 : ¬ I < (s.size : Int) := by omega
  clear hI hi hD he
  go_enter Try.func51, Try.ntmps51
  go_wp2_with fail
  exact bodyPost_ret (v := .tuple #[.agg #[.int .i64 0, .int .i64 0, .slice none 0 0], .int .i64 (-1 - I)]) (by simp [results, Try.results51, go_sem]) rfl ⟨_, by omega, by omega, rfl, (Below.refl _ _).alloc (Nat.le_refl _) _⟩

set_option maxRecDepth 100000 in
set_option maxHeartbeats 1000000 in
theorem prs_num (s : ByteArray) (hs : s.size ≤ 1048576) (d : Nat) (hd : d ≤ 16) (D : Int) (i : Nat) (I : Int) (w : World) (hD : D = ((d + 1 : Nat) : Int)) (hI : I = i) (hi : i < s.size) (c : Int) (hc : by8 s i = c) (h73 : (c == 73) = true) :
    Calls Try.prog 51 #[.string s, .int .i64 I, .int .i64 D] w (PrsRet (some (.node 1 0 [], i + 1)) w) := by
  have r1 := by8_idx Try.prog 9 Try.underlying9 hi
  rw [← hI, hc] at r1
  have h0 : 0 ≤ I := by omega
  have h1 : I ≤ 1048577 := by omega
  have h2 : ¬ D < 1 := by omega
  have h3 : I < (s.size : Int) := by omega
  have HI := Lib.hid (show I + 1 = ((i + 1 : Nat) : Int) by omega)
  have HR := Lib.hid (rb_new w 25)
  have HA0 : Hid (Below w.heap.size w (w.alloc (.cells #[.int .i64 0, .int .i64 0, .slice none 0 0] 25))) := Lib.hid ((Below.refl _ _).alloc (Nat.le_refl _) _)
  clear hI hi hD hc
  go_enter Try.func51, Try.ntmps51
  go_wp2_with fail
  go_at_call 84
  refine (l2Num_any _).mono ?_
  rintro e w1 ⟨v, rfl, hty, hb⟩
  obtain ⟨a1, k1, rfl, _⟩ := hty.at.slice
  have HR1 := Lib.hid (HR.out.kept hb)
  obtain ⟨p0, p1, p2, f0, f1, f2, psz⟩ := HR1.out
  have HB1 := Lib.hid (HA0.out.trans (hb.mono HA0.out.size))
  have HT := Lib.hid hty
  clear hty hb
  go_wp2_with fail
  exact bodyPost_ret (v := .tuple #[.agg #[.int .i64 1, .int .i64 0, .slice a1 0 k1], .int .i64 (I + 1)]) (by simp [results, Try.results51, go_sem, p0, p1, p2, Ty.k, Ty.n, Ty.ks]) rfl ⟨_, _, HI.out, rfl, res_ty (by have h := HT.out; simp at h; exact h) (Nat.le_refl _) _ _ _, res_below HB1.out _ _ _⟩

set_option maxRecDepth 100000 in
set_option maxHeartbeats 1000000 in
theorem prs_var (s : ByteArray) (hs : s.size ≤ 1048576) (d : Nat) (hd : d ≤ 16) (D : Int) (i : Nat) (I : Int) (w : World) (hD : D = ((d + 1 : Nat) : Int)) (hI : I = i) (hi : i < s.size) (c : Int) (hc : by8 s i = c) (h97 : 97 ≤ c) (h122 : c ≤ 122) :
    Calls Try.prog 51 #[.string s, .int .i64 I, .int .i64 D] w (PrsRet (some (.node 4 (c - 97) [], i + 1)) w) := by
  have r1 := by8_idx Try.prog 9 Try.underlying9 hi
  rw [← hI, hc] at r1
  have h0 : 0 ≤ I := by omega
  have h1 : I ≤ 1048577 := by omega
  have h2 : ¬ D < 1 := by omega
  have h3 : I < (s.size : Int) := by omega
  have HI := Lib.hid (show I + 1 = ((i + 1 : Nat) : Int) by omega)
  have HR := Lib.hid (rb_new w 25)
  have HA0 : Hid (Below w.heap.size w (w.alloc (.cells #[.int .i64 0, .int .i64 0, .slice none 0 0] 25))) := Lib.hid ((Below.refl _ _).alloc (Nat.le_refl _) _)
  have h73 : (c == 73) = false := by simp; omega
  have h97' : ¬ c < 97 := by omega
  clear hI hi hD hc
  go_enter Try.func51, Try.ntmps51
  go_wp2_with fail
  go_at_call 85
  refine (l2Var_any _ _).mono ?_
  rintro e w1 ⟨v, rfl, hty, hb⟩
  obtain ⟨a1, k1, rfl, _⟩ := hty.at.slice
  have HR1 := Lib.hid (HR.out.kept hb)
  obtain ⟨p0, p1, p2, f0, f1, f2, psz⟩ := HR1.out
  have HB1 := Lib.hid (HA0.out.trans (hb.mono HA0.out.size))
  have HT := Lib.hid hty
  clear hty hb
  go_wp2_with fail
  exact bodyPost_ret (v := .tuple #[.agg #[.int .i64 4, .int .i64 (c - 97), .slice a1 0 k1], .int .i64 (I + 1)]) (by simp [results, Try.results51, go_sem, p0, p1, p2, Ty.k, Ty.n, Ty.ks]) rfl ⟨_, _, HI.out, rfl, res_ty (by have h := HT.out; simp at h; exact h) (Nat.le_refl _) _ _ _, res_below HB1.out _ _ _⟩

set_option maxRecDepth 100000 in
set_option maxHeartbeats 1000000 in
theorem prs_lo (s : ByteArray) (hs : s.size ≤ 1048576) (d : Nat) (hd : d ≤ 16) (D : Int) (i : Nat) (I : Int) (w : World) (hD : D = ((d + 1 : Nat) : Int)) (hI : I = i) (hi : i < s.size) (c : Int) (hc : by8 s i = c) (h73 : (c == 73) = false) (h97 : c < 97) (h40 : (c == 40) = false) :
    Calls Try.prog 51 #[.string s, .int .i64 I, .int .i64 D] w (PrsRet none w) := by
  have r1 := by8_idx Try.prog 9 Try.underlying9 hi
  rw [← hI, hc] at r1
  have h0 : 0 ≤ I := by omega
  have h1 : I ≤ 1048577 := by omega
  have h2 : ¬ D < 1 := by omega
  have h3 : I < (s.size : Int) := by omega
  have HI := Lib.hid (show I + 1 = ((i + 1 : Nat) : Int) by omega)
  have HR := Lib.hid (rb_new w 25)
  have HA0 : Hid (Below w.heap.size w (w.alloc (.cells #[.int .i64 0, .int .i64 0, .slice none 0 0] 25))) := Lib.hid ((Below.refl _ _).alloc (Nat.le_refl _) _)
  have h97' : ¬ 97 ≤ c := by omega
  clear hI hi hD hc HR HI
  go_enter Try.func51, Try.ntmps51
  go_wp2_with fail
  exact bodyPost_ret (v := .tuple #[.agg #[.int .i64 0, .int .i64 0, .slice none 0 0], .int .i64 (-1 - I)]) (by simp [results, Try.results51, go_sem]) rfl ⟨_, by omega, by omega, rfl, HA0.out⟩

set_option maxRecDepth 100000 in
set_option maxHeartbeats 1000000 in
theorem prs_hi (s : ByteArray) (hs : s.size ≤ 1048576) (d : Nat) (hd : d ≤ 16) (D : Int) (i : Nat) (I : Int) (w : World) (hD : D = ((d + 1 : Nat) : Int)) (hI : I = i) (hi : i < s.size) (c : Int) (hc : by8 s i = c) (h122 : ¬ c ≤ 122) :
    Calls Try.prog 51 #[.string s, .int .i64 I, .int .i64 D] w (PrsRet none w) := by
  have r1 := by8_idx Try.prog 9 Try.underlying9 hi
  rw [← hI, hc] at r1
  have h0 : 0 ≤ I := by omega
  have h1 : I ≤ 1048577 := by omega
  have h2 : ¬ D < 1 := by omega
  have h3 : I < (s.size : Int) := by omega
  have HI := Lib.hid (show I + 1 = ((i + 1 : Nat) : Int) by omega)
  have HR := Lib.hid (rb_new w 25)
  have HA0 : Hid (Below w.heap.size w (w.alloc (.cells #[.int .i64 0, .int .i64 0, .slice none 0 0] 25))) := Lib.hid ((Below.refl _ _).alloc (Nat.le_refl _) _)
  have h73 : (c == 73) = false := by simp; omega
  have h40 : (c == 40) = false := by simp; omega
  have h97 : 97 ≤ c := by omega
  clear hI hi hD hc HR HI
  go_enter Try.func51, Try.ntmps51
  go_wp2_with fail
  exact bodyPost_ret (v := .tuple #[.agg #[.int .i64 0, .int .i64 0, .slice none 0 0], .int .i64 (-1 - I)]) (by simp [results, Try.results51, go_sem]) rfl ⟨_, by omega, by omega, rfl, HA0.out⟩

set_option maxRecDepth 100000 in
set_option maxHeartbeats 1000000 in
theorem prs_j0 (s : ByteArray) (hs : s.size ≤ 1048576) (d : Nat) (hd : d ≤ 16) (D : Int) (i : Nat) (I : Int) (w : World) (hD : D = ((d + 1 : Nat) : Int)) (hI : I = i) (hi : i < s.size) (hc : by8 s i = 40) (HIH : Hid (PrsT s d)) (HX : Hid (prs s d (i + 1) = none)) :
    Calls Try.prog 51 #[.string s, .int .i64 I, .int .i64 D] w (PrsRet none w) := by
  have r1 := by8_idx Try.prog 9 Try.underlying9 hi
  rw [← hI, hc] at r1
  have h0 : 0 ≤ I := by omega
  have h1 : I ≤ 1048577 := by omega
  have h2 : ¬ D < 1 := by omega
  have h3 : I < (s.size : Int) := by omega
  have HI := Lib.hid (show I + 1 = ((i + 1 : Nat) : Int) by omega)
  have HR := Lib.hid (rb_new w 25)
  have HA0 : Hid (Below w.heap.size w (w.alloc (.cells #[.int .i64 0, .int .i64 0, .slice none 0 0] 25))) := Lib.hid ((Below.refl _ _).alloc (Nat.le_refl _) _)
  have HD := Lib.hid (show D - 1 = (d : Int) by omega)
  have HLE := Lib.hid (show i + 1 ≤ 1048577 by omega)
  have h4 : 1 ≤ D := by omega
  have h5 : D ≤ 17 := by omega
  clear hI hi hD hc
  go_enter Try.func51, Try.ntmps51
  go_wp2_with fail
  go_at_call 51
  refine (HIH.out _ _ _ _ _ HD.out HI.out HLE.out HX.out).mono ?_
  rintro e w1 ⟨N, hN, hN2, rfl, hb⟩
  have HR1 := Lib.hid (HR.out.kept hb)
  obtain ⟨p0, p1, p2, f0, f1, f2, psz⟩ := HR1.out
  have HBB := Lib.hid (HA0.out.trans (hb.mono HA0.out.size))
  clear hb
  go_wp2_with fail
  exact bodyPost_ret (v := .tuple #[.agg #[.int .i64 0, .int .i64 0, .slice none 0 0], .int .i64 (N)]) (by simp [results, Try.results51, go_sem, p0, p1, p2, psz]) rfl ⟨_, by omega, by omega, rfl, (res_below HBB.out _ _ _).alloc (by have := HBB.out.size; simp; omega) _⟩

end Go.Proofs.Ytndpoejohpmifaa
