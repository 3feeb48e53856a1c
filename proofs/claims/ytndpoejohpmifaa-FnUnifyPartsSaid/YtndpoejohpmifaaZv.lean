/-
  l2Parse of the model for every text; parse of the program: the leaves.
-/
import Derived.Test.YtndpoejohpmifaaZu
namespace Go.Proofs.Ytndpoejohpmifaa
open Go.RowKit
set_option linter.unusedVariables false
set_option linter.unusedSimpArgs false

theorem prs_any (s : ByteArray) (hs : s.size ≤ 1048576) : ∀ (d : Nat), d ≤ 17 → PrsT s d := by
  intro d
  induction d with
  | zero => intro _; exact prs_0 s
  | succ d ih =>
    intro hd D i I w r hD hI hi hr
    have HIH := Lib.hid (ih (by omega))
    have hd' : d ≤ 16 := by omega
    by_cases h : i < s.size
    case neg => rw [prs, if_neg h] at hr; subst hr; exact prs_e s d D i I w hD hI hi h
    rw [prs, if_pos h] at hr
    by_cases h73 : by8 s i = 73
    · rw [if_pos h73] at hr; subst hr; exact prs_num s hs d hd' D i I w hD hI h _ rfl (by simp [h73])
    rw [if_neg h73] at hr
    by_cases hv : 97 ≤ by8 s i ∧ by8 s i ≤ 122
    · rw [if_pos hv] at hr; subst hr; exact prs_var s hs d hd' D i I w hD hI h _ rfl hv.1 hv.2
    rw [if_neg hv] at hr
    by_cases h40 : by8 s i = 40
    case neg =>
      rw [if_neg h40] at hr
      subst hr
      by_cases h97 : by8 s i < 97
      · exact prs_lo s hs d hd' D i I w hD hI h _ rfl (by simpa using h73) h97 (by simpa using h40)
      · exact prs_hi s hs d hd' D i I w hD hI h _ rfl (by omega)
    rw [if_pos h40] at hr
    rcases hx : prs s d (i + 1) with _ | ⟨ta, n⟩
    · rw [hx] at hr; subst hr; exact prs_j0 s hs d hd' D i I w hD hI h h40 HIH (Lib.hid hx)
    rw [hx] at hr
    simp only at hr
    by_cases hk : by8 s n = 42 ∨ by8 s n = 62
    case neg =>
      rw [if_neg hk] at hr
      subst hr
      exact prs_j1 s hs d hd' D i I w hD hI h h40 HIH ta n (Lib.hid hx) (Lib.hid (by simp; omega)) (Lib.hid (by simp; omega))
    rw [if_pos hk] at hr
    rcases hk with hk | hk
    · rw [if_pos hk] at hr
      have H1 : Hid ((by8 s n == 42) = true) := Lib.hid (by simp [hk])
      have H2 : Hid ((by8 s n == 62) = false) := Lib.hid (by simp [hk])
      rcases hy : prs s d (n + 1) with _ | ⟨tb, m⟩
      · rw [hy] at hr; subst hr; exact prs_j2_3 s hs d hd' D i I w hD hI h h40 HIH ta n (Lib.hid hx) H1 H2 (Lib.hid hy)
      rw [hy] at hr
      simp only at hr
      by_cases hm : by8 s m = 41
      · rw [if_pos hm] at hr; subst hr; exact prs_j4_3 s hs d hd' D i I w hD hI h h40 HIH ta n (Lib.hid hx) H1 H2 tb m (Lib.hid hy) (Lib.hid (by simp [hm]))
      · rw [if_neg hm] at hr; subst hr; exact prs_j3_3 s hs d hd' D i I w hD hI h h40 HIH ta n (Lib.hid hx) H1 H2 tb m (Lib.hid hy) (Lib.hid (by simpa using hm))
    · rw [if_neg (show ¬ by8 s n = 42 by omega)] at hr
      have H1 : Hid ((by8 s n == 42) = false) := Lib.hid (by simp [hk])
      have H2 : Hid ((by8 s n == 62) = true) := Lib.hid (by simp [hk])
      rcases hy : prs s d (n + 1) with _ | ⟨tb, m⟩
      · rw [hy] at hr; subst hr; exact prs_j2_2 s hs d hd' D i I w hD hI h h40 HIH ta n (Lib.hid hx) H1 H2 (Lib.hid hy)
      rw [hy] at hr
      simp only at hr
      by_cases hm : by8 s m = 41
      · rw [if_pos hm] at hr; subst hr; exact prs_j4_2 s hs d hd' D i I w hD hI h h40 HIH ta n (Lib.hid hx) H1 H2 tb m (Lib.hid hy) (Lib.hid (by simp [hm]))
      · rw [if_neg hm] at hr; subst hr; exact prs_j3_2 s hs d hd' D i I w hD hI h h40 HIH ta n (Lib.hid hx) H1 H2 tb m (Lib.hid hy) (Lib.hid (by simpa using hm))

/-- What is behind the opening parenthesis. -/
def prsJ (s : ByteArray) (d i : Nat) : Option (Ty × Nat) :=
  match prs s d i with
  | none => none
  | some (a, n) =>
    if by8 s n = 42 ∨ by8 s n = 62 then
      match prs s d (n + 1) with
      | none => none
      | some (b, m) => if by8 s m = 41 then some (.node (if by8 s n = 42 then 3 else 2) 0 [a, b], m + 1) else none
    else none
theorem prs_40 {s : ByteArray} {d i : Nat} (hi : i < s.size) (h : by8 s i = 40) : prs s (d + 1) i = prsJ s d (i + 1) := by
  rw [prs, if_pos hi, if_neg (by omega), if_neg (by omega), if_pos h]; rfl

theorem RB.inside {w w' : World} {B p : Nat} (h : RB w B) (hI : Inside p (p + 1) w w') (hp : p < B) : RB w' B := h.keep hI.size (hI.block B h.sz (.inr (by omega)))
/-- What parse returns, and where the parser stands behind it. -/
def ImpRet (p : Nat) (s : ByteArray) : Option (Ty × Nat) → World → Ending → World → Prop
  | some (t, n), w, e, w' => ∃ v, e = .returned (.tuple #[.agg #[.int .i64 t.k, .int .i64 t.n, v], .bool true]) ∧ TyIn w' w.heap.size w'.heap.size t v ∧ PAt w' p s n ∧ Inside p (p + 1) w w'
  | none, w, e, w' => e = .returned (.tuple #[.agg #[.int .i64 0, .int .i64 0, .slice none 0 0], .bool false]) ∧ (∃ n, n ≤ s.size ∧ PAt w' p s n) ∧ Inside p (p + 1) w w'
def ImpT (s : ByteArray) (d : Nat) : Prop := ∀ (D : Int) (i p : Nat) (w : World) (r : Option (Ty × Nat)), D = d → i ≤ s.size → PAt w p s i → prs s d i = r →
    Calls Try.prog 40 #[.pointer (some ⟨p, 0, none⟩), .int .i64 D] w (ImpRet p s r w)
def JoinT (s : ByteArray) (d : Nat) : Prop := ∀ (D : Int) (i p : Nat) (w : World) (r : Option (Ty × Nat)), D = ((d + 1 : Nat) : Int) → i ≤ s.size → PAt w p s i → prsJ s d i = r →
    Calls Try.prog 75 #[.pointer (some ⟨p, 0, none⟩), .int .i64 D] w (ImpRet p s r w)
theorem imp_0 (s : ByteArray) : ImpT s 0 := by
  intro D i p w r hD hi hp hr
  obtain rfl : D = 0 := by omega
  have hr2 : r = none := by rw [← hr]; rfl
  subst hr2
  have HP := Lib.hid hp
  have hi' := Lib.hid hi
  clear hr hp hD hi
  go_enter Try.func40, Try.ntmps40
  go_wp2_with fail
  exact bodyPost_ret (v := .tuple #[.agg #[.int .i64 0, .int .i64 0, .slice none 0 0], .bool false]) (by simp [results, Try.results40, go_sem]) rfl ⟨rfl, ⟨i, hi'.out, HP.out.kept ((Below.refl _ _).alloc (Nat.le_refl _) _)⟩, Inside.of_below ((Below.refl _ _).alloc (Nat.le_refl _) _)⟩

theorem imp_res {w W : World} {p B : Nat} (h : Inside p (p + 1) w W) (hB : w.heap.size ≤ B) (hp : p < w.heap.size) (hs : w.heap.size ≤ W.heap.size) (x y z : Value) :
    Inside p (p + 1) w (((W.setCell ⟨B, 0, none⟩ x).setCell ⟨B, 1, none⟩ y).setCell ⟨B, 2, none⟩ z) := by
  refine ⟨h.os, h.tape, h.output, by simpa using h.size, fun b hb hx => ?_⟩
  rw [heap_setCell_other _ ⟨B, 2, none⟩ b _ (by show b ≠ B; omega), heap_setCell_other _ ⟨B, 1, none⟩ b _ (by show b ≠ B; omega), heap_setCell_other _ ⟨B, 0, none⟩ b _ (by show b ≠ B; omega)]
  exact h.block b hb hx
theorem PAt.res {W : World} {p B n : Nat} {s : ByteArray} (h : PAt W p s n) (hp : p ≠ B) (x y z : Value) : PAt (((W.setCell ⟨B, 0, none⟩ x).setCell ⟨B, 1, none⟩ y).setCell ⟨B, 2, none⟩ z) p s n := by
  have e : (((W.setCell ⟨B, 0, none⟩ x).setCell ⟨B, 1, none⟩ y).setCell ⟨B, 2, none⟩ z).heap[p]? = W.heap[p]? := by
    rw [heap_setCell_other _ ⟨B, 2, none⟩ p _ hp, heap_setCell_other _ ⟨B, 1, none⟩ p _ hp, heap_setCell_other _ ⟨B, 0, none⟩ p _ hp]
  exact ⟨(cellEq e).trans h.c0, (cellEq e).trans h.c1, (frozenEq e).trans h.f1, by simpa using h.sz⟩

set_option maxRecDepth 100000 in
set_option maxHeartbeats 1000000 in
theorem imp_num (s : ByteArray) (hs : s.size ≤ 1048576) (d : Nat) (hd : d ≤ 16) (D : Int) (i p : Nat) (w : World) (hD : D = ((d + 1 : Nat) : Int)) (hi : i ≤ s.size) (hp : PAt w p s i) (c : Int) (hc : by8 s i = c) (hlt : i < s.size) (h73 : (c == 73) = true) :
    Calls Try.prog 40 #[.pointer (some ⟨p, 0, none⟩), .int .i64 D] w (ImpRet p s (some (.node 1 0 [], i + 1)) w) := by
  have HP0 := Lib.hid (hp.kept ((Below.refl _ _).alloc (Nat.le_refl _) (.cells #[.int .i64 0, .int .i64 0, .slice none 0 0] 25)))
  have HR0 := Lib.hid (rb_new w 25)
  have HI0 : Hid (Inside p (p + 1) w (w.alloc (.cells #[.int .i64 0, .int .i64 0, .slice none 0 0] 25))) := Lib.hid (Inside.of_below ((Below.refl _ _).alloc (Nat.le_refl _) _))
  have hz := hp.sz
  have h4 : 1 ≤ D := by omega
  have h5 : D ≤ 17 := by omega
  have h6 : (D == 0) = false := by simp; omega
  have HI := Lib.hid hi
  have HD := Lib.hid hD
  clear hp hD
  go_enter Try.func40, Try.ntmps40
  go_wp2_with fail
  go_at_call 74
  refine (next_any p s i _ HP0.out hi hs).mono ?_
  rintro e w1 ⟨rfl, hp1, hI1⟩
  rw [hc]
  have HP1 := Lib.hid hp1
  have hz1 : w.heap.size + 1 ≤ w1.heap.size := by have := hI1.size; simp at this; omega
  have HI1 := Lib.hid (HI0.out.trans hI1)
  have HR1 := Lib.hid (HR0.out.inside hI1 hz)
  obtain ⟨p0, p1, p2, f0, f1, f2, psz⟩ := HR1.out
  clear hp1 hI1 hc
  rw [if_pos hlt] at HP1
  go_wp2_with fail
  exact bodyPost_ret (v := .tuple #[.agg #[.int .i64 1, .int .i64 0, .slice none 0 0], .bool true]) (by simp [results, Try.results40, go_sem, p0, p1, p2]) rfl ⟨_, rfl, .bare _ _ _ _ _ _, PAt.res HP1.out (by omega) _ _ _, imp_res HI1.out (Nat.le_refl _) hz (by omega) _ _ _⟩

set_option maxRecDepth 100000 in
set_option maxHeartbeats 1000000 in
theorem imp_var (s : ByteArray) (hs : s.size ≤ 1048576) (d : Nat) (hd : d ≤ 16) (D : Int) (i p : Nat) (w : World) (hD : D = ((d + 1 : Nat) : Int)) (hi : i ≤ s.size) (hp : PAt w p s i) (c : Int) (hc : by8 s i = c) (hlt : i < s.size) (h97 : 97 ≤ c) (h122 : c ≤ 122) :
    Calls Try.prog 40 #[.pointer (some ⟨p, 0, none⟩), .int .i64 D] w (ImpRet p s (some (.node 4 (c - 97) [], i + 1)) w) := by
  have HP0 := Lib.hid (hp.kept ((Below.refl _ _).alloc (Nat.le_refl _) (.cells #[.int .i64 0, .int .i64 0, .slice none 0 0] 25)))
  have HR0 := Lib.hid (rb_new w 25)
  have HI0 : Hid (Inside p (p + 1) w (w.alloc (.cells #[.int .i64 0, .int .i64 0, .slice none 0 0] 25))) := Lib.hid (Inside.of_below ((Below.refl _ _).alloc (Nat.le_refl _) _))
  have hz := hp.sz
  have h4 : 1 ≤ D := by omega
  have h5 : D ≤ 17 := by omega
  have h6 : (D == 0) = false := by simp; omega
  have HI := Lib.hid hi
  have HD := Lib.hid hD
  have h73 : (c == 73) = false := by simp; omega
  clear hp hD
  go_enter Try.func40, Try.ntmps40
  go_wp2_with fail
  go_at_call 74
  refine (next_any p s i _ HP0.out hi hs).mono ?_
  rintro e w1 ⟨rfl, hp1, hI1⟩
  rw [hc]
  have HP1 := Lib.hid hp1
  have hz1 : w.heap.size + 1 ≤ w1.heap.size := by have := hI1.size; simp at this; omega
  have HI1 := Lib.hid (HI0.out.trans hI1)
  have HR1 := Lib.hid (HR0.out.inside hI1 hz)
  obtain ⟨p0, p1, p2, f0, f1, f2, psz⟩ := HR1.out
  clear hp1 hI1 hc
  rw [if_pos hlt] at HP1
  go_wp2_with fail
  go_at_call 58
  refine (varType_any _ _).mono ?_
  rintro e w2 ⟨v, rfl, hty, hb⟩
  obtain ⟨a1, k1, rfl, _⟩ := hty.at.slice
  have HP2 := Lib.hid (HP1.out.kept hb)
  have HI2 := Lib.hid (HI1.out.trans (Inside.of_below hb))
  have hs2 : w.heap.size ≤ w2.heap.size := by have := hb.size; omega
  have HT := Lib.hid (hty.wide (show w.heap.size + 1 ≤ _ from hz1) (Nat.le_refl _))
  have HR2 := Lib.hid (HR1.out.kept hb)
  clear p0 p1 p2 f0 f1 f2 psz
  obtain ⟨p0, p1, p2, f0, f1, f2, psz⟩ := HR2.out
  clear hty hb
  go_wp2_with fail
  exact bodyPost_ret (v := .tuple #[.agg #[.int .i64 4, .int .i64 (c - 97), .slice a1 0 k1], .bool true]) (by simp [results, Try.results40, go_sem, p0, p1, p2, Ty.k, Ty.n, Ty.ks]) rfl ⟨_, rfl, res_ty HT.out (Nat.le_refl _) _ _ _, PAt.res HP2.out (by omega) _ _ _, imp_res HI2.out (Nat.le_refl _) hz hs2 _ _ _⟩

set_option maxRecDepth 100000 in
set_option maxHeartbeats 1000000 in
theorem imp_lo (s : ByteArray) (hs : s.size ≤ 1048576) (d : Nat) (hd : d ≤ 16) (D : Int) (i p : Nat) (w : World) (hD : D = ((d + 1 : Nat) : Int)) (hi : i ≤ s.size) (hp : PAt w p s i) (c : Int) (hc : by8 s i = c) (h73 : (c == 73) = false) (h97 : c < 97) (h40 : (c == 40) = false) :
    Calls Try.prog 40 #[.pointer (some ⟨p, 0, none⟩), .int .i64 D] w (ImpRet p s none w) := by
  have HP0 := Lib.hid (hp.kept ((Below.refl _ _).alloc (Nat.le_refl _) (.cells #[.int .i64 0, .int .i64 0, .slice none 0 0] 25)))
  have HR0 := Lib.hid (rb_new w 25)
  have HI0 : Hid (Inside p (p + 1) w (w.alloc (.cells #[.int .i64 0, .int .i64 0, .slice none 0 0] 25))) := Lib.hid (Inside.of_below ((Below.refl _ _).alloc (Nat.le_refl _) _))
  have hz := hp.sz
  have h4 : 1 ≤ D := by omega
  have h5 : D ≤ 17 := by omega
  have h6 : (D == 0) = false := by simp; omega
  have HI := Lib.hid hi
  have HD := Lib.hid hD
  have h97' : ¬ 97 ≤ c := by omega
  clear hp hD
  go_enter Try.func40, Try.ntmps40
  go_wp2_with fail
  go_at_call 74
  refine (next_any p s i _ HP0.out hi hs).mono ?_
  rintro e w1 ⟨rfl, hp1, hI1⟩
  rw [hc]
  have HP1 := Lib.hid hp1
  have hz1 : w.heap.size + 1 ≤ w1.heap.size := by have := hI1.size; simp at this; omega
  have HI1 := Lib.hid (HI0.out.trans hI1)
  have HR1 := Lib.hid (HR0.out.inside hI1 hz)
  obtain ⟨p0, p1, p2, f0, f1, f2, psz⟩ := HR1.out
  clear hp1 hI1 hc
  have HN : Hid (∃ n, n ≤ s.size ∧ PAt w1 p s n) := Lib.hid ⟨_, by split <;> omega, HP1.out⟩
  clear hi
  go_wp2_with fail
  exact bodyPost_ret (v := .tuple #[.agg #[.int .i64 0, .int .i64 0, .slice none 0 0], .bool false]) (by simp [results, Try.results40, go_sem, p0, p1, p2]) rfl ⟨rfl, (by obtain ⟨n, h1, h2⟩ := HN.out; exact ⟨n, h1, PAt.res h2 (by omega) _ _ _⟩), imp_res HI1.out (Nat.le_refl _) hz (by omega) _ _ _⟩

set_option maxRecDepth 100000 in
set_option maxHeartbeats 1000000 in
theorem imp_hi (s : ByteArray) (hs : s.size ≤ 1048576) (d : Nat) (hd : d ≤ 16) (D : Int) (i p : Nat) (w : World) (hD : D = ((d + 1 : Nat) : Int)) (hi : i ≤ s.size) (hp : PAt w p s i) (c : Int) (hc : by8 s i = c) (h122 : ¬ c ≤ 122) :
    Calls Try.prog 40 #[.pointer (some ⟨p, 0, none⟩), .int .i64 D] w (ImpRet p s none w) := by
  have HP0 := Lib.hid (hp.kept ((Below.refl _ _).alloc (Nat.le_refl _) (.cells #[.int .i64 0, .int .i64 0, .slice none 0 0] 25)))
  have HR0 := Lib.hid (rb_new w 25)
  have HI0 : Hid (Inside p (p + 1) w (w.alloc (.cells #[.int .i64 0, .int .i64 0, .slice none 0 0] 25))) := Lib.hid (Inside.of_below ((Below.refl _ _).alloc (Nat.le_refl _) _))
  have hz := hp.sz
  have h4 : 1 ≤ D := by omega
  have h5 : D ≤ 17 := by omega
  have h6 : (D == 0) = false := by simp; omega
  have HI := Lib.hid hi
  have HD := Lib.hid hD
  have h73 : (c == 73) = false := by simp; omega
  have h40 : (c == 40) = false := by simp; omega
  have h97 : 97 ≤ c := by omega
  clear hp hD
  go_enter Try.func40, Try.ntmps40
  go_wp2_with fail
  go_at_call 74
  refine (next_any p s i _ HP0.out hi hs).mono ?_
  rintro e w1 ⟨rfl, hp1, hI1⟩
  rw [hc]
  have HP1 := Lib.hid hp1
  have hz1 : w.heap.size + 1 ≤ w1.heap.size := by have := hI1.size; simp at this; omega
  have HI1 := Lib.hid (HI0.out.trans hI1)
  have HR1 := Lib.hid (HR0.out.inside hI1 hz)
  obtain ⟨p0, p1, p2, f0, f1, f2, psz⟩ := HR1.out
  clear hp1 hI1 hc
  have HN : Hid (∃ n, n ≤ s.size ∧ PAt w1 p s n) := Lib.hid ⟨_, by split <;> omega, HP1.out⟩
  clear hi
  go_wp2_with fail
  exact bodyPost_ret (v := .tuple #[.agg #[.int .i64 0, .int .i64 0, .slice none 0 0], .bool false]) (by simp [results, Try.results40, go_sem, p0, p1, p2]) rfl ⟨rfl, (by obtain ⟨n, h1, h2⟩ := HN.out; exact ⟨n, h1, PAt.res h2 (by omega) _ _ _⟩), imp_res HI1.out (Nat.le_refl _) hz (by omega) _ _ _⟩

set_option maxRecDepth 100000 in
set_option maxHeartbeats 1000000 in
theorem imp_40n (s : ByteArray) (hs : s.size ≤ 1048576) (d : Nat) (hd : d ≤ 16) (D : Int) (i p : Nat) (w : World) (hD : D = ((d + 1 : Nat) : Int)) (hi : i ≤ s.size) (hp : PAt w p s i) (c : Int) (hc : by8 s i = c) (HJ : Hid (JoinT s d)) (hlt : i < s.size) (h40 : (c == 40) = true) (HX : Hid (prsJ s d (i + 1) = none)) :
    Calls Try.prog 40 #[.pointer (some ⟨p, 0, none⟩), .int .i64 D] w (ImpRet p s none w) := by
  have HP0 := Lib.hid (hp.kept ((Below.refl _ _).alloc (Nat.le_refl _) (.cells #[.int .i64 0, .int .i64 0, .slice none 0 0] 25)))
  have HR0 := Lib.hid (rb_new w 25)
  have HI0 : Hid (Inside p (p + 1) w (w.alloc (.cells #[.int .i64 0, .int .i64 0, .slice none 0 0] 25))) := Lib.hid (Inside.of_below ((Below.refl _ _).alloc (Nat.le_refl _) _))
  have hz := hp.sz
  have h4 : 1 ≤ D := by omega
  have h5 : D ≤ 17 := by omega
  have h6 : (D == 0) = false := by simp; omega
  have HI := Lib.hid hi
  have HD := Lib.hid hD
  clear hp hD
  go_enter Try.func40, Try.ntmps40
  go_wp2_with fail
  go_at_call 74
  refine (next_any p s i _ HP0.out hi hs).mono ?_
  rintro e w1 ⟨rfl, hp1, hI1⟩
  rw [hc]
  have HP1 := Lib.hid hp1
  have hz1 : w.heap.size + 1 ≤ w1.heap.size := by have := hI1.size; simp at this; omega
  have HI1 := Lib.hid (HI0.out.trans hI1)
  have HR1 := Lib.hid (HR0.out.inside hI1 hz)
  obtain ⟨p0, p1, p2, f0, f1, f2, psz⟩ := HR1.out
  clear hp1 hI1 hc
  rw [if_pos hlt] at HP1
  have hlt' : i + 1 ≤ s.size := hlt
  have HLT := Lib.hid hlt'
  clear hi hlt hlt'
  have h73 : (c == 73) = false := by simp at h40 ⊢; omega
  have h97 : ¬ 97 ≤ c := by simp at h40; omega
  go_wp2_with fail
  go_at_call 75
  refine (HJ.out _ _ _ _ _ HD.out HLT.out HP1.out HX.out).mono ?_
  rintro e w2 ⟨rfl, hn, hI⟩
  have HN := Lib.hid hn
  clear hn
  have hs2 : w.heap.size + 1 ≤ w2.heap.size := by have := hI.size; omega
  have HI2 := Lib.hid (HI1.out.trans hI)
  have HR2 := Lib.hid (HR1.out.inside hI hz)
  clear p0 p1 p2 f0 f1 f2 psz hI
  obtain ⟨p0, p1, p2, f0, f1, f2, psz⟩ := HR2.out
  go_wp2_with fail
  exact bodyPost_ret (v := .tuple #[.agg #[.int .i64 0, .int .i64 0, .slice none 0 0], .bool false]) (by simp [results, Try.results40, go_sem, p0, p1, p2]) rfl ⟨rfl, (by obtain ⟨n, h1, h2⟩ := HN.out; exact ⟨n, h1, PAt.res h2 (by omega) _ _ _⟩), imp_res HI2.out (Nat.le_refl _) hz (by omega) _ _ _⟩

set_option maxRecDepth 100000 in
set_option maxHeartbeats 1000000 in
theorem imp_40s (s : ByteArray) (hs : s.size ≤ 1048576) (d : Nat) (hd : d ≤ 16) (D : Int) (i p : Nat) (w : World) (hD : D = ((d + 1 : Nat) : Int)) (hi : i ≤ s.size) (hp : PAt w p s i) (c : Int) (hc : by8 s i = c) (HJ : Hid (JoinT s d)) (t : Ty) (m : Nat) (hlt : i < s.size) (h40 : (c == 40) = true) (HX : Hid (prsJ s d (i + 1) = some (t, m))) :
    Calls Try.prog 40 #[.pointer (some ⟨p, 0, none⟩), .int .i64 D] w (ImpRet p s (some (t, m)) w) := by
  have HP0 := Lib.hid (hp.kept ((Below.refl _ _).alloc (Nat.le_refl _) (.cells #[.int .i64 0, .int .i64 0, .slice none 0 0] 25)))
  have HR0 := Lib.hid (rb_new w 25)
  have HI0 : Hid (Inside p (p + 1) w (w.alloc (.cells #[.int .i64 0, .int .i64 0, .slice none 0 0] 25))) := Lib.hid (Inside.of_below ((Below.refl _ _).alloc (Nat.le_refl _) _))
  have hz := hp.sz
  have h4 : 1 ≤ D := by omega
  have h5 : D ≤ 17 := by omega
  have h6 : (D == 0) = false := by simp; omega
  have HI := Lib.hid hi
  have HD := Lib.hid hD
  clear hp hD
  go_enter Try.func40, Try.ntmps40
  go_wp2_with fail
  go_at_call 74
  refine (next_any p s i _ HP0.out hi hs).mono ?_
  rintro e w1 ⟨rfl, hp1, hI1⟩
  rw [hc]
  have HP1 := Lib.hid hp1
  have hz1 : w.heap.size + 1 ≤ w1.heap.size := by have := hI1.size; simp at this; omega
  have HI1 := Lib.hid (HI0.out.trans hI1)
  have HR1 := Lib.hid (HR0.out.inside hI1 hz)
  obtain ⟨p0, p1, p2, f0, f1, f2, psz⟩ := HR1.out
  clear hp1 hI1 hc
  rw [if_pos hlt] at HP1
  have hlt' : i + 1 ≤ s.size := hlt
  have HLT := Lib.hid hlt'
  clear hi hlt hlt'
  have h73 : (c == 73) = false := by simp at h40 ⊢; omega
  have h97 : ¬ 97 ≤ c := by simp at h40; omega
  go_wp2_with fail
  go_at_call 75
  refine (HJ.out _ _ _ _ _ HD.out HLT.out HP1.out HX.out).mono ?_
  rintro e w2 ⟨v, rfl, hty, hp2, hI⟩
  obtain ⟨a1, k1, rfl, _⟩ := hty.at.slice
  have HT := Lib.hid (hty.wide (show w.heap.size + 1 ≤ _ from hz1) (Nat.le_refl _))
  have HP2 := Lib.hid hp2
  clear hty hp2
  have hs2 : w.heap.size + 1 ≤ w2.heap.size := by have := hI.size; omega
  have HI2 := Lib.hid (HI1.out.trans hI)
  have HR2 := Lib.hid (HR1.out.inside hI hz)
  clear p0 p1 p2 f0 f1 f2 psz hI
  obtain ⟨p0, p1, p2, f0, f1, f2, psz⟩ := HR2.out
  go_wp2_with fail
  exact bodyPost_ret (v := .tuple #[.agg #[.int .i64 t.k, .int .i64 t.n, .slice a1 t.ks.length k1], .bool true]) (by simp [results, Try.results40, go_sem, p0, p1, p2]) rfl ⟨_, rfl, res_ty HT.out (Nat.le_refl _) _ _ _, PAt.res HP2.out (by omega) _ _ _, imp_res HI2.out (Nat.le_refl _) hz (by omega) _ _ _⟩

end Go.Proofs.Ytndpoejohpmifaa
