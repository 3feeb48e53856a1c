/-
  ParseType of the model and of the program.
  Plain facts for the laws on functions that return a type: how many nodes lie below a valid type's root, one form for both results.
-/
import Derived.Test.YtndpoejohpmifaaZw
import Derived.Test.YtndpoejohpmifaaZij
import Derived.Test.YtndpoejohpmifaaZpq
import Derived.Test.YtndpoejohpmifaaZh
import Derived.Test.YtndpoejohpmifaaZg
namespace Go.Proofs.Ytndpoejohpmifaa
open Go.RowKit
set_option linter.unusedVariables false
set_option linter.unusedSimpArgs false

theorem imp_any (s : ByteArray) (hs : s.size ≤ 1048576) : ∀ (d : Nat), d ≤ 17 → ImpT s d := by
  intro d
  induction d with
  | zero => intro _; exact imp_0 s
  | succ d ih =>
    intro hd
    have HIH := Lib.hid (ih (by omega))
    have hd' : d ≤ 16 := by omega
    have HJ : JoinT s d := by
      intro D i p w r hD hi hp hr
      rw [prsJ] at hr
      rcases hx : prs s d i with _ | ⟨ta, n⟩
      · rw [hx] at hr; subst hr; exact join_0 s hs d hd' D i p w hD hi hp HIH (Lib.hid hx)
      rw [hx] at hr
      simp only at hr
      by_cases hk : by8 s n = 42 ∨ by8 s n = 62
      case neg => rw [if_neg hk] at hr; subst hr; exact join_1 s hs d hd' D i p w hD hi hp HIH ta n (Lib.hid hx) (Lib.hid (by omega)) (Lib.hid (by omega))
      rw [if_pos hk] at hr
      rcases hk with hk | hk
      · rw [if_pos hk] at hr
        rcases hy : prs s d (n + 1) with _ | ⟨tb, m⟩
        · rw [hy] at hr; subst hr; exact join_2_pair s hs d hd' D i p w hD hi hp HIH ta n (Lib.hid hx) hk (Lib.hid hy)
        rw [hy] at hr
        simp only at hr
        by_cases hm : by8 s m = 41
        · rw [if_pos hm] at hr; subst hr; exact join_4_pair s hs d hd' D i p w hD hi hp HIH ta n (Lib.hid hx) hk tb m (Lib.hid hy) (Lib.hid (by simp [hm]))
        · rw [if_neg hm] at hr; subst hr; exact join_3_pair s hs d hd' D i p w hD hi hp HIH ta n (Lib.hid hx) hk tb m (Lib.hid hy) (Lib.hid (by simpa using hm))
      · rw [if_neg (show ¬ by8 s n = 42 by omega)] at hr
        rcases hy : prs s d (n + 1) with _ | ⟨tb, m⟩
        · rw [hy] at hr; subst hr; exact join_2_fun s hs d hd' D i p w hD hi hp HIH ta n (Lib.hid hx) hk (Lib.hid hy)
        rw [hy] at hr
        simp only at hr
        by_cases hm : by8 s m = 41
        · rw [if_pos hm] at hr; subst hr; exact join_4_fun s hs d hd' D i p w hD hi hp HIH ta n (Lib.hid hx) hk tb m (Lib.hid hy) (Lib.hid (by simp [hm]))
        · rw [if_neg hm] at hr; subst hr; exact join_3_fun s hs d hd' D i p w hD hi hp HIH ta n (Lib.hid hx) hk tb m (Lib.hid hy) (Lib.hid (by simpa using hm))
    have HJJ := Lib.hid HJ
    intro D i p w r hD hi hp hr
    by_cases h : i < s.size
    case neg =>
      rw [prs, if_neg h] at hr
      subst hr
      have e : by8 s i = 0 := by8_end h
      exact imp_lo s hs d hd' D i p w hD hi hp 0 e (by decide) (by omega) (by decide)
    by_cases h40 : by8 s i = 40
    · rw [prs_40 h h40] at hr
      rcases r with _ | ⟨t, m⟩
      · exact imp_40n s hs d hd' D i p w hD hi hp _ h40 HJJ h (by decide) (Lib.hid hr)
      · exact imp_40s s hs d hd' D i p w hD hi hp _ h40 HJJ t m h (by decide) (Lib.hid hr)
    rw [prs, if_pos h] at hr
    by_cases h73 : by8 s i = 73
    · rw [if_pos h73] at hr; subst hr; exact imp_num s hs d hd' D i p w hD hi hp _ h73 h (by decide)
    rw [if_neg h73] at hr
    by_cases hv : 97 ≤ by8 s i ∧ by8 s i ≤ 122
    · rw [if_pos hv] at hr; subst hr; exact imp_var s hs d hd' D i p w hD hi hp _ rfl h hv.1 hv.2
    rw [if_neg hv, if_neg h40] at hr
    subst hr
    by_cases h97 : by8 s i < 97
    · exact imp_lo s hs d hd' D i p w hD hi hp _ rfl (by simpa using h73) h97 (by simpa using h40)
    · exact imp_hi s hs d hd' D i p w hD hi hp _ rfl (by omega)

/-- The valid type whose text is s. -/
def pT (s : ByteArray) : Option Ty :=
  match prs s 16 0 with
  | some (t, n) => if n = s.size ∧ tvT t = true then some t else none
  | none => none
theorem pT_none {s : ByteArray} (h : prs s 16 0 = none) : pT s = none := by rw [pT, h]
theorem pT_off {s : ByteArray} {t : Ty} {n : Nat} (h : prs s 16 0 = some (t, n)) (hn : n ≠ s.size) : pT s = none := by rw [pT, h]; simp [hn]
theorem pT_bad {s : ByteArray} {t : Ty} {n : Nat} (h : prs s 16 0 = some (t, n)) (ht : tvT t = false) : pT s = none := by rw [pT, h]; simp [ht]
theorem pT_some {s : ByteArray} {t : Ty} {n : Nat} (h : prs s 16 0 = some (t, n)) (hn : n = s.size) (ht : tvT t = true) : pT s = some t := by rw [pT, h]; simp [hn, ht]
/-- A type and whether there is one. -/
def OptRet : Option Ty → World → Ending → World → Prop
  | some t, w, e, w' => ∃ v, e = .returned (.tuple #[.agg #[.int .i64 t.k, .int .i64 t.n, v], .bool true]) ∧ TyIn w' w.heap.size w'.heap.size t v ∧ Below w.heap.size w w'
  | none, w, e, w' => e = .returned (.tuple #[.agg #[.int .i64 0, .int .i64 0, .slice none 0 0], .bool false]) ∧ Below w.heap.size w w'
theorem RB.below {w w' : World} {B : Nat} (h : RB w B) (hb : Below w.heap.size w w') : RB w' B := h.kept hb

set_option maxRecDepth 100000 in
set_option maxHeartbeats 2000000 in
theorem spec_a (s : ByteArray) (hs : s.size ≤ 1048576) (w : World) (HX : Hid (prs s 16 0 = none)) :
    Calls Try.prog 19 #[.string s] w (OptRet none w) := by
  have HIH := Lib.hid (prs_any s hs 16 (by omega))
  have HR0 := Lib.hid (rb_new w 25)
  have HB0 : Hid (Below w.heap.size w (w.alloc (.cells #[.int .i64 0, .int .i64 0, .slice none 0 0] 25))) := Lib.hid ((Below.refl _ _).alloc (Nat.le_refl _) _)
  go_enter Try.func19, Try.ntmps19
  go_wp2_with fail
  go_at_call 51
  refine (HIH.out 16 0 0 _ _ rfl rfl (by omega) HX.out).mono ?_
  rintro e w1 ⟨N, hN, hN2, rfl, hb⟩
  have hne : (N != (s.size : Int)) = true := by simp; omega
  have hne2 : (N == (s.size : Int)) = false := by simp; omega
  have HR1 := Lib.hid (HR0.out.kept hb)
  have HB1 := Lib.hid (HB0.out.trans (hb.mono HB0.out.size))
  obtain ⟨p0, p1, p2, f0, f1, f2, psz⟩ := HR1.out
  clear hb
  go_wp2_with fail
  exact bodyPost_ret (v := .tuple #[.agg #[.int .i64 0, .int .i64 0, .slice none 0 0], .bool false]) (by simp [results, Try.results19, go_sem, p0, p1, p2, psz]) rfl ⟨rfl, (res_below HB1.out _ _ _).alloc (by have := HB1.out.size; simp; omega) _⟩

set_option maxRecDepth 100000 in
set_option maxHeartbeats 2000000 in
theorem spec_b (s : ByteArray) (hs : s.size ≤ 1048576) (w : World) (t : Ty) (n : Nat) (HX : Hid (prs s 16 0 = some (t, n))) (hq : n ≠ s.size) :
    Calls Try.prog 19 #[.string s] w (OptRet none w) := by
  have HIH := Lib.hid (prs_any s hs 16 (by omega))
  have HR0 := Lib.hid (rb_new w 25)
  have HB0 : Hid (Below w.heap.size w (w.alloc (.cells #[.int .i64 0, .int .i64 0, .slice none 0 0] 25))) := Lib.hid ((Below.refl _ _).alloc (Nat.le_refl _) _)
  go_enter Try.func19, Try.ntmps19
  go_wp2_with fail
  go_at_call 51
  refine (HIH.out 16 0 0 _ _ rfl rfl (by omega) HX.out).mono ?_
  rintro e w1 ⟨v, N, hN, rfl, hty, hb⟩
  obtain ⟨a1, k1, rfl, _⟩ := hty.at.slice
  have hn : n ≤ s.size := prs_le s 16 _ _ _ HX.out
  have HR1 := Lib.hid (HR0.out.kept hb)
  have HB1 := Lib.hid (HB0.out.trans (hb.mono HB0.out.size))
  rw [sizeA] at hty
  have HT1 := Lib.hid hty
  obtain ⟨p0, p1, p2, f0, f1, f2, psz⟩ := HR1.out
  clear hb hty
  have hne2 : ¬ N = (s.size : Int) := by omega
  clear hn hq hN
  go_wp2_with fail
  exact bodyPost_ret (v := .tuple #[.agg #[.int .i64 0, .int .i64 0, .slice none 0 0], .bool false]) (by simp [results, Try.results19, go_sem, p0, p1, p2, psz]) rfl ⟨rfl, (res_below HB1.out _ _ _).alloc (by have := HB1.out.size; simp; omega) _⟩

set_option maxRecDepth 100000 in
set_option maxHeartbeats 2000000 in
theorem spec_c (s : ByteArray) (hs : s.size ≤ 1048576) (w : World) (t : Ty) (n : Nat) (HX : Hid (prs s 16 0 = some (t, n))) (hq : n = s.size) (HV : Hid (tvT t = false)) :
    Calls Try.prog 19 #[.string s] w (OptRet none w) := by
  have HIH := Lib.hid (prs_any s hs 16 (by omega))
  have HR0 := Lib.hid (rb_new w 25)
  have HB0 : Hid (Below w.heap.size w (w.alloc (.cells #[.int .i64 0, .int .i64 0, .slice none 0 0] 25))) := Lib.hid ((Below.refl _ _).alloc (Nat.le_refl _) _)
  go_enter Try.func19, Try.ntmps19
  go_wp2_with fail
  go_at_call 51
  refine (HIH.out 16 0 0 _ _ rfl rfl (by omega) HX.out).mono ?_
  rintro e w1 ⟨v, N, hN, rfl, hty, hb⟩
  obtain ⟨a1, k1, rfl, _⟩ := hty.at.slice
  have hn : n ≤ s.size := prs_le s 16 _ _ _ HX.out
  have HR1 := Lib.hid (HR0.out.kept hb)
  have HB1 := Lib.hid (HB0.out.trans (hb.mono HB0.out.size))
  rw [sizeA] at hty
  have HT1 := Lib.hid hty
  obtain ⟨p0, p1, p2, f0, f1, f2, psz⟩ := HR1.out
  clear hb hty
  obtain rfl : N = (s.size : Int) := by omega
  have HA : Hid (Below w1.heap.size w1 (w1.alloc (.cells #[.int .i64 t.k, .int .i64 t.n, .slice a1 t.ks.length k1] 25))) := Lib.hid ((Below.refl _ _).alloc (Nat.le_refl _) _)
  have HT2 := Lib.hid (HT1.out.kept HA.out)
  have HR2 := Lib.hid (HR1.out.kept HA.out)
  have HB2 := Lib.hid (HB1.out.trans (HA.out.mono HB1.out.size))
  have HX2 := Lib.hid (box_new w1 (.int .i64 t.k) (.int .i64 t.n) (.slice a1 t.ks.length k1) 25)
  have hzA : (w1.alloc (.cells #[.int .i64 t.k, .int .i64 t.n, .slice a1 t.ks.length k1] 25)).heap.size = w1.heap.size + 1 := by simp
  clear hn hq hN
  go_wp2_with fail
  go_at_call 16
  obtain ⟨W1, hW1⟩ : ∃ W1, w1.alloc (.cells #[.int .i64 t.k, .int .i64 t.n, .slice a1 t.ks.length k1] 25) = W1 := ⟨_, rfl⟩
  rw [hW1] at HA HT2 HR2 HB2 HX2 hzA ⊢
  clear hW1
  refine (typeValid_spec_val HV.out _ _ HT2.out.at).mono ?_
  rintro e w2 ⟨rfl, hb⟩
  have HR3 := Lib.hid (HR2.out.kept hb)
  have HB3 := Lib.hid (HB2.out.trans (hb.mono HB2.out.size))
  have HX3 := Lib.hid (bx_kept HX2.out hb (by omega))
  have HT3 := Lib.hid (HT2.out.kept hb)
  have hz3 : w1.heap.size + 1 ≤ w2.heap.size := by have := hb.size; omega
  clear p0 p1 p2 f0 f1 f2 psz hb
  obtain ⟨p0, p1, p2, f0, f1, f2, psz⟩ := HR3.out
  obtain ⟨x0, x1, x2⟩ := HX3.out
  go_wp2_with fail
  exact bodyPost_ret (v := .tuple #[.agg #[.int .i64 0, .int .i64 0, .slice none 0 0], .bool false]) (by simp [results, Try.results19, go_sem, p0, p1, p2, psz]) rfl ⟨rfl, (res_below HB3.out _ _ _)⟩

set_option maxRecDepth 100000 in
set_option maxHeartbeats 2000000 in
theorem spec_d (s : ByteArray) (hs : s.size ≤ 1048576) (w : World) (t : Ty) (n : Nat) (HX : Hid (prs s 16 0 = some (t, n))) (hq : n = s.size) (HV : Hid (tvT t = true)) :
    Calls Try.prog 19 #[.string s] w (OptRet (some t) w) := by
  have HIH := Lib.hid (prs_any s hs 16 (by omega))
  have HR0 := Lib.hid (rb_new w 25)
  have HB0 : Hid (Below w.heap.size w (w.alloc (.cells #[.int .i64 0, .int .i64 0, .slice none 0 0] 25))) := Lib.hid ((Below.refl _ _).alloc (Nat.le_refl _) _)
  go_enter Try.func19, Try.ntmps19
  go_wp2_with fail
  go_at_call 51
  refine (HIH.out 16 0 0 _ _ rfl rfl (by omega) HX.out).mono ?_
  rintro e w1 ⟨v, N, hN, rfl, hty, hb⟩
  obtain ⟨a1, k1, rfl, _⟩ := hty.at.slice
  have hn : n ≤ s.size := prs_le s 16 _ _ _ HX.out
  have HR1 := Lib.hid (HR0.out.kept hb)
  have HB1 := Lib.hid (HB0.out.trans (hb.mono HB0.out.size))
  rw [sizeA] at hty
  have HT1 := Lib.hid hty
  obtain ⟨p0, p1, p2, f0, f1, f2, psz⟩ := HR1.out
  clear hb hty
  obtain rfl : N = (s.size : Int) := by omega
  have HA : Hid (Below w1.heap.size w1 (w1.alloc (.cells #[.int .i64 t.k, .int .i64 t.n, .slice a1 t.ks.length k1] 25))) := Lib.hid ((Below.refl _ _).alloc (Nat.le_refl _) _)
  have HT2 := Lib.hid (HT1.out.kept HA.out)
  have HR2 := Lib.hid (HR1.out.kept HA.out)
  have HB2 := Lib.hid (HB1.out.trans (HA.out.mono HB1.out.size))
  have HX2 := Lib.hid (box_new w1 (.int .i64 t.k) (.int .i64 t.n) (.slice a1 t.ks.length k1) 25)
  have hzA : (w1.alloc (.cells #[.int .i64 t.k, .int .i64 t.n, .slice a1 t.ks.length k1] 25)).heap.size = w1.heap.size + 1 := by simp
  clear hn hq hN
  go_wp2_with fail
  go_at_call 16
  obtain ⟨W1, hW1⟩ : ∃ W1, w1.alloc (.cells #[.int .i64 t.k, .int .i64 t.n, .slice a1 t.ks.length k1] 25) = W1 := ⟨_, rfl⟩
  rw [hW1] at HA HT2 HR2 HB2 HX2 hzA ⊢
  clear hW1
  refine (typeValid_spec_val HV.out _ _ HT2.out.at).mono ?_
  rintro e w2 ⟨rfl, hb⟩
  have HR3 := Lib.hid (HR2.out.kept hb)
  have HB3 := Lib.hid (HB2.out.trans (hb.mono HB2.out.size))
  have HX3 := Lib.hid (bx_kept HX2.out hb (by omega))
  have HT3 := Lib.hid (HT2.out.kept hb)
  have hz3 : w1.heap.size + 1 ≤ w2.heap.size := by have := hb.size; omega
  clear p0 p1 p2 f0 f1 f2 psz hb
  obtain ⟨p0, p1, p2, f0, f1, f2, psz⟩ := HR3.out
  obtain ⟨x0, x1, x2⟩ := HX3.out
  go_wp2_with fail
  exact bodyPost_ret (v := .tuple #[.agg #[.int .i64 t.k, .int .i64 t.n, .slice a1 t.ks.length k1], .bool true]) (by simp [results, Try.results19, go_sem, p0, p1, p2, psz]) rfl ⟨_, rfl, res_ty (HT3.out.wide (Nat.le_refl _) (by omega)) (Nat.le_refl _) _ _ _, (res_below HB3.out _ _ _)⟩

theorem parseType_spec (s : ByteArray) (hs : s.size ≤ 1048576) (r : Option Ty) (hr : pT s = r) (w : World) :
    Calls Try.prog 19 #[.string s] w (OptRet r w) := by
  rcases hx : prs s 16 0 with _ | ⟨t, n⟩
  · rw [pT_none hx] at hr; subst hr; exact spec_a s hs w (Lib.hid hx)
  by_cases hn : n = s.size
  case neg => rw [pT_off hx hn] at hr; subst hr; exact spec_b s hs w t n (Lib.hid hx) hn
  rcases hv : tvT t with _ | _
  · rw [pT_bad hx hv] at hr; subst hr; exact spec_c s hs w t n (Lib.hid hx) hn (Lib.hid hv)
  · rw [pT_some hx hn hv] at hr; subst hr; exact spec_d s hs w t n (Lib.hid hx) hn (Lib.hid hv)

set_option maxRecDepth 100000 in
set_option maxHeartbeats 2000000 in
theorem impP_a (s : ByteArray) (hs : s.size ≤ 1048576) (w : World) (HX : Hid (prs s 16 0 = none)) :
    Calls Try.prog 13 #[.string s] w (OptRet none w) := by
  have HIH := Lib.hid (imp_any s hs 16 (by omega))
  have HR0 := Lib.hid ((rb_new w 25).kept ((Below.refl _ _).alloc (Nat.le_refl _) (.cells #[.string s, .int .i64 0] 51)))
  have HB0 : Hid (Below w.heap.size w ((w.alloc (.cells #[.int .i64 0, .int .i64 0, .slice none 0 0] 25)).alloc (.cells #[.string s, .int .i64 0] 51))) := Lib.hid (((Below.refl _ _).alloc (Nat.le_refl _) _).alloc (by simp) _)
  have HP0 : Hid (PAt ((w.alloc (.cells #[.int .i64 0, .int .i64 0, .slice none 0 0] 25)).alloc (.cells #[.string s, .int .i64 0] 51)) (w.heap.size + 1) s 0) := Lib.hid ⟨by go_simp, by go_simp, by go_simp, by simp⟩
  go_enter Try.func13, Try.ntmps13
  go_wp2_with fail
  go_at_call 40
  refine (HIH.out 16 0 _ _ _ rfl (Nat.zero_le _) HP0.out HX.out).mono ?_
  rintro e w1 ⟨rfl, ⟨n, hn, hp1⟩, hI⟩
  have HR1 := Lib.hid (HR0.out.keep hI.size (hI.block _ HR0.out.sz (.inl (Nat.lt_succ_self _))))
  have HB1 := Lib.hid (hI.below (Nat.le_succ _) HB0.out HB0.out.size)
  have hz1 : w.heap.size < w1.heap.size := HR1.out.sz
  obtain ⟨p0, p1, p2, f0, f1, f2, psz⟩ := HR1.out
  clear hp1 hI
  go_wp2_with fail
  exact bodyPost_ret (v := .tuple #[.agg #[.int .i64 0, .int .i64 0, .slice none 0 0], .bool false]) (by simp [results, Try.results13, go_sem, p0, p1, p2, psz]) rfl ⟨rfl, (res_below HB1.out _ _ _).alloc (by have := HB1.out.size; simp; omega) _⟩

set_option maxRecDepth 100000 in
set_option maxHeartbeats 2000000 in
theorem impP_b (s : ByteArray) (hs : s.size ≤ 1048576) (w : World) (t : Ty) (n : Nat) (HX : Hid (prs s 16 0 = some (t, n))) (hq : n ≠ s.size) :
    Calls Try.prog 13 #[.string s] w (OptRet none w) := by
  have HIH := Lib.hid (imp_any s hs 16 (by omega))
  have HR0 := Lib.hid ((rb_new w 25).kept ((Below.refl _ _).alloc (Nat.le_refl _) (.cells #[.string s, .int .i64 0] 51)))
  have HB0 : Hid (Below w.heap.size w ((w.alloc (.cells #[.int .i64 0, .int .i64 0, .slice none 0 0] 25)).alloc (.cells #[.string s, .int .i64 0] 51))) := Lib.hid (((Below.refl _ _).alloc (Nat.le_refl _) _).alloc (by simp) _)
  have HP0 : Hid (PAt ((w.alloc (.cells #[.int .i64 0, .int .i64 0, .slice none 0 0] 25)).alloc (.cells #[.string s, .int .i64 0] 51)) (w.heap.size + 1) s 0) := Lib.hid ⟨by go_simp, by go_simp, by go_simp, by simp⟩
  go_enter Try.func13, Try.ntmps13
  go_wp2_with fail
  go_at_call 40
  refine (HIH.out 16 0 _ _ _ rfl (Nat.zero_le _) HP0.out HX.out).mono ?_
  rintro e w1 ⟨v, rfl, hty, hp1, hI⟩
  obtain ⟨a1, k1, rfl, _⟩ := hty.at.slice
  have hn : n ≤ s.size := prs_le s 16 _ _ _ HX.out
  have HR1 := Lib.hid (HR0.out.keep hI.size (hI.block _ HR0.out.sz (.inl (Nat.lt_succ_self _))))
  have HB1 := Lib.hid (hI.below (Nat.le_succ _) HB0.out HB0.out.size)
  have hz1 : w.heap.size + 1 < w1.heap.size := hp1.sz
  rw [sizeA, sizeA] at hty
  have HT1 := Lib.hid hty
  have HA : Hid (Below w1.heap.size w1 (w1.alloc (.cells #[.int .i64 t.k, .int .i64 t.n, .slice a1 t.ks.length k1] 25))) := Lib.hid ((Below.refl _ _).alloc (Nat.le_refl _) _)
  have HT2 := Lib.hid (HT1.out.kept HA.out)
  have HR2 := Lib.hid (HR1.out.kept HA.out)
  have HB2 := Lib.hid (HB1.out.trans (HA.out.mono HB1.out.size))
  have HX2 := Lib.hid (box_new w1 (.int .i64 t.k) (.int .i64 t.n) (.slice a1 t.ks.length k1) 25)
  have hzA : (w1.alloc (.cells #[.int .i64 t.k, .int .i64 t.n, .slice a1 t.ks.length k1] 25)).heap.size = w1.heap.size + 1 := by simp
  obtain ⟨p0, p1, p2, f0, f1, f2, psz⟩ := HR1.out
  obtain ⟨q0, q1, qf, qz⟩ := hp1
  have hne2 : ¬ (n : Int) = (s.size : Int) := by omega
  clear hI hty hn hq
  go_wp2_with fail
  exact bodyPost_ret (v := .tuple #[.agg #[.int .i64 0, .int .i64 0, .slice none 0 0], .bool false]) (by simp [results, Try.results13, go_sem, p0, p1, p2, psz]) rfl ⟨rfl, (res_below HB1.out _ _ _).alloc (by have := HB1.out.size; simp; omega) _⟩

set_option maxRecDepth 100000 in
set_option maxHeartbeats 2000000 in
theorem impP_c (s : ByteArray) (hs : s.size ≤ 1048576) (w : World) (t : Ty) (n : Nat) (HX : Hid (prs s 16 0 = some (t, n))) (hq : n = s.size) (HV : Hid (tvT t = false)) :
    Calls Try.prog 13 #[.string s] w (OptRet none w) := by
  have HIH := Lib.hid (imp_any s hs 16 (by omega))
  have HR0 := Lib.hid ((rb_new w 25).kept ((Below.refl _ _).alloc (Nat.le_refl _) (.cells #[.string s, .int .i64 0] 51)))
  have HB0 : Hid (Below w.heap.size w ((w.alloc (.cells #[.int .i64 0, .int .i64 0, .slice none 0 0] 25)).alloc (.cells #[.string s, .int .i64 0] 51))) := Lib.hid (((Below.refl _ _).alloc (Nat.le_refl _) _).alloc (by simp) _)
  have HP0 : Hid (PAt ((w.alloc (.cells #[.int .i64 0, .int .i64 0, .slice none 0 0] 25)).alloc (.cells #[.string s, .int .i64 0] 51)) (w.heap.size + 1) s 0) := Lib.hid ⟨by go_simp, by go_simp, by go_simp, by simp⟩
  go_enter Try.func13, Try.ntmps13
  go_wp2_with fail
  go_at_call 40
  refine (HIH.out 16 0 _ _ _ rfl (Nat.zero_le _) HP0.out HX.out).mono ?_
  rintro e w1 ⟨v, rfl, hty, hp1, hI⟩
  obtain ⟨a1, k1, rfl, _⟩ := hty.at.slice
  have hn : n ≤ s.size := prs_le s 16 _ _ _ HX.out
  have HR1 := Lib.hid (HR0.out.keep hI.size (hI.block _ HR0.out.sz (.inl (Nat.lt_succ_self _))))
  have HB1 := Lib.hid (hI.below (Nat.le_succ _) HB0.out HB0.out.size)
  have hz1 : w.heap.size + 1 < w1.heap.size := hp1.sz
  rw [sizeA, sizeA] at hty
  have HT1 := Lib.hid hty
  have HA : Hid (Below w1.heap.size w1 (w1.alloc (.cells #[.int .i64 t.k, .int .i64 t.n, .slice a1 t.ks.length k1] 25))) := Lib.hid ((Below.refl _ _).alloc (Nat.le_refl _) _)
  have HT2 := Lib.hid (HT1.out.kept HA.out)
  have HR2 := Lib.hid (HR1.out.kept HA.out)
  have HB2 := Lib.hid (HB1.out.trans (HA.out.mono HB1.out.size))
  have HX2 := Lib.hid (box_new w1 (.int .i64 t.k) (.int .i64 t.n) (.slice a1 t.ks.length k1) 25)
  have hzA : (w1.alloc (.cells #[.int .i64 t.k, .int .i64 t.n, .slice a1 t.ks.length k1] 25)).heap.size = w1.heap.size + 1 := by simp
  obtain ⟨p0, p1, p2, f0, f1, f2, psz⟩ := HR1.out
  obtain ⟨q0, q1, qf, qz⟩ := hp1
  subst hq
  clear hI hty hn
  go_wp2_with fail
  go_at_call 15
  obtain ⟨W1, hW1⟩ : ∃ W1, w1.alloc (.cells #[.int .i64 t.k, .int .i64 t.n, .slice a1 t.ks.length k1] 25) = W1 := ⟨_, rfl⟩
  rw [hW1] at HA HT2 HR2 HB2 HX2 hzA ⊢
  clear hW1
  refine (typeValid_impl_val HV.out _ _ HT2.out.at).mono ?_
  rintro e w2 ⟨rfl, hb⟩
  have HR3 := Lib.hid (HR2.out.kept hb)
  have HB3 := Lib.hid (HB2.out.trans (hb.mono HB2.out.size))
  have HX3 := Lib.hid (bx_kept HX2.out hb (by omega))
  have HT3 := Lib.hid (HT2.out.kept hb)
  have hz3 : w1.heap.size + 1 ≤ w2.heap.size := by have := hb.size; omega
  clear p0 p1 p2 f0 f1 f2 psz hb q0 q1 qf qz
  obtain ⟨p0, p1, p2, f0, f1, f2, psz⟩ := HR3.out
  obtain ⟨x0, x1, x2⟩ := HX3.out
  go_wp2_with fail
  exact bodyPost_ret (v := .tuple #[.agg #[.int .i64 0, .int .i64 0, .slice none 0 0], .bool false]) (by simp [results, Try.results13, go_sem, p0, p1, p2, psz]) rfl ⟨rfl, (res_below HB3.out _ _ _)⟩

set_option maxRecDepth 100000 in
set_option maxHeartbeats 2000000 in
theorem impP_d (s : ByteArray) (hs : s.size ≤ 1048576) (w : World) (t : Ty) (n : Nat) (HX : Hid (prs s 16 0 = some (t, n))) (hq : n = s.size) (HV : Hid (tvT t = true)) :
    Calls Try.prog 13 #[.string s] w (OptRet (some t) w) := by
  have HIH := Lib.hid (imp_any s hs 16 (by omega))
  have HR0 := Lib.hid ((rb_new w 25).kept ((Below.refl _ _).alloc (Nat.le_refl _) (.cells #[.string s, .int .i64 0] 51)))
  have HB0 : Hid (Below w.heap.size w ((w.alloc (.cells #[.int .i64 0, .int .i64 0, .slice none 0 0] 25)).alloc (.cells #[.string s, .int .i64 0] 51))) := Lib.hid (((Below.refl _ _).alloc (Nat.le_refl _) _).alloc (by simp) _)
  have HP0 : Hid (PAt ((w.alloc (.cells #[.int .i64 0, .int .i64 0, .slice none 0 0] 25)).alloc (.cells #[.string s, .int .i64 0] 51)) (w.heap.size + 1) s 0) := Lib.hid ⟨by go_simp, by go_simp, by go_simp, by simp⟩
  go_enter Try.func13, Try.ntmps13
  go_wp2_with fail
  go_at_call 40
  refine (HIH.out 16 0 _ _ _ rfl (Nat.zero_le _) HP0.out HX.out).mono ?_
  rintro e w1 ⟨v, rfl, hty, hp1, hI⟩
  obtain ⟨a1, k1, rfl, _⟩ := hty.at.slice
  have hn : n ≤ s.size := prs_le s 16 _ _ _ HX.out
  have HR1 := Lib.hid (HR0.out.keep hI.size (hI.block _ HR0.out.sz (.inl (Nat.lt_succ_self _))))
  have HB1 := Lib.hid (hI.below (Nat.le_succ _) HB0.out HB0.out.size)
  have hz1 : w.heap.size + 1 < w1.heap.size := hp1.sz
  rw [sizeA, sizeA] at hty
  have HT1 := Lib.hid hty
  have HA : Hid (Below w1.heap.size w1 (w1.alloc (.cells #[.int .i64 t.k, .int .i64 t.n, .slice a1 t.ks.length k1] 25))) := Lib.hid ((Below.refl _ _).alloc (Nat.le_refl _) _)
  have HT2 := Lib.hid (HT1.out.kept HA.out)
  have HR2 := Lib.hid (HR1.out.kept HA.out)
  have HB2 := Lib.hid (HB1.out.trans (HA.out.mono HB1.out.size))
  have HX2 := Lib.hid (box_new w1 (.int .i64 t.k) (.int .i64 t.n) (.slice a1 t.ks.length k1) 25)
  have hzA : (w1.alloc (.cells #[.int .i64 t.k, .int .i64 t.n, .slice a1 t.ks.length k1] 25)).heap.size = w1.heap.size + 1 := by simp
  obtain ⟨p0, p1, p2, f0, f1, f2, psz⟩ := HR1.out
  obtain ⟨q0, q1, qf, qz⟩ := hp1
  subst hq
  clear hI hty hn
  go_wp2_with fail
  go_at_call 15
  obtain ⟨W1, hW1⟩ : ∃ W1, w1.alloc (.cells #[.int .i64 t.k, .int .i64 t.n, .slice a1 t.ks.length k1] 25) = W1 := ⟨_, rfl⟩
  rw [hW1] at HA HT2 HR2 HB2 HX2 hzA ⊢
  clear hW1
  refine (typeValid_impl_val HV.out _ _ HT2.out.at).mono ?_
  rintro e w2 ⟨rfl, hb⟩
  have HR3 := Lib.hid (HR2.out.kept hb)
  have HB3 := Lib.hid (HB2.out.trans (hb.mono HB2.out.size))
  have HX3 := Lib.hid (bx_kept HX2.out hb (by omega))
  have HT3 := Lib.hid (HT2.out.kept hb)
  have hz3 : w1.heap.size + 1 ≤ w2.heap.size := by have := hb.size; omega
  clear p0 p1 p2 f0 f1 f2 psz hb q0 q1 qf qz
  obtain ⟨p0, p1, p2, f0, f1, f2, psz⟩ := HR3.out
  obtain ⟨x0, x1, x2⟩ := HX3.out
  go_wp2_with fail
  exact bodyPost_ret (v := .tuple #[.agg #[.int .i64 t.k, .int .i64 t.n, .slice a1 t.ks.length k1], .bool true]) (by simp [results, Try.results13, go_sem, p0, p1, p2, psz]) rfl ⟨_, rfl, res_ty (HT3.out.wide (by omega) (by omega)) (Nat.le_refl _) _ _ _, (res_below HB3.out _ _ _)⟩

theorem parseType_impl (s : ByteArray) (hs : s.size ≤ 1048576) (r : Option Ty) (hr : pT s = r) (w : World) :
    Calls Try.prog 13 #[.string s] w (OptRet r w) := by
  rcases hx : prs s 16 0 with _ | ⟨t, n⟩
  · rw [pT_none hx] at hr; subst hr; exact impP_a s hs w (Lib.hid hx)
  by_cases hn : n = s.size
  case neg => rw [pT_off hx hn] at hr; subst hr; exact impP_b s hs w t n (Lib.hid hx) hn
  rcases hv : tvT t with _ | _
  · rw [pT_bad hx hv] at hr; subst hr; exact impP_c s hs w t n (Lib.hid hx) hn (Lib.hid hv)
  · rw [pT_some hx hn hv] at hr; subst hr; exact impP_d s hs w t n (Lib.hid hx) hn (Lib.hid hv)

end Go.Proofs.Ytndpoejohpmifaa

namespace Go.Proofs.Ytndpoejohpmifaa
open Go.RowKit
set_option linter.unusedVariables false
set_option linter.unusedSimpArgs false

theorem cnt_shp : ∀ (d : Nat) (t : Ty), shp d t = true → Cnt t (nd d t - 1) := by
  intro d
  induction d with
  | zero => intro t h; cases h
  | succ d ih =>
    intro t h
    obtain ⟨_, hk⟩ := shp_iff.1 h
    have e : nd (d + 1) t - 1 = t.ks.length + ((List.range t.ks.length).map fun i => nd d (t.ks.getD i Ty.dummy) - 1).sum := by
      rw [nd_succ]
      have key : ∀ j, ndk d t j = j + ((List.range j).map fun i => nd d (t.ks.getD i Ty.dummy) - 1).sum := by
        intro j
        induction j with
        | zero => rfl
        | succ j ihj =>
          rw [ndk_succ, sum_succ, ihj]
          have := nd_pos d (t.ks.getD j Ty.dummy)
          omega
      rw [key]; omega
    rw [e]
    cases t with
    | node k n ks => exact .node k n ks _ (fun i hi => ih _ (hk i hi))
theorem cnt_valid {t : Ty} (h : tvT t = true) : ∃ c, Cnt t c ∧ c ≤ 62 := by
  unfold tvT at h
  simp only [Bool.and_eq_true, decide_eq_true_eq] at h
  exact ⟨_, cnt_shp 16 t h.1, by omega⟩
/-- The type that comes with 'some', or the zero value. -/
def optT : Option Ty → Ty
  | some t => t
  | none => .node 0 0 []
theorem OptRet.flat {r : Option Ty} {w : World} {e : Ending} {w' : World} (h : OptRet r w e w') : ∃ v, e = .returned (.tuple #[.agg #[.int .i64 (optT r).k, .int .i64 (optT r).n, v], .bool r.isSome]) ∧ TyIn w' w.heap.size w'.heap.size (optT r) v ∧ Below w.heap.size w w' := by
  cases r with
  | none => exact ⟨_, h.1, .bare _ _ _ _ _ _, h.2⟩
  | some t => exact h
theorem pT_cnt (s : ByteArray) : ∃ c, Cnt (optT (pT s)) c ∧ c ≤ 62 := by
  rcases h : pT s with _ | t
  · exact ⟨0, .node 0 0 [] (fun _ => 0) (fun i hi => absurd hi (Nat.not_lt_zero _)), by omega⟩
  · refine cnt_valid ?_
    show tvT t = true
    rw [pT] at h
    split at h
    · split at h
      · rename_i hq; injection h with h; subst h; exact hq.2
      · cases h
    · cases h
theorem TBox.away {w w' : World} {B lo hi : Nat} {x y z : Value} (h : TBox w B x y z) (hI : Inside lo hi w w') (hB : B < lo ∨ hi ≤ B) : TBox w' B x y z := by
  have e := hI.block B h.sz hB
  exact ⟨(cellEq e).trans h.c0, (cellEq e).trans h.c1, (cellEq e).trans h.c2, Nat.lt_of_lt_of_le h.sz hI.size⟩
theorem TyIn.apart {w w' : World} {lo hi l h : Nat} {t : Ty} {v : Value} (hx : TyIn w l h t v) (hI : Inside lo hi w w') (hd : h ≤ lo ∨ hi ≤ l) : TyIn w' l h t v :=
  hx.keep hI.size (fun b h1 h2 h3 => hI.block b h3 (by omega))

end Go.Proofs.Ytndpoejohpmifaa

