/-
  The type of a name: the last element that has it. LookupName of the model.
-/
import Derived.Test.YtjciindcdcgclaaKd
import Derived.Test.YtjciindcdcgclaaAd
import Derived.Test.YtjciindcdcgclaaAg
namespace Go.Proofs.Ytjciindcdcgclaa
open Go.RowKit
set_option linter.unusedVariables false
set_option linter.unusedSimpArgs false

/-- The last of the first elements that has the name. -/
def lk (ls : List Kn) (s : ByteArray) : Nat → Option Ty
  | 0 => none
  | j + 1 => if (ls.getD j Kn.dummy).s.toList = s.toList then some (ls.getD j Kn.dummy).t else lk ls s j
def lookB (ls : List Kn) (s : ByteArray) : Option Ty := if envB ls = true then lk ls s ls.length else none
theorem lk_yes {ls : List Kn} {s : ByteArray} {j : Nat} (h : (ls.getD j Kn.dummy).s.toList = s.toList) : lk ls s (j + 1) = some (ls.getD j Kn.dummy).t := by simp only [lk, if_pos h]
theorem lk_no {ls : List Kn} {s : ByteArray} {j : Nat} (h : ¬ (ls.getD j Kn.dummy).s.toList = s.toList) : lk ls s (j + 1) = lk ls s j := by simp only [lk, if_neg h]
theorem lookB_bad {ls : List Kn} {s : ByteArray} (h : envB ls = false) : lookB ls s = none := by unfold lookB; rw [h]; rfl
theorem lookB_good {ls : List Kn} {s : ByteArray} (h : envB ls = true) : lookB ls s = lk ls s ls.length := by unfold lookB; rw [h]; rfl
theorem okK_ty {x : Kn} (h : okK x = true) : tvT x.t = true := by unfold okK at h; rw [Bool.and_eq_true] at h; exact h.2
/-- What is found is a type that is valid. -/
theorem lk_valid {ls : List Kn} {s : ByteArray} (h : ∀ i, i < ls.length → tvT (ls.getD i Kn.dummy).t = true) : ∀ (j : Nat) (t : Ty), j ≤ ls.length → lk ls s j = some t → tvT t = true
  | 0, t, _, e => by cases e
  | j + 1, t, hj, e => by
    by_cases hs : (ls.getD j Kn.dummy).s.toList = s.toList
    · rw [lk_yes hs] at e; cases e; exact h j hj
    · rw [lk_no hs] at e; exact lk_valid h j t (by omega) e
theorem lookB_valid {ls : List Kn} {s : ByteArray} {t : Ty} (h : lookB ls s = some t) : tvT t = true := by
  rcases e : envB ls with _ | _
  · rw [lookB_bad e] at h; cases h
  · rw [lookB_good e] at h
    exact lk_valid (fun i hi => okK_ty ((envB_all e).2 i hi)) _ _ (Nat.le_refl _) h
theorem lookB_cnt (ls : List Kn) (s : ByteArray) : ∃ c, Cnt (optT (lookB ls s)) c ∧ c ≤ 62 := by
  rcases e : lookB ls s with _ | t
  · exact ⟨0, .node 0 0 [] (fun _ => 0) (fun i hi => absurd hi (Nat.not_lt_zero _)), by omega⟩
  · exact cnt_valid (lookB_valid e)

set_option maxRecDepth 100000 in
set_option maxHeartbeats 4000000 in
theorem lookup_spec (ls : List Kn) (v : Value) (s : ByteArray) (w : World) (hz : KnSz ls) (hx : KnAt w ls v) (r : Option Ty) (hr : lookB ls s = r) :
    Calls Try.prog 9 #[v, .string s] w (OptRet r w) := by
  have HR0 := Lib.hid (rb_new w 28)
  have HB0 : Hid (Below w.heap.size w (w.alloc (.cells #[.int .i64 0, .int .i64 0, .slice none 0 0] 28))) := Lib.hid ((Below.refl _ _).alloc (Nat.le_refl _) _)
  have HX := Lib.hid hx
  have HZ : Hid (KnSz ls) := Lib.hid hz
  obtain ⟨a, cap, rfl, hlen⟩ := hx.slice
  obtain ⟨L, hL⟩ : ∃ L, ls.length = L := ⟨_, rfl⟩
  have HL := Lib.hid hL
  rw [hL] at hlen HX ⊢
  clear hx hz
  rcases he : envB ls with _ | _
  · have HE := Lib.hid he
    obtain rfl : r = none := by rw [← hr]; exact lookB_bad he
    clear he hr hL
    go_enter Try.func9, Try.ntmps9
    go_wp2_with fail
    go_at_call 12
    refine (envValid_spec ls _ _ HZ.out (HX.out.kept HB0.out)).mono ?_
    rintro e w1 ⟨rfl, hb1⟩
    rw [HE.out]
    have HR1 := Lib.hid (HR0.out.kept hb1)
    have HB1 := Lib.hid (HB0.out.trans (hb1.mono HB0.out.size))
    clear hb1
    obtain ⟨p0, p1, p2, f0, f1, f2, psz⟩ := HR1.out
    go_wp2_with fail
    exact bodyPost_ret (v := .tuple #[.agg #[.int .i64 0, .int .i64 0, .slice none 0 0], .bool false]) (by simp [results, Try.results9, go_sem, p0, p1, p2, psz]) rfl ⟨rfl, res_below HB1.out _ _ _⟩
  have HE := Lib.hid he
  have HLK : Hid (lk ls s L = r) := Lib.hid (by rw [← hL, ← lookB_good he]; exact hr)
  have hL60 : L ≤ 60 := by rw [← hL]; exact (envB_all he).1
  have HV : Hid (∀ i, i < L → tvT (ls.getD i Kn.dummy).t = true) := Lib.hid (fun i hi => okK_ty ((envB_all he).2 i (by rw [hL]; exact hi)))
  clear he hr hL
  go_enter Try.func9, Try.ntmps9
  go_wp2_with fail
  go_at_call 12
  refine (envValid_spec ls _ _ HZ.out (HX.out.kept HB0.out)).mono ?_
  rintro e w1 ⟨rfl, hb1⟩
  rw [HE.out]
  have HR1 := Lib.hid (HR0.out.kept hb1)
  have HB1 := Lib.hid (HB0.out.trans (hb1.mono HB0.out.size))
  have HZ1 : Hid (w.heap.size + 1 ≤ w1.heap.size) := Lib.hid (by have := hb1.size; simp at this; omega)
  clear hb1
  obtain ⟨p0, p1, p2, f0, f1, f2, psz⟩ := HR1.out
  go_wp2_with fail
  go_loopw [6] (fun i wr => ∃ (j : Nat) (p : Int), j ≤ L ∧ p = (j : Int) - 1 ∧ i = .int .i64 p ∧ Hid (lk ls s j = r) ∧ wr = w1) (fun i _ => (intOf i + 1).toNat)
  case atStart => exact ⟨L, (L : Int) - 1, Nat.le_refl _, rfl, by go_num, HLK, rfl⟩
  case round =>
    obtain ⟨j, p, hj, hp, rfl, hlk, rfl⟩ := hrel
    cases j with
    | zero =>
      obtain rfl : p = -1 := by omega
      have HR : Hid (r = none) := Lib.hid (by rw [← hlk.out]; rfl)
      clear hlk hp
      go_wp2_with fail
      rw [HR.out]
      exact bodyPost_ret (v := .tuple #[.agg #[.int .i64 0, .int .i64 0, .slice none 0 0], .bool false]) (by simp [results, Try.results9, go_sem, p0, p1, p2, psz]) rfl ⟨rfl, res_below HB1.out _ _ _⟩
    | succ k =>
      obtain rfl : p = (k : Int) := by omega
      have hkL : (k : Int) < (L : Int) := by omega
      have hk0 : 0 ≤ (k : Int) := by omega
      have hjl : k < ls.length := by rw [HL.out]; omega
      obtain ⟨b, o, cap2, vi, ex, bl, ⟨x0, x1, x2, x3⟩, hkid⟩ := (HX.out.kept HB1.out).kid k hjl
      have ex1 : a = some ⟨b, o, none⟩ := by injection ex
      subst ex1
      clear ex
      obtain ⟨x, hxx⟩ : ∃ x, ls.getD k Kn.dummy = x := ⟨_, rfl⟩
      have hv := HV.out k (by omega)
      rw [hxx] at x0 x1 x2 hkid hv
      have HVX := Lib.hid hv
      have HXX := Lib.hid hxx
      have HKID := Lib.hid hkid
      obtain ⟨ti, tc, rfl, _⟩ := hkid.slice
      clear hjl hxx hkid hv hp
      by_cases hs : x.s.toList = s.toList
      · have hsb : (x.s.toList == s.toList) = true := by rw [beq_iff_eq]; exact hs
        have HR : Hid (r = some x.t) := Lib.hid (by rw [← hlk.out, lk_yes (by rw [HXX.out]; exact hs), HXX.out])
        clear hs hlk
        go_wp2_with fail
        go_at_call 38
        refine (l2Copy_any 16 x.t _ _ (tvT_shp HVX.out) HKID.out).mono ?_
        rintro e w2 ⟨v2, rfl, hty, hb2⟩
        obtain ⟨a2, k2, rfl, _⟩ := hty.at.slice
        have HTY := Lib.hid hty
        have HB2 := Lib.hid (HB1.out.trans (hb2.mono HB1.out.size))
        have HR2 := Lib.hid (HR1.out.kept hb2)
        clear hty hb2 p0 p1 p2 f0 f1 f2 psz
        obtain ⟨p0, p1, p2, f0, f1, f2, psz⟩ := HR2.out
        go_wp2_with fail
        rw [HR.out]
        exact bodyPost_ret (v := .tuple #[.agg #[.int .i64 x.t.k, .int .i64 x.t.n, .slice a2 x.t.ks.length k2], .bool true]) (by simp [results, Try.results9, go_sem, p0, p1, p2, psz]) rfl ⟨_, rfl, res_ty (HTY.out.wide HZ1.out (Nat.le_refl _)) (Nat.le_refl _) _ _ _, res_below HB2.out _ _ _⟩
      · have hsb : (x.s.toList == s.toList) = false := by rw [beq_eq_false_iff_ne]; exact hs
        have HLK2 : Hid (lk ls s k = r) := Lib.hid (by rw [← hlk.out]; exact (lk_no (by rw [HXX.out]; exact hs)).symm)
        clear hs hlk
        go_wp2_with fail
        go_roundw
        case rel => exact ⟨k, (k : Int) - 1, by omega, rfl, by go_num, HLK2, by first | trivial | rfl⟩
        case measure => simp [intOf]
end Go.Proofs.Ytjciindcdcgclaa
