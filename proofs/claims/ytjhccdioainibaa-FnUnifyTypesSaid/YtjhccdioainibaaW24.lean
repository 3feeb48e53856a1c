/-
Unification of the model: it makes two types equal by binding variables, in the most general way, or says that there is none.
-/
import Derived.Test.YtjhccdioainibaaW23
namespace Go.Proofs.Ytjhccdioainibaa
open Go.RowKit
set_option linter.unusedVariables false
set_option linter.unusedSimpArgs false

theorem oc_other3 {w : World} {E S : Nat} {k n : Int} {v : Value} (h : OC w E k n v) (hne : E ≠ S) (x y z : Value) : OC (((w.setCell ⟨S, 0, none⟩ x).setCell ⟨S, 1, none⟩ y).setCell ⟨S, 2, none⟩ z) E k n v :=
  h.keep (by simp) (by rw [heap_setCell_other _ ⟨S, 2, none⟩ E _ hne, heap_setCell_other _ ⟨S, 1, none⟩ E _ hne, heap_setCell_other _ ⟨S, 0, none⟩ E _ hne])
def UnPost (w0 : World) (kb N : Nat) (B : Bn) (a b : Ty) (w : World) (e : Ending) (w' : World) : Prop := ∃ (r : Bool) (B' : Bn) (xs' : List Value), e = .returned (.bool r) ∧ UniOk N B B' a b r ∧ BAt w0 w' kb N B' xs' ∧ Inside kb (kb + 1) w w'
set_option maxRecDepth 100000 in
set_option maxHeartbeats 8000000 in
theorem l2Unify_var (w0 : World) (kb N : Nat) (B : Bn) (xs : List Value) (hB : BOK N B) (hN : N ≤ 100000) (q : Nat) (hq : q < N) (a b : Ty) (va vb : Value) (w : World) (hfa : Ful B a (.node 4 (q : Int) [])) (hwa : Wt N a) (hwb : Wt N b) (hxa : TyN w0 0 kb a va) (hxb : TyN w0 0 kb b vb) (hi : Inside kb (kb + 1) w0 w) (hba : BAt w0 w kb N B xs) :
    Calls Try.prog 24 #[.agg #[.int .i64 a.k, .int .i64 a.n, va], .agg #[.int .i64 b.k, .int .i64 b.n, vb], .slice (some ⟨kb, 0, none⟩) N N] w (UnPost w0 kb N B a b w) := by
  have HBK := Lib.hid hB
  have HFA := Lib.hid hfa
  have HQ := Lib.hid hq
  clear hB hfa
  obtain ⟨S, hS⟩ : ∃ S, w.heap.size = S := ⟨_, rfl⟩
  have hkS : kb < S := by rw [← hS]; exact hba.lt
  have HXA := Lib.hid hxa
  have HXB := Lib.hid hxb
  have HWA := Lib.hid hwa
  have HWB := Lib.hid hwb
  have HI := Lib.hid hi
  have HA0 := Lib.hid hba
  obtain ⟨av, ac, hav⟩ := hxa.slice
  obtain ⟨bv, bc, hbv⟩ := hxb.slice
  clear hxa hxb hwa hwb hi hba
  subst hav
  subst hbv
  obtain ⟨W1, hW1⟩ : ∃ W, (w.alloc (.cells #[.int .i64 a.k, .int .i64 a.n, .slice av a.ks.length ac] 28)).alloc (.cells #[.int .i64 b.k, .int .i64 b.n, .slice bv b.ks.length bc] 28) = W := ⟨_, rfl⟩
  have HB1 : Hid (Below w.heap.size w W1) := Lib.hid (by rw [← hW1]; exact ((Below.refl _ _).alloc (Nat.le_refl _) _).alloc (by simp) _)
  have HO1 : Hid (OC W1 S a.k a.n (.slice av a.ks.length ac)) := Lib.hid (by rw [← hW1, ← hS]; exact (oc_new w _ _ _ _).kept ((Below.refl _ _).alloc (Nat.le_refl _) _))
  have HP1 : Hid (OC W1 (S + 1) b.k b.n (.slice bv b.ks.length bc)) := Lib.hid (by
    have h := oc_new (w.alloc (.cells #[.int .i64 a.k, .int .i64 a.n, .slice av a.ks.length ac] 28)) b.k b.n (.slice bv b.ks.length bc) 28
    rw [hW1, sizeA', hS] at h; exact h)
  have HA1 := Lib.hid (HA0.out.kept HB1.out)
  have HW1 := Lib.hid hW1
  have HS := Lib.hid hS
  clear hW1
  go_enter Try.func24, Try.ntmps24
  go_wp2_with fail
  rw [HW1.out]
  clear hS
  try rw [HS.out]
  go_at_call 55
  refine (l2Walk_any w0 kb N B xs HBK.out hN a _ _ HWA.out HXA.out HA1.out).mono ?_
  rintro e w2 ⟨t1, v1, rfl, hwk1, htr1, hx1, hb2⟩
  have HWK1 := Lib.hid hwk1
  have HT1 := Lib.hid (hwk1.wt HBK.out HWA.out)
  have HTR1 := Lib.hid htr1
  have HX1 := Lib.hid hx1
  obtain ⟨a1, c1, rfl⟩ := hx1.slice
  have HO2 := Lib.hid (HO1.out.kept hb2)
  have HP2 := Lib.hid (HP1.out.kept hb2)
  have HB2 := Lib.hid (HB1.out.trans (hb2.mono HB1.out.size))
  have HA2 := Lib.hid (HA1.out.kept hb2)
  clear hwk1 htr1 hx1 hb2
  obtain ⟨k1, hk1⟩ : ∃ n, t1.k = n := ⟨_, rfl⟩
  obtain ⟨n1, hn1⟩ : ∃ n, t1.n = n := ⟨_, rfl⟩
  obtain ⟨L1, hL1⟩ : ∃ n, t1.ks.length = n := ⟨_, rfl⟩
  have HK1 := Lib.hid hk1
  have HN1 := Lib.hid hn1
  have HL1 := Lib.hid hL1
  rw [hk1, hn1, hL1]
  rw [hL1] at HX1
  clear hk1 hn1 hL1
  obtain ⟨W3, hW3⟩ : ∃ W, ((w2.setCell ⟨S, 0, none⟩ (.int .i64 k1)).setCell ⟨S, 1, none⟩ (.int .i64 n1)).setCell ⟨S, 2, none⟩ (.slice a1 L1 c1) = W := ⟨_, rfl⟩
  have HO3 : Hid (OC W3 S k1 n1 (.slice a1 L1 c1)) := Lib.hid (by rw [← hW3]; exact oc_set3 HO2.out _ _ _)
  have HP3 : Hid (OC W3 (S + 1) b.k b.n (.slice bv b.ks.length bc)) := Lib.hid (by rw [← hW3]; exact oc_other3 HP2.out (by omega) _ _ _)
  have HB3 : Hid (Below w.heap.size w W3) := Lib.hid (by rw [← hW3]; exact below_set3 HB2.out (by rw [HS.out]; omega) _ _ _)
  have HA3 : Hid (BAt w0 W3 kb N B xs) := Lib.hid (by rw [← hW3]; exact HA2.out.set3 (by omega) _ _ _)
  obtain ⟨x0, x1, x2, f0, f1, f2, xz⟩ := HO2.out
  obtain ⟨y0, y1, y2, g0, g1, g2, yz⟩ := HP3.out
  go_wp2_with fail
  clear hW3 x0 x1 x2 f0 f1 f2 xz y0 y1 y2 g0 g1 g2 yz
  go_at_call 55
  refine (l2Walk_any w0 kb N B xs HBK.out hN b _ _ HWB.out HXB.out HA3.out).mono ?_
  rintro e w4 ⟨t2, v2, rfl, hwk2, htr2, hx2, hb4⟩
  have HWK2 := Lib.hid hwk2
  have HT2 := Lib.hid (hwk2.wt HBK.out HWB.out)
  have HTR2 := Lib.hid htr2
  have HX2 := Lib.hid hx2
  obtain ⟨a2, c2, rfl⟩ := hx2.slice
  have HO4 := Lib.hid (HO3.out.kept hb4)
  have HP4 := Lib.hid (HP3.out.kept hb4)
  have HB4 := Lib.hid (HB3.out.trans (hb4.mono HB3.out.size))
  have HA4 := Lib.hid (HA3.out.kept hb4)
  clear hwk2 htr2 hx2 hb4
  obtain ⟨k2, hk2⟩ : ∃ n, t2.k = n := ⟨_, rfl⟩
  obtain ⟨n2, hn2⟩ : ∃ n, t2.n = n := ⟨_, rfl⟩
  obtain ⟨L2, hL2⟩ : ∃ n, t2.ks.length = n := ⟨_, rfl⟩
  have HK2 := Lib.hid hk2
  have HN2 := Lib.hid hn2
  have HL2 := Lib.hid hL2
  rw [hk2, hn2, hL2]
  rw [hL2] at HX2
  clear hk2 hn2 hL2
  obtain ⟨W5, hW5⟩ : ∃ W, ((w4.setCell ⟨S + 1, 0, none⟩ (.int .i64 k2)).setCell ⟨S + 1, 1, none⟩ (.int .i64 n2)).setCell ⟨S + 1, 2, none⟩ (.slice a2 L2 c2) = W := ⟨_, rfl⟩
  have HP5 : Hid (OC W5 (S + 1) k2 n2 (.slice a2 L2 c2)) := Lib.hid (by rw [← hW5]; exact oc_set3 HP4.out _ _ _)
  have HO5 : Hid (OC W5 S k1 n1 (.slice a1 L1 c1)) := Lib.hid (by rw [← hW5]; exact oc_other3 HO4.out (by omega) _ _ _)
  have HB5 : Hid (Below w.heap.size w W5) := Lib.hid (by rw [← hW5]; exact below_set3 HB4.out (by rw [HS.out]; omega) _ _ _)
  have HA5 : Hid (BAt w0 W5 kb N B xs) := Lib.hid (by rw [← hW5]; exact HA4.out.set3 (by omega) _ _ _)
  have HI5 : Hid (Inside kb (kb + 1) w0 W5) := Lib.hid (HI.out.trans (in_below HB5.out))
  obtain ⟨p0, p1, p2, q0, q1, q2, pz⟩ := HP4.out
  obtain ⟨x0, x1, x2, f0, f1, f2, xz⟩ := HO5.out
  obtain ⟨y0, y1, y2, g0, g1, g2, yz⟩ := HP5.out
  obtain ⟨u2, hu2⟩ := ful_exists HBK.out HT2.out
  have HU2 := Lib.hid hu2
  clear hu2
  have HT1E : Hid (t1 = .node 4 (q : Int) [] ∧ B (q : Int) = none) := Lib.hid (by
    rcases ful_shape (HWK1.out.ful HFA.out) HTR1.out with ⟨_, e⟩ | ⟨z, e, e2, hz⟩ | ⟨k, x, y, x', y', hk, _, e, _⟩
    · injection e with e; omega
    · injection e2 with _ e2 _; subst e2; exact ⟨e, hz⟩
    · injection e with e; omega)
  have hk1e : k1 = 4 := by have := HK1.out; rw [HT1E.out.1] at this; exact this.symm
  have hn1e : n1 = (q : Int) := by have := HN1.out; rw [HT1E.out.1] at this; exact this.symm
  subst hk1e
  subst hn1e
  by_cases hsame : k2 = 4 ∧ n2 = (q : Int)
  · have HR : Hid (UniOk N B B a b true) := Lib.hid (by
      have e2 : t2 = t1 := by
        rw [HT1E.out.1]
        rcases ful_shape HU2.out HTR2.out with ⟨e, _⟩ | ⟨z, e, _, _⟩ | ⟨k, x, y, x', y', hk, e, _⟩
        · have h := HK2.out; rw [e] at h; have h : (1 : Int) = k2 := h; omega
        · have h := HN2.out; rw [e] at h; have h : z = n2 := h; rw [e, h, hsame.2]
        · have h := HK2.out; rw [e] at h; have h : k = k2 := h; omega
      have h := uni_same HBK.out t1
      exact UniOk.wk HWK1.out (by rw [← e2]; exact HWK2.out) h)
    obtain ⟨e4, en⟩ := hsame
    subst e4
    subst en
    go_wp2_with fail
    go_ret
    exact ⟨true, B, xs, rfl, HR.out, HA5.out, in_below HB5.out⟩
  have hkz : k2 ≠ 4 ∨ n2 ≠ (q : Int) := by
    by_cases e : k2 = 4
    · exact .inr (fun e2 => hsame ⟨e, e2⟩)
    · exact .inl e
  have HNS : Hid (Occ (q : Int) u2 → u2.k ≠ 4) := Lib.hid (fun ho h4 => by
    rcases ful_shape HU2.out HTR2.out with ⟨_, e⟩ | ⟨z, e, e2, _⟩ | ⟨k, x, y, x', y', hk, _, e, _⟩
    · rw [e] at h4; have h4 : (1 : Int) = 4 := h4; omega
    · rw [e2] at ho
      cases ho
      refine hsame ⟨?_, ?_⟩
      · have h := HK2.out; rw [e] at h; exact h.symm
      · have h := HN2.out; rw [e] at h; exact h.symm
    · rw [e] at h4; have h4 : k = 4 := h4; omega)
  have HC : Hid (((4 : Int) == 4) = true) := Lib.hid rfl
  clear hsame
  rcases ho : occB (q : Int) u2 with _ | _
  · have HOC := Lib.hid ho
    have hno : ¬ Occ (q : Int) u2 := fun h => by rw [occB_yes h] at ho; cases ho
    have HR : Hid (UniOk N B (bput B (q : Int) t2) a b true) := Lib.hid (by
      have h := uni_bind HBK.out HQ.out HT1E.out.2 HT2.out HU2.out hno
      exact UniOk.wk (by rw [← HT1E.out.1]; exact HWK1.out) HWK2.out h)
    have hqN : (q : Int) < (N : Int) := by omega
    clear ho hno
    by_cases hk4 : k2 = 4
    · have e5 : ((q : Int) == n2) = false := by
        rcases hkz with h | h
        · exact absurd hk4 h
        · simpa using fun e : (q : Int) = n2 => h e.symm
      subst hk4
      clear hkz
      go_wp2_with fail
      clear hW5 p0 p1 p2 q0 q1 q2 pz
      have hocc := l2Occurs_any w0 kb N B xs HBK.out hN (q : Int) _ t2 u2 _ W5 (Nat.lt_succ_self _) HU2.out HT2.out HX2.out HI5.out HA5.out
      rw [HK2.out, HN2.out, HOC.out] at hocc
      go_at_call 56
      refine hocc.mono ?_
      rintro e w6 ⟨rfl, hb6⟩
      have HO6 := Lib.hid (HO5.out.kept hb6)
      have HP6 := Lib.hid (HP5.out.kept hb6)
      have HB6 := Lib.hid (HB5.out.trans (hb6.mono HB5.out.size))
      have HA6 := Lib.hid (HA5.out.kept hb6)
      clear hb6 x0 x1 x2 f0 f1 f2 xz y0 y1 y2 g0 g1 g2 yz
      obtain ⟨x0, x1, x2, f0, f1, f2, xz⟩ := HO6.out
      obtain ⟨y0, y1, y2, g0, g1, g2, yz⟩ := HP6.out
      have hq0 : q * 3 < xs.length := by rw [HA6.out.len]; omega
      have hq1 : q * 3 + 1 < xs.length := by rw [HA6.out.len]; omega
      have hq2 : q * 3 + 2 < xs.length := by rw [HA6.out.len]; omega
      have z0 := (HA6.out.at (i := q * 3) (by omega)).trans (List.getElem?_eq_getElem hq0)
      have z1 := (HA6.out.at (i := q * 3 + 1) (by omega)).trans (List.getElem?_eq_getElem hq1)
      have z2 := (HA6.out.at (i := q * 3 + 2) (by omega)).trans (List.getElem?_eq_getElem hq2)
      generalize xs[q * 3] = o0 at z0
      generalize xs[q * 3 + 1] = o1 at z1
      generalize xs[q * 3 + 2] = o2 at z2
      have m0 := World.ownsRow.frozenAt HA6.out.own (q * 3)
      have m1 := World.ownsRow.frozenAt HA6.out.own (q * 3 + 1)
      have m2 := World.ownsRow.frozenAt HA6.out.own (q * 3 + 2)
      obtain ⟨xs', hput⟩ := HA6.out.put (t := t2) (v := .slice a2 L2 c2) hq (HX2.out)
      rw [HK2.out, HN2.out] at hput
      have HPUT := Lib.hid hput
      clear hq0 hq1 hq2 hput
      go_wp2_with fail
      go_ret
      exact ⟨true, _, xs', rfl, HR.out, HPUT.out, (in_below HB6.out).trans (((Mx.set_in _).trans (Mx.set_in _)).trans (Mx.set_in _))⟩
    · have e4 : (k2 == 4) = false := by simpa using hk4
      clear hkz hk4
      go_wp2_with fail
      clear hW5 p0 p1 p2 q0 q1 q2 pz
      have hocc := l2Occurs_any w0 kb N B xs HBK.out hN (q : Int) _ t2 u2 _ W5 (Nat.lt_succ_self _) HU2.out HT2.out HX2.out HI5.out HA5.out
      rw [HK2.out, HN2.out, HOC.out] at hocc
      go_at_call 56
      refine hocc.mono ?_
      rintro e w6 ⟨rfl, hb6⟩
      have HO6 := Lib.hid (HO5.out.kept hb6)
      have HP6 := Lib.hid (HP5.out.kept hb6)
      have HB6 := Lib.hid (HB5.out.trans (hb6.mono HB5.out.size))
      have HA6 := Lib.hid (HA5.out.kept hb6)
      clear hb6 x0 x1 x2 f0 f1 f2 xz y0 y1 y2 g0 g1 g2 yz
      obtain ⟨x0, x1, x2, f0, f1, f2, xz⟩ := HO6.out
      obtain ⟨y0, y1, y2, g0, g1, g2, yz⟩ := HP6.out
      have hq0 : q * 3 < xs.length := by rw [HA6.out.len]; omega
      have hq1 : q * 3 + 1 < xs.length := by rw [HA6.out.len]; omega
      have hq2 : q * 3 + 2 < xs.length := by rw [HA6.out.len]; omega
      have z0 := (HA6.out.at (i := q * 3) (by omega)).trans (List.getElem?_eq_getElem hq0)
      have z1 := (HA6.out.at (i := q * 3 + 1) (by omega)).trans (List.getElem?_eq_getElem hq1)
      have z2 := (HA6.out.at (i := q * 3 + 2) (by omega)).trans (List.getElem?_eq_getElem hq2)
      generalize xs[q * 3] = o0 at z0
      generalize xs[q * 3 + 1] = o1 at z1
      generalize xs[q * 3 + 2] = o2 at z2
      have m0 := World.ownsRow.frozenAt HA6.out.own (q * 3)
      have m1 := World.ownsRow.frozenAt HA6.out.own (q * 3 + 1)
      have m2 := World.ownsRow.frozenAt HA6.out.own (q * 3 + 2)
      obtain ⟨xs', hput⟩ := HA6.out.put (t := t2) (v := .slice a2 L2 c2) hq (HX2.out)
      rw [HK2.out, HN2.out] at hput
      have HPUT := Lib.hid hput
      clear hq0 hq1 hq2 hput
      go_wp2_with fail
      go_ret
      exact ⟨true, _, xs', rfl, HR.out, HPUT.out, (in_below HB6.out).trans (((Mx.set_in _).trans (Mx.set_in _)).trans (Mx.set_in _))⟩
  · have HOC := Lib.hid ho
    have HR : Hid (UniOk N B B a b false) := Lib.hid (by
      have h1 := occB_iff.1 ho
      have h := uni_occ (N := N) HBK.out HT2.out HU2.out (HNS.out h1) h1
      exact UniOk.wk (by rw [← HT1E.out.1]; exact HWK1.out) HWK2.out h)
    clear ho
    by_cases hk4 : k2 = 4
    · have e5 : ((q : Int) == n2) = false := by
        rcases hkz with h | h
        · exact absurd hk4 h
        · simpa using fun e : (q : Int) = n2 => h e.symm
      subst hk4
      clear hkz
      go_wp2_with fail
      clear hW5 p0 p1 p2 q0 q1 q2 pz
      have hocc := l2Occurs_any w0 kb N B xs HBK.out hN (q : Int) _ t2 u2 _ W5 (Nat.lt_succ_self _) HU2.out HT2.out HX2.out HI5.out HA5.out
      rw [HK2.out, HN2.out, HOC.out] at hocc
      go_at_call 56
      refine hocc.mono ?_
      rintro e w6 ⟨rfl, hb6⟩
      have HO6 := Lib.hid (HO5.out.kept hb6)
      have HP6 := Lib.hid (HP5.out.kept hb6)
      have HB6 := Lib.hid (HB5.out.trans (hb6.mono HB5.out.size))
      have HA6 := Lib.hid (HA5.out.kept hb6)
      clear hb6 x0 x1 x2 f0 f1 f2 xz y0 y1 y2 g0 g1 g2 yz
      obtain ⟨x0, x1, x2, f0, f1, f2, xz⟩ := HO6.out
      obtain ⟨y0, y1, y2, g0, g1, g2, yz⟩ := HP6.out
      go_wp2_with fail
      go_ret
      exact ⟨false, B, xs, rfl, HR.out, HA6.out, in_below HB6.out⟩
    · have e4 : (k2 == 4) = false := by simpa using hk4
      clear hkz hk4
      go_wp2_with fail
      clear hW5 p0 p1 p2 q0 q1 q2 pz
      have hocc := l2Occurs_any w0 kb N B xs HBK.out hN (q : Int) _ t2 u2 _ W5 (Nat.lt_succ_self _) HU2.out HT2.out HX2.out HI5.out HA5.out
      rw [HK2.out, HN2.out, HOC.out] at hocc
      go_at_call 56
      refine hocc.mono ?_
      rintro e w6 ⟨rfl, hb6⟩
      have HO6 := Lib.hid (HO5.out.kept hb6)
      have HP6 := Lib.hid (HP5.out.kept hb6)
      have HB6 := Lib.hid (HB5.out.trans (hb6.mono HB5.out.size))
      have HA6 := Lib.hid (HA5.out.kept hb6)
      clear hb6 x0 x1 x2 f0 f1 f2 xz y0 y1 y2 g0 g1 g2 yz
      obtain ⟨x0, x1, x2, f0, f1, f2, xz⟩ := HO6.out
      obtain ⟨y0, y1, y2, g0, g1, g2, yz⟩ := HP6.out
      go_wp2_with fail
      go_ret
      exact ⟨false, B, xs, rfl, HR.out, HA6.out, in_below HB6.out⟩

/-- Where the loop over the operands stands. -/
structure Pfx (N : Nat) (B B1 : Bn) (t1 t2 : Ty) (j : Nat) : Prop where
  ok : BOK N B1
  fewer : B1 = B ∨ fr N B1 < fr N B
  zero : j = 0 → B1 = B
  one : j = 1 → UniOk N B B1 (t1.ks.getD 0 Ty.dummy) (t2.ks.getD 0 Ty.dummy) true
  two : j = 2 → UniOk N B B1 t1 t2 true
theorem Pfx.start {N : Nat} {B : Bn} (hB : BOK N B) (t1 t2 : Ty) : Pfx N B B t1 t2 0 := ⟨hB, .inl rfl, fun _ => rfl, fun h => by omega, fun h => by omega⟩
theorem wt_form {N : Int} {t : Ty} (h : Wt N t) (h4 : t.k ≠ 4) : (t = .node 1 0 []) ∨ ∃ k a b, (k = 2 ∨ k = 3) ∧ t = .node k 0 [a, b] := by
  cases h with
  | num => exact .inl rfl
  | var => exact absurd rfl h4
  | join k a b hk _ _ => exact .inr ⟨k, a, b, hk, rfl⟩
theorem Pfx.step {N : Nat} {B B1 B2 : Bn} {t1 t2 : Ty} {j : Nat} {r : Bool} (h : Pfx N B B1 t1 t2 j) (w1 : Wt N t1) (w2 : Wt N t2) (k4 : t1.k ≠ 4) (hk : t1.k = t2.k) (hj : j < t1.ks.length) (hu : UniOk N B1 B2 (t1.ks.getD j Ty.dummy) (t2.ks.getD j Ty.dummy) r) :
    (r = true → Pfx N B B2 t1 t2 (j + 1)) ∧ (r = false → UniOk N B B2 t1 t2 false) := by
  have few : B2 = B ∨ fr N B2 < fr N B := by
    rcases hu.fewer with rfl | e2
    · exact h.fewer
    · rcases h.fewer with rfl | e1
      · exact .inr e2
      · exact .inr (Nat.lt_trans e2 e1)
  rcases wt_form w1 k4 with rfl | ⟨k, a, b, hk2, rfl⟩
  · exact absurd hj (Nat.not_lt_zero _)
  rcases wt_form w2 (by rw [← hk]; exact k4) with rfl | ⟨k', a', b', hk3, rfl⟩
  · have e : k = 1 := hk; omega
  have e : k = k' := hk
  subst e
  have hj : j < 2 := hj
  obtain rfl | rfl : j = 0 ∨ j = 1 := by omega
  · have e0 := h.zero rfl
    subst e0
    exact ⟨fun e => ⟨hu.ok, few, fun h => by omega, fun _ => by rw [← e]; exact hu, fun h => by omega⟩, fun e => uni_join_no hk2 (by rw [← e]; exact hu)⟩
  · have h1 := h.one rfl
    have h2 := uni_join hk2 h1 hu
    exact ⟨fun e => ⟨hu.ok, few, fun h => by omega, fun h => by omega, fun _ => by rw [← e]; exact h2⟩, fun e => by rw [← e]; exact h2⟩
theorem Pfx.done {N : Nat} {B B1 : Bn} {t1 t2 : Ty} (hB : BOK N B) (h : Pfx N B B1 t1 t2 t1.ks.length) (w1 : Wt N t1) (w2 : Wt N t2) (k4 : t1.k ≠ 4) (hk : t1.k = t2.k) : UniOk N B B1 t1 t2 true := by
  rcases wt_form w1 k4 with rfl | ⟨k, a, b, hk2, rfl⟩
  · rcases wt_form w2 (by rw [← hk]; exact k4) with rfl | ⟨k', a', b', hk3, rfl⟩
    · rw [h.zero rfl]; exact uni_same hB _
    · have e : 1 = k' := hk; omega
  · exact h.two rfl
theorem wt_same_len {N : Int} {t1 t2 : Ty} (w1 : Wt N t1) (w2 : Wt N t2) (k4 : t1.k ≠ 4) (hk : t1.k = t2.k) : t1.ks.length = t2.ks.length := by
  rcases wt_form w1 k4 with rfl | ⟨k, a, b, hk2, rfl⟩
  · rcases wt_form w2 (by rw [← hk]; exact k4) with rfl | ⟨k', a', b', hk3, rfl⟩
    · rfl
    · have e : 1 = k' := hk; omega
  · rcases wt_form w2 (by rw [← hk]; exact k4) with rfl | ⟨k', a', b', hk3, rfl⟩
    · have e : k = 1 := hk; omega
    · rfl
set_option maxRecDepth 100000 in
set_option maxHeartbeats 8000000 in
theorem l2Unify_any (w0 : World) (kb N : Nat) (hN : N ≤ 100000) : ∀ (F m : Nat) (B : Bn) (xs : List Value) (a b ua : Ty) (va vb : Value) (w : World), fr N B < F → SizeOf.sizeOf ua < m → Ful B a ua → BOK N B → Wt N a → Wt N b → TyN w0 0 kb a va → TyN w0 0 kb b vb → Inside kb (kb + 1) w0 w → BAt w0 w kb N B xs →
    Calls Try.prog 24 #[.agg #[.int .i64 a.k, .int .i64 a.n, va], .agg #[.int .i64 b.k, .int .i64 b.n, vb], .slice (some ⟨kb, 0, none⟩) N N] w (UnPost w0 kb N B a b w) := by
  intro F
  induction F with
  | zero => intro m B xs a b ua va vb w h; exact absurd h (Nat.not_lt_zero _)
  | succ F ihF =>
    intro m
    induction m with
    | zero => intro B xs a b ua va vb w _ h; exact absurd h (Nat.not_lt_zero _)
    | succ m ihm =>
      intro B xs a b ua va vb w hF hm hfa hB hwa hwb hxa hxb hi hba
      have HIF := Lib.hid ihF
      have HIM := Lib.hid ihm
      have HFR := Lib.hid hF
      have HM := Lib.hid hm
      have HFA := Lib.hid hfa
      have HBK := Lib.hid hB
      clear ihF ihm hF hm
      by_cases ha4 : ua.k = 4
      · obtain ⟨q, hq, hua⟩ := wt_var (ful_wt hB hfa hwa).1 ha4
        rw [hua] at hfa
        exact l2Unify_var w0 kb N B xs hB hN q hq a b va vb w hfa hwa hwb hxa hxb hi hba
      have HA4' := Lib.hid ha4
      clear ha4 hfa hB
      obtain ⟨S, hS⟩ : ∃ S, w.heap.size = S := ⟨_, rfl⟩
      have hkS : kb < S := by rw [← hS]; exact hba.lt
      have HXA := Lib.hid hxa
      have HXB := Lib.hid hxb
      have HWA := Lib.hid hwa
      have HWB := Lib.hid hwb
      have HI := Lib.hid hi
      have HA0 := Lib.hid hba
      obtain ⟨av, ac, hav⟩ := hxa.slice
      obtain ⟨bv, bc, hbv⟩ := hxb.slice
      clear hxa hxb hwa hwb hi hba
      subst hav
      subst hbv
      obtain ⟨W1, hW1⟩ : ∃ W, (w.alloc (.cells #[.int .i64 a.k, .int .i64 a.n, .slice av a.ks.length ac] 28)).alloc (.cells #[.int .i64 b.k, .int .i64 b.n, .slice bv b.ks.length bc] 28) = W := ⟨_, rfl⟩
      have HB1 : Hid (Below w.heap.size w W1) := Lib.hid (by rw [← hW1]; exact ((Below.refl _ _).alloc (Nat.le_refl _) _).alloc (by simp) _)
      have HO1 : Hid (OC W1 S a.k a.n (.slice av a.ks.length ac)) := Lib.hid (by rw [← hW1, ← hS]; exact (oc_new w _ _ _ _).kept ((Below.refl _ _).alloc (Nat.le_refl _) _))
      have HP1 : Hid (OC W1 (S + 1) b.k b.n (.slice bv b.ks.length bc)) := Lib.hid (by
        have h := oc_new (w.alloc (.cells #[.int .i64 a.k, .int .i64 a.n, .slice av a.ks.length ac] 28)) b.k b.n (.slice bv b.ks.length bc) 28
        rw [hW1, sizeA', hS] at h; exact h)
      have HA1 := Lib.hid (HA0.out.kept HB1.out)
      have HW1 := Lib.hid hW1
      have HS := Lib.hid hS
      clear hW1
      go_enter Try.func24, Try.ntmps24
      go_wp2_with fail
      rw [HW1.out]
      clear hS
      try rw [HS.out]
      go_at_call 55
      refine (l2Walk_any w0 kb N B xs HBK.out hN a _ _ HWA.out HXA.out HA1.out).mono ?_
      rintro e w2 ⟨t1, v1, rfl, hwk1, htr1, hx1, hb2⟩
      have HWK1 := Lib.hid hwk1
      have HT1 := Lib.hid (hwk1.wt HBK.out HWA.out)
      have HTR1 := Lib.hid htr1
      have HX1 := Lib.hid hx1
      obtain ⟨a1, c1, rfl⟩ := hx1.slice
      have HO2 := Lib.hid (HO1.out.kept hb2)
      have HP2 := Lib.hid (HP1.out.kept hb2)
      have HB2 := Lib.hid (HB1.out.trans (hb2.mono HB1.out.size))
      have HA2 := Lib.hid (HA1.out.kept hb2)
      clear hwk1 htr1 hx1 hb2
      obtain ⟨k1, hk1⟩ : ∃ n, t1.k = n := ⟨_, rfl⟩
      obtain ⟨n1, hn1⟩ : ∃ n, t1.n = n := ⟨_, rfl⟩
      obtain ⟨L1, hL1⟩ : ∃ n, t1.ks.length = n := ⟨_, rfl⟩
      have HK1 := Lib.hid hk1
      have HN1 := Lib.hid hn1
      have HL1 := Lib.hid hL1
      rw [hk1, hn1, hL1]
      rw [hL1] at HX1
      clear hk1 hn1 hL1
      obtain ⟨W3, hW3⟩ : ∃ W, ((w2.setCell ⟨S, 0, none⟩ (.int .i64 k1)).setCell ⟨S, 1, none⟩ (.int .i64 n1)).setCell ⟨S, 2, none⟩ (.slice a1 L1 c1) = W := ⟨_, rfl⟩
      have HO3 : Hid (OC W3 S k1 n1 (.slice a1 L1 c1)) := Lib.hid (by rw [← hW3]; exact oc_set3 HO2.out _ _ _)
      have HP3 : Hid (OC W3 (S + 1) b.k b.n (.slice bv b.ks.length bc)) := Lib.hid (by rw [← hW3]; exact oc_other3 HP2.out (by omega) _ _ _)
      have HB3 : Hid (Below w.heap.size w W3) := Lib.hid (by rw [← hW3]; exact below_set3 HB2.out (by rw [HS.out]; omega) _ _ _)
      have HA3 : Hid (BAt w0 W3 kb N B xs) := Lib.hid (by rw [← hW3]; exact HA2.out.set3 (by omega) _ _ _)
      obtain ⟨x0, x1, x2, f0, f1, f2, xz⟩ := HO2.out
      obtain ⟨y0, y1, y2, g0, g1, g2, yz⟩ := HP3.out
      go_wp2_with fail
      clear hW3 x0 x1 x2 f0 f1 f2 xz y0 y1 y2 g0 g1 g2 yz
      go_at_call 55
      refine (l2Walk_any w0 kb N B xs HBK.out hN b _ _ HWB.out HXB.out HA3.out).mono ?_
      rintro e w4 ⟨t2, v2, rfl, hwk2, htr2, hx2, hb4⟩
      have HWK2 := Lib.hid hwk2
      have HT2 := Lib.hid (hwk2.wt HBK.out HWB.out)
      have HTR2 := Lib.hid htr2
      have HX2 := Lib.hid hx2
      obtain ⟨a2, c2, rfl⟩ := hx2.slice
      have HO4 := Lib.hid (HO3.out.kept hb4)
      have HP4 := Lib.hid (HP3.out.kept hb4)
      have HB4 := Lib.hid (HB3.out.trans (hb4.mono HB3.out.size))
      have HA4 := Lib.hid (HA3.out.kept hb4)
      clear hwk2 htr2 hx2 hb4
      obtain ⟨k2, hk2⟩ : ∃ n, t2.k = n := ⟨_, rfl⟩
      obtain ⟨n2, hn2⟩ : ∃ n, t2.n = n := ⟨_, rfl⟩
      obtain ⟨L2, hL2⟩ : ∃ n, t2.ks.length = n := ⟨_, rfl⟩
      have HK2 := Lib.hid hk2
      have HN2 := Lib.hid hn2
      have HL2 := Lib.hid hL2
      rw [hk2, hn2, hL2]
      rw [hL2] at HX2
      clear hk2 hn2 hL2
      obtain ⟨W5, hW5⟩ : ∃ W, ((w4.setCell ⟨S + 1, 0, none⟩ (.int .i64 k2)).setCell ⟨S + 1, 1, none⟩ (.int .i64 n2)).setCell ⟨S + 1, 2, none⟩ (.slice a2 L2 c2) = W := ⟨_, rfl⟩
      have HP5 : Hid (OC W5 (S + 1) k2 n2 (.slice a2 L2 c2)) := Lib.hid (by rw [← hW5]; exact oc_set3 HP4.out _ _ _)
      have HO5 : Hid (OC W5 S k1 n1 (.slice a1 L1 c1)) := Lib.hid (by rw [← hW5]; exact oc_other3 HO4.out (by omega) _ _ _)
      have HB5 : Hid (Below w.heap.size w W5) := Lib.hid (by rw [← hW5]; exact below_set3 HB4.out (by rw [HS.out]; omega) _ _ _)
      have HA5 : Hid (BAt w0 W5 kb N B xs) := Lib.hid (by rw [← hW5]; exact HA4.out.set3 (by omega) _ _ _)
      have HI5 : Hid (Inside kb (kb + 1) w0 W5) := Lib.hid (HI.out.trans (in_below HB5.out))
      obtain ⟨p0, p1, p2, q0, q1, q2, pz⟩ := HP4.out
      obtain ⟨x0, x1, x2, f0, f1, f2, xz⟩ := HO5.out
      obtain ⟨y0, y1, y2, g0, g1, g2, yz⟩ := HP5.out
      have HFT := Lib.hid (HWK1.out.ful HFA.out)
      have HK14 : Hid (t1.k ≠ 4) := Lib.hid (fun e => by
        rcases ful_shape HFT.out HTR1.out with ⟨e2, _⟩ | ⟨z, _, e2, _⟩ | ⟨k, x, y, x', y', hk, e2, _⟩
        · rw [e2] at e; have e : (1 : Int) = 4 := e; omega
        · rw [e2] at HA4'; exact HA4'.out rfl
        · rw [e2] at e; have e : k = 4 := e; omega)
      have e4 : (k1 == 4) = false := by have := HK14.out; rw [HK1.out] at this; simpa using this
      by_cases hk24 : k2 = 4
      · obtain ⟨q, hq, ht2⟩ := wt_var HT2.out (HK2.out.trans hk24)
        have HFV : Hid (Ful B t2 (.node 4 (q : Int) [])) := Lib.hid (by
          have h := HTR2.out (HK2.out.trans hk24)
          rw [ht2] at h ⊢
          exact .free _ h)
        have HQ := Lib.hid hq
        subst hk24
        clear ht2 hq
        go_wp2_with fail
        clear hW5 p0 p1 p2 q0 q1 q2 pz
        have hcall := l2Unify_var w0 kb N B xs HBK.out hN q HQ.out t2 t1 _ _ W5 HFV.out HT2.out HT1.out HX2.out HX1.out HI5.out HA5.out
        rw [HK2.out, HN2.out, HK1.out, HN1.out] at hcall
        go_at_call 24
        refine hcall.mono ?_
        rintro e w6 ⟨r, B', xs', rfl, hu, hb6, hi6⟩
        have HR := Lib.hid (UniOk.wk HWK1.out HWK2.out hu.swap)
        have HB6 := Lib.hid hb6
        have HI6 := Lib.hid ((in_below HB5.out).trans hi6)
        clear hcall hu hb6 hi6
        go_wp2_with fail
        go_ret
        exact ⟨r, B', xs', rfl, HR.out, HB6.out, HI6.out⟩
      have e42 : (k2 == 4) = false := by simpa using hk24
      have HK24 : Hid (t2.k ≠ 4) := Lib.hid (by rw [HK2.out]; exact hk24)
      clear hk24
      by_cases hkk : k1 = k2
      case neg =>
        have ek : (k1 != k2) = true := by simpa using hkk
        have HR : Hid (UniOk N B B a b false) := Lib.hid (UniOk.wk HWK1.out HWK2.out (uni_kind HBK.out HT1.out HT2.out HK14.out HK24.out (by rw [HK1.out, HK2.out]; exact hkk)))
        clear hkk
        go_wp2_with fail
        go_ret
        exact ⟨false, B, xs, rfl, HR.out, HA5.out, in_below HB5.out⟩
      have HKK : Hid (t1.k = t2.k) := Lib.hid (by rw [HK1.out, HK2.out]; exact hkk)
      have ek : (k1 != k2) = false := by simpa using hkk
      have HLL : Hid (L2 = L1) := Lib.hid (by rw [← HL1.out, ← HL2.out]; exact (wt_same_len HT1.out HT2.out HK14.out HKK.out).symm)
      have hL1 : L1 ≤ 2 := by rw [← HL1.out]; exact wt_len HT1.out
      obtain ⟨u1, hu1⟩ : ∃ u, Ful B t1 u := ⟨_, HFT.out⟩
      have HI1 : Hid (Inside kb (kb + 1) w W5) := Lib.hid (in_below HB5.out)
      clear hkk u1 hu1
      go_wp2_with fail
      clear hW5 p0 p1 p2 q0 q1 q2 pz x0 x1 x2 f0 f1 f2 xz y0 y1 y2 g0 g1 g2 yz
      go_loopw [7] (fun i wr => ∃ (j : Nat) (B1 : Bn) (xs1 : List Value), j ≤ L1 ∧ i = .int .i64 j ∧ Hid (OC wr S k1 n1 (.slice a1 L1 c1)) ∧ Hid (OC wr (S + 1) k2 n2 (.slice a2 L2 c2)) ∧ Hid (Pfx N B B1 t1 t2 j) ∧ Hid (BAt w0 wr kb N B1 xs1) ∧ Hid (Inside kb (kb + 1) w wr)) (fun i _ => L1 - (intOf i).toNat)
      case atStart => exact ⟨0, B, xs, Nat.zero_le _, rfl, HO5, HP5, Lib.hid (Pfx.start HBK.out t1 t2), HA5, HI1⟩
      case round =>
        obtain ⟨j, B1, xs1, hj, rfl, hoc, hpc, hpf, hbat, hin⟩ := hrel
        obtain ⟨x0, x1, x2, f0, f1, f2, xz⟩ := hoc.out
        obtain ⟨y0, y1, y2, g0, g1, g2, yz⟩ := hpc.out
        by_cases hlt : j < L1
        · have hji : (j : Int) < (L1 : Int) := by omega
          have hji2 : (j : Int) < (L2 : Int) := by rw [HLL.out]; exact hji
          have hj1 : j < t1.ks.length := by rw [HL1.out]; exact hlt
          have hj2 : j < t2.ks.length := by rw [HL2.out, HLL.out]; exact hlt
          have hxl1 := HX1.out
          have hxl2 := HX2.out
          rw [← HL1.out] at hxl1
          rw [← HL2.out] at hxl2
          obtain ⟨sb, so, cap1, va1, ex, bl1, bk1, z0, z1, z2, hka⟩ := hxl1.kid j hj1
          obtain ⟨gb, go', cap2, va2, ey, bl2, bk2, z3, z4, z5, hkb⟩ := hxl2.kid j hj2
          have ex1 : a1 = some ⟨sb, so, none⟩ := by injection ex
          have ey1 : a2 = some ⟨gb, go', none⟩ := by injection ey
          subst ex1
          subst ey1
          have HIR := Lib.hid (HI.out.trans hin.out)
          have hs1 := HIR.out.block sb bl1 (by omega)
          have hs2 := HIR.out.block gb bl2 (by omega)
          replace z0 := (cellEq hs1).trans z0
          replace z1 := (cellEq hs1).trans z1
          replace z2 := (cellEq hs1).trans z2
          replace z3 := (cellEq hs2).trans z3
          replace z4 := (cellEq hs2).trans z4
          replace z5 := (cellEq hs2).trans z5
          have hw0 := HIR.out.size
          have hsl1 : sb < wr.heap.size := by omega
          have hsl2 : gb < wr.heap.size := by omega
          have HST := Lib.hid (fun (B2 : Bn) (r : Bool) (hu : UniOk N B1 B2 (t1.ks.getD j Ty.dummy) (t2.ks.getD j Ty.dummy) r) => hpf.out.step HT1.out HT2.out HK14.out HKK.out hj1 hu)
          have HWA' := Lib.hid (wt_kid HT1.out j hj1)
          have HWB' := Lib.hid (wt_kid HT2.out j hj2)
          have HKA := Lib.hid hka
          have HKB := Lib.hid hkb
          have HCALL : Hid (∀ (W : World), Inside kb (kb + 1) w0 W → BAt w0 W kb N B1 xs1 → Calls Try.prog 24 #[.agg #[.int .i64 (t1.ks.getD j Ty.dummy).k, .int .i64 (t1.ks.getD j Ty.dummy).n, va1], .agg #[.int .i64 (t2.ks.getD j Ty.dummy).k, .int .i64 (t2.ks.getD j Ty.dummy).n, va2], .slice (some ⟨kb, 0, none⟩) N N] W (UnPost w0 kb N B1 (t1.ks.getD j Ty.dummy) (t2.ks.getD j Ty.dummy) W)) := Lib.hid (fun W h1 h2 => by
            rcases hpf.out.fewer with e | e
            · obtain ⟨_, _, _, hl, hk⟩ := ful_kids HFT.out HTR1.out HK14.out
              have hsz := Ty.kid_lt ua j (by rw [hl]; exact hj1)
              have hm := HM.out
              have hh := HFR.out
              rw [e] at h2 ⊢
              exact HIM.out B xs1 _ _ _ va1 va2 W hh (by omega) (hk j hj1) HBK.out HWA'.out HWB'.out HKA.out HKB.out h1 h2
            · obtain ⟨ux, hux⟩ := ful_exists hpf.out.ok HWA'.out
              exact HIF.out _ B1 xs1 _ _ ux va1 va2 W (by have := HFR.out; omega) (Nat.lt_succ_self _) hux hpf.out.ok HWA'.out HWB'.out HKA.out HKB.out h1 h2)
          obtain ⟨A, hA⟩ : ∃ A, t1.ks.getD j Ty.dummy = A := ⟨_, rfl⟩
          obtain ⟨C, hC⟩ : ∃ C, t2.ks.getD j Ty.dummy = C := ⟨_, rfl⟩
          rw [hA] at z0 z1 HKA HWA' HCALL HST
          rw [hC] at z3 z4 HKB HWB' HCALL HST
          obtain ⟨u3, u4, rfl⟩ := HKA.out.slice
          obtain ⟨u5, u6, rfl⟩ := HKB.out.slice
          clear hxl1 hxl2 ex ey hA hC hka hkb hs1 hs2 hj1 hj2
          go_wp2_with fail
          go_region_held3 (fun w' => w'.cell? ⟨S, 2, none⟩ = some (.slice (some ⟨sb, so, none⟩) L1 c1) ∧ w'.cell? ⟨sb, so + j * 3, none⟩ = some (.int .i64 A.k) ∧ w'.cell? ⟨sb, so + j * 3 + 1, none⟩ = some (.int .i64 A.n) ∧ w'.cell? ⟨sb, so + j * 3 + 2, none⟩ = some (.slice u3 A.ks.length u4) ∧ w'.cell? ⟨S + 1, 2, none⟩ = some (.slice (some ⟨gb, go', none⟩) L2 c2) ∧ w'.cell? ⟨gb, go' + j * 3, none⟩ = some (.int .i64 C.k) ∧ w'.cell? ⟨gb, go' + j * 3 + 1, none⟩ = some (.int .i64 C.n) ∧ w'.cell? ⟨gb, go' + j * 3 + 2, none⟩ = some (.slice u5 C.ks.length u6)) (go_keep)
            (first | (go_at_call 24; refine (HCALL.out _ (by first | exact HIR.out | exact HIR.out.trans (in_below (Below.refl _ _).drew)) (by first | exact hbat.out | exact hbat.out.kept (Below.refl _ _).drew)).mono ?_; rintro e w5 ⟨r, B2, xs2, rfl, hu5, hb5, hi5⟩; have hi6 : Inside kb (kb + 1) wr w5 := (in_below (by first | exact Below.refl _ _ | exact (Below.refl _ _).drew)).trans hi5; have HII := Lib.hid (hin.out.trans hi6); have HB6 := Lib.hid hb5; have HU6 := Lib.hid (HST.out B2 r hu5); have HO6 := Lib.hid (hoc.out.keep hi6.size (hi6.block _ xz (.inr (by omega)))); have HP6 := Lib.hid (hpc.out.keep hi6.size (hi6.block _ yz (.inr (by omega)))); have zz0 := (cellEq (hi6.block (S) xz (.inr (by omega)))).trans x2; have zz1 := (cellEq (hi6.block (sb) hsl1 ((by omega)))).trans z0; have zz2 := (cellEq (hi6.block (sb) hsl1 ((by omega)))).trans z1; have zz3 := (cellEq (hi6.block (sb) hsl1 ((by omega)))).trans z2; have zz4 := (cellEq (hi6.block (S + 1) yz (.inr (by omega)))).trans y2; have zz5 := (cellEq (hi6.block (gb) hsl2 ((by omega)))).trans z3; have zz6 := (cellEq (hi6.block (gb) hsl2 ((by omega)))).trans z4; have zz7 := (cellEq (hi6.block (gb) hsl2 ((by omega)))).trans z5; clear hi5 hi6 hb5 hu5))
          all_goals
            rcases hr : r with _ | _
            · subst hr
              have HRR := Lib.hid (UniOk.wk HWK1.out HWK2.out (HU6.out.2 rfl))
              go_wp2_with fail
              go_ret
              exact ⟨false, B2, xs2, rfl, HRR.out, HB6.out, HII.out⟩
            · subst hr
              have HPF := Lib.hid (HU6.out.1 rfl)
              go_wp2_with fail
              go_roundw
              case rel => exact ⟨j + 1, B2, xs2, by omega, by go_num, HO6, HP6, HPF, HB6, HII⟩
              case measure => simp [intOf]; omega
        · have hji : ¬ (j : Int) < (L1 : Int) := by omega
          obtain rfl : j = L1 := by omega
          have HRR : Hid (UniOk N B B1 a b true) := Lib.hid (UniOk.wk HWK1.out HWK2.out (Pfx.done HBK.out (by rw [HL1.out]; exact hpf.out) HT1.out HT2.out HK14.out HKK.out))
          clear hlt
          go_wp2_with fail
          go_ret
          exact ⟨true, B1, xs1, rfl, HRR.out, hbat.out, hin.out⟩

end Go.Proofs.Ytjhccdioainibaa
