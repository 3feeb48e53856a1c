/-
The model's bound variables in memory: a row of types; what it follows, and whether a variable occurs.
-/
import Derived.Test.YtjhccdioainibaaW14
import Derived.Test.YtjhccdioainibaaW17
import Derived.Test.YtjhccdioainibaaW22
import Derived.Deep.RegionHeld3
import Derived.Deep.DeepCutAuto
namespace Go.Proofs.Ytjhccdioainibaa
open Go.RowKit
set_option linter.unusedVariables false
set_option linter.unusedSimpArgs false

/-- The row of types in block kb: what N variables are bound to; kind 0 means that one is not bound. The types lie in the world w0. -/
structure BAt (w0 w : World) (kb N : Nat) (B : Bn) (xs : List Value) : Prop where
  own : w.ownsRow kb 28 3 (.slice (some ⟨kb, 0, none⟩) N N) N xs
  no : ∀ i : Nat, i < N → B (i : Int) = none → xs[i * 3]? = some (.int .i64 0)
  yes : ∀ i : Nat, i < N → ∀ t, B (i : Int) = some t → ∃ v, xs[i * 3]? = some (.int .i64 t.k) ∧ xs[i * 3 + 1]? = some (.int .i64 t.n) ∧ xs[i * 3 + 2]? = some v ∧ TyN w0 0 kb t v
theorem BAt.lt {w0 w : World} {kb N : Nat} {B : Bn} {xs : List Value} (h : BAt w0 w kb N B xs) : kb < w.heap.size := (own_block h.own).2
theorem BAt.len {w0 w : World} {kb N : Nat} {B : Bn} {xs : List Value} (h : BAt w0 w kb N B xs) : xs.length = N * 3 := h.own.1
theorem BAt.at {w0 w : World} {kb N : Nat} {B : Bn} {xs : List Value} (h : BAt w0 w kb N B xs) {i : Nat} (hi : i < N * 3) : w.cell? ⟨kb, i, none⟩ = xs[i]? := World.ownsRow.cellAt h.own i hi
theorem BAt.kept {w0 w w' : World} {kb N : Nat} {B : Bn} {xs : List Value} (h : BAt w0 w kb N B xs) (hb : Below w.heap.size w w') : BAt w0 w' kb N B xs := ⟨own_below h.own hb, h.no, h.yes⟩
theorem TyN.inside {w w' : World} {kb : Nat} {t : Ty} {v : Value} (h : TyN w 0 kb t v) (hi : Inside kb (kb + 1) w w') : TyN w' 0 kb t v :=
  h.keep hi.size (fun b _ h2 h3 => hi.block b h3 (by omega))
/-- What lies in w0, but for the row, lies there still. -/
theorem TyN.base {w0 w : World} {kb : Nat} {t : Ty} {v : Value} (h : TyN w0 0 kb t v) (hi : Inside kb (kb + 1) w0 w) : TyN w 0 kb t v := h.inside hi
theorem TyN.set {w : World} {kb i : Nat} {x : Value} {t : Ty} {v : Value} (h : TyN w 0 kb t v) : TyN (w.setCell ⟨kb, i, none⟩ x) 0 kb t v := h.inside (Mx.set_in x)
theorem TyN.at {w : World} {lo E : Nat} {t : Ty} {v : Value} (h : TyN w lo E t v) : TyAt w t v := h.ok.at
/-- Two operands, as the walk reads them. -/
theorem TyN.two {w : World} {E : Nat} {k n : Int} {a b : Ty} {v : Value} (h : TyN w 0 E (.node k n [a, b]) v) : ∃ g o cap va vb, v = .slice (some ⟨g, o, none⟩) 2 cap ∧ g < w.heap.size ∧ g ≠ E ∧
    Six w g o (.int .i64 a.k) (.int .i64 a.n) va (.int .i64 b.k) (.int .i64 b.n) vb ∧ TyN w 0 E a va ∧ TyN w 0 E b vb := by
  cases h with
  | row k n ks g o cap vs hb he hr hl h0 h1 h2 h3 =>
    have l0 : 0 < [a, b].length := Nat.succ_pos _
    have l1 : 1 < [a, b].length := Nat.lt_succ_self _
    exact ⟨g, o, cap, vs 0, vs 1, rfl, hr.lt, he, ⟨h0 0 l0, h1 0 l0, h2 0 l0, h0 1 l1, h1 1 l1, h2 1 l1, hr.lt⟩, h3 0 l0, h3 1 l1⟩
theorem wt_k0 {N : Int} {t : Ty} (h : Wt N t) : t.k ≠ 0 := by
  cases h with
  | num => intro e; have e : (1 : Int) = 0 := e; omega
  | var n => intro e; have e : (4 : Int) = 0 := e; omega
  | join k a b hk => intro e; have e : k = 0 := e; omega
/-- One more variable is bound. -/
theorem BAt.put {w0 w : World} {kb N : Nat} {B : Bn} {xs : List Value} (h : BAt w0 w kb N B xs) {n : Nat} (hn : n < N) {t : Ty} {v : Value} (ht : TyN w0 0 kb t v) :
    ∃ xs', BAt w0 (((w.setCell ⟨kb, n * 3, none⟩ (.int .i64 t.k)).setCell ⟨kb, n * 3 + 1, none⟩ (.int .i64 t.n)).setCell ⟨kb, n * 3 + 2, none⟩ v) kb N (bput B (n : Int) t) xs' := by
  obtain ⟨s1, _⟩ := World.ownsRow.stored h.own (n * 3) (.int .i64 t.k)
  obtain ⟨s2, _⟩ := s1.stored (n * 3 + 1) (.int .i64 t.n)
  obtain ⟨s3, _⟩ := s2.stored (n * 3 + 2) v
  have hlen := h.len
  refine ⟨_, s3, fun i hi2 e => ?_, fun i hi2 t2 e => ?_⟩
  · have hin : i ≠ n := fun e2 => by subst e2; rw [bput_same] at e; cases e
    rw [bput_other B t (by omega)] at e
    rw [List.getElem?_set_ne (by omega), List.getElem?_set_ne (by omega), List.getElem?_set_ne (by omega)]
    exact h.no i hi2 e
  · by_cases hin : i = n
    · subst hin
      rw [bput_same] at e
      injection e with e
      subst e
      refine ⟨v, ?_, ?_, ?_, ht⟩
      · rw [List.getElem?_set_ne (by omega), List.getElem?_set_ne (by omega), List.getElem?_set_self (by omega)]
      · rw [List.getElem?_set_ne (by omega), List.getElem?_set_self (by rw [List.length_set]; omega)]
      · rw [List.getElem?_set_self (by rw [List.length_set, List.length_set]; omega)]
    · rw [bput_other B t (by omega)] at e
      obtain ⟨v2, a0, a1, a2, a3⟩ := h.yes i hi2 t2 e
      refine ⟨v2, ?_, ?_, ?_, a3⟩
      · rw [List.getElem?_set_ne (by omega), List.getElem?_set_ne (by omega), List.getElem?_set_ne (by omega)]; exact a0
      · rw [List.getElem?_set_ne (by omega), List.getElem?_set_ne (by omega), List.getElem?_set_ne (by omega)]; exact a1
      · rw [List.getElem?_set_ne (by omega), List.getElem?_set_ne (by omega), List.getElem?_set_ne (by omega)]; exact a2
/-- A variable of a well-formed type has a place in the row. -/
theorem wt_var {N : Nat} {t : Ty} (h : Wt N t) (h4 : t.k = 4) : ∃ q : Nat, q < N ∧ t = .node 4 (q : Int) [] := by
  cases h with
  | num => cases h4
  | var n h0 h1 => exact ⟨n.toNat, by omega, by rw [Int.toNat_of_nonneg h0]⟩
  | join k a b hk => have e : k = 4 := h4; omega
/-- How often bound variables can be followed from a box. -/
def wkM (rk : Int → Nat) (w : World) (S : Nat) : Nat :=
  match w.cell? ⟨S, 0, none⟩, w.cell? ⟨S, 1, none⟩ with
  | some (.int _ k), some (.int _ n) => if k = 4 then rk n + 1 else 0
  | _, _ => 0
theorem wkM_is {rk : Int → Nat} {w : World} {S : Nat} {k n : Int} {v : Value} (h : OC w S k n v) : wkM rk w S = if k = 4 then rk n + 1 else 0 := by
  unfold wkM; rw [h.c0, h.c1]
def WkPost (w0 : World) (B : Bn) (kb : Nat) (t : Ty) (w : World) (e : Ending) (w' : World) : Prop := ∃ t' v', e = .returned (.agg #[.int .i64 t'.k, .int .i64 t'.n, v']) ∧ Wk B t t' ∧ Trm B t' ∧ TyN w0 0 kb t' v' ∧ Below w.heap.size w w'
theorem TyN.slice {w : World} {lo E : Nat} {t : Ty} {v : Value} (h : TyN w lo E t v) : ∃ a cap, v = .slice a t.ks.length cap := by
  obtain ⟨a, c, e, _⟩ := h.at.slice; exact ⟨a, c, e⟩

set_option maxRecDepth 100000 in
set_option maxHeartbeats 4000000 in
theorem l2Walk_any (w0 : World) (kb N : Nat) (B : Bn) (xs : List Value) (hB : BOK N B) (hN : N ≤ 100000) (t : Ty) (v : Value) (w : World) (ht : Wt N t) (hx : TyN w0 0 kb t v) (hb : BAt w0 w kb N B xs) :
    Calls Try.prog 55 #[.agg #[.int .i64 t.k, .int .i64 t.n, v], .slice (some ⟨kb, 0, none⟩) N N] w (WkPost w0 B kb t w) := by
  obtain ⟨rk, hrk⟩ := hB.rk
  have HBK := Lib.hid hB
  have HRK := Lib.hid hrk
  obtain ⟨S, hS⟩ : ∃ S, w.heap.size = S := ⟨_, rfl⟩
  have hkS : kb < S := by rw [← hS]; exact hb.lt
  obtain ⟨W1, hW1⟩ : ∃ W, (w.alloc (.cells #[.int .i64 t.k, .int .i64 t.n, v] 28)).alloc (.cells #[.int .i64 0, .int .i64 0, .slice none 0 0] 28) = W := ⟨_, rfl⟩
  have hB1 : Below w.heap.size w W1 := by rw [← hW1]; exact ((Below.refl _ _).alloc (Nat.le_refl _) _).alloc (by simp) _
  have HO1 : Hid (OC W1 S t.k t.n v) := Lib.hid (by rw [← hW1, ← hS]; exact (oc_new w _ _ _ _).kept ((Below.refl _ _).alloc (Nat.le_refl _) _))
  have HP1 : Hid (OC W1 (S + 1) 0 0 (.slice none 0 0)) := Lib.hid (by
    have h := oc_new (w.alloc (.cells #[.int .i64 t.k, .int .i64 t.n, v] 28)) 0 0 (.slice none 0 0) 28
    rw [hW1, sizeA', hS] at h; exact h)
  have HX1 := Lib.hid hx
  have HA1 := Lib.hid hb
  have HB1 := Lib.hid hB1
  have HT := Lib.hid ht
  have HW1 := Lib.hid hW1
  have HS := Lib.hid hS
  obtain ⟨va, vc, hv⟩ := hx.slice
  clear hB hrk hx hb hB1 hW1 ht
  go_enter Try.func55, Try.ntmps55
  subst hv
  go_wp2_with fail
  rw [HW1.out]
  clear hS
  go_loopw [] (fun wr => ∃ (u : Ty) (vu : Value), Hid (Wk B t u) ∧ Hid (Wt N u) ∧ Hid (OC wr S u.k u.n vu) ∧ Hid (OC wr (S + 1) 0 0 (.slice none 0 0)) ∧ Hid (TyN w0 0 kb u vu) ∧ Hid (Below w.heap.size w wr)) (fun wr => wkM rk wr S)
  case atStart => exact ⟨t, _, Lib.hid (.refl t), HT, HO1, HP1, HX1, HB1⟩
  case round =>
    obtain ⟨u, vu, hwk, hwt, hoc, hop, htn, hbe⟩ := hrel
    obtain ⟨x0, x1, x2, f0, f1, f2, xz⟩ := hoc.out
    obtain ⟨y0, y1, y2, g0, g1, g2, yz⟩ := hop.out
    obtain ⟨ua, uc, rfl⟩ := htn.out.slice
    obtain ⟨uL, huL⟩ : ∃ n, u.ks.length = n := ⟨_, rfl⟩
    have HUL := Lib.hid huL
    rw [huL] at x2
    by_cases h4 : u.k = 4
    · obtain ⟨q, hq, hu⟩ := wt_var hwt.out h4
      have en : u.n = (q : Int) := by rw [hu]; rfl
      have HU := Lib.hid hu
      have E4 := Lib.hid h4
      have EN := Lib.hid en
      rw [h4] at x0
      rw [en] at x1
      have hqN : (q : Int) < (N : Int) := by omega
      have HQ := Lib.hid hq
      have hkl : kb < w.heap.size := HA1.out.lt
      rcases hbq : B (q : Int) with _ | t2
      · have c0 := (hbe.out.cell (p := ⟨kb, q * 3, none⟩) hkl).trans ((HA1.out.at (i := q * 3) (by omega)).trans (HA1.out.no q hq hbq))
        have HTR : Hid (Trm B u) := Lib.hid (fun _ => by rw [en]; exact hbq)
        clear hbq h4 en hu huL
        go_wp2_with fail
        refine bodyPost_ret (v := .agg #[.int .i64 4, .int .i64 (q : Int), .slice ua uL uc]) (by simp [results, Try.results55, go_sem, y0, y1, y2]) rfl ⟨u, .slice ua uL uc, by rw [E4.out, EN.out], hwk.out, HTR.out, by rw [← HUL.out]; exact htn.out, ?_⟩
        · exact ((hbe.out.setCell (p := ⟨S + 1, 0, none⟩) (by show w.heap.size ≤ S + 1; rw [HS.out]; omega) _).setCell (p := ⟨S + 1, 1, none⟩) (by show w.heap.size ≤ S + 1; rw [HS.out]; omega) _).setCell (p := ⟨S + 1, 2, none⟩) (by show w.heap.size ≤ S + 1; rw [HS.out]; omega) _
      · obtain ⟨v2, a0, a1, a2, ht2⟩ := HA1.out.yes q hq t2 hbq
        have c0 := (hbe.out.cell (p := ⟨kb, q * 3, none⟩) hkl).trans ((HA1.out.at (i := q * 3) (by omega)).trans a0)
        have c1 := (hbe.out.cell (p := ⟨kb, q * 3 + 1, none⟩) hkl).trans ((HA1.out.at (i := q * 3 + 1) (by omega)).trans a1)
        have c2 := (hbe.out.cell (p := ⟨kb, q * 3 + 2, none⟩) hkl).trans ((HA1.out.at (i := q * 3 + 2) (by omega)).trans a2)
        have hw2 := (HBK.out.wt _ t2 hbq).2.2
        have ek0 : (t2.k != 0) = true := by simpa using wt_k0 hw2
        have HWK : Hid (Wk B t t2) := Lib.hid (Wk.snoc (n := (q : Int)) (by rw [← hu]; exact hwk.out) hbq)
        have HWT := Lib.hid hw2
        have HTN := Lib.hid ht2
        have HM : Hid ((if t2.k = 4 then rk t2.n + 1 else 0) < rk (q : Int) + 1) := Lib.hid (by
          split
          · rename_i e4
            obtain ⟨q2, _, rfl⟩ := wt_var hw2 e4
            have := HRK.out _ _ hbq (q2 : Int) .var
            show rk (q2 : Int) + 1 < _
            omega
          · omega)
        have HM0 : Hid (wkM rk wr S = rk (q : Int) + 1) := Lib.hid (by rw [wkM_is hoc.out, if_pos h4, en])
        obtain ⟨va2, vc2, rfl⟩ := ht2.slice
        obtain ⟨l2, hl2⟩ : ∃ n, t2.ks.length = n := ⟨_, rfl⟩
        have HL2 := Lib.hid hl2
        rw [hl2] at c2
        obtain ⟨k2, hk2⟩ : ∃ n, t2.k = n := ⟨_, rfl⟩
        obtain ⟨n2, hn2⟩ : ∃ n, t2.n = n := ⟨_, rfl⟩
        have HK2 := Lib.hid hk2
        have HN2 := Lib.hid hn2
        rw [hk2] at c0 ek0
        rw [hn2] at c1
        clear hbq h4 en hu huL a0 a1 a2 ht2 hw2 hk2 hn2 hl2
        go_wp2_with fail
        go_roundw
        case rel =>
          refine ⟨t2, .slice va2 l2 vc2, HWK, HWT, Lib.hid ?_, Lib.hid ?_, by rw [← HL2.out]; exact HTN, Lib.hid ?_⟩
          · rw [HK2.out, HN2.out]; exact ((hoc.out.set0 k2).set1 n2).set2 _
          · exact hop.out.keep (by simp) (by rw [heap_setCell_other _ ⟨S, 2, none⟩ (S + 1) _ (by show S + 1 ≠ S; omega), heap_setCell_other _ ⟨S, 1, none⟩ (S + 1) _ (by show S + 1 ≠ S; omega), heap_setCell_other _ ⟨S, 0, none⟩ (S + 1) _ (by show S + 1 ≠ S; omega)])
          · exact ((hbe.out.setCell (p := ⟨S, 0, none⟩) (by show w.heap.size ≤ S; rw [HS.out]; omega) _).setCell (p := ⟨S, 1, none⟩) (by show w.heap.size ≤ S; rw [HS.out]; omega) _).setCell (p := ⟨S, 2, none⟩) (by show w.heap.size ≤ S; rw [HS.out]; omega) _
        case measure =>
          rw [HM0.out, wkM_is (((hoc.out.set0 k2).set1 n2).set2 _), ← HK2.out, ← HN2.out]
          exact HM.out
    · have e4 : (u.k == 4) = false := by simpa using h4
      have HTR : Hid (Trm B u) := Lib.hid (fun e => absurd e h4)
      clear h4 huL
      go_wp2_with fail
      refine bodyPost_ret (v := .agg #[.int .i64 u.k, .int .i64 u.n, .slice ua uL uc]) (by simp [results, Try.results55, go_sem, y0, y1, y2]) rfl ⟨u, .slice ua uL uc, rfl, hwk.out, HTR.out, by rw [← HUL.out]; exact htn.out, ?_⟩
      · exact ((hbe.out.setCell (p := ⟨S + 1, 0, none⟩) (by show w.heap.size ≤ S + 1; rw [HS.out]; omega) _).setCell (p := ⟨S + 1, 1, none⟩) (by show w.heap.size ≤ S + 1; rw [HS.out]; omega) _).setCell (p := ⟨S + 1, 2, none⟩) (by show w.heap.size ≤ S + 1; rw [HS.out]; omega) _

theorem TyN.kid {w : World} {E : Nat} {t : Ty} {v : Value} (h : TyN w 0 E t v) (i : Nat) (hi : i < t.ks.length) : ∃ g o cap vi, v = .slice (some ⟨g, o, none⟩) t.ks.length cap ∧ g < w.heap.size ∧ g ≠ E ∧
    w.cell? ⟨g, o + i * 3, none⟩ = some (.int .i64 (t.ks.getD i Ty.dummy).k) ∧ w.cell? ⟨g, o + i * 3 + 1, none⟩ = some (.int .i64 (t.ks.getD i Ty.dummy).n) ∧ w.cell? ⟨g, o + i * 3 + 2, none⟩ = some vi ∧ TyN w 0 E (t.ks.getD i Ty.dummy) vi := by
  cases h with
  | bare k n a cap => exact absurd hi (Nat.not_lt_zero _)
  | row k n ks b o cap vs hb he hr hl h0 h1 h2 h3 => exact ⟨b, o, cap, vs i, rfl, hr.lt, he, h0 i hi, h1 i hi, h2 i hi, h3 i hi⟩
theorem ful_kids {B : Bn} {t u : Ty} (h : Ful B t u) (ht : Trm B t) (h4 : t.k ≠ 4) : u.k = t.k ∧ t.n = 0 ∧ u.n = 0 ∧ u.ks.length = t.ks.length ∧ ∀ i, i < t.ks.length → Ful B (t.ks.getD i Ty.dummy) (u.ks.getD i Ty.dummy) := by
  rcases ful_shape h ht with ⟨rfl, rfl⟩ | ⟨n, rfl, rfl, _⟩ | ⟨k, a, b, a', b', hk, rfl, rfl, ha, hb⟩
  · exact ⟨rfl, rfl, rfl, rfl, fun i hi => absurd hi (Nat.not_lt_zero _)⟩
  · exact absurd rfl h4
  · refine ⟨rfl, rfl, rfl, rfl, fun i hi => ?_⟩
    have hi : i < 2 := hi
    obtain rfl | rfl : i = 0 ∨ i = 1 := by omega
    · exact ha
    · exact hb
theorem wt_kid {N : Int} {t : Ty} (h : Wt N t) (i : Nat) (hi : i < t.ks.length) : Wt N (t.ks.getD i Ty.dummy) := by
  cases h with
  | num => exact absurd hi (Nat.not_lt_zero _)
  | var => exact absurd hi (Nat.not_lt_zero _)
  | join k a b hk ha hb =>
    have hi : i < 2 := hi
    obtain rfl | rfl : i = 0 ∨ i = 1 := by omega
    · exact ha
    · exact hb
theorem wt_len {N : Int} {t : Ty} (h : Wt N t) : t.ks.length ≤ 2 := by
  cases h with
  | num => exact Nat.zero_le _
  | var => exact Nat.zero_le _
  | join k a b hk ha hb => exact Nat.le_refl _
theorem occ_kids {N n : Int} {u : Ty} (hu : Wt N u) (h4 : u.k ≠ 4) : Occ n u ↔ ∃ i, i < u.ks.length ∧ Occ n (u.ks.getD i Ty.dummy) := by
  cases hu with
  | num => exact ⟨fun h => by (cases h), fun ⟨i, hi, _⟩ => absurd hi (Nat.not_lt_zero _)⟩
  | var => exact absurd rfl h4
  | join k a b hk ha hb =>
    constructor
    · intro h
      cases h with
      | left _ _ _ h => exact ⟨0, Nat.succ_pos _, h⟩
      | right _ _ _ h => exact ⟨1, Nat.lt_succ_self _, h⟩
    · rintro ⟨i, hi, h⟩
      have hi : i < 2 := hi
      obtain rfl | rfl : i = 0 ∨ i = 1 := by omega
      · exact .left _ _ _ h
      · exact .right _ _ _ h
open Classical in
/-- Whether a variable occurs. -/
noncomputable def occB (n : Int) (u : Ty) : Bool := decide (Occ n u)
open Classical in
theorem occB_iff {n : Int} {u : Ty} : occB n u = true ↔ Occ n u := by unfold occB; exact decide_eq_true_iff
theorem occB_yes {n : Int} {u : Ty} (h : Occ n u) : occB n u = true := occB_iff.2 h
theorem occB_no {n : Int} {u : Ty} (h : ¬ Occ n u) : occB n u = false := by
  rcases e : occB n u with _ | _
  · rfl
  · exact absurd (occB_iff.1 e) h
/-- A box behind the stores of three cells. -/
theorem oc_set3 {w : World} {S : Nat} {k n : Int} {v : Value} (h : OC w S k n v) (k' n' : Int) (v' : Value) : OC (((w.setCell ⟨S, 0, none⟩ (.int .i64 k')).setCell ⟨S, 1, none⟩ (.int .i64 n')).setCell ⟨S, 2, none⟩ v') S k' n' v' := ((h.set0 k').set1 n').set2 v'
theorem below_set3 {n0 : Nat} {a w : World} (h : Below n0 a w) {S : Nat} (hS : n0 ≤ S) (x y z : Value) : Below n0 a (((w.setCell ⟨S, 0, none⟩ x).setCell ⟨S, 1, none⟩ y).setCell ⟨S, 2, none⟩ z) :=
  ((h.setCell (p := ⟨S, 0, none⟩) hS _).setCell (p := ⟨S, 1, none⟩) hS _).setCell (p := ⟨S, 2, none⟩) hS _
theorem BAt.set3 {w0 w : World} {kb N : Nat} {B : Bn} {xs : List Value} (h : BAt w0 w kb N B xs) {S : Nat} (hS : kb ≠ S) (x y z : Value) : BAt w0 (((w.setCell ⟨S, 0, none⟩ x).setCell ⟨S, 1, none⟩ y).setCell ⟨S, 2, none⟩ z) kb N B xs := by
  refine ⟨?_, h.no, h.yes⟩
  obtain ⟨hl, h' | ⟨g, cap, cur, hg, hb', ho, h1, h2, h3, h4⟩⟩ := h.own
  · exact ⟨hl, .inl h'⟩
  · injection hg with hg _ _
    injection hg with hg
    injection hg with hg _ _
    subst hg
    refine ⟨hl, .inr ⟨kb, cap, cur, by simp; omega, hb', ?_, h1, h2, h3, h4⟩⟩
    rw [heap_setCell_other _ ⟨S, 2, none⟩ kb _ hS, heap_setCell_other _ ⟨S, 1, none⟩ kb _ hS, heap_setCell_other _ ⟨S, 0, none⟩ kb _ hS]; exact ho
set_option maxRecDepth 100000 in
set_option maxHeartbeats 4000000 in
theorem l2Occurs_any (w0 : World) (kb N : Nat) (B : Bn) (xs : List Value) (hB : BOK N B) (hN : N ≤ 100000) (n : Int) (m : Nat) : ∀ (t u : Ty) (v : Value) (w : World), SizeOf.sizeOf u < m → Ful B t u → Wt N t → TyN w0 0 kb t v → Inside kb (kb + 1) w0 w → BAt w0 w kb N B xs →
    Calls Try.prog 56 #[.int .i64 n, .agg #[.int .i64 t.k, .int .i64 t.n, v], .slice (some ⟨kb, 0, none⟩) N N] w fun e w' => e = .returned (.bool (occB n u)) ∧ Below w.heap.size w w' := by
  have HBK := Lib.hid hB
  clear hB
  induction m with
  | zero => intro t u v w h; exact absurd h (Nat.not_lt_zero _)
  | succ m ih =>
    intro t u v w hm hf ht hx hi hb
    have HIH := Lib.hid ih
    have HM := Lib.hid hm
    have HF := Lib.hid hf
    have HT := Lib.hid ht
    have HX := Lib.hid hx
    have HI := Lib.hid hi
    have HA0 := Lib.hid hb
    obtain ⟨S, hS⟩ : ∃ S, w.heap.size = S := ⟨_, rfl⟩
    have hkS : kb < S := by rw [← hS]; exact hb.lt
    obtain ⟨va, vc, hv⟩ := hx.slice
    clear ih hm hf ht hx hi hb
    subst hv
    obtain ⟨W1, hW1⟩ : ∃ W, w.alloc (.cells #[.int .i64 t.k, .int .i64 t.n, .slice va t.ks.length vc] 28) = W := ⟨_, rfl⟩
    have HB1 : Hid (Below w.heap.size w W1) := Lib.hid (by rw [← hW1]; exact (Below.refl _ _).alloc (Nat.le_refl _) _)
    have HO1 : Hid (OC W1 S t.k t.n (.slice va t.ks.length vc)) := Lib.hid (by rw [← hW1, ← hS]; exact oc_new w _ _ _ _)
    have HA1 := Lib.hid (HA0.out.kept HB1.out)
    have HW1 := Lib.hid hW1
    have HS := Lib.hid hS
    clear hW1
    go_enter Try.func56, Try.ntmps56
    go_wp2_with fail
    rw [HW1.out]
    clear hS
    try rw [HS.out]
    obtain ⟨x0, x1, x2, f0, f1, f2, xz⟩ := HO1.out
    go_at_call 55
    refine (l2Walk_any w0 kb N B xs HBK.out hN t _ _ HT.out HX.out HA1.out).mono ?_
    rintro e w2 ⟨t', v', rfl, hwk, htr, hx', hb2⟩
    have HF2 := Lib.hid (hwk.ful HF.out)
    have HT2 := Lib.hid (hwk.wt HBK.out HT.out)
    have HTR := Lib.hid htr
    have HX2 := Lib.hid hx'
    obtain ⟨a', c', rfl⟩ := hx'.slice
    have HO2 := Lib.hid (HO1.out.kept hb2)
    have HB2 := Lib.hid (HB1.out.trans (hb2.mono HB1.out.size))
    have HA2 := Lib.hid (HA1.out.kept hb2)
    clear hwk htr hx' hb2 x0 x1 x2 f0 f1 f2 xz
    obtain ⟨x0, x1, x2, f0, f1, f2, xz⟩ := HO2.out
    obtain ⟨kk, hkk⟩ : ∃ n, t'.k = n := ⟨_, rfl⟩
    obtain ⟨nn, hnn⟩ : ∃ n, t'.n = n := ⟨_, rfl⟩
    obtain ⟨L, hL⟩ : ∃ n, t'.ks.length = n := ⟨_, rfl⟩
    have HKK := Lib.hid hkk
    have HNN := Lib.hid hnn
    have HL := Lib.hid hL
    rw [hkk, hnn, hL]
    rw [hL] at HX2
    have hL2 : L ≤ 2 := by rw [← hL]; exact wt_len HT2.out
    clear hkk hnn hL
    obtain ⟨W3, hW3⟩ : ∃ W, ((w2.setCell ⟨S, 0, none⟩ (.int .i64 kk)).setCell ⟨S, 1, none⟩ (.int .i64 nn)).setCell ⟨S, 2, none⟩ (.slice a' L c') = W := ⟨_, rfl⟩
    have HO3 : Hid (OC W3 S kk nn (.slice a' L c')) := Lib.hid (by rw [← hW3]; exact oc_set3 HO2.out _ _ _)
    have HB3 : Hid (Below w.heap.size w W3) := Lib.hid (by rw [← hW3]; exact below_set3 HB2.out (by rw [HS.out]; omega) _ _ _)
    have HA3 : Hid (BAt w0 W3 kb N B xs) := Lib.hid (by rw [← hW3]; exact HA2.out.set3 (by omega) _ _ _)
    have HI3 : Hid (Inside kb (kb + 1) w0 W3) := Lib.hid (HI.out.trans (in_below HB3.out))
    by_cases h4 : kk = 4
    · have HU : Hid (u = .node 4 nn []) := Lib.hid (by
        rcases ful_shape HF2.out HTR.out with ⟨e, _⟩ | ⟨q, e, eu, _⟩ | ⟨k, x, y, x', y', hk, e, _⟩
        · have := HKK.out; rw [e] at this; have : (1 : Int) = kk := this; omega
        · rw [eu]; have := HNN.out; rw [e] at this; rw [show nn = q from this.symm]
        · have := HKK.out; rw [e] at this; have : k = kk := this; omega)
      have HR : Hid ((nn == n) = occB n u) := Lib.hid (by
        rw [HU.out]
        by_cases e : nn = n
        · subst e; rw [occB_yes .var]; simp
        · rw [occB_no (fun h => by cases h; exact e rfl)]; simpa using e)
      subst h4
      obtain ⟨y0, y1, y2, g0, g1, g2, yz⟩ := HO3.out
      go_wp2_with fail
      go_ret
      exact ⟨ret_bz HR.out, HB3.out⟩
    · have e4 : (kk == 4) = false := by simpa using h4
      have H4 := Lib.hid h4
      have HFK := Lib.hid (ful_kids HF2.out HTR.out (by rw [HKK.out]; exact h4))
      clear h4
      obtain ⟨y0, y1, y2, g0, g1, g2, yz⟩ := HO3.out
      go_wp2_with fail
      clear hW3 y0 y1 y2 g0 g1 g2 yz x0 x1 x2 f0 f1 f2 xz
      go_loopw [7] (fun i wr => ∃ j : Nat, j ≤ L ∧ i = .int .i64 j ∧ Hid (OC wr S kk nn (.slice a' L c')) ∧ Hid (Below w.heap.size w wr) ∧ Hid (BAt w0 wr kb N B xs) ∧ Hid (∀ q, q < j → ¬ Occ n (u.ks.getD q Ty.dummy))) (fun i _ => L - (intOf i).toNat)
      case atStart => exact ⟨0, Nat.zero_le _, rfl, HO3, HB3, HA3, Lib.hid (fun q hq => absurd hq (Nat.not_lt_zero _))⟩
      case round =>
        obtain ⟨j, hj, rfl, hoc, hbe, hba, hpre⟩ := hrel
        obtain ⟨y0, y1, y2, g0, g1, g2, yz⟩ := hoc.out
        by_cases hlt : j < L
        · have hji : (j : Int) < (L : Int) := by omega
          have hjt : j < t'.ks.length := by rw [HL.out]; exact hlt
          have hju : j < u.ks.length := by rw [HFK.out.2.2.2.1]; exact hjt
          have hxl := HX2.out
          rw [← HL.out] at hxl
          obtain ⟨g, o, cap, vi, ex, gl, gk, z0, z1, z2, hkid⟩ := hxl.kid j hjt
          have ex1 : a' = some ⟨g, o, none⟩ := by injection ex
          subst ex1
          have HIR := Lib.hid (HI.out.trans (in_below (lo := kb) (hi := kb + 1) hbe.out))
          have hge := HIR.out.block g gl (by omega)
          replace z0 := (cellEq hge).trans z0
          replace z1 := (cellEq hge).trans z1
          replace z2 := (cellEq hge).trans z2
          have HFJ := Lib.hid (HFK.out.2.2.2.2 j hjt)
          have HWJ := Lib.hid (wt_kid HT2.out j hjt)
          have HSZ : Hid (SizeOf.sizeOf (u.ks.getD j Ty.dummy) < m) := Lib.hid (by have := Ty.kid_lt u j hju; have := HM.out; omega)
          have HJU := Lib.hid hju
          obtain ⟨x, hxx⟩ : ∃ x, t'.ks.getD j Ty.dummy = x := ⟨_, rfl⟩
          obtain ⟨y, hyy⟩ : ∃ y, u.ks.getD j Ty.dummy = y := ⟨_, rfl⟩
          have HYY := Lib.hid hyy
          rw [hxx] at z0 z1 hkid HFJ HWJ
          rw [hyy] at HFJ HSZ
          have HKID := Lib.hid hkid
          obtain ⟨ai, ci, rfl⟩ := hkid.slice
          clear hxl ex gl gk hkid hxx hyy hjt hju hge
          rcases ho : occB n y with _ | _
          · have HOC := Lib.hid ho
            have HPRE : Hid (∀ q, q < j + 1 → ¬ Occ n (u.ks.getD q Ty.dummy)) := Lib.hid (fun q hq => by
              by_cases e : q = j
              · rw [e, HYY.out]; intro h; rw [occB_yes h] at ho; cases ho
              · exact hpre.out q (by omega))
            clear ho
            go_wp2_with fail
            go_at_call 56
            refine (HIH.out x y _ _ HSZ.out HFJ.out HWJ.out HKID.out HIR.out hba.out).mono ?_
            rintro e w5 ⟨rfl, hb5⟩
            rw [HOC.out]
            have HO5 := Lib.hid (hoc.out.kept hb5)
            have HB5 := Lib.hid (hbe.out.trans (hb5.mono hbe.out.size))
            have HA5 := Lib.hid (hba.out.kept hb5)
            clear hb5
            go_wp2_with fail
            go_roundw
            case rel => exact ⟨j + 1, by omega, by go_num, HO5, HB5, HA5, HPRE⟩
            case measure => simp [intOf]; omega
          · have HOC := Lib.hid ho
            have HR : Hid (occB n u = true) := Lib.hid (occB_yes ((occ_kids (ful_wt HBK.out HF2.out HT2.out).1 (by rw [HFK.out.1, HKK.out]; exact H4.out)).2 ⟨j, HJU.out, by rw [HYY.out]; exact occB_iff.1 ho⟩))
            clear ho
            go_wp2_with fail
            go_at_call 56
            refine (HIH.out x y _ _ HSZ.out HFJ.out HWJ.out HKID.out HIR.out hba.out).mono ?_
            rintro e w5 ⟨rfl, hb5⟩
            rw [HOC.out]
            have HB5 := Lib.hid (hbe.out.trans (hb5.mono hbe.out.size))
            clear hb5
            go_wp2_with fail
            go_ret
            exact ⟨ret_bz HR.out.symm, HB5.out⟩
        · have hji : ¬ (j : Int) < (L : Int) := by omega
          have hjl : j = L := by omega
          have HR : Hid (occB n u = false) := Lib.hid (occB_no (fun h => by
            obtain ⟨i, hi, hoi⟩ := (occ_kids (ful_wt HBK.out HF2.out HT2.out).1 (by rw [HFK.out.1, HKK.out]; exact H4.out)).1 h
            exact hpre.out i (by rw [HFK.out.2.2.2.1, HL.out] at hi; omega) hoi))
          clear hlt hjl
          go_wp2_with fail
          go_ret
          exact ⟨ret_bz HR.out.symm, hbe.out⟩

end Go.Proofs.Ytjhccdioainibaa
