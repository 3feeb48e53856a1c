/-
  The model's bound variables in memory: a row of types; what it follows, and whether a variable occurs.
  Unification of the model: it makes two types equal by binding variables, in the most general way, or says that there is none.
  l2Full of the model: a type with all bound variables replaced, if it has at most so many nodes.
  UnifyTypes of the model: the most general type that two types become, its variables numbered anew.
-/
import Derived.Test.YtndpoejohpmifaaNac
import Derived.Test.YtndpoejohpmifaaPce
import Derived.Test.YtndpoejohpmifaaGae
import Derived.Deep.RegionHeld3
import Derived.Deep.DeepCutAuto
import Derived.Test.YtndpoejohpmifaaAd
import Derived.Deep.AppendLies
import Derived.Test.YtndpoejohpmifaaPg
namespace Go.Proofs.Ytndpoejohpmifaa
open Go.RowKit
set_option linter.unusedVariables false
set_option linter.unusedSimpArgs false

/-- The row of types in block kb: what N variables are bound to; kind 0 means that one is not bound. The types lie in the world w0. -/
structure BAt (w0 w : World) (kb N : Nat) (B : Bn) (xs : List Value) : Prop where
  own : w.ownsRow kb 25 3 (.slice (some ⟨kb, 0, none⟩) N N) N xs
  no : ∀ i : Nat, i < N → B (i : Int) = none → xs[i * 3]? = some (.int .i64 0)
  yes : ∀ i : Nat, i < N → ∀ t, B (i : Int) = some t → ∃ v, xs[i * 3]? = some (.int .i64 t.k) ∧ xs[i * 3 + 1]? = some (.int .i64 t.n) ∧ xs[i * 3 + 2]? = some v ∧ TyN w0 0 kb t v
theorem BAt.lt {w0 w : World} {kb N : Nat} {B : Bn} {xs : List Value} (h : BAt w0 w kb N B xs) : kb < w.heap.size := (own_block h.own).2
theorem BAt.len {w0 w : World} {kb N : Nat} {B : Bn} {xs : List Value} (h : BAt w0 w kb N B xs) : xs.length = N * 3 := h.own.1
theorem BAt.at {w0 w : World} {kb N : Nat} {B : Bn} {xs : List Value} (h : BAt w0 w kb N B xs) {i : Nat} (hi : i < N * 3) : w.cell? ⟨kb, i, none⟩ = xs[i]? := World.ownsRow.cellAt h.own i hi
theorem BAt.kept {w0 w w' : World} {kb N : Nat} {B : Bn} {xs : List Value} (h : BAt w0 w kb N B xs) (hb : Below w.heap.size w w') : BAt w0 w' kb N B xs := ⟨own_below h.own hb, h.no, h.yes⟩
theorem TyN.inside {w w' : World} {kb : Nat} {t : Ty} {v : Value} (h : TyN w 0 kb t v) (hi : Inside kb (kb + 1) w w') : TyN w' 0 kb t v :=
  h.keep hi.size (fun b _ h2 h3 => hi.block b h3 (by omega))
/-- What lies in w0, but for the row, lies there still. -/
theorem TyN.base {w0 w : World} {kb : Nat} {t : Ty} {v : Value} (h : TyN w0 0 kb t v) (hi : Inside kb (kb + 1) w0 w) : TyN w 0 kb t v := h.inside hi
theorem TyN.set {w : World} {kb i : Nat} {x : Value} {t : Ty} {v : Value} (h : TyN w 0 kb t v) : TyN (w.setCell ⟨kb, i, none⟩ x) 0 kb t v := h.inside (Mx.set_in x)
theorem TyN.at {w : World} {lo E : Nat} {t : Ty} {v : Value} (h : TyN w lo E t v) : TyAt w t v := h.ok.at
/-- Two operands, as the walk reads them. -/
theorem TyN.two {w : World} {E : Nat} {k n : Int} {a b : Ty} {v : Value} (h : TyN w 0 E (.node k n [a, b]) v) : ∃ g o cap va vb, v = .slice (some ⟨g, o, none⟩) 2 cap ∧ g < w.heap.size ∧ g ≠ E ∧
    Six w g o (.int .i64 a.k) (.int .i64 a.n) va (.int .i64 b.k) (.int .i64 b.n) vb ∧ TyN w 0 E a va ∧ TyN w 0 E b vb := by
  cases h with
  | row k n ks g o cap vs hb he hr hl h0 h1 h2 h3 =>
    have l0 : 0 < [a, b].length := Nat.succ_pos _
    have l1 : 1 < [a, b].length := Nat.lt_succ_self _
    exact ⟨g, o, cap, vs 0, vs 1, rfl, hr.lt, he, ⟨h0 0 l0, h1 0 l0, h2 0 l0, h0 1 l1, h1 1 l1, h2 1 l1, hr.lt⟩, h3 0 l0, h3 1 l1⟩
theorem wt_k0 {N : Int} {t : Ty} (h : Wt N t) : t.k ≠ 0 := by
  cases h with
  | num => intro e; have e : (1 : Int) = 0 := e; omega
  | var n => intro e; have e : (4 : Int) = 0 := e; omega
  | join k a b hk => intro e; have e : k = 0 := e; omega
/-- One more variable is bound. -/
theorem BAt.put {w0 w : World} {kb N : Nat} {B : Bn} {xs : List Value} (h : BAt w0 w kb N B xs) {n : Nat} (hn : n < N) {t : Ty} {v : Value} (ht : TyN w0 0 kb t v) :
    ∃ xs', BAt w0 (((w.setCell ⟨kb, n * 3, none⟩ (.int .i64 t.k)).setCell ⟨kb, n * 3 + 1, none⟩ (.int .i64 t.n)).setCell ⟨kb, n * 3 + 2, none⟩ v) kb N (bput B (n : Int) t) xs' := by
  obtain ⟨s1, _⟩ := World.ownsRow.stored h.own (n * 3) (.int .i64 t.k)
  obtain ⟨s2, _⟩ := s1.stored (n * 3 + 1) (.int .i64 t.n)
  obtain ⟨s3, _⟩ := s2.stored (n * 3 + 2) v
  have hlen := h.len
  refine ⟨_, s3, fun i hi2 e => ?_, fun i hi2 t2 e => ?_⟩
  · have hin : i ≠ n := fun e2 => by subst e2; rw [bput_same] at e; cases e
    rw [bput_other B t (by omega)] at e
    rw [List.getElem?_set_ne (by omega), List.getElem?_set_ne (by omega), List.getElem?_set_ne (by omega)]
    exact h.no i hi2 e
  · by_cases hin : i = n
    · subst hin
      rw [bput_same] at e
      injection e with e
      subst e
      refine ⟨v, ?_, ?_, ?_, ht⟩
      · rw [List.getElem?_set_ne (by omega), List.getElem?_set_ne (by omega), List.getElem?_set_self (by omega)]
      · rw [List.getElem?_set_ne (by omega), List.getElem?_set_self (by rw [List.length_set]; omega)]
      · rw [List.getElem?_set_self (by rw [List.length_set, List.length_set]; omega)]
    · rw [bput_other B t (by omega)] at e
      obtain ⟨v2, a0, a1, a2, a3⟩ := h.yes i hi2 t2 e
      refine ⟨v2, ?_, ?_, ?_, a3⟩
      · rw [List.getElem?_set_ne (by omega), List.getElem?_set_ne (by omega), List.getElem?_set_ne (by omega)]; exact a0
      · rw [List.getElem?_set_ne (by omega), List.getElem?_set_ne (by omega), List.getElem?_set_ne (by omega)]; exact a1
      · rw [List.getElem?_set_ne (by omega), List.getElem?_set_ne (by omega), List.getElem?_set_ne (by omega)]; exact a2
/-- A variable of a well-formed type has a place in the row. -/
theorem wt_var {N : Nat} {t : Ty} (h : Wt N t) (h4 : t.k = 4) : ∃ q : Nat, q < N ∧ t = .node 4 (q : Int) [] := by
  cases h with
  | num => cases h4
  | var n h0 h1 => exact ⟨n.toNat, by omega, by rw [Int.toNat_of_nonneg h0]⟩
  | join k a b hk => have e : k = 4 := h4; omega
/-- How often bound variables can be followed from a box. -/
def wkM (rk : Int → Nat) (w : World) (S : Nat) : Nat :=
  match w.cell? ⟨S, 0, none⟩, w.cell? ⟨S, 1, none⟩ with
  | some (.int _ k), some (.int _ n) => if k = 4 then rk n + 1 else 0
  | _, _ => 0
theorem wkM_is {rk : Int → Nat} {w : World} {S : Nat} {k n : Int} {v : Value} (h : OC w S k n v) : wkM rk w S = if k = 4 then rk n + 1 else 0 := by
  unfold wkM; rw [h.c0, h.c1]
def WkPost (w0 : World) (B : Bn) (kb : Nat) (t : Ty) (w : World) (e : Ending) (w' : World) : Prop := ∃ t' v', e = .returned (.agg #[.int .i64 t'.k, .int .i64 t'.n, v']) ∧ Wk B t t' ∧ Trm B t' ∧ TyN w0 0 kb t' v' ∧ Below w.heap.size w w'
theorem TyN.slice {w : World} {lo E : Nat} {t : Ty} {v : Value} (h : TyN w lo E t v) : ∃ a cap, v = .slice a t.ks.length cap := by
  obtain ⟨a, c, e, _⟩ := h.at.slice; exact ⟨a, c, e⟩

set_option maxRecDepth 100000 in
set_option maxHeartbeats 4000000 in
theorem l2Walk_any (w0 : World) (kb N : Nat) (B : Bn) (xs : List Value) (hB : BOK N B) (hN : N ≤ 100000) (t : Ty) (v : Value) (w : World) (ht : Wt N t) (hx : TyN w0 0 kb t v) (hb : BAt w0 w kb N B xs) :
    Calls Try.prog 100 #[.agg #[.int .i64 t.k, .int .i64 t.n, v], .slice (some ⟨kb, 0, none⟩) N N] w (WkPost w0 B kb t w) := by
  obtain ⟨rk, hrk⟩ := hB.rk
  have HBK := Lib.hid hB
  have HRK := Lib.hid hrk
  obtain ⟨S, hS⟩ : ∃ S, w.heap.size = S := ⟨_, rfl⟩
  have hkS : kb < S := by rw [← hS]; exact hb.lt
  obtain ⟨W1, hW1⟩ : ∃ W, (w.alloc (.cells #[.int .i64 t.k, .int .i64 t.n, v] 25)).alloc (.cells #[.int .i64 0, .int .i64 0, .slice none 0 0] 25) = W := ⟨_, rfl⟩
  have hB1 : Below w.heap.size w W1 := by rw [← hW1]; exact ((Below.refl _ _).alloc (Nat.le_refl _) _).alloc (by simp) _
  have HO1 : Hid (OC W1 S t.k t.n v) := Lib.hid (by rw [← hW1, ← hS]; exact (oc_new w _ _ _ _).kept ((Below.refl _ _).alloc (Nat.le_refl _) _))
  have HP1 : Hid (OC W1 (S + 1) 0 0 (.slice none 0 0)) := Lib.hid (by
    have h := oc_new (w.alloc (.cells #[.int .i64 t.k, .int .i64 t.n, v] 25)) 0 0 (.slice none 0 0) 25
    rw [hW1, sizeA', hS] at h; exact h)
  have HX1 := Lib.hid hx
  have HA1 := Lib.hid hb
  have HB1 := Lib.hid hB1
  have HT := Lib.hid ht
  have HW1 := Lib.hid hW1
  have HS := Lib.hid hS
  obtain ⟨va, vc, hv⟩ := hx.slice
  clear hB hrk hx hb hB1 hW1 ht
  go_enter Try.func100, Try.ntmps100
  subst hv
  go_wp2_with fail
  rw [HW1.out]
  clear hS
  go_loopw [] (fun wr => ∃ (u : Ty) (vu : Value), Hid (Wk B t u) ∧ Hid (Wt N u) ∧ Hid (OC wr S u.k u.n vu) ∧ Hid (OC wr (S + 1) 0 0 (.slice none 0 0)) ∧ Hid (TyN w0 0 kb u vu) ∧ Hid (Below w.heap.size w wr)) (fun wr => wkM rk wr S)
  case atStart => exact ⟨t, _, Lib.hid (.refl t), HT, HO1, HP1, HX1, HB1⟩
  case round =>
    obtain ⟨u, vu, hwk, hwt, hoc, hop, htn, hbe⟩ := hrel
    obtain ⟨x0, x1, x2, f0, f1, f2, xz⟩ := hoc.out
    obtain ⟨y0, y1, y2, g0, g1, g2, yz⟩ := hop.out
    obtain ⟨ua, uc, rfl⟩ := htn.out.slice
    obtain ⟨uL, huL⟩ : ∃ n, u.ks.length = n := ⟨_, rfl⟩
    have HUL := Lib.hid huL
    rw [huL] at x2
    by_cases h4 : u.k = 4
    · obtain ⟨q, hq, hu⟩ := wt_var hwt.out h4
      have en : u.n = (q : Int) := by rw [hu]; rfl
      have HU := Lib.hid hu
      have E4 := Lib.hid h4
      have EN := Lib.hid en
      rw [h4] at x0
      rw [en] at x1
      have hqN : (q : Int) < (N : Int) := by omega
      have HQ := Lib.hid hq
      have hkl : kb < w.heap.size := HA1.out.lt
      rcases hbq : B (q : Int) with _ | t2
      · have c0 := (hbe.out.cell (p := ⟨kb, q * 3, none⟩) hkl).trans ((HA1.out.at (i := q * 3) (by omega)).trans (HA1.out.no q hq hbq))
        have HTR : Hid (Trm B u) := Lib.hid (fun _ => by rw [en]; exact hbq)
        clear hbq h4 en hu huL
        go_wp2_with fail
        refine bodyPost_ret (v := .agg #[.int .i64 4, .int .i64 (q : Int), .slice ua uL uc]) (by simp [results, Try.results100, go_sem, y0, y1, y2]) rfl ⟨u, .slice ua uL uc, by rw [E4.out, EN.out], hwk.out, HTR.out, by rw [← HUL.out]; exact htn.out, ?_⟩
        · exact ((hbe.out.setCell (p := ⟨S + 1, 0, none⟩) (by show w.heap.size ≤ S + 1; rw [HS.out]; omega) _).setCell (p := ⟨S + 1, 1, none⟩) (by show w.heap.size ≤ S + 1; rw [HS.out]; omega) _).setCell (p := ⟨S + 1, 2, none⟩) (by show w.heap.size ≤ S + 1; rw [HS.out]; omega) _
      · obtain ⟨v2, a0, a1, a2, ht2⟩ := HA1.out.yes q hq t2 hbq
        have c0 := (hbe.out.cell (p := ⟨kb, q * 3, none⟩) hkl).trans ((HA1.out.at (i := q * 3) (by omega)).trans a0)
        have c1 := (hbe.out.cell (p := ⟨kb, q * 3 + 1, none⟩) hkl).trans ((HA1.out.at (i := q * 3 + 1) (by omega)).trans a1)
        have c2 := (hbe.out.cell (p := ⟨kb, q * 3 + 2, none⟩) hkl).trans ((HA1.out.at (i := q * 3 + 2) (by omega)).trans a2)
        have hw2 := (HBK.out.wt _ t2 hbq).2.2
        have ek0 : (t2.k != 0) = true := by simpa using wt_k0 hw2
        have HWK : Hid (Wk B t t2) := Lib.hid (Wk.snoc (n := (q : Int)) (by rw [← hu]; exact hwk.out) hbq)
        have HWT := Lib.hid hw2
        have HTN := Lib.hid ht2
        have HM : Hid ((if t2.k = 4 then rk t2.n + 1 else 0) < rk (q : Int) + 1) := Lib.hid (by
          split
          · rename_i e4
            obtain ⟨q2, _, rfl⟩ := wt_var hw2 e4
            have := HRK.out _ _ hbq (q2 : Int) .var
            show rk (q2 : Int) + 1 < _
            omega
          · omega)
        have HM0 : Hid (wkM rk wr S = rk (q : Int) + 1) := Lib.hid (by rw [wkM_is hoc.out, if_pos h4, en])
        obtain ⟨va2, vc2, rfl⟩ := ht2.slice
        obtain ⟨l2, hl2⟩ : ∃ n, t2.ks.length = n := ⟨_, rfl⟩
        have HL2 := Lib.hid hl2
        rw [hl2] at c2
        obtain ⟨k2, hk2⟩ : ∃ n, t2.k = n := ⟨_, rfl⟩
        obtain ⟨n2, hn2⟩ : ∃ n, t2.n = n := ⟨_, rfl⟩
        have HK2 := Lib.hid hk2
        have HN2 := Lib.hid hn2
        rw [hk2] at c0 ek0
        rw [hn2] at c1
        clear hbq h4 en hu huL a0 a1 a2 ht2 hw2 hk2 hn2 hl2
        go_wp2_with fail
        go_roundw
        case rel =>
          refine ⟨t2, .slice va2 l2 vc2, HWK, HWT, Lib.hid ?_, Lib.hid ?_, by rw [← HL2.out]; exact HTN, Lib.hid ?_⟩
          · rw [HK2.out, HN2.out]; exact ((hoc.out.set0 k2).set1 n2).set2 _
          · exact hop.out.keep (by simp) (by rw [heap_setCell_other _ ⟨S, 2, none⟩ (S + 1) _ (by show S + 1 ≠ S; omega), heap_setCell_other _ ⟨S, 1, none⟩ (S + 1) _ (by show S + 1 ≠ S; omega), heap_setCell_other _ ⟨S, 0, none⟩ (S + 1) _ (by show S + 1 ≠ S; omega)])
          · exact ((hbe.out.setCell (p := ⟨S, 0, none⟩) (by show w.heap.size ≤ S; rw [HS.out]; omega) _).setCell (p := ⟨S, 1, none⟩) (by show w.heap.size ≤ S; rw [HS.out]; omega) _).setCell (p := ⟨S, 2, none⟩) (by show w.heap.size ≤ S; rw [HS.out]; omega) _
        case measure =>
          rw [HM0.out, wkM_is (((hoc.out.set0 k2).set1 n2).set2 _), ← HK2.out, ← HN2.out]
          exact HM.out
    · have e4 : (u.k == 4) = false := by simpa using h4
      have HTR : Hid (Trm B u) := Lib.hid (fun e => absurd e h4)
      clear h4 huL
      go_wp2_with fail
      refine bodyPost_ret (v := .agg #[.int .i64 u.k, .int .i64 u.n, .slice ua uL uc]) (by simp [results, Try.results100, go_sem, y0, y1, y2]) rfl ⟨u, .slice ua uL uc, rfl, hwk.out, HTR.out, by rw [← HUL.out]; exact htn.out, ?_⟩
      · exact ((hbe.out.setCell (p := ⟨S + 1, 0, none⟩) (by show w.heap.size ≤ S + 1; rw [HS.out]; omega) _).setCell (p := ⟨S + 1, 1, none⟩) (by show w.heap.size ≤ S + 1; rw [HS.out]; omega) _).setCell (p := ⟨S + 1, 2, none⟩) (by show w.heap.size ≤ S + 1; rw [HS.out]; omega) _

theorem TyN.kid {w : World} {E : Nat} {t : Ty} {v : Value} (h : TyN w 0 E t v) (i : Nat) (hi : i < t.ks.length) : ∃ g o cap vi, v = .slice (some ⟨g, o, none⟩) t.ks.length cap ∧ g < w.heap.size ∧ g ≠ E ∧
    w.cell? ⟨g, o + i * 3, none⟩ = some (.int .i64 (t.ks.getD i Ty.dummy).k) ∧ w.cell? ⟨g, o + i * 3 + 1, none⟩ = some (.int .i64 (t.ks.getD i Ty.dummy).n) ∧ w.cell? ⟨g, o + i * 3 + 2, none⟩ = some vi ∧ TyN w 0 E (t.ks.getD i Ty.dummy) vi := by
  cases h with
  | bare k n a cap => exact absurd hi (Nat.not_lt_zero _)
  | row k n ks b o cap vs hb he hr hl h0 h1 h2 h3 => exact ⟨b, o, cap, vs i, rfl, hr.lt, he, h0 i hi, h1 i hi, h2 i hi, h3 i hi⟩
theorem ful_kids {B : Bn} {t u : Ty} (h : Ful B t u) (ht : Trm B t) (h4 : t.k ≠ 4) : u.k = t.k ∧ t.n = 0 ∧ u.n = 0 ∧ u.ks.length = t.ks.length ∧ ∀ i, i < t.ks.length → Ful B (t.ks.getD i Ty.dummy) (u.ks.getD i Ty.dummy) := by
  rcases ful_shape h ht with ⟨rfl, rfl⟩ | ⟨n, rfl, rfl, _⟩ | ⟨k, a, b, a', b', hk, rfl, rfl, ha, hb⟩
  · exact ⟨rfl, rfl, rfl, rfl, fun i hi => absurd hi (Nat.not_lt_zero _)⟩
  · exact absurd rfl h4
  · refine ⟨rfl, rfl, rfl, rfl, fun i hi => ?_⟩
    have hi : i < 2 := hi
    obtain rfl | rfl : i = 0 ∨ i = 1 := by omega
    · exact ha
    · exact hb
theorem wt_kid {N : Int} {t : Ty} (h : Wt N t) (i : Nat) (hi : i < t.ks.length) : Wt N (t.ks.getD i Ty.dummy) := by
  cases h with
  | num => exact absurd hi (Nat.not_lt_zero _)
  | var => exact absurd hi (Nat.not_lt_zero _)
  | join k a b hk ha hb =>
    have hi : i < 2 := hi
    obtain rfl | rfl : i = 0 ∨ i = 1 := by omega
    · exact ha
    · exact hb
theorem wt_len {N : Int} {t : Ty} (h : Wt N t) : t.ks.length ≤ 2 := by
  cases h with
  | num => exact Nat.zero_le _
  | var => exact Nat.zero_le _
  | join k a b hk ha hb => exact Nat.le_refl _
theorem occ_kids {N n : Int} {u : Ty} (hu : Wt N u) (h4 : u.k ≠ 4) : Occ n u ↔ ∃ i, i < u.ks.length ∧ Occ n (u.ks.getD i Ty.dummy) := by
  cases hu with
  | num => exact ⟨fun h => by (cases h), fun ⟨i, hi, _⟩ => absurd hi (Nat.not_lt_zero _)⟩
  | var => exact absurd rfl h4
  | join k a b hk ha hb =>
    constructor
    · intro h
      cases h with
      | left _ _ _ h => exact ⟨0, Nat.succ_pos _, h⟩
      | right _ _ _ h => exact ⟨1, Nat.lt_succ_self _, h⟩
    · rintro ⟨i, hi, h⟩
      have hi : i < 2 := hi
      obtain rfl | rfl : i = 0 ∨ i = 1 := by omega
      · exact .left _ _ _ h
      · exact .right _ _ _ h
open Classical in
/-- Whether a variable occurs. -/
noncomputable def occB (n : Int) (u : Ty) : Bool := decide (Occ n u)
open Classical in
theorem occB_iff {n : Int} {u : Ty} : occB n u = true ↔ Occ n u := by unfold occB; exact decide_eq_true_iff
theorem occB_yes {n : Int} {u : Ty} (h : Occ n u) : occB n u = true := occB_iff.2 h
theorem occB_no {n : Int} {u : Ty} (h : ¬ Occ n u) : occB n u = false := by
  rcases e : occB n u with _ | _
  · rfl
  · exact absurd (occB_iff.1 e) h
/-- A box behind the stores of three cells. -/
theorem oc_set3 {w : World} {S : Nat} {k n : Int} {v : Value} (h : OC w S k n v) (k' n' : Int) (v' : Value) : OC (((w.setCell ⟨S, 0, none⟩ (.int .i64 k')).setCell ⟨S, 1, none⟩ (.int .i64 n')).setCell ⟨S, 2, none⟩ v') S k' n' v' := ((h.set0 k').set1 n').set2 v'
theorem below_set3 {n0 : Nat} {a w : World} (h : Below n0 a w) {S : Nat} (hS : n0 ≤ S) (x y z : Value) : Below n0 a (((w.setCell ⟨S, 0, none⟩ x).setCell ⟨S, 1, none⟩ y).setCell ⟨S, 2, none⟩ z) :=
  ((h.setCell (p := ⟨S, 0, none⟩) hS _).setCell (p := ⟨S, 1, none⟩) hS _).setCell (p := ⟨S, 2, none⟩) hS _
theorem BAt.set3 {w0 w : World} {kb N : Nat} {B : Bn} {xs : List Value} (h : BAt w0 w kb N B xs) {S : Nat} (hS : kb ≠ S) (x y z : Value) : BAt w0 (((w.setCell ⟨S, 0, none⟩ x).setCell ⟨S, 1, none⟩ y).setCell ⟨S, 2, none⟩ z) kb N B xs := by
  refine ⟨?_, h.no, h.yes⟩
  obtain ⟨hl, h' | ⟨g, cap, cur, hg, hb', ho, h1, h2, h3, h4⟩⟩ := h.own
  · exact ⟨hl, .inl h'⟩
  · injection hg with hg _ _
    injection hg with hg
    injection hg with hg _ _
    subst hg
    refine ⟨hl, .inr ⟨kb, cap, cur, by simp; omega, hb', ?_, h1, h2, h3, h4⟩⟩
    rw [heap_setCell_other _ ⟨S, 2, none⟩ kb _ hS, heap_setCell_other _ ⟨S, 1, none⟩ kb _ hS, heap_setCell_other _ ⟨S, 0, none⟩ kb _ hS]; exact ho
set_option maxRecDepth 100000 in
set_option maxHeartbeats 4000000 in
theorem l2Occurs_any (w0 : World) (kb N : Nat) (B : Bn) (xs : List Value) (hB : BOK N B) (hN : N ≤ 100000) (n : Int) (m : Nat) : ∀ (t u : Ty) (v : Value) (w : World), SizeOf.sizeOf u < m → Ful B t u → Wt N t → TyN w0 0 kb t v → Inside kb (kb + 1) w0 w → BAt w0 w kb N B xs →
    Calls Try.prog 101 #[.int .i64 n, .agg #[.int .i64 t.k, .int .i64 t.n, v], .slice (some ⟨kb, 0, none⟩) N N] w fun e w' => e = .returned (.bool (occB n u)) ∧ Below w.heap.size w w' := by
  have HBK := Lib.hid hB
  clear hB
  induction m with
  | zero => intro t u v w h; exact absurd h (Nat.not_lt_zero _)
  | succ m ih =>
    intro t u v w hm hf ht hx hi hb
    have HIH := Lib.hid ih
    have HM := Lib.hid hm
    have HF := Lib.hid hf
    have HT := Lib.hid ht
    have HX := Lib.hid hx
    have HI := Lib.hid hi
    have HA0 := Lib.hid hb
    obtain ⟨S, hS⟩ : ∃ S, w.heap.size = S := ⟨_, rfl⟩
    have hkS : kb < S := by rw [← hS]; exact hb.lt
    obtain ⟨va, vc, hv⟩ := hx.slice
    clear ih hm hf ht hx hi hb
    subst hv
    obtain ⟨W1, hW1⟩ : ∃ W, w.alloc (.cells #[.int .i64 t.k, .int .i64 t.n, .slice va t.ks.length vc] 25) = W := ⟨_, rfl⟩
    have HB1 : Hid (Below w.heap.size w W1) := Lib.hid (by rw [← hW1]; exact (Below.refl _ _).alloc (Nat.le_refl _) _)
    have HO1 : Hid (OC W1 S t.k t.n (.slice va t.ks.length vc)) := Lib.hid (by rw [← hW1, ← hS]; exact oc_new w _ _ _ _)
    have HA1 := Lib.hid (HA0.out.kept HB1.out)
    have HW1 := Lib.hid hW1
    have HS := Lib.hid hS
    clear hW1
    go_enter Try.func101, Try.ntmps101
    go_wp2_with fail
    rw [HW1.out]
    clear hS
    try rw [HS.out]
    obtain ⟨x0, x1, x2, f0, f1, f2, xz⟩ := HO1.out
    go_at_call 100
    refine (l2Walk_any w0 kb N B xs HBK.out hN t _ _ HT.out HX.out HA1.out).mono ?_
    rintro e w2 ⟨t', v', rfl, hwk, htr, hx', hb2⟩
    have HF2 := Lib.hid (hwk.ful HF.out)
    have HT2 := Lib.hid (hwk.wt HBK.out HT.out)
    have HTR := Lib.hid htr
    have HX2 := Lib.hid hx'
    obtain ⟨a', c', rfl⟩ := hx'.slice
    have HO2 := Lib.hid (HO1.out.kept hb2)
    have HB2 := Lib.hid (HB1.out.trans (hb2.mono HB1.out.size))
    have HA2 := Lib.hid (HA1.out.kept hb2)
    clear hwk htr hx' hb2 x0 x1 x2 f0 f1 f2 xz
    obtain ⟨x0, x1, x2, f0, f1, f2, xz⟩ := HO2.out
    obtain ⟨kk, hkk⟩ : ∃ n, t'.k = n := ⟨_, rfl⟩
    obtain ⟨nn, hnn⟩ : ∃ n, t'.n = n := ⟨_, rfl⟩
    obtain ⟨L, hL⟩ : ∃ n, t'.ks.length = n := ⟨_, rfl⟩
    have HKK := Lib.hid hkk
    have HNN := Lib.hid hnn
    have HL := Lib.hid hL
    rw [hkk, hnn, hL]
    rw [hL] at HX2
    have hL2 : L ≤ 2 := by rw [← hL]; exact wt_len HT2.out
    clear hkk hnn hL
    obtain ⟨W3, hW3⟩ : ∃ W, ((w2.setCell ⟨S, 0, none⟩ (.int .i64 kk)).setCell ⟨S, 1, none⟩ (.int .i64 nn)).setCell ⟨S, 2, none⟩ (.slice a' L c') = W := ⟨_, rfl⟩
    have HO3 : Hid (OC W3 S kk nn (.slice a' L c')) := Lib.hid (by rw [← hW3]; exact oc_set3 HO2.out _ _ _)
    have HB3 : Hid (Below w.heap.size w W3) := Lib.hid (by rw [← hW3]; exact below_set3 HB2.out (by rw [HS.out]; omega) _ _ _)
    have HA3 : Hid (BAt w0 W3 kb N B xs) := Lib.hid (by rw [← hW3]; exact HA2.out.set3 (by omega) _ _ _)
    have HI3 : Hid (Inside kb (kb + 1) w0 W3) := Lib.hid (HI.out.trans (in_below HB3.out))
    by_cases h4 : kk = 4
    · have HU : Hid (u = .node 4 nn []) := Lib.hid (by
        rcases ful_shape HF2.out HTR.out with ⟨e, _⟩ | ⟨q, e, eu, _⟩ | ⟨k, x, y, x', y', hk, e, _⟩
        · have := HKK.out; rw [e] at this; have : (1 : Int) = kk := this; omega
        · rw [eu]; have := HNN.out; rw [e] at this; rw [show nn = q from this.symm]
        · have := HKK.out; rw [e] at this; have : k = kk := this; omega)
      have HR : Hid ((nn == n) = occB n u) := Lib.hid (by
        rw [HU.out]
        by_cases e : nn = n
        · subst e; rw [occB_yes .var]; simp
        · rw [occB_no (fun h => by cases h; exact e rfl)]; simpa using e)
      subst h4
      obtain ⟨y0, y1, y2, g0, g1, g2, yz⟩ := HO3.out
      go_wp2_with fail
      go_ret
      exact ⟨ret_bz HR.out, HB3.out⟩
    · have e4 : (kk == 4) = false := by simpa using h4
      have H4 := Lib.hid h4
      have HFK := Lib.hid (ful_kids HF2.out HTR.out (by rw [HKK.out]; exact h4))
      clear h4
      obtain ⟨y0, y1, y2, g0, g1, g2, yz⟩ := HO3.out
      go_wp2_with fail
      clear hW3 y0 y1 y2 g0 g1 g2 yz x0 x1 x2 f0 f1 f2 xz
      go_loopw [7] (fun i wr => ∃ j : Nat, j ≤ L ∧ i = .int .i64 j ∧ Hid (OC wr S kk nn (.slice a' L c')) ∧ Hid (Below w.heap.size w wr) ∧ Hid (BAt w0 wr kb N B xs) ∧ Hid (∀ q, q < j → ¬ Occ n (u.ks.getD q Ty.dummy))) (fun i _ => L - (intOf i).toNat)
      case atStart => exact ⟨0, Nat.zero_le _, rfl, HO3, HB3, HA3, Lib.hid (fun q hq => absurd hq (Nat.not_lt_zero _))⟩
      case round =>
        obtain ⟨j, hj, rfl, hoc, hbe, hba, hpre⟩ := hrel
        obtain ⟨y0, y1, y2, g0, g1, g2, yz⟩ := hoc.out
        by_cases hlt : j < L
        · have hji : (j : Int) < (L : Int) := by omega
          have hjt : j < t'.ks.length := by rw [HL.out]; exact hlt
          have hju : j < u.ks.length := by rw [HFK.out.2.2.2.1]; exact hjt
          have hxl := HX2.out
          rw [← HL.out] at hxl
          obtain ⟨g, o, cap, vi, ex, gl, gk, z0, z1, z2, hkid⟩ := hxl.kid j hjt
          have ex1 : a' = some ⟨g, o, none⟩ := by injection ex
          subst ex1
          have HIR := Lib.hid (HI.out.trans (in_below (lo := kb) (hi := kb + 1) hbe.out))
          have hge := HIR.out.block g gl (by omega)
          replace z0 := (cellEq hge).trans z0
          replace z1 := (cellEq hge).trans z1
          replace z2 := (cellEq hge).trans z2
          have HFJ := Lib.hid (HFK.out.2.2.2.2 j hjt)
          have HWJ := Lib.hid (wt_kid HT2.out j hjt)
          have HSZ : Hid (SizeOf.sizeOf (u.ks.getD j Ty.dummy) < m) := Lib.hid (by have := Ty.kid_lt u j hju; have := HM.out; omega)
          have HJU := Lib.hid hju
          obtain ⟨x, hxx⟩ : ∃ x, t'.ks.getD j Ty.dummy = x := ⟨_, rfl⟩
          obtain ⟨y, hyy⟩ : ∃ y, u.ks.getD j Ty.dummy = y := ⟨_, rfl⟩
          have HYY := Lib.hid hyy
          rw [hxx] at z0 z1 hkid HFJ HWJ
          rw [hyy] at HFJ HSZ
          have HKID := Lib.hid hkid
          obtain ⟨ai, ci, rfl⟩ := hkid.slice
          clear hxl ex gl gk hkid hxx hyy hjt hju hge
          rcases ho : occB n y with _ | _
          · have HOC := Lib.hid ho
            have HPRE : Hid (∀ q, q < j + 1 → ¬ Occ n (u.ks.getD q Ty.dummy)) := Lib.hid (fun q hq => by
              by_cases e : q = j
              · rw [e, HYY.out]; intro h; rw [occB_yes h] at ho; cases ho
              · exact hpre.out q (by omega))
            clear ho
            go_wp2_with fail
            go_at_call 101
            refine (HIH.out x y _ _ HSZ.out HFJ.out HWJ.out HKID.out HIR.out hba.out).mono ?_
            rintro e w5 ⟨rfl, hb5⟩
            rw [HOC.out]
            have HO5 := Lib.hid (hoc.out.kept hb5)
            have HB5 := Lib.hid (hbe.out.trans (hb5.mono hbe.out.size))
            have HA5 := Lib.hid (hba.out.kept hb5)
            clear hb5
            go_wp2_with fail
            go_roundw
            case rel => exact ⟨j + 1, by omega, by go_num, HO5, HB5, HA5, HPRE⟩
            case measure => simp [intOf]; omega
          · have HOC := Lib.hid ho
            have HR : Hid (occB n u = true) := Lib.hid (occB_yes ((occ_kids (ful_wt HBK.out HF2.out HT2.out).1 (by rw [HFK.out.1, HKK.out]; exact H4.out)).2 ⟨j, HJU.out, by rw [HYY.out]; exact occB_iff.1 ho⟩))
            clear ho
            go_wp2_with fail
            go_at_call 101
            refine (HIH.out x y _ _ HSZ.out HFJ.out HWJ.out HKID.out HIR.out hba.out).mono ?_
            rintro e w5 ⟨rfl, hb5⟩
            rw [HOC.out]
            have HB5 := Lib.hid (hbe.out.trans (hb5.mono hbe.out.size))
            clear hb5
            go_wp2_with fail
            go_ret
            exact ⟨ret_bz HR.out.symm, HB5.out⟩
        · have hji : ¬ (j : Int) < (L : Int) := by omega
          have hjl : j = L := by omega
          have HR : Hid (occB n u = false) := Lib.hid (occB_no (fun h => by
            obtain ⟨i, hi, hoi⟩ := (occ_kids (ful_wt HBK.out HF2.out HT2.out).1 (by rw [HFK.out.1, HKK.out]; exact H4.out)).1 h
            exact hpre.out i (by rw [HFK.out.2.2.2.1, HL.out] at hi; omega) hoi))
          clear hlt hjl
          go_wp2_with fail
          go_ret
          exact ⟨ret_bz HR.out.symm, hbe.out⟩

end Go.Proofs.Ytndpoejohpmifaa

namespace Go.Proofs.Ytndpoejohpmifaa
open Go.RowKit
set_option linter.unusedVariables false
set_option linter.unusedSimpArgs false

theorem oc_other3 {w : World} {E S : Nat} {k n : Int} {v : Value} (h : OC w E k n v) (hne : E ≠ S) (x y z : Value) : OC (((w.setCell ⟨S, 0, none⟩ x).setCell ⟨S, 1, none⟩ y).setCell ⟨S, 2, none⟩ z) E k n v :=
  h.keep (by simp) (by rw [heap_setCell_other _ ⟨S, 2, none⟩ E _ hne, heap_setCell_other _ ⟨S, 1, none⟩ E _ hne, heap_setCell_other _ ⟨S, 0, none⟩ E _ hne])
def UnPost (w0 : World) (kb N : Nat) (B : Bn) (a b : Ty) (w : World) (e : Ending) (w' : World) : Prop := ∃ (r : Bool) (B' : Bn) (xs' : List Value), e = .returned (.bool r) ∧ UniOk N B B' a b r ∧ BAt w0 w' kb N B' xs' ∧ Inside kb (kb + 1) w w'
set_option maxRecDepth 100000 in
set_option maxHeartbeats 8000000 in
theorem l2Unify_var (w0 : World) (kb N : Nat) (B : Bn) (xs : List Value) (hB : BOK N B) (hN : N ≤ 100000) (q : Nat) (hq : q < N) (a b : Ty) (va vb : Value) (w : World) (hfa : Ful B a (.node 4 (q : Int) [])) (hwa : Wt N a) (hwb : Wt N b) (hxa : TyN w0 0 kb a va) (hxb : TyN w0 0 kb b vb) (hi : Inside kb (kb + 1) w0 w) (hba : BAt w0 w kb N B xs) :
    Calls Try.prog 65 #[.agg #[.int .i64 a.k, .int .i64 a.n, va], .agg #[.int .i64 b.k, .int .i64 b.n, vb], .slice (some ⟨kb, 0, none⟩) N N] w (UnPost w0 kb N B a b w) := by
  have HBK := Lib.hid hB
  have HFA := Lib.hid hfa
  have HQ := Lib.hid hq
  clear hB hfa
  obtain ⟨S, hS⟩ : ∃ S, w.heap.size = S := ⟨_, rfl⟩
  have hkS : kb < S := by rw [← hS]; exact hba.lt
  have HXA := Lib.hid hxa
  have HXB := Lib.hid hxb
  have HWA := Lib.hid hwa
  have HWB := Lib.hid hwb
  have HI := Lib.hid hi
  have HA0 := Lib.hid hba
  obtain ⟨av, ac, hav⟩ := hxa.slice
  obtain ⟨bv, bc, hbv⟩ := hxb.slice
  clear hxa hxb hwa hwb hi hba
  subst hav
  subst hbv
  obtain ⟨W1, hW1⟩ : ∃ W, (w.alloc (.cells #[.int .i64 a.k, .int .i64 a.n, .slice av a.ks.length ac] 25)).alloc (.cells #[.int .i64 b.k, .int .i64 b.n, .slice bv b.ks.length bc] 25) = W := ⟨_, rfl⟩
  have HB1 : Hid (Below w.heap.size w W1) := Lib.hid (by rw [← hW1]; exact ((Below.refl _ _).alloc (Nat.le_refl _) _).alloc (by simp) _)
  have HO1 : Hid (OC W1 S a.k a.n (.slice av a.ks.length ac)) := Lib.hid (by rw [← hW1, ← hS]; exact (oc_new w _ _ _ _).kept ((Below.refl _ _).alloc (Nat.le_refl _) _))
  have HP1 : Hid (OC W1 (S + 1) b.k b.n (.slice bv b.ks.length bc)) := Lib.hid (by
    have h := oc_new (w.alloc (.cells #[.int .i64 a.k, .int .i64 a.n, .slice av a.ks.length ac] 25)) b.k b.n (.slice bv b.ks.length bc) 25
    rw [hW1, sizeA', hS] at h; exact h)
  have HA1 := Lib.hid (HA0.out.kept HB1.out)
  have HW1 := Lib.hid hW1
  have HS := Lib.hid hS
  clear hW1
  go_enter Try.func65, Try.ntmps65
  go_wp2_with fail
  rw [HW1.out]
  clear hS
  try rw [HS.out]
  go_at_call 100
  refine (l2Walk_any w0 kb N B xs HBK.out hN a _ _ HWA.out HXA.out HA1.out).mono ?_
  rintro e w2 ⟨t1, v1, rfl, hwk1, htr1, hx1, hb2⟩
  have HWK1 := Lib.hid hwk1
  have HT1 := Lib.hid (hwk1.wt HBK.out HWA.out)
  have HTR1 := Lib.hid htr1
  have HX1 := Lib.hid hx1
  obtain ⟨a1, c1, rfl⟩ := hx1.slice
  have HO2 := Lib.hid (HO1.out.kept hb2)
  have HP2 := Lib.hid (HP1.out.kept hb2)
  have HB2 := Lib.hid (HB1.out.trans (hb2.mono HB1.out.size))
  have HA2 := Lib.hid (HA1.out.kept hb2)
  clear hwk1 htr1 hx1 hb2
  obtain ⟨k1, hk1⟩ : ∃ n, t1.k = n := ⟨_, rfl⟩
  obtain ⟨n1, hn1⟩ : ∃ n, t1.n = n := ⟨_, rfl⟩
  obtain ⟨L1, hL1⟩ : ∃ n, t1.ks.length = n := ⟨_, rfl⟩
  have HK1 := Lib.hid hk1
  have HN1 := Lib.hid hn1
  have HL1 := Lib.hid hL1
  rw [hk1, hn1, hL1]
  rw [hL1] at HX1
  clear hk1 hn1 hL1
  obtain ⟨W3, hW3⟩ : ∃ W, ((w2.setCell ⟨S, 0, none⟩ (.int .i64 k1)).setCell ⟨S, 1, none⟩ (.int .i64 n1)).setCell ⟨S, 2, none⟩ (.slice a1 L1 c1) = W := ⟨_, rfl⟩
  have HO3 : Hid (OC W3 S k1 n1 (.slice a1 L1 c1)) := Lib.hid (by rw [← hW3]; exact oc_set3 HO2.out _ _ _)
  have HP3 : Hid (OC W3 (S + 1) b.k b.n (.slice bv b.ks.length bc)) := Lib.hid (by rw [← hW3]; exact oc_other3 HP2.out (by omega) _ _ _)
  have HB3 : Hid (Below w.heap.size w W3) := Lib.hid (by rw [← hW3]; exact below_set3 HB2.out (by rw [HS.out]; omega) _ _ _)
  have HA3 : Hid (BAt w0 W3 kb N B xs) := Lib.hid (by rw [← hW3]; exact HA2.out.set3 (by omega) _ _ _)
  obtain ⟨x0, x1, x2, f0, f1, f2, xz⟩ := HO2.out
  obtain ⟨y0, y1, y2, g0, g1, g2, yz⟩ := HP3.out
  go_wp2_with fail
  clear hW3 x0 x1 x2 f0 f1 f2 xz y0 y1 y2 g0 g1 g2 yz
  go_at_call 100
  refine (l2Walk_any w0 kb N B xs HBK.out hN b _ _ HWB.out HXB.out HA3.out).mono ?_
  rintro e w4 ⟨t2, v2, rfl, hwk2, htr2, hx2, hb4⟩
  have HWK2 := Lib.hid hwk2
  have HT2 := Lib.hid (hwk2.wt HBK.out HWB.out)
  have HTR2 := Lib.hid htr2
  have HX2 := Lib.hid hx2
  obtain ⟨a2, c2, rfl⟩ := hx2.slice
  have HO4 := Lib.hid (HO3.out.kept hb4)
  have HP4 := Lib.hid (HP3.out.kept hb4)
  have HB4 := Lib.hid (HB3.out.trans (hb4.mono HB3.out.size))
  have HA4 := Lib.hid (HA3.out.kept hb4)
  clear hwk2 htr2 hx2 hb4
  obtain ⟨k2, hk2⟩ : ∃ n, t2.k = n := ⟨_, rfl⟩
  obtain ⟨n2, hn2⟩ : ∃ n, t2.n = n := ⟨_, rfl⟩
  obtain ⟨L2, hL2⟩ : ∃ n, t2.ks.length = n := ⟨_, rfl⟩
  have HK2 := Lib.hid hk2
  have HN2 := Lib.hid hn2
  have HL2 := Lib.hid hL2
  rw [hk2, hn2, hL2]
  rw [hL2] at HX2
  clear hk2 hn2 hL2
  obtain ⟨W5, hW5⟩ : ∃ W, ((w4.setCell ⟨S + 1, 0, none⟩ (.int .i64 k2)).setCell ⟨S + 1, 1, none⟩ (.int .i64 n2)).setCell ⟨S + 1, 2, none⟩ (.slice a2 L2 c2) = W := ⟨_, rfl⟩
  have HP5 : Hid (OC W5 (S + 1) k2 n2 (.slice a2 L2 c2)) := Lib.hid (by rw [← hW5]; exact oc_set3 HP4.out _ _ _)
  have HO5 : Hid (OC W5 S k1 n1 (.slice a1 L1 c1)) := Lib.hid (by rw [← hW5]; exact oc_other3 HO4.out (by omega) _ _ _)
  have HB5 : Hid (Below w.heap.size w W5) := Lib.hid (by rw [← hW5]; exact below_set3 HB4.out (by rw [HS.out]; omega) _ _ _)
  have HA5 : Hid (BAt w0 W5 kb N B xs) := Lib.hid (by rw [← hW5]; exact HA4.out.set3 (by omega) _ _ _)
  have HI5 : Hid (Inside kb (kb + 1) w0 W5) := Lib.hid (HI.out.trans (in_below HB5.out))
  obtain ⟨p0, p1, p2, q0, q1, q2, pz⟩ := HP4.out
  obtain ⟨x0, x1, x2, f0, f1, f2, xz⟩ := HO5.out
  obtain ⟨y0, y1, y2, g0, g1, g2, yz⟩ := HP5.out
  obtain ⟨u2, hu2⟩ := ful_exists HBK.out HT2.out
  have HU2 := Lib.hid hu2
  clear hu2
  have HT1E : Hid (t1 = .node 4 (q : Int) [] ∧ B (q : Int) = none) := Lib.hid (by
    rcases ful_shape (HWK1.out.ful HFA.out) HTR1.out with ⟨_, e⟩ | ⟨z, e, e2, hz⟩ | ⟨k, x, y, x', y', hk, _, e, _⟩
    · injection e with e; omega
    · injection e2 with _ e2 _; subst e2; exact ⟨e, hz⟩
    · injection e with e; omega)
  have hk1e : k1 = 4 := by have := HK1.out; rw [HT1E.out.1] at this; exact this.symm
  have hn1e : n1 = (q : Int) := by have := HN1.out; rw [HT1E.out.1] at this; exact this.symm
  subst hk1e
  subst hn1e
  by_cases hsame : k2 = 4 ∧ n2 = (q : Int)
  · have HR : Hid (UniOk N B B a b true) := Lib.hid (by
      have e2 : t2 = t1 := by
        rw [HT1E.out.1]
        rcases ful_shape HU2.out HTR2.out with ⟨e, _⟩ | ⟨z, e, _, _⟩ | ⟨k, x, y, x', y', hk, e, _⟩
        · have h := HK2.out; rw [e] at h; have h : (1 : Int) = k2 := h; omega
        · have h := HN2.out; rw [e] at h; have h : z = n2 := h; rw [e, h, hsame.2]
        · have h := HK2.out; rw [e] at h; have h : k = k2 := h; omega
      have h := uni_same HBK.out t1
      exact UniOk.wk HWK1.out (by rw [← e2]; exact HWK2.out) h)
    obtain ⟨e4, en⟩ := hsame
    subst e4
    subst en
    go_wp2_with fail
    go_ret
    exact ⟨true, B, xs, rfl, HR.out, HA5.out, in_below HB5.out⟩
  have hkz : k2 ≠ 4 ∨ n2 ≠ (q : Int) := by
    by_cases e : k2 = 4
    · exact .inr (fun e2 => hsame ⟨e, e2⟩)
    · exact .inl e
  have HNS : Hid (Occ (q : Int) u2 → u2.k ≠ 4) := Lib.hid (fun ho h4 => by
    rcases ful_shape HU2.out HTR2.out with ⟨_, e⟩ | ⟨z, e, e2, _⟩ | ⟨k, x, y, x', y', hk, _, e, _⟩
    · rw [e] at h4; have h4 : (1 : Int) = 4 := h4; omega
    · rw [e2] at ho
      cases ho
      refine hsame ⟨?_, ?_⟩
      · have h := HK2.out; rw [e] at h; exact h.symm
      · have h := HN2.out; rw [e] at h; exact h.symm
    · rw [e] at h4; have h4 : k = 4 := h4; omega)
  have HC : Hid (((4 : Int) == 4) = true) := Lib.hid rfl
  clear hsame
  rcases ho : occB (q : Int) u2 with _ | _
  · have HOC := Lib.hid ho
    have hno : ¬ Occ (q : Int) u2 := fun h => by rw [occB_yes h] at ho; cases ho
    have HR : Hid (UniOk N B (bput B (q : Int) t2) a b true) := Lib.hid (by
      have h := uni_bind HBK.out HQ.out HT1E.out.2 HT2.out HU2.out hno
      exact UniOk.wk (by rw [← HT1E.out.1]; exact HWK1.out) HWK2.out h)
    have hqN : (q : Int) < (N : Int) := by omega
    clear ho hno
    by_cases hk4 : k2 = 4
    · have e5 : ((q : Int) == n2) = false := by
        rcases hkz with h | h
        · exact absurd hk4 h
        · simpa using fun e : (q : Int) = n2 => h e.symm
      subst hk4
      clear hkz
      go_wp2_with fail
      clear hW5 p0 p1 p2 q0 q1 q2 pz
      have hocc := l2Occurs_any w0 kb N B xs HBK.out hN (q : Int) _ t2 u2 _ W5 (Nat.lt_succ_self _) HU2.out HT2.out HX2.out HI5.out HA5.out
      rw [HK2.out, HN2.out, HOC.out] at hocc
      go_at_call 101
      refine hocc.mono ?_
      rintro e w6 ⟨rfl, hb6⟩
      have HO6 := Lib.hid (HO5.out.kept hb6)
      have HP6 := Lib.hid (HP5.out.kept hb6)
      have HB6 := Lib.hid (HB5.out.trans (hb6.mono HB5.out.size))
      have HA6 := Lib.hid (HA5.out.kept hb6)
      clear hb6 x0 x1 x2 f0 f1 f2 xz y0 y1 y2 g0 g1 g2 yz
      obtain ⟨x0, x1, x2, f0, f1, f2, xz⟩ := HO6.out
      obtain ⟨y0, y1, y2, g0, g1, g2, yz⟩ := HP6.out
      have hq0 : q * 3 < xs.length := by rw [HA6.out.len]; omega
      have hq1 : q * 3 + 1 < xs.length := by rw [HA6.out.len]; omega
      have hq2 : q * 3 + 2 < xs.length := by rw [HA6.out.len]; omega
      have z0 := (HA6.out.at (i := q * 3) (by omega)).trans (List.getElem?_eq_getElem hq0)
      have z1 := (HA6.out.at (i := q * 3 + 1) (by omega)).trans (List.getElem?_eq_getElem hq1)
      have z2 := (HA6.out.at (i := q * 3 + 2) (by omega)).trans (List.getElem?_eq_getElem hq2)
      generalize xs[q * 3] = o0 at z0
      generalize xs[q * 3 + 1] = o1 at z1
      generalize xs[q * 3 + 2] = o2 at z2
      have m0 := World.ownsRow.frozenAt HA6.out.own (q * 3)
      have m1 := World.ownsRow.frozenAt HA6.out.own (q * 3 + 1)
      have m2 := World.ownsRow.frozenAt HA6.out.own (q * 3 + 2)
      obtain ⟨xs', hput⟩ := HA6.out.put (t := t2) (v := .slice a2 L2 c2) hq (HX2.out)
      rw [HK2.out, HN2.out] at hput
      have HPUT := Lib.hid hput
      clear hq0 hq1 hq2 hput
      go_wp2_with fail
      go_ret
      exact ⟨true, _, xs', rfl, HR.out, HPUT.out, (in_below HB6.out).trans (((Mx.set_in _).trans (Mx.set_in _)).trans (Mx.set_in _))⟩
    · have e4 : (k2 == 4) = false := by simpa using hk4
      clear hkz hk4
      go_wp2_with fail
      clear hW5 p0 p1 p2 q0 q1 q2 pz
      have hocc := l2Occurs_any w0 kb N B xs HBK.out hN (q : Int) _ t2 u2 _ W5 (Nat.lt_succ_self _) HU2.out HT2.out HX2.out HI5.out HA5.out
      rw [HK2.out, HN2.out, HOC.out] at hocc
      go_at_call 101
      refine hocc.mono ?_
      rintro e w6 ⟨rfl, hb6⟩
      have HO6 := Lib.hid (HO5.out.kept hb6)
      have HP6 := Lib.hid (HP5.out.kept hb6)
      have HB6 := Lib.hid (HB5.out.trans (hb6.mono HB5.out.size))
      have HA6 := Lib.hid (HA5.out.kept hb6)
      clear hb6 x0 x1 x2 f0 f1 f2 xz y0 y1 y2 g0 g1 g2 yz
      obtain ⟨x0, x1, x2, f0, f1, f2, xz⟩ := HO6.out
      obtain ⟨y0, y1, y2, g0, g1, g2, yz⟩ := HP6.out
      have hq0 : q * 3 < xs.length := by rw [HA6.out.len]; omega
      have hq1 : q * 3 + 1 < xs.length := by rw [HA6.out.len]; omega
      have hq2 : q * 3 + 2 < xs.length := by rw [HA6.out.len]; omega
      have z0 := (HA6.out.at (i := q * 3) (by omega)).trans (List.getElem?_eq_getElem hq0)
      have z1 := (HA6.out.at (i := q * 3 + 1) (by omega)).trans (List.getElem?_eq_getElem hq1)
      have z2 := (HA6.out.at (i := q * 3 + 2) (by omega)).trans (List.getElem?_eq_getElem hq2)
      generalize xs[q * 3] = o0 at z0
      generalize xs[q * 3 + 1] = o1 at z1
      generalize xs[q * 3 + 2] = o2 at z2
      have m0 := World.ownsRow.frozenAt HA6.out.own (q * 3)
      have m1 := World.ownsRow.frozenAt HA6.out.own (q * 3 + 1)
      have m2 := World.ownsRow.frozenAt HA6.out.own (q * 3 + 2)
      obtain ⟨xs', hput⟩ := HA6.out.put (t := t2) (v := .slice a2 L2 c2) hq (HX2.out)
      rw [HK2.out, HN2.out] at hput
      have HPUT := Lib.hid hput
      clear hq0 hq1 hq2 hput
      go_wp2_with fail
      go_ret
      exact ⟨true, _, xs', rfl, HR.out, HPUT.out, (in_below HB6.out).trans (((Mx.set_in _).trans (Mx.set_in _)).trans (Mx.set_in _))⟩
  · have HOC := Lib.hid ho
    have HR : Hid (UniOk N B B a b false) := Lib.hid (by
      have h1 := occB_iff.1 ho
      have h := uni_occ (N := N) HBK.out HT2.out HU2.out (HNS.out h1) h1
      exact UniOk.wk (by rw [← HT1E.out.1]; exact HWK1.out) HWK2.out h)
    clear ho
    by_cases hk4 : k2 = 4
    · have e5 : ((q : Int) == n2) = false := by
        rcases hkz with h | h
        · exact absurd hk4 h
        · simpa using fun e : (q : Int) = n2 => h e.symm
      subst hk4
      clear hkz
      go_wp2_with fail
      clear hW5 p0 p1 p2 q0 q1 q2 pz
      have hocc := l2Occurs_any w0 kb N B xs HBK.out hN (q : Int) _ t2 u2 _ W5 (Nat.lt_succ_self _) HU2.out HT2.out HX2.out HI5.out HA5.out
      rw [HK2.out, HN2.out, HOC.out] at hocc
      go_at_call 101
      refine hocc.mono ?_
      rintro e w6 ⟨rfl, hb6⟩
      have HO6 := Lib.hid (HO5.out.kept hb6)
      have HP6 := Lib.hid (HP5.out.kept hb6)
      have HB6 := Lib.hid (HB5.out.trans (hb6.mono HB5.out.size))
      have HA6 := Lib.hid (HA5.out.kept hb6)
      clear hb6 x0 x1 x2 f0 f1 f2 xz y0 y1 y2 g0 g1 g2 yz
      obtain ⟨x0, x1, x2, f0, f1, f2, xz⟩ := HO6.out
      obtain ⟨y0, y1, y2, g0, g1, g2, yz⟩ := HP6.out
      go_wp2_with fail
      go_ret
      exact ⟨false, B, xs, rfl, HR.out, HA6.out, in_below HB6.out⟩
    · have e4 : (k2 == 4) = false := by simpa using hk4
      clear hkz hk4
      go_wp2_with fail
      clear hW5 p0 p1 p2 q0 q1 q2 pz
      have hocc := l2Occurs_any w0 kb N B xs HBK.out hN (q : Int) _ t2 u2 _ W5 (Nat.lt_succ_self _) HU2.out HT2.out HX2.out HI5.out HA5.out
      rw [HK2.out, HN2.out, HOC.out] at hocc
      go_at_call 101
      refine hocc.mono ?_
      rintro e w6 ⟨rfl, hb6⟩
      have HO6 := Lib.hid (HO5.out.kept hb6)
      have HP6 := Lib.hid (HP5.out.kept hb6)
      have HB6 := Lib.hid (HB5.out.trans (hb6.mono HB5.out.size))
      have HA6 := Lib.hid (HA5.out.kept hb6)
      clear hb6 x0 x1 x2 f0 f1 f2 xz y0 y1 y2 g0 g1 g2 yz
      obtain ⟨x0, x1, x2, f0, f1, f2, xz⟩ := HO6.out
      obtain ⟨y0, y1, y2, g0, g1, g2, yz⟩ := HP6.out
      go_wp2_with fail
      go_ret
      exact ⟨false, B, xs, rfl, HR.out, HA6.out, in_below HB6.out⟩

/-- Where the loop over the operands stands. -/
structure Pfx (N : Nat) (B B1 : Bn) (t1 t2 : Ty) (j : Nat) : Prop where
  ok : BOK N B1
  fewer : B1 = B ∨ fr N B1 < fr N B
  zero : j = 0 → B1 = B
  one : j = 1 → UniOk N B B1 (t1.ks.getD 0 Ty.dummy) (t2.ks.getD 0 Ty.dummy) true
  two : j = 2 → UniOk N B B1 t1 t2 true
theorem Pfx.start {N : Nat} {B : Bn} (hB : BOK N B) (t1 t2 : Ty) : Pfx N B B t1 t2 0 := ⟨hB, .inl rfl, fun _ => rfl, fun h => by omega, fun h => by omega⟩
theorem wt_form {N : Int} {t : Ty} (h : Wt N t) (h4 : t.k ≠ 4) : (t = .node 1 0 []) ∨ ∃ k a b, (k = 2 ∨ k = 3) ∧ t = .node k 0 [a, b] := by
  cases h with
  | num => exact .inl rfl
  | var => exact absurd rfl h4
  | join k a b hk _ _ => exact .inr ⟨k, a, b, hk, rfl⟩
theorem Pfx.step {N : Nat} {B B1 B2 : Bn} {t1 t2 : Ty} {j : Nat} {r : Bool} (h : Pfx N B B1 t1 t2 j) (w1 : Wt N t1) (w2 : Wt N t2) (k4 : t1.k ≠ 4) (hk : t1.k = t2.k) (hj : j < t1.ks.length) (hu : UniOk N B1 B2 (t1.ks.getD j Ty.dummy) (t2.ks.getD j Ty.dummy) r) :
    (r = true → Pfx N B B2 t1 t2 (j + 1)) ∧ (r = false → UniOk N B B2 t1 t2 false) := by
  have few : B2 = B ∨ fr N B2 < fr N B := by
    rcases hu.fewer with rfl | e2
    · exact h.fewer
    · rcases h.fewer with rfl | e1
      · exact .inr e2
      · exact .inr (Nat.lt_trans e2 e1)
  rcases wt_form w1 k4 with rfl | ⟨k, a, b, hk2, rfl⟩
  · exact absurd hj (Nat.not_lt_zero _)
  rcases wt_form w2 (by rw [← hk]; exact k4) with rfl | ⟨k', a', b', hk3, rfl⟩
  · have e : k = 1 := hk; omega
  have e : k = k' := hk
  subst e
  have hj : j < 2 := hj
  obtain rfl | rfl : j = 0 ∨ j = 1 := by omega
  · have e0 := h.zero rfl
    subst e0
    exact ⟨fun e => ⟨hu.ok, few, fun h => by omega, fun _ => by rw [← e]; exact hu, fun h => by omega⟩, fun e => uni_join_no hk2 (by rw [← e]; exact hu)⟩
  · have h1 := h.one rfl
    have h2 := uni_join hk2 h1 hu
    exact ⟨fun e => ⟨hu.ok, few, fun h => by omega, fun h => by omega, fun _ => by rw [← e]; exact h2⟩, fun e => by rw [← e]; exact h2⟩
theorem Pfx.done {N : Nat} {B B1 : Bn} {t1 t2 : Ty} (hB : BOK N B) (h : Pfx N B B1 t1 t2 t1.ks.length) (w1 : Wt N t1) (w2 : Wt N t2) (k4 : t1.k ≠ 4) (hk : t1.k = t2.k) : UniOk N B B1 t1 t2 true := by
  rcases wt_form w1 k4 with rfl | ⟨k, a, b, hk2, rfl⟩
  · rcases wt_form w2 (by rw [← hk]; exact k4) with rfl | ⟨k', a', b', hk3, rfl⟩
    · rw [h.zero rfl]; exact uni_same hB _
    · have e : 1 = k' := hk; omega
  · exact h.two rfl
theorem wt_same_len {N : Int} {t1 t2 : Ty} (w1 : Wt N t1) (w2 : Wt N t2) (k4 : t1.k ≠ 4) (hk : t1.k = t2.k) : t1.ks.length = t2.ks.length := by
  rcases wt_form w1 k4 with rfl | ⟨k, a, b, hk2, rfl⟩
  · rcases wt_form w2 (by rw [← hk]; exact k4) with rfl | ⟨k', a', b', hk3, rfl⟩
    · rfl
    · have e : 1 = k' := hk; omega
  · rcases wt_form w2 (by rw [← hk]; exact k4) with rfl | ⟨k', a', b', hk3, rfl⟩
    · have e : k = 1 := hk; omega
    · rfl
set_option maxRecDepth 100000 in
set_option maxHeartbeats 8000000 in
theorem l2Unify_any (w0 : World) (kb N : Nat) (hN : N ≤ 100000) : ∀ (F m : Nat) (B : Bn) (xs : List Value) (a b ua : Ty) (va vb : Value) (w : World), fr N B < F → SizeOf.sizeOf ua < m → Ful B a ua → BOK N B → Wt N a → Wt N b → TyN w0 0 kb a va → TyN w0 0 kb b vb → Inside kb (kb + 1) w0 w → BAt w0 w kb N B xs →
    Calls Try.prog 65 #[.agg #[.int .i64 a.k, .int .i64 a.n, va], .agg #[.int .i64 b.k, .int .i64 b.n, vb], .slice (some ⟨kb, 0, none⟩) N N] w (UnPost w0 kb N B a b w) := by
  intro F
  induction F with
  | zero => intro m B xs a b ua va vb w h; exact absurd h (Nat.not_lt_zero _)
  | succ F ihF =>
    intro m
    induction m with
    | zero => intro B xs a b ua va vb w _ h; exact absurd h (Nat.not_lt_zero _)
    | succ m ihm =>
      intro B xs a b ua va vb w hF hm hfa hB hwa hwb hxa hxb hi hba
      have HIF := Lib.hid ihF
      have HIM := Lib.hid ihm
      have HFR := Lib.hid hF
      have HM := Lib.hid hm
      have HFA := Lib.hid hfa
      have HBK := Lib.hid hB
      clear ihF ihm hF hm
      by_cases ha4 : ua.k = 4
      · obtain ⟨q, hq, hua⟩ := wt_var (ful_wt hB hfa hwa).1 ha4
        rw [hua] at hfa
        exact l2Unify_var w0 kb N B xs hB hN q hq a b va vb w hfa hwa hwb hxa hxb hi hba
      have HA4' := Lib.hid ha4
      clear ha4 hfa hB
      obtain ⟨S, hS⟩ : ∃ S, w.heap.size = S := ⟨_, rfl⟩
      have hkS : kb < S := by rw [← hS]; exact hba.lt
      have HXA := Lib.hid hxa
      have HXB := Lib.hid hxb
      have HWA := Lib.hid hwa
      have HWB := Lib.hid hwb
      have HI := Lib.hid hi
      have HA0 := Lib.hid hba
      obtain ⟨av, ac, hav⟩ := hxa.slice
      obtain ⟨bv, bc, hbv⟩ := hxb.slice
      clear hxa hxb hwa hwb hi hba
      subst hav
      subst hbv
      obtain ⟨W1, hW1⟩ : ∃ W, (w.alloc (.cells #[.int .i64 a.k, .int .i64 a.n, .slice av a.ks.length ac] 25)).alloc (.cells #[.int .i64 b.k, .int .i64 b.n, .slice bv b.ks.length bc] 25) = W := ⟨_, rfl⟩
      have HB1 : Hid (Below w.heap.size w W1) := Lib.hid (by rw [← hW1]; exact ((Below.refl _ _).alloc (Nat.le_refl _) _).alloc (by simp) _)
      have HO1 : Hid (OC W1 S a.k a.n (.slice av a.ks.length ac)) := Lib.hid (by rw [← hW1, ← hS]; exact (oc_new w _ _ _ _).kept ((Below.refl _ _).alloc (Nat.le_refl _) _))
      have HP1 : Hid (OC W1 (S + 1) b.k b.n (.slice bv b.ks.length bc)) := Lib.hid (by
        have h := oc_new (w.alloc (.cells #[.int .i64 a.k, .int .i64 a.n, .slice av a.ks.length ac] 25)) b.k b.n (.slice bv b.ks.length bc) 25
        rw [hW1, sizeA', hS] at h; exact h)
      have HA1 := Lib.hid (HA0.out.kept HB1.out)
      have HW1 := Lib.hid hW1
      have HS := Lib.hid hS
      clear hW1
      go_enter Try.func65, Try.ntmps65
      go_wp2_with fail
      rw [HW1.out]
      clear hS
      try rw [HS.out]
      go_at_call 100
      refine (l2Walk_any w0 kb N B xs HBK.out hN a _ _ HWA.out HXA.out HA1.out).mono ?_
      rintro e w2 ⟨t1, v1, rfl, hwk1, htr1, hx1, hb2⟩
      have HWK1 := Lib.hid hwk1
      have HT1 := Lib.hid (hwk1.wt HBK.out HWA.out)
      have HTR1 := Lib.hid htr1
      have HX1 := Lib.hid hx1
      obtain ⟨a1, c1, rfl⟩ := hx1.slice
      have HO2 := Lib.hid (HO1.out.kept hb2)
      have HP2 := Lib.hid (HP1.out.kept hb2)
      have HB2 := Lib.hid (HB1.out.trans (hb2.mono HB1.out.size))
      have HA2 := Lib.hid (HA1.out.kept hb2)
      clear hwk1 htr1 hx1 hb2
      obtain ⟨k1, hk1⟩ : ∃ n, t1.k = n := ⟨_, rfl⟩
      obtain ⟨n1, hn1⟩ : ∃ n, t1.n = n := ⟨_, rfl⟩
      obtain ⟨L1, hL1⟩ : ∃ n, t1.ks.length = n := ⟨_, rfl⟩
      have HK1 := Lib.hid hk1
      have HN1 := Lib.hid hn1
      have HL1 := Lib.hid hL1
      rw [hk1, hn1, hL1]
      rw [hL1] at HX1
      clear hk1 hn1 hL1
      obtain ⟨W3, hW3⟩ : ∃ W, ((w2.setCell ⟨S, 0, none⟩ (.int .i64 k1)).setCell ⟨S, 1, none⟩ (.int .i64 n1)).setCell ⟨S, 2, none⟩ (.slice a1 L1 c1) = W := ⟨_, rfl⟩
      have HO3 : Hid (OC W3 S k1 n1 (.slice a1 L1 c1)) := Lib.hid (by rw [← hW3]; exact oc_set3 HO2.out _ _ _)
      have HP3 : Hid (OC W3 (S + 1) b.k b.n (.slice bv b.ks.length bc)) := Lib.hid (by rw [← hW3]; exact oc_other3 HP2.out (by omega) _ _ _)
      have HB3 : Hid (Below w.heap.size w W3) := Lib.hid (by rw [← hW3]; exact below_set3 HB2.out (by rw [HS.out]; omega) _ _ _)
      have HA3 : Hid (BAt w0 W3 kb N B xs) := Lib.hid (by rw [← hW3]; exact HA2.out.set3 (by omega) _ _ _)
      obtain ⟨x0, x1, x2, f0, f1, f2, xz⟩ := HO2.out
      obtain ⟨y0, y1, y2, g0, g1, g2, yz⟩ := HP3.out
      go_wp2_with fail
      clear hW3 x0 x1 x2 f0 f1 f2 xz y0 y1 y2 g0 g1 g2 yz
      go_at_call 100
      refine (l2Walk_any w0 kb N B xs HBK.out hN b _ _ HWB.out HXB.out HA3.out).mono ?_
      rintro e w4 ⟨t2, v2, rfl, hwk2, htr2, hx2, hb4⟩
      have HWK2 := Lib.hid hwk2
      have HT2 := Lib.hid (hwk2.wt HBK.out HWB.out)
      have HTR2 := Lib.hid htr2
      have HX2 := Lib.hid hx2
      obtain ⟨a2, c2, rfl⟩ := hx2.slice
      have HO4 := Lib.hid (HO3.out.kept hb4)
      have HP4 := Lib.hid (HP3.out.kept hb4)
      have HB4 := Lib.hid (HB3.out.trans (hb4.mono HB3.out.size))
      have HA4 := Lib.hid (HA3.out.kept hb4)
      clear hwk2 htr2 hx2 hb4
      obtain ⟨k2, hk2⟩ : ∃ n, t2.k = n := ⟨_, rfl⟩
      obtain ⟨n2, hn2⟩ : ∃ n, t2.n = n := ⟨_, rfl⟩
      obtain ⟨L2, hL2⟩ : ∃ n, t2.ks.length = n := ⟨_, rfl⟩
      have HK2 := Lib.hid hk2
      have HN2 := Lib.hid hn2
      have HL2 := Lib.hid hL2
      rw [hk2, hn2, hL2]
      rw [hL2] at HX2
      clear hk2 hn2 hL2
      obtain ⟨W5, hW5⟩ : ∃ W, ((w4.setCell ⟨S + 1, 0, none⟩ (.int .i64 k2)).setCell ⟨S + 1, 1, none⟩ (.int .i64 n2)).setCell ⟨S + 1, 2, none⟩ (.slice a2 L2 c2) = W := ⟨_, rfl⟩
      have HP5 : Hid (OC W5 (S + 1) k2 n2 (.slice a2 L2 c2)) := Lib.hid (by rw [← hW5]; exact oc_set3 HP4.out _ _ _)
      have HO5 : Hid (OC W5 S k1 n1 (.slice a1 L1 c1)) := Lib.hid (by rw [← hW5]; exact oc_other3 HO4.out (by omega) _ _ _)
      have HB5 : Hid (Below w.heap.size w W5) := Lib.hid (by rw [← hW5]; exact below_set3 HB4.out (by rw [HS.out]; omega) _ _ _)
      have HA5 : Hid (BAt w0 W5 kb N B xs) := Lib.hid (by rw [← hW5]; exact HA4.out.set3 (by omega) _ _ _)
      have HI5 : Hid (Inside kb (kb + 1) w0 W5) := Lib.hid (HI.out.trans (in_below HB5.out))
      obtain ⟨p0, p1, p2, q0, q1, q2, pz⟩ := HP4.out
      obtain ⟨x0, x1, x2, f0, f1, f2, xz⟩ := HO5.out
      obtain ⟨y0, y1, y2, g0, g1, g2, yz⟩ := HP5.out
      have HFT := Lib.hid (HWK1.out.ful HFA.out)
      have HK14 : Hid (t1.k ≠ 4) := Lib.hid (fun e => by
        rcases ful_shape HFT.out HTR1.out with ⟨e2, _⟩ | ⟨z, _, e2, _⟩ | ⟨k, x, y, x', y', hk, e2, _⟩
        · rw [e2] at e; have e : (1 : Int) = 4 := e; omega
        · rw [e2] at HA4'; exact HA4'.out rfl
        · rw [e2] at e; have e : k = 4 := e; omega)
      have e4 : (k1 == 4) = false := by have := HK14.out; rw [HK1.out] at this; simpa using this
      by_cases hk24 : k2 = 4
      · obtain ⟨q, hq, ht2⟩ := wt_var HT2.out (HK2.out.trans hk24)
        have HFV : Hid (Ful B t2 (.node 4 (q : Int) [])) := Lib.hid (by
          have h := HTR2.out (HK2.out.trans hk24)
          rw [ht2] at h ⊢
          exact .free _ h)
        have HQ := Lib.hid hq
        subst hk24
        clear ht2 hq
        go_wp2_with fail
        clear hW5 p0 p1 p2 q0 q1 q2 pz
        have hcall := l2Unify_var w0 kb N B xs HBK.out hN q HQ.out t2 t1 _ _ W5 HFV.out HT2.out HT1.out HX2.out HX1.out HI5.out HA5.out
        rw [HK2.out, HN2.out, HK1.out, HN1.out] at hcall
        go_at_call 65
        refine hcall.mono ?_
        rintro e w6 ⟨r, B', xs', rfl, hu, hb6, hi6⟩
        have HR := Lib.hid (UniOk.wk HWK1.out HWK2.out hu.swap)
        have HB6 := Lib.hid hb6
        have HI6 := Lib.hid ((in_below HB5.out).trans hi6)
        clear hcall hu hb6 hi6
        go_wp2_with fail
        go_ret
        exact ⟨r, B', xs', rfl, HR.out, HB6.out, HI6.out⟩
      have e42 : (k2 == 4) = false := by simpa using hk24
      have HK24 : Hid (t2.k ≠ 4) := Lib.hid (by rw [HK2.out]; exact hk24)
      clear hk24
      by_cases hkk : k1 = k2
      case neg =>
        have ek : (k1 != k2) = true := by simpa using hkk
        have HR : Hid (UniOk N B B a b false) := Lib.hid (UniOk.wk HWK1.out HWK2.out (uni_kind HBK.out HT1.out HT2.out HK14.out HK24.out (by rw [HK1.out, HK2.out]; exact hkk)))
        clear hkk
        go_wp2_with fail
        go_ret
        exact ⟨false, B, xs, rfl, HR.out, HA5.out, in_below HB5.out⟩
      have HKK : Hid (t1.k = t2.k) := Lib.hid (by rw [HK1.out, HK2.out]; exact hkk)
      have ek : (k1 != k2) = false := by simpa using hkk
      have HLL : Hid (L2 = L1) := Lib.hid (by rw [← HL1.out, ← HL2.out]; exact (wt_same_len HT1.out HT2.out HK14.out HKK.out).symm)
      have hL1 : L1 ≤ 2 := by rw [← HL1.out]; exact wt_len HT1.out
      obtain ⟨u1, hu1⟩ : ∃ u, Ful B t1 u := ⟨_, HFT.out⟩
      have HI1 : Hid (Inside kb (kb + 1) w W5) := Lib.hid (in_below HB5.out)
      clear hkk u1 hu1
      go_wp2_with fail
      clear hW5 p0 p1 p2 q0 q1 q2 pz x0 x1 x2 f0 f1 f2 xz y0 y1 y2 g0 g1 g2 yz
      go_loopw [7] (fun i wr => ∃ (j : Nat) (B1 : Bn) (xs1 : List Value), j ≤ L1 ∧ i = .int .i64 j ∧ Hid (OC wr S k1 n1 (.slice a1 L1 c1)) ∧ Hid (OC wr (S + 1) k2 n2 (.slice a2 L2 c2)) ∧ Hid (Pfx N B B1 t1 t2 j) ∧ Hid (BAt w0 wr kb N B1 xs1) ∧ Hid (Inside kb (kb + 1) w wr)) (fun i _ => L1 - (intOf i).toNat)
      case atStart => exact ⟨0, B, xs, Nat.zero_le _, rfl, HO5, HP5, Lib.hid (Pfx.start HBK.out t1 t2), HA5, HI1⟩
      case round =>
        obtain ⟨j, B1, xs1, hj, rfl, hoc, hpc, hpf, hbat, hin⟩ := hrel
        obtain ⟨x0, x1, x2, f0, f1, f2, xz⟩ := hoc.out
        obtain ⟨y0, y1, y2, g0, g1, g2, yz⟩ := hpc.out
        by_cases hlt : j < L1
        · have hji : (j : Int) < (L1 : Int) := by omega
          have hji2 : (j : Int) < (L2 : Int) := by rw [HLL.out]; exact hji
          have hj1 : j < t1.ks.length := by rw [HL1.out]; exact hlt
          have hj2 : j < t2.ks.length := by rw [HL2.out, HLL.out]; exact hlt
          have hxl1 := HX1.out
          have hxl2 := HX2.out
          rw [← HL1.out] at hxl1
          rw [← HL2.out] at hxl2
          obtain ⟨sb, so, cap1, va1, ex, bl1, bk1, z0, z1, z2, hka⟩ := hxl1.kid j hj1
          obtain ⟨gb, go', cap2, va2, ey, bl2, bk2, z3, z4, z5, hkb⟩ := hxl2.kid j hj2
          have ex1 : a1 = some ⟨sb, so, none⟩ := by injection ex
          have ey1 : a2 = some ⟨gb, go', none⟩ := by injection ey
          subst ex1
          subst ey1
          have HIR := Lib.hid (HI.out.trans hin.out)
          have hs1 := HIR.out.block sb bl1 (by omega)
          have hs2 := HIR.out.block gb bl2 (by omega)
          replace z0 := (cellEq hs1).trans z0
          replace z1 := (cellEq hs1).trans z1
          replace z2 := (cellEq hs1).trans z2
          replace z3 := (cellEq hs2).trans z3
          replace z4 := (cellEq hs2).trans z4
          replace z5 := (cellEq hs2).trans z5
          have hw0 := HIR.out.size
          have hsl1 : sb < wr.heap.size := by omega
          have hsl2 : gb < wr.heap.size := by omega
          have HST := Lib.hid (fun (B2 : Bn) (r : Bool) (hu : UniOk N B1 B2 (t1.ks.getD j Ty.dummy) (t2.ks.getD j Ty.dummy) r) => hpf.out.step HT1.out HT2.out HK14.out HKK.out hj1 hu)
          have HWA' := Lib.hid (wt_kid HT1.out j hj1)
          have HWB' := Lib.hid (wt_kid HT2.out j hj2)
          have HKA := Lib.hid hka
          have HKB := Lib.hid hkb
          have HCALL : Hid (∀ (W : World), Inside kb (kb + 1) w0 W → BAt w0 W kb N B1 xs1 → Calls Try.prog 65 #[.agg #[.int .i64 (t1.ks.getD j Ty.dummy).k, .int .i64 (t1.ks.getD j Ty.dummy).n, va1], .agg #[.int .i64 (t2.ks.getD j Ty.dummy).k, .int .i64 (t2.ks.getD j Ty.dummy).n, va2], .slice (some ⟨kb, 0, none⟩) N N] W (UnPost w0 kb N B1 (t1.ks.getD j Ty.dummy) (t2.ks.getD j Ty.dummy) W)) := Lib.hid (fun W h1 h2 => by
            rcases hpf.out.fewer with e | e
            · obtain ⟨_, _, _, hl, hk⟩ := ful_kids HFT.out HTR1.out HK14.out
              have hsz := Ty.kid_lt ua j (by rw [hl]; exact hj1)
              have hm := HM.out
              have hh := HFR.out
              rw [e] at h2 ⊢
              exact HIM.out B xs1 _ _ _ va1 va2 W hh (by omega) (hk j hj1) HBK.out HWA'.out HWB'.out HKA.out HKB.out h1 h2
            · obtain ⟨ux, hux⟩ := ful_exists hpf.out.ok HWA'.out
              exact HIF.out _ B1 xs1 _ _ ux va1 va2 W (by have := HFR.out; omega) (Nat.lt_succ_self _) hux hpf.out.ok HWA'.out HWB'.out HKA.out HKB.out h1 h2)
          obtain ⟨A, hA⟩ : ∃ A, t1.ks.getD j Ty.dummy = A := ⟨_, rfl⟩
          obtain ⟨C, hC⟩ : ∃ C, t2.ks.getD j Ty.dummy = C := ⟨_, rfl⟩
          rw [hA] at z0 z1 HKA HWA' HCALL HST
          rw [hC] at z3 z4 HKB HWB' HCALL HST
          obtain ⟨u3, u4, rfl⟩ := HKA.out.slice
          obtain ⟨u5, u6, rfl⟩ := HKB.out.slice
          clear hxl1 hxl2 ex ey hA hC hka hkb hs1 hs2 hj1 hj2
          go_wp2_with fail
          go_region_held3 (fun w' => w'.cell? ⟨S, 2, none⟩ = some (.slice (some ⟨sb, so, none⟩) L1 c1) ∧ w'.cell? ⟨sb, so + j * 3, none⟩ = some (.int .i64 A.k) ∧ w'.cell? ⟨sb, so + j * 3 + 1, none⟩ = some (.int .i64 A.n) ∧ w'.cell? ⟨sb, so + j * 3 + 2, none⟩ = some (.slice u3 A.ks.length u4) ∧ w'.cell? ⟨S + 1, 2, none⟩ = some (.slice (some ⟨gb, go', none⟩) L2 c2) ∧ w'.cell? ⟨gb, go' + j * 3, none⟩ = some (.int .i64 C.k) ∧ w'.cell? ⟨gb, go' + j * 3 + 1, none⟩ = some (.int .i64 C.n) ∧ w'.cell? ⟨gb, go' + j * 3 + 2, none⟩ = some (.slice u5 C.ks.length u6)) (go_keep)
            (first | (go_at_call 65; refine (HCALL.out _ (by first | exact HIR.out | exact HIR.out.trans (in_below (Below.refl _ _).drew)) (by first | exact hbat.out | exact hbat.out.kept (Below.refl _ _).drew)).mono ?_; rintro e w5 ⟨r, B2, xs2, rfl, hu5, hb5, hi5⟩; have hi6 : Inside kb (kb + 1) wr w5 := (in_below (by first | exact Below.refl _ _ | exact (Below.refl _ _).drew)).trans hi5; have HII := Lib.hid (hin.out.trans hi6); have HB6 := Lib.hid hb5; have HU6 := Lib.hid (HST.out B2 r hu5); have HO6 := Lib.hid (hoc.out.keep hi6.size (hi6.block _ xz (.inr (by omega)))); have HP6 := Lib.hid (hpc.out.keep hi6.size (hi6.block _ yz (.inr (by omega)))); have zz0 := (cellEq (hi6.block (S) xz (.inr (by omega)))).trans x2; have zz1 := (cellEq (hi6.block (sb) hsl1 ((by omega)))).trans z0; have zz2 := (cellEq (hi6.block (sb) hsl1 ((by omega)))).trans z1; have zz3 := (cellEq (hi6.block (sb) hsl1 ((by omega)))).trans z2; have zz4 := (cellEq (hi6.block (S + 1) yz (.inr (by omega)))).trans y2; have zz5 := (cellEq (hi6.block (gb) hsl2 ((by omega)))).trans z3; have zz6 := (cellEq (hi6.block (gb) hsl2 ((by omega)))).trans z4; have zz7 := (cellEq (hi6.block (gb) hsl2 ((by omega)))).trans z5; clear hi5 hi6 hb5 hu5))
          all_goals
            rcases hr : r with _ | _
            · subst hr
              have HRR := Lib.hid (UniOk.wk HWK1.out HWK2.out (HU6.out.2 rfl))
              go_wp2_with fail
              go_ret
              exact ⟨false, B2, xs2, rfl, HRR.out, HB6.out, HII.out⟩
            · subst hr
              have HPF := Lib.hid (HU6.out.1 rfl)
              go_wp2_with fail
              go_roundw
              case rel => exact ⟨j + 1, B2, xs2, by omega, by go_num, HO6, HP6, HPF, HB6, HII⟩
              case measure => simp [intOf]; omega
        · have hji : ¬ (j : Int) < (L1 : Int) := by omega
          obtain rfl : j = L1 := by omega
          have HRR : Hid (UniOk N B B1 a b true) := Lib.hid (UniOk.wk HWK1.out HWK2.out (Pfx.done HBK.out (by rw [HL1.out]; exact hpf.out) HT1.out HT2.out HK14.out HKK.out))
          clear hlt
          go_wp2_with fail
          go_ret
          exact ⟨true, B1, xs1, rfl, HRR.out, hbat.out, hin.out⟩

end Go.Proofs.Ytndpoejohpmifaa

namespace Go.Proofs.Ytndpoejohpmifaa
open Go.RowKit
set_option linter.unusedVariables false
set_option linter.unusedSimpArgs false

/-- The nodes of the first j of some types. -/
def ndsL (us : List Ty) (j : Nat) : Nat := ((List.range j).map fun i => nodes (us.getD i Ty.dummy)).sum
theorem ndsL_zero (us : List Ty) : ndsL us 0 = 0 := rfl
theorem ndsL_succ (us : List Ty) (j : Nat) : ndsL us (j + 1) = ndsL us j + nodes (us.getD j Ty.dummy) := by unfold ndsL; rw [List.range_succ, List.map_append, List.sum_append]; simp
theorem ndsL_mono (us : List Ty) {i j : Nat} (h : i ≤ j) : ndsL us i ≤ ndsL us j := by
  induction h with
  | refl => exact Nat.le_refl _
  | step _ ih => rw [ndsL_succ]; omega
theorem nodes_ndsL (t : Ty) : nodes t = ndsL t.ks t.ks.length + 1 := by cases t; exact nodes_kids _ _ _
/-- Where the copying of the operands stands. -/
def FlS (us : List Ty) (room j : Nat) (left : Int) (rs : List Ty) : Prop := rs.length = j ∧ ((1 + ndsL us j ≤ room ∧ left = (room : Int) - (1 + ndsL us j : Nat) ∧ rs = us.take j) ∨ (room < 1 + ndsL us j ∧ left = -1))
def FlPost (u : Ty) (room : Nat) (w : World) (e : Ending) (w' : World) : Prop :=
  ∃ (y : Ty) (v : Value) (left : Int), e = .returned (.tuple #[.agg #[.int .i64 y.k, .int .i64 y.n, v], .int .i64 left]) ∧ TyIn w' w.heap.size w'.heap.size y v ∧ Below w.heap.size w w' ∧ (nodes u ≤ room → left = (room : Int) - nodes u ∧ y = u) ∧ (room < nodes u → left = -1)
theorem FlS.start (us : List Ty) {room : Nat} (h : 1 ≤ room) : FlS us room 0 ((room : Int) - 1) [] := ⟨rfl, .inl ⟨by rw [ndsL_zero]; omega, by rw [ndsL_zero]; omega, rfl⟩⟩
theorem FlS.step {us rs : List Ty} {room j m : Nat} (h : FlS us room j (m : Int) rs) (hj : j < us.length) {y : Ty} {left : Int} (h1 : nodes (us.getD j Ty.dummy) ≤ m → left = (m : Int) - nodes (us.getD j Ty.dummy) ∧ y = us.getD j Ty.dummy) (h2 : m < nodes (us.getD j Ty.dummy) → left = -1) : FlS us room (j + 1) left (rs ++ [y]) := by
  obtain ⟨hl, ⟨p1, p2, p3⟩ | ⟨p1, p2⟩⟩ := h
  · refine ⟨by simp [hl], ?_⟩
    rw [ndsL_succ]
    by_cases hc : nodes (us.getD j Ty.dummy) ≤ m
    · obtain ⟨q1, q2⟩ := h1 hc
      refine .inl ⟨by omega, by omega, ?_⟩
      rw [p3, q2, List.take_add_one]
      simp [List.getD, hj]
    · exact .inr ⟨by omega, h2 (by omega)⟩
  · omega
theorem FlS.bound {us rs : List Ty} {room j : Nat} {left : Int} (h : FlS us room j left rs) : -1 ≤ left ∧ left ≤ room := by
  obtain ⟨_, ⟨p1, p2, _⟩ | ⟨p1, p2⟩⟩ := h <;> omega
/-- The end: all operands, or too few nodes left. -/
theorem FlS.done {u : Ty} {rs : List Ty} {room j : Nat} {left : Int} (h : FlS u.ks room j left rs) (hj : j ≤ u.ks.length) (he : j = u.ks.length ∨ left < 0) :
    (nodes u ≤ room → left = (room : Int) - nodes u ∧ rs = u.ks) ∧ (room < nodes u → left = -1) := by
  have hn := nodes_ndsL u
  have hm := ndsL_mono u.ks hj
  obtain ⟨hl, ⟨p1, p2, p3⟩ | ⟨p1, p2⟩⟩ := h
  · rcases he with rfl | he
    · exact ⟨fun _ => ⟨by omega, by rw [p3, List.take_length]⟩, fun h => by omega⟩
    · omega
  · exact ⟨fun h => by omega, fun _ => p2⟩
theorem Gr.plus {rs : List Ty} {B : Nat} {w : World} {cv : Value} {xs : List Value} {vs : Nat → Value} {l h : Nat → Nat} (f : Gr rs B rs.length w cv xs vs l h) (y : Ty) : Gr (rs ++ [y]) B rs.length w cv xs vs l h := by
  have e : ∀ i, i < rs.length → (rs ++ [y]).getD i Ty.dummy = rs.getD i Ty.dummy := fun i hi => by
    have h2 : i < (rs ++ [y]).length := by rw [List.length_append]; omega
    simp only [List.getD, List.getElem?_append_left hi]
  exact ⟨f.own, fun i hi => by rw [e i hi]; exact f.x0 i hi, fun i hi => by rw [e i hi]; exact f.x1 i hi, f.x2, f.lo, f.di, fun i hi => by rw [e i hi]; exact f.ty i hi, f.ap⟩
theorem ty_eta {u : Ty} {k n : Int} {rs : List Ty} (hk : u.k = k) (hn : u.n = n) (hr : rs = u.ks) : Ty.node k n rs = u := by
  cases u; subst hk hn hr; rfl
theorem BAt.same {w0 w w' : World} {kb N : Nat} {B : Bn} {xs : List Value} (h : BAt w0 w kb N B xs) (e : w'.heap[kb]? = w.heap[kb]?) : BAt w0 w' kb N B xs := by
  refine ⟨?_, h.no, h.yes⟩
  obtain ⟨hl, h' | ⟨g, cap, cur, hg, hb', ho, h1, h2, h3, h4⟩⟩ := h.own
  · exact ⟨hl, .inl h'⟩
  · have hg2 := hg
    injection hg2 with hg2 _ _
    injection hg2 with hg2
    injection hg2 with hg2 _ _
    subst hg2
    exact ⟨hl, .inr ⟨kb, cap, cur, hg, hb', e.trans ho, h1, h2, h3, h4⟩⟩
set_option maxRecDepth 100000 in
set_option maxHeartbeats 8000000 in
theorem l2Full_any (w0 : World) (kb N : Nat) (B : Bn) (xs : List Value) (hB : BOK N B) (hN : N ≤ 100000) (m : Nat) : ∀ (t u : Ty) (v : Value) (room : Nat) (w : World), SizeOf.sizeOf u < m → room ≤ 100000 → Ful B t u → Wt N t → TyN w0 0 kb t v → Inside kb (kb + 1) w0 w → BAt w0 w kb N B xs →
    Calls Try.prog 66 #[.agg #[.int .i64 t.k, .int .i64 t.n, v], .slice (some ⟨kb, 0, none⟩) N N, .int .i64 (room : Int)] w (FlPost u room w) := by
  have HBK := Lib.hid hB
  clear hB
  obtain ⟨i0, hi0, hz0, hz1, hz2⟩ := info_parts infoTy
  induction m with
  | zero => intro t u v room w h; exact absurd h (Nat.not_lt_zero _)
  | succ m ih =>
    intro t u v room w hm hroom hf ht hx hi hb
    have HIH := Lib.hid ih
    have HM := Lib.hid hm
    have HF := Lib.hid hf
    have HT := Lib.hid ht
    have HX := Lib.hid hx
    have HI := Lib.hid hi
    have HA0 := Lib.hid hb
    obtain ⟨S, hS⟩ : ∃ S, w.heap.size = S := ⟨_, rfl⟩
    have hkS : kb < S := by rw [← hS]; exact hb.lt
    obtain ⟨va, vc, hv⟩ := hx.slice
    clear ih hm hf ht hx hi hb
    subst hv
    obtain ⟨W1, hW1⟩ : ∃ W, (w.alloc (.cells #[.int .i64 t.k, .int .i64 t.n, .slice va t.ks.length vc] 25)).alloc (.cells #[.int .i64 0, .int .i64 0, .slice none 0 0] 25) = W := ⟨_, rfl⟩
    have HB1 : Hid (Below w.heap.size w W1) := Lib.hid (by rw [← hW1]; exact ((Below.refl _ _).alloc (Nat.le_refl _) _).alloc (by simp) _)
    have HO1 : Hid (OC W1 S t.k t.n (.slice va t.ks.length vc)) := Lib.hid (by rw [← hW1, ← hS]; exact (oc_new w _ _ _ _).kept ((Below.refl _ _).alloc (Nat.le_refl _) _))
    have HR1 : Hid (OC W1 (S + 1) 0 0 (.slice none 0 0)) := Lib.hid (by
      have h := oc_new (w.alloc (.cells #[.int .i64 t.k, .int .i64 t.n, .slice va t.ks.length vc] 25)) 0 0 (.slice none 0 0) 25
      rw [hW1, sizeA', hS] at h; exact h)
    have HA1 := Lib.hid (HA0.out.kept HB1.out)
    have HW1 := Lib.hid hW1
    have HS := Lib.hid hS
    clear hW1
    by_cases h0 : room = 0
    · subst h0
      have hr1 : ((0 : Nat) : Int) < 1 := by omega
      have HNP := Lib.hid (nodes_pos u)
      go_enter Try.func66, Try.ntmps66
      go_wp2_with fail
      rw [HW1.out]
      clear hS
      try rw [HS.out]
      obtain ⟨x0, x1, x2, f0, f1, f2, xz⟩ := HO1.out
      obtain ⟨r0, r1, r2, g0, g1, g2, rz⟩ := HR1.out
      go_wp2_with fail
      refine bodyPost_ret (v := .tuple #[.agg #[.int .i64 0, .int .i64 0, .slice none 0 0], .int .i64 (-1)]) (by simp [results, Try.results66, go_sem, r0, r1, r2]) rfl ⟨Ty.dummy, .slice none 0 0, -1, rfl, .bare _ _ _ _ _ _, by first | exact HB1.out | exact below_set3 HB1.out (S := S + 1) (by rw [HS.out]; omega) _ _ _, fun h => ?_, fun _ => rfl⟩
      have := HNP.out; omega
    have hr1 : ¬ ((room : Nat) : Int) < 1 := by omega
    have HROOM : Hid (1 ≤ room) := Lib.hid (by omega)
    clear h0
    go_enter Try.func66, Try.ntmps66
    go_wp2_with fail
    rw [HW1.out]
    clear hS
    try rw [HS.out]
    obtain ⟨x0, x1, x2, f0, f1, f2, xz⟩ := HO1.out
    go_wp2_with fail
    go_at_call 100
    refine (l2Walk_any w0 kb N B xs HBK.out hN t _ _ HT.out HX.out HA1.out).mono ?_
    rintro e w2 ⟨t', v', rfl, hwk, htr, hx', hb2⟩
    have HF2 := Lib.hid (hwk.ful HF.out)
    have HT2 := Lib.hid (hwk.wt HBK.out HT.out)
    have HTR := Lib.hid htr
    have HX2 := Lib.hid hx'
    obtain ⟨a', c', rfl⟩ := hx'.slice
    have HO2 := Lib.hid (HO1.out.kept hb2)
    have HR2 := Lib.hid (HR1.out.kept hb2)
    have HB2 := Lib.hid (HB1.out.trans (hb2.mono HB1.out.size))
    have HA2 := Lib.hid (HA1.out.kept hb2)
    clear hwk htr hx' hb2 x0 x1 x2 f0 f1 f2 xz
    obtain ⟨x0, x1, x2, f0, f1, f2, xz⟩ := HO2.out
    obtain ⟨kk, hkk⟩ : ∃ n, t'.k = n := ⟨_, rfl⟩
    obtain ⟨nn, hnn⟩ : ∃ n, t'.n = n := ⟨_, rfl⟩
    obtain ⟨L, hL⟩ : ∃ n, t'.ks.length = n := ⟨_, rfl⟩
    have HKK := Lib.hid hkk
    have HNN := Lib.hid hnn
    have HL := Lib.hid hL
    rw [hkk, hnn, hL]
    rw [hL] at HX2
    have hL2 : L ≤ 2 := by rw [← hL]; exact wt_len HT2.out
    clear hkk hnn hL
    have HU : Hid (u.k = kk ∧ u.n = nn ∧ u.ks.length = L ∧ ∀ i, i < t'.ks.length → Ful B (t'.ks.getD i Ty.dummy) (u.ks.getD i Ty.dummy)) := Lib.hid (by
      by_cases h4 : t'.k = 4
      · rcases ful_shape HF2.out HTR.out with ⟨e, _⟩ | ⟨q, e, eu, _⟩ | ⟨k, x, y, x', y', hk, e, _⟩
        · rw [e] at h4; have h4 : (1 : Int) = 4 := h4; omega
        · rw [← HKK.out, ← HNN.out, ← HL.out, e, eu]; exact ⟨rfl, rfl, rfl, fun i hi => absurd hi (Nat.not_lt_zero _)⟩
        · rw [e] at h4; have h4 : k = 4 := h4; omega
      · obtain ⟨p1, p2, p3, p4, p5⟩ := ful_kids HF2.out HTR.out h4
        exact ⟨by rw [p1, HKK.out], by rw [p3, ← HNN.out, p2], by rw [p4, HL.out], p5⟩)
    obtain ⟨W3, hW3⟩ : ∃ W, ((w2.setCell ⟨S, 0, none⟩ (.int .i64 kk)).setCell ⟨S, 1, none⟩ (.int .i64 nn)).setCell ⟨S, 2, none⟩ (.slice a' L c') = W := ⟨_, rfl⟩
    have HO3 : Hid (OC W3 S kk nn (.slice a' L c')) := Lib.hid (by rw [← hW3]; exact oc_set3 HO2.out _ _ _)
    have HR3 : Hid (OC W3 (S + 1) 0 0 (.slice none 0 0)) := Lib.hid (by rw [← hW3]; exact oc_other3 HR2.out (by omega) _ _ _)
    have HB3 : Hid (Below w.heap.size w W3) := Lib.hid (by rw [← hW3]; exact below_set3 HB2.out (by rw [HS.out]; omega) _ _ _)
    have HA3 : Hid (BAt w0 W3 kb N B xs) := Lib.hid (by rw [← hW3]; exact HA2.out.set3 (by omega) _ _ _)
    obtain ⟨y0, y1, y2, g0, g1, g2, yz⟩ := HO3.out
    obtain ⟨O, hO⟩ : ∃ O, W3.heap.size = O := ⟨_, rfl⟩
    have hSO : S + 2 ≤ O := by rw [← hO]; exact HR3.out.sz
    obtain ⟨W4, hW4⟩ : ∃ W, W3.alloc (.cells #[.int .i64 kk, .int .i64 nn, .slice none 0 0] 25) = W := ⟨_, rfl⟩
    have hb4 : Below W3.heap.size W3 W4 := by rw [← hW4]; exact (Below.refl _ _).alloc (Nat.le_refl _) _
    have HO4 := Lib.hid (HO3.out.kept hb4)
    have HR4 := Lib.hid (HR3.out.kept hb4)
    have HB4 := Lib.hid (HB3.out.trans (hb4.mono HB3.out.size))
    have HA4 := Lib.hid (HA3.out.kept hb4)
    have HQ4 : Hid (OB W4 O kk nn (.slice none 0 0)) := Lib.hid (by rw [← hW4, ← hO]; exact ob_new W3 _ _ _ _)
    have hz4 : W4.heap.size = O + 1 := by rw [← hW4, ← hO]; simp
    have HO := Lib.hid hO
    have HW4 := Lib.hid hW4
    clear hb4 hW4 hO
    go_wp2_with fail
    rw [HW4.out]
    try rw [HO.out]
    clear hW3 y0 y1 y2 g0 g1 g2 yz x0 x1 x2 f0 f1 f2 xz
    go_loopw [9, 10] (fun lv i wr => ∃ (j : Nat) (left : Int) (rs : List Ty) (cv : Value) (ys : List Value) (vs : Nat → Value) (l h : Nat → Nat), j ≤ L ∧ i = .int .i64 j ∧ lv = .int .i64 left ∧ Hid (FlS u.ks room j left rs) ∧ Hid (Gr rs (O + 1) rs.length wr cv ys vs l h) ∧ Hid (OB wr O kk nn cv) ∧ Hid (OC wr S kk nn (.slice a' L c')) ∧ Hid (OC wr (S + 1) 0 0 (.slice none 0 0)) ∧ Hid (Below w.heap.size w wr) ∧ Hid (BAt w0 wr kb N B xs) ∧ O + 1 ≤ wr.heap.size) (fun _ i _ => L - (intOf i).toNat)
    case atStart => exact ⟨0, (room : Int) - 1, [], _, [], _, _, _, Nat.zero_le _, rfl, rfl, Lib.hid (FlS.start _ HROOM.out), Lib.hid (gr_nil [] (O + 1) W4), HQ4, HO4, HR4, HB4, HA4, by omega⟩
    case round =>
      obtain ⟨j, left, rs, cv, ys, vs, l, h, hj, rfl, rfl, hfl, hgr, hob, hoc, hrb, hbe, hba, hsz⟩ := hrel
      obtain ⟨y0, y1, y2, g0, g1, g2, yz⟩ := hoc.out
      obtain ⟨o0, o1, o2, of2, oz⟩ := hob.out
      obtain ⟨hlo, hhi⟩ := hfl.out.bound
      by_cases hgo : j < L ∧ 0 ≤ left
      · obtain ⟨hlt, hl0⟩ := hgo
        obtain ⟨mm, hmm⟩ : ∃ mm : Nat, left = (mm : Int) := ⟨left.toNat, by omega⟩
        subst hmm
        have hji : (j : Int) < (L : Int) := by omega
        have hjt : j < t'.ks.length := by rw [HL.out]; exact hlt
        have hju : j < u.ks.length := by rw [HU.out.2.2.1]; exact hlt
        have hxl := HX2.out
        rw [← HL.out] at hxl
        obtain ⟨sb, so, cap1, vi, ex, bl1, bk1, z0, z1, z2, hka⟩ := hxl.kid j hjt
        have ex1 : a' = some ⟨sb, so, none⟩ := by injection ex
        subst ex1
        have HIR := Lib.hid (HI.out.trans (in_below (lo := kb) (hi := kb + 1) hbe.out))
        have hs1 := HIR.out.block sb bl1 (by omega)
        replace z0 := (cellEq hs1).trans z0
        replace z1 := (cellEq hs1).trans z1
        replace z2 := (cellEq hs1).trans z2
        have HFJ := Lib.hid (HU.out.2.2.2 j hjt)
        have HWJ := Lib.hid (wt_kid HT2.out j hjt)
        have HSZ : Hid (SizeOf.sizeOf (u.ks.getD j Ty.dummy) < m) := Lib.hid (by have := Ty.kid_lt u j hju; have := HM.out; omega)
        have HST := Lib.hid (fun (y : Ty) (left : Int) h1 h2 => hfl.out.step (y := y) (left := left) hju h1 h2)
        have hrl := hfl.out.1
        obtain ⟨x, hxx⟩ : ∃ x, t'.ks.getD j Ty.dummy = x := ⟨_, rfl⟩
        obtain ⟨z, hzz⟩ : ∃ z, u.ks.getD j Ty.dummy = z := ⟨_, rfl⟩
        rw [hxx] at z0 z1 hka HFJ HWJ
        rw [hzz] at HFJ HSZ HST
        have HKA := Lib.hid hka
        obtain ⟨ai, ci, rfl⟩ := hka.slice
        have HRL := Lib.hid hrl
        have hcvs : rs.length ≤ 2 := by omega
        clear hxl ex bl1 bk1 hka hxx hzz hjt hju hs1 hrl
        go_wp2_with fail
        go_at_call 66
        refine (HIH.out x z _ mm _ HSZ.out (by omega) HFJ.out HWJ.out HKA.out HIR.out hba.out).mono ?_
        rintro e w5 ⟨y, v5, left5, rfl, hty5, hb5, hf5, hn5⟩
        obtain ⟨a5, k5, rfl, _⟩ := hty5.at.slice
        obtain ⟨W6, hW6⟩ : ∃ W, w5.alloc (.cells #[.int .i64 y.k, .int .i64 y.n, .slice a5 y.ks.length k5] 25) = W := ⟨_, rfl⟩
        have hbx : Below w5.heap.size w5 W6 := by rw [← hW6]; exact (Below.refl _ _).alloc (Nat.le_refl _) _
        have hb6 : Below wr.heap.size wr W6 := hb5.trans (hbx.mono hb5.size)
        have hb6s := hb6.size
        have HTY6 : Hid (TyIn W6 wr.heap.size W6.heap.size y (.slice a5 y.ks.length k5)) := Lib.hid ((hty5.kept hbx).wide (Nat.le_refl _) hbx.size)
        have HKB6 : Hid (OC W6 w5.heap.size y.k y.n (.slice a5 y.ks.length k5)) := Lib.hid (by rw [← hW6]; exact oc_new w5 _ _ _ _)
        have HB6 := Lib.hid hb6
        have HOB6 := Lib.hid (hob.out.kept hb6)
        have HOC6 := Lib.hid (hoc.out.kept hb6)
        have HRB6 := Lib.hid (hrb.out.kept hb6)
        have HBE6 := Lib.hid (hbe.out.trans (hb6.mono hbe.out.size))
        have HBA6 := Lib.hid (hba.out.kept hb6)
        have HFS := Lib.hid (HST.out y left5 hf5 hn5)
        have HOWN6 := Lib.hid (own_below hgr.out.own hb6)
        have HGP := Lib.hid (hgr.out.plus y)
        have HYG : Hid ((rs ++ [y]).getD rs.length Ty.dummy = y) := Lib.hid (by simp [List.getD])
        clear hty5 hb5 hf5 hn5 hbx hb6 o0 o1 o2 of2 oz
        obtain ⟨o0, o1, o2, of2, oz⟩ := HOB6.out
        obtain ⟨q0, q1, q2, qf0, qf1, qf2, qz⟩ := HKB6.out
        have h63 : rs.length + 1 ≤ maxLen := by unfold maxLen; omega
        have hby : (rs.length + 1) * 40 ≤ 140737488355328 := by omega
        have hbase : ∀ o, O + 1 ≤ (W6.alloc o).heap.size := fun o => by simp; omega
        go_wp2_with (first | (at_builtin; refine wpList_append_lies _ rfl _ _ 23 rfl (O + 1) 25 i0 _ 3 40 Try.underlying23 hi0 hz0 hz1 hz2 rfl (by omega) cv rs.length ys rfl (HOWN6.out.alloc _) ⟨W6.heap.size, 0, none⟩ 1 1 [.int .i64 y.k, .int .i64 y.n, .slice a5 y.ks.length k5] rfl (by rfl) (World.news_of_block (cs := #[.int .i64 y.k, .int .i64 y.n, .slice a5 y.ks.length k5]) (t := 25) (fr := (0, 0)) (heap_alloc_new W6 _)) (by simp [Value.oneCell']) (by omega) h63 hby (hbase _) (W6.heap.size + 1) (by simp) ?_; intro g cap3 w7 hown7 hgrow hat hltg; have hrow : ∀ q, cv.ownBlock = some q → O + 1 ≤ q := (fun q e => (own_low HOWN6.out e).1); have hs7 := grow_size hgrow; have hOW : O < W6.heap.size := oz; have hO7 := grow_old hgrow (q := O) hOW (fun q e => by have := hrow q e; omega); have HOB7 := Lib.hid (HOB6.out.keep (by omega) hO7); obtain ⟨ys7, vs7, l7, h7, hg7⟩ := HGP.out.step (t := y) (v := .slice a5 y.ks.length k5) (by omega) HYG.out HB6.out HTY6.out hown7 hgrow hat; have HG7 := Lib.hid hg7; have HGROW := Lib.hid hgrow; clear hown7 hgrow hat hltg hg7 hO7 o0 o1 o2 of2 oz; obtain ⟨o0, o1, o2, of2, oz⟩ := HOB7.out) | fail)
        refine ⟨⟨j + 1, left5, rs ++ [y], _, ys7, vs7, l7, h7, by omega, by go_num, rfl, HFS, Lib.hid ?_, Lib.hid (HOB7.out.set _), Lib.hid ?_, Lib.hid ?_, Lib.hid ?_, Lib.hid ?_, ?_⟩, by simp [intOf]; omega⟩
        · rw [List.length_append]
          exact HG7.out.keep (by simp) (fun q h1 _ => heap_setCell_other _ ⟨O, 2, none⟩ q _ (by show q ≠ O; omega))
        · exact (HOC6.out.keep (by omega) (grow_old HGROW.out HOC6.out.sz (fun q e => by have := hrow q e; omega))).keep (by simp) (heap_setCell_other _ ⟨O, 2, none⟩ S _ (by show S ≠ O; omega))
        · exact (HRB6.out.keep (by omega) (grow_old HGROW.out HRB6.out.sz (fun q e => by have := hrow q e; omega))).keep (by simp) (heap_setCell_other _ ⟨O, 2, none⟩ (S + 1) _ (by show S + 1 ≠ O; omega))
        · have hSw : w.heap.size = S := HS.out
          exact ((HBE6.out.alloc HBE6.out.size _).grown HGROW.out (by have := HBE6.out.size; simp; omega) (fun q e => by have := hrow q e; omega)).setCell (p := ⟨O, 2, none⟩) (by show w.heap.size ≤ O; omega) _
        · refine HBA6.out.same ?_
          rw [heap_setCell_other _ ⟨O, 2, none⟩ kb _ (by show kb ≠ O; omega)]
          exact grow_old HGROW.out HBA6.out.lt (fun q e => by have := hrow q e; omega)
        · simp; omega
      · have hend : j = u.ks.length ∨ left < 0 := by rw [HU.out.2.2.1]; omega
        obtain ⟨d1, d2⟩ := hfl.out.done (by rw [HU.out.2.2.1]; omega) hend
        have HD := Lib.hid (hgr.out.done kk nn (by have := hfl.out.1; omega))
        obtain ⟨ca, cc, rfl, _⟩ := HD.out.at.slice
        have HRES : Hid ((nodes u ≤ room → left = (room : Int) - nodes u ∧ Ty.node kk nn rs = u) ∧ (room < nodes u → left = -1)) := Lib.hid ⟨fun h => ⟨(d1 h).1, ty_eta HU.out.1 HU.out.2.1 (d1 h).2⟩, d2⟩
        obtain ⟨RL, hRL⟩ : ∃ RL, (Ty.node kk nn rs).ks.length = RL := ⟨_, rfl⟩
        have HRL := Lib.hid hRL
        rw [hRL] at o2
        obtain ⟨q0, q1, q2, qf0, qf1, qf2, qz⟩ := hrb.out
        clear d1 d2 hend hRL
        by_cases hlt : j < L
        · have hji : (j : Int) < (L : Int) := by omega
          have hl0 : ¬ 0 ≤ left := fun h => hgo ⟨hlt, h⟩
          clear hgo hlt
          go_wp2_with fail
          refine bodyPost_ret (v := .tuple #[.agg #[.int .i64 kk, .int .i64 nn, .slice ca RL cc], .int .i64 left]) (by simp [results, Try.results66, go_sem, q0, q1, q2]) rfl ⟨.node kk nn rs, .slice ca RL cc, left, rfl, ?_, below_set3 hbe.out (S := S + 1) (by rw [HS.out]; omega) _ _ _, HRES.out.1, HRES.out.2⟩
          refine (TyIn.keep (w := wr) (by rw [← HRL.out]; exact HD.out) (by simp) (fun q h1 _ _ => ?_)).wide (by rw [HS.out]; omega) (by simp)
          rw [heap_setCell_other _ ⟨S + 1, 2, none⟩ q _ (by show q ≠ S + 1; omega), heap_setCell_other _ ⟨S + 1, 1, none⟩ q _ (by show q ≠ S + 1; omega), heap_setCell_other _ ⟨S + 1, 0, none⟩ q _ (by show q ≠ S + 1; omega)]
        · have hji : ¬ (j : Int) < (L : Int) := by omega
          clear hgo hlt
          go_wp2_with fail
          refine bodyPost_ret (v := .tuple #[.agg #[.int .i64 kk, .int .i64 nn, .slice ca RL cc], .int .i64 left]) (by simp [results, Try.results66, go_sem, q0, q1, q2]) rfl ⟨.node kk nn rs, .slice ca RL cc, left, rfl, ?_, below_set3 hbe.out (S := S + 1) (by rw [HS.out]; omega) _ _ _, HRES.out.1, HRES.out.2⟩
          refine (TyIn.keep (w := wr) (by rw [← HRL.out]; exact HD.out) (by simp) (fun q h1 _ _ => ?_)).wide (by rw [HS.out]; omega) (by simp)
          rw [heap_setCell_other _ ⟨S + 1, 2, none⟩ q _ (by show q ≠ S + 1; omega), heap_setCell_other _ ⟨S + 1, 1, none⟩ q _ (by show q ≠ S + 1; omega), heap_setCell_other _ ⟨S + 1, 0, none⟩ q _ (by show q ≠ S + 1; omega)]

end Go.Proofs.Ytndpoejohpmifaa

namespace Go.Proofs.Ytndpoejohpmifaa
open Go.RowKit
set_option linter.unusedVariables false
set_option linter.unusedSimpArgs false

/-- The result of UnifyTypes. -/
noncomputable def unT (a b : Ty) : Option Ty := if tvT a = true ∧ tvT b = true then uniT a b else none
theorem unT_a {a b : Ty} (h : tvT a = false) : unT a b = none := by unfold unT; rw [if_neg (fun e => by rw [h] at e; cases e.1)]
theorem unT_b {a b : Ty} (h : tvT b = false) : unT a b = none := by unfold unT; rw [if_neg (fun e => by rw [h] at e; cases e.2)]
theorem unT_ab {a b : Ty} (h1 : tvT a = true) (h2 : tvT b = true) : unT a b = uniT a b := by unfold unT; rw [if_pos ⟨h1, h2⟩]
theorem can_canT {t : Ty} (h : shp 16 t = true) : can t = canT t := rp_can h
theorem vars_small {t : Ty} (h : shp 16 t = true) : (vars 16 t []).length ≤ 26 := by
  refine nodup_len2 26 _ (vars_nodup 16 t [] h List.nodup_nil) (fun x hx => ?_)
  rcases (vars_occ 16 t [] x h).1 hx with h1 | h1
  · exact absurd h1 List.not_mem_nil
  · have := occ_range 16 t x h h1
    exact ⟨this.1, by omega⟩
theorem canT_nd {t : Ty} (h : shp 16 t = true) : shp 16 (canT t) = true ∧ nd 16 (canT t) = nd 16 t := ren_ok (vars 16 t []) (vars_small h) 16 t h
/-- A most general type with the model's variables decides. -/
theorem uni_res {a b u : Ty} (h : Prin a b u) (hu : Wt 26 u) : uniT a b = if tvT u = true then some (canT u) else none := by
  by_cases hv : tvT u = true
  · have hs := tvT_shp hv
    rw [if_pos hv, ← can_canT hs]
    exact uniT_yes h (dp_of_shp 16 u hs) (by rw [can_canT hs]; exact canT_valid hv)
  · rw [if_neg hv]
    refine uniT_no (fun t ht hd hc => hv ?_)
    obtain ⟨r, s, hr⟩ := ht.rn h
    have hs := shp_of_wt hu 16 (hr.dp 16 hd)
    rw [← can_rn hr hd, can_canT hs] at hc
    have h2 := canT_nd hs
    unfold tvT at hc ⊢
    rw [h2.1, h2.2] at hc
    rw [hs]
    exact hc
theorem uni_none {a b : Ty} (h : ∀ t, Prin a b t → False) : uniT a b = none := uniT_no (fun t ht _ _ => h t ht)
theorem TyOk.n {w : World} {t : Ty} {v : Value} (h : TyOk w t v) {E : Nat} (hE : w.heap.size ≤ E) : TyN w 0 E t v := by
  induction h with
  | bare k n a cap => exact .bare k n a cap
  | row k n ks b o cap vs hr hl h0 h1 h2 _ ih => exact .row k n ks b o cap vs (Nat.zero_le _) (by have := hr.lt; omega) hr hl h0 h1 h2 ih
/-- The row of 26 types that are not bound. -/
theorem bat_new (w : World) (kb : Nat) (h : w.heap.size = kb) : BAt w (w.alloc (.cells Mx.rowZ 25)) kb 26 (fun _ => none) Mx.rowZ.toList :=
  ⟨Mx.kr_new w kb h, fun i hi _ => Mx.rowZ_at i hi, fun i hi t e => by cases e⟩
theorem nodes_nd {t : Ty} : ∀ {d : Nat}, shp d t = true → nodes t = nd d t := by
  intro d h
  induction d generalizing t with
  | zero => cases h
  | succ d ih =>
    rcases shp_forms h with rfl | ⟨n, n0, n1, rfl⟩ | ⟨k, a, b, hk, rfl, ha, hb⟩
    · rw [nd_leaf]; rfl
    · rw [nd_leaf]; rfl
    · rw [nd_two, nodes_two, ih ha, ih hb]; omega
theorem tvT_nodes {t : Ty} (h : 63 < nodes t) : tvT t = false := by
  rcases e : tvT t with _ | _
  · rfl
  · have hs := tvT_shp e
    unfold tvT at e
    rw [hs, ← nodes_nd hs] at e
    simp at e
    omega

set_option maxRecDepth 100000 in
set_option maxHeartbeats 8000000 in
theorem unifyTypes_spec (a b : Ty) (va vb : Value) (w : World) (ha : TyOk w a va) (hb : TyOk w b vb) (r : Option Ty) (hr : unT a b = r) :
    Calls Try.prog 29 #[.agg #[.int .i64 a.k, .int .i64 a.n, va], .agg #[.int .i64 b.k, .int .i64 b.n, vb]] w (OptRet r w) := by
  have HVA := Lib.hid ha
  have HVB := Lib.hid hb
  obtain ⟨av, ac, rfl, _⟩ := ha.at.slice
  obtain ⟨bv, bc, rfl, _⟩ := hb.at.slice
  obtain ⟨S, hS⟩ : ∃ S, w.heap.size = S := ⟨_, rfl⟩
  have HRR := Lib.hid hr
  clear ha hb hr
  obtain ⟨W1, hW1⟩ : ∃ W, ((w.alloc (.cells #[.int .i64 a.k, .int .i64 a.n, .slice av a.ks.length ac] 25)).alloc (.cells #[.int .i64 b.k, .int .i64 b.n, .slice bv b.ks.length bc] 25)).alloc (.cells #[.int .i64 0, .int .i64 0, .slice none 0 0] 25) = W := ⟨_, rfl⟩
  have HB1 : Hid (Below w.heap.size w W1) := Lib.hid (by rw [← hW1]; exact (((Below.refl _ _).alloc (Nat.le_refl _) _).alloc (by simp) _).alloc (by simp; omega) _)
  have HX1 : Hid (OC W1 S a.k a.n (.slice av a.ks.length ac)) := Lib.hid (by
    rw [← hW1, ← hS]; exact ((oc_new w _ _ _ _).kept ((Below.refl _ _).alloc (Nat.le_refl _) _)).kept ((Below.refl _ _).alloc (Nat.le_refl _) _))
  have HY1 : Hid (OC W1 (S + 1) b.k b.n (.slice bv b.ks.length bc)) := Lib.hid (by
    have h := (oc_new (w.alloc (.cells #[.int .i64 a.k, .int .i64 a.n, .slice av a.ks.length ac] 25)) b.k b.n (.slice bv b.ks.length bc) 25).kept ((Below.refl _ _).alloc (Nat.le_refl _) (.cells #[.int .i64 0, .int .i64 0, .slice none 0 0] 25))
    rw [hW1, sizeA', hS] at h; exact h)
  have HZ1 : Hid (OC W1 (S + 1 + 1) 0 0 (.slice none 0 0)) := Lib.hid (by
    have h := oc_new ((w.alloc (.cells #[.int .i64 a.k, .int .i64 a.n, .slice av a.ks.length ac] 25)).alloc (.cells #[.int .i64 b.k, .int .i64 b.n, .slice bv b.ks.length bc] 25)) 0 0 (.slice none 0 0) 25
    rw [hW1, sizeA', sizeA', hS] at h; exact h)
  have HW1 := Lib.hid hW1
  have HS := Lib.hid hS
  clear hW1
  obtain ⟨x0, x1, x2, xf0, xf1, xf2, xz⟩ := HX1.out
  rcases h1 : tvT a with _ | _
  · have H1 := Lib.hid h1
    have HN : Hid (r = none) := Lib.hid (by rw [← HRR.out]; exact unT_a h1)
    clear h1
    go_enter Try.func29, Try.ntmps29
    go_wp2_with fail
    rw [HW1.out]
    try rw [hS]
    clear hS
    go_wp2_with fail
    go_at_call 16
    refine (typeValid_spec a _ W1 (HVA.out.at.kept HB1.out)).mono ?_
    rintro e w2 ⟨rfl, hb2⟩
    rw [H1.out]
    have HB2 := Lib.hid (HB1.out.trans (hb2.mono HB1.out.size))
    have HZ2 := Lib.hid (HZ1.out.kept hb2)
    clear hb2 x0 x1 x2 xf0 xf1 xf2 xz
    obtain ⟨z0, z1, z2, zf0, zf1, zf2, zz⟩ := HZ2.out
    go_wp2_with fail
    rw [HN.out]
    refine bodyPost_ret (v := .tuple #[.agg #[.int .i64 0, .int .i64 0, .slice none 0 0], .bool false]) (by simp [results, Try.results29, go_sem, z0, z1, z2]) rfl ⟨rfl, below_set3 HB2.out (S := S + 1 + 1) (by rw [HS.out]; omega) _ _ _⟩
  have H1 := Lib.hid h1
  rcases h2 : tvT b with _ | _
  · have H2 := Lib.hid h2
    have HN : Hid (r = none) := Lib.hid (by rw [← HRR.out]; exact unT_b h2)
    clear h1 h2
    go_enter Try.func29, Try.ntmps29
    go_wp2_with fail
    rw [HW1.out]
    try rw [hS]
    clear hS
    go_wp2_with fail
    go_at_call 16
    refine (typeValid_spec a _ W1 (HVA.out.at.kept HB1.out)).mono ?_
    rintro e w2 ⟨rfl, hb2⟩
    rw [H1.out]
    have HB2 := Lib.hid (HB1.out.trans (hb2.mono HB1.out.size))
    have HY2 := Lib.hid (HY1.out.kept hb2)
    have HZ2 := Lib.hid (HZ1.out.kept hb2)
    clear hb2 x0 x1 x2 xf0 xf1 xf2 xz
    obtain ⟨y0, y1, y2, yf0, yf1, yf2, yz⟩ := HY2.out
    go_wp2_with fail
    go_at_call 16
    refine (typeValid_spec b _ w2 (HVB.out.at.kept HB2.out)).mono ?_
    rintro e w3 ⟨rfl, hb3⟩
    rw [H2.out]
    have HB3 := Lib.hid (HB2.out.trans (hb3.mono HB2.out.size))
    have HZ3 := Lib.hid (HZ2.out.kept hb3)
    clear hb3 y0 y1 y2 yf0 yf1 yf2 yz
    obtain ⟨z0, z1, z2, zf0, zf1, zf2, zz⟩ := HZ3.out
    go_wp2_with fail
    rw [HN.out]
    refine bodyPost_ret (v := .tuple #[.agg #[.int .i64 0, .int .i64 0, .slice none 0 0], .bool false]) (by simp [results, Try.results29, go_sem, z0, z1, z2]) rfl ⟨rfl, below_set3 HB3.out (S := S + 1 + 1) (by rw [HS.out]; omega) _ _ _⟩
  have H2 := Lib.hid h2
  have HUN : Hid (r = uniT a b) := Lib.hid (by rw [← HRR.out]; exact unT_ab h1 h2)
  have HWA := Lib.hid (wt_of_shp 16 a (tvT_shp h1))
  have HWB := Lib.hid (wt_of_shp 16 b (tvT_shp h2))
  clear h1 h2
  go_enter Try.func29, Try.ntmps29
  go_wp2_with fail
  rw [HW1.out]
  try rw [hS]
  clear hS
  go_wp2_with fail
  go_at_call 16
  refine (typeValid_spec a _ W1 (HVA.out.at.kept HB1.out)).mono ?_
  rintro e w2 ⟨rfl, hb2⟩
  rw [H1.out]
  have HB2 := Lib.hid (HB1.out.trans (hb2.mono HB1.out.size))
  have HX2 := Lib.hid (HX1.out.kept hb2)
  have HY2 := Lib.hid (HY1.out.kept hb2)
  have HZ2 := Lib.hid (HZ1.out.kept hb2)
  clear hb2 x0 x1 x2 xf0 xf1 xf2 xz
  obtain ⟨y0, y1, y2, yf0, yf1, yf2, yz⟩ := HY2.out
  go_wp2_with fail
  go_at_call 16
  refine (typeValid_spec b _ w2 (HVB.out.at.kept HB2.out)).mono ?_
  rintro e w3 ⟨rfl, hb3⟩
  rw [H2.out]
  have HB3 := Lib.hid (HB2.out.trans (hb3.mono HB2.out.size))
  have HX3 := Lib.hid (HX2.out.kept hb3)
  have HY3 := Lib.hid (HY2.out.kept hb3)
  have HZ3 := Lib.hid (HZ2.out.kept hb3)
  clear hb3 y0 y1 y2 yf0 yf1 yf2 yz
  obtain ⟨kb, hkb⟩ : ∃ kb, w3.heap.size = kb := ⟨_, rfl⟩
  obtain ⟨W4, hW4⟩ : ∃ W, w3.alloc (.cells Mx.rowZ 25) = W := ⟨_, rfl⟩
  have hb4 : Below w3.heap.size w3 W4 := by rw [← hW4]; exact (Below.refl _ _).alloc (Nat.le_refl _) _
  have HX4 := Lib.hid (HX3.out.kept hb4)
  have HY4 := Lib.hid (HY3.out.kept hb4)
  have HZ4 := Lib.hid (HZ3.out.kept hb4)
  have HB4 := Lib.hid (HB3.out.trans (hb4.mono HB3.out.size))
  have HA4 : Hid (BAt w3 W4 kb 26 (fun _ => none) Mx.rowZ.toList) := Lib.hid (by rw [← hW4]; exact bat_new w3 kb hkb)
  have HI4 : Hid (Inside kb (kb + 1) w3 W4) := Lib.hid (in_below hb4)
  have HNA : Hid (TyN w3 0 kb a (.slice av a.ks.length ac)) := Lib.hid ((HVA.out.kept HB3.out).n (Nat.le_of_eq hkb))
  have HNB : Hid (TyN w3 0 kb b (.slice bv b.ks.length bc)) := Lib.hid ((HVB.out.kept HB3.out).n (Nat.le_of_eq hkb))
  have HKB := Lib.hid hkb
  have hkS : S + 1 + 1 < kb := by rw [← hkb]; exact HZ3.out.sz
  have HW4 := Lib.hid hW4
  obtain ⟨ua, hua⟩ := ful_exists (bok_none 26) HWA.out
  have HUA := Lib.hid hua
  obtain ⟨x0, x1, x2, xf0, xf1, xf2, xz⟩ := HX4.out
  obtain ⟨y0, y1, y2, yf0, yf1, yf2, yz⟩ := HY4.out
  have hmk := Mx.make_run
  clear hb4 hua
  go_wp2_with fail
  clear hW4 hkb hmk
  go_at_call 65
  refine (l2Unify_any w3 kb 26 (by omega) _ _ (fun _ => none) _ a b ua _ _ W4 (Nat.lt_succ_self _) (Nat.lt_succ_self _) HUA.out (bok_none 26) HWA.out HWB.out HNA.out HNB.out HI4.out HA4.out).mono ?_
  rintro e w5 ⟨z, B', xs', rfl, hu5, hb5, hi5⟩
  have HU5 := Lib.hid hu5
  have HA5 := Lib.hid hb5
  have HX5 := Lib.hid (HX4.out.keep hi5.size (hi5.block _ HX4.out.sz (.inl (by omega))))
  have HZ5 := Lib.hid (HZ4.out.keep hi5.size (hi5.block _ HZ4.out.sz (.inl (by omega))))
  have HI5 := Lib.hid (HI4.out.trans hi5)
  have HB5 : Hid (Below w.heap.size w w5) := Lib.hid (hi5.below (by have := HB3.out.size; have := HKB.out; omega) HB4.out HB4.out.size)
  clear hu5 hb5 hi5 x0 x1 x2 xf0 xf1 xf2 xz y0 y1 y2 yf0 yf1 yf2 yz
  obtain ⟨x0, x1, x2, xf0, xf1, xf2, xz⟩ := HX5.out
  obtain ⟨z0, z1, z2, zf0, zf1, zf2, zz⟩ := HZ5.out
  rcases hz : z with _ | _
  · have HN : Hid (r = none) := Lib.hid (by rw [HUN.out]; exact uni_none (fun t ht => by rw [hz] at HU5; exact prin_no HU5.out ht))
    subst hz
    go_wp2_with fail
    rw [HN.out]
    refine bodyPost_ret (v := .tuple #[.agg #[.int .i64 0, .int .i64 0, .slice none 0 0], .bool false]) (by simp [results, Try.results29, go_sem, z0, z1, z2]) rfl ⟨rfl, below_set3 HB5.out (S := S + 1 + 1) (by rw [HS.out]; omega) _ _ _⟩
  subst hz
  obtain ⟨u, hu⟩ := ful_exists HU5.out.ok HWA.out
  have HU := Lib.hid hu
  have HPR := Lib.hid (prin_model HWA.out HU5.out hu)
  have HWU := Lib.hid (ful_wt HU5.out.ok hu HWA.out).1
  have HRES : Hid (r = if tvT u = true then some (canT u) else none) := Lib.hid (by rw [HUN.out]; exact uni_res HPR.out HWU.out)
  clear hu
  go_wp2_with fail
  go_at_call 66
  refine (l2Full_any w3 kb 26 B' xs' HU5.out.ok (by omega) _ a u _ 63 w5 (Nat.lt_succ_self _) (by omega) HU.out HWA.out HNA.out HI5.out HA5.out).mono ?_
  rintro e w6 ⟨y, v6, left, rfl, hty6, hb6, hf6, hn6⟩
  obtain ⟨a6, k6, rfl, _⟩ := hty6.at.slice
  have HB6 := Lib.hid (HB5.out.trans (hb6.mono HB5.out.size))
  have HZ6 := Lib.hid (HZ5.out.kept hb6)
  have HF6 := Lib.hid hf6
  have HN6 := Lib.hid hn6
  have HTY6 := Lib.hid (hty6.wide (lo' := w.heap.size) (by have := HB5.out.size; omega) (Nat.le_refl _))
  clear hty6 hb6 hf6 hn6 x0 x1 x2 xf0 xf1 xf2 xz z0 z1 z2 zf0 zf1 zf2 zz
  obtain ⟨q0, hq0⟩ : ∃ q, w6.heap.size = q := ⟨_, rfl⟩
  obtain ⟨W7, hW7⟩ : ∃ W, w6.alloc (.cells #[.int .i64 y.k, .int .i64 y.n, .slice a6 y.ks.length k6] 25) = W := ⟨_, rfl⟩
  have hb7 : Below w6.heap.size w6 W7 := by rw [← hW7]; exact (Below.refl _ _).alloc (Nat.le_refl _) _
  have HO7 : Hid (OC W7 w6.heap.size y.k y.n (.slice a6 y.ks.length k6)) := Lib.hid (by rw [← hW7]; exact oc_new w6 _ _ _ _)
  have HZ7 := Lib.hid (HZ6.out.kept hb7)
  have HB7 := Lib.hid (HB6.out.trans (hb7.mono HB6.out.size))
  have HTY7 := Lib.hid ((HTY6.out.kept hb7).wide (Nat.le_refl _) hb7.size)
  obtain ⟨o0, o1, o2, of0, of1, of2, oz⟩ := HO7.out
  obtain ⟨z0, z1, z2, zf0, zf1, zf2, zz⟩ := HZ7.out
  clear hb7 hq0 q0
  by_cases hn : nodes u ≤ 63
  case neg =>
    have HN : Hid (r = none) := Lib.hid (by rw [HRES.out, tvT_nodes (by omega), if_neg (by decide)])
    have hl := HN6.out (by omega)
    subst hl
    clear hn
    go_wp2_with fail
    rw [HN.out]
    refine bodyPost_ret (v := .tuple #[.agg #[.int .i64 0, .int .i64 0, .slice none 0 0], .bool false]) (by simp [results, Try.results29, go_sem, z0, z1, z2]) rfl ⟨rfl, below_set3 HB7.out (S := S + 1 + 1) (by rw [HS.out]; omega) _ _ _⟩
  obtain ⟨hl1, hl2⟩ := HF6.out hn
  have hl3 : ¬ left < 0 := by omega
  subst hl2
  clear hl1 hn
  rcases hv : tvT y with _ | _
  · have HV := Lib.hid hv
    have HN : Hid (r = none) := Lib.hid (by rw [HRES.out, hv, if_neg (by decide)])
    clear hv
    go_wp2_with fail
    go_at_call 16
    refine (typeValid_spec y _ W7 HTY7.out.at).mono ?_
    rintro e w8 ⟨rfl, hb8⟩
    rw [HV.out]
    have HB8 := Lib.hid (HB7.out.trans (hb8.mono HB7.out.size))
    have HZ8 := Lib.hid (HZ7.out.kept hb8)
    clear hb8 hW7 o0 o1 o2 of0 of1 of2 oz z0 z1 z2 zf0 zf1 zf2 zz
    obtain ⟨z0, z1, z2, zf0, zf1, zf2, zz⟩ := HZ8.out
    go_wp2_with fail
    rw [HN.out]
    refine bodyPost_ret (v := .tuple #[.agg #[.int .i64 0, .int .i64 0, .slice none 0 0], .bool false]) (by simp [results, Try.results29, go_sem, z0, z1, z2]) rfl ⟨rfl, below_set3 HB8.out (S := S + 1 + 1) (by rw [HS.out]; omega) _ _ _⟩
  have HV := Lib.hid hv
  have HSH := Lib.hid (tvT_shp hv)
  obtain ⟨T, hT⟩ : ∃ T, canT y = T := ⟨_, rfl⟩
  have HT := Lib.hid hT
  have HN : Hid (r = some T) := Lib.hid (by rw [HRES.out, hv, if_pos rfl, hT])
  clear hv hT
  go_wp2_with fail
  go_at_call 16
  refine (typeValid_spec y _ W7 HTY7.out.at).mono ?_
  rintro e w8 ⟨rfl, hb8⟩
  rw [HV.out]
  have HB8 := Lib.hid (HB7.out.trans (hb8.mono HB7.out.size))
  have HZ8 := Lib.hid (HZ7.out.kept hb8)
  have HO8 := Lib.hid (HO7.out.kept hb8)
  have HTY8 := Lib.hid (HTY7.out.kept hb8)
  clear hb8 hW7 o0 o1 o2 of0 of1 of2 oz z0 z1 z2 zf0 zf1 zf2 zz
  obtain ⟨o0, o1, o2, of0, of1, of2, oz⟩ := HO8.out
  go_wp2_with fail
  go_at_call 59
  refine (l2Canon_any y _ w8 HSH.out HTY8.out.at T HT.out).mono ?_
  rintro e w9 ⟨v9, rfl, hty9, hb9⟩
  obtain ⟨a9, k9, rfl, _⟩ := hty9.at.slice
  have HB9 := Lib.hid (HB8.out.trans (hb9.mono HB8.out.size))
  have HZ9 := Lib.hid (HZ8.out.kept hb9)
  have HTY9 := Lib.hid hty9
  have hs8 : S + 1 + 1 < w8.heap.size := HZ8.out.sz
  have hs8w : w.heap.size ≤ w8.heap.size := HB8.out.size
  clear hty9 hb9 o0 o1 o2 of0 of1 of2 oz
  obtain ⟨z0, z1, z2, zf0, zf1, zf2, zz⟩ := HZ9.out
  obtain ⟨TL, hTL⟩ : ∃ n, T.ks.length = n := ⟨_, rfl⟩
  have HTL := Lib.hid hTL
  rw [hTL] at HTY9 ⊢
  clear hTL
  go_wp2_with fail
  rw [HN.out]
  refine bodyPost_ret (v := .tuple #[.agg #[.int .i64 T.k, .int .i64 T.n, .slice a9 TL k9], .bool true]) (by simp [results, Try.results29, go_sem, z0, z1, z2]) rfl ⟨_, rfl, ?_, below_set3 HB9.out (S := S + 1 + 1) (by rw [HS.out]; omega) _ _ _⟩
  refine (HTY9.out.keep (by simp) (fun q h1 _ _ => ?_)).wide (by omega) (by simp)
  rw [heap_setCell_other _ ⟨S + 1 + 1, 2, none⟩ q _ (by show q ≠ S + 1 + 1; omega), heap_setCell_other _ ⟨S + 1 + 1, 1, none⟩ q _ (by show q ≠ S + 1 + 1; omega), heap_setCell_other _ ⟨S + 1 + 1, 0, none⟩ q _ (by show q ≠ S + 1 + 1; omega)]

end Go.Proofs.Ytndpoejohpmifaa

