/-
  l3Shape and l3Count of the model: whether an expression's nodes are right down to a depth, and how many there are.
-/
import Derived.Test.YtmoclinccmhijaaDoorOd
namespace Go.Proofs.YtmoclinccmhijaaDoor.Ox
open Go.Proofs.YtmoclinccmhijaaDoor
open Go.RowKit
set_option linter.unusedVariables false
set_option linter.unusedSimpArgs false

theorem kids_q {k K : Int} (h : kidsX k = K) (w : World) : Calls Tryd.prog 62 #[.int .i64 k] w fun e w' => e = .returned (.int .i64 K) ∧ w' = w := by
  subst h; exact l3Kids_any k w
theorem fieldsX_iff {k n : Int} {m s : ByteArray} {l : Nat} : fieldsX k n m s l = true ↔ kidsX k = (l : Int) ∧ ownX k n m s = true := by
  by_cases hk : 1 ≤ k ∧ k ≤ 10
  · obtain ⟨h1, h2⟩ := hk
    have : k = 1 ∨ k = 2 ∨ k = 3 ∨ k = 4 ∨ k = 5 ∨ k = 6 ∨ k = 7 ∨ k = 8 ∨ k = 9 ∨ k = 10 := by omega
    rcases this with rfl | rfl | rfl | rfl | rfl | rfl | rfl | rfl | rfl | rfl
    all_goals simp only [fieldsX, ownX, kidsX, fit1, fit2, fitB, nameOk, own1, own2, own3, own4, Int.reduceEq, if_true, if_false, or_self, or_true, true_or, false_or, or_false, reduceIte, Bool.false_eq_true]
    all_goals generalize inB 0 99 n = b1
    all_goals generalize m.toList.isEmpty = b2
    all_goals generalize s.toList.isEmpty = b3
    all_goals generalize oneB 97 122 s = b4
    all_goals generalize oneB 65 90 m = b5
    all_goals cases b1 <;> cases b2 <;> cases b3 <;> cases b4 <;> cases b5
    all_goals simp
    all_goals omega
  · have e1 : fieldsX k n m s l = false := by
      unfold fieldsX
      rw [if_neg (by omega), if_neg (by omega), if_neg (by omega), if_neg (by omega), if_neg (by omega), if_neg (by omega), if_neg (by omega), if_neg (by omega), if_neg (by omega), if_neg (by omega)]
    have e2 : kidsX k = -1 := by unfold kidsX; rw [if_neg (by omega), if_neg (by omega), if_neg (by omega), if_neg (by omega)]
    rw [e1, e2]
    constructor
    · intro h; cases h
    · rintro ⟨h, _⟩; omega
theorem fieldsX_not {k n : Int} {m s : ByteArray} {l : Nat} (h : ¬ (kidsX k = (l : Int) ∧ ownX k n m s = true)) : fieldsX k n m s l = false := by
  rcases e : fieldsX k n m s l with _ | _
  · rfl
  · exact absurd (fieldsX_iff.1 e) h

set_option maxRecDepth 100000 in
set_option maxHeartbeats 2000000 in
theorem l3Shape_s0 (k n D K : Int) (m s : ByteArray) (L : Nat) (a : Option Addr) (cap : Nat) (w : World) (hlen : L ≤ 9223372036854775807) (hK : kidsX k = K) (d0 : decide (D < 1) = true) :
    Calls Tryd.prog 45 #[.agg #[.int .i64 k, .int .i64 n, .string m, .string s, .slice a L cap], .int .i64 D] w fun e w' => e = .returned (.bool false) ∧ Below w.heap.size w w' := by
  have HKN := Lib.hid hK
  clear hK
  go_enter Tryd.func45, Tryd.ntmps45
  go_wp2_with fail
  go_quiet ((go_at_call 62; exact Calls.quiet_of_same (kids_q HKN.out _)))
  all_goals go_wp2_with fail
  all_goals go_ret
  all_goals exact ⟨rfl, (by first | exact ((Below.refl _ _).alloc (Nat.le_refl _) _) | exact ((Below.refl _ _).alloc (Nat.le_refl _) _).drew | exact below_drewN ((Below.refl _ _).alloc (Nat.le_refl _) _) _)⟩

set_option maxRecDepth 100000 in
set_option maxHeartbeats 2000000 in
theorem l3Shape_s1 (k n D K : Int) (m s : ByteArray) (L : Nat) (a : Option Addr) (cap : Nat) (w : World) (hlen : L ≤ 9223372036854775807) (hK : kidsX k = K) (d0 : decide (D < 1) = false) (e0 : (K != (L : Int)) = true) :
    Calls Tryd.prog 45 #[.agg #[.int .i64 k, .int .i64 n, .string m, .string s, .slice a L cap], .int .i64 D] w fun e w' => e = .returned (.bool false) ∧ Below w.heap.size w w' := by
  have HKN := Lib.hid hK
  clear hK
  go_enter Tryd.func45, Tryd.ntmps45
  go_wp2_with fail
  go_quiet ((go_at_call 62; exact Calls.quiet_of_same (kids_q HKN.out _)))
  all_goals go_wp2_with fail
  all_goals go_ret
  all_goals exact ⟨rfl, (by first | exact ((Below.refl _ _).alloc (Nat.le_refl _) _) | exact ((Below.refl _ _).alloc (Nat.le_refl _) _).drew | exact below_drewN ((Below.refl _ _).alloc (Nat.le_refl _) _) _)⟩

set_option maxRecDepth 100000 in
set_option maxHeartbeats 4000000 in
theorem l3Shape_s2 (k n D K : Int) (m s : ByteArray) (L : Nat) (a : Option Addr) (cap : Nat) (w : World) (hlen : L ≤ 9223372036854775807) (hK : kidsX k = K) (d0 : decide (D < 1) = false) (e0 : (K != (L : Int)) = false) (ho : ownX k n m s = false) :
    Calls Tryd.prog 45 #[.agg #[.int .i64 k, .int .i64 n, .string m, .string s, .slice a L cap], .int .i64 D] w fun e w' => e = .returned (.bool false) ∧ Below w.heap.size w w' := by
  have HKN := Lib.hid hK
  have HO := Lib.hid ho
  clear hK ho
  go_enter Tryd.func45, Tryd.ntmps45
  go_wp2_with fail
  go_region_held3 (fun w' => w'.cell? ⟨w.heap.size, 0, none⟩ = some (.int .i64 k) ∧ w'.cell? ⟨w.heap.size, 1, none⟩ = some (.int .i64 n) ∧ w'.cell? ⟨w.heap.size, 2, none⟩ = some (.string m) ∧ w'.cell? ⟨w.heap.size, 3, none⟩ = some (.string s) ∧ w'.cell? ⟨w.heap.size, 4, none⟩ = some (.slice a L cap)) (go_keep)
    (first
      | (go_at_call 63; refine (ownX_any k n m s L a cap _ hlen).mono ?_; rintro e w1 ⟨rfl, hb1⟩; rw [HO.out]; have HB1 : Hid (Below (w.heap.size + 1) (w.alloc (.cells #[.int .i64 k, .int .i64 n, .string m, .string s, .slice a L cap] 29)) w1) := Lib.hid (Below.trans (B := w.heap.size + 1) (by first | exact Below.refl _ _ | exact (Below.refl _ _).drew | exact below_drewN (Below.refl _ _) _) (hb1.mono (by simp))); clear hb1; obtain ⟨x0, x1, x2, x3, x4, xz⟩ := box5_kept HB1.out)
      | (go_at_call 62; refine (kids_q HKN.out _).mono ?_; rintro e w5 ⟨rfl, rfl⟩))
  all_goals go_wp2_with fail
  all_goals go_ret
  all_goals exact ⟨rfl, below_one HB1.out⟩

set_option maxRecDepth 100000 in
set_option maxHeartbeats 4000000 in
theorem l3Shape_ok (d : Nat) (x : Ex) (k n D K : Int) (m s : ByteArray) (L : Nat) (a : Option Addr) (cap : Nat) (w : World) (hlen : L ≤ 9223372036854775807) (hK : kidsX k = K) (hx : ExAt w x (.slice a L cap)) (hL : x.ks.length = L) (hD : D - 1 = (d : Int)) (hD1 : 1 ≤ D) (hD4 : D ≤ 12)
    (hF : fieldsX x.k x.n x.m x.s x.ks.length = true)
    (ih : ∀ (D : Int) (x : Ex) (v : Value) (w : World), D = d → d ≤ 12 → ExAt w x v → Calls Tryd.prog 45 #[.agg #[.int .i64 x.k, .int .i64 x.n, .string x.m, .string x.s, v], .int .i64 D] w fun e w' => e = .returned (.bool (shpX d x)) ∧ Below w.heap.size w w')
    (d0 : decide (D < 1) = false) (e0 : (K != (L : Int)) = false) (ho : ownX k n m s = true) :
    Calls Tryd.prog 45 #[.agg #[.int .i64 k, .int .i64 n, .string m, .string s, .slice a L cap], .int .i64 D] w fun e w' => e = .returned (.bool (shpX (d + 1) x)) ∧ Below w.heap.size w w' := by
  have HKN := Lib.hid hK
  have HO := Lib.hid ho
  have HX := Lib.hid hx
  have HL := Lib.hid hL
  have HF := Lib.hid hF
  have HD1 := Lib.hid hD
  have HIH := Lib.hid ih
  have hd : d ≤ 12 := by omega
  clear hK ho hx hL hF hD ih
  go_enter Tryd.func45, Tryd.ntmps45
  go_wp2_with fail
  go_region_held3 (fun w' => w'.cell? ⟨w.heap.size, 0, none⟩ = some (.int .i64 k) ∧ w'.cell? ⟨w.heap.size, 1, none⟩ = some (.int .i64 n) ∧ w'.cell? ⟨w.heap.size, 2, none⟩ = some (.string m) ∧ w'.cell? ⟨w.heap.size, 3, none⟩ = some (.string s) ∧ w'.cell? ⟨w.heap.size, 4, none⟩ = some (.slice a L cap)) (go_keep)
    (first
      | (go_at_call 63; refine (ownX_any k n m s L a cap _ hlen).mono ?_; rintro e w1 ⟨rfl, hb1⟩; rw [HO.out]; have HB1 : Hid (Below (w.heap.size + 1) (w.alloc (.cells #[.int .i64 k, .int .i64 n, .string m, .string s, .slice a L cap] 29)) w1) := Lib.hid (Below.trans (B := w.heap.size + 1) (by first | exact Below.refl _ _ | exact (Below.refl _ _).drew | exact below_drewN (Below.refl _ _) _) (hb1.mono (by simp))); clear hb1; obtain ⟨x0, x1, x2, x3, x4, xz⟩ := box5_kept HB1.out)
      | (go_at_call 62; refine (kids_q HKN.out _).mono ?_; rintro e w5 ⟨rfl, rfl⟩))
  go_wp2_with fail
  go_loopw [5] (fun i wr => ∃ (j : Nat), j ≤ L ∧ i = .int .i64 j ∧ Hid (∀ i, i < j → shpX d (x.ks.getD i Ex.dummy) = true) ∧ Below (w.heap.size + 1) (w.alloc (.cells #[.int .i64 k, .int .i64 n, .string m, .string s, .slice a L cap] 29)) wr) (fun i _ => L - (intOf i).toNat)
  case atStart => exact ⟨0, Nat.zero_le _, rfl, Lib.hid (fun i hi => absurd hi (Nat.not_lt_zero _)), HB1.out⟩
  case round =>
    obtain ⟨j, hj, rfl, hall, hB⟩ := hrel
    have HB := Lib.hid hB
    have HW := Lib.hid (below_one hB)
    clear x0 x1 x2 x3 x4 xz
    obtain ⟨x0, x1, x2, x3, x4, xz⟩ := box5_kept hB
    clear hB
    by_cases hlt : j < L
    · have hji : (j : Int) < (L : Int) := by omega
      obtain ⟨b, o, cap2, vi, ex, bl, ⟨y0, y1, y2, y3, y4⟩, hkid⟩ := (HX.out.kept HW.out).kid j (by rw [HL.out]; exact hlt)
      have ex1 : a = some ⟨b, o, none⟩ := by injection ex
      subst ex1
      clear ex
      obtain ⟨y, hy⟩ : ∃ y, x.ks.getD j Ex.dummy = y := ⟨_, rfl⟩
      rw [hy] at y0 y1 y2 y3 hkid
      obtain ⟨ai, ci, rfl, hli⟩ := hkid.slice
      have HXK := Lib.hid hy
      have HKID := Lib.hid hkid
      clear hy hkid
      rcases hs : shpX d y with _ | _
      · have HSH := Lib.hid hs
        have HS : Hid (shpX (d + 1) x = false) := Lib.hid (shpX_kid_no (i := j) (by rw [HL.out]; exact hlt) (by rw [HXK.out]; exact hs))
        clear hs
        go_wp2_with fail
        go_at_call 45
        refine (HIH.out (D - 1) y _ _ HD1.out hd HKID.out).mono ?_
        rintro e w2 ⟨rfl, hb2⟩
        rw [HSH.out]
        have HB2 := Lib.hid (HW.out.trans (hb2.mono HW.out.size))
        clear hb2
        go_wp2_with fail
        go_ret
        exact ⟨ret_bz HS.out.symm, HB2.out⟩
      · have HSH := Lib.hid hs
        have HALL : Hid (∀ i, i < j + 1 → shpX d (x.ks.getD i Ex.dummy) = true) := Lib.hid (fun i hi => by
          rcases Nat.lt_or_ge i j with h | h
          · exact hall.out i h
          · have hij : i = j := by omega
            rw [hij, HXK.out]; exact HSH.out)
        clear hs hall
        go_wp2_with fail
        go_at_call 45
        refine (HIH.out (D - 1) y _ _ HD1.out hd HKID.out).mono ?_
        rintro e w2 ⟨rfl, hb2⟩
        rw [HSH.out]
        have HB2 := Lib.hid (HB.out.trans (hb2.mono (by have := HB.out.size; simp at this; omega)))
        clear hb2
        go_wp2_with fail
        exact ⟨⟨j + 1, by omega, by go_num, HALL, HB2.out⟩, by simp [intOf]; omega⟩
    · have hji : ¬ (j : Int) < (L : Int) := by omega
      have HS : Hid (shpX (d + 1) x = true) := Lib.hid (shpX_iff.2 ⟨HF.out, fun i hi => hall.out i (by rw [HL.out] at hi; omega)⟩)
      clear hlt hall
      go_wp2_with fail
      go_ret
      exact ⟨ret_bz HS.out.symm, HW.out⟩
theorem l3Shape_any : ∀ (d : Nat) (D : Int) (x : Ex) (v : Value) (w : World), D = d → d ≤ 12 → ExAt w x v →
    Calls Tryd.prog 45 #[.agg #[.int .i64 x.k, .int .i64 x.n, .string x.m, .string x.s, v], .int .i64 D] w fun e w' => e = .returned (.bool (shpX d x)) ∧ Below w.heap.size w w' := by
  intro d
  induction d with
  | zero =>
    intro D x v w hD hd hx
    obtain ⟨a, cap, rfl, hlen⟩ := hx.slice
    exact l3Shape_s0 x.k x.n D _ x.m x.s x.ks.length a cap w hlen rfl (decide_eq_true (by omega))
  | succ d ih =>
    intro D x v w hD hd hx
    obtain ⟨a, cap, rfl, hlen⟩ := hx.slice
    have d0 : decide (D < 1) = false := decide_eq_false (by omega)
    by_cases h1 : kidsX x.k = (x.ks.length : Int)
    case neg =>
      rw [shpX_fields (d := d) (fieldsX_not (fun h => h1 h.1))]
      exact l3Shape_s1 x.k x.n D _ x.m x.s x.ks.length a cap w hlen rfl d0 (by simpa using h1)
    have e0 : (kidsX x.k != (x.ks.length : Int)) = false := by simpa using h1
    rcases ho : ownX x.k x.n x.m x.s with _ | _
    · rw [shpX_fields (d := d) (fieldsX_not (fun h => by rw [ho] at h; cases h.2))]
      exact l3Shape_s2 x.k x.n D _ x.m x.s x.ks.length a cap w hlen rfl d0 e0 ho
    · exact l3Shape_ok d x x.k x.n D _ x.m x.s x.ks.length a cap w hlen rfl hx rfl (by omega) (by omega) (by omega) (fieldsX_iff.2 ⟨h1, ho⟩) ih d0 e0 ho

set_option maxRecDepth 100000 in
set_option maxHeartbeats 4000000 in
theorem l3Count_any : ∀ (d : Nat) (D : Int) (most : Nat) (x : Ex) (v : Value) (w : World), D = most → most ≤ 60 → d ≤ 12 → shpX d x = true → ExAt w x v →
    Calls Tryd.prog 46 #[.agg #[.int .i64 x.k, .int .i64 x.n, .string x.m, .string x.s, v], .int .i64 D] w (CountPost (ndX d x) most w) := by
  intro d
  induction d with
  | zero => intro D most x v w _ _ _ hs _; cases hs
  | succ d ih =>
    intro D most x v w hM hmost hd hs hx
    have hnd := ndX_le hd hs
    obtain ⟨hf, hkids⟩ := shpX_iff.1 hs
    have hL2 := fields_len hf
    have HKIDS := Lib.hid hkids
    have HND := Lib.hid hnd
    clear hs hf hkids hnd
    rw [show ndX (d + 1) x = 1 + ndkX d x x.ks.length from ndX_succ d x]
    have HX := Lib.hid hx
    obtain ⟨a, cap, rfl, hlen⟩ := hx.slice
    obtain ⟨k, hk⟩ : ∃ k, x.k = k := ⟨_, rfl⟩
    obtain ⟨n, hn⟩ : ∃ n, x.n = n := ⟨_, rfl⟩
    obtain ⟨m, hm⟩ : ∃ m, x.m = m := ⟨_, rfl⟩
    obtain ⟨s, hs⟩ : ∃ s, x.s = s := ⟨_, rfl⟩
    obtain ⟨L, hL⟩ : ∃ L, x.ks.length = L := ⟨_, rfl⟩
    have HK := Lib.hid hk
    have HN := Lib.hid hn
    have HM := Lib.hid hm
    have HSS := Lib.hid hs
    have HL := Lib.hid hL
    rw [hk, hn, hm, hs, hL]
    rw [hL] at hlen
    clear hx hk hn hm hs hL
    rw [HL.out] at hL2
    have HMOST := Lib.hid hM
    have hM0 : 0 ≤ D := by omega
    have hM1 : D ≤ 60 := by omega
    have HIH := Lib.hid ih
    clear ih hM
    go_enter Tryd.func46, Tryd.ntmps46
    go_wp2_with fail
    go_loopw [5, 6] (fun mv i wr => ∃ (j u : Nat), j ≤ L ∧ i = .int .i64 j ∧ mv = .int .i64 u ∧ u ≤ 20000000 ∧ Hid (CountTo (1 + ndkX d x j) most u) ∧ Below (w.heap.size + 1) (w.alloc (.cells #[.int .i64 k, .int .i64 n, .string m, .string s, .slice a L cap] 29)) wr) (fun _ i _ => L - (intOf i).toNat)
    case atStart => exact ⟨0, 1, Nat.zero_le _, rfl, rfl, by omega, Lib.hid (by rw [ndkX_zero]; exact ⟨fun _ => rfl, fun h => h, Nat.le_refl _⟩), Below.refl _ _⟩
    case round =>
      obtain ⟨j, u, hj, rfl, rfl, hm2, hcm, hB⟩ := hrel
      have HB := Lib.hid hB
      have HW := Lib.hid (below_one hB)
      obtain ⟨x0, x1, x2, x3, x4, xz⟩ := box5_kept hB
      clear hB
      by_cases hlt : j < L
      · have hji : (j : Int) < (L : Int) := by omega
        by_cases hmm : u ≤ most
        · have hmi : (u : Int) ≤ D := by have := HMOST.out; omega
          obtain ⟨b, o, cap2, vi, ex, bl, ⟨y0, y1, y2, y3, y4⟩, hkid⟩ := (HX.out.kept HW.out).kid j (by rw [HL.out]; exact hlt)
          have ex1 : a = some ⟨b, o, none⟩ := by injection ex
          subst ex1
          clear ex
          obtain ⟨y, hy⟩ : ∃ y, x.ks.getD j Ex.dummy = y := ⟨_, rfl⟩
          have hxs : shpX d y = true := by rw [← hy]; exact HKIDS.out j (by rw [HL.out]; exact hlt)
          rw [hy] at y0 y1 y2 y3 hkid
          obtain ⟨ai, ci, rfl, hli⟩ := hkid.slice
          have HXK := Lib.hid hy
          have HKID := Lib.hid hkid
          have HXS := Lib.hid hxs
          have HSUB : Hid (D - (u : Int) = ((most - u : Nat) : Int)) := Lib.hid (by have := HMOST.out; omega)
          have hnd1 : ndX d y ≤ 16777216 := ndX_le (by omega) hxs
          clear hy hkid hxs
          go_wp2_with fail
          go_at_call 46
          refine (HIH.out (D - (u : Int)) (most - u) y _ _ HSUB.out (by omega) (by omega) HXS.out HKID.out).mono ?_
          rintro e w2 ⟨c, rfl, hc, hb2⟩
          have hc3 := hc.2.2
          have hcq : c ≤ 16777216 := by omega
          have HCN : Hid (CountTo (1 + ndkX d x (j + 1)) most (u + c)) := Lib.hid (by
            obtain ⟨g1, g2, g3⟩ := hcm.out
            obtain ⟨k1, k2, k3⟩ := hc
            rw [ndkX_succ, HXK.out]
            have hml : 1 + ndkX d x j ≤ most := by
              rcases Nat.lt_or_ge most (1 + ndkX d x j) with h | h
              · have := g2 h; omega
              · exact h
            have hme := g1 hml
            refine ⟨fun h => ?_, fun h => ?_, by omega⟩
            · have := k1 (by omega); omega
            · have := k2 (by omega); omega)
          have hmc : u + c ≤ 20000000 := by
            have h1 := HCN.out.2.2
            have h2 := ndkX_mono d x (show j + 1 ≤ x.ks.length by rw [HL.out]; omega)
            have h3 := HND.out
            rw [ndX_succ] at h3
            omega
          have HB2 := Lib.hid (HB.out.trans (hb2.mono (by have := HB.out.size; simp at this; omega)))
          clear hb2 hc hc3 hcm hnd1
          go_wp2_with fail
          exact ⟨⟨j + 1, u + c, by omega, by go_num, by go_num, hmc, HCN, HB2.out⟩, by simp [intOf]; omega⟩
        · have hmi : ¬ (u : Int) ≤ D := by have := HMOST.out; omega
          have HC : Hid (CountTo (1 + ndkX d x L) most u) := Lib.hid (by
            obtain ⟨g1, g2, g3⟩ := hcm.out
            have h2 := ndkX_mono d x hj
            refine ⟨fun h => ?_, fun _ => by omega, by omega⟩
            have := g1 (by omega)
            omega)
          clear hcm hlt hmm
          go_wp2_with fail
          go_ret
          exact ⟨u, rfl, HC.out, HW.out⟩
      · have hji : ¬ (j : Int) < (L : Int) := by omega
        have hjl : j = L := by omega
        have HC : Hid (CountTo (1 + ndkX d x L) most u) := Lib.hid (by have := hcm.out; rwa [hjl] at this)
        clear hcm hlt hjl
        go_wp2_with fail
        go_ret
        exact ⟨u, rfl, HC.out, HW.out⟩

end Go.Proofs.YtmoclinccmhijaaDoor.Ox
