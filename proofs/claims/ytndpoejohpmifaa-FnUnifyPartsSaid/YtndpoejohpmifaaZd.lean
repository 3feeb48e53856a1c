/-
  TypeValid of the program and of the model: for every type in memory, whether it is valid; what was in memory stays.
-/
import Derived.Test.YtndpoejohpmifaaZc
import Derived.BigQuiet
import Derived.Deep.RegionHeld3
import Derived.Deep.DeepCutAuto
namespace Go.Proofs.Ytndpoejohpmifaa
open Go.RowKit

theorem fieldsB_of {k n : Int} {l : Nat} (h1 : kidsNo k = l) (h2 : 0 ≤ n) (h3 : n ≤ 25) (h4 : k = 4 ∨ n = 0) : fieldsB k n l = true := by
  rw [fieldsB_iff]
  unfold kidsNo at h1
  split at h1
  · omega
  · split at h1 <;> omega
theorem fieldsB_kids {k n : Int} {l : Nat} (h : fieldsB k n l = true) : kidsNo k = l ∧ 0 ≤ n ∧ n ≤ 25 ∧ (k = 4 ∨ n = 0) := by
  rw [fieldsB_iff] at h
  unfold kidsNo
  rcases h with ⟨rfl, rfl, rfl⟩ | ⟨rfl | rfl, rfl, rfl⟩ | ⟨rfl, h1, h2, rfl⟩
  · simp
  · simp
  · simp
  · exact ⟨by simp, h1, h2, .inl rfl⟩
theorem fieldsB_not {k n : Int} {l : Nat} (h : ¬ (kidsNo k = l ∧ 0 ≤ n ∧ n ≤ 25 ∧ (k = 4 ∨ n = 0))) : fieldsB k n l = false := by
  rcases hf : fieldsB k n l with _ | _
  · rfl
  · exact absurd (fieldsB_kids hf) h
theorem l2Kids_q {k K : Int} (h : kidsNo k = K) (w : World) : Calls Try.prog 78 #[.int .i64 k] w fun e w' => e = .returned (.int .i64 K) ∧ w' = w :=
  (l2Kids_any k w).mono fun e w' ⟨h1, h2⟩ => ⟨by rw [h1, h], h2.symm⟩

set_option maxRecDepth 100000 in
set_option maxHeartbeats 1000000 in
theorem l2Shape_s0 (k n D K : Int) (L : Nat) (a : Option Addr) (cap : Nat) (w : World) (hK : kidsNo k = K) (d0 : decide (D < 1) = true) :
    Calls Try.prog 43 #[.agg #[.int .i64 k, .int .i64 n, .slice a L cap], .int .i64 D] w fun e w' => e = .returned (.bool false) ∧ Below w.heap.size w w' := by
  have HKN := Lib.hid hK
  clear hK
  go_enter Try.func43, Try.ntmps43
  go_wp2_with fail
  go_quiet ((go_at_call 78; exact Calls.quiet_of_same (l2Kids_q HKN.out _)))
  all_goals go_wp2_with fail
  all_goals go_ret
  all_goals exact ⟨rfl, (by first | exact ((Below.refl _ _).alloc (Nat.le_refl _) _) | exact ((Below.refl _ _).alloc (Nat.le_refl _) _).drew | exact below_drewN ((Below.refl _ _).alloc (Nat.le_refl _) _) _)⟩

set_option maxRecDepth 100000 in
set_option maxHeartbeats 1000000 in
theorem l2Shape_s1 (k n D K : Int) (L : Nat) (a : Option Addr) (cap : Nat) (w : World) (hK : kidsNo k = K) (d0 : decide (D < 1) = false) (e0 : (K != (L : Int)) = true) :
    Calls Try.prog 43 #[.agg #[.int .i64 k, .int .i64 n, .slice a L cap], .int .i64 D] w fun e w' => e = .returned (.bool false) ∧ Below w.heap.size w w' := by
  have HKN := Lib.hid hK
  clear hK
  go_enter Try.func43, Try.ntmps43
  go_wp2_with fail
  go_quiet ((go_at_call 78; exact Calls.quiet_of_same (l2Kids_q HKN.out _)))
  all_goals go_wp2_with fail
  all_goals go_ret
  all_goals exact ⟨rfl, (by first | exact ((Below.refl _ _).alloc (Nat.le_refl _) _) | exact ((Below.refl _ _).alloc (Nat.le_refl _) _).drew | exact below_drewN ((Below.refl _ _).alloc (Nat.le_refl _) _) _)⟩

set_option maxRecDepth 100000 in
set_option maxHeartbeats 1000000 in
theorem l2Shape_s2 (k n D K : Int) (L : Nat) (a : Option Addr) (cap : Nat) (w : World) (hK : kidsNo k = K) (d0 : decide (D < 1) = false) (e0 : (K != (L : Int)) = false) (n0 : decide (n < 0) = true) :
    Calls Try.prog 43 #[.agg #[.int .i64 k, .int .i64 n, .slice a L cap], .int .i64 D] w fun e w' => e = .returned (.bool false) ∧ Below w.heap.size w w' := by
  have HKN := Lib.hid hK
  clear hK
  go_enter Try.func43, Try.ntmps43
  go_wp2_with fail
  go_quiet ((go_at_call 78; exact Calls.quiet_of_same (l2Kids_q HKN.out _)))
  all_goals go_wp2_with fail
  all_goals go_ret
  all_goals exact ⟨rfl, (by first | exact ((Below.refl _ _).alloc (Nat.le_refl _) _) | exact ((Below.refl _ _).alloc (Nat.le_refl _) _).drew | exact below_drewN ((Below.refl _ _).alloc (Nat.le_refl _) _) _)⟩

set_option maxRecDepth 100000 in
set_option maxHeartbeats 1000000 in
theorem l2Shape_s3 (k n D K : Int) (L : Nat) (a : Option Addr) (cap : Nat) (w : World) (hK : kidsNo k = K) (d0 : decide (D < 1) = false) (e0 : (K != (L : Int)) = false) (n0 : decide (n < 0) = false) (m0 : decide (25 < n) = true) :
    Calls Try.prog 43 #[.agg #[.int .i64 k, .int .i64 n, .slice a L cap], .int .i64 D] w fun e w' => e = .returned (.bool false) ∧ Below w.heap.size w w' := by
  have HKN := Lib.hid hK
  clear hK
  go_enter Try.func43, Try.ntmps43
  go_wp2_with fail
  go_quiet ((go_at_call 78; exact Calls.quiet_of_same (l2Kids_q HKN.out _)))
  all_goals go_wp2_with fail
  all_goals go_ret
  all_goals exact ⟨rfl, (by first | exact ((Below.refl _ _).alloc (Nat.le_refl _) _) | exact ((Below.refl _ _).alloc (Nat.le_refl _) _).drew | exact below_drewN ((Below.refl _ _).alloc (Nat.le_refl _) _) _)⟩

set_option maxRecDepth 100000 in
set_option maxHeartbeats 1000000 in
theorem l2Shape_s4 (k n D K : Int) (L : Nat) (a : Option Addr) (cap : Nat) (w : World) (hK : kidsNo k = K) (d0 : decide (D < 1) = false) (e0 : (K != (L : Int)) = false) (n0 : decide (n < 0) = false) (m0 : decide (25 < n) = false) (k4 : (k != 4) = true) (nz : (n != 0) = true) :
    Calls Try.prog 43 #[.agg #[.int .i64 k, .int .i64 n, .slice a L cap], .int .i64 D] w fun e w' => e = .returned (.bool false) ∧ Below w.heap.size w w' := by
  have HKN := Lib.hid hK
  clear hK
  go_enter Try.func43, Try.ntmps43
  go_wp2_with fail
  go_quiet ((go_at_call 78; exact Calls.quiet_of_same (l2Kids_q HKN.out _)))
  all_goals go_wp2_with fail
  all_goals go_ret
  all_goals exact ⟨rfl, (by first | exact ((Below.refl _ _).alloc (Nat.le_refl _) _) | exact ((Below.refl _ _).alloc (Nat.le_refl _) _).drew | exact below_drewN ((Below.refl _ _).alloc (Nat.le_refl _) _) _)⟩

set_option maxRecDepth 100000 in
set_option maxHeartbeats 4000000 in
theorem l2Shape_ok4 (d : Nat) (D : Int) (t : Ty) (k n K : Int) (L : Nat) (a : Option Addr) (cap : Nat) (w : World) (hx : TyAt w t (.slice a L cap)) (hL : t.ks.length = L) (hlen : L ≤ 9223372036854775807) (hD : D - 1 = (d : Int)) (hD1 : 1 ≤ D) (hD4 : D ≤ 16)
    (hF : fieldsB t.k t.n t.ks.length = true)
    (ih : ∀ (D : Int) (t : Ty) (v : Value) (w : World), D = d → d ≤ 16 → TyAt w t v → Calls Try.prog 43 #[.agg #[.int .i64 t.k, .int .i64 t.n, v], .int .i64 D] w fun e w' => e = .returned (.bool (shp d t)) ∧ Below w.heap.size w w')
    (hK : kidsNo k = K) (d0 : decide (D < 1) = false) (e0 : (K != (L : Int)) = false) (n0 : decide (n < 0) = false) (m0 : decide (25 < n) = false) (k4 : (k != 4) = false) :
    Calls Try.prog 43 #[.agg #[.int .i64 k, .int .i64 n, .slice a L cap], .int .i64 D] w fun e w' => e = .returned (.bool (shp (d + 1) t)) ∧ Below w.heap.size w w' := by
  have HKN := Lib.hid hK
  have HX := Lib.hid hx
  have HL := Lib.hid hL
  have HF := Lib.hid hF
  have HD1 := Lib.hid hD
  have HIH := Lib.hid ih
  have hd : d ≤ 16 := by omega
  clear hK hx hL hF hD ih
  go_enter Try.func43, Try.ntmps43
  go_wp2_with fail
  go_quiet ((go_at_call 78; exact Calls.quiet_of_same (l2Kids_q HKN.out _)))
  go_wp2_with fail
  go_loopw [5] (fun i wr => ∃ (j : Nat), j ≤ L ∧ i = .int .i64 j ∧ Hid (∀ i, i < j → shp d (t.ks.getD i Ty.dummy) = true) ∧ Below (w.heap.size + 1) (w.alloc (.cells #[.int .i64 k, .int .i64 n, .slice a L cap] 25)) wr) (fun i _ => L - (intOf i).toNat)
  case atStart => exact ⟨0, Nat.zero_le _, rfl, Lib.hid (fun i hi => absurd hi (Nat.not_lt_zero _)), by first | exact Below.refl _ _ | exact (Below.refl _ _).drew | exact below_drewN (Below.refl _ _) _⟩
  case round =>
    obtain ⟨j, hj, rfl, hall, hB⟩ := hrel
    have HB := Lib.hid hB
    have HW := Lib.hid (below_one hB)
    obtain ⟨x0, x1, x2, xz⟩ := box_kept hB
    clear hB
    by_cases hlt : j < L
    · have hji : (j : Int) < (L : Int) := by omega
      obtain ⟨b, o, cap2, vi, ex, bl, y0, y1, y2, hkid⟩ := (HX.out.kept HW.out).kid j (by rw [HL.out]; exact hlt)
      have ex1 : a = some ⟨b, o, none⟩ := by injection ex
      subst ex1
      clear ex
      obtain ⟨x, hx⟩ : ∃ x, t.ks.getD j Ty.dummy = x := ⟨_, rfl⟩
      rw [hx] at y0 y1 hkid
      obtain ⟨ai, ci, rfl, hli⟩ := hkid.slice
      have HXK := Lib.hid hx
      have HKID := Lib.hid hkid
      clear hx hkid
      rcases hs : shp d x with _ | _
      · have HSH := Lib.hid hs
        have HS : Hid (shp (d + 1) t = false) := Lib.hid (shp_kid_no (i := j) (by rw [HL.out]; exact hlt) (by rw [HXK.out]; exact hs))
        clear hs
        go_wp2_with fail
        go_at_call 43
        refine (HIH.out (D - 1) x _ _ HD1.out hd HKID.out).mono ?_
        rintro e w2 ⟨rfl, hb2⟩
        rw [HSH.out]
        have HB2 := Lib.hid (HW.out.trans (hb2.mono HW.out.size))
        clear hb2
        go_wp2_with fail
        go_ret
        exact ⟨ret_bz HS.out.symm, HB2.out⟩
      · have HSH := Lib.hid hs
        have HALL : Hid (∀ i, i < j + 1 → shp d (t.ks.getD i Ty.dummy) = true) := Lib.hid (fun i hi => by
          rcases Nat.lt_or_ge i j with h | h
          · exact hall.out i h
          · have hij : i = j := by omega
            rw [hij, HXK.out]; exact HSH.out)
        clear hs hall
        go_wp2_with fail
        go_at_call 43
        refine (HIH.out (D - 1) x _ _ HD1.out hd HKID.out).mono ?_
        rintro e w2 ⟨rfl, hb2⟩
        rw [HSH.out]
        have HB2 := Lib.hid (HB.out.trans (hb2.mono (by have := HB.out.size; simp at this; omega)))
        clear hb2
        go_wp2_with fail
        exact ⟨⟨j + 1, by omega, by go_num, HALL, HB2.out⟩, by simp [intOf]; omega⟩
    · have hji : ¬ (j : Int) < (L : Int) := by omega
      have HS : Hid (shp (d + 1) t = true) := Lib.hid (shp_iff.2 ⟨HF.out, fun i hi => hall.out i (by rw [HL.out] at hi; omega)⟩)
      clear hlt hall
      go_wp2_with fail
      go_ret
      exact ⟨ret_bz HS.out.symm, HW.out⟩

set_option maxRecDepth 100000 in
set_option maxHeartbeats 4000000 in
theorem l2Shape_ok5 (d : Nat) (D : Int) (t : Ty) (k n K : Int) (L : Nat) (a : Option Addr) (cap : Nat) (w : World) (hx : TyAt w t (.slice a L cap)) (hL : t.ks.length = L) (hlen : L ≤ 9223372036854775807) (hD : D - 1 = (d : Int)) (hD1 : 1 ≤ D) (hD4 : D ≤ 16)
    (hF : fieldsB t.k t.n t.ks.length = true)
    (ih : ∀ (D : Int) (t : Ty) (v : Value) (w : World), D = d → d ≤ 16 → TyAt w t v → Calls Try.prog 43 #[.agg #[.int .i64 t.k, .int .i64 t.n, v], .int .i64 D] w fun e w' => e = .returned (.bool (shp d t)) ∧ Below w.heap.size w w')
    (hK : kidsNo k = K) (d0 : decide (D < 1) = false) (e0 : (K != (L : Int)) = false) (n0 : decide (n < 0) = false) (m0 : decide (25 < n) = false) (k4 : (k != 4) = true) (nz : (n != 0) = false) :
    Calls Try.prog 43 #[.agg #[.int .i64 k, .int .i64 n, .slice a L cap], .int .i64 D] w fun e w' => e = .returned (.bool (shp (d + 1) t)) ∧ Below w.heap.size w w' := by
  have HKN := Lib.hid hK
  have HX := Lib.hid hx
  have HL := Lib.hid hL
  have HF := Lib.hid hF
  have HD1 := Lib.hid hD
  have HIH := Lib.hid ih
  have hd : d ≤ 16 := by omega
  clear hK hx hL hF hD ih
  go_enter Try.func43, Try.ntmps43
  go_wp2_with fail
  go_quiet ((go_at_call 78; exact Calls.quiet_of_same (l2Kids_q HKN.out _)))
  go_wp2_with fail
  go_loopw [5] (fun i wr => ∃ (j : Nat), j ≤ L ∧ i = .int .i64 j ∧ Hid (∀ i, i < j → shp d (t.ks.getD i Ty.dummy) = true) ∧ Below (w.heap.size + 1) (w.alloc (.cells #[.int .i64 k, .int .i64 n, .slice a L cap] 25)) wr) (fun i _ => L - (intOf i).toNat)
  case atStart => exact ⟨0, Nat.zero_le _, rfl, Lib.hid (fun i hi => absurd hi (Nat.not_lt_zero _)), by first | exact Below.refl _ _ | exact (Below.refl _ _).drew | exact below_drewN (Below.refl _ _) _⟩
  case round =>
    obtain ⟨j, hj, rfl, hall, hB⟩ := hrel
    have HB := Lib.hid hB
    have HW := Lib.hid (below_one hB)
    obtain ⟨x0, x1, x2, xz⟩ := box_kept hB
    clear hB
    by_cases hlt : j < L
    · have hji : (j : Int) < (L : Int) := by omega
      obtain ⟨b, o, cap2, vi, ex, bl, y0, y1, y2, hkid⟩ := (HX.out.kept HW.out).kid j (by rw [HL.out]; exact hlt)
      have ex1 : a = some ⟨b, o, none⟩ := by injection ex
      subst ex1
      clear ex
      obtain ⟨x, hx⟩ : ∃ x, t.ks.getD j Ty.dummy = x := ⟨_, rfl⟩
      rw [hx] at y0 y1 hkid
      obtain ⟨ai, ci, rfl, hli⟩ := hkid.slice
      have HXK := Lib.hid hx
      have HKID := Lib.hid hkid
      clear hx hkid
      rcases hs : shp d x with _ | _
      · have HSH := Lib.hid hs
        have HS : Hid (shp (d + 1) t = false) := Lib.hid (shp_kid_no (i := j) (by rw [HL.out]; exact hlt) (by rw [HXK.out]; exact hs))
        clear hs
        go_wp2_with fail
        go_at_call 43
        refine (HIH.out (D - 1) x _ _ HD1.out hd HKID.out).mono ?_
        rintro e w2 ⟨rfl, hb2⟩
        rw [HSH.out]
        have HB2 := Lib.hid (HW.out.trans (hb2.mono HW.out.size))
        clear hb2
        go_wp2_with fail
        go_ret
        exact ⟨ret_bz HS.out.symm, HB2.out⟩
      · have HSH := Lib.hid hs
        have HALL : Hid (∀ i, i < j + 1 → shp d (t.ks.getD i Ty.dummy) = true) := Lib.hid (fun i hi => by
          rcases Nat.lt_or_ge i j with h | h
          · exact hall.out i h
          · have hij : i = j := by omega
            rw [hij, HXK.out]; exact HSH.out)
        clear hs hall
        go_wp2_with fail
        go_at_call 43
        refine (HIH.out (D - 1) x _ _ HD1.out hd HKID.out).mono ?_
        rintro e w2 ⟨rfl, hb2⟩
        rw [HSH.out]
        have HB2 := Lib.hid (HB.out.trans (hb2.mono (by have := HB.out.size; simp at this; omega)))
        clear hb2
        go_wp2_with fail
        exact ⟨⟨j + 1, by omega, by go_num, HALL, HB2.out⟩, by simp [intOf]; omega⟩
    · have hji : ¬ (j : Int) < (L : Int) := by omega
      have HS : Hid (shp (d + 1) t = true) := Lib.hid (shp_iff.2 ⟨HF.out, fun i hi => hall.out i (by rw [HL.out] at hi; omega)⟩)
      clear hlt hall
      go_wp2_with fail
      go_ret
      exact ⟨ret_bz HS.out.symm, HW.out⟩

theorem l2Shape_any : ∀ (d : Nat) (D : Int) (t : Ty) (v : Value) (w : World), D = d → d ≤ 16 → TyAt w t v →
    Calls Try.prog 43 #[.agg #[.int .i64 t.k, .int .i64 t.n, v], .int .i64 D] w fun e w' => e = .returned (.bool (shp d t)) ∧ Below w.heap.size w w' := by
  intro d
  induction d with
  | zero =>
    intro D t v w hD hd hx
    obtain ⟨a, cap, rfl, hlen⟩ := hx.slice
    exact l2Shape_s0 t.k t.n D _ t.ks.length a cap w rfl (decide_eq_true (by omega))
  | succ d ih =>
    intro D t v w hD hd hx
    obtain ⟨a, cap, rfl, hlen⟩ := hx.slice
    have d0 : decide (D < 1) = false := decide_eq_false (by omega)
    have fin : ∀ (h : Calls Try.prog 43 #[.agg #[.int .i64 t.k, .int .i64 t.n, .slice a t.ks.length cap], .int .i64 D] w fun e w' => e = .returned (.bool false) ∧ Below w.heap.size w w') (hf : fieldsB t.k t.n t.ks.length = false),
        Calls Try.prog 43 #[.agg #[.int .i64 t.k, .int .i64 t.n, .slice a t.ks.length cap], .int .i64 D] w fun e w' => e = .returned (.bool (shp (d + 1) t)) ∧ Below w.heap.size w w' := by
      intro h hf
      rw [shp_fields hf]; exact h
    by_cases h1 : kidsNo t.k = (t.ks.length : Int)
    case neg => exact fin (l2Shape_s1 t.k t.n D _ t.ks.length a cap w rfl d0 (by simpa using h1)) (fieldsB_not (fun h => h1 h.1))
    have e0 : (kidsNo t.k != (t.ks.length : Int)) = false := by simpa using h1
    by_cases h2 : t.n < 0
    case pos => exact fin (l2Shape_s2 t.k t.n D _ t.ks.length a cap w rfl d0 e0 (decide_eq_true h2)) (fieldsB_not (fun h => by have := h.2.1; omega))
    have n0 : decide (t.n < 0) = false := decide_eq_false h2
    by_cases h3 : 25 < t.n
    case pos => exact fin (l2Shape_s3 t.k t.n D _ t.ks.length a cap w rfl d0 e0 n0 (decide_eq_true h3)) (fieldsB_not (fun h => by have := h.2.2.1; omega))
    have m0 : decide (25 < t.n) = false := decide_eq_false h3
    by_cases h4 : t.k = 4
    · exact l2Shape_ok4 d D t t.k t.n _ t.ks.length a cap w hx rfl hlen (by omega) (by omega) (by omega) (fieldsB_of h1 (by omega) (by omega) (.inl h4)) ih rfl d0 e0 n0 m0 (by simpa using h4)
    · by_cases h5 : t.n = 0
      · exact l2Shape_ok5 d D t t.k t.n _ t.ks.length a cap w hx rfl hlen (by omega) (by omega) (by omega) (fieldsB_of h1 (by omega) (by omega) (.inr h5)) ih rfl d0 e0 n0 m0 (by simpa using h4) (by simpa using h5)
      · exact fin (l2Shape_s4 t.k t.n D _ t.ks.length a cap w rfl d0 e0 n0 m0 (by simpa using h4) (by simpa using h5)) (fieldsB_not (fun h => by rcases h.2.2.2 with h | h; exact h4 h; exact h5 h))

end Go.Proofs.Ytndpoejohpmifaa
