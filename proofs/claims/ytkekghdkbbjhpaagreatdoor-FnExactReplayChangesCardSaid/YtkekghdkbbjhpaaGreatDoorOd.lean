/-
  exprNodes: the nodes of an expression, if there are at most 60 and they are right down to a depth.
-/
import Derived.Test.YtkekghdkbbjhpaaGreatDoorOc
import Derived.Test.YtkekghdkbbjhpaaGreatDoorEh
import Derived.Test.YtkekghdkbbjhpaaGreatDoorZe
namespace Go.Proofs.YtkekghdkbbjhpaaGreatDoor.Ox
open Go.Proofs.YtkekghdkbbjhpaaGreatDoor
open Go.RowKit
set_option linter.unusedVariables false
set_option linter.unusedSimpArgs false

theorem fields_len {k n : Int} {m s : ByteArray} {l : Nat} (h : fieldsX k n m s l = true) : l ≤ 3 := by
  unfold fieldsX fit1 fit2 fitB at h
  repeat' split at h
  all_goals first | (simp only [Bool.and_eq_true, decide_eq_true_eq] at h; omega) | cases h
/-- Whether the nodes are right, down to a depth. -/
def shpX : Nat → Ex → Bool
  | 0, _ => false
  | d + 1, x => fieldsX x.k x.n x.m x.s x.ks.length && (List.range x.ks.length).all fun i => shpX d (x.ks.getD i Ex.dummy)
/-- The number of nodes, down to a depth. -/
def ndX : Nat → Ex → Nat
  | 0, _ => 1
  | d + 1, x => 1 + ((List.range x.ks.length).map fun i => ndX d (x.ks.getD i Ex.dummy)).sum
def ndkX (d : Nat) (x : Ex) (j : Nat) : Nat := ((List.range j).map fun i => ndX d (x.ks.getD i Ex.dummy)).sum
theorem ndkX_zero (d : Nat) (x : Ex) : ndkX d x 0 = 0 := rfl
theorem ndkX_succ (d : Nat) (x : Ex) (j : Nat) : ndkX d x (j + 1) = ndkX d x j + ndX d (x.ks.getD j Ex.dummy) := by
  unfold ndkX; rw [List.range_succ, List.map_append, List.sum_append]; simp
theorem ndX_succ (d : Nat) (x : Ex) : ndX (d + 1) x = 1 + ndkX d x x.ks.length := rfl
theorem ndkX_mono (d : Nat) (x : Ex) {i j : Nat} (h : i ≤ j) : ndkX d x i ≤ ndkX d x j := by
  induction h with
  | refl => exact Nat.le_refl _
  | step _ ih => rw [ndkX_succ]; omega
theorem shpX_iff {d : Nat} {x : Ex} : shpX (d + 1) x = true ↔ fieldsX x.k x.n x.m x.s x.ks.length = true ∧ ∀ i, i < x.ks.length → shpX d (x.ks.getD i Ex.dummy) = true := by
  simp only [shpX, Bool.and_eq_true, List.all_eq_true, List.mem_range]
theorem shpX_fields {d : Nat} {x : Ex} (h : fieldsX x.k x.n x.m x.s x.ks.length = false) : shpX (d + 1) x = false := by
  simp only [shpX, h, Bool.false_and]
theorem shpX_kid_no {d : Nat} {x : Ex} {i : Nat} (hi : i < x.ks.length) (h : shpX d (x.ks.getD i Ex.dummy) = false) : shpX (d + 1) x = false := by
  rcases hs : shpX (d + 1) x with _ | _
  · rfl
  · have := (shpX_iff.1 hs).2 i hi; rw [h] at this; cases this
theorem ndX_lt : ∀ (d : Nat) (x : Ex), shpX d x = true → ndX d x + 1 ≤ 4 ^ d := by
  intro d
  induction d with
  | zero => intro x h; cases h
  | succ d ih =>
    intro x h
    obtain ⟨hf, hk⟩ := shpX_iff.1 h
    have hl := fields_len hf
    have key : ∀ j, j ≤ x.ks.length → ndkX d x j + j ≤ j * 4 ^ d := by
      intro j
      induction j with
      | zero => intro _; simp [ndkX_zero]
      | succ j ihj =>
        intro hj
        have h1 := ihj (by omega)
        have h2 := ih _ (hk j (by omega))
        rw [ndkX_succ, Nat.succ_mul]
        omega
    have h1 := key _ (Nat.le_refl _)
    rw [ndX_succ]
    have h2 : 4 ^ (d + 1) = 4 * 4 ^ d := by rw [Nat.pow_succ]; omega
    have h3 : x.ks.length * 4 ^ d ≤ 3 * 4 ^ d := Nat.mul_le_mul_right _ hl
    have h4 : 0 < 4 ^ d := Nat.pow_pos (by omega)
    rw [h2]
    rcases Nat.eq_zero_or_pos x.ks.length with hz | hz
    · rw [hz] at h1 ⊢
      simp only [ndkX_zero]
      omega
    · omega
theorem four_pow_le {d : Nat} (h : d ≤ 12) : 4 ^ d ≤ 16777216 := Nat.le_trans (Nat.pow_le_pow_right (by omega) h) (by decide)
theorem ndX_le {d : Nat} {x : Ex} (hd : d ≤ 12) (h : shpX d x = true) : ndX d x ≤ 16777216 := by
  have h1 := ndX_lt d x h
  have h2 := four_pow_le hd
  omega
/-- Right down to a depth, and of at most 60 nodes. -/
def okX (d : Nat) (x : Ex) : Bool := shpX d x && decide (ndX d x ≤ 60)
def nvX (d : Nat) (x : Ex) : Int := if okX d x = true then (ndX d x : Int) else 0
theorem nvX_yes {d : Nat} {x : Ex} (h : okX d x = true) : nvX d x = ndX d x := by unfold nvX; rw [if_pos h]
theorem nvX_no {d : Nat} {x : Ex} (h : okX d x = false) : nvX d x = 0 := by unfold nvX; rw [if_neg (by simp [h])]
theorem okX_iff {d : Nat} {x : Ex} : okX d x = true ↔ shpX d x = true ∧ ndX d x ≤ 60 := by unfold okX; rw [Bool.and_eq_true, decide_eq_true_eq]
theorem okX_no {d : Nat} {x : Ex} (h : ¬ (shpX d x = true ∧ ndX d x ≤ 60)) : okX d x = false := by
  rcases e : okX d x with _ | _
  · rfl
  · exact absurd (okX_iff.1 e) h
theorem okX_kid {d : Nat} {x : Ex} {j : Nat} (hj : j < x.ks.length) (h : okX d (x.ks.getD j Ex.dummy) = false) : okX (d + 1) x = false := by
  refine okX_no (fun ⟨h1, h2⟩ => ?_)
  have h3 := (shpX_iff.1 h1).2 j hj
  have h4 := ndkX_mono d x (show j + 1 ≤ x.ks.length from hj)
  rw [ndkX_succ] at h4
  rw [ndX_succ] at h2
  have : okX d (x.ks.getD j Ex.dummy) = true := okX_iff.2 ⟨h3, by omega⟩
  rw [h] at this
  cases this
def NxPost (d : Nat) (x : Ex) (w : World) (e : Ending) (w' : World) : Prop := e = .returned (.tuple #[.int .i64 (nvX d x), .bool (okX d x)]) ∧ Below w.heap.size w w'
theorem box5_kept {w wk : World} {x y m s z : Value} {T : TypeId} (h : Below (w.heap.size + 1) (w.alloc (.cells #[x, y, m, s, z] T)) wk) : EBox wk w.heap.size x y m s z := by
  have hw := ebox_new w x y m s z T
  exact ⟨(h.cell (p := ⟨w.heap.size, 0, none⟩) (Nat.lt_succ_self _)).trans hw.c0, (h.cell (p := ⟨w.heap.size, 1, none⟩) (Nat.lt_succ_self _)).trans hw.c1, (h.cell (p := ⟨w.heap.size, 2, none⟩) (Nat.lt_succ_self _)).trans hw.c2, (h.cell (p := ⟨w.heap.size, 3, none⟩) (Nat.lt_succ_self _)).trans hw.c3, (h.cell (p := ⟨w.heap.size, 4, none⟩) (Nat.lt_succ_self _)).trans hw.c4, by have := h.size; simp at this; omega⟩

set_option maxRecDepth 100000 in
set_option maxHeartbeats 4000000 in
theorem exprNodes_any : ∀ (d : Nat) (D : Int) (x : Ex) (v : Value) (w : World), D = d → d ≤ 12 → ExAt w x v →
    Calls Tryz.prog 195 #[.agg #[.int .i64 x.k, .int .i64 x.n, .string x.m, .string x.s, v], .int .i64 D] w (NxPost d x w) := by
  intro d
  induction d with
  | zero =>
    intro D x v w hD hd hx
    have HX := Lib.hid hx
    obtain ⟨a, cap, rfl, hlen⟩ := hx.slice
    obtain ⟨k, hk⟩ : ∃ k, x.k = k := ⟨_, rfl⟩
    obtain ⟨n, hn⟩ : ∃ n, x.n = n := ⟨_, rfl⟩
    obtain ⟨m, hm⟩ : ∃ m, x.m = m := ⟨_, rfl⟩
    obtain ⟨s, hs⟩ : ∃ s, x.s = s := ⟨_, rfl⟩
    obtain ⟨L, hL⟩ : ∃ L, x.ks.length = L := ⟨_, rfl⟩
    have HK := Lib.hid hk
    have HN := Lib.hid hn
    have HM := Lib.hid hm
    have HSS := Lib.hid hs
    have HL := Lib.hid hL
    rw [hk, hn, hm, hs, hL]
    rw [hL] at hlen
    clear hx hk hn hm hs hL
    have HV : Hid (nvX 0 x = 0) := Lib.hid (nvX_no rfl)
    have e0 : (D == 0) = true := by simp [hD]
    clear hD
    go_enter Tryz.func195, Tryz.ntmps195
    go_wp2_with fail
    exact bodyPost_ret (v := .tuple #[.int .i64 0, .bool false]) (by simp [results, Tryz.results195, go_sem]) rfl ⟨by rw [HV.out]; rfl, (Below.refl _ _).alloc (Nat.le_refl _) _⟩
  | succ d ih =>
    intro D x v w hD hd hx
    have HX := Lib.hid hx
    obtain ⟨a, cap, rfl, hlen⟩ := hx.slice
    obtain ⟨k, hk⟩ : ∃ k, x.k = k := ⟨_, rfl⟩
    obtain ⟨n, hn⟩ : ∃ n, x.n = n := ⟨_, rfl⟩
    obtain ⟨m, hm⟩ : ∃ m, x.m = m := ⟨_, rfl⟩
    obtain ⟨s, hs⟩ : ∃ s, x.s = s := ⟨_, rfl⟩
    obtain ⟨L, hL⟩ : ∃ L, x.ks.length = L := ⟨_, rfl⟩
    have HK := Lib.hid hk
    have HN := Lib.hid hn
    have HM := Lib.hid hm
    have HSS := Lib.hid hs
    have HL := Lib.hid hL
    rw [hk, hn, hm, hs, hL]
    rw [hL] at hlen
    clear hx hk hn hm hs hL
    have e0 : (D == 0) = false := by simp; omega
    have HD1 : Hid (D - 1 = (d : Int)) := Lib.hid (by omega)
    have hD3 : 1 ≤ D := by omega
    have hD4 : D ≤ 12 := by omega
    have HIH := Lib.hid ih
    clear ih
    rcases hf : fieldsX k n m s L with _ | _
    · have HF := Lib.hid hf
      have HS : Hid (okX (d + 1) x = false) := Lib.hid (okX_no (fun h => by
        have := shpX_fields (d := d) (x := x) (by rw [HK.out, HN.out, HM.out, HSS.out, HL.out]; exact hf)
        rw [this] at h
        cases h.1))
      clear hf hD
      go_enter Tryz.func195, Tryz.ntmps195
      go_wp2_with fail
      go_at_call 197
      refine (exprFieldsFit_any k n m s L a cap _ hlen).mono ?_
      rintro e w1 ⟨rfl, hb1⟩
      rw [HF.out]
      have HB1 : Hid (Below w.heap.size w w1) := Lib.hid (((Below.refl _ _).alloc (Nat.le_refl _) _).trans (hb1.mono (by simp)))
      clear hb1
      go_wp2_with fail
      exact bodyPost_ret (v := .tuple #[.int .i64 0, .bool false]) (by simp [results, Tryz.results195, go_sem]) rfl ⟨by rw [HS.out, nvX_no HS.out], HB1.out⟩
    · have HF := Lib.hid hf
      have hL2 : L ≤ 3 := fields_len hf
      clear hf hD
      go_enter Tryz.func195, Tryz.ntmps195
      go_wp2_with fail
      go_at_call 197
      refine (exprFieldsFit_any k n m s L a cap _ hlen).mono ?_
      rintro e w1 ⟨rfl, hb1⟩
      rw [HF.out]
      have HB1 : Hid (Below (w.heap.size + 1) (w.alloc (.cells #[.int .i64 k, .int .i64 n, .string m, .string s, .slice a L cap] 115)) w1) := Lib.hid (hb1.mono (by simp))
      clear hb1
      obtain ⟨x0, x1, x2, x3, x4, xz⟩ := box5_kept HB1.out
      go_wp2_with fail
      go_loopw [6, 21] (fun mv i wr => ∃ (j u : Nat), j ≤ L ∧ i = .int .i64 j ∧ mv = .int .i64 u ∧ u ≤ 60 ∧ Hid (u = 1 + ndkX d x j) ∧ Hid (∀ i, i < j → shpX d (x.ks.getD i Ex.dummy) = true) ∧ Below (w.heap.size + 1) (w.alloc (.cells #[.int .i64 k, .int .i64 n, .string m, .string s, .slice a L cap] 115)) wr) (fun _ i _ => L - (intOf i).toNat)
      case atStart => exact ⟨0, 1, Nat.zero_le _, rfl, rfl, by omega, Lib.hid rfl, Lib.hid (fun i hi => absurd hi (Nat.not_lt_zero _)), HB1.out⟩
      case round =>
        obtain ⟨j, u, hj, rfl, rfl, hu, hm, hall, hB⟩ := hrel
        have HB := Lib.hid hB
        have HW := Lib.hid (below_one hB)
        clear hB x0 x1 x2 x3 x4 xz
        by_cases hlt : j < L
        · have hji : (j : Int) < (L : Int) := by omega
          obtain ⟨b, o, cap2, vi, ex, bl, ⟨y0, y1, y2, y3, y4⟩, hkid⟩ := (HX.out.kept HW.out).kid j (by rw [HL.out]; exact hlt)
          have ex1 : a = some ⟨b, o, none⟩ := by injection ex
          subst ex1
          clear ex
          obtain ⟨y, hy⟩ : ∃ y, x.ks.getD j Ex.dummy = y := ⟨_, rfl⟩
          rw [hy] at y0 y1 y2 y3 hkid
          obtain ⟨ai, ci, rfl, hli⟩ := hkid.slice
          have HXK := Lib.hid hy
          have HKID := Lib.hid hkid
          clear hy hkid
          rcases hok : okX d y with _ | _
          · have HV := Lib.hid (nvX_no hok)
            have HSH := Lib.hid hok
            have HS : Hid (okX (d + 1) x = false) := Lib.hid (okX_kid (j := j) (by rw [HL.out]; exact hlt) (by rw [HXK.out]; exact hok))
            clear hok
            go_wp2_with fail
            go_at_call 195
            refine (HIH.out (D - 1) y _ _ HD1.out (by omega) (HKID.out.kept ((Below.refl _ _).alloc (Nat.le_refl _) _))).mono ?_
            rintro e w2 ⟨rfl, hb2⟩
            rw [HV.out, HSH.out]
            have HB2 := Lib.hid ((HW.out.alloc HW.out.size _).trans (hb2.mono (by have := HW.out.size; simp; omega)))
            clear hb2
            go_wp2_with fail
            exact bodyPost_ret (v := .tuple #[.int .i64 0, .bool false]) (by simp [results, Tryz.results195, go_sem]) rfl ⟨by rw [HS.out, nvX_no HS.out], HB2.out⟩
          · have HV := Lib.hid (nvX_yes hok)
            have HSH := Lib.hid hok
            obtain ⟨hs1, hs2⟩ := okX_iff.1 hok
            have HN2 : Hid (u + ndX d y = 1 + ndkX d x (j + 1)) := Lib.hid (by rw [ndkX_succ, HXK.out, hm.out]; omega)
            have HALL : Hid (∀ i, i < j + 1 → shpX d (x.ks.getD i Ex.dummy) = true) := Lib.hid (fun i hi => by
              rcases Nat.lt_or_ge i j with h | h
              · exact hall.out i h
              · have hij : i = j := by omega
                rw [hij, HXK.out]; exact hs1)
            obtain ⟨q, hq⟩ : ∃ q, ndX d y = q := ⟨_, rfl⟩
            rw [hq] at hs2 HV HN2
            clear hok hs1 hq hm hall
            by_cases hbig : u + q ≤ 60
            · have hbi : ¬ (60 : Int) < (u : Int) + (q : Int) := by omega
              go_wp2_with fail
              go_at_call 195
              refine (HIH.out (D - 1) y _ _ HD1.out (by omega) (HKID.out.kept ((Below.refl _ _).alloc (Nat.le_refl _) _))).mono ?_
              rintro e w2 ⟨rfl, hb2⟩
              rw [HV.out, HSH.out]
              have HB2 := Lib.hid ((HB.out.alloc (by have := HB.out.size; simpa using this) _).trans (hb2.mono (by have := HB.out.size; simp at this ⊢; omega)))
              clear hb2
              go_wp2_with fail
              exact ⟨⟨j + 1, u + q, by omega, by go_num, by go_num, hbig, HN2, HALL, HB2.out⟩, by simp [intOf]; omega⟩
            · have hbi : (60 : Int) < (u : Int) + (q : Int) := by omega
              have HS : Hid (okX (d + 1) x = false) := Lib.hid (okX_no (fun h => by
                have h2 := h.2
                have h3 := ndkX_mono d x (show j + 1 ≤ x.ks.length by rw [HL.out]; omega)
                have h4 := HN2.out
                rw [ndX_succ] at h2
                omega))
              clear hbig
              go_wp2_with fail
              go_at_call 195
              refine (HIH.out (D - 1) y _ _ HD1.out (by omega) (HKID.out.kept ((Below.refl _ _).alloc (Nat.le_refl _) _))).mono ?_
              rintro e w2 ⟨rfl, hb2⟩
              rw [HV.out, HSH.out]
              have HB2 := Lib.hid ((HW.out.alloc HW.out.size _).trans (hb2.mono (by have := HW.out.size; simp; omega)))
              clear hb2
              go_wp2_with fail
              exact bodyPost_ret (v := .tuple #[.int .i64 0, .bool false]) (by simp [results, Tryz.results195, go_sem]) rfl ⟨by rw [HS.out, nvX_no HS.out], HB2.out⟩
        · have hji : ¬ (j : Int) < (L : Int) := by omega
          have hjl : j = L := by omega
          have HNX : Hid (ndX (d + 1) x = u) := Lib.hid (by rw [ndX_succ, HL.out, hm.out, hjl])
          have HS : Hid (okX (d + 1) x = true) := Lib.hid (okX_iff.2 ⟨shpX_iff.2 ⟨by rw [HK.out, HN.out, HM.out, HSS.out, HL.out]; exact HF.out, fun i hi => hall.out i (by rw [HL.out] at hi; omega)⟩, by rw [HNX.out]; exact hu⟩)
          clear hlt hm hall hjl
          go_wp2_with fail
          exact bodyPost_ret (v := .tuple #[.int .i64 (u : Int), .bool true]) (by simp [results, Tryz.results195, go_sem]) rfl ⟨by rw [nvX_yes HS.out, HS.out, HNX.out], HW.out⟩

end Go.Proofs.YtkekghdkbbjhpaaGreatDoor.Ox
