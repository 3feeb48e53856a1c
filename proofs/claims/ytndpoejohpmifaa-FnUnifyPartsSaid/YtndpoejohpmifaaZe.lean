/-
  TypeValid of the program and of the model: for every type in memory, whether it is valid; what was in memory stays.
-/
import Derived.Test.YtndpoejohpmifaaZd
namespace Go.Proofs.Ytndpoejohpmifaa
open Go.RowKit

def CountPost (N : Nat) (most : Nat) (w : World) (e : Ending) (w' : World) : Prop := ∃ c : Nat, e = .returned (.int .i64 c) ∧ CountTo N most c ∧ Below w.heap.size w w'

set_option maxRecDepth 100000 in
set_option maxHeartbeats 2000000 in
theorem l2Count_any : ∀ (d : Nat) (M : Int) (most : Nat) (t : Ty) (v : Value) (w : World), M = most → most ≤ 63 → d ≤ 16 → shp d t = true → TyAt w t v →
    Calls Try.prog 44 #[.agg #[.int .i64 t.k, .int .i64 t.n, v], .int .i64 M] w (CountPost (nd d t) most w) := by
  intro d
  induction d with
  | zero => intro M most t v w _ _ _ hs _; cases hs
  | succ d ih =>
    intro M most t v w hM hmost hd hs hx
    have hnd := nd_le hd hs
    obtain ⟨hf, hkids⟩ := shp_iff.1 hs
    have hL2 := fieldsB_len hf
    have HKIDS := Lib.hid hkids
    have HND := Lib.hid hnd
    clear hs hf hkids hnd
    rw [show nd (d + 1) t = 1 + ndk d t t.ks.length from nd_succ d t]
    have HX := Lib.hid hx
    obtain ⟨a, cap, rfl, hlen⟩ := hx.slice
    obtain ⟨k, hk⟩ : ∃ k, t.k = k := ⟨_, rfl⟩
    obtain ⟨n, hn⟩ : ∃ n, t.n = n := ⟨_, rfl⟩
    obtain ⟨L, hL⟩ : ∃ L, t.ks.length = L := ⟨_, rfl⟩
    have HK := Lib.hid hk
    have HN := Lib.hid hn
    have HL := Lib.hid hL
    rw [hk, hn, hL]
    rw [hL] at hlen
    clear hx hk hn hL
    rw [HL.out] at hL2
    have HMOST := Lib.hid hM
    have hM0 : 0 ≤ M := by omega
    have hM1 : M ≤ 63 := by omega
    have HIH := Lib.hid ih
    clear ih hM
    go_enter Try.func44, Try.ntmps44
    go_wp2_with fail
    go_loopw [5, 6] (fun mv i wr => ∃ (j m : Nat), j ≤ L ∧ i = .int .i64 j ∧ mv = .int .i64 m ∧ m ≤ 70000 ∧ Hid (CountTo (1 + ndk d t j) most m) ∧ Below (w.heap.size + 1) (w.alloc (.cells #[.int .i64 k, .int .i64 n, .slice a L cap] 25)) wr) (fun _ i _ => L - (intOf i).toNat)
    case atStart => exact ⟨0, 1, Nat.zero_le _, rfl, rfl, by omega, Lib.hid (by rw [ndk_zero]; exact ⟨fun _ => rfl, fun h => h, Nat.le_refl _⟩), Below.refl _ _⟩
    case round =>
      obtain ⟨j, m, hj, rfl, rfl, hm2, hcm, hB⟩ := hrel
      have HB := Lib.hid hB
      have HW := Lib.hid (below_one hB)
      obtain ⟨x0, x1, x2, xz⟩ := box_kept hB
      clear hB
      by_cases hlt : j < L
      · have hji : (j : Int) < (L : Int) := by omega
        by_cases hmm : m ≤ most
        · have hmi : (m : Int) ≤ M := by have := HMOST.out; omega
          obtain ⟨b, o, cap2, vi, ex, bl, y0, y1, y2, hkid⟩ := (HX.out.kept HW.out).kid j (by rw [HL.out]; exact hlt)
          have ex1 : a = some ⟨b, o, none⟩ := by injection ex
          subst ex1
          clear ex
          obtain ⟨x, hx⟩ : ∃ x, t.ks.getD j Ty.dummy = x := ⟨_, rfl⟩
          have hxs : shp d x = true := by rw [← hx]; exact HKIDS.out j (by rw [HL.out]; exact hlt)
          rw [hx] at y0 y1 hkid
          obtain ⟨ai, ci, rfl, hli⟩ := hkid.slice
          have HXK := Lib.hid hx
          have HKID := Lib.hid hkid
          have HXS := Lib.hid hxs
          have HSUB : Hid (M - (m : Int) = ((most - m : Nat) : Int)) := Lib.hid (by have := HMOST.out; omega)
          have hnd1 : nd d x ≤ 65536 := nd_le (by omega) hxs
          clear hx hkid hxs
          go_wp2_with fail
          go_at_call 44
          refine (HIH.out (M - (m : Int)) (most - m) x _ _ HSUB.out (by omega) (by omega) HXS.out HKID.out).mono ?_
          rintro e w2 ⟨c, rfl, hc, hb2⟩
          have hc3 := hc.2.2
          have hcq : c ≤ 65536 := by omega
          have HCN : Hid (CountTo (1 + ndk d t (j + 1)) most (m + c)) := Lib.hid (by
            obtain ⟨g1, g2, g3⟩ := hcm.out
            obtain ⟨k1, k2, k3⟩ := hc
            rw [ndk_succ, HXK.out]
            have hml : 1 + ndk d t j ≤ most := by
              rcases Nat.lt_or_ge most (1 + ndk d t j) with h | h
              · have := g2 h; omega
              · exact h
            have hme := g1 hml
            refine ⟨fun h => ?_, fun h => ?_, by omega⟩
            · have := k1 (by omega); omega
            · have := k2 (by omega); omega)
          have hmc : m + c ≤ 70000 := by
            have h1 := HCN.out.2.2
            have h2 := ndk_mono d t (show j + 1 ≤ t.ks.length by rw [HL.out]; omega)
            have h3 := HND.out
            rw [nd_succ] at h3
            omega
          have HB2 := Lib.hid (HB.out.trans (hb2.mono (by have := HB.out.size; simp at this; omega)))
          clear hb2 hc hc3 hcm hnd1
          go_wp2_with fail
          exact ⟨⟨j + 1, m + c, by omega, by go_num, by go_num, hmc, HCN, HB2.out⟩, by simp [intOf]; omega⟩
        · have hmi : ¬ (m : Int) ≤ M := by have := HMOST.out; omega
          have HC : Hid (CountTo (1 + ndk d t L) most m) := Lib.hid (by
            obtain ⟨g1, g2, g3⟩ := hcm.out
            have h2 := ndk_mono d t hj
            refine ⟨fun h => ?_, fun _ => by omega, by omega⟩
            have := g1 (by omega)
            omega)
          clear hcm hlt hmm
          go_wp2_with fail
          go_ret
          exact ⟨m, rfl, HC.out, HW.out⟩
      · have hji : ¬ (j : Int) < (L : Int) := by omega
        have hjl : j = L := by omega
        have HC : Hid (CountTo (1 + ndk d t L) most m) := Lib.hid (by have := hcm.out; rwa [hjl] at this)
        clear hcm hlt hjl
        go_wp2_with fail
        go_ret
        exact ⟨m, rfl, HC.out, HW.out⟩

theorem l2Shape_val {t : Ty} {b : Bool} (hb : shp 16 t = b) (v : Value) (w : World) (hx : TyAt w t v) :
    Calls Try.prog 43 #[.agg #[.int .i64 t.k, .int .i64 t.n, v], .int .i64 16] w fun e w' => e = .returned (.bool b) ∧ Below w.heap.size w w' := by
  subst hb; exact l2Shape_any 16 16 t v w rfl (by omega) hx
theorem typeNodes_val {t : Ty} {b : Bool} {N : Int} (hb : shp 16 t = b) (hN : ndv 16 t = N) (v : Value) (w : World) (hx : TyAt w t v) :
    Calls Try.prog 42 #[.agg #[.int .i64 t.k, .int .i64 t.n, v], .int .i64 16] w fun e w' => e = .returned (.tuple #[.int .i64 N, .bool b]) ∧ Below w.heap.size w w' := by
  subst hb hN; exact typeNodes_any 16 16 t v w rfl (by omega) hx
theorem l2Count_val {t : Ty} {N : Nat} (hs : shp 16 t = true) (hN : nd 16 t = N) (v : Value) (w : World) (hx : TyAt w t v) :
    Calls Try.prog 44 #[.agg #[.int .i64 t.k, .int .i64 t.n, v], .int .i64 63] w (CountPost N 63 w) := by
  subst hN; exact l2Count_any 16 63 63 t v w rfl (by omega) (by omega) hs hx
theorem tvT_no {t : Ty} (h : shp 16 t = false) : tvT t = false := by unfold tvT; rw [h]; rfl
theorem tvT_yes {t : Ty} (h : shp 16 t = true) : tvT t = decide (nd 16 t ≤ 63) := by unfold tvT; rw [h]; rfl

set_option maxRecDepth 100000 in
set_option maxHeartbeats 1000000 in
theorem typeValid_spec (t : Ty) (v : Value) (w : World) (hx : TyAt w t v) :
    Calls Try.prog 16 #[.agg #[.int .i64 t.k, .int .i64 t.n, v]] w fun e w' => e = .returned (.bool (tvT t)) ∧ Below w.heap.size w w' := by
  obtain ⟨a, cap, rfl, hlen⟩ := hx.slice
  have HX := Lib.hid hx
  clear hx
  rcases hs : shp 16 t with _ | _
  · have HS := Lib.hid hs
    have HT := Lib.hid (tvT_no hs)
    clear hs
    go_enter Try.func16, Try.ntmps16
    go_wp2_with fail
    go_at_call 43
    refine (l2Shape_val HS.out _ _ (HX.out.kept ((Below.refl _ _).alloc (Nat.le_refl _) _))).mono ?_
    rintro e w1 ⟨rfl, hb1⟩
    have HB1 : Hid (Below w.heap.size w w1) := Lib.hid (((Below.refl _ _).alloc (Nat.le_refl _) _).trans (hb1.mono (by simp)))
    clear hb1
    go_wp2_with fail
    go_ret
    exact ⟨ret_bz HT.out.symm, HB1.out⟩
  · have HS := Lib.hid hs
    have HT := Lib.hid (tvT_yes hs)
    obtain ⟨N, hN⟩ : ∃ N, nd 16 t = N := ⟨_, rfl⟩
    have HNN := Lib.hid hN
    rw [hN] at HT
    clear hs hN
    go_enter Try.func16, Try.ntmps16
    go_wp2_with fail
    go_at_call 43
    refine (l2Shape_val HS.out _ _ (HX.out.kept ((Below.refl _ _).alloc (Nat.le_refl _) _))).mono ?_
    rintro e w1 ⟨rfl, hb1⟩
    have HB0 : Hid (Below (w.heap.size + 1) (w.alloc (.cells #[.int .i64 t.k, .int .i64 t.n, .slice a t.ks.length cap] 25)) w1) := Lib.hid (hb1.mono (by simp))
    obtain ⟨x0, x1, x2, xz⟩ := box_kept HB0.out
    have HB1 := Lib.hid (below_one HB0.out)
    clear hb1
    go_wp2_with fail
    go_at_call 44
    refine (l2Count_val HS.out HNN.out _ _ (HX.out.kept HB1.out)).mono ?_
    rintro e w2 ⟨c, rfl, hc, hb2⟩
    have HB2 := Lib.hid (HB1.out.trans (hb2.mono HB1.out.size))
    clear hb2
    by_cases hc63 : c ≤ 63
    · have hci : (c : Int) ≤ 63 := by omega
      have HD : Hid (tvT t = true) := Lib.hid (by
        rw [HT.out]
        apply decide_eq_true
        rcases Nat.lt_or_ge 63 N with h | h
        · have := hc.2.1 h; omega
        · exact h)
      clear hc63
      go_wp2_with fail
      go_ret
      exact ⟨ret_bz (by first | exact HD.out.symm | (rw [HD.out]; exact decide_eq_true (by omega)) | (rw [HD.out]; exact decide_eq_false (by omega))), HB2.out⟩
    · have hci : ¬ (c : Int) ≤ 63 := by omega
      have HD : Hid (tvT t = false) := Lib.hid (by
        rw [HT.out]
        apply decide_eq_false
        intro h
        have := hc.1 h
        omega)
      clear hc63
      go_wp2_with fail
      go_ret
      exact ⟨ret_bz (by first | exact HD.out.symm | (rw [HD.out]; exact decide_eq_true (by omega)) | (rw [HD.out]; exact decide_eq_false (by omega))), HB2.out⟩

set_option maxRecDepth 100000 in
set_option maxHeartbeats 1000000 in
theorem typeValid_impl (t : Ty) (v : Value) (w : World) (hx : TyAt w t v) :
    Calls Try.prog 15 #[.agg #[.int .i64 t.k, .int .i64 t.n, v]] w fun e w' => e = .returned (.bool (tvT t)) ∧ Below w.heap.size w w' := by
  obtain ⟨a, cap, rfl, hlen⟩ := hx.slice
  have HX := Lib.hid hx
  clear hx
  rcases hs : shp 16 t with _ | _
  · have HS := Lib.hid hs
    have HV := Lib.hid (ndv_no hs)
    have HT := Lib.hid (tvT_no hs)
    clear hs
    go_enter Try.func15, Try.ntmps15
    go_wp2_with fail
    go_at_call 42
    refine (typeNodes_val HS.out HV.out _ _ (HX.out.kept ((Below.refl _ _).alloc (Nat.le_refl _) _))).mono ?_
    rintro e w1 ⟨rfl, hb1⟩
    have HB1 : Hid (Below w.heap.size w w1) := Lib.hid (((Below.refl _ _).alloc (Nat.le_refl _) _).trans (hb1.mono (by simp)))
    clear hb1
    go_wp2_with fail
    go_ret
    exact ⟨ret_bz HT.out.symm, HB1.out⟩
  · have HS := Lib.hid hs
    have HV := Lib.hid (ndv_yes hs)
    have HT := Lib.hid (tvT_yes hs)
    have hle := nd_le (by omega) hs
    obtain ⟨N, hN⟩ : ∃ N, nd 16 t = N := ⟨_, rfl⟩
    rw [hN] at HV HT hle
    clear hs hN
    have key : ∀ b, decide (N ≤ 63) = b → Calls Try.prog 15 #[.agg #[.int .i64 t.k, .int .i64 t.n, .slice a t.ks.length cap]] w fun e w' => e = .returned (.bool b) ∧ Below w.heap.size w w' := by
      intro b hb
      by_cases h63 : N ≤ 63
      · have hni : (N : Int) ≤ 63 := by omega
        have HBB : Hid (b = true) := Lib.hid (by rw [← hb]; exact decide_eq_true h63)
        have H63 := Lib.hid h63
        clear hb h63
        go_enter Try.func15, Try.ntmps15
        go_wp2_with fail
        go_at_call 42
        refine (typeNodes_val HS.out HV.out _ _ (HX.out.kept ((Below.refl _ _).alloc (Nat.le_refl _) _))).mono ?_
        rintro e w1 ⟨rfl, hb1⟩
        have HB1 : Hid (Below w.heap.size w w1) := Lib.hid (((Below.refl _ _).alloc (Nat.le_refl _) _).trans (hb1.mono (by simp)))
        clear hb1
        go_wp2_with fail
        go_ret
        exact ⟨ret_bz (by first | exact HBB.out.symm | (rw [HBB.out]; exact decide_eq_true (by have := H63.out; omega)) | (rw [HBB.out]; exact decide_eq_false (by have := H63.out; omega))), HB1.out⟩
      · have hni : ¬ (N : Int) ≤ 63 := by omega
        have HBB : Hid (b = false) := Lib.hid (by rw [← hb]; exact decide_eq_false h63)
        have H63 := Lib.hid h63
        clear hb h63
        go_enter Try.func15, Try.ntmps15
        go_wp2_with fail
        go_at_call 42
        refine (typeNodes_val HS.out HV.out _ _ (HX.out.kept ((Below.refl _ _).alloc (Nat.le_refl _) _))).mono ?_
        rintro e w1 ⟨rfl, hb1⟩
        have HB1 : Hid (Below w.heap.size w w1) := Lib.hid (((Below.refl _ _).alloc (Nat.le_refl _) _).trans (hb1.mono (by simp)))
        clear hb1
        go_wp2_with fail
        go_ret
        exact ⟨ret_bz (by first | exact HBB.out.symm | (rw [HBB.out]; exact decide_eq_true (by have := H63.out; omega)) | (rw [HBB.out]; exact decide_eq_false (by have := H63.out; omega))), HB1.out⟩
    exact key _ HT.out.symm

end Go.Proofs.Ytndpoejohpmifaa
