/-
TypeValid of the program and of the model: for every type in memory, whether it is valid; what was in memory stays.
The exact laws' comparison of two types: it returns true for the same type; what was in memory stays.
A type in a variable of three cells.
The exact laws' marks in a type that lies in blocks of its own: what lies elsewhere stays.
-/
import Derived.Test.YtjhccdioainibaaW3
import Derived.Test.YtjhccdioainibaaProg
import Derived.Test.YtjhccdioainibaaW1
import Derived.Deep.Slices
import Derived.BigQuiet
import Derived.Deep.RegionHeld3
import Derived.Deep.DeepCutAuto
import Derived.Test.YtjhccdioainibaaW2
namespace Go.Proofs.Ytjhccdioainibaa
open Go.RowKit

def CountPost (N : Nat) (most : Nat) (w : World) (e : Ending) (w' : World) : Prop := ∃ c : Nat, e = .returned (.int .i64 c) ∧ CountTo N most c ∧ Below w.heap.size w w'

set_option maxRecDepth 100000 in
set_option maxHeartbeats 2000000 in
theorem l2Count_any : ∀ (d : Nat) (M : Int) (most : Nat) (t : Ty) (v : Value) (w : World), M = most → most ≤ 63 → d ≤ 16 → shp d t = true → TyAt w t v →
    Calls Try.prog 54 #[.agg #[.int .i64 t.k, .int .i64 t.n, v], .int .i64 M] w (CountPost (nd d t) most w) := by
  intro d
  induction d with
  | zero => intro M most t v w _ _ _ hs _; cases hs
  | succ d ih =>
    intro M most t v w hM hmost hd hs hx
    have hnd := nd_le hd hs
    obtain ⟨hf, hkids⟩ := shp_iff.1 hs
    have hL2 := fieldsB_len hf
    have HKIDS := Lib.hid hkids
    have HND := Lib.hid hnd
    clear hs hf hkids hnd
    rw [show nd (d + 1) t = 1 + ndk d t t.ks.length from nd_succ d t]
    have HX := Lib.hid hx
    obtain ⟨a, cap, rfl, hlen⟩ := hx.slice
    obtain ⟨k, hk⟩ : ∃ k, t.k = k := ⟨_, rfl⟩
    obtain ⟨n, hn⟩ : ∃ n, t.n = n := ⟨_, rfl⟩
    obtain ⟨L, hL⟩ : ∃ L, t.ks.length = L := ⟨_, rfl⟩
    have HK := Lib.hid hk
    have HN := Lib.hid hn
    have HL := Lib.hid hL
    rw [hk, hn, hL]
    rw [hL] at hlen
    clear hx hk hn hL
    rw [HL.out] at hL2
    have HMOST := Lib.hid hM
    have hM0 : 0 ≤ M := by omega
    have hM1 : M ≤ 63 := by omega
    have HIH := Lib.hid ih
    clear ih hM
    go_enter Try.func54, Try.ntmps54
    go_wp2_with fail
    go_loopw [5, 6] (fun mv i wr => ∃ (j m : Nat), j ≤ L ∧ i = .int .i64 j ∧ mv = .int .i64 m ∧ m ≤ 70000 ∧ Hid (CountTo (1 + ndk d t j) most m) ∧ Below (w.heap.size + 1) (w.alloc (.cells #[.int .i64 k, .int .i64 n, .slice a L cap] 28)) wr) (fun _ i _ => L - (intOf i).toNat)
    case atStart => exact ⟨0, 1, Nat.zero_le _, rfl, rfl, by omega, Lib.hid (by rw [ndk_zero]; exact ⟨fun _ => rfl, fun h => h, Nat.le_refl _⟩), Below.refl _ _⟩
    case round =>
      obtain ⟨j, m, hj, rfl, rfl, hm2, hcm, hB⟩ := hrel
      have HB := Lib.hid hB
      have HW := Lib.hid (below_one hB)
      obtain ⟨x0, x1, x2, xz⟩ := box_kept hB
      clear hB
      by_cases hlt : j < L
      · have hji : (j : Int) < (L : Int) := by omega
        by_cases hmm : m ≤ most
        · have hmi : (m : Int) ≤ M := by have := HMOST.out; omega
          obtain ⟨b, o, cap2, vi, ex, bl, y0, y1, y2, hkid⟩ := (HX.out.kept HW.out).kid j (by rw [HL.out]; exact hlt)
          have ex1 : a = some ⟨b, o, none⟩ := by injection ex
          subst ex1
          clear ex
          obtain ⟨x, hx⟩ : ∃ x, t.ks.getD j Ty.dummy = x := ⟨_, rfl⟩
          have hxs : shp d x = true := by rw [← hx]; exact HKIDS.out j (by rw [HL.out]; exact hlt)
          rw [hx] at y0 y1 hkid
          obtain ⟨ai, ci, rfl, hli⟩ := hkid.slice
          have HXK := Lib.hid hx
          have HKID := Lib.hid hkid
          have HXS := Lib.hid hxs
          have HSUB : Hid (M - (m : Int) = ((most - m : Nat) : Int)) := Lib.hid (by have := HMOST.out; omega)
          have hnd1 : nd d x ≤ 65536 := nd_le (by omega) hxs
          clear hx hkid hxs
          go_wp2_with fail
          go_at_call 54
          refine (HIH.out (M - (m : Int)) (most - m) x _ _ HSUB.out (by omega) (by omega) HXS.out HKID.out).mono ?_
          rintro e w2 ⟨c, rfl, hc, hb2⟩
          have hc3 := hc.2.2
          have hcq : c ≤ 65536 := by omega
          have HCN : Hid (CountTo (1 + ndk d t (j + 1)) most (m + c)) := Lib.hid (by
            obtain ⟨g1, g2, g3⟩ := hcm.out
            obtain ⟨k1, k2, k3⟩ := hc
            rw [ndk_succ, HXK.out]
            have hml : 1 + ndk d t j ≤ most := by
              rcases Nat.lt_or_ge most (1 + ndk d t j) with h | h
              · have := g2 h; omega
              · exact h
            have hme := g1 hml
            refine ⟨fun h => ?_, fun h => ?_, by omega⟩
            · have := k1 (by omega); omega
            · have := k2 (by omega); omega)
          have hmc : m + c ≤ 70000 := by
            have h1 := HCN.out.2.2
            have h2 := ndk_mono d t (show j + 1 ≤ t.ks.length by rw [HL.out]; omega)
            have h3 := HND.out
            rw [nd_succ] at h3
            omega
          have HB2 := Lib.hid (HB.out.trans (hb2.mono (by have := HB.out.size; simp at this; omega)))
          clear hb2 hc hc3 hcm hnd1
          go_wp2_with fail
          exact ⟨⟨j + 1, m + c, by omega, by go_num, by go_num, hmc, HCN, HB2.out⟩, by simp [intOf]; omega⟩
        · have hmi : ¬ (m : Int) ≤ M := by have := HMOST.out; omega
          have HC : Hid (CountTo (1 + ndk d t L) most m) := Lib.hid (by
            obtain ⟨g1, g2, g3⟩ := hcm.out
            have h2 := ndk_mono d t hj
            refine ⟨fun h => ?_, fun _ => by omega, by omega⟩
            have := g1 (by omega)
            omega)
          clear hcm hlt hmm
          go_wp2_with fail
          go_ret
          exact ⟨m, rfl, HC.out, HW.out⟩
      · have hji : ¬ (j : Int) < (L : Int) := by omega
        have hjl : j = L := by omega
        have HC : Hid (CountTo (1 + ndk d t L) most m) := Lib.hid (by have := hcm.out; rwa [hjl] at this)
        clear hcm hlt hjl
        go_wp2_with fail
        go_ret
        exact ⟨m, rfl, HC.out, HW.out⟩

theorem l2Shape_val {t : Ty} {b : Bool} (hb : shp 16 t = b) (v : Value) (w : World) (hx : TyAt w t v) :
    Calls Try.prog 53 #[.agg #[.int .i64 t.k, .int .i64 t.n, v], .int .i64 16] w fun e w' => e = .returned (.bool b) ∧ Below w.heap.size w w' := by
  subst hb; exact l2Shape_any 16 16 t v w rfl (by omega) hx
theorem typeNodes_val {t : Ty} {b : Bool} {N : Int} (hb : shp 16 t = b) (hN : ndv 16 t = N) (v : Value) (w : World) (hx : TyAt w t v) :
    Calls Try.prog 59 #[.agg #[.int .i64 t.k, .int .i64 t.n, v], .int .i64 16] w fun e w' => e = .returned (.tuple #[.int .i64 N, .bool b]) ∧ Below w.heap.size w w' := by
  subst hb hN; exact typeNodes_any 16 16 t v w rfl (by omega) hx
theorem l2Count_val {t : Ty} {N : Nat} (hs : shp 16 t = true) (hN : nd 16 t = N) (v : Value) (w : World) (hx : TyAt w t v) :
    Calls Try.prog 54 #[.agg #[.int .i64 t.k, .int .i64 t.n, v], .int .i64 63] w (CountPost N 63 w) := by
  subst hN; exact l2Count_any 16 63 63 t v w rfl (by omega) (by omega) hs hx
theorem tvT_no {t : Ty} (h : shp 16 t = false) : tvT t = false := by unfold tvT; rw [h]; rfl
theorem tvT_yes {t : Ty} (h : shp 16 t = true) : tvT t = decide (nd 16 t ≤ 63) := by unfold tvT; rw [h]; rfl

set_option maxRecDepth 100000 in
set_option maxHeartbeats 1000000 in
theorem typeValid_spec (t : Ty) (v : Value) (w : World) (hx : TyAt w t v) :
    Calls Try.prog 23 #[.agg #[.int .i64 t.k, .int .i64 t.n, v]] w fun e w' => e = .returned (.bool (tvT t)) ∧ Below w.heap.size w w' := by
  obtain ⟨a, cap, rfl, hlen⟩ := hx.slice
  have HX := Lib.hid hx
  clear hx
  rcases hs : shp 16 t with _ | _
  · have HS := Lib.hid hs
    have HT := Lib.hid (tvT_no hs)
    clear hs
    go_enter Try.func23, Try.ntmps23
    go_wp2_with fail
    go_at_call 53
    refine (l2Shape_val HS.out _ _ (HX.out.kept ((Below.refl _ _).alloc (Nat.le_refl _) _))).mono ?_
    rintro e w1 ⟨rfl, hb1⟩
    have HB1 : Hid (Below w.heap.size w w1) := Lib.hid (((Below.refl _ _).alloc (Nat.le_refl _) _).trans (hb1.mono (by simp)))
    clear hb1
    go_wp2_with fail
    go_ret
    exact ⟨ret_bz HT.out.symm, HB1.out⟩
  · have HS := Lib.hid hs
    have HT := Lib.hid (tvT_yes hs)
    obtain ⟨N, hN⟩ : ∃ N, nd 16 t = N := ⟨_, rfl⟩
    have HNN := Lib.hid hN
    rw [hN] at HT
    clear hs hN
    go_enter Try.func23, Try.ntmps23
    go_wp2_with fail
    go_at_call 53
    refine (l2Shape_val HS.out _ _ (HX.out.kept ((Below.refl _ _).alloc (Nat.le_refl _) _))).mono ?_
    rintro e w1 ⟨rfl, hb1⟩
    have HB0 : Hid (Below (w.heap.size + 1) (w.alloc (.cells #[.int .i64 t.k, .int .i64 t.n, .slice a t.ks.length cap] 28)) w1) := Lib.hid (hb1.mono (by simp))
    obtain ⟨x0, x1, x2, xz⟩ := box_kept HB0.out
    have HB1 := Lib.hid (below_one HB0.out)
    clear hb1
    go_wp2_with fail
    go_at_call 54
    refine (l2Count_val HS.out HNN.out _ _ (HX.out.kept HB1.out)).mono ?_
    rintro e w2 ⟨c, rfl, hc, hb2⟩
    have HB2 := Lib.hid (HB1.out.trans (hb2.mono HB1.out.size))
    clear hb2
    by_cases hc63 : c ≤ 63
    · have hci : (c : Int) ≤ 63 := by omega
      have HD : Hid (tvT t = true) := Lib.hid (by
        rw [HT.out]
        apply decide_eq_true
        rcases Nat.lt_or_ge 63 N with h | h
        · have := hc.2.1 h; omega
        · exact h)
      clear hc63
      go_wp2_with fail
      go_ret
      exact ⟨ret_bz (by first | exact HD.out.symm | (rw [HD.out]; exact decide_eq_true (by omega)) | (rw [HD.out]; exact decide_eq_false (by omega))), HB2.out⟩
    · have hci : ¬ (c : Int) ≤ 63 := by omega
      have HD : Hid (tvT t = false) := Lib.hid (by
        rw [HT.out]
        apply decide_eq_false
        intro h
        have := hc.1 h
        omega)
      clear hc63
      go_wp2_with fail
      go_ret
      exact ⟨ret_bz (by first | exact HD.out.symm | (rw [HD.out]; exact decide_eq_true (by omega)) | (rw [HD.out]; exact decide_eq_false (by omega))), HB2.out⟩

set_option maxRecDepth 100000 in
set_option maxHeartbeats 1000000 in
theorem typeValid_impl (t : Ty) (v : Value) (w : World) (hx : TyAt w t v) :
    Calls Try.prog 28 #[.agg #[.int .i64 t.k, .int .i64 t.n, v]] w fun e w' => e = .returned (.bool (tvT t)) ∧ Below w.heap.size w w' := by
  obtain ⟨a, cap, rfl, hlen⟩ := hx.slice
  have HX := Lib.hid hx
  clear hx
  rcases hs : shp 16 t with _ | _
  · have HS := Lib.hid hs
    have HV := Lib.hid (ndv_no hs)
    have HT := Lib.hid (tvT_no hs)
    clear hs
    go_enter Try.func28, Try.ntmps28
    go_wp2_with fail
    go_at_call 59
    refine (typeNodes_val HS.out HV.out _ _ (HX.out.kept ((Below.refl _ _).alloc (Nat.le_refl _) _))).mono ?_
    rintro e w1 ⟨rfl, hb1⟩
    have HB1 : Hid (Below w.heap.size w w1) := Lib.hid (((Below.refl _ _).alloc (Nat.le_refl _) _).trans (hb1.mono (by simp)))
    clear hb1
    go_wp2_with fail
    go_ret
    exact ⟨ret_bz HT.out.symm, HB1.out⟩
  · have HS := Lib.hid hs
    have HV := Lib.hid (ndv_yes hs)
    have HT := Lib.hid (tvT_yes hs)
    have hle := nd_le (by omega) hs
    obtain ⟨N, hN⟩ : ∃ N, nd 16 t = N := ⟨_, rfl⟩
    rw [hN] at HV HT hle
    clear hs hN
    have key : ∀ b, decide (N ≤ 63) = b → Calls Try.prog 28 #[.agg #[.int .i64 t.k, .int .i64 t.n, .slice a t.ks.length cap]] w fun e w' => e = .returned (.bool b) ∧ Below w.heap.size w w' := by
      intro b hb
      by_cases h63 : N ≤ 63
      · have hni : (N : Int) ≤ 63 := by omega
        have HBB : Hid (b = true) := Lib.hid (by rw [← hb]; exact decide_eq_true h63)
        have H63 := Lib.hid h63
        clear hb h63
        go_enter Try.func28, Try.ntmps28
        go_wp2_with fail
        go_at_call 59
        refine (typeNodes_val HS.out HV.out _ _ (HX.out.kept ((Below.refl _ _).alloc (Nat.le_refl _) _))).mono ?_
        rintro e w1 ⟨rfl, hb1⟩
        have HB1 : Hid (Below w.heap.size w w1) := Lib.hid (((Below.refl _ _).alloc (Nat.le_refl _) _).trans (hb1.mono (by simp)))
        clear hb1
        go_wp2_with fail
        go_ret
        exact ⟨ret_bz (by first | exact HBB.out.symm | (rw [HBB.out]; exact decide_eq_true (by have := H63.out; omega)) | (rw [HBB.out]; exact decide_eq_false (by have := H63.out; omega))), HB1.out⟩
      · have hni : ¬ (N : Int) ≤ 63 := by omega
        have HBB : Hid (b = false) := Lib.hid (by rw [← hb]; exact decide_eq_false h63)
        have H63 := Lib.hid h63
        clear hb h63
        go_enter Try.func28, Try.ntmps28
        go_wp2_with fail
        go_at_call 59
        refine (typeNodes_val HS.out HV.out _ _ (HX.out.kept ((Below.refl _ _).alloc (Nat.le_refl _) _))).mono ?_
        rintro e w1 ⟨rfl, hb1⟩
        have HB1 : Hid (Below w.heap.size w w1) := Lib.hid (((Below.refl _ _).alloc (Nat.le_refl _) _).trans (hb1.mono (by simp)))
        clear hb1
        go_wp2_with fail
        go_ret
        exact ⟨ret_bz (by first | exact HBB.out.symm | (rw [HBB.out]; exact decide_eq_true (by have := H63.out; omega)) | (rw [HBB.out]; exact decide_eq_false (by have := H63.out; omega))), HB1.out⟩
    exact key _ HT.out.symm

end Go.Proofs.Ytjhccdioainibaa

namespace Go.Proofs.Ytjhccdioainibaa
open Go.RowKit

def EqPost (w : World) (e : Ending) (w' : World) : Prop := e = .returned (.bool true) ∧ Below w.heap.size w w'
set_option maxRecDepth 100000 in
set_option maxHeartbeats 4000000 in
theorem eqTypeS_of (t : Ty) (v1 v2 : Value) (w : World) (h1 : TyAt w t v1) (h2 : TyAt w t v2) (hsz : t.ks.length ≤ 1048576)
    (H : ∀ i, i < t.ks.length → ∀ (vi vj : Value) (W : World), TyAt W (t.ks.getD i Ty.dummy) vi → TyAt W (t.ks.getD i Ty.dummy) vj →
      Calls Try.prog 12 #[.agg #[.int .i64 (t.ks.getD i Ty.dummy).k, .int .i64 (t.ks.getD i Ty.dummy).n, vi], .agg #[.int .i64 (t.ks.getD i Ty.dummy).k, .int .i64 (t.ks.getD i Ty.dummy).n, vj]] W (EqPost W)) :
    Calls Try.prog 33 #[v1, v2] w (EqPost w) := by
  have H1 := Lib.hid h1
  have H2 := Lib.hid h2
  have HH := Lib.hid H
  obtain ⟨a1, c1, rfl, hl1⟩ := h1.slice
  obtain ⟨a2, c2, rfl, hl2⟩ := h2.slice
  obtain ⟨L, hL⟩ : ∃ L, t.ks.length = L := ⟨_, rfl⟩
  have HL := Lib.hid hL
  rw [hL] at hsz ⊢
  clear h1 h2 H hl1 hl2 hL
  go_enter Try.func33, Try.ntmps33
  go_wp2_with fail
  go_loopw [5] (fun i wr => ∃ j : Nat, j ≤ L ∧ i = .int .i64 j ∧ Below w.heap.size w wr) (fun i _ => L - (intOf i).toNat)
  case atStart => exact ⟨0, Nat.zero_le _, rfl, Below.refl _ _⟩
  case round =>
    obtain ⟨j, hj, rfl, hB⟩ := hrel
    have HB := Lib.hid hB
    by_cases hlt : j < L
    · have hji : (j : Int) < (L : Int) := by omega
      obtain ⟨bx, ox, capx, vi, ex, bxl, x0, x1, x2, hxk⟩ := (H1.out.kept hB).kid j (by rw [HL.out]; exact hlt)
      obtain ⟨b2, o2, cap2, vj, ey, b2l, y0, y1, y2, hyk⟩ := (H2.out.kept hB).kid j (by rw [HL.out]; exact hlt)
      have ex1 : a1 = some ⟨bx, ox, none⟩ := by injection ex
      have ey1 : a2 = some ⟨b2, o2, none⟩ := by injection ey
      subst ex1
      subst ey1
      obtain ⟨xk, hxe⟩ : ∃ x, t.ks.getD j Ty.dummy = x := ⟨_, rfl⟩
      have HIH := Lib.hid (HH.out j (by rw [HL.out]; exact hlt))
      rw [hxe] at x0 x1 hxk y0 y1 hyk HIH
      have HXK := Lib.hid hxk
      have HYK := Lib.hid hyk
      clear ex ey hB hxe hxk hyk
      go_wp2_with fail
      go_region_held3 (fun w' => w'.cell? ⟨bx, ox + j * 3, none⟩ = some (.int .i64 xk.k) ∧ w'.cell? ⟨bx, ox + j * 3 + 1, none⟩ = some (.int .i64 xk.n) ∧ w'.cell? ⟨bx, ox + j * 3 + 2, none⟩ = some vi ∧ w'.cell? ⟨b2, o2 + j * 3, none⟩ = some (.int .i64 xk.k) ∧ w'.cell? ⟨b2, o2 + j * 3 + 1, none⟩ = some (.int .i64 xk.n) ∧ w'.cell? ⟨b2, o2 + j * 3 + 2, none⟩ = some vj) (go_keep)
        (first | (go_at_call 12; refine (HIH.out _ _ _ (HXK.out.kept (Below.refl _ _).drew) (HYK.out.kept (Below.refl _ _).drew)).mono ?_; rintro e w5 ⟨rfl, hb5⟩; have HB5 := Lib.hid (HB.out.drew.trans (hb5.mono HB.out.size)); have z3 := (hb5.cell (p := ⟨bx, ox + j * 3, none⟩) bxl).trans x0; have z4 := (hb5.cell (p := ⟨bx, ox + j * 3 + 1, none⟩) bxl).trans x1; have z5 := (hb5.cell (p := ⟨bx, ox + j * 3 + 2, none⟩) bxl).trans x2; have z6 := (hb5.cell (p := ⟨b2, o2 + j * 3, none⟩) b2l).trans y0; have z7 := (hb5.cell (p := ⟨b2, o2 + j * 3 + 1, none⟩) b2l).trans y1; have z8 := (hb5.cell (p := ⟨b2, o2 + j * 3 + 2, none⟩) b2l).trans y2; clear hb5))
      all_goals
        go_wp2_with fail
      all_goals exact ⟨⟨j + 1, by omega, by go_num, HB5.out⟩, by simp [intOf]; omega⟩
    · have hji : ¬ (j : Int) < (L : Int) := by omega
      clear hB hlt
      go_wp2_with fail
      go_ret
      exact ⟨rfl, HB.out⟩

set_option maxRecDepth 100000 in
set_option maxHeartbeats 2000000 in
theorem eqType_any (m : Nat) : ∀ (t : Ty) (c : Nat) (v1 v2 : Value) (w : World), SizeOf.sizeOf t < m → Cnt t c → c ≤ 1048576 → TyAt w t v1 → TyAt w t v2 →
    Calls Try.prog 12 #[.agg #[.int .i64 t.k, .int .i64 t.n, v1], .agg #[.int .i64 t.k, .int .i64 t.n, v2]] w (EqPost w) := by
  induction m with
  | zero => intro t c v1 v2 w h; exact absurd h (Nat.not_lt_zero _)
  | succ m ih =>
    intro t c v1 v2 w hm hc hcm hx hy
    obtain ⟨cf, hce, hcs⟩ : ∃ cf : Nat → Nat, c = t.ks.length + ((List.range t.ks.length).map cf).sum ∧ ∀ i, i < t.ks.length → Cnt (t.ks.getD i Ty.dummy) (cf i) := by
      cases hc with
      | node k n ks c h => exact ⟨c, rfl, h⟩
    have hls : t.ks.length ≤ 1048576 := by omega
    have HSUB : Hid (∀ (u1 u2 : Value) (W : World), TyAt W t u1 → TyAt W t u2 → Calls Try.prog 33 #[u1, u2] W (EqPost W)) := Lib.hid (fun u1 u2 W g1 g2 => eqTypeS_of t u1 u2 W g1 g2 hls (fun i hi vi vj W' hk1 hk2 => ih _ (cf i) vi vj W' (by have := Ty.kid_lt t i hi; omega) (hcs i hi) (by
      have h1 := sum_mono cf (show i + 1 ≤ t.ks.length by omega)
      rw [sum_succ] at h1
      omega) hk1 hk2))
    have HX := Lib.hid hx
    have HY := Lib.hid hy
    obtain ⟨a1, c1, rfl, hlen⟩ := hx.slice
    obtain ⟨a2, c2, rfl, hlen2⟩ := hy.slice
    clear hx hy hc hcs hce hm ih
    have hbb : Below w.heap.size w ((w.alloc (.cells #[.int .i64 t.k, .int .i64 t.n, .slice a1 t.ks.length c1] 28)).alloc (.cells #[.int .i64 t.k, .int .i64 t.n, .slice a2 t.ks.length c2] 28)) := ((Below.refl _ _).alloc (Nat.le_refl _) _).alloc (by simp) _
    have HBB := Lib.hid hbb
    clear hbb
    go_enter Try.func12, Try.ntmps12
    go_wp2_with fail
    go_at_call 33
    refine (HSUB.out _ _ _ (HX.out.kept HBB.out) (HY.out.kept HBB.out)).mono ?_
    rintro e w1 ⟨rfl, hb1⟩
    have HB1 := Lib.hid (HBB.out.trans (hb1.mono HBB.out.size))
    clear hb1
    go_wp2_with fail
    go_ret
    exact ⟨rfl, HB1.out⟩

end Go.Proofs.Ytjhccdioainibaa

namespace Go.Proofs.Ytjhccdioainibaa
open Go.RowKit
structure TBox (w : World) (B : Nat) (x y z : Value) : Prop where
  c0 : w.cell? ⟨B, 0, none⟩ = some x
  c1 : w.cell? ⟨B, 1, none⟩ = some y
  c2 : w.cell? ⟨B, 2, none⟩ = some z
  sz : B < w.heap.size
theorem TBox.kept {w w' : World} {B : Nat} {x y z : Value} (h : TBox w B x y z) (hb : Below w.heap.size w w') : TBox w' B x y z :=
  ⟨(hb.cell (p := ⟨B, 0, none⟩) h.sz).trans h.c0, (hb.cell (p := ⟨B, 1, none⟩) h.sz).trans h.c1, (hb.cell (p := ⟨B, 2, none⟩) h.sz).trans h.c2, Nat.lt_of_lt_of_le h.sz hb.size⟩
theorem tbox_new (w : World) (x y z : Value) (T : TypeId) : TBox (w.alloc (.cells #[x, y, z] T)) w.heap.size x y z :=
  ⟨by go_simp, by go_simp, by go_simp, by simp⟩
end Go.Proofs.Ytjhccdioainibaa

namespace Go.Proofs.Ytjhccdioainibaa
open Go.RowKit

/-- Only blocks from lo to hi have changed. -/
structure Inside (lo hi : Nat) (w w' : World) : Prop where
  os : w'.os = w.os
  tape : w'.tape = w.tape
  output : w'.output = w.output
  size : w.heap.size ≤ w'.heap.size
  block : ∀ b, b < w.heap.size → (b < lo ∨ hi ≤ b) → w'.heap[b]? = w.heap[b]?
theorem Inside.refl (lo hi : Nat) (w : World) : Inside lo hi w w := ⟨rfl, rfl, rfl, Nat.le_refl _, fun _ _ _ => rfl⟩
theorem Inside.trans {lo hi : Nat} {a b c : World} (h : Inside lo hi a b) (k : Inside lo hi b c) : Inside lo hi a c :=
  ⟨k.os.trans h.os, k.tape.trans h.tape, k.output.trans h.output, Nat.le_trans h.size k.size, fun x hx ho => (k.block x (Nat.lt_of_lt_of_le hx h.size) ho).trans (h.block x hx ho)⟩
theorem Inside.wide {lo hi lo' hi' : Nat} {a b : World} (h : Inside lo hi a b) (h1 : lo' ≤ lo) (h2 : hi ≤ hi') : Inside lo' hi' a b :=
  ⟨h.os, h.tape, h.output, h.size, fun x hx ho => h.block x hx (by omega)⟩
theorem Inside.set {lo hi : Nat} (w : World) {b : Nat} (o : Nat) (u : Value) (h1 : lo ≤ b) (h2 : b < hi) : Inside lo hi w (w.setCell ⟨b, o, none⟩ u) :=
  ⟨rfl, rfl, rfl, by simp, fun x _ ho => heap_setCell_other w ⟨b, o, none⟩ x u (by show x ≠ b; omega)⟩
theorem Inside.below {lo hi B : Nat} {w0 w w' : World} (h : Inside lo hi w w') (hB : B ≤ lo) (hb : Below B w0 w) (hs : B ≤ w.heap.size) : Below B w0 w' :=
  hb.trans ⟨h.os, h.tape, h.output, h.size, fun x hx => h.block x (by omega) (.inl (by omega))⟩
theorem TyIn.parts {w : World} {lo hi : Nat} {t : Ty} {v : Value} (h : TyIn w lo hi t v) (h0 : 0 < t.ks.length) :
    ∃ (b cap : Nat) (vs : Nat → Value) (l g : Nat → Nat), v = .slice (some ⟨b, 0, none⟩) t.ks.length cap ∧ lo ≤ b ∧ b < hi ∧ b < w.heap.size ∧
      (∀ i, i < t.ks.length → w.cell? ⟨b, i * 3, none⟩ = some (.int .i64 (t.ks.getD i Ty.dummy).k)) ∧ (∀ i, i < t.ks.length → w.cell? ⟨b, i * 3 + 1, none⟩ = some (.int .i64 (t.ks.getD i Ty.dummy).n)) ∧
      (∀ i, i < t.ks.length → w.cell? ⟨b, i * 3 + 2, none⟩ = some (vs i)) ∧ (∀ i, i < t.ks.length * 3 → w.frozen? ⟨b, i, none⟩ = false) ∧
      (∀ i, i < t.ks.length → lo ≤ l i ∧ g i ≤ hi ∧ (b < l i ∨ g i ≤ b)) ∧ (∀ i j, i < j → j < t.ks.length → g i ≤ l j) ∧ (∀ i, i < t.ks.length → TyIn w (l i) (g i) (t.ks.getD i Ty.dummy) (vs i)) := by
  cases h with
  | bare lo hi k n a cap => exact absurd h0 (Nat.lt_irrefl _)
  | row lo hi k n ks b cap vs l h hb1 hb2 hw hl g0 g1 g2 hf hin hd h3 => exact ⟨b, cap, vs, l, h, rfl, hb1, hb2, hw.lt, g0, g1, g2, hf, hin, hd, h3⟩
/-- What is left to mark. -/
structure Rem (t : Ty) (b j : Nat) (vs : Nat → Value) (l g : Nat → Nat) (w : World) : Prop where
  bs : b < w.heap.size
  c0 : ∀ i, j ≤ i → i < t.ks.length → w.cell? ⟨b, i * 3, none⟩ = some (.int .i64 (t.ks.getD i Ty.dummy).k)
  c1 : ∀ i, j ≤ i → i < t.ks.length → w.cell? ⟨b, i * 3 + 1, none⟩ = some (.int .i64 (t.ks.getD i Ty.dummy).n)
  c2 : ∀ i, j ≤ i → i < t.ks.length → w.cell? ⟨b, i * 3 + 2, none⟩ = some (vs i)
  fz : ∀ i, i < t.ks.length * 3 → w.frozen? ⟨b, i, none⟩ = false
  ty : ∀ i, j ≤ i → i < t.ks.length → TyIn w (l i) (g i) (t.ks.getD i Ty.dummy) (vs i)
theorem Rem.step {t : Ty} {b j : Nat} {vs : Nat → Value} {l g : Nat → Nat} {w w2 : World} {u0 u1 : Value} (r : Rem t b j vs l g w) (hj : j < t.ks.length) (hin : ∀ i, i < t.ks.length → b < l i ∨ g i ≤ b) (hd : ∀ i j, i < j → j < t.ks.length → g i ≤ l j)
    (hI : Inside (l j) (g j) ((w.setCell ⟨b, j * 3, none⟩ u0).setCell ⟨b, j * 3 + 1, none⟩ u1) w2) : Rem t b (j + 1) vs l g w2 := by
  have hs : ((w.setCell ⟨b, j * 3, none⟩ u0).setCell ⟨b, j * 3 + 1, none⟩ u1).heap.size = w.heap.size := by simp
  have hb2 := hI.block b (by rw [hs]; exact r.bs) (by rcases hin j hj with h | h <;> omega)
  have hc : ∀ q, q ≠ j * 3 → q ≠ j * 3 + 1 → w2.cell? ⟨b, q, none⟩ = w.cell? ⟨b, q, none⟩ := by
    intro q h1 h2
    have e1 : ((w.setCell ⟨b, j * 3, none⟩ u0).setCell ⟨b, j * 3 + 1, none⟩ u1).cell? ⟨b, q, none⟩ = (w.setCell ⟨b, j * 3, none⟩ u0).cell? ⟨b, q, none⟩ := World.cell?_setCell_other _ _ _ _ (fun e => h2 (by injection e with _ e2 _; exact e2.symm))
    have e2 : (w.setCell ⟨b, j * 3, none⟩ u0).cell? ⟨b, q, none⟩ = w.cell? ⟨b, q, none⟩ := World.cell?_setCell_other _ _ _ _ (fun e => h1 (by injection e with _ e2 _; exact e2.symm))
    exact (cellEq hb2).trans (e1.trans e2)
  have hk : ∀ x, x ≠ b → x < w.heap.size → (x < l j ∨ g j ≤ x) → w2.heap[x]? = w.heap[x]? := by
    intro x h1 h2 h3
    rw [hI.block x (by rw [hs]; exact h2) h3, heap_setCell_other _ ⟨b, j * 3 + 1, none⟩ x _ h1, heap_setCell_other _ ⟨b, j * 3, none⟩ x _ h1]
  have hsz := hI.size
  rw [hs] at hsz
  refine ⟨Nat.lt_of_lt_of_le r.bs hsz, fun i h1 h2 => ?_, fun i h1 h2 => ?_, fun i h1 h2 => ?_, fun i h1 => ?_, fun i h1 h2 => ?_⟩
  · rw [hc _ (by omega) (by omega)]; exact r.c0 i (by omega) h2
  · rw [hc _ (by omega) (by omega)]; exact r.c1 i (by omega) h2
  · rw [hc _ (by omega) (by omega)]; exact r.c2 i (by omega) h2
  · rw [frozenEq hb2, World.frozen?_setCell, World.frozen?_setCell]; exact r.fz i h1
  · refine (r.ty i (by omega) h2).keep hsz (fun x g1 g2 g3 => hk x ?_ g3 ?_)
    · rcases hin i h2 with h | h <;> omega
    · exact .inr (Nat.le_trans (hd j i (by omega) h2) g1)

set_option maxRecDepth 100000 in
set_option maxHeartbeats 4000000 in
theorem markTypeS_any (m : Nat) : ∀ (t : Ty) (c : Nat) (v : Value) (lo hi : Nat) (K : Nat) (w : World), SizeOf.sizeOf t < m → Cnt t c → TyIn w lo hi t v → K + 2 * c ≤ 100000000 →
    Calls Try.prog 34 #[v, .int .i64 K] w fun e w' => e = .returned (.int .i64 ((K + 2 * c : Nat) : Int)) ∧ Inside lo hi w w' := by
  induction m with
  | zero => intro t c v lo hi K w h; exact absurd h (Nat.not_lt_zero _)
  | succ m ih =>
    intro t c v lo hi K w hm hc hx hK
    obtain ⟨cf, hce, hcs⟩ : ∃ cf : Nat → Nat, c = t.ks.length + ((List.range t.ks.length).map cf).sum ∧ ∀ i, i < t.ks.length → Cnt (t.ks.getD i Ty.dummy) (cf i) := by
      cases hc with
      | node k n ks c h => exact ⟨c, rfl, h⟩
    by_cases h0 : t.ks.length = 0
    · obtain ⟨a, cap, rfl, _⟩ := hx.at.slice
      have hc0 : c = 0 := by rw [hce, h0]; rfl
      subst hc0
      rw [h0]
      clear ih hce hcs hx hm hc h0
      go_enter Try.func34, Try.ntmps34
      go_wp2_with fail
      go_loopw [1, 5] (fun kv i wr => i = .int .i64 0 ∧ kv = .int .i64 K ∧ wr = w) (fun _ _ _ => 0)
      case atStart => exact ⟨rfl, rfl, rfl⟩
      case round =>
        obtain ⟨rfl, rfl, rfl⟩ := hrel
        go_wp2_with fail
        go_ret
        exact ⟨by first | rfl | simp, Inside.refl _ _ _⟩
    · obtain ⟨b, cap, vs, l, g, rfl, hb1, hb2, hb3, g0, g1, g2, hf, hin, hd, h3⟩ := hx.parts (by omega)
      have HR : Hid (Rem t b 0 vs l g w) := Lib.hid ⟨hb3, fun i _ h => g0 i h, fun i _ h => g1 i h, fun i _ h => g2 i h, hf, fun i _ h => h3 i h⟩
      have HIN := Lib.hid hin
      have HD := Lib.hid hd
      have HCS := Lib.hid hcs
      have HIH := Lib.hid ih
      have HM := Lib.hid hm
      have HCE := Lib.hid hce
      obtain ⟨L, hL⟩ : ∃ L, t.ks.length = L := ⟨_, rfl⟩
      have HL := Lib.hid hL
      rw [hL]
      rw [hL] at hce
      have hLc : L ≤ c := by omega
      have hmono : ∀ j, j ≤ L → ((List.range j).map cf).sum ≤ ((List.range L).map cf).sum := fun j h => sum_mono cf h
      have HMONO := Lib.hid hmono
      have HCE2 := Lib.hid hce
      clear ih hcs hx hm hc g0 g1 g2 hf hin hd h3 hL hce hmono
      go_enter Try.func34, Try.ntmps34
      go_wp2_with fail
      go_loopw [1, 5] (fun kv i wr => ∃ (j q : Nat), j ≤ L ∧ i = .int .i64 j ∧ kv = .int .i64 q ∧ q ≤ 100000000 ∧ Hid (q = K + 2 * (j + ((List.range j).map cf).sum)) ∧ Hid (Rem t b j vs l g wr) ∧ Inside lo hi w wr) (fun _ i _ => L - (intOf i).toNat)
      case atStart => exact ⟨0, K, Nat.zero_le _, rfl, rfl, by omega, Lib.hid (by simp), HR, Inside.refl _ _ _⟩
      case round =>
        obtain ⟨j, q, hj, rfl, rfl, hq, hqe, hrem, hI⟩ := hrel
        have HI := Lib.hid hI
        by_cases hlt : j < L
        · have hji : (j : Int) < (L : Int) := by omega
          have hjt : j < t.ks.length := by rw [HL.out]; exact hlt
          have HJT := Lib.hid hjt
          have y0 := hrem.out.c0 j (Nat.le_refl _) hjt
          have y1 := hrem.out.c1 j (Nat.le_refl _) hjt
          have y2 := hrem.out.c2 j (Nat.le_refl _) hjt
          have z0 := hrem.out.fz (j * 3) (by omega)
          have z1 := hrem.out.fz (j * 3 + 1) (by omega)
          have hkid := hrem.out.ty j (Nat.le_refl _) hjt
          obtain ⟨ai, ci, hvs, _⟩ := hkid.at.slice
          rw [hvs] at y2
          have hqn : q + 2 + 2 * cf j = K + 2 * (j + 1 + ((List.range (j + 1)).map cf).sum) := by rw [sum_succ, hqe.out]; omega
          have hqb : q + 2 + 2 * cf j ≤ 100000000 := by
            have h1 := HMONO.out (j + 1) (by omega)
            have h2 := HCE2.out
            omega
          have hs2 : ∀ u0 u1 : Value, TyIn ((wr.setCell ⟨b, j * 3, none⟩ u0).setCell ⟨b, j * 3 + 1, none⟩ u1) (l j) (g j) (t.ks.getD j Ty.dummy) (vs j) := fun u0 u1 => hkid.keep (by simp) (fun x h1 h2 _ => by
            have hxb : x ≠ b := by rcases (HIN.out j hjt).2.2 with h | h <;> omega
            rw [heap_setCell_other _ ⟨b, j * 3 + 1, none⟩ x _ hxb, heap_setCell_other _ ⟨b, j * 3, none⟩ x _ hxb])
          have HS2 := Lib.hid hs2
          rw [hvs] at HS2
          have hsm : SizeOf.sizeOf (t.ks.getD j Ty.dummy) < m := by have h1 := Ty.kid_lt t j hjt; have h2 := HM.out; omega
          have HCALL := Lib.hid (fun (W : World) (hW : TyIn W (l j) (g j) (t.ks.getD j Ty.dummy) (.slice ai (t.ks.getD j Ty.dummy).ks.length ci)) => HIH.out _ (cf j) _ (l j) (g j) (q + 2) W hsm (HCS.out j hjt) hW (by omega))
          obtain ⟨x, hxx⟩ : ∃ x, t.ks.getD j Ty.dummy = x := ⟨_, rfl⟩
          rw [hxx] at y0 y1 y2 HS2 HCALL
          have HQN := Lib.hid hqn
          clear hkid hvs hs2 hsm hxx hqn hqe hjt hI
          go_wp2_with fail
          go_at_call 34
          refine (HCALL.out _ (HS2.out _ _)).mono ?_
          rintro e w2 ⟨rfl, hI2⟩
          have hrem2 := hrem.out.step HJT.out (fun i h => (HIN.out i h).2.2) HD.out hI2
          have HREM2 := Lib.hid hrem2
          have hI3 := (HI.out.trans ((Inside.set wr (j * 3) _ hb1 hb2).trans (Inside.set _ (j * 3 + 1) _ hb1 hb2))).trans (hI2.wide (HIN.out j HJT.out).1 (HIN.out j HJT.out).2.1)
          have HI3 := Lib.hid hI3
          clear hrem2 hI3 hI2
          go_wp2_with fail
          exact ⟨⟨j + 1, _, by omega, by go_num, rfl, hqb, HQN, HREM2, HI3.out⟩, by simp [intOf]; omega⟩
        · have hji : ¬ (j : Int) < (L : Int) := by omega
          have hjl : j = L := by omega
          have hqf : q = K + 2 * c := by rw [hqe.out, hjl, HCE2.out]
          clear hlt hI hqe hrem
          subst hjl
          subst hqf
          go_wp2_with fail
          go_ret
          exact ⟨rfl, HI.out⟩

theorem markType_any (t : Ty) (c : Nat) (v : Value) (lo hi : Nat) (K : Nat) (w : World) (hc : Cnt t c) (hx : TyIn w lo hi t v) (hK : K + 2 * c ≤ 100000000) :
    Calls Try.prog 13 #[.agg #[.int .i64 t.k, .int .i64 t.n, v], .int .i64 K] w fun e w' => e = .returned (.int .i64 ((K + 2 * c : Nat) : Int)) ∧ Inside lo hi w w' := by
  obtain ⟨a, cap, rfl, hlen⟩ := hx.at.slice
  have HX := Lib.hid hx
  have HC := Lib.hid hc
  have HA0 : Hid (Inside lo hi w (w.alloc (.cells #[.int .i64 t.k, .int .i64 t.n, .slice a t.ks.length cap] 28))) := Lib.hid (by
    have hb := (Below.refl w.heap.size w).alloc (Nat.le_refl _) (.cells #[.int .i64 t.k, .int .i64 t.n, .slice a t.ks.length cap] 28)
    exact ⟨hb.os, hb.tape, hb.output, hb.size, fun x hx _ => hb.block x hx⟩)
  clear hx hc
  go_enter Try.func13, Try.ntmps13
  go_wp2_with fail
  go_at_call 34
  refine (markTypeS_any _ t c _ lo hi K _ (Nat.lt_succ_self _) HC.out (HX.out.kept ((Below.refl _ _).alloc (Nat.le_refl _) _)) hK).mono ?_
  rintro e w1 ⟨rfl, hI⟩
  have HI := Lib.hid (HA0.out.trans hI)
  clear hI
  go_wp2_with fail
  go_ret
  exact ⟨rfl, HI.out⟩

end Go.Proofs.Ytjhccdioainibaa
