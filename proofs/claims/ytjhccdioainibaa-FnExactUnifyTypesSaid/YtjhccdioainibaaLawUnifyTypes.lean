/-
  FnExactUnifyTypes returns true for every two types, and they read as they did: UnifyTypes answers as its model, in memory of its own. No conditions.
-/
import Derived.Test.YtjhccdioainibaaRows
import Derived.ProofKit
import Derived.OpenShut
import Derived.ShutString
import Derived.ChangeOld
import Derived.Below
import Derived.Lib.SmallJoins
import Derived.Test.YtjhccdioainibaaW27
import Derived.Test.YtjhccdioainibaaW10
import Derived.Test.YtjhccdioainibaaW4
namespace Go.Proofs.Ytjhccdioainibaa.fnExactUnifyTypes
open Go.Proofs.Ytjhccdioainibaa
open Go.ChangeShapes Go.WideShapes Go.ChangeAt Go.RowKit Go.Joins
open Go.ChangeMaps (open_string shut_string)
set_option linter.unusedVariables false
set_option linter.unusedSimpArgs false

theorem own : ownKnob Try.prog.godebug = none := by kernel_rfl
theorem laidOut : laidOutB Try.prog = true := by kernel_rfl

theorem unT_valid {a b x : Ty} (h : unT a b = some x) : tvT x = true := by
  unfold unT at h
  split at h
  · unfold uniT at h
    split at h
    · rename_i hx
      injection h with h
      rw [← h]
      exact (Classical.choose_spec hx).2.2
    · cases h
  · cases h
theorem unT_cnt (a b : Ty) : ∃ c, Cnt (optT (unT a b)) c ∧ c ≤ 62 := by
  rcases h : unT a b with _ | x
  · exact ⟨0, .node 0 0 [] (fun _ => 0) (fun i hi => absurd hi (Nat.not_lt_zero _)), by omega⟩
  · exact cnt_valid (unT_valid h)
/-- Nothing that lay in the world a has changed. -/
def Bw (a w : World) : Prop := Below a.heap.size a w
theorem Bw.kept {a w w' : World} (h : Bw a w) (hb : Below w.heap.size w w') : Bw a w' := Below.trans h (hb.mono h.size)
/-- The type T in the box B, made behind the world a. -/
structure Got (a : World) (T : Ty) (B lo hi : Nat) (sv : Value) (w : World) : Prop where
  box : TBox w B (.int .i64 T.k) (.int .i64 T.n) sv
  ty : TyIn w lo hi T sv
  below : Below a.heap.size a w
  z : a.heap.size ≤ B ∧ a.heap.size ≤ lo ∧ hi ≤ w.heap.size ∧ B < w.heap.size
theorem got_alloc {a w : World} {T : Ty} {lo : Nat} {sv : Value} (ht : TyIn w lo w.heap.size T sv) (hb : Bw a w) (hlo : a.heap.size ≤ lo) : Got a T w.heap.size lo w.heap.size sv (w.alloc (.cells #[.int .i64 T.k, .int .i64 T.n, sv] 28)) :=
  have hA : Below w.heap.size w (w.alloc (.cells #[.int .i64 T.k, .int .i64 T.n, sv] 28)) := (Below.refl _ _).alloc (Nat.le_refl _) _
  ⟨tbox_new w _ _ _ _, ht.kept hA, hb.kept hA, hb.size, hlo, by simp, by simp⟩
theorem got_set {a w : World} {T : Ty} {B lo : Nat} {sv : Value} (hr : RB w B) (ht : TyIn w lo w.heap.size T sv) (hb : Bw a w) (hlo : a.heap.size ≤ lo) (hB : a.heap.size ≤ B) (hBl : B < lo) :
    Got a T B lo w.heap.size sv (((w.setCell ⟨B, 0, none⟩ (.int .i64 T.k)).setCell ⟨B, 1, none⟩ (.int .i64 T.n)).setCell ⟨B, 2, none⟩ sv) := by
  obtain ⟨p0, p1, p2, f0, f1, f2, pz⟩ := hr
  refine ⟨⟨by go_simp, by go_simp, by go_simp, by simpa using pz⟩, ht.keep (by simp) (fun b h1 _ _ => heap_res (by omega)), ?_, hB, hlo, by simp, by simpa using pz⟩
  exact ⟨hb.os, hb.tape, hb.output, by simpa using hb.size, fun b h => (heap_res (by omega)).trans (hb.block b h)⟩

set_option maxRecDepth 100000 in
set_option maxHeartbeats 16000000 in
theorem walk (t : Ty) (v : Value) (t2 : Ty) (v2 : Value) (w : World) (hx : TyAt w t v) (hl : TyAt w t2 v2) :
    Calls Try.prog 3 #[.agg #[.int .i64 t.k, .int .i64 t.n, v], .agg #[.int .i64 t2.k, .int .i64 t2.n, v2]] w fun e w' => e = .returned (.bool true) ∧ Below w.heap.size w w' := by
  obtain ⟨c, hc⟩ := cnt_total _ t (Nat.lt_succ_self _)
  obtain ⟨cl, hcl⟩ := cnt_total _ t2 (Nat.lt_succ_self _)
  have HX := Lib.hid hx
  have HL := Lib.hid hl
  have HC := Lib.hid hc
  have HCL := Lib.hid hcl
  obtain ⟨a, cap, rfl, hlen⟩ := hx.slice
  obtain ⟨la, lc, rfl, hllen⟩ := hl.slice
  clear hx hl hc hcl
  obtain ⟨W1, hW1⟩ : ∃ W, (w.alloc (.cells #[.int .i64 t.k, .int .i64 t.n, .slice a t.ks.length cap] 24)).alloc (.cells #[.int .i64 t2.k, .int .i64 t2.n, .slice la t2.ks.length lc] 24) = W := ⟨_, rfl⟩
  have HA0 : Hid (Below w.heap.size w W1) := Lib.hid (by rw [← hW1]; exact ((Below.refl _ _).alloc (Nat.le_refl _) _).alloc (by simp) _)
  have HP0 : Hid (TBox W1 w.heap.size (.int .i64 t.k) (.int .i64 t.n) (.slice a t.ks.length cap)) := Lib.hid (by rw [← hW1]; exact (tbox_new w _ _ _ _).kept ((Below.refl _ _).alloc (Nat.le_refl _) _))
  have HR0 : Hid (TBox W1 (w.heap.size + 1) (.int .i64 t2.k) (.int .i64 t2.n) (.slice la t2.ks.length lc)) := Lib.hid (by
    have h := tbox_new (w.alloc (.cells #[.int .i64 t.k, .int .i64 t.n, .slice a t.ks.length cap] 24)) (.int .i64 t2.k) (.int .i64 t2.n) (.slice la t2.ks.length lc) 24
    rw [hW1] at h; simpa using h)
  have HW1 := Lib.hid hW1
  clear hW1
  by_cases hle : (c : Int) ≤ 1048576
  case neg =>
    have HLE := Lib.hid (leftOf_no hle)
    go_enter Try.func3, Try.ntmps3
    go_wp2_with fail
    rw [HW1.out]
    obtain ⟨p0, p1, p2, pz⟩ := HP0.out
    obtain ⟨r0, r1, r2, rz⟩ := HR0.out

    go_wp2_with fail
    go_at_call 8
    refine (szType_any _ t c _ 1048576 _ (Nat.lt_succ_self _) HC.out (HX.out.kept HA0.out) (by omega) (by omega)).mono ?_
    rintro e w1 ⟨rfl, hb1⟩
    rw [HLE.out]
    have H1 := Lib.hid (HA0.out.trans (hb1.mono HA0.out.size))
    clear hb1
    go_wp2_with fail
    go_ret
    exact ⟨rfl, H1.out⟩
  have hcm : c ≤ 1048576 := by omega
  have HLE := Lib.hid (leftOf_yes hle)
  have hnn : 0 ≤ 1048576 - (c : Int) := by omega
  obtain ⟨left, hleft⟩ : ∃ left : Int, 1048576 - (c : Int) = left := ⟨_, rfl⟩
  rw [hleft] at HLE hnn
  have hl1 : left ≤ 1048576 := by omega
  have hln : ¬ left < 0 := by omega
  by_cases hle2 : (cl : Int) ≤ left
  case neg =>
    have HLE2 := Lib.hid (leftOf_no hle2)
    clear hle hle2 hleft
    go_enter Try.func3, Try.ntmps3
    go_wp2_with fail
    rw [HW1.out]
    obtain ⟨p0, p1, p2, pz⟩ := HP0.out
    obtain ⟨r0, r1, r2, rz⟩ := HR0.out

    go_wp2_with fail
    go_at_call 8
    refine (szType_any _ t c _ 1048576 _ (Nat.lt_succ_self _) HC.out (HX.out.kept HA0.out) (by omega) (by omega)).mono ?_
    rintro e w1 ⟨rfl, hb1⟩
    rw [HLE.out]
    have H1 := Lib.hid (HA0.out.trans (hb1.mono HA0.out.size))
    have HR1 := Lib.hid (HR0.out.kept hb1)
    clear hb1 p0 p1 p2 pz r0 r1 r2 rz
    obtain ⟨r0, r1, r2, rz⟩ := HR1.out
    go_wp2_with fail
    go_at_call 8
    refine (szType_any _ t2 cl _ left _ (Nat.lt_succ_self _) HCL.out (HL.out.kept H1.out) hnn hl1).mono ?_
    rintro e w2 ⟨rfl, hb2⟩
    rw [HLE2.out]
    have H2 := Lib.hid (H1.out.trans (hb2.mono H1.out.size))
    clear hb2
    go_wp2_with fail
    go_ret
    exact ⟨rfl, H2.out⟩
  have HLE2 := Lib.hid (leftOf_yes hle2)
  have hclm : cl ≤ 1048576 := by omega
  obtain ⟨left2, hleft2⟩ : ∃ left2 : Int, left - (cl : Int) = left2 := ⟨_, rfl⟩
  rw [hleft2] at HLE2
  have hln2 : ¬ left2 < 0 := by omega
  obtain ⟨r, hr⟩ : ∃ r, unT t t2 = r := ⟨_, rfl⟩
  obtain ⟨cT, hcT, hcT62⟩ := unT_cnt t t2
  rw [hr] at hcT
  have HRR := Lib.hid hr
  obtain ⟨T, hT⟩ : ∃ T, optT r = T := ⟨_, rfl⟩
  obtain ⟨b, hb⟩ : ∃ b, r.isSome = b := ⟨_, rfl⟩
  rw [hT] at hcT
  have HCT := Lib.hid hcT
  have HF : Hid (∀ (w : World) (e : Ending) (w' : World), OptRet r w e w' → ∃ v, e = .returned (.tuple #[.agg #[.int .i64 T.k, .int .i64 T.n, v], .bool b]) ∧ TyIn w' w.heap.size w'.heap.size T v ∧ Below w.heap.size w w') := Lib.hid (by rw [← hT, ← hb]; exact fun w e w' h => h.flat)
  have hbb := bne_same b
  have hcTm : cT ≤ 1048576 := by omega
  have hK : 1 + 2 * cT ≤ 100000000 := by omega
  have hK1 : 1 + 2 * c ≤ 100000000 := by omega
  have hK2 : (1 + 2 * c) + 2 * cl ≤ 100000000 := by omega
  obtain ⟨KK, hKK⟩ : ∃ KK : Int, ((1 + 2 * cT : Nat) : Int) = KK := ⟨_, rfl⟩
  have hkn : ¬ KK < 0 := by omega
  have HKK := Lib.hid hKK
  obtain ⟨K1, hK1e⟩ : ∃ K1 : Int, ((1 + 2 * c : Nat) : Int) = K1 := ⟨_, rfl⟩
  obtain ⟨K2, hK2e⟩ : ∃ K2 : Int, (((1 + 2 * c) + 2 * cl : Nat) : Int) = K2 := ⟨_, rfl⟩
  have hk2n : ¬ K2 < 0 := by omega
  have HK1 := Lib.hid hK1e
  have HK2 := Lib.hid hK2e
  clear hle hle2 hleft hleft2 hT hb hcT hr hKK hK1e hK2e
  go_enter Try.func3, Try.ntmps3
  go_wp2_with fail
  rw [HW1.out]
  obtain ⟨p0, p1, p2, pz⟩ := HP0.out
  obtain ⟨r0, r1, r2, rz⟩ := HR0.out
  go_wp2_with fail
  go_at_call 8
  refine (szType_any _ t c _ 1048576 _ (Nat.lt_succ_self _) HC.out (HX.out.kept HA0.out) (by omega) (by omega)).mono ?_
  rintro e w1 ⟨rfl, hb1⟩
  rw [HLE.out]
  have HP1 := Lib.hid (HP0.out.kept hb1)
  have HR1 := Lib.hid (HR0.out.kept hb1)
  have H1 := Lib.hid (HA0.out.trans (hb1.mono HA0.out.size))
  clear hb1 p0 p1 p2 pz r0 r1 r2 rz
  obtain ⟨r0, r1, r2, rz⟩ := HR1.out
  go_wp2_with fail
  go_at_call 8
  refine (szType_any _ t2 cl _ left _ (Nat.lt_succ_self _) HCL.out (HL.out.kept H1.out) hnn hl1).mono ?_
  rintro e w2 ⟨rfl, hb2⟩
  rw [HLE2.out]
  have HP2 := Lib.hid (HP1.out.kept hb2)
  have HR2 := Lib.hid (HR1.out.kept hb2)
  have H2 := Lib.hid (H1.out.trans (hb2.mono H1.out.size))
  clear hb2 r0 r1 r2 rz
  have Z1 := Lib.hid (show w.heap.size + 2 ≤ w2.heap.size from HR2.out.sz)
  have HBW5 := Lib.hid (show Bw w2 w2 from Below.refl _ _)
  obtain ⟨bf101, bg101, bh101, bz101⟩ := HP2.out
  obtain ⟨bf102, bg102, bh102, bz102⟩ := HR2.out
  go_upto_region 8 with fail
  go_cut [6, 7] (fun s6 s7 wx => ∃ (B lo hi : Nat) (sv : Value), s6 = .pointer (some ⟨B, 0, none⟩) ∧ s7 = .bool b ∧ Hid (Got w2 T B lo hi sv wx))
  case first =>
    go_region_held3 (fun w' => w'.cell? ⟨w.heap.size, 0, none⟩ = some (.int .i64 t.k) ∧ w'.cell? ⟨w.heap.size, 1, none⟩ = some (.int .i64 t.n) ∧ w'.cell? ⟨w.heap.size, 2, none⟩ = some (.slice a t.ks.length cap) ∧ w'.cell? ⟨(w.heap.size + 1), 0, none⟩ = some (.int .i64 t2.k) ∧ w'.cell? ⟨(w.heap.size + 1), 1, none⟩ = some (.int .i64 t2.n) ∧ w'.cell? ⟨(w.heap.size + 1), 2, none⟩ = some (.slice la t2.ks.length lc)) (first | go_keep | exact ⟨(cell_res ne0).trans bf128, (cell_res ne0).trans bg128, (cell_res ne0).trans bh128, (cell_res ne1).trans bf129, (cell_res ne1).trans bg129, (cell_res ne1).trans bh129⟩)
      (first
        | (have hgd2 := H117; clear hgd2; go_at_call 9; refine (unifyTypes_spec t t2 _ _ _ (by first | exact T115.out | exact (T115.out).kept (Below.refl _ _).drew | exact (T115.out).kept ((Below.refl _ _).alloc (Nat.le_refl _) _) | exact (T115.out).kept (((Below.refl _ _).alloc (Nat.le_refl _) _).drew)) (by first | exact T4.out | exact (T4.out).kept (Below.refl _ _).drew | exact (T4.out).kept ((Below.refl _ _).alloc (Nat.le_refl _) _) | exact (T4.out).kept (((Below.refl _ _).alloc (Nat.le_refl _) _).drew)) r HRR.out).mono ?_; rintro e w5 hret; obtain ⟨v5, rfl, hty5, hbx⟩ := HF.out _ _ _ hret; (first | (have hrb := HRB.out; clear HRB; have HRB := Lib.hid (hrb.kept hbx); clear hrb) | (have hrb : RB w5 w4.heap.size := (by first | exact (rb_new w4 28).kept hbx | exact (rb_new w4.drew 28).kept hbx); have HRB := Lib.hid hrb; clear hrb; have ne0 : ¬ w.heap.size = w4.heap.size := (by omega); have ne1 : ¬ w.heap.size + 1 = w4.heap.size := (by omega)) | skip); (try obtain ⟨u0, u1, u2, uf0, uf1, uf2, uz⟩ := HRB.out); have hbx : Below w4.heap.size w4 w5 := Below.trans (B := w4.heap.size) (by first | exact Below.refl _ _ | exact (Below.refl _ _).drew | exact (Below.refl _ _).alloc (Nat.le_refl _) _ | exact ((Below.refl _ _).alloc (Nat.le_refl _) _).drew | exact ((Below.refl _ _).drew).alloc (by first | exact Nat.le_refl _ | (simp; done)) _) (hbx.mono (by first | exact Nat.le_refl _ | (simp; done))); have hbd : Below w4.heap.size w4 w5 := Below.trans (B := w4.heap.size) (by first | exact Below.refl _ _ | exact (Below.refl _ _).drew) hbx; obtain ⟨a5, k5, rfl, _⟩ := hty5.at.slice; have T5 := Lib.hid hty5; clear hret hty5; have Z121 := Lib.hid (show w4.heap.size ≤ w5.heap.size from hbd.size); have B122 := Lib.hid (B113.out.kept hbd); have B123 := Lib.hid (B114.out.kept hbd); have T124 := Lib.hid (T115.out.kept hbd); have T125 := Lib.hid (T4.out.kept hbd); have T126 := Lib.hid (T116.out.kept hbd); have H127 := Lib.hid (H117.out.trans (hbd.mono H117.out.size)); obtain ⟨bf128, bg128, bh128, bz128⟩ := B122.out; obtain ⟨bf129, bg129, bh129, bz129⟩ := B123.out; clear hbx hbd)
        | (have hgd1 := H108; clear hgd1; go_at_call 10; refine (toType_any _ t2 cl _ _ (Nat.lt_succ_self _) HCL.out hclm (HL.out.kept (by first | exact H108.out | exact H108.out.drew | exact H108.out.alloc H108.out.size _ | exact (H108.out.alloc H108.out.size _).drew | exact (H108.out.drew).alloc (H108.out.drew).size _))).mono ?_; rintro e w4 ⟨v4, rfl, hty4, hbx⟩; (first | (have hrb := HRB.out; clear HRB; have HRB := Lib.hid (hrb.kept hbx); clear hrb) | (have hrb : RB w4 w3.heap.size := (by first | exact (rb_new w3 28).kept hbx | exact (rb_new w3.drew 28).kept hbx); have HRB := Lib.hid hrb; clear hrb; have ne0 : ¬ w.heap.size = w3.heap.size := (by omega); have ne1 : ¬ w.heap.size + 1 = w3.heap.size := (by omega)) | skip); (try obtain ⟨u0, u1, u2, uf0, uf1, uf2, uz⟩ := HRB.out); have hbx : Below w3.heap.size w3 w4 := Below.trans (B := w3.heap.size) (by first | exact Below.refl _ _ | exact (Below.refl _ _).drew | exact (Below.refl _ _).alloc (Nat.le_refl _) _ | exact ((Below.refl _ _).alloc (Nat.le_refl _) _).drew | exact ((Below.refl _ _).drew).alloc (by first | exact Nat.le_refl _ | (simp; done)) _) (hbx.mono (by first | exact Nat.le_refl _ | (simp; done))); have hbd : Below w3.heap.size w3 w4 := Below.trans (B := w3.heap.size) (by first | exact Below.refl _ _ | exact (Below.refl _ _).drew) hbx; obtain ⟨a4, k4, rfl, _⟩ := hty4.at.slice; have T4 := Lib.hid hty4.ok; clear hty4; have Z112 := Lib.hid (show w3.heap.size ≤ w4.heap.size from hbd.size); have B113 := Lib.hid (B105.out.kept hbd); have B114 := Lib.hid (B106.out.kept hbd); have T115 := Lib.hid (T3.out.kept hbd); have T116 := Lib.hid (T107.out.kept hbd); have H117 := Lib.hid (H108.out.trans (hbd.mono H108.out.size)); obtain ⟨bf118, bg118, bh118, bz118⟩ := B113.out; obtain ⟨bf119, bg119, bh119, bz119⟩ := B114.out; clear hbx hbd)
        | (go_at_call 10; refine (toType_any _ t c _ _ (Nat.lt_succ_self _) HC.out hcm (HX.out.kept (by first | exact H2.out | exact H2.out.drew | exact H2.out.alloc H2.out.size _ | exact (H2.out.alloc H2.out.size _).drew | exact (H2.out.drew).alloc (H2.out.drew).size _))).mono ?_; rintro e w3 ⟨v3, rfl, hty3, hbx⟩; (first | (have hrb := HRB.out; clear HRB; have HRB := Lib.hid (hrb.kept hbx); clear hrb) | (have hrb : RB w3 w2.heap.size := (by first | exact (rb_new w2 28).kept hbx | exact (rb_new w2.drew 28).kept hbx); have HRB := Lib.hid hrb; clear hrb; have ne0 : ¬ w.heap.size = w2.heap.size := (by omega); have ne1 : ¬ w.heap.size + 1 = w2.heap.size := (by omega)) | skip); (try obtain ⟨u0, u1, u2, uf0, uf1, uf2, uz⟩ := HRB.out); have hbx : Below w2.heap.size w2 w3 := Below.trans (B := w2.heap.size) (by first | exact Below.refl _ _ | exact (Below.refl _ _).drew | exact (Below.refl _ _).alloc (Nat.le_refl _) _ | exact ((Below.refl _ _).alloc (Nat.le_refl _) _).drew | exact ((Below.refl _ _).drew).alloc (by first | exact Nat.le_refl _ | (simp; done)) _) (hbx.mono (by first | exact Nat.le_refl _ | (simp; done))); have hbd : Below w2.heap.size w2 w3 := Below.trans (B := w2.heap.size) (by first | exact Below.refl _ _ | exact (Below.refl _ _).drew) hbx; obtain ⟨a3, k3, rfl, _⟩ := hty3.at.slice; have T3 := Lib.hid hty3.ok; clear hty3; have Z104 := Lib.hid (show w2.heap.size ≤ w3.heap.size from hbd.size); have B105 := Lib.hid (HP2.out.kept hbd); have B106 := Lib.hid (HR2.out.kept hbd); have T107 := Lib.hid (HBW5.out.kept hbd); have H108 := Lib.hid (H2.out.trans (hbd.mono H2.out.size)); obtain ⟨bf109, bg109, bh109, bz109⟩ := B105.out; obtain ⟨bf110, bg110, bh110, bz110⟩ := B106.out; clear hbx hbd))
    all_goals go_wp2_with fail
    all_goals go_meet
    all_goals first
      | exact ⟨_, _, _, _, rfl, rfl, Lib.hid (got_alloc T5.out T126.out (by first | exact (by have z0 := Z1.out; have z1 := Z104.out; have z2 := Z112.out; have z3 := Z121.out; omega) | exact (by have z0 := Z1.out; have z1 := Z104.out; have z2 := Z112.out; have z3 := Z121.out; simp; omega)))⟩
      | exact ⟨_, _, _, _, rfl, rfl, Lib.hid (got_set HRB.out T5.out T126.out (by first | exact (by have z0 := Z1.out; have z1 := Z104.out; have z2 := Z112.out; have z3 := Z121.out; omega) | exact (by have z0 := Z1.out; have z1 := Z104.out; have z2 := Z112.out; have z3 := Z121.out; simp; omega)) (by first | exact (by have z0 := Z1.out; have z1 := Z104.out; have z2 := Z112.out; have z3 := Z121.out; omega) | exact (by have z0 := Z1.out; have z1 := Z104.out; have z2 := Z112.out; have z3 := Z121.out; simp; omega)) (by first | (simp; done) | omega))⟩
  case rest =>
  clear bf101 bg101 bh101 bz101 bf102 bg102 bh102 bz102
  obtain ⟨wC, hwC⟩ : ∃ x, x = wc := ⟨_, rfl⟩
  subst hwC
  obtain ⟨B5, lo5, hi5, sv5, rfl, rfl, HGOT5⟩ := hcut
  have hgb := HGOT5.out.below
  have Z104 := Lib.hid (show w2.heap.size ≤ wC.heap.size from hgb.size)
  have B105 := Lib.hid (HP2.out.kept hgb)
  have B106 := Lib.hid (HR2.out.kept hgb)
  have H107 := Lib.hid (H2.out.trans (hgb.mono H2.out.size))
  clear hgb
  have HBX5 := Lib.hid HGOT5.out.box
  have HTX5 := Lib.hid HGOT5.out.ty
  have ZG5 := Lib.hid HGOT5.out.z
  obtain ⟨bf108, bg108, bh108, bz108⟩ := B105.out
  go_wp2_with fail
  go_at_call 10
  refine (toType_any _ t c _ _ (Nat.lt_succ_self _) HC.out hcm (HX.out.kept H107.out)).mono ?_
  rintro e w6 ⟨v6, rfl, hty6, hb⟩
  obtain ⟨a6, k6, rfl, _⟩ := hty6.at.slice
  have T6 := Lib.hid hty6
  clear hty6
  have Z110 := Lib.hid (show wC.heap.size ≤ w6.heap.size from hb.size)
  have B111 := Lib.hid (B105.out.kept hb)
  have B112 := Lib.hid (B106.out.kept hb)
  have B113 := Lib.hid (HBX5.out.kept hb)
  have T114 := Lib.hid (HTX5.out.kept hb)
  have H115 := Lib.hid (H107.out.trans (hb.mono H107.out.size))
  clear bf108 bg108 bh108 bz108
  clear hb
  obtain ⟨W6, hW116⟩ : ∃ W, w6.alloc (.cells #[.int .i64 t.k, .int .i64 t.n, .slice a6 t.ks.length k6] 28) = W := ⟨_, rfl⟩
  have hA116 : Below w6.heap.size w6 W6 := by rw [← hW116]; exact (Below.refl _ _).alloc (Nat.le_refl _) _
  have hZ116 : W6.heap.size = w6.heap.size + 1 := by rw [← hW116]; simp
  have B116n : Hid (TBox W6 w6.heap.size (.int .i64 t.k) (.int .i64 t.n) (.slice a6 t.ks.length k6)) := Lib.hid (by rw [← hW116]; exact tbox_new w6 _ _ _ _)
  have Zb116 := Lib.hid hZ116
  have Z118 := Lib.hid (show w6.heap.size ≤ W6.heap.size from hA116.size)
  have B119 := Lib.hid (B111.out.kept hA116)
  have B120 := Lib.hid (B112.out.kept hA116)
  have B121 := Lib.hid (B113.out.kept hA116)
  have T122 := Lib.hid (T114.out.kept hA116)
  have T123 := Lib.hid (T6.out.kept hA116)
  have H124 := Lib.hid (H115.out.trans (hA116.mono H115.out.size))
  clear hA116 hZ116
  obtain ⟨bf125, bg125, bh125, bz125⟩ := B120.out
  go_wp2_with fail
  clear hW116
  go_at_call 10
  refine (toType_any _ t2 cl _ _ (Nat.lt_succ_self _) HCL.out hclm (HL.out.kept H124.out)).mono ?_
  rintro e w7 ⟨v7, rfl, hty7, hb⟩
  obtain ⟨a7, k7, rfl, _⟩ := hty7.at.slice
  have T7 := Lib.hid hty7
  clear hty7
  have Z127 := Lib.hid (show W6.heap.size ≤ w7.heap.size from hb.size)
  have B128 := Lib.hid (B119.out.kept hb)
  have B129 := Lib.hid (B120.out.kept hb)
  have B130 := Lib.hid (B121.out.kept hb)
  have B131 := Lib.hid (B116n.out.kept hb)
  have T132 := Lib.hid (T122.out.kept hb)
  have T133 := Lib.hid (T123.out.kept hb)
  have H134 := Lib.hid (H124.out.trans (hb.mono H124.out.size))
  clear bf125 bg125 bh125 bz125
  clear hb
  obtain ⟨W7, hW135⟩ : ∃ W, w7.alloc (.cells #[.int .i64 t2.k, .int .i64 t2.n, .slice a7 t2.ks.length k7] 28) = W := ⟨_, rfl⟩
  have hA135 : Below w7.heap.size w7 W7 := by rw [← hW135]; exact (Below.refl _ _).alloc (Nat.le_refl _) _
  have hZ135 : W7.heap.size = w7.heap.size + 1 := by rw [← hW135]; simp
  have B135n : Hid (TBox W7 w7.heap.size (.int .i64 t2.k) (.int .i64 t2.n) (.slice a7 t2.ks.length k7)) := Lib.hid (by rw [← hW135]; exact tbox_new w7 _ _ _ _)
  have Zb135 := Lib.hid hZ135
  have Z137 := Lib.hid (show w7.heap.size ≤ W7.heap.size from hA135.size)
  have B138 := Lib.hid (B128.out.kept hA135)
  have B139 := Lib.hid (B129.out.kept hA135)
  have B140 := Lib.hid (B130.out.kept hA135)
  have B141 := Lib.hid (B131.out.kept hA135)
  have T142 := Lib.hid (T132.out.kept hA135)
  have T143 := Lib.hid (T133.out.kept hA135)
  have T144 := Lib.hid (T7.out.kept hA135)
  have H145 := Lib.hid (H134.out.trans (hA135.mono H134.out.size))
  clear hA135 hZ135
  obtain ⟨bf146, bg146, bh146, bz146⟩ := B141.out
  obtain ⟨bf147, bg147, bh147, bz147⟩ := B135n.out
  go_wp2_with fail
  clear hW135
  go_at_call 11
  refine (Nx.unifyTypes_impl t t2 _ _ _ T143.out.ok T144.out.ok r HRR.out).mono ?_
  intro e w8 hret
  obtain ⟨v8, rfl, hty8, hb⟩ := HF.out _ _ _ hret
  obtain ⟨a8, k8, rfl, _⟩ := hty8.at.slice
  have T8 := Lib.hid hty8
  clear bf146 bg146 bh146 bz146 bf147 bg147 bh147 bz147
  have Z149 := Lib.hid (show W7.heap.size ≤ w8.heap.size from hb.size)
  have B150 := Lib.hid (B138.out.kept hb)
  have B151 := Lib.hid (B139.out.kept hb)
  have B152 := Lib.hid (B140.out.kept hb)
  have B153 := Lib.hid (B141.out.kept hb)
  have B154 := Lib.hid (B135n.out.kept hb)
  have T155 := Lib.hid (T142.out.kept hb)
  have T156 := Lib.hid (T143.out.kept hb)
  have T157 := Lib.hid (T144.out.kept hb)
  have H158 := Lib.hid (H145.out.trans (hb.mono H145.out.size))
  clear hb hret hty8
  obtain ⟨W8, hW159⟩ : ∃ W, w8.alloc (.cells #[.int .i64 T.k, .int .i64 T.n, .slice a8 T.ks.length k8] 28) = W := ⟨_, rfl⟩
  have hA159 : Below w8.heap.size w8 W8 := by rw [← hW159]; exact (Below.refl _ _).alloc (Nat.le_refl _) _
  have hZ159 : W8.heap.size = w8.heap.size + 1 := by rw [← hW159]; simp
  have B159n : Hid (TBox W8 w8.heap.size (.int .i64 T.k) (.int .i64 T.n) (.slice a8 T.ks.length k8)) := Lib.hid (by rw [← hW159]; exact tbox_new w8 _ _ _ _)
  have Zb159 := Lib.hid hZ159
  have Z161 := Lib.hid (show w8.heap.size ≤ W8.heap.size from hA159.size)
  have B162 := Lib.hid (B150.out.kept hA159)
  have B163 := Lib.hid (B151.out.kept hA159)
  have B164 := Lib.hid (B152.out.kept hA159)
  have B165 := Lib.hid (B153.out.kept hA159)
  have B166 := Lib.hid (B154.out.kept hA159)
  have T167 := Lib.hid (T155.out.kept hA159)
  have T168 := Lib.hid (T156.out.kept hA159)
  have T169 := Lib.hid (T157.out.kept hA159)
  have T170 := Lib.hid (T8.out.kept hA159)
  have H171 := Lib.hid (H158.out.trans (hA159.mono H158.out.size))
  clear hA159 hZ159
  obtain ⟨bf172, bg172, bh172, bz172⟩ := B164.out
  obtain ⟨bf173, bg173, bh173, bz173⟩ := B159n.out
  go_wp2_with fail
  clear hW159
  go_at_call 12
  refine (eqType_any _ T cT _ _ _ (Nat.lt_succ_self _) HCT.out hcTm T170.out.at T167.out.at).mono ?_
  rintro e w9 ⟨rfl, hb⟩
  have Z175 := Lib.hid (show W8.heap.size ≤ w9.heap.size from hb.size)
  have B176 := Lib.hid (B162.out.kept hb)
  have B177 := Lib.hid (B163.out.kept hb)
  have B178 := Lib.hid (B164.out.kept hb)
  have B179 := Lib.hid (B165.out.kept hb)
  have B180 := Lib.hid (B166.out.kept hb)
  have B181 := Lib.hid (B159n.out.kept hb)
  have T182 := Lib.hid (T167.out.kept hb)
  have T183 := Lib.hid (T168.out.kept hb)
  have T184 := Lib.hid (T169.out.kept hb)
  have T185 := Lib.hid (T170.out.kept hb)
  have H186 := Lib.hid (H171.out.trans (hb.mono H171.out.size))
  clear bf172 bg172 bh172 bz172 bf173 bg173 bh173 bz173
  clear hb
  obtain ⟨bf187, bg187, bh187, bz187⟩ := B176.out
  obtain ⟨bf188, bg188, bh188, bz188⟩ := B179.out
  go_wp2_with fail
  go_region_held3 (fun w' => w'.cell? ⟨w6.heap.size, 0, none⟩ = some (.int .i64 t.k) ∧ w'.cell? ⟨w6.heap.size, 1, none⟩ = some (.int .i64 t.n) ∧ w'.cell? ⟨w6.heap.size, 2, none⟩ = some (.slice a6 t.ks.length k6) ∧ w'.cell? ⟨w.heap.size, 0, none⟩ = some (.int .i64 t.k) ∧ w'.cell? ⟨w.heap.size, 1, none⟩ = some (.int .i64 t.n) ∧ w'.cell? ⟨w.heap.size, 2, none⟩ = some (.slice a t.ks.length cap)) (go_keep)
    (first
      | (go_at_call 10; refine (toType_any _ t c _ _ (Nat.lt_succ_self _) HC.out hcm (HX.out.kept (by first | exact H186.out | exact H186.out.drew))).mono ?_; rintro e w10 ⟨vc1, rfl, htc1, hbc1⟩; obtain ⟨ac1, kc1, rfl, _⟩ := htc1.at.slice; have hbd : Below w9.heap.size w9 w10 := Below.trans (B := w9.heap.size) (by first | exact Below.refl _ _ | exact (Below.refl _ _).drew) hbc1; have TC1 := Lib.hid htc1.at; have Z190 := Lib.hid (show w9.heap.size ≤ w10.heap.size from hbd.size); have B191 := Lib.hid (B176.out.kept hbd); have B192 := Lib.hid (B177.out.kept hbd); have B193 := Lib.hid (B178.out.kept hbd); have B194 := Lib.hid (B179.out.kept hbd); have B195 := Lib.hid (B180.out.kept hbd); have B196 := Lib.hid (B181.out.kept hbd); have T197 := Lib.hid (T182.out.kept hbd); have T198 := Lib.hid (T183.out.kept hbd); have T199 := Lib.hid (T184.out.kept hbd); have T200 := Lib.hid (T185.out.kept hbd); have H201 := Lib.hid (H186.out.trans (hbd.mono H186.out.size)); obtain ⟨bf202, bg202, bh202, bz202⟩ := B194.out; obtain ⟨bf203, bg203, bh203, bz203⟩ := B191.out; clear hbc1 hbd htc1)
      | (go_at_call 12; refine (eqType_any _ t c _ _ _ (Nat.lt_succ_self _) HC.out hcm (by first | exact T198.out.at | exact T198.out.at.kept (Below.refl _ _).drew) (by first | exact TC1.out | exact TC1.out.kept (Below.refl _ _).drew)).mono ?_; rintro e w11 ⟨rfl, hbc2⟩; have hbd : Below w10.heap.size w10 w11 := Below.trans (B := w10.heap.size) (by first | exact Below.refl _ _ | exact (Below.refl _ _).drew) hbc2; have Z205 := Lib.hid (show w10.heap.size ≤ w11.heap.size from hbd.size); have B206 := Lib.hid (B191.out.kept hbd); have B207 := Lib.hid (B192.out.kept hbd); have B208 := Lib.hid (B193.out.kept hbd); have B209 := Lib.hid (B194.out.kept hbd); have B210 := Lib.hid (B195.out.kept hbd); have B211 := Lib.hid (B196.out.kept hbd); have T212 := Lib.hid (T197.out.kept hbd); have T213 := Lib.hid (T198.out.kept hbd); have T214 := Lib.hid (T199.out.kept hbd); have T215 := Lib.hid (T200.out.kept hbd); have H216 := Lib.hid (H201.out.trans (hbd.mono H201.out.size)); obtain ⟨bf217, bg217, bh217, bz217⟩ := B209.out; obtain ⟨bf218, bg218, bh218, bz218⟩ := B206.out; clear hbc2 hbd))
  clear bf187 bg187 bh187 bz187 bf188 bg188 bh188 bz188 bf202 bg202 bh202 bz202 bf203 bg203 bh203 bz203 bf217 bg217 bh217 bz217 bf218 bg218 bh218 bz218
  obtain ⟨bf219, bg219, bh219, bz219⟩ := B207.out
  obtain ⟨bf220, bg220, bh220, bz220⟩ := B210.out
  go_wp2_with fail
  go_region_held3 (fun w' => w'.cell? ⟨w7.heap.size, 0, none⟩ = some (.int .i64 t2.k) ∧ w'.cell? ⟨w7.heap.size, 1, none⟩ = some (.int .i64 t2.n) ∧ w'.cell? ⟨w7.heap.size, 2, none⟩ = some (.slice a7 t2.ks.length k7) ∧ w'.cell? ⟨(w.heap.size + 1), 0, none⟩ = some (.int .i64 t2.k) ∧ w'.cell? ⟨(w.heap.size + 1), 1, none⟩ = some (.int .i64 t2.n) ∧ w'.cell? ⟨(w.heap.size + 1), 2, none⟩ = some (.slice la t2.ks.length lc)) (go_keep)
    (first
      | (go_at_call 10; refine (toType_any _ t2 cl _ _ (Nat.lt_succ_self _) HCL.out hclm (HL.out.kept (by first | exact H216.out | exact H216.out.drew))).mono ?_; rintro e w13 ⟨vc1, rfl, htc1, hbc1⟩; obtain ⟨ac1, kc1, rfl, _⟩ := htc1.at.slice; have hbd : Below w11.heap.size w11 w13 := Below.trans (B := w11.heap.size) (by first | exact Below.refl _ _ | exact (Below.refl _ _).drew) hbc1; have TC1 := Lib.hid htc1.at; have Z222 := Lib.hid (show w11.heap.size ≤ w13.heap.size from hbd.size); have B223 := Lib.hid (B206.out.kept hbd); have B224 := Lib.hid (B207.out.kept hbd); have B225 := Lib.hid (B208.out.kept hbd); have B226 := Lib.hid (B209.out.kept hbd); have B227 := Lib.hid (B210.out.kept hbd); have B228 := Lib.hid (B211.out.kept hbd); have T229 := Lib.hid (T212.out.kept hbd); have T230 := Lib.hid (T213.out.kept hbd); have T231 := Lib.hid (T214.out.kept hbd); have T232 := Lib.hid (T215.out.kept hbd); have H233 := Lib.hid (H216.out.trans (hbd.mono H216.out.size)); obtain ⟨bf234, bg234, bh234, bz234⟩ := B227.out; obtain ⟨bf235, bg235, bh235, bz235⟩ := B224.out; clear hbc1 hbd htc1)
      | (go_at_call 12; refine (eqType_any _ t2 cl _ _ _ (Nat.lt_succ_self _) HCL.out hclm (by first | exact T231.out.at | exact T231.out.at.kept (Below.refl _ _).drew) (by first | exact TC1.out | exact TC1.out.kept (Below.refl _ _).drew)).mono ?_; rintro e w14 ⟨rfl, hbc2⟩; have hbd : Below w13.heap.size w13 w14 := Below.trans (B := w13.heap.size) (by first | exact Below.refl _ _ | exact (Below.refl _ _).drew) hbc2; have Z237 := Lib.hid (show w13.heap.size ≤ w14.heap.size from hbd.size); have B238 := Lib.hid (B223.out.kept hbd); have B239 := Lib.hid (B224.out.kept hbd); have B240 := Lib.hid (B225.out.kept hbd); have B241 := Lib.hid (B226.out.kept hbd); have B242 := Lib.hid (B227.out.kept hbd); have B243 := Lib.hid (B228.out.kept hbd); have T244 := Lib.hid (T229.out.kept hbd); have T245 := Lib.hid (T230.out.kept hbd); have T246 := Lib.hid (T231.out.kept hbd); have T247 := Lib.hid (T232.out.kept hbd); have H248 := Lib.hid (H233.out.trans (hbd.mono H233.out.size)); obtain ⟨bf249, bg249, bh249, bz249⟩ := B242.out; obtain ⟨bf250, bg250, bh250, bz250⟩ := B239.out; clear hbc2 hbd))
  clear bf219 bg219 bh219 bz219 bf220 bg220 bh220 bz220 bf234 bg234 bh234 bz234 bf235 bg235 bh235 bz235 bf249 bg249 bh249 bz249 bf250 bg250 bh250 bz250
  obtain ⟨bf251, bg251, bh251, bz251⟩ := B241.out
  go_wp2_with fail
  go_at_call 13
  refine (markType_any t c _ _ _ 1 _ HC.out T245.out hK1).mono ?_
  rintro e w15 ⟨rfl, hI⟩
  rw [HK1.out]
  clear bf251 bg251 bh251 bz251
  have B252 := Lib.hid (B238.out.away hI (by first | exact .inl (by have z0 := Z1.out; have z1 := Z104.out; have z2 := ZG5.out; have z3 := Z110.out; have z4 := Zb116.out; have z5 := Z118.out; have z6 := Z127.out; have z7 := Zb135.out; have z8 := Z137.out; have z9 := Z149.out; have z10 := Zb159.out; have z11 := Z161.out; have z12 := Z175.out; have z13 := Z190.out; have z14 := Z205.out; have z15 := Z222.out; have z16 := Z237.out; omega) | exact .inr (by have z0 := Z1.out; have z1 := Z104.out; have z2 := ZG5.out; have z3 := Z110.out; have z4 := Zb116.out; have z5 := Z118.out; have z6 := Z127.out; have z7 := Zb135.out; have z8 := Z137.out; have z9 := Z149.out; have z10 := Zb159.out; have z11 := Z161.out; have z12 := Z175.out; have z13 := Z190.out; have z14 := Z205.out; have z15 := Z222.out; have z16 := Z237.out; omega)))
  have B253 := Lib.hid (B239.out.away hI (by first | exact .inl (by have z0 := Z1.out; have z1 := Z104.out; have z2 := ZG5.out; have z3 := Z110.out; have z4 := Zb116.out; have z5 := Z118.out; have z6 := Z127.out; have z7 := Zb135.out; have z8 := Z137.out; have z9 := Z149.out; have z10 := Zb159.out; have z11 := Z161.out; have z12 := Z175.out; have z13 := Z190.out; have z14 := Z205.out; have z15 := Z222.out; have z16 := Z237.out; omega) | exact .inr (by have z0 := Z1.out; have z1 := Z104.out; have z2 := ZG5.out; have z3 := Z110.out; have z4 := Zb116.out; have z5 := Z118.out; have z6 := Z127.out; have z7 := Zb135.out; have z8 := Z137.out; have z9 := Z149.out; have z10 := Zb159.out; have z11 := Z161.out; have z12 := Z175.out; have z13 := Z190.out; have z14 := Z205.out; have z15 := Z222.out; have z16 := Z237.out; omega)))
  have B254 := Lib.hid (B240.out.away hI (by first | exact .inl (by have z0 := Z1.out; have z1 := Z104.out; have z2 := ZG5.out; have z3 := Z110.out; have z4 := Zb116.out; have z5 := Z118.out; have z6 := Z127.out; have z7 := Zb135.out; have z8 := Z137.out; have z9 := Z149.out; have z10 := Zb159.out; have z11 := Z161.out; have z12 := Z175.out; have z13 := Z190.out; have z14 := Z205.out; have z15 := Z222.out; have z16 := Z237.out; omega) | exact .inr (by have z0 := Z1.out; have z1 := Z104.out; have z2 := ZG5.out; have z3 := Z110.out; have z4 := Zb116.out; have z5 := Z118.out; have z6 := Z127.out; have z7 := Zb135.out; have z8 := Z137.out; have z9 := Z149.out; have z10 := Zb159.out; have z11 := Z161.out; have z12 := Z175.out; have z13 := Z190.out; have z14 := Z205.out; have z15 := Z222.out; have z16 := Z237.out; omega)))
  have B255 := Lib.hid (B241.out.away hI (by first | exact .inl (by have z0 := Z1.out; have z1 := Z104.out; have z2 := ZG5.out; have z3 := Z110.out; have z4 := Zb116.out; have z5 := Z118.out; have z6 := Z127.out; have z7 := Zb135.out; have z8 := Z137.out; have z9 := Z149.out; have z10 := Zb159.out; have z11 := Z161.out; have z12 := Z175.out; have z13 := Z190.out; have z14 := Z205.out; have z15 := Z222.out; have z16 := Z237.out; omega) | exact .inr (by have z0 := Z1.out; have z1 := Z104.out; have z2 := ZG5.out; have z3 := Z110.out; have z4 := Zb116.out; have z5 := Z118.out; have z6 := Z127.out; have z7 := Zb135.out; have z8 := Z137.out; have z9 := Z149.out; have z10 := Zb159.out; have z11 := Z161.out; have z12 := Z175.out; have z13 := Z190.out; have z14 := Z205.out; have z15 := Z222.out; have z16 := Z237.out; omega)))
  have B256 := Lib.hid (B242.out.away hI (by first | exact .inl (by have z0 := Z1.out; have z1 := Z104.out; have z2 := ZG5.out; have z3 := Z110.out; have z4 := Zb116.out; have z5 := Z118.out; have z6 := Z127.out; have z7 := Zb135.out; have z8 := Z137.out; have z9 := Z149.out; have z10 := Zb159.out; have z11 := Z161.out; have z12 := Z175.out; have z13 := Z190.out; have z14 := Z205.out; have z15 := Z222.out; have z16 := Z237.out; omega) | exact .inr (by have z0 := Z1.out; have z1 := Z104.out; have z2 := ZG5.out; have z3 := Z110.out; have z4 := Zb116.out; have z5 := Z118.out; have z6 := Z127.out; have z7 := Zb135.out; have z8 := Z137.out; have z9 := Z149.out; have z10 := Zb159.out; have z11 := Z161.out; have z12 := Z175.out; have z13 := Z190.out; have z14 := Z205.out; have z15 := Z222.out; have z16 := Z237.out; omega)))
  have B257 := Lib.hid (B243.out.away hI (by first | exact .inl (by have z0 := Z1.out; have z1 := Z104.out; have z2 := ZG5.out; have z3 := Z110.out; have z4 := Zb116.out; have z5 := Z118.out; have z6 := Z127.out; have z7 := Zb135.out; have z8 := Z137.out; have z9 := Z149.out; have z10 := Zb159.out; have z11 := Z161.out; have z12 := Z175.out; have z13 := Z190.out; have z14 := Z205.out; have z15 := Z222.out; have z16 := Z237.out; omega) | exact .inr (by have z0 := Z1.out; have z1 := Z104.out; have z2 := ZG5.out; have z3 := Z110.out; have z4 := Zb116.out; have z5 := Z118.out; have z6 := Z127.out; have z7 := Zb135.out; have z8 := Z137.out; have z9 := Z149.out; have z10 := Zb159.out; have z11 := Z161.out; have z12 := Z175.out; have z13 := Z190.out; have z14 := Z205.out; have z15 := Z222.out; have z16 := Z237.out; omega)))
  have T258 := Lib.hid (T244.out.apart hI (by first | exact .inl (by have z0 := Z1.out; have z1 := Z104.out; have z2 := ZG5.out; have z3 := Z110.out; have z4 := Zb116.out; have z5 := Z118.out; have z6 := Z127.out; have z7 := Zb135.out; have z8 := Z137.out; have z9 := Z149.out; have z10 := Zb159.out; have z11 := Z161.out; have z12 := Z175.out; have z13 := Z190.out; have z14 := Z205.out; have z15 := Z222.out; have z16 := Z237.out; omega) | exact .inr (by have z0 := Z1.out; have z1 := Z104.out; have z2 := ZG5.out; have z3 := Z110.out; have z4 := Zb116.out; have z5 := Z118.out; have z6 := Z127.out; have z7 := Zb135.out; have z8 := Z137.out; have z9 := Z149.out; have z10 := Zb159.out; have z11 := Z161.out; have z12 := Z175.out; have z13 := Z190.out; have z14 := Z205.out; have z15 := Z222.out; have z16 := Z237.out; omega)))
  have T259 := Lib.hid (T246.out.apart hI (by first | exact .inl (by have z0 := Z1.out; have z1 := Z104.out; have z2 := ZG5.out; have z3 := Z110.out; have z4 := Zb116.out; have z5 := Z118.out; have z6 := Z127.out; have z7 := Zb135.out; have z8 := Z137.out; have z9 := Z149.out; have z10 := Zb159.out; have z11 := Z161.out; have z12 := Z175.out; have z13 := Z190.out; have z14 := Z205.out; have z15 := Z222.out; have z16 := Z237.out; omega) | exact .inr (by have z0 := Z1.out; have z1 := Z104.out; have z2 := ZG5.out; have z3 := Z110.out; have z4 := Zb116.out; have z5 := Z118.out; have z6 := Z127.out; have z7 := Zb135.out; have z8 := Z137.out; have z9 := Z149.out; have z10 := Zb159.out; have z11 := Z161.out; have z12 := Z175.out; have z13 := Z190.out; have z14 := Z205.out; have z15 := Z222.out; have z16 := Z237.out; omega)))
  have T260 := Lib.hid (T247.out.apart hI (by first | exact .inl (by have z0 := Z1.out; have z1 := Z104.out; have z2 := ZG5.out; have z3 := Z110.out; have z4 := Zb116.out; have z5 := Z118.out; have z6 := Z127.out; have z7 := Zb135.out; have z8 := Z137.out; have z9 := Z149.out; have z10 := Zb159.out; have z11 := Z161.out; have z12 := Z175.out; have z13 := Z190.out; have z14 := Z205.out; have z15 := Z222.out; have z16 := Z237.out; omega) | exact .inr (by have z0 := Z1.out; have z1 := Z104.out; have z2 := ZG5.out; have z3 := Z110.out; have z4 := Zb116.out; have z5 := Z118.out; have z6 := Z127.out; have z7 := Zb135.out; have z8 := Z137.out; have z9 := Z149.out; have z10 := Zb159.out; have z11 := Z161.out; have z12 := Z175.out; have z13 := Z190.out; have z14 := Z205.out; have z15 := Z222.out; have z16 := Z237.out; omega)))
  have H261 := Lib.hid (hI.below (by have z0 := Z1.out; have z1 := Z104.out; have z2 := ZG5.out; have z3 := Z110.out; have z4 := Zb116.out; have z5 := Z118.out; have z6 := Z127.out; have z7 := Zb135.out; have z8 := Z137.out; have z9 := Z149.out; have z10 := Zb159.out; have z11 := Z161.out; have z12 := Z175.out; have z13 := Z190.out; have z14 := Z205.out; have z15 := Z222.out; have z16 := Z237.out; omega) H248.out H248.out.size)
  have Z262 := Lib.hid (show w14.heap.size ≤ w15.heap.size from hI.size)
  clear hI
  obtain ⟨bf263, bg263, bh263, bz263⟩ := B256.out
  go_wp2_with fail
  go_at_call 13
  refine ((HK1.out ▸ markType_any t2 cl _ _ _ (1 + 2 * c) _ HCL.out T259.out hK2)).mono ?_
  rintro e w16 ⟨rfl, hI⟩
  rw [HK2.out]
  clear bf263 bg263 bh263 bz263
  have B264 := Lib.hid (B252.out.away hI (by first | exact .inl (by have z0 := Z1.out; have z1 := Z104.out; have z2 := ZG5.out; have z3 := Z110.out; have z4 := Zb116.out; have z5 := Z118.out; have z6 := Z127.out; have z7 := Zb135.out; have z8 := Z137.out; have z9 := Z149.out; have z10 := Zb159.out; have z11 := Z161.out; have z12 := Z175.out; have z13 := Z190.out; have z14 := Z205.out; have z15 := Z222.out; have z16 := Z237.out; have z17 := Z262.out; omega) | exact .inr (by have z0 := Z1.out; have z1 := Z104.out; have z2 := ZG5.out; have z3 := Z110.out; have z4 := Zb116.out; have z5 := Z118.out; have z6 := Z127.out; have z7 := Zb135.out; have z8 := Z137.out; have z9 := Z149.out; have z10 := Zb159.out; have z11 := Z161.out; have z12 := Z175.out; have z13 := Z190.out; have z14 := Z205.out; have z15 := Z222.out; have z16 := Z237.out; have z17 := Z262.out; omega)))
  have B265 := Lib.hid (B253.out.away hI (by first | exact .inl (by have z0 := Z1.out; have z1 := Z104.out; have z2 := ZG5.out; have z3 := Z110.out; have z4 := Zb116.out; have z5 := Z118.out; have z6 := Z127.out; have z7 := Zb135.out; have z8 := Z137.out; have z9 := Z149.out; have z10 := Zb159.out; have z11 := Z161.out; have z12 := Z175.out; have z13 := Z190.out; have z14 := Z205.out; have z15 := Z222.out; have z16 := Z237.out; have z17 := Z262.out; omega) | exact .inr (by have z0 := Z1.out; have z1 := Z104.out; have z2 := ZG5.out; have z3 := Z110.out; have z4 := Zb116.out; have z5 := Z118.out; have z6 := Z127.out; have z7 := Zb135.out; have z8 := Z137.out; have z9 := Z149.out; have z10 := Zb159.out; have z11 := Z161.out; have z12 := Z175.out; have z13 := Z190.out; have z14 := Z205.out; have z15 := Z222.out; have z16 := Z237.out; have z17 := Z262.out; omega)))
  have B266 := Lib.hid (B254.out.away hI (by first | exact .inl (by have z0 := Z1.out; have z1 := Z104.out; have z2 := ZG5.out; have z3 := Z110.out; have z4 := Zb116.out; have z5 := Z118.out; have z6 := Z127.out; have z7 := Zb135.out; have z8 := Z137.out; have z9 := Z149.out; have z10 := Zb159.out; have z11 := Z161.out; have z12 := Z175.out; have z13 := Z190.out; have z14 := Z205.out; have z15 := Z222.out; have z16 := Z237.out; have z17 := Z262.out; omega) | exact .inr (by have z0 := Z1.out; have z1 := Z104.out; have z2 := ZG5.out; have z3 := Z110.out; have z4 := Zb116.out; have z5 := Z118.out; have z6 := Z127.out; have z7 := Zb135.out; have z8 := Z137.out; have z9 := Z149.out; have z10 := Zb159.out; have z11 := Z161.out; have z12 := Z175.out; have z13 := Z190.out; have z14 := Z205.out; have z15 := Z222.out; have z16 := Z237.out; have z17 := Z262.out; omega)))
  have B267 := Lib.hid (B255.out.away hI (by first | exact .inl (by have z0 := Z1.out; have z1 := Z104.out; have z2 := ZG5.out; have z3 := Z110.out; have z4 := Zb116.out; have z5 := Z118.out; have z6 := Z127.out; have z7 := Zb135.out; have z8 := Z137.out; have z9 := Z149.out; have z10 := Zb159.out; have z11 := Z161.out; have z12 := Z175.out; have z13 := Z190.out; have z14 := Z205.out; have z15 := Z222.out; have z16 := Z237.out; have z17 := Z262.out; omega) | exact .inr (by have z0 := Z1.out; have z1 := Z104.out; have z2 := ZG5.out; have z3 := Z110.out; have z4 := Zb116.out; have z5 := Z118.out; have z6 := Z127.out; have z7 := Zb135.out; have z8 := Z137.out; have z9 := Z149.out; have z10 := Zb159.out; have z11 := Z161.out; have z12 := Z175.out; have z13 := Z190.out; have z14 := Z205.out; have z15 := Z222.out; have z16 := Z237.out; have z17 := Z262.out; omega)))
  have B268 := Lib.hid (B256.out.away hI (by first | exact .inl (by have z0 := Z1.out; have z1 := Z104.out; have z2 := ZG5.out; have z3 := Z110.out; have z4 := Zb116.out; have z5 := Z118.out; have z6 := Z127.out; have z7 := Zb135.out; have z8 := Z137.out; have z9 := Z149.out; have z10 := Zb159.out; have z11 := Z161.out; have z12 := Z175.out; have z13 := Z190.out; have z14 := Z205.out; have z15 := Z222.out; have z16 := Z237.out; have z17 := Z262.out; omega) | exact .inr (by have z0 := Z1.out; have z1 := Z104.out; have z2 := ZG5.out; have z3 := Z110.out; have z4 := Zb116.out; have z5 := Z118.out; have z6 := Z127.out; have z7 := Zb135.out; have z8 := Z137.out; have z9 := Z149.out; have z10 := Zb159.out; have z11 := Z161.out; have z12 := Z175.out; have z13 := Z190.out; have z14 := Z205.out; have z15 := Z222.out; have z16 := Z237.out; have z17 := Z262.out; omega)))
  have B269 := Lib.hid (B257.out.away hI (by first | exact .inl (by have z0 := Z1.out; have z1 := Z104.out; have z2 := ZG5.out; have z3 := Z110.out; have z4 := Zb116.out; have z5 := Z118.out; have z6 := Z127.out; have z7 := Zb135.out; have z8 := Z137.out; have z9 := Z149.out; have z10 := Zb159.out; have z11 := Z161.out; have z12 := Z175.out; have z13 := Z190.out; have z14 := Z205.out; have z15 := Z222.out; have z16 := Z237.out; have z17 := Z262.out; omega) | exact .inr (by have z0 := Z1.out; have z1 := Z104.out; have z2 := ZG5.out; have z3 := Z110.out; have z4 := Zb116.out; have z5 := Z118.out; have z6 := Z127.out; have z7 := Zb135.out; have z8 := Z137.out; have z9 := Z149.out; have z10 := Zb159.out; have z11 := Z161.out; have z12 := Z175.out; have z13 := Z190.out; have z14 := Z205.out; have z15 := Z222.out; have z16 := Z237.out; have z17 := Z262.out; omega)))
  have T270 := Lib.hid (T258.out.apart hI (by first | exact .inl (by have z0 := Z1.out; have z1 := Z104.out; have z2 := ZG5.out; have z3 := Z110.out; have z4 := Zb116.out; have z5 := Z118.out; have z6 := Z127.out; have z7 := Zb135.out; have z8 := Z137.out; have z9 := Z149.out; have z10 := Zb159.out; have z11 := Z161.out; have z12 := Z175.out; have z13 := Z190.out; have z14 := Z205.out; have z15 := Z222.out; have z16 := Z237.out; have z17 := Z262.out; omega) | exact .inr (by have z0 := Z1.out; have z1 := Z104.out; have z2 := ZG5.out; have z3 := Z110.out; have z4 := Zb116.out; have z5 := Z118.out; have z6 := Z127.out; have z7 := Zb135.out; have z8 := Z137.out; have z9 := Z149.out; have z10 := Zb159.out; have z11 := Z161.out; have z12 := Z175.out; have z13 := Z190.out; have z14 := Z205.out; have z15 := Z222.out; have z16 := Z237.out; have z17 := Z262.out; omega)))
  have T271 := Lib.hid (T260.out.apart hI (by first | exact .inl (by have z0 := Z1.out; have z1 := Z104.out; have z2 := ZG5.out; have z3 := Z110.out; have z4 := Zb116.out; have z5 := Z118.out; have z6 := Z127.out; have z7 := Zb135.out; have z8 := Z137.out; have z9 := Z149.out; have z10 := Zb159.out; have z11 := Z161.out; have z12 := Z175.out; have z13 := Z190.out; have z14 := Z205.out; have z15 := Z222.out; have z16 := Z237.out; have z17 := Z262.out; omega) | exact .inr (by have z0 := Z1.out; have z1 := Z104.out; have z2 := ZG5.out; have z3 := Z110.out; have z4 := Zb116.out; have z5 := Z118.out; have z6 := Z127.out; have z7 := Zb135.out; have z8 := Z137.out; have z9 := Z149.out; have z10 := Zb159.out; have z11 := Z161.out; have z12 := Z175.out; have z13 := Z190.out; have z14 := Z205.out; have z15 := Z222.out; have z16 := Z237.out; have z17 := Z262.out; omega)))
  have H272 := Lib.hid (hI.below (by have z0 := Z1.out; have z1 := Z104.out; have z2 := ZG5.out; have z3 := Z110.out; have z4 := Zb116.out; have z5 := Z118.out; have z6 := Z127.out; have z7 := Zb135.out; have z8 := Z137.out; have z9 := Z149.out; have z10 := Zb159.out; have z11 := Z161.out; have z12 := Z175.out; have z13 := Z190.out; have z14 := Z205.out; have z15 := Z222.out; have z16 := Z237.out; have z17 := Z262.out; omega) H261.out H261.out.size)
  have Z273 := Lib.hid (show w15.heap.size ≤ w16.heap.size from hI.size)
  clear hI
  obtain ⟨bf274, bg274, bh274, bz274⟩ := B266.out
  obtain ⟨bf275, bg275, bh275, bz275⟩ := B269.out
  go_wp2_with fail
  go_at_call 12
  refine (eqType_any _ T cT _ _ _ (Nat.lt_succ_self _) HCT.out hcTm T271.out.at T270.out.at).mono ?_
  rintro e w17 ⟨rfl, hb⟩
  have Z277 := Lib.hid (show w16.heap.size ≤ w17.heap.size from hb.size)
  have B278 := Lib.hid (B264.out.kept hb)
  have B279 := Lib.hid (B265.out.kept hb)
  have B280 := Lib.hid (B266.out.kept hb)
  have B281 := Lib.hid (B267.out.kept hb)
  have B282 := Lib.hid (B268.out.kept hb)
  have B283 := Lib.hid (B269.out.kept hb)
  have T284 := Lib.hid (T270.out.kept hb)
  have T285 := Lib.hid (T271.out.kept hb)
  have H286 := Lib.hid (H272.out.trans (hb.mono H272.out.size))
  clear bf274 bg274 bh274 bz274 bf275 bg275 bh275 bz275
  clear hb
  obtain ⟨bf287, bg287, bh287, bz287⟩ := B283.out
  go_wp2_with fail
  go_at_call 13
  refine (markTypeFull_any T cT _ _ _ 1 _ HCT.out T285.out hK).mono ?_
  rintro e w18 ⟨rfl, hI, hHd⟩
  rw [HKK.out]
  clear bf287 bg287 bh287 bz287
  have B288 := Lib.hid (B278.out.away hI (by first | exact .inl (by have z0 := Z1.out; have z1 := Z104.out; have z2 := ZG5.out; have z3 := Z110.out; have z4 := Zb116.out; have z5 := Z118.out; have z6 := Z127.out; have z7 := Zb135.out; have z8 := Z137.out; have z9 := Z149.out; have z10 := Zb159.out; have z11 := Z161.out; have z12 := Z175.out; have z13 := Z190.out; have z14 := Z205.out; have z15 := Z222.out; have z16 := Z237.out; have z17 := Z262.out; have z18 := Z273.out; have z19 := Z277.out; omega) | exact .inr (by have z0 := Z1.out; have z1 := Z104.out; have z2 := ZG5.out; have z3 := Z110.out; have z4 := Zb116.out; have z5 := Z118.out; have z6 := Z127.out; have z7 := Zb135.out; have z8 := Z137.out; have z9 := Z149.out; have z10 := Zb159.out; have z11 := Z161.out; have z12 := Z175.out; have z13 := Z190.out; have z14 := Z205.out; have z15 := Z222.out; have z16 := Z237.out; have z17 := Z262.out; have z18 := Z273.out; have z19 := Z277.out; omega)))
  have B289 := Lib.hid (B279.out.away hI (by first | exact .inl (by have z0 := Z1.out; have z1 := Z104.out; have z2 := ZG5.out; have z3 := Z110.out; have z4 := Zb116.out; have z5 := Z118.out; have z6 := Z127.out; have z7 := Zb135.out; have z8 := Z137.out; have z9 := Z149.out; have z10 := Zb159.out; have z11 := Z161.out; have z12 := Z175.out; have z13 := Z190.out; have z14 := Z205.out; have z15 := Z222.out; have z16 := Z237.out; have z17 := Z262.out; have z18 := Z273.out; have z19 := Z277.out; omega) | exact .inr (by have z0 := Z1.out; have z1 := Z104.out; have z2 := ZG5.out; have z3 := Z110.out; have z4 := Zb116.out; have z5 := Z118.out; have z6 := Z127.out; have z7 := Zb135.out; have z8 := Z137.out; have z9 := Z149.out; have z10 := Zb159.out; have z11 := Z161.out; have z12 := Z175.out; have z13 := Z190.out; have z14 := Z205.out; have z15 := Z222.out; have z16 := Z237.out; have z17 := Z262.out; have z18 := Z273.out; have z19 := Z277.out; omega)))
  have B290 := Lib.hid (B280.out.away hI (by first | exact .inl (by have z0 := Z1.out; have z1 := Z104.out; have z2 := ZG5.out; have z3 := Z110.out; have z4 := Zb116.out; have z5 := Z118.out; have z6 := Z127.out; have z7 := Zb135.out; have z8 := Z137.out; have z9 := Z149.out; have z10 := Zb159.out; have z11 := Z161.out; have z12 := Z175.out; have z13 := Z190.out; have z14 := Z205.out; have z15 := Z222.out; have z16 := Z237.out; have z17 := Z262.out; have z18 := Z273.out; have z19 := Z277.out; omega) | exact .inr (by have z0 := Z1.out; have z1 := Z104.out; have z2 := ZG5.out; have z3 := Z110.out; have z4 := Zb116.out; have z5 := Z118.out; have z6 := Z127.out; have z7 := Zb135.out; have z8 := Z137.out; have z9 := Z149.out; have z10 := Zb159.out; have z11 := Z161.out; have z12 := Z175.out; have z13 := Z190.out; have z14 := Z205.out; have z15 := Z222.out; have z16 := Z237.out; have z17 := Z262.out; have z18 := Z273.out; have z19 := Z277.out; omega)))
  have B291 := Lib.hid (B281.out.away hI (by first | exact .inl (by have z0 := Z1.out; have z1 := Z104.out; have z2 := ZG5.out; have z3 := Z110.out; have z4 := Zb116.out; have z5 := Z118.out; have z6 := Z127.out; have z7 := Zb135.out; have z8 := Z137.out; have z9 := Z149.out; have z10 := Zb159.out; have z11 := Z161.out; have z12 := Z175.out; have z13 := Z190.out; have z14 := Z205.out; have z15 := Z222.out; have z16 := Z237.out; have z17 := Z262.out; have z18 := Z273.out; have z19 := Z277.out; omega) | exact .inr (by have z0 := Z1.out; have z1 := Z104.out; have z2 := ZG5.out; have z3 := Z110.out; have z4 := Zb116.out; have z5 := Z118.out; have z6 := Z127.out; have z7 := Zb135.out; have z8 := Z137.out; have z9 := Z149.out; have z10 := Zb159.out; have z11 := Z161.out; have z12 := Z175.out; have z13 := Z190.out; have z14 := Z205.out; have z15 := Z222.out; have z16 := Z237.out; have z17 := Z262.out; have z18 := Z273.out; have z19 := Z277.out; omega)))
  have B292 := Lib.hid (B282.out.away hI (by first | exact .inl (by have z0 := Z1.out; have z1 := Z104.out; have z2 := ZG5.out; have z3 := Z110.out; have z4 := Zb116.out; have z5 := Z118.out; have z6 := Z127.out; have z7 := Zb135.out; have z8 := Z137.out; have z9 := Z149.out; have z10 := Zb159.out; have z11 := Z161.out; have z12 := Z175.out; have z13 := Z190.out; have z14 := Z205.out; have z15 := Z222.out; have z16 := Z237.out; have z17 := Z262.out; have z18 := Z273.out; have z19 := Z277.out; omega) | exact .inr (by have z0 := Z1.out; have z1 := Z104.out; have z2 := ZG5.out; have z3 := Z110.out; have z4 := Zb116.out; have z5 := Z118.out; have z6 := Z127.out; have z7 := Zb135.out; have z8 := Z137.out; have z9 := Z149.out; have z10 := Zb159.out; have z11 := Z161.out; have z12 := Z175.out; have z13 := Z190.out; have z14 := Z205.out; have z15 := Z222.out; have z16 := Z237.out; have z17 := Z262.out; have z18 := Z273.out; have z19 := Z277.out; omega)))
  have B293 := Lib.hid (B283.out.away hI (by first | exact .inl (by have z0 := Z1.out; have z1 := Z104.out; have z2 := ZG5.out; have z3 := Z110.out; have z4 := Zb116.out; have z5 := Z118.out; have z6 := Z127.out; have z7 := Zb135.out; have z8 := Z137.out; have z9 := Z149.out; have z10 := Zb159.out; have z11 := Z161.out; have z12 := Z175.out; have z13 := Z190.out; have z14 := Z205.out; have z15 := Z222.out; have z16 := Z237.out; have z17 := Z262.out; have z18 := Z273.out; have z19 := Z277.out; omega) | exact .inr (by have z0 := Z1.out; have z1 := Z104.out; have z2 := ZG5.out; have z3 := Z110.out; have z4 := Zb116.out; have z5 := Z118.out; have z6 := Z127.out; have z7 := Zb135.out; have z8 := Z137.out; have z9 := Z149.out; have z10 := Zb159.out; have z11 := Z161.out; have z12 := Z175.out; have z13 := Z190.out; have z14 := Z205.out; have z15 := Z222.out; have z16 := Z237.out; have z17 := Z262.out; have z18 := Z273.out; have z19 := Z277.out; omega)))
  have T294 := Lib.hid (T284.out.apart hI (by first | exact .inl (by have z0 := Z1.out; have z1 := Z104.out; have z2 := ZG5.out; have z3 := Z110.out; have z4 := Zb116.out; have z5 := Z118.out; have z6 := Z127.out; have z7 := Zb135.out; have z8 := Z137.out; have z9 := Z149.out; have z10 := Zb159.out; have z11 := Z161.out; have z12 := Z175.out; have z13 := Z190.out; have z14 := Z205.out; have z15 := Z222.out; have z16 := Z237.out; have z17 := Z262.out; have z18 := Z273.out; have z19 := Z277.out; omega) | exact .inr (by have z0 := Z1.out; have z1 := Z104.out; have z2 := ZG5.out; have z3 := Z110.out; have z4 := Zb116.out; have z5 := Z118.out; have z6 := Z127.out; have z7 := Zb135.out; have z8 := Z137.out; have z9 := Z149.out; have z10 := Zb159.out; have z11 := Z161.out; have z12 := Z175.out; have z13 := Z190.out; have z14 := Z205.out; have z15 := Z222.out; have z16 := Z237.out; have z17 := Z262.out; have z18 := Z273.out; have z19 := Z277.out; omega)))
  have H295 := Lib.hid (hI.below (by have z0 := Z1.out; have z1 := Z104.out; have z2 := ZG5.out; have z3 := Z110.out; have z4 := Zb116.out; have z5 := Z118.out; have z6 := Z127.out; have z7 := Zb135.out; have z8 := Z137.out; have z9 := Z149.out; have z10 := Zb159.out; have z11 := Z161.out; have z12 := Z175.out; have z13 := Z190.out; have z14 := Z205.out; have z15 := Z222.out; have z16 := Z237.out; have z17 := Z262.out; have z18 := Z273.out; have z19 := Z277.out; omega) H286.out H286.out.size)
  have Z296 := Lib.hid (show w17.heap.size ≤ w18.heap.size from hI.size)
  have HHG := Lib.hid hHd
  clear hI hHd
  obtain ⟨bf297, bg297, bh297, bz297⟩ := B293.out
  go_wp2_with fail
  go_at_call 14
  refine (heldType_any T cT _ _ _ _ _ 1 _ HHG.out hK).mono ?_
  rintro e w19 ⟨rfl, hb⟩
  rw [HKK.out]
  have Z299 := Lib.hid (show w18.heap.size ≤ w19.heap.size from hb.size)
  have B300 := Lib.hid (B288.out.kept hb)
  have B301 := Lib.hid (B289.out.kept hb)
  have B302 := Lib.hid (B290.out.kept hb)
  have B303 := Lib.hid (B291.out.kept hb)
  have B304 := Lib.hid (B292.out.kept hb)
  have B305 := Lib.hid (B293.out.kept hb)
  have T306 := Lib.hid (T294.out.kept hb)
  have T307 := Lib.hid (HHG.out.kept hb)
  have H308 := Lib.hid (H295.out.trans (hb.mono H295.out.size))
  clear bf297 bg297 bh297 bz297
  clear hb
  have HBW22 := Lib.hid (show Bw w19 w19 from Below.refl _ _)
  obtain ⟨bf309, bg309, bh309, bz309⟩ := B300.out
  obtain ⟨bf310, bg310, bh310, bz310⟩ := B301.out
  go_upto_region 31 with fail
  go_cut [15, 16] (fun s6 s7 wx => ∃ (B lo hi : Nat) (sv : Value), s6 = .pointer (some ⟨B, 0, none⟩) ∧ s7 = .bool b ∧ Hid (Got w19 T B lo hi sv wx))
  case first =>
    go_region_held3 (fun w' => w'.cell? ⟨w.heap.size, 0, none⟩ = some (.int .i64 t.k) ∧ w'.cell? ⟨w.heap.size, 1, none⟩ = some (.int .i64 t.n) ∧ w'.cell? ⟨w.heap.size, 2, none⟩ = some (.slice a t.ks.length cap) ∧ w'.cell? ⟨(w.heap.size + 1), 0, none⟩ = some (.int .i64 t2.k) ∧ w'.cell? ⟨(w.heap.size + 1), 1, none⟩ = some (.int .i64 t2.n) ∧ w'.cell? ⟨(w.heap.size + 1), 2, none⟩ = some (.slice la t2.ks.length lc)) (first | go_keep | exact ⟨(cell_res ne0).trans bf354, (cell_res ne0).trans bg354, (cell_res ne0).trans bh354, (cell_res ne1).trans bf355, (cell_res ne1).trans bg355, (cell_res ne1).trans bh355⟩)
      (first
        | (have hgd2 := H337; clear hgd2; go_at_call 11; refine (Nx.unifyTypes_impl t t2 _ _ _ (by first | exact T334.out | exact (T334.out).kept (Below.refl _ _).drew | exact (T334.out).kept ((Below.refl _ _).alloc (Nat.le_refl _) _) | exact (T334.out).kept (((Below.refl _ _).alloc (Nat.le_refl _) _).drew)) (by first | exact T21.out | exact (T21.out).kept (Below.refl _ _).drew | exact (T21.out).kept ((Below.refl _ _).alloc (Nat.le_refl _) _) | exact (T21.out).kept (((Below.refl _ _).alloc (Nat.le_refl _) _).drew)) r HRR.out).mono ?_; rintro e w22 hret; obtain ⟨v22, rfl, hty22, hbx⟩ := HF.out _ _ _ hret; (first | (have hrb := HRB.out; clear HRB; have HRB := Lib.hid (hrb.kept hbx); clear hrb) | (have hrb : RB w22 w21.heap.size := (by first | exact (rb_new w21 28).kept hbx | exact (rb_new w21.drew 28).kept hbx); have HRB := Lib.hid hrb; clear hrb; have ne0 : ¬ w.heap.size = w21.heap.size := (by omega); have ne1 : ¬ w.heap.size + 1 = w21.heap.size := (by omega)) | skip); (try obtain ⟨u0, u1, u2, uf0, uf1, uf2, uz⟩ := HRB.out); have hbx : Below w21.heap.size w21 w22 := Below.trans (B := w21.heap.size) (by first | exact Below.refl _ _ | exact (Below.refl _ _).drew | exact (Below.refl _ _).alloc (Nat.le_refl _) _ | exact ((Below.refl _ _).alloc (Nat.le_refl _) _).drew | exact ((Below.refl _ _).drew).alloc (by first | exact Nat.le_refl _ | (simp; done)) _) (hbx.mono (by first | exact Nat.le_refl _ | (simp; done))); have hbd : Below w21.heap.size w21 w22 := Below.trans (B := w21.heap.size) (by first | exact Below.refl _ _ | exact (Below.refl _ _).drew) hbx; obtain ⟨a22, k22, rfl, _⟩ := hty22.at.slice; have T22 := Lib.hid hty22; clear hret hty22; have Z341 := Lib.hid (show w21.heap.size ≤ w22.heap.size from hbd.size); have B342 := Lib.hid (B327.out.kept hbd); have B343 := Lib.hid (B328.out.kept hbd); have B344 := Lib.hid (B329.out.kept hbd); have B345 := Lib.hid (B330.out.kept hbd); have B346 := Lib.hid (B331.out.kept hbd); have B347 := Lib.hid (B332.out.kept hbd); have T348 := Lib.hid (T333.out.kept hbd); have T349 := Lib.hid (T334.out.kept hbd); have T350 := Lib.hid (T21.out.kept hbd); have T351 := Lib.hid (T335.out.kept hbd); have T352 := Lib.hid (T336.out.kept hbd); have H353 := Lib.hid (H337.out.trans (hbd.mono H337.out.size)); obtain ⟨bf354, bg354, bh354, bz354⟩ := B342.out; obtain ⟨bf355, bg355, bh355, bz355⟩ := B343.out; clear hbx hbd)
        | (have hgd1 := H322; clear hgd1; go_at_call 10; refine (toType_any _ t2 cl _ _ (Nat.lt_succ_self _) HCL.out hclm (HL.out.kept (by first | exact H322.out | exact H322.out.drew | exact H322.out.alloc H322.out.size _ | exact (H322.out.alloc H322.out.size _).drew | exact (H322.out.drew).alloc (H322.out.drew).size _))).mono ?_; rintro e w21 ⟨v21, rfl, hty21, hbx⟩; (first | (have hrb := HRB.out; clear HRB; have HRB := Lib.hid (hrb.kept hbx); clear hrb) | (have hrb : RB w21 w20.heap.size := (by first | exact (rb_new w20 28).kept hbx | exact (rb_new w20.drew 28).kept hbx); have HRB := Lib.hid hrb; clear hrb; have ne0 : ¬ w.heap.size = w20.heap.size := (by omega); have ne1 : ¬ w.heap.size + 1 = w20.heap.size := (by omega)) | skip); (try obtain ⟨u0, u1, u2, uf0, uf1, uf2, uz⟩ := HRB.out); have hbx : Below w20.heap.size w20 w21 := Below.trans (B := w20.heap.size) (by first | exact Below.refl _ _ | exact (Below.refl _ _).drew | exact (Below.refl _ _).alloc (Nat.le_refl _) _ | exact ((Below.refl _ _).alloc (Nat.le_refl _) _).drew | exact ((Below.refl _ _).drew).alloc (by first | exact Nat.le_refl _ | (simp; done)) _) (hbx.mono (by first | exact Nat.le_refl _ | (simp; done))); have hbd : Below w20.heap.size w20 w21 := Below.trans (B := w20.heap.size) (by first | exact Below.refl _ _ | exact (Below.refl _ _).drew) hbx; obtain ⟨a21, k21, rfl, _⟩ := hty21.at.slice; have T21 := Lib.hid hty21.ok; clear hty21; have Z326 := Lib.hid (show w20.heap.size ≤ w21.heap.size from hbd.size); have B327 := Lib.hid (B313.out.kept hbd); have B328 := Lib.hid (B314.out.kept hbd); have B329 := Lib.hid (B315.out.kept hbd); have B330 := Lib.hid (B316.out.kept hbd); have B331 := Lib.hid (B317.out.kept hbd); have B332 := Lib.hid (B318.out.kept hbd); have T333 := Lib.hid (T319.out.kept hbd); have T334 := Lib.hid (T20.out.kept hbd); have T335 := Lib.hid (T320.out.kept hbd); have T336 := Lib.hid (T321.out.kept hbd); have H337 := Lib.hid (H322.out.trans (hbd.mono H322.out.size)); obtain ⟨bf338, bg338, bh338, bz338⟩ := B327.out; obtain ⟨bf339, bg339, bh339, bz339⟩ := B328.out; clear hbx hbd)
        | (go_at_call 10; refine (toType_any _ t c _ _ (Nat.lt_succ_self _) HC.out hcm (HX.out.kept (by first | exact H308.out | exact H308.out.drew | exact H308.out.alloc H308.out.size _ | exact (H308.out.alloc H308.out.size _).drew | exact (H308.out.drew).alloc (H308.out.drew).size _))).mono ?_; rintro e w20 ⟨v20, rfl, hty20, hbx⟩; (first | (have hrb := HRB.out; clear HRB; have HRB := Lib.hid (hrb.kept hbx); clear hrb) | (have hrb : RB w20 w19.heap.size := (by first | exact (rb_new w19 28).kept hbx | exact (rb_new w19.drew 28).kept hbx); have HRB := Lib.hid hrb; clear hrb; have ne0 : ¬ w.heap.size = w19.heap.size := (by omega); have ne1 : ¬ w.heap.size + 1 = w19.heap.size := (by omega)) | skip); (try obtain ⟨u0, u1, u2, uf0, uf1, uf2, uz⟩ := HRB.out); have hbx : Below w19.heap.size w19 w20 := Below.trans (B := w19.heap.size) (by first | exact Below.refl _ _ | exact (Below.refl _ _).drew | exact (Below.refl _ _).alloc (Nat.le_refl _) _ | exact ((Below.refl _ _).alloc (Nat.le_refl _) _).drew | exact ((Below.refl _ _).drew).alloc (by first | exact Nat.le_refl _ | (simp; done)) _) (hbx.mono (by first | exact Nat.le_refl _ | (simp; done))); have hbd : Below w19.heap.size w19 w20 := Below.trans (B := w19.heap.size) (by first | exact Below.refl _ _ | exact (Below.refl _ _).drew) hbx; obtain ⟨a20, k20, rfl, _⟩ := hty20.at.slice; have T20 := Lib.hid hty20.ok; clear hty20; have Z312 := Lib.hid (show w19.heap.size ≤ w20.heap.size from hbd.size); have B313 := Lib.hid (B300.out.kept hbd); have B314 := Lib.hid (B301.out.kept hbd); have B315 := Lib.hid (B302.out.kept hbd); have B316 := Lib.hid (B303.out.kept hbd); have B317 := Lib.hid (B304.out.kept hbd); have B318 := Lib.hid (B305.out.kept hbd); have T319 := Lib.hid (T306.out.kept hbd); have T320 := Lib.hid (T307.out.kept hbd); have T321 := Lib.hid (HBW22.out.kept hbd); have H322 := Lib.hid (H308.out.trans (hbd.mono H308.out.size)); obtain ⟨bf323, bg323, bh323, bz323⟩ := B313.out; obtain ⟨bf324, bg324, bh324, bz324⟩ := B314.out; clear hbx hbd))
    all_goals go_wp2_with fail
    all_goals go_meet
    all_goals first
      | exact ⟨_, _, _, _, rfl, rfl, Lib.hid (got_alloc T22.out T352.out (by first | exact (by have z0 := Z1.out; have z1 := Z104.out; have z2 := ZG5.out; have z3 := Z110.out; have z4 := Zb116.out; have z5 := Z118.out; have z6 := Z127.out; have z7 := Zb135.out; have z8 := Z137.out; have z9 := Z149.out; have z10 := Zb159.out; have z11 := Z161.out; have z12 := Z175.out; have z13 := Z190.out; have z14 := Z205.out; have z15 := Z222.out; have z16 := Z237.out; have z17 := Z262.out; have z18 := Z273.out; have z19 := Z277.out; have z20 := Z296.out; have z21 := Z299.out; have z22 := Z312.out; have z23 := Z326.out; have z24 := Z341.out; omega) | exact (by have z0 := Z1.out; have z1 := Z104.out; have z2 := ZG5.out; have z3 := Z110.out; have z4 := Zb116.out; have z5 := Z118.out; have z6 := Z127.out; have z7 := Zb135.out; have z8 := Z137.out; have z9 := Z149.out; have z10 := Zb159.out; have z11 := Z161.out; have z12 := Z175.out; have z13 := Z190.out; have z14 := Z205.out; have z15 := Z222.out; have z16 := Z237.out; have z17 := Z262.out; have z18 := Z273.out; have z19 := Z277.out; have z20 := Z296.out; have z21 := Z299.out; have z22 := Z312.out; have z23 := Z326.out; have z24 := Z341.out; simp; omega)))⟩
      | exact ⟨_, _, _, _, rfl, rfl, Lib.hid (got_set HRB.out T22.out T352.out (by first | exact (by have z0 := Z1.out; have z1 := Z104.out; have z2 := ZG5.out; have z3 := Z110.out; have z4 := Zb116.out; have z5 := Z118.out; have z6 := Z127.out; have z7 := Zb135.out; have z8 := Z137.out; have z9 := Z149.out; have z10 := Zb159.out; have z11 := Z161.out; have z12 := Z175.out; have z13 := Z190.out; have z14 := Z205.out; have z15 := Z222.out; have z16 := Z237.out; have z17 := Z262.out; have z18 := Z273.out; have z19 := Z277.out; have z20 := Z296.out; have z21 := Z299.out; have z22 := Z312.out; have z23 := Z326.out; have z24 := Z341.out; omega) | exact (by have z0 := Z1.out; have z1 := Z104.out; have z2 := ZG5.out; have z3 := Z110.out; have z4 := Zb116.out; have z5 := Z118.out; have z6 := Z127.out; have z7 := Zb135.out; have z8 := Z137.out; have z9 := Z149.out; have z10 := Zb159.out; have z11 := Z161.out; have z12 := Z175.out; have z13 := Z190.out; have z14 := Z205.out; have z15 := Z222.out; have z16 := Z237.out; have z17 := Z262.out; have z18 := Z273.out; have z19 := Z277.out; have z20 := Z296.out; have z21 := Z299.out; have z22 := Z312.out; have z23 := Z326.out; have z24 := Z341.out; simp; omega)) (by first | exact (by have z0 := Z1.out; have z1 := Z104.out; have z2 := ZG5.out; have z3 := Z110.out; have z4 := Zb116.out; have z5 := Z118.out; have z6 := Z127.out; have z7 := Zb135.out; have z8 := Z137.out; have z9 := Z149.out; have z10 := Zb159.out; have z11 := Z161.out; have z12 := Z175.out; have z13 := Z190.out; have z14 := Z205.out; have z15 := Z222.out; have z16 := Z237.out; have z17 := Z262.out; have z18 := Z273.out; have z19 := Z277.out; have z20 := Z296.out; have z21 := Z299.out; have z22 := Z312.out; have z23 := Z326.out; have z24 := Z341.out; omega) | exact (by have z0 := Z1.out; have z1 := Z104.out; have z2 := ZG5.out; have z3 := Z110.out; have z4 := Zb116.out; have z5 := Z118.out; have z6 := Z127.out; have z7 := Zb135.out; have z8 := Z137.out; have z9 := Z149.out; have z10 := Zb159.out; have z11 := Z161.out; have z12 := Z175.out; have z13 := Z190.out; have z14 := Z205.out; have z15 := Z222.out; have z16 := Z237.out; have z17 := Z262.out; have z18 := Z273.out; have z19 := Z277.out; have z20 := Z296.out; have z21 := Z299.out; have z22 := Z312.out; have z23 := Z326.out; have z24 := Z341.out; simp; omega)) (by first | (simp; done) | omega))⟩
  case rest =>
  clear bf309 bg309 bh309 bz309 bf310 bg310 bh310 bz310
  obtain ⟨wD, hwC⟩ : ∃ x, x = wc := ⟨_, rfl⟩
  subst hwC
  obtain ⟨B22, lo22, hi22, sv22, rfl, rfl, HGOT22⟩ := hcut
  have hgb := HGOT22.out.below
  have Z312 := Lib.hid (show w19.heap.size ≤ wD.heap.size from hgb.size)
  have B313 := Lib.hid (B300.out.kept hgb)
  have B314 := Lib.hid (B301.out.kept hgb)
  have B315 := Lib.hid (B302.out.kept hgb)
  have B316 := Lib.hid (B303.out.kept hgb)
  have B317 := Lib.hid (B304.out.kept hgb)
  have B318 := Lib.hid (B305.out.kept hgb)
  have T319 := Lib.hid (T306.out.kept hgb)
  have T320 := Lib.hid (T307.out.kept hgb)
  have H321 := Lib.hid (H308.out.trans (hgb.mono H308.out.size))
  clear hgb
  have HBX22 := Lib.hid HGOT22.out.box
  have HTX22 := Lib.hid HGOT22.out.ty
  have ZG22 := Lib.hid HGOT22.out.z
  obtain ⟨bf322, bg322, bh322, bz322⟩ := B315.out
  obtain ⟨bf323, bg323, bh323, bz323⟩ := HBX22.out
  go_wp2_with fail
  go_at_call 12
  refine (eqType_any _ T cT _ _ _ (Nat.lt_succ_self _) HCT.out hcTm HTX22.out.at T319.out.at).mono ?_
  rintro e w23 ⟨rfl, hb⟩
  have Z325 := Lib.hid (show wD.heap.size ≤ w23.heap.size from hb.size)
  have B326 := Lib.hid (B313.out.kept hb)
  have B327 := Lib.hid (B314.out.kept hb)
  have B328 := Lib.hid (B315.out.kept hb)
  have B329 := Lib.hid (B316.out.kept hb)
  have B330 := Lib.hid (B317.out.kept hb)
  have B331 := Lib.hid (B318.out.kept hb)
  have B332 := Lib.hid (HBX22.out.kept hb)
  have T333 := Lib.hid (T319.out.kept hb)
  have T334 := Lib.hid (HTX22.out.kept hb)
  have T335 := Lib.hid (T320.out.kept hb)
  have H336 := Lib.hid (H321.out.trans (hb.mono H321.out.size))
  clear bf322 bg322 bh322 bz322 bf323 bg323 bh323 bz323
  clear hb
  obtain ⟨bf337, bg337, bh337, bz337⟩ := B331.out
  go_wp2_with fail
  go_at_call 14
  refine (heldType_any T cT _ _ _ _ _ 1 _ T335.out hK).mono ?_
  rintro e w24 ⟨rfl, hb⟩
  rw [HKK.out]
  have Z339 := Lib.hid (show w23.heap.size ≤ w24.heap.size from hb.size)
  have B340 := Lib.hid (B326.out.kept hb)
  have B341 := Lib.hid (B327.out.kept hb)
  have B342 := Lib.hid (B328.out.kept hb)
  have B343 := Lib.hid (B329.out.kept hb)
  have B344 := Lib.hid (B330.out.kept hb)
  have B345 := Lib.hid (B331.out.kept hb)
  have B346 := Lib.hid (B332.out.kept hb)
  have T347 := Lib.hid (T333.out.kept hb)
  have T348 := Lib.hid (T334.out.kept hb)
  have T349 := Lib.hid (T335.out.kept hb)
  have H350 := Lib.hid (H336.out.trans (hb.mono H336.out.size))
  clear bf337 bg337 bh337 bz337
  clear hb
  go_wp2_with fail
  go_ret
  exact ⟨rfl, H350.out⟩

set_option maxRecDepth 100000 in
theorem lifted (os : Os) (started : os.Started) (H : Type) (enc : TypeId × Value → H) :
    ReturnsInHanded {} Try.checked os 3 .any (Rows.fnExactUnifyTypesSpec.pre6 enc Try.prog Try.f3 Rows.fnExactUnifyTypesRow.domain false) (Rows.fnExactUnifyTypesSpec.post enc Try.prog Try.f3 false true false false) := by
  refine returnsInHanded_of_change (C := Try.checked) own started (by kernel_rfl) Try.func3
    (ChangeSpec.witness6 (enc := enc) (C := Try.checked) false ⟨#[], #[.agg #[.int .i64 0, .int .i64 0, .slice none 0 0], .agg #[.int .i64 0, .int .i64 0, .slice none 0 0]], []⟩ 8 (by kernel_rfl) (by kernel_rfl) (by kernel_rfl) (by kernel_rfl)) ?_
  intro W base args ds gs before hval0 hW hcnd _
  have hval : ∀ (j : Nat) t v, Try.f3.params[j]? = some t → args[j]? = some v → Value.okWide Try.prog W .any base t v := hval0
  have hW' := hW
  obtain ⟨p, q, hA0, hV, rfl, hfz, hnd⟩ := hW
  have hA : DataW.TrodAll enc Try.prog W 0 (fun _ => true) true Try.f3.params.toList args.toList ds p := hA0
  rw [Try.params3] at hA hval
  obtain ⟨v0, vs0, d0, ds0, p0, q0, hargs, rfl, rfl, h0, r0⟩ := trodAll_cons hA
  obtain ⟨v1, vs1, d1, ds1, p1, q1, rfl, rfl, rfl, h1, r1⟩ := trodAll_cons r0
  obtain ⟨rfl, rfl, rfl⟩ := trodAll_nil r1
  obtain rfl : args = #[v0, v1] := by cases args; simp_all
  obtain ⟨rfl, rfl⟩ := trodVars_none hV
  have k0 := h0
  have lt0 : ∀ x ∈ p0, x.block < W.heap.size := by obtain ⟨m, hm⟩ := k0; exact DataW.trod_lt m _ _ _ hm
  have k1 := h1
  have lt1 : ∀ x ∈ p1, x.block < W.heap.size := by obtain ⟨m, hm⟩ := k1; exact DataW.trod_lt m _ _ _ hm
  obtain ⟨cs0, rfl, _⟩ := okWide_struct Try.underlying24 (hval 0 24 v0 rfl rfl)
  obtain ⟨u0, z0, w0, hz0⟩ : ∃ (t : Ty) (v : Value), cs0 = #[.int .i64 t.k, .int .i64 t.n, v] ∧ TyAt W t v := by
    obtain ⟨fuel, hf⟩ := h0
    obtain ⟨t, v, hcs, hat⟩ := ty_of_trod fuel _ _ hf
    exact ⟨t, v, Array.toList_inj.1 hcs, hat⟩
  subst w0
  obtain ⟨cs1, rfl, _⟩ := okWide_struct Try.underlying24 (hval 1 24 v1 rfl rfl)
  obtain ⟨u1, z1, w1, hz1⟩ : ∃ (t : Ty) (v : Value), cs1 = #[.int .i64 t.k, .int .i64 t.n, v] ∧ TyAt W t v := by
    obtain ⟨fuel, hf⟩ := h1
    obtain ⟨t, v, hcs, hat⟩ := ty_of_trod fuel _ _ hf
    exact ⟨t, v, Array.toList_inj.1 hcs, hat⟩
  subst w1
  clear hA0 hval0
  refine (walk u0 z0 u1 z1 W hz0 hz1).mono fun e W' ⟨he, bel⟩ => ?_
  subst he
  exact ⟨_, rfl, _, _, _, [], _, [], hW', trodAll_mk1 (shut_bool Try.underlying4 _), (trodAll_cons_mk (Below.trod laidOut (by kernel_rfl) (of_decide_eq_true (by kernel_rfl)) k0 bel lt0) (trodAll_cons_mk (Below.trod laidOut (by kernel_rfl) (of_decide_eq_true (by kernel_rfl)) k1 bel lt1) trodAll_mk0)), rfl, bel.frame _, fun h => by cases h⟩

theorem over : Rows.fnExactUnifyTypesRow.holds Try.pinned (OpenSpec.ofChange Rows.fnExactUnifyTypesSpec) :=
  OpenClaim.holds_of_wide 3 Try.f3 rfl rfl rfl rfl rfl rfl rfl ⟨rfl, rfl, rfl, rfl, rfl⟩ rfl rfl rfl rfl rfl (by kernel_rfl) Try.func3 (by kernel_rfl)
    (of_decide_eq_true (by kernel_rfl)) (by unfold Func.isWrapper; first | (rw [if_pos (by decide +kernel)]; kernel_rfl) | (rw [if_neg (by decide +kernel)]; exact ⟨rfl, rfl⟩))
    (fun os started H enc _ => lifted os started H enc)

/-- The given statement. -/
theorem proved : Rows.FnExactUnifyTypesSaid := over
end Go.Proofs.Ytjhccdioainibaa.fnExactUnifyTypes
