/-
  FnExactInstanceOf returns true for every two types, and they read as they did: InstanceOf answers as its model. No conditions.
-/
import Derived.Test.YtncpakpamfocbabRows
import Derived.ProofKit
import Derived.OpenShut
import Derived.ShutString
import Derived.ChangeOld
import Derived.Below
import Derived.Lib.SmallJoins
import Derived.Test.YtncpakpamfocbabGe
import Derived.Test.YtncpakpamfocbabZh
import Derived.Test.YtncpakpamfocbabZo
namespace Go.Proofs.Ytncpakpamfocbab.fnExactInstanceOf
open Go.Proofs.Ytncpakpamfocbab
open Go.ChangeShapes Go.WideShapes Go.ChangeAt Go.RowKit Go.Joins
open Go.ChangeMaps (open_string shut_string)
set_option linter.unusedVariables false
set_option linter.unusedSimpArgs false

theorem own : ownKnob Try.prog.godebug = none := by kernel_rfl
theorem laidOut : laidOutB Try.prog = true := by kernel_rfl

set_option maxRecDepth 100000 in
set_option maxHeartbeats 16000000 in
theorem walk (t : Ty) (v : Value) (t2 : Ty) (v2 : Value) (w : World) (hx : TyAt w t v) (hl : TyAt w t2 v2) :
    Calls Try.prog 4 #[.agg #[.int .i64 t.k, .int .i64 t.n, v], .agg #[.int .i64 t2.k, .int .i64 t2.n, v2]] w fun e w' => e = .returned (.bool true) ∧ Below w.heap.size w w' := by
  obtain ⟨c, hc⟩ := cnt_total _ t (Nat.lt_succ_self _)
  obtain ⟨cl, hcl⟩ := cnt_total _ t2 (Nat.lt_succ_self _)
  have HX := Lib.hid hx
  have HL := Lib.hid hl
  have HC := Lib.hid hc
  have HCL := Lib.hid hcl
  obtain ⟨a, cap, rfl, hlen⟩ := hx.slice
  obtain ⟨la, lc, rfl, hllen⟩ := hl.slice
  clear hx hl hc hcl
  obtain ⟨W1, hW1⟩ : ∃ W, (w.alloc (.cells #[.int .i64 t.k, .int .i64 t.n, .slice a t.ks.length cap] 24)).alloc (.cells #[.int .i64 t2.k, .int .i64 t2.n, .slice la t2.ks.length lc] 24) = W := ⟨_, rfl⟩
  have HA0 : Hid (Below w.heap.size w W1) := Lib.hid (by rw [← hW1]; exact ((Below.refl _ _).alloc (Nat.le_refl _) _).alloc (by simp) _)
  have HP0 : Hid (TBox W1 w.heap.size (.int .i64 t.k) (.int .i64 t.n) (.slice a t.ks.length cap)) := Lib.hid (by rw [← hW1]; exact (tbox_new w _ _ _ _).kept ((Below.refl _ _).alloc (Nat.le_refl _) _))
  have HR0 : Hid (TBox W1 (w.heap.size + 1) (.int .i64 t2.k) (.int .i64 t2.n) (.slice la t2.ks.length lc)) := Lib.hid (by
    have h := tbox_new (w.alloc (.cells #[.int .i64 t.k, .int .i64 t.n, .slice a t.ks.length cap] 24)) (.int .i64 t2.k) (.int .i64 t2.n) (.slice la t2.ks.length lc) 24
    rw [hW1] at h; simpa using h)
  have HW1 := Lib.hid hW1
  clear hW1
  by_cases hle : (c : Int) ≤ 1048576
  case neg =>
    have HLE := Lib.hid (leftOf_no hle)
    go_enter Try.func4, Try.ntmps4
    go_wp2_with fail
    rw [HW1.out]
    obtain ⟨p0, p1, p2, pz⟩ := HP0.out
    obtain ⟨r0, r1, r2, rz⟩ := HR0.out

    go_wp2_with fail
    go_at_call 13
    refine (szType_any _ t c _ 1048576 _ (Nat.lt_succ_self _) HC.out (HX.out.kept HA0.out) (by omega) (by omega)).mono ?_
    rintro e w1 ⟨rfl, hb1⟩
    rw [HLE.out]
    have H1 := Lib.hid (HA0.out.trans (hb1.mono HA0.out.size))
    clear hb1
    go_wp2_with fail
    go_ret
    exact ⟨rfl, H1.out⟩
  have hcm : c ≤ 1048576 := by omega
  have HLE := Lib.hid (leftOf_yes hle)
  have hnn : 0 ≤ 1048576 - (c : Int) := by omega
  obtain ⟨left, hleft⟩ : ∃ left : Int, 1048576 - (c : Int) = left := ⟨_, rfl⟩
  rw [hleft] at HLE hnn
  have hl1 : left ≤ 1048576 := by omega
  have hln : ¬ left < 0 := by omega
  by_cases hle2 : (cl : Int) ≤ left
  case neg =>
    have HLE2 := Lib.hid (leftOf_no hle2)
    clear hle hle2 hleft
    go_enter Try.func4, Try.ntmps4
    go_wp2_with fail
    rw [HW1.out]
    obtain ⟨p0, p1, p2, pz⟩ := HP0.out
    obtain ⟨r0, r1, r2, rz⟩ := HR0.out

    go_wp2_with fail
    go_at_call 13
    refine (szType_any _ t c _ 1048576 _ (Nat.lt_succ_self _) HC.out (HX.out.kept HA0.out) (by omega) (by omega)).mono ?_
    rintro e w1 ⟨rfl, hb1⟩
    rw [HLE.out]
    have H1 := Lib.hid (HA0.out.trans (hb1.mono HA0.out.size))
    have HR1 := Lib.hid (HR0.out.kept hb1)
    clear hb1 p0 p1 p2 pz r0 r1 r2 rz
    obtain ⟨r0, r1, r2, rz⟩ := HR1.out
    go_wp2_with fail
    go_at_call 13
    refine (szType_any _ t2 cl _ left _ (Nat.lt_succ_self _) HCL.out (HL.out.kept H1.out) hnn hl1).mono ?_
    rintro e w2 ⟨rfl, hb2⟩
    rw [HLE2.out]
    have H2 := Lib.hid (H1.out.trans (hb2.mono H1.out.size))
    clear hb2
    go_wp2_with fail
    go_ret
    exact ⟨rfl, H2.out⟩
  have HLE2 := Lib.hid (leftOf_yes hle2)
  have hclm : cl ≤ 1048576 := by omega
  obtain ⟨left2, hleft2⟩ : ∃ left2 : Int, left - (cl : Int) = left2 := ⟨_, rfl⟩
  rw [hleft2] at HLE2
  have hln2 : ¬ left2 < 0 := by omega
  obtain ⟨b, hb⟩ : ∃ b, Mx.instB t t2 = b := ⟨_, rfl⟩
  have HV := Lib.hid hb
  have hbb : (b != b) = false := by cases b <;> rfl
  have HN : Hid (nodes t ≤ 1048577) := Lib.hid (by rw [HC.out.nodes]; omega)
  clear hle hle2 hleft hleft2 hb
  go_enter Try.func4, Try.ntmps4
  go_wp2_with fail
  rw [HW1.out]
  obtain ⟨p0, p1, p2, pz⟩ := HP0.out
  obtain ⟨r0, r1, r2, rz⟩ := HR0.out
  go_wp2_with fail
  go_at_call 13
  refine (szType_any _ t c _ 1048576 _ (Nat.lt_succ_self _) HC.out (HX.out.kept HA0.out) (by omega) (by omega)).mono ?_
  rintro e w1 ⟨rfl, hb1⟩
  rw [HLE.out]
  have HP1 := Lib.hid (HP0.out.kept hb1)
  have HR1 := Lib.hid (HR0.out.kept hb1)
  have H1 := Lib.hid (HA0.out.trans (hb1.mono HA0.out.size))
  clear hb1 p0 p1 p2 pz r0 r1 r2 rz
  obtain ⟨r0, r1, r2, rz⟩ := HR1.out
  go_wp2_with fail
  go_at_call 13
  refine (szType_any _ t2 cl _ left _ (Nat.lt_succ_self _) HCL.out (HL.out.kept H1.out) hnn hl1).mono ?_
  rintro e w2 ⟨rfl, hb2⟩
  rw [HLE2.out]
  have HP2 := Lib.hid (HP1.out.kept hb2)
  have HR2 := Lib.hid (HR1.out.kept hb2)
  have H2 := Lib.hid (H1.out.trans (hb2.mono H1.out.size))
  clear hb2 r0 r1 r2 rz
  have Z1 := Lib.hid (show w.heap.size + 2 ≤ w2.heap.size from HR2.out.sz)
  obtain ⟨bf101, bg101, bh101, bz101⟩ := HP2.out
  obtain ⟨bf102, bg102, bh102, bz102⟩ := HR2.out
  go_wp2_with fail
  go_region_held3 (fun w' => w'.cell? ⟨w.heap.size, 0, none⟩ = some (.int .i64 t.k) ∧ w'.cell? ⟨w.heap.size, 1, none⟩ = some (.int .i64 t.n) ∧ w'.cell? ⟨w.heap.size, 2, none⟩ = some (.slice a t.ks.length cap) ∧ w'.cell? ⟨(w.heap.size + 1), 0, none⟩ = some (.int .i64 t2.k) ∧ w'.cell? ⟨(w.heap.size + 1), 1, none⟩ = some (.int .i64 t2.n) ∧ w'.cell? ⟨(w.heap.size + 1), 2, none⟩ = some (.slice la t2.ks.length lc)) (go_keep)
    (first
      | (have hgd2 := H115; clear hgd2; go_at_call 18; refine (Mx.instanceOf_spec t t2 _ _ _ (by first | exact T114.out.at | exact (T114.out.at).kept (Below.refl _ _).drew) (by first | exact T4.out.at | exact (T4.out.at).kept (Below.refl _ _).drew)).mono ?_; rintro e w5 ⟨rfl, hbx⟩; have hbd : Below w4.heap.size w4 w5 := Below.trans (B := w4.heap.size) (by first | exact Below.refl _ _ | exact (Below.refl _ _).drew) hbx; rw [HV.out]; have Z119 := Lib.hid (show w4.heap.size ≤ w5.heap.size from hbd.size); have B120 := Lib.hid (B112.out.kept hbd); have B121 := Lib.hid (B113.out.kept hbd); have T122 := Lib.hid (T114.out.kept hbd); have T123 := Lib.hid (T4.out.kept hbd); have H124 := Lib.hid (H115.out.trans (hbd.mono H115.out.size)); obtain ⟨bf125, bg125, bh125, bz125⟩ := B120.out; obtain ⟨bf126, bg126, bh126, bz126⟩ := B121.out; clear hbx hbd)
      | (have hgd1 := H107; clear hgd1; go_at_call 15; refine (toType_any _ t2 cl _ _ (Nat.lt_succ_self _) HCL.out hclm (HL.out.kept (by first | exact H107.out | exact H107.out.drew))).mono ?_; rintro e w4 ⟨v4, rfl, hty4, hbx⟩; have hbd : Below w3.heap.size w3 w4 := Below.trans (B := w3.heap.size) (by first | exact Below.refl _ _ | exact (Below.refl _ _).drew) hbx; obtain ⟨a4, k4, rfl, _⟩ := hty4.at.slice; have T4 := Lib.hid hty4; clear hty4; have Z111 := Lib.hid (show w3.heap.size ≤ w4.heap.size from hbd.size); have B112 := Lib.hid (B105.out.kept hbd); have B113 := Lib.hid (B106.out.kept hbd); have T114 := Lib.hid (T3.out.kept hbd); have H115 := Lib.hid (H107.out.trans (hbd.mono H107.out.size)); obtain ⟨bf116, bg116, bh116, bz116⟩ := B112.out; obtain ⟨bf117, bg117, bh117, bz117⟩ := B113.out; clear hbx hbd)
      | (go_at_call 15; refine (toType_any _ t c _ _ (Nat.lt_succ_self _) HC.out hcm (HX.out.kept (by first | exact H2.out | exact H2.out.drew))).mono ?_; rintro e w3 ⟨v3, rfl, hty3, hbx⟩; have hbd : Below w2.heap.size w2 w3 := Below.trans (B := w2.heap.size) (by first | exact Below.refl _ _ | exact (Below.refl _ _).drew) hbx; obtain ⟨a3, k3, rfl, _⟩ := hty3.at.slice; have T3 := Lib.hid hty3; clear hty3; have Z104 := Lib.hid (show w2.heap.size ≤ w3.heap.size from hbd.size); have B105 := Lib.hid (HP2.out.kept hbd); have B106 := Lib.hid (HR2.out.kept hbd); have H107 := Lib.hid (H2.out.trans (hbd.mono H2.out.size)); obtain ⟨bf108, bg108, bh108, bz108⟩ := B105.out; obtain ⟨bf109, bg109, bh109, bz109⟩ := B106.out; clear hbx hbd))
  go_wp2_with fail
  go_at_call 15
  refine (toType_any _ t c _ _ (Nat.lt_succ_self _) HC.out hcm (HX.out.kept H124.out)).mono ?_
  rintro e w6 ⟨v6, rfl, hty6, hb⟩
  obtain ⟨a6, k6, rfl, _⟩ := hty6.at.slice
  have T6 := Lib.hid hty6
  clear hty6
  have Z128 := Lib.hid (show w5.heap.size ≤ w6.heap.size from hb.size)
  have B129 := Lib.hid (B120.out.kept hb)
  have B130 := Lib.hid (B121.out.kept hb)
  have H131 := Lib.hid (H124.out.trans (hb.mono H124.out.size))
  clear bf101 bg101 bh101 bz101 bf102 bg102 bh102 bz102 bf108 bg108 bh108 bz108 bf109 bg109 bh109 bz109 bf116 bg116 bh116 bz116 bf117 bg117 bh117 bz117 bf125 bg125 bh125 bz125 bf126 bg126 bh126 bz126
  clear hb
  obtain ⟨W6, hW132⟩ : ∃ W, w6.alloc (.cells #[.int .i64 t.k, .int .i64 t.n, .slice a6 t.ks.length k6] 29) = W := ⟨_, rfl⟩
  have hA132 : Below w6.heap.size w6 W6 := by rw [← hW132]; exact (Below.refl _ _).alloc (Nat.le_refl _) _
  have hZ132 : W6.heap.size = w6.heap.size + 1 := by rw [← hW132]; simp
  have B132n : Hid (TBox W6 w6.heap.size (.int .i64 t.k) (.int .i64 t.n) (.slice a6 t.ks.length k6)) := Lib.hid (by rw [← hW132]; exact tbox_new w6 _ _ _ _)
  have Zb132 := Lib.hid hZ132
  have Z134 := Lib.hid (show w6.heap.size ≤ W6.heap.size from hA132.size)
  have B135 := Lib.hid (B129.out.kept hA132)
  have B136 := Lib.hid (B130.out.kept hA132)
  have T137 := Lib.hid (T6.out.kept hA132)
  have H138 := Lib.hid (H131.out.trans (hA132.mono H131.out.size))
  clear hA132 hZ132
  obtain ⟨bf139, bg139, bh139, bz139⟩ := B136.out
  go_wp2_with fail
  clear hW132
  go_at_call 15
  refine (toType_any _ t2 cl _ _ (Nat.lt_succ_self _) HCL.out hclm (HL.out.kept H138.out)).mono ?_
  rintro e w7 ⟨v7, rfl, hty7, hb⟩
  obtain ⟨a7, k7, rfl, _⟩ := hty7.at.slice
  have T7 := Lib.hid hty7
  clear hty7
  have Z141 := Lib.hid (show W6.heap.size ≤ w7.heap.size from hb.size)
  have B142 := Lib.hid (B135.out.kept hb)
  have B143 := Lib.hid (B136.out.kept hb)
  have B144 := Lib.hid (B132n.out.kept hb)
  have T145 := Lib.hid (T137.out.kept hb)
  have H146 := Lib.hid (H138.out.trans (hb.mono H138.out.size))
  clear bf139 bg139 bh139 bz139
  clear hb
  obtain ⟨W7, hW147⟩ : ∃ W, w7.alloc (.cells #[.int .i64 t2.k, .int .i64 t2.n, .slice a7 t2.ks.length k7] 29) = W := ⟨_, rfl⟩
  have hA147 : Below w7.heap.size w7 W7 := by rw [← hW147]; exact (Below.refl _ _).alloc (Nat.le_refl _) _
  have hZ147 : W7.heap.size = w7.heap.size + 1 := by rw [← hW147]; simp
  have B147n : Hid (TBox W7 w7.heap.size (.int .i64 t2.k) (.int .i64 t2.n) (.slice a7 t2.ks.length k7)) := Lib.hid (by rw [← hW147]; exact tbox_new w7 _ _ _ _)
  have Zb147 := Lib.hid hZ147
  have Z149 := Lib.hid (show w7.heap.size ≤ W7.heap.size from hA147.size)
  have B150 := Lib.hid (B142.out.kept hA147)
  have B151 := Lib.hid (B143.out.kept hA147)
  have B152 := Lib.hid (B144.out.kept hA147)
  have T153 := Lib.hid (T145.out.kept hA147)
  have T154 := Lib.hid (T7.out.kept hA147)
  have H155 := Lib.hid (H146.out.trans (hA147.mono H146.out.size))
  clear hA147 hZ147
  obtain ⟨bf156, bg156, bh156, bz156⟩ := B152.out
  obtain ⟨bf157, bg157, bh157, bz157⟩ := B147n.out
  go_wp2_with fail
  clear hW147
  go_at_call 19
  refine (Mx.instanceOf_impl t t2 _ _ _ HN.out T153.out.ok T154.out.ok).mono ?_
  rintro e w8 ⟨rfl, hb⟩
  have Z159 := Lib.hid (show W7.heap.size ≤ w8.heap.size from hb.size)
  have B160 := Lib.hid (B150.out.kept hb)
  have B161 := Lib.hid (B151.out.kept hb)
  have B162 := Lib.hid (B152.out.kept hb)
  have B163 := Lib.hid (B147n.out.kept hb)
  have T164 := Lib.hid (T153.out.kept hb)
  have T165 := Lib.hid (T154.out.kept hb)
  have H166 := Lib.hid (H155.out.trans (hb.mono H155.out.size))
  rw [HV.out]
  clear bf156 bg156 bh156 bz156 bf157 bg157 bh157 bz157
  clear hb
  obtain ⟨bf167, bg167, bh167, bz167⟩ := B160.out
  obtain ⟨bf168, bg168, bh168, bz168⟩ := B162.out
  go_wp2_with fail
  go_region_held3 (fun w' => w'.cell? ⟨w6.heap.size, 0, none⟩ = some (.int .i64 t.k) ∧ w'.cell? ⟨w6.heap.size, 1, none⟩ = some (.int .i64 t.n) ∧ w'.cell? ⟨w6.heap.size, 2, none⟩ = some (.slice a6 t.ks.length k6) ∧ w'.cell? ⟨w.heap.size, 0, none⟩ = some (.int .i64 t.k) ∧ w'.cell? ⟨w.heap.size, 1, none⟩ = some (.int .i64 t.n) ∧ w'.cell? ⟨w.heap.size, 2, none⟩ = some (.slice a t.ks.length cap)) (go_keep)
    (first
      | (go_at_call 15; refine (toType_any _ t c _ _ (Nat.lt_succ_self _) HC.out hcm (HX.out.kept (by first | exact H166.out | exact H166.out.drew))).mono ?_; rintro e w10 ⟨vc1, rfl, htc1, hbc1⟩; obtain ⟨ac1, kc1, rfl, _⟩ := htc1.at.slice; have hbd : Below w8.heap.size w8 w10 := Below.trans (B := w8.heap.size) (by first | exact Below.refl _ _ | exact (Below.refl _ _).drew) hbc1; have TC1 := Lib.hid htc1.at; have Z170 := Lib.hid (show w8.heap.size ≤ w10.heap.size from hbd.size); have B171 := Lib.hid (B160.out.kept hbd); have B172 := Lib.hid (B161.out.kept hbd); have B173 := Lib.hid (B162.out.kept hbd); have B174 := Lib.hid (B163.out.kept hbd); have T175 := Lib.hid (T164.out.kept hbd); have T176 := Lib.hid (T165.out.kept hbd); have H177 := Lib.hid (H166.out.trans (hbd.mono H166.out.size)); obtain ⟨bf178, bg178, bh178, bz178⟩ := B173.out; obtain ⟨bf179, bg179, bh179, bz179⟩ := B171.out; clear hbc1 hbd htc1)
      | (go_at_call 17; refine (eqType_any _ t c _ _ _ (Nat.lt_succ_self _) HC.out hcm (by first | exact T175.out.at | exact T175.out.at.kept (Below.refl _ _).drew) (by first | exact TC1.out | exact TC1.out.kept (Below.refl _ _).drew)).mono ?_; rintro e w11 ⟨rfl, hbc2⟩; have hbd : Below w10.heap.size w10 w11 := Below.trans (B := w10.heap.size) (by first | exact Below.refl _ _ | exact (Below.refl _ _).drew) hbc2; have Z181 := Lib.hid (show w10.heap.size ≤ w11.heap.size from hbd.size); have B182 := Lib.hid (B171.out.kept hbd); have B183 := Lib.hid (B172.out.kept hbd); have B184 := Lib.hid (B173.out.kept hbd); have B185 := Lib.hid (B174.out.kept hbd); have T186 := Lib.hid (T175.out.kept hbd); have T187 := Lib.hid (T176.out.kept hbd); have H188 := Lib.hid (H177.out.trans (hbd.mono H177.out.size)); obtain ⟨bf189, bg189, bh189, bz189⟩ := B184.out; obtain ⟨bf190, bg190, bh190, bz190⟩ := B182.out; clear hbc2 hbd))
  obtain ⟨bf191, bg191, bh191, bz191⟩ := B183.out
  obtain ⟨bf192, bg192, bh192, bz192⟩ := B185.out
  go_wp2_with fail
  go_region_held3 (fun w' => w'.cell? ⟨w7.heap.size, 0, none⟩ = some (.int .i64 t2.k) ∧ w'.cell? ⟨w7.heap.size, 1, none⟩ = some (.int .i64 t2.n) ∧ w'.cell? ⟨w7.heap.size, 2, none⟩ = some (.slice a7 t2.ks.length k7) ∧ w'.cell? ⟨(w.heap.size + 1), 0, none⟩ = some (.int .i64 t2.k) ∧ w'.cell? ⟨(w.heap.size + 1), 1, none⟩ = some (.int .i64 t2.n) ∧ w'.cell? ⟨(w.heap.size + 1), 2, none⟩ = some (.slice la t2.ks.length lc)) (go_keep)
    (first
      | (go_at_call 15; refine (toType_any _ t2 cl _ _ (Nat.lt_succ_self _) HCL.out hclm (HL.out.kept (by first | exact H188.out | exact H188.out.drew))).mono ?_; rintro e w13 ⟨vc1, rfl, htc1, hbc1⟩; obtain ⟨ac1, kc1, rfl, _⟩ := htc1.at.slice; have hbd : Below w11.heap.size w11 w13 := Below.trans (B := w11.heap.size) (by first | exact Below.refl _ _ | exact (Below.refl _ _).drew) hbc1; have TC1 := Lib.hid htc1.at; have Z194 := Lib.hid (show w11.heap.size ≤ w13.heap.size from hbd.size); have B195 := Lib.hid (B182.out.kept hbd); have B196 := Lib.hid (B183.out.kept hbd); have B197 := Lib.hid (B184.out.kept hbd); have B198 := Lib.hid (B185.out.kept hbd); have T199 := Lib.hid (T186.out.kept hbd); have T200 := Lib.hid (T187.out.kept hbd); have H201 := Lib.hid (H188.out.trans (hbd.mono H188.out.size)); obtain ⟨bf202, bg202, bh202, bz202⟩ := B198.out; obtain ⟨bf203, bg203, bh203, bz203⟩ := B196.out; clear hbc1 hbd htc1)
      | (go_at_call 17; refine (eqType_any _ t2 cl _ _ _ (Nat.lt_succ_self _) HCL.out hclm (by first | exact T200.out.at | exact T200.out.at.kept (Below.refl _ _).drew) (by first | exact TC1.out | exact TC1.out.kept (Below.refl _ _).drew)).mono ?_; rintro e w14 ⟨rfl, hbc2⟩; have hbd : Below w13.heap.size w13 w14 := Below.trans (B := w13.heap.size) (by first | exact Below.refl _ _ | exact (Below.refl _ _).drew) hbc2; have Z205 := Lib.hid (show w13.heap.size ≤ w14.heap.size from hbd.size); have B206 := Lib.hid (B195.out.kept hbd); have B207 := Lib.hid (B196.out.kept hbd); have B208 := Lib.hid (B197.out.kept hbd); have B209 := Lib.hid (B198.out.kept hbd); have T210 := Lib.hid (T199.out.kept hbd); have T211 := Lib.hid (T200.out.kept hbd); have H212 := Lib.hid (H201.out.trans (hbd.mono H201.out.size)); obtain ⟨bf213, bg213, bh213, bz213⟩ := B209.out; obtain ⟨bf214, bg214, bh214, bz214⟩ := B207.out; clear hbc2 hbd))
  go_wp2_with fail
  go_ret
  exact ⟨rfl, H212.out⟩

set_option maxRecDepth 100000 in
theorem lifted (os : Os) (started : os.Started) (H : Type) (enc : TypeId × Value → H) :
    ReturnsInHanded {} Try.checked os 4 .any (Rows.fnExactInstanceOfSpec.pre6 enc Try.prog Try.f4 Rows.fnExactInstanceOfRow.domain false) (Rows.fnExactInstanceOfSpec.post enc Try.prog Try.f4 false true false false) := by
  refine returnsInHanded_of_change (C := Try.checked) own started (by kernel_rfl) Try.func4
    (ChangeSpec.witness6 (enc := enc) (C := Try.checked) false ⟨#[], #[.agg #[.int .i64 0, .int .i64 0, .slice none 0 0], .agg #[.int .i64 0, .int .i64 0, .slice none 0 0]], []⟩ 8 (by kernel_rfl) (by kernel_rfl) (by kernel_rfl) (by kernel_rfl)) ?_
  intro W base args ds gs before hval0 hW hcnd _
  have hval : ∀ (j : Nat) t v, Try.f4.params[j]? = some t → args[j]? = some v → Value.okWide Try.prog W .any base t v := hval0
  have hW' := hW
  obtain ⟨p, q, hA0, hV, rfl, hfz, hnd⟩ := hW
  have hA : DataW.TrodAll enc Try.prog W 0 (fun _ => true) true Try.f4.params.toList args.toList ds p := hA0
  rw [Try.params4] at hA hval
  obtain ⟨v0, vs0, d0, ds0, p0, q0, hargs, rfl, rfl, h0, r0⟩ := trodAll_cons hA
  obtain ⟨v1, vs1, d1, ds1, p1, q1, rfl, rfl, rfl, h1, r1⟩ := trodAll_cons r0
  obtain ⟨rfl, rfl, rfl⟩ := trodAll_nil r1
  obtain rfl : args = #[v0, v1] := by cases args; simp_all
  obtain ⟨rfl, rfl⟩ := trodVars_none hV
  have k0 := h0
  have lt0 : ∀ x ∈ p0, x.block < W.heap.size := by obtain ⟨m, hm⟩ := k0; exact DataW.trod_lt m _ _ _ hm
  have k1 := h1
  have lt1 : ∀ x ∈ p1, x.block < W.heap.size := by obtain ⟨m, hm⟩ := k1; exact DataW.trod_lt m _ _ _ hm
  obtain ⟨cs0, rfl, _⟩ := okWide_struct Try.underlying24 (hval 0 24 v0 rfl rfl)
  obtain ⟨u0, z0, w0, hz0⟩ : ∃ (t : Ty) (v : Value), cs0 = #[.int .i64 t.k, .int .i64 t.n, v] ∧ TyAt W t v := by
    obtain ⟨fuel, hf⟩ := h0
    obtain ⟨t, v, hcs, hat⟩ := ty_of_trod fuel _ _ hf
    exact ⟨t, v, Array.toList_inj.1 hcs, hat⟩
  subst w0
  obtain ⟨cs1, rfl, _⟩ := okWide_struct Try.underlying24 (hval 1 24 v1 rfl rfl)
  obtain ⟨u1, z1, w1, hz1⟩ : ∃ (t : Ty) (v : Value), cs1 = #[.int .i64 t.k, .int .i64 t.n, v] ∧ TyAt W t v := by
    obtain ⟨fuel, hf⟩ := h1
    obtain ⟨t, v, hcs, hat⟩ := ty_of_trod fuel _ _ hf
    exact ⟨t, v, Array.toList_inj.1 hcs, hat⟩
  subst w1
  clear hA0 hval0
  refine (walk u0 z0 u1 z1 W hz0 hz1).mono fun e W' ⟨he, bel⟩ => ?_
  subst he
  exact ⟨_, rfl, _, _, _, [], _, [], hW', trodAll_mk1 (shut_bool Try.underlying4 _), (trodAll_cons_mk (Below.trod laidOut (by kernel_rfl) (of_decide_eq_true (by kernel_rfl)) k0 bel lt0) (trodAll_cons_mk (Below.trod laidOut (by kernel_rfl) (of_decide_eq_true (by kernel_rfl)) k1 bel lt1) trodAll_mk0)), rfl, bel.frame _, fun h => by cases h⟩

theorem over : Rows.fnExactInstanceOfRow.holds Try.pinned (OpenSpec.ofChange Rows.fnExactInstanceOfSpec) :=
  OpenClaim.holds_of_wide 4 Try.f4 rfl rfl rfl rfl rfl rfl rfl ⟨rfl, rfl, rfl, rfl, rfl⟩ rfl rfl rfl rfl rfl (by kernel_rfl) Try.func4 (by kernel_rfl)
    (of_decide_eq_true (by kernel_rfl)) (by unfold Func.isWrapper; first | (rw [if_pos (by decide +kernel)]; kernel_rfl) | (rw [if_neg (by decide +kernel)]; exact ⟨rfl, rfl⟩))
    (fun os started H enc _ => lifted os started H enc)

/-- The given statement. -/
theorem proved : Rows.FnExactInstanceOfSaid := over
end Go.Proofs.Ytncpakpamfocbab.fnExactInstanceOf
