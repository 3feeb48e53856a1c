/-
  FnExactSubstVars returns true for every type and every list of types, and they read as they did: SubstVars answers as its model, in memory of its own. No conditions.
-/
import Derived.Test.YtiaoopikmkakbaaRows
import Derived.ProofKit
import Derived.OpenShut
import Derived.ShutString
import Derived.ChangeOld
import Derived.Below
import Derived.Lib.SmallJoins
import Derived.Test.YtiaoopikmkakbaaAh
namespace Go.Proofs.Ytiaoopikmkakbaa.fnExactSubstVars
open Go.Proofs.Ytiaoopikmkakbaa
open Go.ChangeShapes Go.WideShapes Go.ChangeAt Go.RowKit Go.Joins
open Go.ChangeMaps (open_string shut_string)
set_option linter.unusedVariables false
set_option linter.unusedSimpArgs false

theorem own : ownKnob Try.prog.godebug = none := by kernel_rfl
theorem laidOut : laidOutB Try.prog = true := by kernel_rfl

set_option maxHeartbeats 16000000 in
theorem walk (t : Ty) (v : Value) (ls : List Ty) (lv : Value) (w : World) (hx : TyAt w t v) (hl : TyAt w (.node 0 0 ls) lv) :
    Calls Try.prog 7 #[.agg #[.int .i64 t.k, .int .i64 t.n, v], lv] w fun e w' => e = .returned (.bool true) ∧ Below w.heap.size w w' := by
  obtain ⟨c, hc⟩ := cnt_total _ t (Nat.lt_succ_self _)
  obtain ⟨cl, hcl⟩ := cnt_total _ (.node 0 0 ls) (Nat.lt_succ_self _)
  have HX := Lib.hid hx
  have HL := Lib.hid hl
  have HC := Lib.hid hc
  have HCL := Lib.hid hcl
  obtain ⟨a, cap, rfl, hlen⟩ := hx.slice
  obtain ⟨la, lc, rfl, hllen⟩ := hl.slice
  have el : (Ty.node 0 0 ls).ks.length = ls.length := rfl
  rw [el] at hllen HL ⊢
  obtain ⟨LL, hLL⟩ : ∃ LL, ls.length = LL := ⟨_, rfl⟩
  rw [hLL] at hllen HL ⊢
  clear hx hl hc hcl el hLL
  have HA0 : Hid (Below w.heap.size w (w.alloc (.cells #[.int .i64 t.k, .int .i64 t.n, .slice a t.ks.length cap] 24))) := Lib.hid ((Below.refl _ _).alloc (Nat.le_refl _) _)
  have HP0 := Lib.hid (tbox_new w (.int .i64 t.k) (.int .i64 t.n) (.slice a t.ks.length cap) 24)
  by_cases hle : (c : Int) ≤ 1048576
  case neg =>
    have HLE := Lib.hid (leftOf_no hle)
    go_enter Try.func7, Try.ntmps7
    go_wp2_with fail
    go_at_call 9
    refine (szType_any _ t c _ 1048576 _ (Nat.lt_succ_self _) HC.out (HX.out.kept HA0.out) (by omega) (by omega)).mono ?_
    rintro e w1 ⟨rfl, hb1⟩
    rw [HLE.out]
    have H1 := Lib.hid (HA0.out.trans (hb1.mono HA0.out.size))
    clear hb1
    go_wp2_with fail
    go_ret
    exact ⟨rfl, H1.out⟩
  have hcm : c ≤ 1048576 := by omega
  have HLE := Lib.hid (leftOf_yes hle)
  have hnn : 0 ≤ 1048576 - (c : Int) := by omega
  obtain ⟨left, hleft⟩ : ∃ left : Int, 1048576 - (c : Int) = left := ⟨_, rfl⟩
  rw [hleft] at HLE hnn
  have hl1 : left ≤ 1048576 := by omega
  have hln : ¬ left < 0 := by omega
  by_cases hle2 : (cl : Int) ≤ left
  case neg =>
    have HLE2 := Lib.hid (leftOf_no hle2)
    clear hle hle2 hleft
    go_enter Try.func7, Try.ntmps7
    go_wp2_with fail
    go_at_call 9
    refine (szType_any _ t c _ 1048576 _ (Nat.lt_succ_self _) HC.out (HX.out.kept HA0.out) (by omega) (by omega)).mono ?_
    rintro e w1 ⟨rfl, hb1⟩
    rw [HLE.out]
    have H1 := Lib.hid (HA0.out.trans (hb1.mono HA0.out.size))
    clear hb1
    go_wp2_with fail
    go_at_call 25
    refine (szTypeS_any ls cl _ left _ HCL.out (HL.out.kept H1.out) hnn hl1).mono ?_
    rintro e w2 ⟨rfl, hb2⟩
    rw [HLE2.out]
    have H2 := Lib.hid (H1.out.trans (hb2.mono H1.out.size))
    clear hb2
    go_wp2_with fail
    go_ret
    exact ⟨rfl, H2.out⟩
  have HLE2 := Lib.hid (leftOf_yes hle2)
  have hclm : cl ≤ 1048576 := by omega
  obtain ⟨left2, hleft2⟩ : ∃ left2 : Int, left - (cl : Int) = left2 := ⟨_, rfl⟩
  rw [hleft2] at HLE2
  have hln2 : ¬ left2 < 0 := by omega
  have HCS := Lib.hid (show c + cl ≤ 1048576 by omega)
  obtain ⟨r, hr⟩ : ∃ r, svT t ls = r := ⟨_, rfl⟩
  obtain ⟨cT, hcT, hcT62⟩ := svT_cnt t ls
  rw [hr] at hcT
  have HRR := Lib.hid hr
  obtain ⟨T, hT⟩ : ∃ T, optT r = T := ⟨_, rfl⟩
  obtain ⟨b, hb⟩ : ∃ b, r.isSome = b := ⟨_, rfl⟩
  rw [hT] at hcT
  have HCT := Lib.hid hcT
  have HF : Hid (∀ (w : World) (e : Ending) (w' : World), OptRet r w e w' → ∃ v, e = .returned (.tuple #[.agg #[.int .i64 T.k, .int .i64 T.n, v], .bool b]) ∧ TyIn w' w.heap.size w'.heap.size T v ∧ Below w.heap.size w w') := Lib.hid (by rw [← hT, ← hb]; exact fun w e w' h => h.flat)
  have hbb := bne_same b
  have hcTm : cT ≤ 1048576 := by omega
  have hK : 1 + 2 * cT ≤ 100000000 := by omega
  have hK1 : 1 + 2 * c ≤ 100000000 := by omega
  have hK2 : (1 + 2 * c) + 2 * cl ≤ 100000000 := by omega
  obtain ⟨KK, hKK⟩ : ∃ KK : Int, ((1 + 2 * cT : Nat) : Int) = KK := ⟨_, rfl⟩
  have hkn : ¬ KK < 0 := by omega
  have HKK := Lib.hid hKK
  obtain ⟨K1, hK1e⟩ : ∃ K1 : Int, ((1 + 2 * c : Nat) : Int) = K1 := ⟨_, rfl⟩
  obtain ⟨K2, hK2e⟩ : ∃ K2 : Int, (((1 + 2 * c) + 2 * cl : Nat) : Int) = K2 := ⟨_, rfl⟩
  have hk2n : ¬ K2 < 0 := by omega
  have HK1 := Lib.hid hK1e
  have HK2 := Lib.hid hK2e
  clear hle hle2 hleft hleft2 hT hb hcT hr hKK hK1e hK2e
  go_enter Try.func7, Try.ntmps7
  go_wp2_with fail
  go_at_call 9
  refine (szType_any _ t c _ 1048576 _ (Nat.lt_succ_self _) HC.out (HX.out.kept HA0.out) (by omega) (by omega)).mono ?_
  rintro e w1 ⟨rfl, hb1⟩
  rw [HLE.out]
  have HP1 := Lib.hid (HP0.out.kept hb1)
  have H1 := Lib.hid (HA0.out.trans (hb1.mono HA0.out.size))
  clear hb1
  go_wp2_with fail
  go_at_call 25
  refine (szTypeS_any ls cl _ left _ HCL.out (HL.out.kept H1.out) hnn hl1).mono ?_
  rintro e w2 ⟨rfl, hb2⟩
  rw [HLE2.out]
  have HP2 := Lib.hid (HP1.out.kept hb2)
  have H2 := Lib.hid (H1.out.trans (hb2.mono H1.out.size))
  clear hb2
  have Z1 := Lib.hid (show w.heap.size + 1 ≤ w2.heap.size from HP2.out.sz)
  obtain ⟨bf101, bg101, bh101, bz101⟩ := HP2.out
  go_wp2_with fail
  go_at_call 11
  refine (toType_any _ t c _ _ (Nat.lt_succ_self _) HC.out hcm (HX.out.kept H2.out)).mono ?_
  rintro e w3 ⟨vA, rfl, htA, hb⟩
  obtain ⟨aA, kA, rfl, _⟩ := htA.at.slice
  have TA := Lib.hid htA
  clear htA
  have Z103 := Lib.hid (show w2.heap.size ≤ w3.heap.size from hb.size)
  have B104 := Lib.hid (HP2.out.kept hb)
  have H105 := Lib.hid (H2.out.trans (hb.mono H2.out.size))
  clear bf101 bg101 bh101 bz101
  clear hb
  go_wp2_with fail
  go_at_call 27
  refine (toTypeS_any ls cl _ _ HCL.out hclm (HL.out.kept H105.out)).mono ?_
  rintro e w4 ⟨vL, rfl, htL, hb⟩
  obtain ⟨aL, kL, rfl, _⟩ := htL.at.slice
  have TL := Lib.hid htL
  clear htL
  have Z107 := Lib.hid (show w3.heap.size ≤ w4.heap.size from hb.size)
  have B108 := Lib.hid (B104.out.kept hb)
  have T109 := Lib.hid (TA.out.kept hb)
  have H110 := Lib.hid (H105.out.trans (hb.mono H105.out.size))
  clear hb
  go_wp2_with fail
  go_at_call 26
  refine (substVars_spec t ls _ _ _ T109.out.at TL.out.at r HRR.out).mono ?_
  intro e w5 hret
  obtain ⟨v5, rfl, hty5, hb⟩ := HF.out _ _ _ hret
  obtain ⟨a5, k5, rfl, _⟩ := hty5.at.slice
  have T5 := Lib.hid hty5
  have Z112 := Lib.hid (show w4.heap.size ≤ w5.heap.size from hb.size)
  have B113 := Lib.hid (B108.out.kept hb)
  have H114 := Lib.hid (H110.out.trans (hb.mono H110.out.size))
  clear hb hret hty5
  obtain ⟨W5, hW115⟩ : ∃ W, w5.alloc (.cells #[.int .i64 T.k, .int .i64 T.n, .slice a5 T.ks.length k5] 29) = W := ⟨_, rfl⟩
  have hA115 : Below w5.heap.size w5 W5 := by rw [← hW115]; exact (Below.refl _ _).alloc (Nat.le_refl _) _
  have hZ115 : W5.heap.size = w5.heap.size + 1 := by rw [← hW115]; simp
  have B115n : Hid (TBox W5 w5.heap.size (.int .i64 T.k) (.int .i64 T.n) (.slice a5 T.ks.length k5)) := Lib.hid (by rw [← hW115]; exact tbox_new w5 _ _ _ _)
  have Zb115 := Lib.hid hZ115
  have Z117 := Lib.hid (show w5.heap.size ≤ W5.heap.size from hA115.size)
  have B118 := Lib.hid (B113.out.kept hA115)
  have T119 := Lib.hid (T5.out.kept hA115)
  have H120 := Lib.hid (H114.out.trans (hA115.mono H114.out.size))
  clear hA115 hZ115
  obtain ⟨bf121, bg121, bh121, bz121⟩ := B118.out
  go_wp2_with fail
  clear hW115
  go_at_call 11
  refine (toType_any _ t c _ _ (Nat.lt_succ_self _) HC.out hcm (HX.out.kept H120.out)).mono ?_
  rintro e w6 ⟨v6, rfl, hty6, hb⟩
  obtain ⟨a6, k6, rfl, _⟩ := hty6.at.slice
  have T6 := Lib.hid hty6
  clear hty6
  have Z123 := Lib.hid (show W5.heap.size ≤ w6.heap.size from hb.size)
  have B124 := Lib.hid (B118.out.kept hb)
  have B125 := Lib.hid (B115n.out.kept hb)
  have T126 := Lib.hid (T119.out.kept hb)
  have H127 := Lib.hid (H120.out.trans (hb.mono H120.out.size))
  clear bf121 bg121 bh121 bz121
  clear hb
  obtain ⟨W6, hW128⟩ : ∃ W, w6.alloc (.cells #[.int .i64 t.k, .int .i64 t.n, .slice a6 t.ks.length k6] 29) = W := ⟨_, rfl⟩
  have hA128 : Below w6.heap.size w6 W6 := by rw [← hW128]; exact (Below.refl _ _).alloc (Nat.le_refl _) _
  have hZ128 : W6.heap.size = w6.heap.size + 1 := by rw [← hW128]; simp
  have B128n : Hid (TBox W6 w6.heap.size (.int .i64 t.k) (.int .i64 t.n) (.slice a6 t.ks.length k6)) := Lib.hid (by rw [← hW128]; exact tbox_new w6 _ _ _ _)
  have Zb128 := Lib.hid hZ128
  have Z130 := Lib.hid (show w6.heap.size ≤ W6.heap.size from hA128.size)
  have B131 := Lib.hid (B124.out.kept hA128)
  have B132 := Lib.hid (B125.out.kept hA128)
  have T133 := Lib.hid (T126.out.kept hA128)
  have T134 := Lib.hid (T6.out.kept hA128)
  have H135 := Lib.hid (H127.out.trans (hA128.mono H127.out.size))
  clear hA128 hZ128
  go_wp2_with fail
  clear hW128
  go_at_call 27
  refine (toTypeS_any ls cl _ _ HCL.out hclm (HL.out.kept H135.out)).mono ?_
  rintro e w7 ⟨v7, rfl, hty7, hb⟩
  obtain ⟨a7, k7, rfl, _⟩ := hty7.at.slice
  have T7 := Lib.hid hty7
  clear hty7
  have Z137 := Lib.hid (show W6.heap.size ≤ w7.heap.size from hb.size)
  have B138 := Lib.hid (B131.out.kept hb)
  have B139 := Lib.hid (B132.out.kept hb)
  have B140 := Lib.hid (B128n.out.kept hb)
  have T141 := Lib.hid (T133.out.kept hb)
  have T142 := Lib.hid (T134.out.kept hb)
  have H143 := Lib.hid (H135.out.trans (hb.mono H135.out.size))
  clear hb
  obtain ⟨bf144, bg144, bh144, bz144⟩ := B140.out
  go_wp2_with fail
  go_at_call 28
  refine (substVars_impl t ls _ _ _ T142.out.at T7.out.at r HRR.out).mono ?_
  intro e w8 hret
  obtain ⟨v8, rfl, hty8, hb⟩ := HF.out _ _ _ hret
  obtain ⟨a8, k8, rfl, _⟩ := hty8.at.slice
  have T8 := Lib.hid hty8
  clear bf144 bg144 bh144 bz144
  have Z146 := Lib.hid (show w7.heap.size ≤ w8.heap.size from hb.size)
  have B147 := Lib.hid (B138.out.kept hb)
  have B148 := Lib.hid (B139.out.kept hb)
  have B149 := Lib.hid (B140.out.kept hb)
  have T150 := Lib.hid (T141.out.kept hb)
  have T151 := Lib.hid (T142.out.kept hb)
  have T152 := Lib.hid (T7.out.kept hb)
  have H153 := Lib.hid (H143.out.trans (hb.mono H143.out.size))
  clear hb hret hty8
  obtain ⟨W8, hW154⟩ : ∃ W, w8.alloc (.cells #[.int .i64 T.k, .int .i64 T.n, .slice a8 T.ks.length k8] 29) = W := ⟨_, rfl⟩
  have hA154 : Below w8.heap.size w8 W8 := by rw [← hW154]; exact (Below.refl _ _).alloc (Nat.le_refl _) _
  have hZ154 : W8.heap.size = w8.heap.size + 1 := by rw [← hW154]; simp
  have B154n : Hid (TBox W8 w8.heap.size (.int .i64 T.k) (.int .i64 T.n) (.slice a8 T.ks.length k8)) := Lib.hid (by rw [← hW154]; exact tbox_new w8 _ _ _ _)
  have Zb154 := Lib.hid hZ154
  have Z156 := Lib.hid (show w8.heap.size ≤ W8.heap.size from hA154.size)
  have B157 := Lib.hid (B147.out.kept hA154)
  have B158 := Lib.hid (B148.out.kept hA154)
  have B159 := Lib.hid (B149.out.kept hA154)
  have T160 := Lib.hid (T150.out.kept hA154)
  have T161 := Lib.hid (T151.out.kept hA154)
  have T162 := Lib.hid (T152.out.kept hA154)
  have T163 := Lib.hid (T8.out.kept hA154)
  have H164 := Lib.hid (H153.out.trans (hA154.mono H153.out.size))
  clear hA154 hZ154
  obtain ⟨bf165, bg165, bh165, bz165⟩ := B158.out
  obtain ⟨bf166, bg166, bh166, bz166⟩ := B154n.out
  go_wp2_with fail
  clear hW154
  go_at_call 13
  refine (eqType_any _ T cT _ _ _ (Nat.lt_succ_self _) HCT.out hcTm T163.out.at T160.out.at).mono ?_
  rintro e w9 ⟨rfl, hb⟩
  have Z168 := Lib.hid (show W8.heap.size ≤ w9.heap.size from hb.size)
  have B169 := Lib.hid (B157.out.kept hb)
  have B170 := Lib.hid (B158.out.kept hb)
  have B171 := Lib.hid (B159.out.kept hb)
  have B172 := Lib.hid (B154n.out.kept hb)
  have T173 := Lib.hid (T160.out.kept hb)
  have T174 := Lib.hid (T161.out.kept hb)
  have T175 := Lib.hid (T162.out.kept hb)
  have T176 := Lib.hid (T163.out.kept hb)
  have H177 := Lib.hid (H164.out.trans (hb.mono H164.out.size))
  clear bf165 bg165 bh165 bz165 bf166 bg166 bh166 bz166
  clear hb
  obtain ⟨bf178, bg178, bh178, bz178⟩ := B169.out
  obtain ⟨bf179, bg179, bh179, bz179⟩ := B171.out
  go_wp2_with fail
  go_region_held3 (fun w' => w'.cell? ⟨w6.heap.size, 0, none⟩ = some (.int .i64 t.k) ∧ w'.cell? ⟨w6.heap.size, 1, none⟩ = some (.int .i64 t.n) ∧ w'.cell? ⟨w6.heap.size, 2, none⟩ = some (.slice a6 t.ks.length k6) ∧ w'.cell? ⟨w.heap.size, 0, none⟩ = some (.int .i64 t.k) ∧ w'.cell? ⟨w.heap.size, 1, none⟩ = some (.int .i64 t.n) ∧ w'.cell? ⟨w.heap.size, 2, none⟩ = some (.slice a t.ks.length cap)) (go_keep)
    (first
      | (go_at_call 11; refine (toType_any _ t c _ _ (Nat.lt_succ_self _) HC.out hcm (HX.out.kept (by first | exact H177.out | exact H177.out.drew))).mono ?_; rintro e w10 ⟨vc1, rfl, htc1, hbc1⟩; obtain ⟨ac1, kc1, rfl, _⟩ := htc1.at.slice; have hbd : Below w9.heap.size w9 w10 := Below.trans (B := w9.heap.size) (by first | exact Below.refl _ _ | exact (Below.refl _ _).drew) hbc1; have TC1 := Lib.hid htc1.at; have Z181 := Lib.hid (show w9.heap.size ≤ w10.heap.size from hbd.size); have B182 := Lib.hid (B169.out.kept hbd); have B183 := Lib.hid (B170.out.kept hbd); have B184 := Lib.hid (B171.out.kept hbd); have B185 := Lib.hid (B172.out.kept hbd); have T186 := Lib.hid (T173.out.kept hbd); have T187 := Lib.hid (T174.out.kept hbd); have T188 := Lib.hid (T175.out.kept hbd); have T189 := Lib.hid (T176.out.kept hbd); have H190 := Lib.hid (H177.out.trans (hbd.mono H177.out.size)); obtain ⟨bf191, bg191, bh191, bz191⟩ := B184.out; obtain ⟨bf192, bg192, bh192, bz192⟩ := B182.out; clear hbc1 hbd htc1)
      | (go_at_call 13; refine (eqType_any _ t c _ _ _ (Nat.lt_succ_self _) HC.out hcm (by first | exact T187.out.at | exact T187.out.at.kept (Below.refl _ _).drew) (by first | exact TC1.out | exact TC1.out.kept (Below.refl _ _).drew)).mono ?_; rintro e w11 ⟨rfl, hbc2⟩; have hbd : Below w10.heap.size w10 w11 := Below.trans (B := w10.heap.size) (by first | exact Below.refl _ _ | exact (Below.refl _ _).drew) hbc2; have Z194 := Lib.hid (show w10.heap.size ≤ w11.heap.size from hbd.size); have B195 := Lib.hid (B182.out.kept hbd); have B196 := Lib.hid (B183.out.kept hbd); have B197 := Lib.hid (B184.out.kept hbd); have B198 := Lib.hid (B185.out.kept hbd); have T199 := Lib.hid (T186.out.kept hbd); have T200 := Lib.hid (T187.out.kept hbd); have T201 := Lib.hid (T188.out.kept hbd); have T202 := Lib.hid (T189.out.kept hbd); have H203 := Lib.hid (H190.out.trans (hbd.mono H190.out.size)); obtain ⟨bf204, bg204, bh204, bz204⟩ := B197.out; obtain ⟨bf205, bg205, bh205, bz205⟩ := B195.out; clear hbc2 hbd))
  go_wp2_with fail
  go_at_call 27
  refine (toTypeS_any ls cl _ _ HCL.out hclm (HL.out.kept H203.out)).mono ?_
  rintro e w12 ⟨v12, rfl, hty12, hb⟩
  obtain ⟨a12, k12, rfl, _⟩ := hty12.at.slice
  have T12 := Lib.hid hty12
  clear hty12
  have Z207 := Lib.hid (show w11.heap.size ≤ w12.heap.size from hb.size)
  have B208 := Lib.hid (B195.out.kept hb)
  have B209 := Lib.hid (B196.out.kept hb)
  have B210 := Lib.hid (B197.out.kept hb)
  have B211 := Lib.hid (B198.out.kept hb)
  have T212 := Lib.hid (T199.out.kept hb)
  have T213 := Lib.hid (T200.out.kept hb)
  have T214 := Lib.hid (T201.out.kept hb)
  have T215 := Lib.hid (T202.out.kept hb)
  have H216 := Lib.hid (H203.out.trans (hb.mono H203.out.size))
  clear bf178 bg178 bh178 bz178 bf179 bg179 bh179 bz179 bf191 bg191 bh191 bz191 bf192 bg192 bh192 bz192 bf204 bg204 bh204 bz204 bf205 bg205 bh205 bz205
  clear hb
  go_wp2_with fail
  go_at_call 29
  refine (eqTypeS_any ls cl _ _ _ HCL.out hclm T214.out.at T12.out.at).mono ?_
  rintro e w13 ⟨rfl, hb⟩
  have Z218 := Lib.hid (show w12.heap.size ≤ w13.heap.size from hb.size)
  have B219 := Lib.hid (B208.out.kept hb)
  have B220 := Lib.hid (B209.out.kept hb)
  have B221 := Lib.hid (B210.out.kept hb)
  have B222 := Lib.hid (B211.out.kept hb)
  have T223 := Lib.hid (T212.out.kept hb)
  have T224 := Lib.hid (T213.out.kept hb)
  have T225 := Lib.hid (T214.out.kept hb)
  have T226 := Lib.hid (T215.out.kept hb)
  have T227 := Lib.hid (T12.out.kept hb)
  have H228 := Lib.hid (H216.out.trans (hb.mono H216.out.size))
  clear hb
  obtain ⟨bf229, bg229, bh229, bz229⟩ := B221.out
  go_wp2_with fail
  go_at_call 18
  refine (markType_any t c _ _ _ 1 _ HC.out T224.out hK1).mono ?_
  rintro e w14 ⟨rfl, hI⟩
  rw [HK1.out]
  clear bf229 bg229 bh229 bz229
  have B230 := Lib.hid (B219.out.away hI (by first | exact .inl (by have z0 := Z1.out; have z1 := Z103.out; have z2 := Z107.out; have z3 := Z112.out; have z4 := Zb115.out; have z5 := Z117.out; have z6 := Z123.out; have z7 := Zb128.out; have z8 := Z130.out; have z9 := Z137.out; have z10 := Z146.out; have z11 := Zb154.out; have z12 := Z156.out; have z13 := Z168.out; have z14 := Z181.out; have z15 := Z194.out; have z16 := Z207.out; have z17 := Z218.out; omega) | exact .inr (by have z0 := Z1.out; have z1 := Z103.out; have z2 := Z107.out; have z3 := Z112.out; have z4 := Zb115.out; have z5 := Z117.out; have z6 := Z123.out; have z7 := Zb128.out; have z8 := Z130.out; have z9 := Z137.out; have z10 := Z146.out; have z11 := Zb154.out; have z12 := Z156.out; have z13 := Z168.out; have z14 := Z181.out; have z15 := Z194.out; have z16 := Z207.out; have z17 := Z218.out; omega)))
  have B231 := Lib.hid (B220.out.away hI (by first | exact .inl (by have z0 := Z1.out; have z1 := Z103.out; have z2 := Z107.out; have z3 := Z112.out; have z4 := Zb115.out; have z5 := Z117.out; have z6 := Z123.out; have z7 := Zb128.out; have z8 := Z130.out; have z9 := Z137.out; have z10 := Z146.out; have z11 := Zb154.out; have z12 := Z156.out; have z13 := Z168.out; have z14 := Z181.out; have z15 := Z194.out; have z16 := Z207.out; have z17 := Z218.out; omega) | exact .inr (by have z0 := Z1.out; have z1 := Z103.out; have z2 := Z107.out; have z3 := Z112.out; have z4 := Zb115.out; have z5 := Z117.out; have z6 := Z123.out; have z7 := Zb128.out; have z8 := Z130.out; have z9 := Z137.out; have z10 := Z146.out; have z11 := Zb154.out; have z12 := Z156.out; have z13 := Z168.out; have z14 := Z181.out; have z15 := Z194.out; have z16 := Z207.out; have z17 := Z218.out; omega)))
  have B232 := Lib.hid (B221.out.away hI (by first | exact .inl (by have z0 := Z1.out; have z1 := Z103.out; have z2 := Z107.out; have z3 := Z112.out; have z4 := Zb115.out; have z5 := Z117.out; have z6 := Z123.out; have z7 := Zb128.out; have z8 := Z130.out; have z9 := Z137.out; have z10 := Z146.out; have z11 := Zb154.out; have z12 := Z156.out; have z13 := Z168.out; have z14 := Z181.out; have z15 := Z194.out; have z16 := Z207.out; have z17 := Z218.out; omega) | exact .inr (by have z0 := Z1.out; have z1 := Z103.out; have z2 := Z107.out; have z3 := Z112.out; have z4 := Zb115.out; have z5 := Z117.out; have z6 := Z123.out; have z7 := Zb128.out; have z8 := Z130.out; have z9 := Z137.out; have z10 := Z146.out; have z11 := Zb154.out; have z12 := Z156.out; have z13 := Z168.out; have z14 := Z181.out; have z15 := Z194.out; have z16 := Z207.out; have z17 := Z218.out; omega)))
  have B233 := Lib.hid (B222.out.away hI (by first | exact .inl (by have z0 := Z1.out; have z1 := Z103.out; have z2 := Z107.out; have z3 := Z112.out; have z4 := Zb115.out; have z5 := Z117.out; have z6 := Z123.out; have z7 := Zb128.out; have z8 := Z130.out; have z9 := Z137.out; have z10 := Z146.out; have z11 := Zb154.out; have z12 := Z156.out; have z13 := Z168.out; have z14 := Z181.out; have z15 := Z194.out; have z16 := Z207.out; have z17 := Z218.out; omega) | exact .inr (by have z0 := Z1.out; have z1 := Z103.out; have z2 := Z107.out; have z3 := Z112.out; have z4 := Zb115.out; have z5 := Z117.out; have z6 := Z123.out; have z7 := Zb128.out; have z8 := Z130.out; have z9 := Z137.out; have z10 := Z146.out; have z11 := Zb154.out; have z12 := Z156.out; have z13 := Z168.out; have z14 := Z181.out; have z15 := Z194.out; have z16 := Z207.out; have z17 := Z218.out; omega)))
  have T234 := Lib.hid (T223.out.apart hI (by first | exact .inl (by have z0 := Z1.out; have z1 := Z103.out; have z2 := Z107.out; have z3 := Z112.out; have z4 := Zb115.out; have z5 := Z117.out; have z6 := Z123.out; have z7 := Zb128.out; have z8 := Z130.out; have z9 := Z137.out; have z10 := Z146.out; have z11 := Zb154.out; have z12 := Z156.out; have z13 := Z168.out; have z14 := Z181.out; have z15 := Z194.out; have z16 := Z207.out; have z17 := Z218.out; omega) | exact .inr (by have z0 := Z1.out; have z1 := Z103.out; have z2 := Z107.out; have z3 := Z112.out; have z4 := Zb115.out; have z5 := Z117.out; have z6 := Z123.out; have z7 := Zb128.out; have z8 := Z130.out; have z9 := Z137.out; have z10 := Z146.out; have z11 := Zb154.out; have z12 := Z156.out; have z13 := Z168.out; have z14 := Z181.out; have z15 := Z194.out; have z16 := Z207.out; have z17 := Z218.out; omega)))
  have T235 := Lib.hid (T225.out.apart hI (by first | exact .inl (by have z0 := Z1.out; have z1 := Z103.out; have z2 := Z107.out; have z3 := Z112.out; have z4 := Zb115.out; have z5 := Z117.out; have z6 := Z123.out; have z7 := Zb128.out; have z8 := Z130.out; have z9 := Z137.out; have z10 := Z146.out; have z11 := Zb154.out; have z12 := Z156.out; have z13 := Z168.out; have z14 := Z181.out; have z15 := Z194.out; have z16 := Z207.out; have z17 := Z218.out; omega) | exact .inr (by have z0 := Z1.out; have z1 := Z103.out; have z2 := Z107.out; have z3 := Z112.out; have z4 := Zb115.out; have z5 := Z117.out; have z6 := Z123.out; have z7 := Zb128.out; have z8 := Z130.out; have z9 := Z137.out; have z10 := Z146.out; have z11 := Zb154.out; have z12 := Z156.out; have z13 := Z168.out; have z14 := Z181.out; have z15 := Z194.out; have z16 := Z207.out; have z17 := Z218.out; omega)))
  have T236 := Lib.hid (T226.out.apart hI (by first | exact .inl (by have z0 := Z1.out; have z1 := Z103.out; have z2 := Z107.out; have z3 := Z112.out; have z4 := Zb115.out; have z5 := Z117.out; have z6 := Z123.out; have z7 := Zb128.out; have z8 := Z130.out; have z9 := Z137.out; have z10 := Z146.out; have z11 := Zb154.out; have z12 := Z156.out; have z13 := Z168.out; have z14 := Z181.out; have z15 := Z194.out; have z16 := Z207.out; have z17 := Z218.out; omega) | exact .inr (by have z0 := Z1.out; have z1 := Z103.out; have z2 := Z107.out; have z3 := Z112.out; have z4 := Zb115.out; have z5 := Z117.out; have z6 := Z123.out; have z7 := Zb128.out; have z8 := Z130.out; have z9 := Z137.out; have z10 := Z146.out; have z11 := Zb154.out; have z12 := Z156.out; have z13 := Z168.out; have z14 := Z181.out; have z15 := Z194.out; have z16 := Z207.out; have z17 := Z218.out; omega)))
  have H237 := Lib.hid (hI.below (by have z0 := Z1.out; have z1 := Z103.out; have z2 := Z107.out; have z3 := Z112.out; have z4 := Zb115.out; have z5 := Z117.out; have z6 := Z123.out; have z7 := Zb128.out; have z8 := Z130.out; have z9 := Z137.out; have z10 := Z146.out; have z11 := Zb154.out; have z12 := Z156.out; have z13 := Z168.out; have z14 := Z181.out; have z15 := Z194.out; have z16 := Z207.out; have z17 := Z218.out; omega) H228.out H228.out.size)
  have Z238 := Lib.hid (show w13.heap.size ≤ w14.heap.size from hI.size)
  clear hI
  go_wp2_with fail
  go_at_call 30
  refine ((HK1.out ▸ markTypeS_any _ (.node 0 0 ls) cl _ _ _ (1 + 2 * c) _ (Nat.lt_succ_self _) HCL.out T235.out hK2)).mono ?_
  rintro e w15 ⟨rfl, hI⟩
  rw [HK2.out]
  have B239 := Lib.hid (B230.out.away hI (by first | exact .inl (by have z0 := Z1.out; have z1 := Z103.out; have z2 := Z107.out; have z3 := Z112.out; have z4 := Zb115.out; have z5 := Z117.out; have z6 := Z123.out; have z7 := Zb128.out; have z8 := Z130.out; have z9 := Z137.out; have z10 := Z146.out; have z11 := Zb154.out; have z12 := Z156.out; have z13 := Z168.out; have z14 := Z181.out; have z15 := Z194.out; have z16 := Z207.out; have z17 := Z218.out; have z18 := Z238.out; omega) | exact .inr (by have z0 := Z1.out; have z1 := Z103.out; have z2 := Z107.out; have z3 := Z112.out; have z4 := Zb115.out; have z5 := Z117.out; have z6 := Z123.out; have z7 := Zb128.out; have z8 := Z130.out; have z9 := Z137.out; have z10 := Z146.out; have z11 := Zb154.out; have z12 := Z156.out; have z13 := Z168.out; have z14 := Z181.out; have z15 := Z194.out; have z16 := Z207.out; have z17 := Z218.out; have z18 := Z238.out; omega)))
  have B240 := Lib.hid (B231.out.away hI (by first | exact .inl (by have z0 := Z1.out; have z1 := Z103.out; have z2 := Z107.out; have z3 := Z112.out; have z4 := Zb115.out; have z5 := Z117.out; have z6 := Z123.out; have z7 := Zb128.out; have z8 := Z130.out; have z9 := Z137.out; have z10 := Z146.out; have z11 := Zb154.out; have z12 := Z156.out; have z13 := Z168.out; have z14 := Z181.out; have z15 := Z194.out; have z16 := Z207.out; have z17 := Z218.out; have z18 := Z238.out; omega) | exact .inr (by have z0 := Z1.out; have z1 := Z103.out; have z2 := Z107.out; have z3 := Z112.out; have z4 := Zb115.out; have z5 := Z117.out; have z6 := Z123.out; have z7 := Zb128.out; have z8 := Z130.out; have z9 := Z137.out; have z10 := Z146.out; have z11 := Zb154.out; have z12 := Z156.out; have z13 := Z168.out; have z14 := Z181.out; have z15 := Z194.out; have z16 := Z207.out; have z17 := Z218.out; have z18 := Z238.out; omega)))
  have B241 := Lib.hid (B232.out.away hI (by first | exact .inl (by have z0 := Z1.out; have z1 := Z103.out; have z2 := Z107.out; have z3 := Z112.out; have z4 := Zb115.out; have z5 := Z117.out; have z6 := Z123.out; have z7 := Zb128.out; have z8 := Z130.out; have z9 := Z137.out; have z10 := Z146.out; have z11 := Zb154.out; have z12 := Z156.out; have z13 := Z168.out; have z14 := Z181.out; have z15 := Z194.out; have z16 := Z207.out; have z17 := Z218.out; have z18 := Z238.out; omega) | exact .inr (by have z0 := Z1.out; have z1 := Z103.out; have z2 := Z107.out; have z3 := Z112.out; have z4 := Zb115.out; have z5 := Z117.out; have z6 := Z123.out; have z7 := Zb128.out; have z8 := Z130.out; have z9 := Z137.out; have z10 := Z146.out; have z11 := Zb154.out; have z12 := Z156.out; have z13 := Z168.out; have z14 := Z181.out; have z15 := Z194.out; have z16 := Z207.out; have z17 := Z218.out; have z18 := Z238.out; omega)))
  have B242 := Lib.hid (B233.out.away hI (by first | exact .inl (by have z0 := Z1.out; have z1 := Z103.out; have z2 := Z107.out; have z3 := Z112.out; have z4 := Zb115.out; have z5 := Z117.out; have z6 := Z123.out; have z7 := Zb128.out; have z8 := Z130.out; have z9 := Z137.out; have z10 := Z146.out; have z11 := Zb154.out; have z12 := Z156.out; have z13 := Z168.out; have z14 := Z181.out; have z15 := Z194.out; have z16 := Z207.out; have z17 := Z218.out; have z18 := Z238.out; omega) | exact .inr (by have z0 := Z1.out; have z1 := Z103.out; have z2 := Z107.out; have z3 := Z112.out; have z4 := Zb115.out; have z5 := Z117.out; have z6 := Z123.out; have z7 := Zb128.out; have z8 := Z130.out; have z9 := Z137.out; have z10 := Z146.out; have z11 := Zb154.out; have z12 := Z156.out; have z13 := Z168.out; have z14 := Z181.out; have z15 := Z194.out; have z16 := Z207.out; have z17 := Z218.out; have z18 := Z238.out; omega)))
  have T243 := Lib.hid (T234.out.apart hI (by first | exact .inl (by have z0 := Z1.out; have z1 := Z103.out; have z2 := Z107.out; have z3 := Z112.out; have z4 := Zb115.out; have z5 := Z117.out; have z6 := Z123.out; have z7 := Zb128.out; have z8 := Z130.out; have z9 := Z137.out; have z10 := Z146.out; have z11 := Zb154.out; have z12 := Z156.out; have z13 := Z168.out; have z14 := Z181.out; have z15 := Z194.out; have z16 := Z207.out; have z17 := Z218.out; have z18 := Z238.out; omega) | exact .inr (by have z0 := Z1.out; have z1 := Z103.out; have z2 := Z107.out; have z3 := Z112.out; have z4 := Zb115.out; have z5 := Z117.out; have z6 := Z123.out; have z7 := Zb128.out; have z8 := Z130.out; have z9 := Z137.out; have z10 := Z146.out; have z11 := Zb154.out; have z12 := Z156.out; have z13 := Z168.out; have z14 := Z181.out; have z15 := Z194.out; have z16 := Z207.out; have z17 := Z218.out; have z18 := Z238.out; omega)))
  have T244 := Lib.hid (T236.out.apart hI (by first | exact .inl (by have z0 := Z1.out; have z1 := Z103.out; have z2 := Z107.out; have z3 := Z112.out; have z4 := Zb115.out; have z5 := Z117.out; have z6 := Z123.out; have z7 := Zb128.out; have z8 := Z130.out; have z9 := Z137.out; have z10 := Z146.out; have z11 := Zb154.out; have z12 := Z156.out; have z13 := Z168.out; have z14 := Z181.out; have z15 := Z194.out; have z16 := Z207.out; have z17 := Z218.out; have z18 := Z238.out; omega) | exact .inr (by have z0 := Z1.out; have z1 := Z103.out; have z2 := Z107.out; have z3 := Z112.out; have z4 := Zb115.out; have z5 := Z117.out; have z6 := Z123.out; have z7 := Zb128.out; have z8 := Z130.out; have z9 := Z137.out; have z10 := Z146.out; have z11 := Zb154.out; have z12 := Z156.out; have z13 := Z168.out; have z14 := Z181.out; have z15 := Z194.out; have z16 := Z207.out; have z17 := Z218.out; have z18 := Z238.out; omega)))
  have H245 := Lib.hid (hI.below (by have z0 := Z1.out; have z1 := Z103.out; have z2 := Z107.out; have z3 := Z112.out; have z4 := Zb115.out; have z5 := Z117.out; have z6 := Z123.out; have z7 := Zb128.out; have z8 := Z130.out; have z9 := Z137.out; have z10 := Z146.out; have z11 := Zb154.out; have z12 := Z156.out; have z13 := Z168.out; have z14 := Z181.out; have z15 := Z194.out; have z16 := Z207.out; have z17 := Z218.out; have z18 := Z238.out; omega) H237.out H237.out.size)
  have Z246 := Lib.hid (show w14.heap.size ≤ w15.heap.size from hI.size)
  clear hI
  obtain ⟨bf247, bg247, bh247, bz247⟩ := B240.out
  obtain ⟨bf248, bg248, bh248, bz248⟩ := B242.out
  go_wp2_with fail
  go_at_call 13
  refine (eqType_any _ T cT _ _ _ (Nat.lt_succ_self _) HCT.out hcTm T244.out.at T243.out.at).mono ?_
  rintro e w16 ⟨rfl, hb⟩
  have Z250 := Lib.hid (show w15.heap.size ≤ w16.heap.size from hb.size)
  have B251 := Lib.hid (B239.out.kept hb)
  have B252 := Lib.hid (B240.out.kept hb)
  have B253 := Lib.hid (B241.out.kept hb)
  have B254 := Lib.hid (B242.out.kept hb)
  have T255 := Lib.hid (T243.out.kept hb)
  have T256 := Lib.hid (T244.out.kept hb)
  have H257 := Lib.hid (H245.out.trans (hb.mono H245.out.size))
  clear bf247 bg247 bh247 bz247 bf248 bg248 bh248 bz248
  clear hb
  obtain ⟨bf258, bg258, bh258, bz258⟩ := B254.out
  go_wp2_with fail
  go_at_call 18
  refine (markTypeFull_any T cT _ _ _ 1 _ HCT.out T256.out hK).mono ?_
  rintro e w17 ⟨rfl, hI, hHd⟩
  rw [HKK.out]
  clear bf258 bg258 bh258 bz258
  have B259 := Lib.hid (B251.out.away hI (by first | exact .inl (by have z0 := Z1.out; have z1 := Z103.out; have z2 := Z107.out; have z3 := Z112.out; have z4 := Zb115.out; have z5 := Z117.out; have z6 := Z123.out; have z7 := Zb128.out; have z8 := Z130.out; have z9 := Z137.out; have z10 := Z146.out; have z11 := Zb154.out; have z12 := Z156.out; have z13 := Z168.out; have z14 := Z181.out; have z15 := Z194.out; have z16 := Z207.out; have z17 := Z218.out; have z18 := Z238.out; have z19 := Z246.out; have z20 := Z250.out; omega) | exact .inr (by have z0 := Z1.out; have z1 := Z103.out; have z2 := Z107.out; have z3 := Z112.out; have z4 := Zb115.out; have z5 := Z117.out; have z6 := Z123.out; have z7 := Zb128.out; have z8 := Z130.out; have z9 := Z137.out; have z10 := Z146.out; have z11 := Zb154.out; have z12 := Z156.out; have z13 := Z168.out; have z14 := Z181.out; have z15 := Z194.out; have z16 := Z207.out; have z17 := Z218.out; have z18 := Z238.out; have z19 := Z246.out; have z20 := Z250.out; omega)))
  have B260 := Lib.hid (B252.out.away hI (by first | exact .inl (by have z0 := Z1.out; have z1 := Z103.out; have z2 := Z107.out; have z3 := Z112.out; have z4 := Zb115.out; have z5 := Z117.out; have z6 := Z123.out; have z7 := Zb128.out; have z8 := Z130.out; have z9 := Z137.out; have z10 := Z146.out; have z11 := Zb154.out; have z12 := Z156.out; have z13 := Z168.out; have z14 := Z181.out; have z15 := Z194.out; have z16 := Z207.out; have z17 := Z218.out; have z18 := Z238.out; have z19 := Z246.out; have z20 := Z250.out; omega) | exact .inr (by have z0 := Z1.out; have z1 := Z103.out; have z2 := Z107.out; have z3 := Z112.out; have z4 := Zb115.out; have z5 := Z117.out; have z6 := Z123.out; have z7 := Zb128.out; have z8 := Z130.out; have z9 := Z137.out; have z10 := Z146.out; have z11 := Zb154.out; have z12 := Z156.out; have z13 := Z168.out; have z14 := Z181.out; have z15 := Z194.out; have z16 := Z207.out; have z17 := Z218.out; have z18 := Z238.out; have z19 := Z246.out; have z20 := Z250.out; omega)))
  have B261 := Lib.hid (B253.out.away hI (by first | exact .inl (by have z0 := Z1.out; have z1 := Z103.out; have z2 := Z107.out; have z3 := Z112.out; have z4 := Zb115.out; have z5 := Z117.out; have z6 := Z123.out; have z7 := Zb128.out; have z8 := Z130.out; have z9 := Z137.out; have z10 := Z146.out; have z11 := Zb154.out; have z12 := Z156.out; have z13 := Z168.out; have z14 := Z181.out; have z15 := Z194.out; have z16 := Z207.out; have z17 := Z218.out; have z18 := Z238.out; have z19 := Z246.out; have z20 := Z250.out; omega) | exact .inr (by have z0 := Z1.out; have z1 := Z103.out; have z2 := Z107.out; have z3 := Z112.out; have z4 := Zb115.out; have z5 := Z117.out; have z6 := Z123.out; have z7 := Zb128.out; have z8 := Z130.out; have z9 := Z137.out; have z10 := Z146.out; have z11 := Zb154.out; have z12 := Z156.out; have z13 := Z168.out; have z14 := Z181.out; have z15 := Z194.out; have z16 := Z207.out; have z17 := Z218.out; have z18 := Z238.out; have z19 := Z246.out; have z20 := Z250.out; omega)))
  have B262 := Lib.hid (B254.out.away hI (by first | exact .inl (by have z0 := Z1.out; have z1 := Z103.out; have z2 := Z107.out; have z3 := Z112.out; have z4 := Zb115.out; have z5 := Z117.out; have z6 := Z123.out; have z7 := Zb128.out; have z8 := Z130.out; have z9 := Z137.out; have z10 := Z146.out; have z11 := Zb154.out; have z12 := Z156.out; have z13 := Z168.out; have z14 := Z181.out; have z15 := Z194.out; have z16 := Z207.out; have z17 := Z218.out; have z18 := Z238.out; have z19 := Z246.out; have z20 := Z250.out; omega) | exact .inr (by have z0 := Z1.out; have z1 := Z103.out; have z2 := Z107.out; have z3 := Z112.out; have z4 := Zb115.out; have z5 := Z117.out; have z6 := Z123.out; have z7 := Zb128.out; have z8 := Z130.out; have z9 := Z137.out; have z10 := Z146.out; have z11 := Zb154.out; have z12 := Z156.out; have z13 := Z168.out; have z14 := Z181.out; have z15 := Z194.out; have z16 := Z207.out; have z17 := Z218.out; have z18 := Z238.out; have z19 := Z246.out; have z20 := Z250.out; omega)))
  have T263 := Lib.hid (T255.out.apart hI (by first | exact .inl (by have z0 := Z1.out; have z1 := Z103.out; have z2 := Z107.out; have z3 := Z112.out; have z4 := Zb115.out; have z5 := Z117.out; have z6 := Z123.out; have z7 := Zb128.out; have z8 := Z130.out; have z9 := Z137.out; have z10 := Z146.out; have z11 := Zb154.out; have z12 := Z156.out; have z13 := Z168.out; have z14 := Z181.out; have z15 := Z194.out; have z16 := Z207.out; have z17 := Z218.out; have z18 := Z238.out; have z19 := Z246.out; have z20 := Z250.out; omega) | exact .inr (by have z0 := Z1.out; have z1 := Z103.out; have z2 := Z107.out; have z3 := Z112.out; have z4 := Zb115.out; have z5 := Z117.out; have z6 := Z123.out; have z7 := Zb128.out; have z8 := Z130.out; have z9 := Z137.out; have z10 := Z146.out; have z11 := Zb154.out; have z12 := Z156.out; have z13 := Z168.out; have z14 := Z181.out; have z15 := Z194.out; have z16 := Z207.out; have z17 := Z218.out; have z18 := Z238.out; have z19 := Z246.out; have z20 := Z250.out; omega)))
  have H264 := Lib.hid (hI.below (by have z0 := Z1.out; have z1 := Z103.out; have z2 := Z107.out; have z3 := Z112.out; have z4 := Zb115.out; have z5 := Z117.out; have z6 := Z123.out; have z7 := Zb128.out; have z8 := Z130.out; have z9 := Z137.out; have z10 := Z146.out; have z11 := Zb154.out; have z12 := Z156.out; have z13 := Z168.out; have z14 := Z181.out; have z15 := Z194.out; have z16 := Z207.out; have z17 := Z218.out; have z18 := Z238.out; have z19 := Z246.out; have z20 := Z250.out; omega) H257.out H257.out.size)
  have Z265 := Lib.hid (show w16.heap.size ≤ w17.heap.size from hI.size)
  have HHG := Lib.hid hHd
  clear hI hHd
  obtain ⟨bf266, bg266, bh266, bz266⟩ := B262.out
  go_wp2_with fail
  go_at_call 19
  refine (heldType_any T cT _ _ _ _ _ 1 _ HHG.out hK).mono ?_
  rintro e w18 ⟨rfl, hb⟩
  rw [HKK.out]
  have Z268 := Lib.hid (show w17.heap.size ≤ w18.heap.size from hb.size)
  have B269 := Lib.hid (B259.out.kept hb)
  have B270 := Lib.hid (B260.out.kept hb)
  have B271 := Lib.hid (B261.out.kept hb)
  have B272 := Lib.hid (B262.out.kept hb)
  have T273 := Lib.hid (T263.out.kept hb)
  have T274 := Lib.hid (HHG.out.kept hb)
  have H275 := Lib.hid (H264.out.trans (hb.mono H264.out.size))
  clear bf266 bg266 bh266 bz266
  clear hb
  obtain ⟨bf276, bg276, bh276, bz276⟩ := B269.out
  go_wp2_with fail
  go_at_call 11
  refine (toType_any _ t c _ _ (Nat.lt_succ_self _) HC.out hcm (HX.out.kept H275.out)).mono ?_
  rintro e w19 ⟨v19, rfl, ht19, hb⟩
  obtain ⟨a19, k19, rfl, _⟩ := ht19.at.slice
  have T19 := Lib.hid ht19
  clear ht19
  have Z278 := Lib.hid (show w18.heap.size ≤ w19.heap.size from hb.size)
  have B279 := Lib.hid (B269.out.kept hb)
  have B280 := Lib.hid (B270.out.kept hb)
  have B281 := Lib.hid (B271.out.kept hb)
  have B282 := Lib.hid (B272.out.kept hb)
  have T283 := Lib.hid (T273.out.kept hb)
  have T284 := Lib.hid (T274.out.kept hb)
  have H285 := Lib.hid (H275.out.trans (hb.mono H275.out.size))
  clear bf276 bg276 bh276 bz276
  clear hb
  go_wp2_with fail
  go_at_call 27
  refine (toTypeS_any ls cl _ _ HCL.out hclm (HL.out.kept H285.out)).mono ?_
  rintro e w20 ⟨v20, rfl, ht20, hb⟩
  obtain ⟨a20, k20, rfl, _⟩ := ht20.at.slice
  have T20 := Lib.hid ht20
  clear ht20
  have Z287 := Lib.hid (show w19.heap.size ≤ w20.heap.size from hb.size)
  have B288 := Lib.hid (B279.out.kept hb)
  have B289 := Lib.hid (B280.out.kept hb)
  have B290 := Lib.hid (B281.out.kept hb)
  have B291 := Lib.hid (B282.out.kept hb)
  have T292 := Lib.hid (T283.out.kept hb)
  have T293 := Lib.hid (T19.out.kept hb)
  have T294 := Lib.hid (T284.out.kept hb)
  have H295 := Lib.hid (H285.out.trans (hb.mono H285.out.size))
  clear hb
  go_wp2_with fail
  go_at_call 28
  refine (substVars_impl t ls _ _ _ T293.out.at T20.out.at r HRR.out).mono ?_
  intro e w21 hret
  obtain ⟨v21, rfl, hty21, hb⟩ := HF.out _ _ _ hret
  obtain ⟨a21, k21, rfl, _⟩ := hty21.at.slice
  have T21 := Lib.hid hty21
  have Z297 := Lib.hid (show w20.heap.size ≤ w21.heap.size from hb.size)
  have B298 := Lib.hid (B288.out.kept hb)
  have B299 := Lib.hid (B289.out.kept hb)
  have B300 := Lib.hid (B290.out.kept hb)
  have B301 := Lib.hid (B291.out.kept hb)
  have T302 := Lib.hid (T292.out.kept hb)
  have T303 := Lib.hid (T294.out.kept hb)
  have H304 := Lib.hid (H295.out.trans (hb.mono H295.out.size))
  clear hb hret hty21
  obtain ⟨W21, hW305⟩ : ∃ W, w21.alloc (.cells #[.int .i64 T.k, .int .i64 T.n, .slice a21 T.ks.length k21] 29) = W := ⟨_, rfl⟩
  have hA305 : Below w21.heap.size w21 W21 := by rw [← hW305]; exact (Below.refl _ _).alloc (Nat.le_refl _) _
  have hZ305 : W21.heap.size = w21.heap.size + 1 := by rw [← hW305]; simp
  have B305n : Hid (TBox W21 w21.heap.size (.int .i64 T.k) (.int .i64 T.n) (.slice a21 T.ks.length k21)) := Lib.hid (by rw [← hW305]; exact tbox_new w21 _ _ _ _)
  have Zb305 := Lib.hid hZ305
  have Z307 := Lib.hid (show w21.heap.size ≤ W21.heap.size from hA305.size)
  have B308 := Lib.hid (B298.out.kept hA305)
  have B309 := Lib.hid (B299.out.kept hA305)
  have B310 := Lib.hid (B300.out.kept hA305)
  have B311 := Lib.hid (B301.out.kept hA305)
  have T312 := Lib.hid (T302.out.kept hA305)
  have T313 := Lib.hid (T21.out.kept hA305)
  have T314 := Lib.hid (T303.out.kept hA305)
  have H315 := Lib.hid (H304.out.trans (hA305.mono H304.out.size))
  clear hA305 hZ305
  obtain ⟨bf316, bg316, bh316, bz316⟩ := B309.out
  obtain ⟨bf317, bg317, bh317, bz317⟩ := B305n.out
  go_wp2_with fail
  clear hW305
  go_at_call 13
  refine (eqType_any _ T cT _ _ _ (Nat.lt_succ_self _) HCT.out hcTm T313.out.at T312.out.at).mono ?_
  rintro e w22 ⟨rfl, hb⟩
  have Z319 := Lib.hid (show W21.heap.size ≤ w22.heap.size from hb.size)
  have B320 := Lib.hid (B308.out.kept hb)
  have B321 := Lib.hid (B309.out.kept hb)
  have B322 := Lib.hid (B310.out.kept hb)
  have B323 := Lib.hid (B311.out.kept hb)
  have B324 := Lib.hid (B305n.out.kept hb)
  have T325 := Lib.hid (T312.out.kept hb)
  have T326 := Lib.hid (T313.out.kept hb)
  have T327 := Lib.hid (T314.out.kept hb)
  have H328 := Lib.hid (H315.out.trans (hb.mono H315.out.size))
  clear bf316 bg316 bh316 bz316 bf317 bg317 bh317 bz317
  clear hb
  obtain ⟨bf329, bg329, bh329, bz329⟩ := B323.out
  go_wp2_with fail
  go_at_call 19
  refine (heldType_any T cT _ _ _ _ _ 1 _ T327.out hK).mono ?_
  rintro e w23 ⟨rfl, hb⟩
  rw [HKK.out]
  have Z331 := Lib.hid (show w22.heap.size ≤ w23.heap.size from hb.size)
  have B332 := Lib.hid (B320.out.kept hb)
  have B333 := Lib.hid (B321.out.kept hb)
  have B334 := Lib.hid (B322.out.kept hb)
  have B335 := Lib.hid (B323.out.kept hb)
  have B336 := Lib.hid (B324.out.kept hb)
  have T337 := Lib.hid (T325.out.kept hb)
  have T338 := Lib.hid (T326.out.kept hb)
  have T339 := Lib.hid (T327.out.kept hb)
  have H340 := Lib.hid (H328.out.trans (hb.mono H328.out.size))
  clear bf329 bg329 bh329 bz329
  clear hb
  go_wp2_with fail
  go_ret
  exact ⟨rfl, H340.out⟩

set_option maxRecDepth 100000 in
theorem lifted (os : Os) (started : os.Started) (H : Type) (enc : TypeId × Value → H) :
    ReturnsInHanded {} Try.checked os 7 .any (Rows.fnExactSubstVarsSpec.pre6 enc Try.prog Try.f7 Rows.fnExactSubstVarsRow.domain false) (Rows.fnExactSubstVarsSpec.post enc Try.prog Try.f7 false true false false) := by
  refine returnsInHanded_of_change (C := Try.checked) own started (by kernel_rfl) Try.func7
    (ChangeSpec.witness6 (enc := enc) (C := Try.checked) false ⟨#[], #[.agg #[.int .i64 0, .int .i64 0, .slice none 0 0], .slice none 0 0], []⟩ 8 (by kernel_rfl) (by kernel_rfl) (by kernel_rfl) (by kernel_rfl)) ?_
  intro W base args ds gs before hval0 hW hcnd _
  have hval : ∀ (j : Nat) t v, Try.f7.params[j]? = some t → args[j]? = some v → Value.okWide Try.prog W .any base t v := hval0
  have hW' := hW
  obtain ⟨p, q, hA0, hV, rfl, hfz, hnd⟩ := hW
  have hA : DataW.TrodAll enc Try.prog W 0 (fun _ => true) true Try.f7.params.toList args.toList ds p := hA0
  rw [Try.params7] at hA hval
  obtain ⟨v0, vs0, d0, ds0, p0, q0, hargs, rfl, rfl, h0, r0⟩ := trodAll_cons hA
  obtain ⟨v1, vs1, d1, ds1, p1, q1, rfl, rfl, rfl, h1, r1⟩ := trodAll_cons r0
  obtain ⟨rfl, rfl, rfl⟩ := trodAll_nil r1
  obtain rfl : args = #[v0, v1] := by cases args; simp_all
  obtain ⟨rfl, rfl⟩ := trodVars_none hV
  have k0 := h0
  have lt0 : ∀ x ∈ p0, x.block < W.heap.size := by obtain ⟨m, hm⟩ := k0; exact DataW.trod_lt m _ _ _ hm
  have k1 := h1
  have lt1 : ∀ x ∈ p1, x.block < W.heap.size := by obtain ⟨m, hm⟩ := k1; exact DataW.trod_lt m _ _ _ hm
  obtain ⟨cs0, rfl, _⟩ := okWide_struct Try.underlying24 (hval 0 24 v0 rfl rfl)
  obtain ⟨u0, z0, w0, hz0⟩ : ∃ (t : Ty) (v : Value), cs0 = #[.int .i64 t.k, .int .i64 t.n, v] ∧ TyAt W t v := by
    obtain ⟨fuel, hf⟩ := h0
    obtain ⟨t, v, hcs, hat⟩ := ty_of_trod fuel _ _ hf
    exact ⟨t, v, Array.toList_inj.1 hcs, hat⟩
  subst w0
  obtain ⟨a1, len1, cap1, rfl⟩ := okWide_slice Try.underlying22 (hval 1 22 v1 rfl rfl)
  obtain ⟨u1, hz1⟩ : ∃ (ls : List Ty), TyAt W (.node 0 0 ls) (.slice a1 len1 cap1) := by
    obtain ⟨fuel, hf⟩ := h1
    obtain ⟨ls, v, hcs, hat⟩ := tys_of_trod fuel _ _ hf
    simp [Value.cells] at hcs
    exact ⟨ls, hcs ▸ hat⟩
  clear hA0 hval0
  refine (walk u0 z0 u1 (.slice a1 len1 cap1) W hz0 hz1).mono fun e W' ⟨he, bel⟩ => ?_
  subst he
  exact ⟨_, rfl, _, _, _, [], _, [], hW', trodAll_mk1 (shut_bool Try.underlying4 _), (trodAll_cons_mk (Below.trod laidOut (by kernel_rfl) (of_decide_eq_true (by kernel_rfl)) k0 bel lt0) (trodAll_cons_mk (Below.trod laidOut (by kernel_rfl) (of_decide_eq_true (by kernel_rfl)) k1 bel lt1) trodAll_mk0)), rfl, bel.frame _, fun h => by cases h⟩

theorem over : Rows.fnExactSubstVarsRow.holds Try.pinned (OpenSpec.ofChange Rows.fnExactSubstVarsSpec) :=
  OpenClaim.holds_of_wide 7 Try.f7 rfl rfl rfl rfl rfl rfl rfl ⟨rfl, rfl, rfl, rfl, rfl⟩ rfl rfl rfl rfl rfl (by kernel_rfl) Try.func7 (by kernel_rfl)
    (of_decide_eq_true (by kernel_rfl)) (by unfold Func.isWrapper; first | (rw [if_pos (by decide +kernel)]; kernel_rfl) | (rw [if_neg (by decide +kernel)]; exact ⟨rfl, rfl⟩))
    (fun os started H enc _ => lifted os started H enc)

/-- The given statement. -/
theorem proved : Rows.FnExactSubstVarsSaid := over
end Go.Proofs.Ytiaoopikmkakbaa.fnExactSubstVars
