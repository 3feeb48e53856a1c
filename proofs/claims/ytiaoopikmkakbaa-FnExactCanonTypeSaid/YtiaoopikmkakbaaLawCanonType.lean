/-
  FnExactCanonType returns true for every type, and it reads as it did: CanonType answers as its model, in memory of its own. No conditions.
-/
import Derived.Test.YtiaoopikmkakbaaRows
import Derived.ProofKit
import Derived.OpenShut
import Derived.ShutString
import Derived.ChangeOld
import Derived.Below
import Derived.Lib.SmallJoins
import Derived.Test.YtiaoopikmkakbaaAl
namespace Go.Proofs.Ytiaoopikmkakbaa.fnExactCanonType
open Go.Proofs.Ytiaoopikmkakbaa
open Go.ChangeShapes Go.WideShapes Go.ChangeAt Go.RowKit Go.Joins
open Go.ChangeMaps (open_string shut_string)
set_option linter.unusedVariables false
set_option linter.unusedSimpArgs false

theorem own : ownKnob Try.prog.godebug = none := by kernel_rfl
theorem laidOut : laidOutB Try.prog = true := by kernel_rfl

set_option maxHeartbeats 16000000 in
theorem walk (t : Ty) (v : Value) (w : World) (hx : TyAt w t v) :
    Calls Try.prog 8 #[.agg #[.int .i64 t.k, .int .i64 t.n, v]] w fun e w' => e = .returned (.bool true) ∧ Below w.heap.size w w' := by
  obtain ⟨c, hc⟩ := cnt_total _ t (Nat.lt_succ_self _)
  have HX := Lib.hid hx
  have HC := Lib.hid hc
  obtain ⟨a, cap, rfl, hlen⟩ := hx.slice
  clear hx hc
  have HA0 : Hid (Below w.heap.size w (w.alloc (.cells #[.int .i64 t.k, .int .i64 t.n, .slice a t.ks.length cap] 24))) := Lib.hid ((Below.refl _ _).alloc (Nat.le_refl _) _)
  have HP0 := Lib.hid (tbox_new w (.int .i64 t.k) (.int .i64 t.n) (.slice a t.ks.length cap) 24)
  by_cases hle : (c : Int) ≤ 1048576
  case neg =>
    have HLE := Lib.hid (leftOf_no hle)
    go_enter Try.func8, Try.ntmps8
    go_wp2_with fail
    go_at_call 9
    refine (szType_any _ t c _ 1048576 _ (Nat.lt_succ_self _) HC.out (HX.out.kept HA0.out) (by omega) (by omega)).mono ?_
    rintro e w1 ⟨rfl, hb1⟩
    rw [HLE.out]
    have H1 := Lib.hid (HA0.out.trans (hb1.mono HA0.out.size))
    clear hb1
    go_wp2_with fail
    go_ret
    exact ⟨rfl, H1.out⟩
  have hcm : c ≤ 1048576 := by omega
  have HLE := Lib.hid (leftOf_yes hle)
  obtain ⟨left, hleft⟩ : ∃ left : Int, 1048576 - (c : Int) = left := ⟨_, rfl⟩
  rw [hleft] at HLE
  have hln : ¬ left < 0 := by omega
  obtain ⟨r, hr⟩ : ∃ r, cnT t = r := ⟨_, rfl⟩
  obtain ⟨cT, hcT, hcT62⟩ := canT_cnt t
  rw [hr] at hcT
  have HRR := Lib.hid hr
  obtain ⟨T, hT⟩ : ∃ T, optT r = T := ⟨_, rfl⟩
  obtain ⟨b, hb⟩ : ∃ b, r.isSome = b := ⟨_, rfl⟩
  rw [hT] at hcT
  have HCT := Lib.hid hcT
  have HF : Hid (∀ (w : World) (e : Ending) (w' : World), OptRet r w e w' → ∃ v, e = .returned (.tuple #[.agg #[.int .i64 T.k, .int .i64 T.n, v], .bool b]) ∧ TyIn w' w.heap.size w'.heap.size T v ∧ Below w.heap.size w w') := Lib.hid (by rw [← hT, ← hb]; exact fun w e w' h => h.flat)
  have hbb := bne_same b
  have hcTm : cT ≤ 1048576 := by omega
  have hK : 1 + 2 * cT ≤ 100000000 := by omega
  have hK1 : 1 + 2 * c ≤ 100000000 := by omega
  obtain ⟨KK, hKK⟩ : ∃ KK : Int, ((1 + 2 * cT : Nat) : Int) = KK := ⟨_, rfl⟩
  have hkn : ¬ KK < 0 := by omega
  have HKK := Lib.hid hKK
  obtain ⟨K1, hK1e⟩ : ∃ K1 : Int, ((1 + 2 * c : Nat) : Int) = K1 := ⟨_, rfl⟩
  have hk1n : ¬ K1 < 0 := by omega
  have HK1 := Lib.hid hK1e
  clear hle hleft hT hb hcT hr hKK hK1e
  go_enter Try.func8, Try.ntmps8
  go_wp2_with fail
  go_at_call 9
  refine (szType_any _ t c _ 1048576 _ (Nat.lt_succ_self _) HC.out (HX.out.kept HA0.out) (by omega) (by omega)).mono ?_
  rintro e w2 ⟨rfl, hb2⟩
  rw [HLE.out]
  have HP2 := Lib.hid (HP0.out.kept hb2)
  have H2 := Lib.hid (HA0.out.trans (hb2.mono HA0.out.size))
  clear hb2
  have Z1 := Lib.hid (show w.heap.size + 1 ≤ w2.heap.size from HP2.out.sz)
  obtain ⟨bf101, bg101, bh101, bz101⟩ := HP2.out
  go_wp2_with fail
  go_at_call 11
  refine (toType_any _ t c _ _ (Nat.lt_succ_self _) HC.out hcm (HX.out.kept H2.out)).mono ?_
  rintro e w3 ⟨vA, rfl, htA, hb⟩
  obtain ⟨aA, kA, rfl, _⟩ := htA.at.slice
  have TA := Lib.hid htA
  clear htA
  have Z103 := Lib.hid (show w2.heap.size ≤ w3.heap.size from hb.size)
  have B104 := Lib.hid (HP2.out.kept hb)
  have H105 := Lib.hid (H2.out.trans (hb.mono H2.out.size))
  clear bf101 bg101 bh101 bz101
  clear hb
  go_wp2_with fail
  go_at_call 31
  refine (canonType_spec t _ _ TA.out.at r HRR.out).mono ?_
  intro e w5 hret
  obtain ⟨v5, rfl, hty5, hb⟩ := HF.out _ _ _ hret
  obtain ⟨a5, k5, rfl, _⟩ := hty5.at.slice
  have T5 := Lib.hid hty5
  have Z107 := Lib.hid (show w3.heap.size ≤ w5.heap.size from hb.size)
  have B108 := Lib.hid (B104.out.kept hb)
  have H109 := Lib.hid (H105.out.trans (hb.mono H105.out.size))
  clear hb hret hty5
  obtain ⟨W5, hW110⟩ : ∃ W, w5.alloc (.cells #[.int .i64 T.k, .int .i64 T.n, .slice a5 T.ks.length k5] 29) = W := ⟨_, rfl⟩
  have hA110 : Below w5.heap.size w5 W5 := by rw [← hW110]; exact (Below.refl _ _).alloc (Nat.le_refl _) _
  have hZ110 : W5.heap.size = w5.heap.size + 1 := by rw [← hW110]; simp
  have B110n : Hid (TBox W5 w5.heap.size (.int .i64 T.k) (.int .i64 T.n) (.slice a5 T.ks.length k5)) := Lib.hid (by rw [← hW110]; exact tbox_new w5 _ _ _ _)
  have Zb110 := Lib.hid hZ110
  have Z112 := Lib.hid (show w5.heap.size ≤ W5.heap.size from hA110.size)
  have B113 := Lib.hid (B108.out.kept hA110)
  have T114 := Lib.hid (T5.out.kept hA110)
  have H115 := Lib.hid (H109.out.trans (hA110.mono H109.out.size))
  clear hA110 hZ110
  obtain ⟨bf116, bg116, bh116, bz116⟩ := B113.out
  go_wp2_with fail
  clear hW110
  go_at_call 11
  refine (toType_any _ t c _ _ (Nat.lt_succ_self _) HC.out hcm (HX.out.kept H115.out)).mono ?_
  rintro e w6 ⟨v6, rfl, ht6, hb⟩
  obtain ⟨a6, k6, rfl, _⟩ := ht6.at.slice
  have T6 := Lib.hid ht6
  clear ht6
  have Z118 := Lib.hid (show W5.heap.size ≤ w6.heap.size from hb.size)
  have B119 := Lib.hid (B113.out.kept hb)
  have B120 := Lib.hid (B110n.out.kept hb)
  have T121 := Lib.hid (T114.out.kept hb)
  have H122 := Lib.hid (H115.out.trans (hb.mono H115.out.size))
  clear bf116 bg116 bh116 bz116
  clear hb
  obtain ⟨W6, hW123⟩ : ∃ W, w6.alloc (.cells #[.int .i64 t.k, .int .i64 t.n, .slice a6 t.ks.length k6] 29) = W := ⟨_, rfl⟩
  have hA123 : Below w6.heap.size w6 W6 := by rw [← hW123]; exact (Below.refl _ _).alloc (Nat.le_refl _) _
  have hZ123 : W6.heap.size = w6.heap.size + 1 := by rw [← hW123]; simp
  have B123n : Hid (TBox W6 w6.heap.size (.int .i64 t.k) (.int .i64 t.n) (.slice a6 t.ks.length k6)) := Lib.hid (by rw [← hW123]; exact tbox_new w6 _ _ _ _)
  have Zb123 := Lib.hid hZ123
  have Z125 := Lib.hid (show w6.heap.size ≤ W6.heap.size from hA123.size)
  have B126 := Lib.hid (B119.out.kept hA123)
  have B127 := Lib.hid (B120.out.kept hA123)
  have T128 := Lib.hid (T121.out.kept hA123)
  have T129 := Lib.hid (T6.out.kept hA123)
  have H130 := Lib.hid (H122.out.trans (hA123.mono H122.out.size))
  clear hA123 hZ123
  obtain ⟨bf131, bg131, bh131, bz131⟩ := B123n.out
  go_wp2_with fail
  clear hW123
  go_at_call 32
  refine (canonType_impl t _ _ T129.out.at r HRR.out).mono ?_
  intro e w8 hret
  obtain ⟨v8, rfl, hty8, hb⟩ := HF.out _ _ _ hret
  obtain ⟨a8, k8, rfl, _⟩ := hty8.at.slice
  have T8 := Lib.hid hty8
  clear bf131 bg131 bh131 bz131
  have Z133 := Lib.hid (show W6.heap.size ≤ w8.heap.size from hb.size)
  have B134 := Lib.hid (B126.out.kept hb)
  have B135 := Lib.hid (B127.out.kept hb)
  have B136 := Lib.hid (B123n.out.kept hb)
  have T137 := Lib.hid (T128.out.kept hb)
  have T138 := Lib.hid (T129.out.kept hb)
  have H139 := Lib.hid (H130.out.trans (hb.mono H130.out.size))
  clear hb hret hty8
  obtain ⟨W8, hW140⟩ : ∃ W, w8.alloc (.cells #[.int .i64 T.k, .int .i64 T.n, .slice a8 T.ks.length k8] 29) = W := ⟨_, rfl⟩
  have hA140 : Below w8.heap.size w8 W8 := by rw [← hW140]; exact (Below.refl _ _).alloc (Nat.le_refl _) _
  have hZ140 : W8.heap.size = w8.heap.size + 1 := by rw [← hW140]; simp
  have B140n : Hid (TBox W8 w8.heap.size (.int .i64 T.k) (.int .i64 T.n) (.slice a8 T.ks.length k8)) := Lib.hid (by rw [← hW140]; exact tbox_new w8 _ _ _ _)
  have Zb140 := Lib.hid hZ140
  have Z142 := Lib.hid (show w8.heap.size ≤ W8.heap.size from hA140.size)
  have B143 := Lib.hid (B134.out.kept hA140)
  have B144 := Lib.hid (B135.out.kept hA140)
  have B145 := Lib.hid (B136.out.kept hA140)
  have T146 := Lib.hid (T137.out.kept hA140)
  have T147 := Lib.hid (T138.out.kept hA140)
  have T148 := Lib.hid (T8.out.kept hA140)
  have H149 := Lib.hid (H139.out.trans (hA140.mono H139.out.size))
  clear hA140 hZ140
  obtain ⟨bf150, bg150, bh150, bz150⟩ := B144.out
  obtain ⟨bf151, bg151, bh151, bz151⟩ := B140n.out
  go_wp2_with fail
  clear hW140
  go_at_call 13
  refine (eqType_any _ T cT _ _ _ (Nat.lt_succ_self _) HCT.out hcTm T148.out.at T146.out.at).mono ?_
  rintro e w9 ⟨rfl, hb⟩
  have Z153 := Lib.hid (show W8.heap.size ≤ w9.heap.size from hb.size)
  have B154 := Lib.hid (B143.out.kept hb)
  have B155 := Lib.hid (B144.out.kept hb)
  have B156 := Lib.hid (B145.out.kept hb)
  have B157 := Lib.hid (B140n.out.kept hb)
  have T158 := Lib.hid (T146.out.kept hb)
  have T159 := Lib.hid (T147.out.kept hb)
  have T160 := Lib.hid (T148.out.kept hb)
  have H161 := Lib.hid (H149.out.trans (hb.mono H149.out.size))
  clear bf150 bg150 bh150 bz150 bf151 bg151 bh151 bz151
  clear hb
  obtain ⟨bf162, bg162, bh162, bz162⟩ := B154.out
  obtain ⟨bf163, bg163, bh163, bz163⟩ := B156.out
  go_wp2_with fail
  go_region_held3 (fun w' => w'.cell? ⟨w6.heap.size, 0, none⟩ = some (.int .i64 t.k) ∧ w'.cell? ⟨w6.heap.size, 1, none⟩ = some (.int .i64 t.n) ∧ w'.cell? ⟨w6.heap.size, 2, none⟩ = some (.slice a6 t.ks.length k6) ∧ w'.cell? ⟨w.heap.size, 0, none⟩ = some (.int .i64 t.k) ∧ w'.cell? ⟨w.heap.size, 1, none⟩ = some (.int .i64 t.n) ∧ w'.cell? ⟨w.heap.size, 2, none⟩ = some (.slice a t.ks.length cap)) (go_keep)
    (first
      | (go_at_call 11; refine (toType_any _ t c _ _ (Nat.lt_succ_self _) HC.out hcm (HX.out.kept (by first | exact H161.out | exact H161.out.drew))).mono ?_; rintro e w10 ⟨vc1, rfl, htc1, hbc1⟩; obtain ⟨ac1, kc1, rfl, _⟩ := htc1.at.slice; have hbd : Below w9.heap.size w9 w10 := Below.trans (B := w9.heap.size) (by first | exact Below.refl _ _ | exact (Below.refl _ _).drew) hbc1; have TC1 := Lib.hid htc1.at; have Z165 := Lib.hid (show w9.heap.size ≤ w10.heap.size from hbd.size); have B166 := Lib.hid (B154.out.kept hbd); have B167 := Lib.hid (B155.out.kept hbd); have B168 := Lib.hid (B156.out.kept hbd); have B169 := Lib.hid (B157.out.kept hbd); have T170 := Lib.hid (T158.out.kept hbd); have T171 := Lib.hid (T159.out.kept hbd); have T172 := Lib.hid (T160.out.kept hbd); have H173 := Lib.hid (H161.out.trans (hbd.mono H161.out.size)); obtain ⟨bf174, bg174, bh174, bz174⟩ := B168.out; obtain ⟨bf175, bg175, bh175, bz175⟩ := B166.out; clear hbc1 hbd htc1)
      | (go_at_call 13; refine (eqType_any _ t c _ _ _ (Nat.lt_succ_self _) HC.out hcm (by first | exact T171.out.at | exact T171.out.at.kept (Below.refl _ _).drew) (by first | exact TC1.out | exact TC1.out.kept (Below.refl _ _).drew)).mono ?_; rintro e w11 ⟨rfl, hbc2⟩; have hbd : Below w10.heap.size w10 w11 := Below.trans (B := w10.heap.size) (by first | exact Below.refl _ _ | exact (Below.refl _ _).drew) hbc2; have Z177 := Lib.hid (show w10.heap.size ≤ w11.heap.size from hbd.size); have B178 := Lib.hid (B166.out.kept hbd); have B179 := Lib.hid (B167.out.kept hbd); have B180 := Lib.hid (B168.out.kept hbd); have B181 := Lib.hid (B169.out.kept hbd); have T182 := Lib.hid (T170.out.kept hbd); have T183 := Lib.hid (T171.out.kept hbd); have T184 := Lib.hid (T172.out.kept hbd); have H185 := Lib.hid (H173.out.trans (hbd.mono H173.out.size)); obtain ⟨bf186, bg186, bh186, bz186⟩ := B180.out; obtain ⟨bf187, bg187, bh187, bz187⟩ := B178.out; clear hbc2 hbd))
  obtain ⟨bf188, bg188, bh188, bz188⟩ := B180.out
  go_wp2_with fail
  go_at_call 18
  refine (markType_any t c _ _ _ 1 _ HC.out T183.out hK1).mono ?_
  rintro e w14 ⟨rfl, hI⟩
  rw [HK1.out]
  clear bf162 bg162 bh162 bz162 bf163 bg163 bh163 bz163 bf174 bg174 bh174 bz174 bf175 bg175 bh175 bz175 bf186 bg186 bh186 bz186 bf187 bg187 bh187 bz187 bf188 bg188 bh188 bz188
  have B189 := Lib.hid (B178.out.away hI (by first | exact .inl (by have z0 := Z1.out; have z1 := Z103.out; have z2 := Z107.out; have z3 := Zb110.out; have z4 := Z112.out; have z5 := Z118.out; have z6 := Zb123.out; have z7 := Z125.out; have z8 := Z133.out; have z9 := Zb140.out; have z10 := Z142.out; have z11 := Z153.out; have z12 := Z165.out; have z13 := Z177.out; omega) | exact .inr (by have z0 := Z1.out; have z1 := Z103.out; have z2 := Z107.out; have z3 := Zb110.out; have z4 := Z112.out; have z5 := Z118.out; have z6 := Zb123.out; have z7 := Z125.out; have z8 := Z133.out; have z9 := Zb140.out; have z10 := Z142.out; have z11 := Z153.out; have z12 := Z165.out; have z13 := Z177.out; omega)))
  have B190 := Lib.hid (B179.out.away hI (by first | exact .inl (by have z0 := Z1.out; have z1 := Z103.out; have z2 := Z107.out; have z3 := Zb110.out; have z4 := Z112.out; have z5 := Z118.out; have z6 := Zb123.out; have z7 := Z125.out; have z8 := Z133.out; have z9 := Zb140.out; have z10 := Z142.out; have z11 := Z153.out; have z12 := Z165.out; have z13 := Z177.out; omega) | exact .inr (by have z0 := Z1.out; have z1 := Z103.out; have z2 := Z107.out; have z3 := Zb110.out; have z4 := Z112.out; have z5 := Z118.out; have z6 := Zb123.out; have z7 := Z125.out; have z8 := Z133.out; have z9 := Zb140.out; have z10 := Z142.out; have z11 := Z153.out; have z12 := Z165.out; have z13 := Z177.out; omega)))
  have B191 := Lib.hid (B180.out.away hI (by first | exact .inl (by have z0 := Z1.out; have z1 := Z103.out; have z2 := Z107.out; have z3 := Zb110.out; have z4 := Z112.out; have z5 := Z118.out; have z6 := Zb123.out; have z7 := Z125.out; have z8 := Z133.out; have z9 := Zb140.out; have z10 := Z142.out; have z11 := Z153.out; have z12 := Z165.out; have z13 := Z177.out; omega) | exact .inr (by have z0 := Z1.out; have z1 := Z103.out; have z2 := Z107.out; have z3 := Zb110.out; have z4 := Z112.out; have z5 := Z118.out; have z6 := Zb123.out; have z7 := Z125.out; have z8 := Z133.out; have z9 := Zb140.out; have z10 := Z142.out; have z11 := Z153.out; have z12 := Z165.out; have z13 := Z177.out; omega)))
  have B192 := Lib.hid (B181.out.away hI (by first | exact .inl (by have z0 := Z1.out; have z1 := Z103.out; have z2 := Z107.out; have z3 := Zb110.out; have z4 := Z112.out; have z5 := Z118.out; have z6 := Zb123.out; have z7 := Z125.out; have z8 := Z133.out; have z9 := Zb140.out; have z10 := Z142.out; have z11 := Z153.out; have z12 := Z165.out; have z13 := Z177.out; omega) | exact .inr (by have z0 := Z1.out; have z1 := Z103.out; have z2 := Z107.out; have z3 := Zb110.out; have z4 := Z112.out; have z5 := Z118.out; have z6 := Zb123.out; have z7 := Z125.out; have z8 := Z133.out; have z9 := Zb140.out; have z10 := Z142.out; have z11 := Z153.out; have z12 := Z165.out; have z13 := Z177.out; omega)))
  have T193 := Lib.hid (T182.out.apart hI (by first | exact .inl (by have z0 := Z1.out; have z1 := Z103.out; have z2 := Z107.out; have z3 := Zb110.out; have z4 := Z112.out; have z5 := Z118.out; have z6 := Zb123.out; have z7 := Z125.out; have z8 := Z133.out; have z9 := Zb140.out; have z10 := Z142.out; have z11 := Z153.out; have z12 := Z165.out; have z13 := Z177.out; omega) | exact .inr (by have z0 := Z1.out; have z1 := Z103.out; have z2 := Z107.out; have z3 := Zb110.out; have z4 := Z112.out; have z5 := Z118.out; have z6 := Zb123.out; have z7 := Z125.out; have z8 := Z133.out; have z9 := Zb140.out; have z10 := Z142.out; have z11 := Z153.out; have z12 := Z165.out; have z13 := Z177.out; omega)))
  have T194 := Lib.hid (T184.out.apart hI (by first | exact .inl (by have z0 := Z1.out; have z1 := Z103.out; have z2 := Z107.out; have z3 := Zb110.out; have z4 := Z112.out; have z5 := Z118.out; have z6 := Zb123.out; have z7 := Z125.out; have z8 := Z133.out; have z9 := Zb140.out; have z10 := Z142.out; have z11 := Z153.out; have z12 := Z165.out; have z13 := Z177.out; omega) | exact .inr (by have z0 := Z1.out; have z1 := Z103.out; have z2 := Z107.out; have z3 := Zb110.out; have z4 := Z112.out; have z5 := Z118.out; have z6 := Zb123.out; have z7 := Z125.out; have z8 := Z133.out; have z9 := Zb140.out; have z10 := Z142.out; have z11 := Z153.out; have z12 := Z165.out; have z13 := Z177.out; omega)))
  have H195 := Lib.hid (hI.below (by have z0 := Z1.out; have z1 := Z103.out; have z2 := Z107.out; have z3 := Zb110.out; have z4 := Z112.out; have z5 := Z118.out; have z6 := Zb123.out; have z7 := Z125.out; have z8 := Z133.out; have z9 := Zb140.out; have z10 := Z142.out; have z11 := Z153.out; have z12 := Z165.out; have z13 := Z177.out; omega) H185.out H185.out.size)
  have Z196 := Lib.hid (show w11.heap.size ≤ w14.heap.size from hI.size)
  clear hI
  obtain ⟨bf197, bg197, bh197, bz197⟩ := B190.out
  obtain ⟨bf198, bg198, bh198, bz198⟩ := B192.out
  go_wp2_with fail
  go_at_call 13
  refine (eqType_any _ T cT _ _ _ (Nat.lt_succ_self _) HCT.out hcTm T194.out.at T193.out.at).mono ?_
  rintro e w16 ⟨rfl, hb⟩
  have Z200 := Lib.hid (show w14.heap.size ≤ w16.heap.size from hb.size)
  have B201 := Lib.hid (B189.out.kept hb)
  have B202 := Lib.hid (B190.out.kept hb)
  have B203 := Lib.hid (B191.out.kept hb)
  have B204 := Lib.hid (B192.out.kept hb)
  have T205 := Lib.hid (T193.out.kept hb)
  have T206 := Lib.hid (T194.out.kept hb)
  have H207 := Lib.hid (H195.out.trans (hb.mono H195.out.size))
  clear bf197 bg197 bh197 bz197 bf198 bg198 bh198 bz198
  clear hb
  obtain ⟨bf208, bg208, bh208, bz208⟩ := B204.out
  go_wp2_with fail
  go_at_call 18
  refine (markTypeFull_any T cT _ _ _ 1 _ HCT.out T206.out hK).mono ?_
  rintro e w17 ⟨rfl, hI, hHd⟩
  rw [HKK.out]
  clear bf208 bg208 bh208 bz208
  have B209 := Lib.hid (B201.out.away hI (by first | exact .inl (by have z0 := Z1.out; have z1 := Z103.out; have z2 := Z107.out; have z3 := Zb110.out; have z4 := Z112.out; have z5 := Z118.out; have z6 := Zb123.out; have z7 := Z125.out; have z8 := Z133.out; have z9 := Zb140.out; have z10 := Z142.out; have z11 := Z153.out; have z12 := Z165.out; have z13 := Z177.out; have z14 := Z196.out; have z15 := Z200.out; omega) | exact .inr (by have z0 := Z1.out; have z1 := Z103.out; have z2 := Z107.out; have z3 := Zb110.out; have z4 := Z112.out; have z5 := Z118.out; have z6 := Zb123.out; have z7 := Z125.out; have z8 := Z133.out; have z9 := Zb140.out; have z10 := Z142.out; have z11 := Z153.out; have z12 := Z165.out; have z13 := Z177.out; have z14 := Z196.out; have z15 := Z200.out; omega)))
  have B210 := Lib.hid (B202.out.away hI (by first | exact .inl (by have z0 := Z1.out; have z1 := Z103.out; have z2 := Z107.out; have z3 := Zb110.out; have z4 := Z112.out; have z5 := Z118.out; have z6 := Zb123.out; have z7 := Z125.out; have z8 := Z133.out; have z9 := Zb140.out; have z10 := Z142.out; have z11 := Z153.out; have z12 := Z165.out; have z13 := Z177.out; have z14 := Z196.out; have z15 := Z200.out; omega) | exact .inr (by have z0 := Z1.out; have z1 := Z103.out; have z2 := Z107.out; have z3 := Zb110.out; have z4 := Z112.out; have z5 := Z118.out; have z6 := Zb123.out; have z7 := Z125.out; have z8 := Z133.out; have z9 := Zb140.out; have z10 := Z142.out; have z11 := Z153.out; have z12 := Z165.out; have z13 := Z177.out; have z14 := Z196.out; have z15 := Z200.out; omega)))
  have B211 := Lib.hid (B203.out.away hI (by first | exact .inl (by have z0 := Z1.out; have z1 := Z103.out; have z2 := Z107.out; have z3 := Zb110.out; have z4 := Z112.out; have z5 := Z118.out; have z6 := Zb123.out; have z7 := Z125.out; have z8 := Z133.out; have z9 := Zb140.out; have z10 := Z142.out; have z11 := Z153.out; have z12 := Z165.out; have z13 := Z177.out; have z14 := Z196.out; have z15 := Z200.out; omega) | exact .inr (by have z0 := Z1.out; have z1 := Z103.out; have z2 := Z107.out; have z3 := Zb110.out; have z4 := Z112.out; have z5 := Z118.out; have z6 := Zb123.out; have z7 := Z125.out; have z8 := Z133.out; have z9 := Zb140.out; have z10 := Z142.out; have z11 := Z153.out; have z12 := Z165.out; have z13 := Z177.out; have z14 := Z196.out; have z15 := Z200.out; omega)))
  have B212 := Lib.hid (B204.out.away hI (by first | exact .inl (by have z0 := Z1.out; have z1 := Z103.out; have z2 := Z107.out; have z3 := Zb110.out; have z4 := Z112.out; have z5 := Z118.out; have z6 := Zb123.out; have z7 := Z125.out; have z8 := Z133.out; have z9 := Zb140.out; have z10 := Z142.out; have z11 := Z153.out; have z12 := Z165.out; have z13 := Z177.out; have z14 := Z196.out; have z15 := Z200.out; omega) | exact .inr (by have z0 := Z1.out; have z1 := Z103.out; have z2 := Z107.out; have z3 := Zb110.out; have z4 := Z112.out; have z5 := Z118.out; have z6 := Zb123.out; have z7 := Z125.out; have z8 := Z133.out; have z9 := Zb140.out; have z10 := Z142.out; have z11 := Z153.out; have z12 := Z165.out; have z13 := Z177.out; have z14 := Z196.out; have z15 := Z200.out; omega)))
  have T213 := Lib.hid (T205.out.apart hI (by first | exact .inl (by have z0 := Z1.out; have z1 := Z103.out; have z2 := Z107.out; have z3 := Zb110.out; have z4 := Z112.out; have z5 := Z118.out; have z6 := Zb123.out; have z7 := Z125.out; have z8 := Z133.out; have z9 := Zb140.out; have z10 := Z142.out; have z11 := Z153.out; have z12 := Z165.out; have z13 := Z177.out; have z14 := Z196.out; have z15 := Z200.out; omega) | exact .inr (by have z0 := Z1.out; have z1 := Z103.out; have z2 := Z107.out; have z3 := Zb110.out; have z4 := Z112.out; have z5 := Z118.out; have z6 := Zb123.out; have z7 := Z125.out; have z8 := Z133.out; have z9 := Zb140.out; have z10 := Z142.out; have z11 := Z153.out; have z12 := Z165.out; have z13 := Z177.out; have z14 := Z196.out; have z15 := Z200.out; omega)))
  have H214 := Lib.hid (hI.below (by have z0 := Z1.out; have z1 := Z103.out; have z2 := Z107.out; have z3 := Zb110.out; have z4 := Z112.out; have z5 := Z118.out; have z6 := Zb123.out; have z7 := Z125.out; have z8 := Z133.out; have z9 := Zb140.out; have z10 := Z142.out; have z11 := Z153.out; have z12 := Z165.out; have z13 := Z177.out; have z14 := Z196.out; have z15 := Z200.out; omega) H207.out H207.out.size)
  have Z215 := Lib.hid (show w16.heap.size ≤ w17.heap.size from hI.size)
  have HHG := Lib.hid hHd
  clear hI hHd
  obtain ⟨bf216, bg216, bh216, bz216⟩ := B212.out
  go_wp2_with fail
  go_at_call 19
  refine (heldType_any T cT _ _ _ _ _ 1 _ HHG.out hK).mono ?_
  rintro e w18 ⟨rfl, hb⟩
  rw [HKK.out]
  have Z218 := Lib.hid (show w17.heap.size ≤ w18.heap.size from hb.size)
  have B219 := Lib.hid (B209.out.kept hb)
  have B220 := Lib.hid (B210.out.kept hb)
  have B221 := Lib.hid (B211.out.kept hb)
  have B222 := Lib.hid (B212.out.kept hb)
  have T223 := Lib.hid (T213.out.kept hb)
  have T224 := Lib.hid (HHG.out.kept hb)
  have H225 := Lib.hid (H214.out.trans (hb.mono H214.out.size))
  clear bf216 bg216 bh216 bz216
  clear hb
  obtain ⟨bf226, bg226, bh226, bz226⟩ := B219.out
  go_wp2_with fail
  go_at_call 11
  refine (toType_any _ t c _ _ (Nat.lt_succ_self _) HC.out hcm (HX.out.kept H225.out)).mono ?_
  rintro e w19 ⟨v19, rfl, ht19, hb⟩
  obtain ⟨a19, k19, rfl, _⟩ := ht19.at.slice
  have T19 := Lib.hid ht19
  clear ht19
  have Z228 := Lib.hid (show w18.heap.size ≤ w19.heap.size from hb.size)
  have B229 := Lib.hid (B219.out.kept hb)
  have B230 := Lib.hid (B220.out.kept hb)
  have B231 := Lib.hid (B221.out.kept hb)
  have B232 := Lib.hid (B222.out.kept hb)
  have T233 := Lib.hid (T223.out.kept hb)
  have T234 := Lib.hid (T224.out.kept hb)
  have H235 := Lib.hid (H225.out.trans (hb.mono H225.out.size))
  clear bf226 bg226 bh226 bz226
  clear hb
  go_wp2_with fail
  go_at_call 32
  refine (canonType_impl t _ _ T19.out.at r HRR.out).mono ?_
  intro e w21 hret
  obtain ⟨v21, rfl, hty21, hb⟩ := HF.out _ _ _ hret
  obtain ⟨a21, k21, rfl, _⟩ := hty21.at.slice
  have T21 := Lib.hid hty21
  have Z237 := Lib.hid (show w19.heap.size ≤ w21.heap.size from hb.size)
  have B238 := Lib.hid (B229.out.kept hb)
  have B239 := Lib.hid (B230.out.kept hb)
  have B240 := Lib.hid (B231.out.kept hb)
  have B241 := Lib.hid (B232.out.kept hb)
  have T242 := Lib.hid (T233.out.kept hb)
  have T243 := Lib.hid (T234.out.kept hb)
  have H244 := Lib.hid (H235.out.trans (hb.mono H235.out.size))
  clear hb hret hty21
  obtain ⟨W21, hW245⟩ : ∃ W, w21.alloc (.cells #[.int .i64 T.k, .int .i64 T.n, .slice a21 T.ks.length k21] 29) = W := ⟨_, rfl⟩
  have hA245 : Below w21.heap.size w21 W21 := by rw [← hW245]; exact (Below.refl _ _).alloc (Nat.le_refl _) _
  have hZ245 : W21.heap.size = w21.heap.size + 1 := by rw [← hW245]; simp
  have B245n : Hid (TBox W21 w21.heap.size (.int .i64 T.k) (.int .i64 T.n) (.slice a21 T.ks.length k21)) := Lib.hid (by rw [← hW245]; exact tbox_new w21 _ _ _ _)
  have Zb245 := Lib.hid hZ245
  have Z247 := Lib.hid (show w21.heap.size ≤ W21.heap.size from hA245.size)
  have B248 := Lib.hid (B238.out.kept hA245)
  have B249 := Lib.hid (B239.out.kept hA245)
  have B250 := Lib.hid (B240.out.kept hA245)
  have B251 := Lib.hid (B241.out.kept hA245)
  have T252 := Lib.hid (T242.out.kept hA245)
  have T253 := Lib.hid (T21.out.kept hA245)
  have T254 := Lib.hid (T243.out.kept hA245)
  have H255 := Lib.hid (H244.out.trans (hA245.mono H244.out.size))
  clear hA245 hZ245
  obtain ⟨bf256, bg256, bh256, bz256⟩ := B249.out
  obtain ⟨bf257, bg257, bh257, bz257⟩ := B245n.out
  go_wp2_with fail
  clear hW245
  go_at_call 13
  refine (eqType_any _ T cT _ _ _ (Nat.lt_succ_self _) HCT.out hcTm T253.out.at T252.out.at).mono ?_
  rintro e w22 ⟨rfl, hb⟩
  have Z259 := Lib.hid (show W21.heap.size ≤ w22.heap.size from hb.size)
  have B260 := Lib.hid (B248.out.kept hb)
  have B261 := Lib.hid (B249.out.kept hb)
  have B262 := Lib.hid (B250.out.kept hb)
  have B263 := Lib.hid (B251.out.kept hb)
  have B264 := Lib.hid (B245n.out.kept hb)
  have T265 := Lib.hid (T252.out.kept hb)
  have T266 := Lib.hid (T253.out.kept hb)
  have T267 := Lib.hid (T254.out.kept hb)
  have H268 := Lib.hid (H255.out.trans (hb.mono H255.out.size))
  clear bf256 bg256 bh256 bz256 bf257 bg257 bh257 bz257
  clear hb
  obtain ⟨bf269, bg269, bh269, bz269⟩ := B263.out
  go_wp2_with fail
  go_at_call 19
  refine (heldType_any T cT _ _ _ _ _ 1 _ T267.out hK).mono ?_
  rintro e w23 ⟨rfl, hb⟩
  rw [HKK.out]
  have Z271 := Lib.hid (show w22.heap.size ≤ w23.heap.size from hb.size)
  have B272 := Lib.hid (B260.out.kept hb)
  have B273 := Lib.hid (B261.out.kept hb)
  have B274 := Lib.hid (B262.out.kept hb)
  have B275 := Lib.hid (B263.out.kept hb)
  have B276 := Lib.hid (B264.out.kept hb)
  have T277 := Lib.hid (T265.out.kept hb)
  have T278 := Lib.hid (T266.out.kept hb)
  have T279 := Lib.hid (T267.out.kept hb)
  have H280 := Lib.hid (H268.out.trans (hb.mono H268.out.size))
  clear bf269 bg269 bh269 bz269
  clear hb
  go_wp2_with fail
  go_ret
  exact ⟨rfl, H280.out⟩

set_option maxRecDepth 100000 in
theorem lifted (os : Os) (started : os.Started) (H : Type) (enc : TypeId × Value → H) :
    ReturnsInHanded {} Try.checked os 8 .any (Rows.fnExactCanonTypeSpec.pre6 enc Try.prog Try.f8 Rows.fnExactCanonTypeRow.domain false) (Rows.fnExactCanonTypeSpec.post enc Try.prog Try.f8 false true false false) := by
  refine returnsInHanded_of_change (C := Try.checked) own started (by kernel_rfl) Try.func8
    (ChangeSpec.witness6 (enc := enc) (C := Try.checked) false ⟨#[], #[.agg #[.int .i64 0, .int .i64 0, .slice none 0 0]], []⟩ 8 (by kernel_rfl) (by kernel_rfl) (by kernel_rfl) (by kernel_rfl)) ?_
  intro W base args ds gs before hval0 hW hcnd _
  have hval : ∀ (j : Nat) t v, Try.f8.params[j]? = some t → args[j]? = some v → Value.okWide Try.prog W .any base t v := hval0
  have hW' := hW
  obtain ⟨p, q, hA0, hV, rfl, hfz, hnd⟩ := hW
  have hA : DataW.TrodAll enc Try.prog W 0 (fun _ => true) true Try.f8.params.toList args.toList ds p := hA0
  rw [Try.params8] at hA hval
  obtain ⟨v0, vs0, d0, ds0, p0, q0, hargs, rfl, rfl, h0, r0⟩ := trodAll_cons hA
  obtain ⟨rfl, rfl, rfl⟩ := trodAll_nil r0
  obtain rfl : args = #[v0] := by cases args; simp_all
  obtain ⟨rfl, rfl⟩ := trodVars_none hV
  have k0 := h0
  have lt0 : ∀ x ∈ p0, x.block < W.heap.size := by obtain ⟨m, hm⟩ := k0; exact DataW.trod_lt m _ _ _ hm
  obtain ⟨cs0, rfl, _⟩ := okWide_struct Try.underlying24 (hval 0 24 v0 rfl rfl)
  obtain ⟨u0, z0, w0, hz0⟩ : ∃ (t : Ty) (v : Value), cs0 = #[.int .i64 t.k, .int .i64 t.n, v] ∧ TyAt W t v := by
    obtain ⟨fuel, hf⟩ := h0
    obtain ⟨t, v, hcs, hat⟩ := ty_of_trod fuel _ _ hf
    exact ⟨t, v, Array.toList_inj.1 hcs, hat⟩
  subst w0
  clear hA0 hval0
  refine (walk u0 z0 W hz0).mono fun e W' ⟨he, bel⟩ => ?_
  subst he
  exact ⟨_, rfl, _, _, _, [], _, [], hW', trodAll_mk1 (shut_bool Try.underlying4 _), (trodAll_cons_mk (Below.trod laidOut (by kernel_rfl) (of_decide_eq_true (by kernel_rfl)) k0 bel lt0) trodAll_mk0), rfl, bel.frame _, fun h => by cases h⟩

theorem over : Rows.fnExactCanonTypeRow.holds Try.pinned (OpenSpec.ofChange Rows.fnExactCanonTypeSpec) :=
  OpenClaim.holds_of_wide 8 Try.f8 rfl rfl rfl rfl rfl rfl rfl ⟨rfl, rfl, rfl, rfl, rfl⟩ rfl rfl rfl rfl rfl (by kernel_rfl) Try.func8 (by kernel_rfl)
    (of_decide_eq_true (by kernel_rfl)) (by unfold Func.isWrapper; first | (rw [if_pos (by decide +kernel)]; kernel_rfl) | (rw [if_neg (by decide +kernel)]; exact ⟨rfl, rfl⟩))
    (fun os started H enc _ => lifted os started H enc)

/-- The given statement. -/
theorem proved : Rows.FnExactCanonTypeSaid := over
end Go.Proofs.Ytiaoopikmkakbaa.fnExactCanonType
