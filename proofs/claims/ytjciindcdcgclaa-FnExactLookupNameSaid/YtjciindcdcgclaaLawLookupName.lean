/-
  FnExactLookupName returns true for every list of names with types and every name, and the list reads as it did: LookupName answers as its model, in memory of its own. No conditions.
-/
import Derived.Test.YtjciindcdcgclaaRows
import Derived.ProofKit
import Derived.OpenShut
import Derived.ShutString
import Derived.ChangeOld
import Derived.Below
import Derived.Lib.SmallJoins
import Derived.Test.YtjciindcdcgclaaKf
import Derived.Test.YtjciindcdcgclaaAh
namespace Go.Proofs.Ytjciindcdcgclaa.fnExactLookupName
open Go.Proofs.Ytjciindcdcgclaa
open Go.ChangeShapes Go.WideShapes Go.ChangeAt Go.RowKit Go.Joins
open Go.ChangeMaps (open_string shut_string)
set_option linter.unusedVariables false
set_option linter.unusedSimpArgs false

theorem own : ownKnob Try.prog.godebug = none := by kernel_rfl
theorem laidOut : laidOutB Try.prog = true := by kernel_rfl

theorem bne_self (b : Bool) : (b != b) = false := by cases b <;> rfl
set_option maxRecDepth 100000 in
set_option maxHeartbeats 16000000 in
theorem walk (ls : List Kn) (lv : Value) (s : ByteArray) (w : World) (hx : KnAt w ls lv) (hz : KnSz ls) (_ : s.size ≤ maxLen) :
    Calls Try.prog 6 #[lv, .string s] w fun e w' => e = .returned (.bool true) ∧ Below w.heap.size w w' := by
  by_cases hse : (s.size : Int) ≤ 1048576
  case neg =>
    obtain ⟨a, cap, rfl, _⟩ := hx.slice
    go_enter Try.func6, Try.ntmps6
    go_wp2_with fail
    go_ret
    exact ⟨rfl, Below.refl _ _⟩
  have hsn : s.size ≤ 1048576 := by omega
  obtain ⟨cf, hcf⟩ := kn_cnt hz
  have HX := Lib.hid hx
  have HCF := Lib.hid hcf
  have HZ : Hid (KnSz ls) := Lib.hid hz
  obtain ⟨c, hc⟩ : ∃ c, ls.length + ((List.range ls.length).map cf).sum = c := ⟨_, rfl⟩
  have HC := Lib.hid hc
  obtain ⟨a, cap, rfl, hlen⟩ := hx.slice
  obtain ⟨L, hL⟩ : ∃ L, ls.length = L := ⟨_, rfl⟩
  have HLL := Lib.hid hL
  rw [hL] at hlen HX ⊢
  clear hx hcf hz hc hL
  by_cases hle : (c : Int) ≤ 1048576
  case neg =>
    have HLE : Hid (LeftOf 1048576 (ls.length + ((List.range ls.length).map cf).sum) = -1) := Lib.hid (by rw [HC.out]; exact leftOf_no hle)
    clear hle
    go_enter Try.func6, Try.ntmps6
    go_wp2_with fail
    go_at_call 25
    refine (szKnownS_any ls cf _ 1048576 _ HCF.out HX.out (by omega) (by omega)).mono ?_
    rintro e w1 ⟨rfl, hb1⟩
    rw [HLE.out]
    have HB1 := Lib.hid (hb1)
    clear hb1
    go_wp2_with fail
    go_ret
    exact ⟨rfl, HB1.out⟩
  have hcm : ls.length + ((List.range ls.length).map cf).sum ≤ 1048576 := by rw [HC.out]; omega
  have HCM := Lib.hid hcm
  have HLE : Hid (LeftOf 1048576 (ls.length + ((List.range ls.length).map cf).sum) = 1048576 - (c : Int)) := Lib.hid (by rw [HC.out]; exact leftOf_yes hle)
  have hnn : 0 ≤ 1048576 - (c : Int) := by omega
  have hnn2 : ¬ 1048576 - (c : Int) < 0 := by omega
  clear hle hcm
  obtain ⟨r, hr⟩ : ∃ r, lookB ls s = r := ⟨_, rfl⟩
  obtain ⟨cT, hcT, hcT62⟩ := lookB_cnt ls s
  rw [hr] at hcT
  have HRR := Lib.hid hr
  obtain ⟨T, hT⟩ : ∃ T, optT r = T := ⟨_, rfl⟩
  obtain ⟨b, hb⟩ : ∃ b, r.isSome = b := ⟨_, rfl⟩
  rw [hT] at hcT
  have HCT := Lib.hid hcT
  have HF : Hid (∀ (w : World) (e : Ending) (w' : World), OptRet r w e w' → ∃ v, e = .returned (.tuple #[.agg #[.int .i64 T.k, .int .i64 T.n, v], .bool b]) ∧ TyIn w' w.heap.size w'.heap.size T v ∧ Below w.heap.size w w') := Lib.hid (by rw [← hT, ← hb]; exact fun w e w' h => h.flat)
  have hbb := bne_self b
  have hcTm : cT ≤ 1048576 := by omega
  have hK : 1 + 2 * cT ≤ 100000000 := by omega
  obtain ⟨KK, hKK⟩ : ∃ KK : Int, ((1 + 2 * cT : Nat) : Int) = KK := ⟨_, rfl⟩
  have hkn : ¬ KK < 0 := by omega
  have HKK := Lib.hid hKK
  clear hT hb hcT hr hKK
  go_enter Try.func6, Try.ntmps6
  go_wp2_with fail
  go_at_call 25
  refine (szKnownS_any ls cf _ 1048576 _ HCF.out HX.out (by omega) (by omega)).mono ?_
  rintro e w1 ⟨rfl, hb1⟩
  rw [HLE.out]
  have H1 := Lib.hid hb1
  clear hb1
  have Z1 := Lib.hid (show w.heap.size ≤ w1.heap.size from H1.out.size)
  go_wp2_with fail
  go_at_call 26
  refine (toKnownS_any ls cf _ _ HCF.out HCM.out (HX.out.kept H1.out)).mono ?_
  rintro e w2 ⟨v2, rfl, hk2, hb⟩
  obtain ⟨a2, k2, rfl, _⟩ := hk2.at.slice
  have T2 := Lib.hid hk2
  clear hk2
  have Z102 := Lib.hid (show w1.heap.size ≤ w2.heap.size from hb.size)
  have H103 := Lib.hid (H1.out.trans (hb.mono H1.out.size))
  clear hb
  go_wp2_with fail
  go_at_call 9
  refine (lookup_spec ls _ s _ HZ.out T2.out.at r HRR.out).mono ?_
  intro e w3 hret
  obtain ⟨v3, rfl, hty3, hb⟩ := HF.out _ _ _ hret
  obtain ⟨a3, k3, rfl, _⟩ := hty3.at.slice
  have T3 := Lib.hid hty3
  have Z105 := Lib.hid (show w2.heap.size ≤ w3.heap.size from hb.size)
  have H106 := Lib.hid (H103.out.trans (hb.mono H103.out.size))
  clear hb hret hty3
  obtain ⟨W3, hW107⟩ : ∃ W, w3.alloc (.cells #[.int .i64 T.k, .int .i64 T.n, .slice a3 T.ks.length k3] 28) = W := ⟨_, rfl⟩
  have hA107 : Below w3.heap.size w3 W3 := by rw [← hW107]; exact (Below.refl _ _).alloc (Nat.le_refl _) _
  have hZ107 : W3.heap.size = w3.heap.size + 1 := by rw [← hW107]; simp
  have B107n : Hid (TBox W3 w3.heap.size (.int .i64 T.k) (.int .i64 T.n) (.slice a3 T.ks.length k3)) := Lib.hid (by rw [← hW107]; exact tbox_new w3 _ _ _ _)
  have Zb107 := Lib.hid hZ107
  have Z109 := Lib.hid (show w3.heap.size ≤ W3.heap.size from hA107.size)
  have T110 := Lib.hid (T3.out.kept hA107)
  have H111 := Lib.hid (H106.out.trans (hA107.mono H106.out.size))
  clear hA107 hZ107
  go_wp2_with fail
  clear hW107
  go_at_call 26
  refine (toKnownS_any ls cf _ _ HCF.out HCM.out (HX.out.kept H111.out)).mono ?_
  rintro e w4 ⟨v4, rfl, hk4, hb⟩
  obtain ⟨a4, k4, rfl, _⟩ := hk4.at.slice
  have T4 := Lib.hid hk4
  clear hk4
  have Z113 := Lib.hid (show W3.heap.size ≤ w4.heap.size from hb.size)
  have B114 := Lib.hid (B107n.out.kept hb)
  have T115 := Lib.hid (T110.out.kept hb)
  have H116 := Lib.hid (H111.out.trans (hb.mono H111.out.size))
  clear hb
  obtain ⟨bf117, bg117, bh117, bz117⟩ := B114.out
  go_wp2_with fail
  go_at_call 8
  refine (lookup_impl ls _ s _ HZ.out T4.out.at r HRR.out).mono ?_
  intro e w5 hret
  obtain ⟨v5, rfl, hty5, hb⟩ := HF.out _ _ _ hret
  obtain ⟨a5, k5, rfl, _⟩ := hty5.at.slice
  have T5 := Lib.hid hty5
  clear bf117 bg117 bh117 bz117
  have Z119 := Lib.hid (show w4.heap.size ≤ w5.heap.size from hb.size)
  have B120 := Lib.hid (B114.out.kept hb)
  have T121 := Lib.hid (T115.out.kept hb)
  have T122 := Lib.hid (T4.out.kept hb)
  have H123 := Lib.hid (H116.out.trans (hb.mono H116.out.size))
  clear hb hret hty5
  obtain ⟨W5, hW124⟩ : ∃ W, w5.alloc (.cells #[.int .i64 T.k, .int .i64 T.n, .slice a5 T.ks.length k5] 28) = W := ⟨_, rfl⟩
  have hA124 : Below w5.heap.size w5 W5 := by rw [← hW124]; exact (Below.refl _ _).alloc (Nat.le_refl _) _
  have hZ124 : W5.heap.size = w5.heap.size + 1 := by rw [← hW124]; simp
  have B124n : Hid (TBox W5 w5.heap.size (.int .i64 T.k) (.int .i64 T.n) (.slice a5 T.ks.length k5)) := Lib.hid (by rw [← hW124]; exact tbox_new w5 _ _ _ _)
  have Zb124 := Lib.hid hZ124
  have Z126 := Lib.hid (show w5.heap.size ≤ W5.heap.size from hA124.size)
  have B127 := Lib.hid (B120.out.kept hA124)
  have T128 := Lib.hid (T121.out.kept hA124)
  have T129 := Lib.hid (T122.out.kept hA124)
  have T130 := Lib.hid (T5.out.kept hA124)
  have H131 := Lib.hid (H123.out.trans (hA124.mono H123.out.size))
  clear hA124 hZ124
  obtain ⟨bf132, bg132, bh132, bz132⟩ := B127.out
  obtain ⟨bf133, bg133, bh133, bz133⟩ := B124n.out
  go_wp2_with fail
  clear hW124
  go_at_call 27
  refine (eqType_any _ T cT _ _ _ (Nat.lt_succ_self _) HCT.out hcTm T130.out.at T128.out.at).mono ?_
  rintro e w6 ⟨rfl, hb⟩
  have Z135 := Lib.hid (show W5.heap.size ≤ w6.heap.size from hb.size)
  have B136 := Lib.hid (B127.out.kept hb)
  have B137 := Lib.hid (B124n.out.kept hb)
  have T138 := Lib.hid (T128.out.kept hb)
  have T139 := Lib.hid (T129.out.kept hb)
  have T140 := Lib.hid (T130.out.kept hb)
  have H141 := Lib.hid (H131.out.trans (hb.mono H131.out.size))
  clear bf132 bg132 bh132 bz132 bf133 bg133 bh133 bz133
  clear hb
  go_wp2_with fail
  go_at_call 26
  refine (toKnownS_any ls cf _ _ HCF.out HCM.out (HX.out.kept H141.out)).mono ?_
  rintro e w7 ⟨v7, rfl, hk7, hb⟩
  obtain ⟨a7, k7, rfl, _⟩ := hk7.at.slice
  have T7 := Lib.hid hk7
  clear hk7
  have Z143 := Lib.hid (show w6.heap.size ≤ w7.heap.size from hb.size)
  have B144 := Lib.hid (B136.out.kept hb)
  have B145 := Lib.hid (B137.out.kept hb)
  have T146 := Lib.hid (T138.out.kept hb)
  have T147 := Lib.hid (T139.out.kept hb)
  have T148 := Lib.hid (T140.out.kept hb)
  have H149 := Lib.hid (H141.out.trans (hb.mono H141.out.size))
  clear hb
  go_wp2_with fail
  go_at_call 28
  refine (eqKnownS_any ls cf _ _ _ HCF.out HCM.out T147.out.at T7.out.at).mono ?_
  rintro e w8 ⟨rfl, hb⟩
  have Z151 := Lib.hid (show w7.heap.size ≤ w8.heap.size from hb.size)
  have B152 := Lib.hid (B144.out.kept hb)
  have B153 := Lib.hid (B145.out.kept hb)
  have T154 := Lib.hid (T146.out.kept hb)
  have T155 := Lib.hid (T147.out.kept hb)
  have T156 := Lib.hid (T148.out.kept hb)
  have T157 := Lib.hid (T7.out.kept hb)
  have H158 := Lib.hid (H149.out.trans (hb.mono H149.out.size))
  clear hb
  go_wp2_with fail
  go_at_call 29
  refine (markKnownS_any ls cf _ _ _ 1 _ HCF.out HCM.out T155.out (by omega) (by omega)).mono ?_
  rintro e w9 ⟨kq, rfl, hkq1, hkq2, hI⟩
  have hkq3 : ¬ (kq : Int) < 0 := by omega
  have B159 := Lib.hid (B152.out.away hI (by first | exact .inl (by have z0 := Z1.out; have z1 := Z102.out; have z2 := Z105.out; have z3 := Zb107.out; have z4 := Z109.out; have z5 := Z113.out; have z6 := Z119.out; have z7 := Zb124.out; have z8 := Z126.out; have z9 := Z135.out; have z10 := Z143.out; have z11 := Z151.out; omega) | exact .inr (by have z0 := Z1.out; have z1 := Z102.out; have z2 := Z105.out; have z3 := Zb107.out; have z4 := Z109.out; have z5 := Z113.out; have z6 := Z119.out; have z7 := Zb124.out; have z8 := Z126.out; have z9 := Z135.out; have z10 := Z143.out; have z11 := Z151.out; omega)))
  have B160 := Lib.hid (B153.out.away hI (by first | exact .inl (by have z0 := Z1.out; have z1 := Z102.out; have z2 := Z105.out; have z3 := Zb107.out; have z4 := Z109.out; have z5 := Z113.out; have z6 := Z119.out; have z7 := Zb124.out; have z8 := Z126.out; have z9 := Z135.out; have z10 := Z143.out; have z11 := Z151.out; omega) | exact .inr (by have z0 := Z1.out; have z1 := Z102.out; have z2 := Z105.out; have z3 := Zb107.out; have z4 := Z109.out; have z5 := Z113.out; have z6 := Z119.out; have z7 := Zb124.out; have z8 := Z126.out; have z9 := Z135.out; have z10 := Z143.out; have z11 := Z151.out; omega)))
  have T161 := Lib.hid (T154.out.apart hI (by first | exact .inl (by have z0 := Z1.out; have z1 := Z102.out; have z2 := Z105.out; have z3 := Zb107.out; have z4 := Z109.out; have z5 := Z113.out; have z6 := Z119.out; have z7 := Zb124.out; have z8 := Z126.out; have z9 := Z135.out; have z10 := Z143.out; have z11 := Z151.out; omega) | exact .inr (by have z0 := Z1.out; have z1 := Z102.out; have z2 := Z105.out; have z3 := Zb107.out; have z4 := Z109.out; have z5 := Z113.out; have z6 := Z119.out; have z7 := Zb124.out; have z8 := Z126.out; have z9 := Z135.out; have z10 := Z143.out; have z11 := Z151.out; omega)))
  have T162 := Lib.hid (T156.out.apart hI (by first | exact .inl (by have z0 := Z1.out; have z1 := Z102.out; have z2 := Z105.out; have z3 := Zb107.out; have z4 := Z109.out; have z5 := Z113.out; have z6 := Z119.out; have z7 := Zb124.out; have z8 := Z126.out; have z9 := Z135.out; have z10 := Z143.out; have z11 := Z151.out; omega) | exact .inr (by have z0 := Z1.out; have z1 := Z102.out; have z2 := Z105.out; have z3 := Zb107.out; have z4 := Z109.out; have z5 := Z113.out; have z6 := Z119.out; have z7 := Zb124.out; have z8 := Z126.out; have z9 := Z135.out; have z10 := Z143.out; have z11 := Z151.out; omega)))
  have H163 := Lib.hid (hI.below (by have z0 := Z1.out; have z1 := Z102.out; have z2 := Z105.out; have z3 := Zb107.out; have z4 := Z109.out; have z5 := Z113.out; have z6 := Z119.out; have z7 := Zb124.out; have z8 := Z126.out; have z9 := Z135.out; have z10 := Z143.out; have z11 := Z151.out; omega) H158.out H158.out.size)
  have Z164 := Lib.hid (show w8.heap.size ≤ w9.heap.size from hI.size)
  clear hI
  obtain ⟨bf165, bg165, bh165, bz165⟩ := B159.out
  obtain ⟨bf166, bg166, bh166, bz166⟩ := B160.out
  go_wp2_with fail
  go_at_call 27
  refine (eqType_any _ T cT _ _ _ (Nat.lt_succ_self _) HCT.out hcTm T162.out.at T161.out.at).mono ?_
  rintro e w10 ⟨rfl, hb⟩
  have Z168 := Lib.hid (show w9.heap.size ≤ w10.heap.size from hb.size)
  have B169 := Lib.hid (B159.out.kept hb)
  have B170 := Lib.hid (B160.out.kept hb)
  have T171 := Lib.hid (T161.out.kept hb)
  have T172 := Lib.hid (T162.out.kept hb)
  have H173 := Lib.hid (H163.out.trans (hb.mono H163.out.size))
  clear bf165 bg165 bh165 bz165 bf166 bg166 bh166 bz166
  clear hb
  obtain ⟨bf174, bg174, bh174, bz174⟩ := B170.out
  go_wp2_with fail
  go_at_call 30
  refine (markTypeFull_any T cT _ _ _ 1 _ HCT.out T172.out hK).mono ?_
  rintro e w11 ⟨rfl, hI, hHd⟩
  rw [HKK.out]
  clear bf174 bg174 bh174 bz174
  have B175 := Lib.hid (B169.out.away hI (by first | exact .inl (by have z0 := Z1.out; have z1 := Z102.out; have z2 := Z105.out; have z3 := Zb107.out; have z4 := Z109.out; have z5 := Z113.out; have z6 := Z119.out; have z7 := Zb124.out; have z8 := Z126.out; have z9 := Z135.out; have z10 := Z143.out; have z11 := Z151.out; have z12 := Z164.out; have z13 := Z168.out; omega) | exact .inr (by have z0 := Z1.out; have z1 := Z102.out; have z2 := Z105.out; have z3 := Zb107.out; have z4 := Z109.out; have z5 := Z113.out; have z6 := Z119.out; have z7 := Zb124.out; have z8 := Z126.out; have z9 := Z135.out; have z10 := Z143.out; have z11 := Z151.out; have z12 := Z164.out; have z13 := Z168.out; omega)))
  have B176 := Lib.hid (B170.out.away hI (by first | exact .inl (by have z0 := Z1.out; have z1 := Z102.out; have z2 := Z105.out; have z3 := Zb107.out; have z4 := Z109.out; have z5 := Z113.out; have z6 := Z119.out; have z7 := Zb124.out; have z8 := Z126.out; have z9 := Z135.out; have z10 := Z143.out; have z11 := Z151.out; have z12 := Z164.out; have z13 := Z168.out; omega) | exact .inr (by have z0 := Z1.out; have z1 := Z102.out; have z2 := Z105.out; have z3 := Zb107.out; have z4 := Z109.out; have z5 := Z113.out; have z6 := Z119.out; have z7 := Zb124.out; have z8 := Z126.out; have z9 := Z135.out; have z10 := Z143.out; have z11 := Z151.out; have z12 := Z164.out; have z13 := Z168.out; omega)))
  have T177 := Lib.hid (T171.out.apart hI (by first | exact .inl (by have z0 := Z1.out; have z1 := Z102.out; have z2 := Z105.out; have z3 := Zb107.out; have z4 := Z109.out; have z5 := Z113.out; have z6 := Z119.out; have z7 := Zb124.out; have z8 := Z126.out; have z9 := Z135.out; have z10 := Z143.out; have z11 := Z151.out; have z12 := Z164.out; have z13 := Z168.out; omega) | exact .inr (by have z0 := Z1.out; have z1 := Z102.out; have z2 := Z105.out; have z3 := Zb107.out; have z4 := Z109.out; have z5 := Z113.out; have z6 := Z119.out; have z7 := Zb124.out; have z8 := Z126.out; have z9 := Z135.out; have z10 := Z143.out; have z11 := Z151.out; have z12 := Z164.out; have z13 := Z168.out; omega)))
  have H178 := Lib.hid (hI.below (by have z0 := Z1.out; have z1 := Z102.out; have z2 := Z105.out; have z3 := Zb107.out; have z4 := Z109.out; have z5 := Z113.out; have z6 := Z119.out; have z7 := Zb124.out; have z8 := Z126.out; have z9 := Z135.out; have z10 := Z143.out; have z11 := Z151.out; have z12 := Z164.out; have z13 := Z168.out; omega) H173.out H173.out.size)
  have Z179 := Lib.hid (show w10.heap.size ≤ w11.heap.size from hI.size)
  have HHG := Lib.hid hHd
  clear hI hHd
  obtain ⟨bf180, bg180, bh180, bz180⟩ := B176.out
  go_wp2_with fail
  go_at_call 31
  refine (heldType_any T cT _ _ _ _ _ 1 _ HHG.out hK).mono ?_
  rintro e w12 ⟨rfl, hb⟩
  rw [HKK.out]
  have Z182 := Lib.hid (show w11.heap.size ≤ w12.heap.size from hb.size)
  have B183 := Lib.hid (B175.out.kept hb)
  have B184 := Lib.hid (B176.out.kept hb)
  have T185 := Lib.hid (T177.out.kept hb)
  have T186 := Lib.hid (HHG.out.kept hb)
  have H187 := Lib.hid (H178.out.trans (hb.mono H178.out.size))
  clear bf180 bg180 bh180 bz180
  clear hb
  go_wp2_with fail
  go_at_call 26
  refine (toKnownS_any ls cf _ _ HCF.out HCM.out (HX.out.kept H187.out)).mono ?_
  rintro e w13 ⟨v13, rfl, hk13, hb⟩
  obtain ⟨a13, k13, rfl, _⟩ := hk13.at.slice
  have T13 := Lib.hid hk13
  clear hk13
  have Z189 := Lib.hid (show w12.heap.size ≤ w13.heap.size from hb.size)
  have B190 := Lib.hid (B183.out.kept hb)
  have B191 := Lib.hid (B184.out.kept hb)
  have T192 := Lib.hid (T185.out.kept hb)
  have T193 := Lib.hid (T186.out.kept hb)
  have H194 := Lib.hid (H187.out.trans (hb.mono H187.out.size))
  clear hb
  go_wp2_with fail
  go_at_call 8
  refine (lookup_impl ls _ s _ HZ.out T13.out.at r HRR.out).mono ?_
  intro e w14 hret
  obtain ⟨v14, rfl, hty14, hb⟩ := HF.out _ _ _ hret
  obtain ⟨a14, k14, rfl, _⟩ := hty14.at.slice
  have T14 := Lib.hid hty14
  have Z196 := Lib.hid (show w13.heap.size ≤ w14.heap.size from hb.size)
  have B197 := Lib.hid (B190.out.kept hb)
  have B198 := Lib.hid (B191.out.kept hb)
  have T199 := Lib.hid (T192.out.kept hb)
  have T200 := Lib.hid (T193.out.kept hb)
  have H201 := Lib.hid (H194.out.trans (hb.mono H194.out.size))
  clear hb hret hty14
  obtain ⟨W14, hW202⟩ : ∃ W, w14.alloc (.cells #[.int .i64 T.k, .int .i64 T.n, .slice a14 T.ks.length k14] 28) = W := ⟨_, rfl⟩
  have hA202 : Below w14.heap.size w14 W14 := by rw [← hW202]; exact (Below.refl _ _).alloc (Nat.le_refl _) _
  have hZ202 : W14.heap.size = w14.heap.size + 1 := by rw [← hW202]; simp
  have B202n : Hid (TBox W14 w14.heap.size (.int .i64 T.k) (.int .i64 T.n) (.slice a14 T.ks.length k14)) := Lib.hid (by rw [← hW202]; exact tbox_new w14 _ _ _ _)
  have Zb202 := Lib.hid hZ202
  have Z204 := Lib.hid (show w14.heap.size ≤ W14.heap.size from hA202.size)
  have B205 := Lib.hid (B197.out.kept hA202)
  have B206 := Lib.hid (B198.out.kept hA202)
  have T207 := Lib.hid (T199.out.kept hA202)
  have T208 := Lib.hid (T14.out.kept hA202)
  have T209 := Lib.hid (T200.out.kept hA202)
  have H210 := Lib.hid (H201.out.trans (hA202.mono H201.out.size))
  clear hA202 hZ202
  obtain ⟨bf211, bg211, bh211, bz211⟩ := B205.out
  obtain ⟨bf212, bg212, bh212, bz212⟩ := B202n.out
  go_wp2_with fail
  clear hW202
  go_at_call 27
  refine (eqType_any _ T cT _ _ _ (Nat.lt_succ_self _) HCT.out hcTm T208.out.at T207.out.at).mono ?_
  rintro e w15 ⟨rfl, hb⟩
  have Z214 := Lib.hid (show W14.heap.size ≤ w15.heap.size from hb.size)
  have B215 := Lib.hid (B205.out.kept hb)
  have B216 := Lib.hid (B206.out.kept hb)
  have B217 := Lib.hid (B202n.out.kept hb)
  have T218 := Lib.hid (T207.out.kept hb)
  have T219 := Lib.hid (T208.out.kept hb)
  have T220 := Lib.hid (T209.out.kept hb)
  have H221 := Lib.hid (H210.out.trans (hb.mono H210.out.size))
  clear bf211 bg211 bh211 bz211 bf212 bg212 bh212 bz212
  clear hb
  obtain ⟨bf222, bg222, bh222, bz222⟩ := B216.out
  go_wp2_with fail
  go_at_call 31
  refine (heldType_any T cT _ _ _ _ _ 1 _ T220.out hK).mono ?_
  rintro e w16 ⟨rfl, hb⟩
  rw [HKK.out]
  have Z224 := Lib.hid (show w15.heap.size ≤ w16.heap.size from hb.size)
  have B225 := Lib.hid (B215.out.kept hb)
  have B226 := Lib.hid (B216.out.kept hb)
  have B227 := Lib.hid (B217.out.kept hb)
  have T228 := Lib.hid (T218.out.kept hb)
  have T229 := Lib.hid (T219.out.kept hb)
  have T230 := Lib.hid (T220.out.kept hb)
  have H231 := Lib.hid (H221.out.trans (hb.mono H221.out.size))
  clear bf222 bg222 bh222 bz222
  clear hb
  go_wp2_with fail
  go_ret
  exact ⟨rfl, H231.out⟩

set_option maxRecDepth 100000 in
theorem lifted (os : Os) (started : os.Started) (H : Type) (enc : TypeId × Value → H) :
    ReturnsInHanded {} Try.checked os 6 .any (Rows.fnExactLookupNameSpec.pre6 enc Try.prog Try.f6 Rows.fnExactLookupNameRow.domain false) (Rows.fnExactLookupNameSpec.post enc Try.prog Try.f6 false true false false) := by
  refine returnsInHanded_of_change (C := Try.checked) own started (by kernel_rfl) Try.func6
    (ChangeSpec.witness6 (enc := enc) (C := Try.checked) false ⟨#[], #[.slice none 0 0, .string ⟨#[]⟩], []⟩ 8 (by kernel_rfl) (by kernel_rfl) (by kernel_rfl) (by kernel_rfl)) ?_
  intro W base args ds gs before hval0 hW hcnd _
  have hval : ∀ (j : Nat) t v, Try.f6.params[j]? = some t → args[j]? = some v → Value.okWide Try.prog W .any base t v := hval0
  have hW' := hW
  obtain ⟨p, q, hA0, hV, rfl, hfz, hnd⟩ := hW
  have hA : DataW.TrodAll enc Try.prog W 0 (fun _ => true) true Try.f6.params.toList args.toList ds p := hA0
  rw [Try.params6] at hA hval
  obtain ⟨v0, vs0, d0, ds0, p0, q0, hargs, rfl, rfl, h0, r0⟩ := trodAll_cons hA
  obtain ⟨v1, vs1, d1, ds1, p1, q1, rfl, rfl, rfl, h1, r1⟩ := trodAll_cons r0
  obtain ⟨rfl, rfl, rfl⟩ := trodAll_nil r1
  obtain rfl : args = #[v0, v1] := by cases args; simp_all
  obtain ⟨rfl, rfl⟩ := trodVars_none hV
  have k0 := h0
  have lt0 : ∀ x ∈ p0, x.block < W.heap.size := by obtain ⟨m, hm⟩ := k0; exact DataW.trod_lt m _ _ _ hm
  have k1 := h1
  have lt1 : ∀ x ∈ p1, x.block < W.heap.size := by obtain ⟨m, hm⟩ := k1; exact DataW.trod_lt m _ _ _ hm
  obtain ⟨a0, len0, cap0, rfl⟩ := okWide_slice Try.underlying54 (hval 0 54 v0 rfl rfl)
  obtain ⟨u0, hz0, hn0⟩ : ∃ (ls : List Kn), KnAt W ls (.slice a0 len0 cap0) ∧ KnSz ls := by
    obtain ⟨fuel, hf⟩ := h0
    obtain ⟨ls, v, hcs, hat, hsz⟩ := kns_of_trod fuel _ _ hf
    simp [Value.cells] at hcs
    exact ⟨ls, hcs ▸ hat, hsz⟩
  obtain ⟨a1, rfl, rfl, rfl, w1⟩ := open_string Try.underlying9 (hval 1 9 v1 rfl rfl) h1
  clear hA0 hval0
  refine (walk u0 (.slice a0 len0 cap0) a1 W hz0 hn0 w1).mono fun e W' ⟨he, bel⟩ => ?_
  subst he
  exact ⟨_, rfl, _, _, _, [], _, [], hW', trodAll_mk1 (shut_bool Try.underlying4 _), (trodAll_cons_mk (Below.trod laidOut (by kernel_rfl) (of_decide_eq_true (by kernel_rfl)) k0 bel lt0) (trodAll_cons_mk (Below.trod laidOut (by kernel_rfl) (of_decide_eq_true (by kernel_rfl)) k1 bel lt1) trodAll_mk0)), rfl, bel.frame _, fun h => by cases h⟩

theorem over : Rows.fnExactLookupNameRow.holds Try.pinned (OpenSpec.ofChange Rows.fnExactLookupNameSpec) :=
  OpenClaim.holds_of_wide 6 Try.f6 rfl rfl rfl rfl rfl rfl rfl ⟨rfl, rfl, rfl, rfl, rfl⟩ rfl rfl rfl rfl rfl (by kernel_rfl) Try.func6 (by kernel_rfl)
    (of_decide_eq_true (by kernel_rfl)) (by unfold Func.isWrapper; first | (rw [if_pos (by decide +kernel)]; kernel_rfl) | (rw [if_neg (by decide +kernel)]; exact ⟨rfl, rfl⟩))
    (fun os started H enc _ => lifted os started H enc)

/-- The given statement. -/
theorem proved : Rows.FnExactLookupNameSaid := over
end Go.Proofs.Ytjciindcdcgclaa.fnExactLookupName
