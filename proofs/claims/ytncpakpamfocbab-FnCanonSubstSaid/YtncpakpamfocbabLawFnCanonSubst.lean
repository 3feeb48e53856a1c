/-
  FnCanonSubst returns true for every slice of bytes: the canonical form of a drawn type is the type with its variables replaced by their numbers in order. No conditions.
-/
import Derived.Test.YtncpakpamfocbabRows
import Derived.ProofKit
import Derived.OpenShut
import Derived.ShutString
import Derived.ChangeOld
import Derived.Below
import Derived.Lib.SmallJoins
import Derived.Test.YtncpakpamfocbabPe
import Derived.Test.YtncpakpamfocbabBh
import Derived.Test.YtncpakpamfocbabPg
namespace Go.Proofs.Ytncpakpamfocbab.fnCanonSubst
open Go.Proofs.Ytncpakpamfocbab
open Go.ChangeShapes Go.WideShapes Go.ChangeAt Go.RowKit Go.Joins
open Go.ChangeMaps (open_string shut_string)
set_option linter.unusedVariables false
set_option linter.unusedSimpArgs false

theorem own : ownKnob Try.prog.godebug = none := by kernel_rfl
theorem laidOut : laidOutB Try.prog = true := by kernel_rfl

set_option maxRecDepth 100000 in
set_option maxHeartbeats 16000000 in
theorem walk (a : Option Addr) (len cap : Nat) (zs : List Int) (w : World) (hrow : IsRow w a len cap zs) :
    Calls Try.prog 12 #[.slice a len cap] w fun e w' => e = .returned (.bool true) ∧ Below w.heap.size w w' := by
  have HRow := Lib.hid hrow
  have hm := hrow.len
  unfold maxLen at hm
  clear hrow
  by_cases hl : len ≤ 1048576
  case neg =>
    go_enter Try.func12, Try.ntmps12
    go_wp2
    go_ret
    exact ⟨rfl, Below.refl _ _⟩
  go_enter Try.func12, Try.ntmps12
  go_wp2_with fail
  go_at_call 32
  refine (drawCanonType_any a len cap zs _ HRow.out).mono ?_
  rintro e w0 ⟨t, vt, hnt, rfl, htt, hb0⟩
  have H0 := Lib.hid hb0
  have TT := Lib.hid htt
  obtain ⟨at_, ct, rfl, _⟩ := htt.at.slice
  clear hb0 htt hnt
  obtain ⟨r, hr⟩ : ∃ r, cnT t = r := ⟨_, rfl⟩
  obtain ⟨cT, hcT, hcT62⟩ := canT_cnt t
  rw [hr] at hcT
  have HRR := Lib.hid hr
  obtain ⟨T, hT⟩ : ∃ T, optT r = T := ⟨_, rfl⟩
  obtain ⟨b, hb⟩ : ∃ b, r.isSome = b := ⟨_, rfl⟩
  rw [hT] at hcT
  have HNT : Hid (nodes T ≤ 1048577) := Lib.hid (by rw [hcT.nodes]; omega)
  have HF : Hid (∀ (w : World) (e : Ending) (w' : World), OptRet r w e w' → ∃ v, e = .returned (.tuple #[.agg #[.int .i64 T.k, .int .i64 T.n, v], .bool b]) ∧ TyIn w' w.heap.size w'.heap.size T v ∧ Below w.heap.size w w') := Lib.hid (by rw [← hT, ← hb]; exact fun w e w' h => h.flat)
  have hbb : (b != b) = false := by cases b <;> rfl
  have HV3 : Hid (sameB T T = true) := Lib.hid (sameB_yes rfl)
  have HTVV0 : Hid (b = true → tvT T = true) := Lib.hid (fun h => by
    rw [← hT, ← hr]
    rw [← hb, ← hr] at h
    exact cnT_valid h)
  have HTB : Hid (b = true → tvT t = true ∧ canT t = T) := Lib.hid (fun h => by
    rw [← hb, ← hr] at h
    unfold cnT at h hr
    split at h
    · rename_i hv
      rw [if_pos hv] at hr
      exact ⟨hv, by rw [← hT, ← hr]; rfl⟩
    · cases h)
  clear hT hb hcT hr
  obtain ⟨W0, hW101⟩ : ∃ W, w0.alloc (.cells #[.int .i64 t.k, .int .i64 t.n, .slice at_ t.ks.length ct] 29) = W := ⟨_, rfl⟩
  have hA101 : Below w0.heap.size w0 W0 := by rw [← hW101]; exact (Below.refl _ _).alloc (Nat.le_refl _) _
  have hZ101 : W0.heap.size = w0.heap.size + 1 := by rw [← hW101]; simp
  have B101n : Hid (TBox W0 w0.heap.size (.int .i64 t.k) (.int .i64 t.n) (.slice at_ t.ks.length ct)) := Lib.hid (by rw [← hW101]; exact tbox_new w0 _ _ _ _)
  have Zb101 := Lib.hid hZ101
  have Z103 := Lib.hid (show w0.heap.size ≤ W0.heap.size from hA101.size)
  have T104 := Lib.hid (TT.out.kept hA101)
  have H105 := Lib.hid (H0.out.trans (hA101.mono H0.out.size))
  clear hA101 hZ101
  obtain ⟨bf106, bg106, bh106, bz106⟩ := B101n.out
  go_wp2_with fail
  clear hW101
  go_at_call 29
  refine (canonType_impl t _ _ T104.out.at r HRR.out).mono ?_
  intro e w1 hret
  obtain ⟨v1, rfl, hty1, hb⟩ := HF.out _ _ _ hret
  obtain ⟨a1, k1, rfl, _⟩ := hty1.at.slice
  have T1 := Lib.hid hty1.ok
  clear bf106 bg106 bh106 bz106
  have Z108 := Lib.hid (show W0.heap.size ≤ w1.heap.size from hb.size)
  have B109 := Lib.hid (B101n.out.kept hb)
  have T110 := Lib.hid (T104.out.kept hb)
  have H111 := Lib.hid (H105.out.trans (hb.mono H105.out.size))
  clear hb hret hty1
  obtain ⟨W1, hW112⟩ : ∃ W, w1.alloc (.cells #[.int .i64 T.k, .int .i64 T.n, .slice a1 T.ks.length k1] 29) = W := ⟨_, rfl⟩
  have hA112 : Below w1.heap.size w1 W1 := by rw [← hW112]; exact (Below.refl _ _).alloc (Nat.le_refl _) _
  have hZ112 : W1.heap.size = w1.heap.size + 1 := by rw [← hW112]; simp
  have B112n : Hid (TBox W1 w1.heap.size (.int .i64 T.k) (.int .i64 T.n) (.slice a1 T.ks.length k1)) := Lib.hid (by rw [← hW112]; exact tbox_new w1 _ _ _ _)
  have Zb112 := Lib.hid hZ112
  have Z114 := Lib.hid (show w1.heap.size ≤ W1.heap.size from hA112.size)
  have B115 := Lib.hid (B109.out.kept hA112)
  have T116 := Lib.hid (T110.out.kept hA112)
  have T117 := Lib.hid (T1.out.kept hA112)
  have H118 := Lib.hid (H111.out.trans (hA112.mono H111.out.size))
  clear hA112 hZ112
  obtain ⟨bf119, bg119, bh119, bz119⟩ := B115.out
  go_wp2_with fail
  clear hW112
  go_at_call 33
  refine (canonType_spec t _ _ T116.out.at r HRR.out).mono ?_
  intro e w2 hret
  obtain ⟨v2, rfl, hty2, hb⟩ := HF.out _ _ _ hret
  obtain ⟨a2, k2, rfl, _⟩ := hty2.at.slice
  have T2 := Lib.hid hty2.ok
  clear bf119 bg119 bh119 bz119
  have Z121 := Lib.hid (show W1.heap.size ≤ w2.heap.size from hb.size)
  have B122 := Lib.hid (B115.out.kept hb)
  have B123 := Lib.hid (B112n.out.kept hb)
  have T124 := Lib.hid (T116.out.kept hb)
  have T125 := Lib.hid (T117.out.kept hb)
  have H126 := Lib.hid (H118.out.trans (hb.mono H118.out.size))
  clear hb hret hty2
  obtain ⟨W2, hW127⟩ : ∃ W, w2.alloc (.cells #[.int .i64 T.k, .int .i64 T.n, .slice a2 T.ks.length k2] 29) = W := ⟨_, rfl⟩
  have hA127 : Below w2.heap.size w2 W2 := by rw [← hW127]; exact (Below.refl _ _).alloc (Nat.le_refl _) _
  have hZ127 : W2.heap.size = w2.heap.size + 1 := by rw [← hW127]; simp
  have B127n : Hid (TBox W2 w2.heap.size (.int .i64 T.k) (.int .i64 T.n) (.slice a2 T.ks.length k2)) := Lib.hid (by rw [← hW127]; exact tbox_new w2 _ _ _ _)
  have Zb127 := Lib.hid hZ127
  have Z129 := Lib.hid (show w2.heap.size ≤ W2.heap.size from hA127.size)
  have B130 := Lib.hid (B122.out.kept hA127)
  have B131 := Lib.hid (B123.out.kept hA127)
  have T132 := Lib.hid (T124.out.kept hA127)
  have T133 := Lib.hid (T125.out.kept hA127)
  have T134 := Lib.hid (T2.out.kept hA127)
  have H135 := Lib.hid (H126.out.trans (hA127.mono H126.out.size))
  clear hA127 hZ127
  obtain ⟨bf136, bg136, bh136, bz136⟩ := B131.out
  obtain ⟨bf137, bg137, bh137, bz137⟩ := B127n.out
  go_wp2_with fail
  clear hW127
  go_at_call 16
  refine (typeSame_impl T T 0 _ _ _ HNT.out T133.out T134.out).mono ?_
  rintro e w3 ⟨rfl, hb⟩
  have Z139 := Lib.hid (show W2.heap.size ≤ w3.heap.size from hb.size)
  have B140 := Lib.hid (B130.out.kept hb)
  have B141 := Lib.hid (B131.out.kept hb)
  have B142 := Lib.hid (B127n.out.kept hb)
  have T143 := Lib.hid (T132.out.kept hb)
  have T144 := Lib.hid (T133.out.kept hb)
  have T145 := Lib.hid (T134.out.kept hb)
  have H146 := Lib.hid (H135.out.trans (hb.mono H135.out.size))
  rw [HV3.out]
  clear bf136 bg136 bh136 bz136 bf137 bg137 bh137 bz137
  clear hb
  rcases b with _ | _
  · skip
    obtain ⟨bf147, bg147, bh147, bz147⟩ := B141.out
    obtain ⟨bf148, bg148, bh148, bz148⟩ := B142.out
    go_wp2_with fail
    go_at_call 16
    refine (typeSame_impl T T 0 _ _ _ HNT.out T144.out T145.out).mono ?_
    rintro e w4 ⟨rfl, hb⟩
    have Z150 := Lib.hid (show w3.heap.size ≤ w4.heap.size from hb.size)
    have B151 := Lib.hid (B140.out.kept hb)
    have B152 := Lib.hid (B141.out.kept hb)
    have B153 := Lib.hid (B142.out.kept hb)
    have T154 := Lib.hid (T143.out.kept hb)
    have T155 := Lib.hid (T144.out.kept hb)
    have T156 := Lib.hid (T145.out.kept hb)
    have H157 := Lib.hid (H146.out.trans (hb.mono H146.out.size))
    rw [HV3.out]
    clear bf147 bg147 bh147 bz147 bf148 bg148 bh148 bz148
    clear hb
    go_wp2_with fail
    go_ret
    exact ⟨rfl, H157.out⟩
  · skip
    have HTVV := Lib.hid (HTVV0.out rfl)
    obtain ⟨hvt, hct⟩ := HTB.out rfl
    have HVT := Lib.hid hvt
    have HCT := Lib.hid hct
    clear hvt hct
    obtain ⟨vs, hvs⟩ : ∃ vs, varsT t = vs := ⟨_, rfl⟩
    have HVS := Lib.hid hvs
    obtain ⟨hv26, hvq⟩ := varsT_small HVT.out hvs
    have HVQ := Lib.hid hvq
    have HTV : Hid (tvT T = true) := Lib.hid HTVV.out
    have HR2 : Hid (svT t (lsT vs vs.length) = some T) := Lib.hid (canon_sub HVT.out HCT.out hvs HTV.out hv26)
    clear hvs hvq
    obtain ⟨i0, hi0, hz0, hz1, hz2⟩ := info_parts infoTy
    obtain ⟨B0, hB0⟩ : ∃ B, w3.heap.size = B := ⟨_, rfl⟩
    have HB0 := Lib.hid hB0
    have HB3 : Hid (Below B0 w3 (w3.alloc (.cells #[] 29))) := Lib.hid (by rw [← hB0]; exact (Below.refl _ _).alloc (Nat.le_refl _) _)
    have HOW : Hid ((w3.alloc (.cells #[] 29)).ownsRow B0 29 3 (.slice (some ⟨B0, 0, none⟩) 0 0) 0 (rw3 (List.replicate 0 (.node 1 0 [])))) := Lib.hid (by
      have h := World.ownsRow_lit (e := 29) (size := 3) w3 #[] 0 (Nat.le_of_eq hB0.symm) (by decide) rfl
      rw [hB0] at h
      exact h)
    have hz3 : B0 + 1 ≤ (w3.alloc (.cells #[] 29)).heap.size := by rw [← hB0]; simp
    obtain ⟨W3, hW3⟩ : ∃ W, w3.alloc (.cells #[] 29) = W := ⟨_, rfl⟩
    rw [hW3] at HOW HB3 hz3
    have HW3 := Lib.hid hW3
    clear hW3
    obtain ⟨bf147, bg147, bh147, bz147⟩ := B140.out
    go_wp2_with fail
    rw [HW3.out]
    clear hB0
    go_loopw [8, 9] (fun cv i wr => ∃ (j : Nat) (g c : Nat), j ≤ 26 ∧ i = .int .i64 j ∧ cv = .slice (some ⟨g, 0, none⟩) j c ∧ Hid (wr.ownsRow B0 29 3 (.slice (some ⟨g, 0, none⟩) j c) j (rw3 (List.replicate j (.node 1 0 [])))) ∧ Hid (Below B0 w3 wr) ∧ B0 + 1 ≤ wr.heap.size) (fun _ i _ => 26 - (intOf i).toNat)
    case atStart => exact ⟨0, B0, 0, by omega, rfl, rfl, HOW, HB3, hz3⟩
    case round =>
      obtain ⟨j, g, c, hj, rfl, rfl, HO4, HB4, hz4⟩ := hrel
      by_cases hlt : j ≤ 25
      · have hji : (j : Int) ≤ 25 := by omega
        go_wp2_with (first | (at_builtin; refine wpList_append_lies _ rfl _ _ 27 rfl B0 29 i0 _ 3 40 Try.underlying27 hi0 hz0 hz1 hz2 rfl (by omega) (.slice (some ⟨g, 0, none⟩) j c) j (rw3 (List.replicate j (.node 1 0 []))) rfl (HO4.out.alloc _) ⟨wr.heap.size, 0, none⟩ 1 1 [.int .i64 1, .int .i64 0, .slice none 0 0] rfl rfl (World.news_of_block (cs := #[.int .i64 1, .int .i64 0, .slice none 0 0]) (t := 29) (fr := (0, 0)) (heap_alloc_new wr _)) (by simp [Value.oneCell']) (by omega) (by unfold maxLen; omega) (by omega) (by simp; omega) (wr.heap.size + 1) (by simp) ?_; intro g6 cap6 w6 hown6 hgrow6 hat6 hlt6))
        have HO6 : Hid (w6.ownsRow B0 29 3 (.slice (some ⟨g6, 0, none⟩) (j + 1) cap6) (j + 1) (rw3 (List.replicate (j + 1) (.node 1 0 [])))) := Lib.hid (by rw [List.replicate_succ', rw3_snoc]; exact hown6)
        have HB6 : Hid (Below B0 w3 w6) := Lib.hid ((HB4.out.alloc (by omega) _).grown hgrow6 (by simp; omega) (fun q e => (own_low HO4.out e).1))
        have hz6 : B0 + 1 ≤ w6.heap.size := by have := grow_size hgrow6; omega
        clear hown6 hgrow6 hat6
        go_roundw
        case rel => exact ⟨j + 1, g6, cap6, by omega, by go_num, rfl, HO6, HB6, hz6⟩
        case measure => simp [intOf]; omega
      · obtain rfl : j = 26 := by omega
        have hji : ¬ ((26 : Nat) : Int) ≤ 25 := by omega
        have hbw : Below w3.heap.size w3 wr := by rw [HB0.out]; exact HB4.out
        have Z149 := Lib.hid (show w3.heap.size ≤ wr.heap.size from hbw.size)
        have B150 := Lib.hid (B140.out.kept hbw)
        have B151 := Lib.hid (B141.out.kept hbw)
        have B152 := Lib.hid (B142.out.kept hbw)
        have T153 := Lib.hid (T143.out.kept hbw)
        have T154 := Lib.hid (T144.out.kept hbw)
        have T155 := Lib.hid (T145.out.kept hbw)
        have H156 := Lib.hid (H146.out.trans (hbw.mono H146.out.size))
        clear hbw
        obtain ⟨bf157, bg157, bh157, bz157⟩ := B150.out
        go_wp2_with fail
        go_at_call 30
        refine (typeVars_impl HVS.out _ _ T153.out.at).mono ?_
        rintro e w5 ⟨lv, rfl, hli, hb⟩
        obtain ⟨la, lc, rfl⟩ := ints_slice hli
        have HLI := Lib.hid hli
        have HO5 := Lib.hid (own_below HO4.out hb)
        have HB5 : Hid (Below B0 w3 w5) := Lib.hid (HB4.out.trans (hb.mono (by omega)))
        have hgw := (own_low HO4.out (g := g) rfl)
        have HWR5 := Lib.hid hb.size
        clear hli
        have Z159 := Lib.hid (show wr.heap.size ≤ w5.heap.size from hb.size)
        have B160 := Lib.hid (B150.out.kept hb)
        have B161 := Lib.hid (B151.out.kept hb)
        have B162 := Lib.hid (B152.out.kept hb)
        have T163 := Lib.hid (T153.out.kept hb)
        have T164 := Lib.hid (T154.out.kept hb)
        have T165 := Lib.hid (T155.out.kept hb)
        have H166 := Lib.hid (H156.out.trans (hb.mono H156.out.size))
        clear bf147 bg147 bh147 bz147 bf157 bg157 bh157 bz157
        clear hb
        obtain ⟨B1, hB1⟩ : ∃ B, wr.heap.size = B := ⟨_, rfl⟩
        rw [hB1] at HLI hgw
        have hz5 : B1 ≤ w5.heap.size := by rw [← hB1]; have := HWR5.out; omega
        clear hB1
        have HO50 : Hid (w5.ownsRow B0 29 3 (.slice (some ⟨g, 0, none⟩) 26 c) 26 (rw3 (lsT vs 0))) := Lib.hid (by rw [lsT_zero]; exact HO5.out)
        go_wp2_with fail
        go_loopw [11] (fun i wx => ∃ j : Nat, j ≤ vs.length ∧ i = .int .i64 j ∧ Hid (wx.ownsRow B0 29 3 (.slice (some ⟨g, 0, none⟩) 26 c) 26 (rw3 (lsT vs j))) ∧ Hid (IntsAt wx B1 (.slice la vs.length lc) vs) ∧ Hid (Below B0 w3 wx)) (fun i _ => vs.length - (intOf i).toNat)
        case atStart => exact ⟨0, Nat.zero_le _, rfl, HO50, HLI, HB5⟩
        case round =>
          obtain ⟨j, hj, rfl, HOX, HLX, HBX⟩ := hrel
          by_cases hlt2 : j < vs.length
          · obtain ⟨q, hq26, hqv⟩ := HVQ.out j hlt2
            obtain ⟨gi, rfl⟩ : ∃ gi, la = some ⟨gi, 0, none⟩ := by
              obtain ⟨_, ⟨h, h0⟩ | ⟨gi, cap2, cur, h, _⟩⟩ := HLX.out
              · omega
              · injection h with h; exact ⟨gi, h⟩
            have hci : wr.cell? ⟨gi, j, none⟩ = some (.int .i64 (q : Int)) := by
              have h := HLX.out.cellAt j (by simpa using hlt2)
              rw [h, List.getElem?_map, ← hqv]
              simp [List.getD, hlt2]
            have hlq : q < (lsT vs j).length := by rw [lsT_len]; exact hq26
            obtain ⟨n0, n1, n2⟩ := rw3_get (lsT vs j) q hlq
            have k0 := (HOX.out.cellAt (q * 3) (by omega)).trans n0
            have k1 := (HOX.out.cellAt (q * 3 + 1) (by omega)).trans n1
            have k2 := (HOX.out.cellAt (q * 3 + 2) (by omega)).trans n2
            have m0 := HOX.out.frozenAt (q * 3)
            have m1 := HOX.out.frozenAt (q * 3 + 1)
            have m2 := HOX.out.frozenAt (q * 3 + 2)
            have hji : (j : Int) < (vs.length : Int) := by omega
            have hqi : (q : Int) < 26 := by omega
            have HQV := Lib.hid hqv
            obtain ⟨s1, _⟩ := HOX.out.stored (q * 3) (.int .i64 4)
            obtain ⟨s2, _⟩ := s1.stored (q * 3 + 1) (.int .i64 (j : Int))
            obtain ⟨s3, _⟩ := s2.stored (q * 3 + 2) (.slice none 0 0)
            have HS3 := Lib.hid s3
            clear n0 n1 n2 hlq hqv s1 s2 s3
            go_wp2_with fail
            go_roundw
            case rel =>
              refine ⟨j + 1, by omega, by go_num, Lib.hid ?_, Lib.hid ?_, Lib.hid ?_⟩
              · rw [lsT_succ vs j q HQV.out, rw3_set _ _ _ (by rw [lsT_len]; exact hq26)]
                exact HS3.out
              · exact own_keep HLX.out (fun b h1 _ => by rw [heap_setCell_other _ ⟨g, q * 3 + 2, none⟩ b _ (by show b ≠ g; omega), heap_setCell_other _ ⟨g, q * 3 + 1, none⟩ b _ (by show b ≠ g; omega), heap_setCell_other _ ⟨g, q * 3, none⟩ b _ (by show b ≠ g; omega)])
              · exact ((HBX.out.setCell (p := ⟨g, q * 3, none⟩) hgw.1 _).setCell (p := ⟨g, q * 3 + 1, none⟩) hgw.1 _).setCell (p := ⟨g, q * 3 + 2, none⟩) hgw.1 _
            case measure => simp [intOf]; omega
          · obtain rfl : j = vs.length := by omega
            have hji : ¬ (vs.length : Int) < (vs.length : Int) := by omega
            have HLS : Hid (TyAt wr (.node 0 0 (lsT vs vs.length)) (.slice (some ⟨g, 0, none⟩) 26 c)) := Lib.hid (by
              have h := rw3_at (ls := lsT vs vs.length) (w := wr) (B := B0) (g := g) (cap := c) (by rw [lsT_len]; exact HOX.out) (fun i hi => lsT_bare vs _ i (by rw [lsT_len] at hi; exact hi)) (by rw [lsT_len]; omega)
              rw [lsT_len] at h
              exact h)
            have hbz : Below w3.heap.size w3 wr := by rw [HB0.out]; exact HBX.out
            have Z149 := Lib.hid (show w3.heap.size ≤ wr.heap.size from hbz.size)
            have B150 := Lib.hid (B140.out.kept hbz)
            have B151 := Lib.hid (B141.out.kept hbz)
            have B152 := Lib.hid (B142.out.kept hbz)
            have T153 := Lib.hid (T143.out.kept hbz)
            have T154 := Lib.hid (T144.out.kept hbz)
            have T155 := Lib.hid (T145.out.kept hbz)
            have H156 := Lib.hid (H146.out.trans (hbz.mono H146.out.size))
            clear hbz
            obtain ⟨bf157, bg157, bh157, bz157⟩ := B150.out
            go_wp2_with fail
            go_at_call 28
            refine (substVars_impl t (lsT vs vs.length) _ _ _ T153.out.at HLS.out (some T) HR2.out).mono ?_
            rintro e w6 ⟨v6, rfl, hty6, hb⟩
            obtain ⟨a6, k6, rfl, _⟩ := hty6.at.slice
            have T6 := Lib.hid hty6.ok
            clear bf157 bg157 bh157 bz157
            have Z159 := Lib.hid (show wr.heap.size ≤ w6.heap.size from hb.size)
            have B160 := Lib.hid (B150.out.kept hb)
            have B161 := Lib.hid (B151.out.kept hb)
            have B162 := Lib.hid (B152.out.kept hb)
            have T163 := Lib.hid (T153.out.kept hb)
            have T164 := Lib.hid (T154.out.kept hb)
            have T165 := Lib.hid (T155.out.kept hb)
            have H166 := Lib.hid (H156.out.trans (hb.mono H156.out.size))
            clear hb hty6
            obtain ⟨W6, hW167⟩ : ∃ W, w6.alloc (.cells #[.int .i64 T.k, .int .i64 T.n, .slice a6 T.ks.length k6] 29) = W := ⟨_, rfl⟩
            have hA167 : Below w6.heap.size w6 W6 := by rw [← hW167]; exact (Below.refl _ _).alloc (Nat.le_refl _) _
            have hZ167 : W6.heap.size = w6.heap.size + 1 := by rw [← hW167]; simp
            have B167n : Hid (TBox W6 w6.heap.size (.int .i64 T.k) (.int .i64 T.n) (.slice a6 T.ks.length k6)) := Lib.hid (by rw [← hW167]; exact tbox_new w6 _ _ _ _)
            have Zb167 := Lib.hid hZ167
            have Z169 := Lib.hid (show w6.heap.size ≤ W6.heap.size from hA167.size)
            have B170 := Lib.hid (B160.out.kept hA167)
            have B171 := Lib.hid (B161.out.kept hA167)
            have B172 := Lib.hid (B162.out.kept hA167)
            have T173 := Lib.hid (T163.out.kept hA167)
            have T174 := Lib.hid (T164.out.kept hA167)
            have T175 := Lib.hid (T165.out.kept hA167)
            have T176 := Lib.hid (T6.out.kept hA167)
            have H177 := Lib.hid (H166.out.trans (hA167.mono H166.out.size))
            clear hA167 hZ167
            obtain ⟨bf178, bg178, bh178, bz178⟩ := B171.out
            obtain ⟨bf179, bg179, bh179, bz179⟩ := B167n.out
            go_wp2_with fail
            clear hW167
            go_at_call 16
            refine (typeSame_impl T T 0 _ _ _ HNT.out T174.out T176.out).mono ?_
            rintro e w7 ⟨rfl, hb⟩
            have Z181 := Lib.hid (show W6.heap.size ≤ w7.heap.size from hb.size)
            have B182 := Lib.hid (B170.out.kept hb)
            have B183 := Lib.hid (B171.out.kept hb)
            have B184 := Lib.hid (B172.out.kept hb)
            have B185 := Lib.hid (B167n.out.kept hb)
            have T186 := Lib.hid (T173.out.kept hb)
            have T187 := Lib.hid (T174.out.kept hb)
            have T188 := Lib.hid (T175.out.kept hb)
            have T189 := Lib.hid (T176.out.kept hb)
            have H190 := Lib.hid (H177.out.trans (hb.mono H177.out.size))
            rw [HV3.out]
            clear bf178 bg178 bh178 bz178 bf179 bg179 bh179 bz179
            clear hb
            go_wp2_with fail
            go_ret
            exact ⟨rfl, H190.out⟩

set_option maxRecDepth 100000 in
theorem lifted (os : Os) (started : os.Started) (H : Type) (enc : TypeId × Value → H) :
    ReturnsInHanded {} Try.checked os 12 .any (Rows.fnCanonSubstSpec.pre6 enc Try.prog Try.f12 Rows.fnCanonSubstRow.domain false) (Rows.fnCanonSubstSpec.post enc Try.prog Try.f12 false true false false) := by
  refine returnsInHanded_of_change (C := Try.checked) own started (by kernel_rfl) Try.func12
    (ChangeSpec.witness6 (enc := enc) (C := Try.checked) false ⟨#[], #[.slice none 0 0], []⟩ 8 (by kernel_rfl) (by kernel_rfl) (by kernel_rfl) (by kernel_rfl)) ?_
  intro W base args ds gs before hval0 hW hcnd _
  have hval : ∀ (j : Nat) t v, Try.f12.params[j]? = some t → args[j]? = some v → Value.okWide Try.prog W .any base t v := hval0
  have hW' := hW
  obtain ⟨p, q, hA0, hV, rfl, hfz, hnd⟩ := hW
  have hA : DataW.TrodAll enc Try.prog W 0 (fun _ => true) true Try.f12.params.toList args.toList ds p := hA0
  rw [Try.params12] at hA hval
  obtain ⟨v0, vs0, d0, ds0, p0, q0, hargs, rfl, rfl, h0, r0⟩ := trodAll_cons hA
  obtain ⟨rfl, rfl, rfl⟩ := trodAll_nil r0
  obtain rfl : args = #[v0] := by cases args; simp_all
  obtain ⟨rfl, rfl⟩ := trodVars_none hV
  have k0 := h0
  have lt0 : ∀ x ∈ p0, x.block < W.heap.size := by obtain ⟨m, hm⟩ := k0; exact DataW.trod_lt m _ _ _ hm
  obtain ⟨a0, len0, cap0, rfl⟩ := okWide_slice Try.underlying35 (hval 0 35 v0 rfl rfl)
  obtain ⟨z0, w0⟩ : ∃ zs, IsRow W a0 len0 cap0 zs := by
    obtain ⟨fuel, hf⟩ := h0
    rcases open_ints Try.underlying35 Try.underlying5 (by kernel_rfl) hf with ⟨hcs, _⟩ | ⟨x, l, c, zs, hcs, _, hl, hm, hz, _, hcell, hwz⟩
    · simp [Value.cells] at hcs
      obtain ⟨rfl, rfl, rfl⟩ := hcs
      exact ⟨[], .inl ⟨rfl, rfl, rfl, rfl⟩⟩
    · simp [Value.cells] at hcs
      obtain ⟨rfl, rfl, rfl⟩ := hcs
      exact ⟨zs, .inr ⟨_, rfl, hl, hm, by simpa using hz, hcell, hwz⟩⟩
  clear hA0 hval0
  refine (walk a0 len0 cap0 z0 W w0).mono fun e W' ⟨he, bel⟩ => ?_
  subst he
  exact ⟨_, rfl, _, _, _, [], _, [], hW', trodAll_mk1 (shut_bool Try.underlying4 _), (trodAll_cons_mk (Below.trod laidOut (by kernel_rfl) (of_decide_eq_true (by kernel_rfl)) k0 bel lt0) trodAll_mk0), rfl, bel.frame _, fun h => by cases h⟩

theorem over : Rows.fnCanonSubstRow.holds Try.pinned (OpenSpec.ofChange Rows.fnCanonSubstSpec) :=
  OpenClaim.holds_of_wide 12 Try.f12 rfl rfl rfl rfl rfl rfl rfl ⟨rfl, rfl, rfl, rfl, rfl⟩ rfl rfl rfl rfl rfl (by kernel_rfl) Try.func12 (by kernel_rfl)
    (of_decide_eq_true (by kernel_rfl)) (by unfold Func.isWrapper; first | (rw [if_pos (by decide +kernel)]; kernel_rfl) | (rw [if_neg (by decide +kernel)]; exact ⟨rfl, rfl⟩))
    (fun os started H enc _ => lifted os started H enc)

/-- The given statement. -/
theorem proved : Rows.FnCanonSubstSaid := over
end Go.Proofs.Ytncpakpamfocbab.fnCanonSubst
