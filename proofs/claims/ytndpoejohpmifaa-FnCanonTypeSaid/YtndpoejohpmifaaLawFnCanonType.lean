/-
  FnCanonType returns true for every slice of bytes: a canonical type is its own canonical type, has the variables 0, 1, 2, .. in order, and is an instance of the type as the type is of it. No conditions.
-/
import Derived.Test.YtndpoejohpmifaaRows
import Derived.ProofKit
import Derived.OpenShut
import Derived.ShutString
import Derived.ChangeOld
import Derived.Below
import Derived.Lib.SmallJoins
import Derived.Test.YtndpoejohpmifaaQac
import Derived.Test.YtndpoejohpmifaaPce
import Derived.Test.YtndpoejohpmifaaBh
import Derived.Test.YtndpoejohpmifaaAl
import Derived.Test.YtndpoejohpmifaaGae
import Derived.Test.YtndpoejohpmifaaZln
namespace Go.Proofs.Ytndpoejohpmifaa.fnCanonType
open Go.Proofs.Ytndpoejohpmifaa
open Go.ChangeShapes Go.WideShapes Go.ChangeAt Go.RowKit Go.Joins
open Go.ChangeMaps (open_string shut_string)
set_option linter.unusedVariables false
set_option linter.unusedSimpArgs false

theorem own : ownKnob Try.prog.godebug = none := by kernel_rfl
theorem laidOut : laidOutB Try.prog = true := by kernel_rfl

theorem optN {t : Ty} {r : Option Ty} (h : cnT t = r) : nodes (optT r) ≤ 1048577 := by
  rcases r with _ | X
  · show nodes (.node 0 0 []) ≤ _
    simp [nodes, nodesL]
  · have hv : tvT X = true := by
      rcases h2 : tvT t with _ | _
      · rw [cnT_no h2] at h; cases h
      · rw [cnT_yes h2] at h; injection h with h; rw [← h]; exact canT_valid h2
    have h := nodes_shp 16 X (tvT_shp hv)
    have e : (2 : Nat) ^ 16 = 65536 := by decide
    show nodes X ≤ _
    omega
set_option maxRecDepth 100000 in
set_option maxHeartbeats 16000000 in
theorem walk (a : Option Addr) (len cap : Nat) (zs : List Int) (w : World) (hrow : IsRow w a len cap zs) :
    Calls Try.prog 5 #[.slice a len cap] w fun e w' => e = .returned (.bool true) ∧ Below w.heap.size w w' := by
  have HRow := Lib.hid hrow
  have hm := hrow.len
  unfold maxLen at hm
  clear hrow
  by_cases hl : len ≤ 1048576
  case neg =>
    go_enter Try.func5, Try.ntmps5
    go_wp2
    all_goals go_ret
    all_goals exact ⟨rfl, Below.refl _ _⟩
  go_enter Try.func5, Try.ntmps5
  go_wp2_with fail
  go_at_call 24
  refine (drawCanonType_any a len cap zs _ HRow.out).mono ?_
  rintro e w0 ⟨t, vt, hnt, rfl, htt, hb0⟩
  have H0 := Lib.hid hb0
  have TT := Lib.hid htt
  obtain ⟨at_, ct, rfl, _⟩ := htt.at.slice
  have HNt : Hid (nodes t ≤ 1048577) := Lib.hid (by omega)
  clear hb0 htt hnt
  obtain ⟨r1, hr1⟩ : ∃ r, cnT t = r := ⟨_, rfl⟩
  have HRR1 := Lib.hid hr1
  obtain ⟨T1, hT1⟩ : ∃ T, optT r1 = T := ⟨_, rfl⟩
  obtain ⟨b1, hb1⟩ : ∃ b, r1.isSome = b := ⟨_, rfl⟩
  have HNT1 : Hid (nodes T1 ≤ 1048577) := Lib.hid (by rw [← hT1]; exact optN hr1)
  have HVA1 : Hid (tvT t = b1) := Lib.hid (by
    rw [← hb1, ← hr1]
    rcases h : tvT t with _ | _
    · rw [cnT_no h]; rfl
    · rw [cnT_yes h]; rfl)
  have HCA1 : Hid (b1 = true → canT t = T1) := Lib.hid (fun h => by
    rw [HVA1.out.symm] at h
    rw [← hT1, ← hr1, cnT_yes h]; rfl)
  have HF1 : Hid (∀ (w : World) (e : Ending) (w' : World), OptRet r1 w e w' → ∃ v, e = .returned (.tuple #[.agg #[.int .i64 T1.k, .int .i64 T1.n, v], .bool b1]) ∧ TyIn w' w.heap.size w'.heap.size T1 v ∧ Below w.heap.size w w') := Lib.hid (by rw [← hT1, ← hb1]; exact fun w e w' h => h.flat)
  have hbb1 : (b1 != b1) = false := by cases b1 <;> rfl
  have hbe1 : (b1 == b1) = true := by cases b1 <;> rfl
  have HV1 : Hid (sameB T1 T1 = true) := Lib.hid (sameB_yes rfl)
  clear hT1 hb1 hr1
  obtain ⟨W0, hW101⟩ : ∃ W, w0.alloc (.cells #[.int .i64 t.k, .int .i64 t.n, .slice at_ t.ks.length ct] 25) = W := ⟨_, rfl⟩
  have hA101 : Below w0.heap.size w0 W0 := by rw [← hW101]; exact (Below.refl _ _).alloc (Nat.le_refl _) _
  have hZ101 : W0.heap.size = w0.heap.size + 1 := by rw [← hW101]; simp
  have B101n : Hid (TBox W0 w0.heap.size (.int .i64 t.k) (.int .i64 t.n) (.slice at_ t.ks.length ct)) := Lib.hid (by rw [← hW101]; exact tbox_new w0 _ _ _ _)
  have Zb101 := Lib.hid hZ101
  have Z103 := Lib.hid (show w0.heap.size ≤ W0.heap.size from hA101.size)
  have T104 := Lib.hid (TT.out.kept hA101)
  have H105 := Lib.hid (H0.out.trans (hA101.mono H0.out.size))
  clear hA101 hZ101
  obtain ⟨bf106, bg106, bh106, bz106⟩ := B101n.out
  go_wp2_with fail
  clear hW101
  go_at_call 23
  refine (canonType_impl t _ _ T104.out.at r1 HRR1.out).mono ?_
  intro e w1 hret
  obtain ⟨vx, rfl, htyx, hb⟩ := HF1.out _ _ _ hret
  obtain ⟨ax, kx, rfl, _⟩ := htyx.at.slice
  have Txo := Lib.hid htyx.ok
  clear bf106 bg106 bh106 bz106
  have Z108 := Lib.hid (show W0.heap.size ≤ w1.heap.size from hb.size)
  have B109 := Lib.hid (B101n.out.kept hb)
  have T110 := Lib.hid (T104.out.kept hb)
  have H111 := Lib.hid (H105.out.trans (hb.mono H105.out.size))
  clear hb hret htyx
  obtain ⟨W1, hW112⟩ : ∃ W, w1.alloc (.cells #[.int .i64 T1.k, .int .i64 T1.n, .slice ax T1.ks.length kx] 25) = W := ⟨_, rfl⟩
  have hA112 : Below w1.heap.size w1 W1 := by rw [← hW112]; exact (Below.refl _ _).alloc (Nat.le_refl _) _
  have hZ112 : W1.heap.size = w1.heap.size + 1 := by rw [← hW112]; simp
  have B112n : Hid (TBox W1 w1.heap.size (.int .i64 T1.k) (.int .i64 T1.n) (.slice ax T1.ks.length kx)) := Lib.hid (by rw [← hW112]; exact tbox_new w1 _ _ _ _)
  have Zb112 := Lib.hid hZ112
  have Z114 := Lib.hid (show w1.heap.size ≤ W1.heap.size from hA112.size)
  have B115 := Lib.hid (B109.out.kept hA112)
  have T116 := Lib.hid (T110.out.kept hA112)
  have T117 := Lib.hid (Txo.out.kept hA112)
  have H118 := Lib.hid (H111.out.trans (hA112.mono H111.out.size))
  clear hA112 hZ112
  obtain ⟨bf119, bg119, bh119, bz119⟩ := B115.out
  go_wp2_with fail
  clear hW112
  go_at_call 25
  refine (canonType_spec t _ _ T116.out.at r1 HRR1.out).mono ?_
  intro e w2 hret
  obtain ⟨vw, rfl, htyw, hb⟩ := HF1.out _ _ _ hret
  obtain ⟨aw, kw, rfl, _⟩ := htyw.at.slice
  have Two := Lib.hid htyw.ok
  clear bf119 bg119 bh119 bz119
  have Z121 := Lib.hid (show W1.heap.size ≤ w2.heap.size from hb.size)
  have B122 := Lib.hid (B115.out.kept hb)
  have B123 := Lib.hid (B112n.out.kept hb)
  have T124 := Lib.hid (T116.out.kept hb)
  have T125 := Lib.hid (T117.out.kept hb)
  have H126 := Lib.hid (H118.out.trans (hb.mono H118.out.size))
  clear hb hret htyw
  obtain ⟨W2, hW127⟩ : ∃ W, w2.alloc (.cells #[.int .i64 T1.k, .int .i64 T1.n, .slice aw T1.ks.length kw] 25) = W := ⟨_, rfl⟩
  have hA127 : Below w2.heap.size w2 W2 := by rw [← hW127]; exact (Below.refl _ _).alloc (Nat.le_refl _) _
  have hZ127 : W2.heap.size = w2.heap.size + 1 := by rw [← hW127]; simp
  have B127n : Hid (TBox W2 w2.heap.size (.int .i64 T1.k) (.int .i64 T1.n) (.slice aw T1.ks.length kw)) := Lib.hid (by rw [← hW127]; exact tbox_new w2 _ _ _ _)
  have Zb127 := Lib.hid hZ127
  have Z129 := Lib.hid (show w2.heap.size ≤ W2.heap.size from hA127.size)
  have B130 := Lib.hid (B122.out.kept hA127)
  have B131 := Lib.hid (B123.out.kept hA127)
  have T132 := Lib.hid (T124.out.kept hA127)
  have T133 := Lib.hid (T125.out.kept hA127)
  have T134 := Lib.hid (Two.out.kept hA127)
  have H135 := Lib.hid (H126.out.trans (hA127.mono H126.out.size))
  clear hA127 hZ127
  obtain ⟨bf136, bg136, bh136, bz136⟩ := B131.out
  obtain ⟨bf137, bg137, bh137, bz137⟩ := B127n.out
  go_wp2_with fail
  clear hW127
  go_at_call 17
  refine (typeSame_impl T1 T1 0 _ _ _ HNT1.out T133.out T134.out).mono ?_
  rintro e w3 ⟨rfl, hb⟩
  have Z139 := Lib.hid (show W2.heap.size ≤ w3.heap.size from hb.size)
  have B140 := Lib.hid (B130.out.kept hb)
  have B141 := Lib.hid (B131.out.kept hb)
  have B142 := Lib.hid (B127n.out.kept hb)
  have T143 := Lib.hid (T132.out.kept hb)
  have T144 := Lib.hid (T133.out.kept hb)
  have T145 := Lib.hid (T134.out.kept hb)
  have H146 := Lib.hid (H135.out.trans (hb.mono H135.out.size))
  rw [HV1.out]
  clear bf136 bg136 bh136 bz136 bf137 bg137 bh137 bz137
  clear hb
  obtain ⟨bf147, bg147, bh147, bz147⟩ := B140.out
  go_wp2_with fail
  go_at_call 15
  refine (typeValid_impl t _ _ T143.out.at).mono ?_
  rintro e w4 ⟨rfl, hb⟩
  have Z149 := Lib.hid (show w3.heap.size ≤ w4.heap.size from hb.size)
  have B150 := Lib.hid (B140.out.kept hb)
  have B151 := Lib.hid (B141.out.kept hb)
  have B152 := Lib.hid (B142.out.kept hb)
  have T153 := Lib.hid (T143.out.kept hb)
  have T154 := Lib.hid (T144.out.kept hb)
  have T155 := Lib.hid (T145.out.kept hb)
  have H156 := Lib.hid (H146.out.trans (hb.mono H146.out.size))
  rw [HVA1.out]
  clear bf147 bg147 bh147 bz147
  clear hb
  rcases b1 with _ | _
  · skip
    obtain ⟨bf157, bg157, bh157, bz157⟩ := B151.out
    obtain ⟨bf158, bg158, bh158, bz158⟩ := B152.out
    go_wp2_with fail
    go_at_call 17
    refine (typeSame_impl T1 T1 0 _ _ _ HNT1.out T154.out T155.out).mono ?_
    rintro e w5 ⟨rfl, hb⟩
    have Z160 := Lib.hid (show w4.heap.size ≤ w5.heap.size from hb.size)
    have B161 := Lib.hid (B150.out.kept hb)
    have B162 := Lib.hid (B151.out.kept hb)
    have B163 := Lib.hid (B152.out.kept hb)
    have T164 := Lib.hid (T153.out.kept hb)
    have T165 := Lib.hid (T154.out.kept hb)
    have T166 := Lib.hid (T155.out.kept hb)
    have H167 := Lib.hid (H156.out.trans (hb.mono H156.out.size))
    rw [HV1.out]
    clear bf157 bg157 bh157 bz157 bf158 bg158 bh158 bz158
    clear hb
    obtain ⟨bf168, bg168, bh168, bz168⟩ := B161.out
    go_wp2_with fail
    go_at_call 15
    refine (typeValid_impl t _ _ T164.out.at).mono ?_
    rintro e w6 ⟨rfl, hb⟩
    have Z170 := Lib.hid (show w5.heap.size ≤ w6.heap.size from hb.size)
    have B171 := Lib.hid (B161.out.kept hb)
    have B172 := Lib.hid (B162.out.kept hb)
    have B173 := Lib.hid (B163.out.kept hb)
    have T174 := Lib.hid (T164.out.kept hb)
    have T175 := Lib.hid (T165.out.kept hb)
    have T176 := Lib.hid (T166.out.kept hb)
    have H177 := Lib.hid (H167.out.trans (hb.mono H167.out.size))
    rw [HVA1.out]
    clear bf168 bg168 bh168 bz168
    clear hb
    go_wp2_with fail
    go_ret
    exact ⟨rfl, H177.out⟩
  · skip
    have HVT := Lib.hid HVA1.out
    have HCT := Lib.hid (HCA1.out rfl)
    have HCV : Hid (tvT T1 = true) := Lib.hid (by rw [← HCT.out]; exact canT_valid HVT.out)
    have HCC : Hid (cnT T1 = some T1) := Lib.hid (by rw [cnT_yes HCV.out, ← HCT.out, canT_twice (tvT_shp HVT.out)])
    have HI1 : Hid (Mx.instB T1 t = true) := Lib.hid (by rw [← HCT.out]; exact (inst_can HVT.out).1)
    have HI2 : Hid (Mx.instB t T1 = true) := Lib.hid (by rw [← HCT.out]; exact (inst_can HVT.out).2)
    obtain ⟨L, hL⟩ : ∃ L, (varsT t).length = L := ⟨_, rfl⟩
    have hLs : L ≤ 26 := by rw [← hL]; exact (varsT_small HVT.out rfl).1
    have HVS : Hid (varsT T1 = iota L) := Lib.hid (by rw [← HCT.out, ← hL]; exact vars_can HVT.out)
    clear hL
    obtain ⟨bf157, bg157, bh157, bz157⟩ := B151.out
    go_wp2_with fail
    go_at_call 23
    refine (canonType_impl T1 _ _ T154.out.at (some T1) HCC.out).mono ?_
    rintro e w5 ⟨vy, rfl, htyy, hb⟩
    obtain ⟨ay, ky, rfl, _⟩ := htyy.at.slice
    have Tyo := Lib.hid htyy.ok
    clear bf157 bg157 bh157 bz157
    have Z159 := Lib.hid (show w4.heap.size ≤ w5.heap.size from hb.size)
    have B160 := Lib.hid (B150.out.kept hb)
    have B161 := Lib.hid (B151.out.kept hb)
    have B162 := Lib.hid (B152.out.kept hb)
    have T163 := Lib.hid (T153.out.kept hb)
    have T164 := Lib.hid (T154.out.kept hb)
    have T165 := Lib.hid (T155.out.kept hb)
    have H166 := Lib.hid (H156.out.trans (hb.mono H156.out.size))
    clear hb htyy
    obtain ⟨W6, hW167⟩ : ∃ W, w5.alloc (.cells #[.int .i64 T1.k, .int .i64 T1.n, .slice ay T1.ks.length ky] 25) = W := ⟨_, rfl⟩
    have hA167 : Below w5.heap.size w5 W6 := by rw [← hW167]; exact (Below.refl _ _).alloc (Nat.le_refl _) _
    have hZ167 : W6.heap.size = w5.heap.size + 1 := by rw [← hW167]; simp
    have B167n : Hid (TBox W6 w5.heap.size (.int .i64 T1.k) (.int .i64 T1.n) (.slice ay T1.ks.length ky)) := Lib.hid (by rw [← hW167]; exact tbox_new w5 _ _ _ _)
    have Zb167 := Lib.hid hZ167
    have Z169 := Lib.hid (show w5.heap.size ≤ W6.heap.size from hA167.size)
    have B170 := Lib.hid (B160.out.kept hA167)
    have B171 := Lib.hid (B161.out.kept hA167)
    have B172 := Lib.hid (B162.out.kept hA167)
    have T173 := Lib.hid (T163.out.kept hA167)
    have T174 := Lib.hid (T164.out.kept hA167)
    have T175 := Lib.hid (T165.out.kept hA167)
    have T176 := Lib.hid (Tyo.out.kept hA167)
    have H177 := Lib.hid (H166.out.trans (hA167.mono H166.out.size))
    clear hA167 hZ167
    obtain ⟨bf178, bg178, bh178, bz178⟩ := B171.out
    go_wp2_with fail
    clear hW167
    go_at_call 26
    refine (typeVars_impl HVS.out _ _ T174.out.at).mono ?_
    rintro e w7 ⟨lv, rfl, hli, hb⟩
    obtain ⟨la, lc, rfl⟩ := ints_slice hli
    rw [iota_len] at hli ⊢
    have HLI := Lib.hid hli
    clear hli
    have Z180 := Lib.hid (show W6.heap.size ≤ w7.heap.size from hb.size)
    have B181 := Lib.hid (B170.out.kept hb)
    have B182 := Lib.hid (B171.out.kept hb)
    have B183 := Lib.hid (B172.out.kept hb)
    have B184 := Lib.hid (B167n.out.kept hb)
    have T185 := Lib.hid (T173.out.kept hb)
    have T186 := Lib.hid (T174.out.kept hb)
    have T187 := Lib.hid (T175.out.kept hb)
    have T188 := Lib.hid (T176.out.kept hb)
    have H189 := Lib.hid (H177.out.trans (hb.mono H177.out.size))
    clear bf178 bg178 bh178 bz178
    clear hb
    go_wp2_with fail
    go_loopw [11] (fun iv wr => ∃ i : Nat, i ≤ L ∧ iv = .int .i64 i ∧ Below w7.heap.size w7 wr) (fun iv _ => L - (intOf iv).toNat)
    case atStart => exact ⟨0, Nat.zero_le _, rfl, Below.refl _ _⟩
    case round =>
      obtain ⟨i, hi, rfl, hB⟩ := hrel
      have HX1 := Lib.hid (ints_below HLI.out hB)
      have HBR := Lib.hid hB
      clear hB
      by_cases hlt : i < L
      · skip
        obtain ⟨gi1, rfl⟩ := ints_some HX1.out (iota_len L) (by omega)
        have hc1 := ints_cell HX1.out (iota_len L) hlt
        rw [iota_get hlt] at hc1
        have hji : (i : Int) < (L : Int) := by omega
        go_wp2_with fail
        go_roundw
        case rel => exact ⟨i + 1, by omega, by go_num, HBR.out⟩
        case measure => simp [intOf]; omega
      · obtain rfl : i = L := by omega
        have hji : ¬ (i : Int) < (i : Int) := by omega
        have hbw := HBR.out
        have Z191 := Lib.hid (show w7.heap.size ≤ wr.heap.size from hbw.size)
        have B192 := Lib.hid (B181.out.kept hbw)
        have B193 := Lib.hid (B182.out.kept hbw)
        have B194 := Lib.hid (B183.out.kept hbw)
        have B195 := Lib.hid (B184.out.kept hbw)
        have T196 := Lib.hid (T185.out.kept hbw)
        have T197 := Lib.hid (T186.out.kept hbw)
        have T198 := Lib.hid (T187.out.kept hbw)
        have T199 := Lib.hid (T188.out.kept hbw)
        have H200 := Lib.hid (H189.out.trans (hbw.mono H189.out.size))
        clear hbw
        obtain ⟨bf201, bg201, bh201, bz201⟩ := B193.out
        obtain ⟨bf202, bg202, bh202, bz202⟩ := B195.out
        go_wp2_with fail
        go_at_call 17
        refine (typeSame_impl T1 T1 0 _ _ _ HNT1.out T199.out T197.out).mono ?_
        rintro e w8 ⟨rfl, hb⟩
        have Z204 := Lib.hid (show wr.heap.size ≤ w8.heap.size from hb.size)
        have B205 := Lib.hid (B192.out.kept hb)
        have B206 := Lib.hid (B193.out.kept hb)
        have B207 := Lib.hid (B194.out.kept hb)
        have B208 := Lib.hid (B195.out.kept hb)
        have T209 := Lib.hid (T196.out.kept hb)
        have T210 := Lib.hid (T197.out.kept hb)
        have T211 := Lib.hid (T198.out.kept hb)
        have T212 := Lib.hid (T199.out.kept hb)
        have H213 := Lib.hid (H200.out.trans (hb.mono H200.out.size))
        rw [HV1.out]
        clear bf201 bg201 bh201 bz201 bf202 bg202 bh202 bz202
        clear hb
        obtain ⟨bf214, bg214, bh214, bz214⟩ := B206.out
        obtain ⟨bf215, bg215, bh215, bz215⟩ := B205.out
        go_wp2_with fail
        go_at_call 21
        refine (Mx.instanceOf_impl T1 t _ _ _ HNT1.out T210.out T209.out).mono ?_
        rintro e w9 ⟨rfl, hb⟩
        have Z217 := Lib.hid (show w8.heap.size ≤ w9.heap.size from hb.size)
        have B218 := Lib.hid (B205.out.kept hb)
        have B219 := Lib.hid (B206.out.kept hb)
        have B220 := Lib.hid (B207.out.kept hb)
        have B221 := Lib.hid (B208.out.kept hb)
        have T222 := Lib.hid (T209.out.kept hb)
        have T223 := Lib.hid (T210.out.kept hb)
        have T224 := Lib.hid (T211.out.kept hb)
        have T225 := Lib.hid (T212.out.kept hb)
        have H226 := Lib.hid (H213.out.trans (hb.mono H213.out.size))
        rw [HI1.out]
        clear bf214 bg214 bh214 bz214 bf215 bg215 bh215 bz215
        clear hb
        obtain ⟨bf227, bg227, bh227, bz227⟩ := B218.out
        obtain ⟨bf228, bg228, bh228, bz228⟩ := B219.out
        go_wp2_with fail
        go_at_call 21
        refine (Mx.instanceOf_impl t T1 _ _ _ HNt.out T222.out T223.out).mono ?_
        rintro e w10 ⟨rfl, hb⟩
        have Z230 := Lib.hid (show w9.heap.size ≤ w10.heap.size from hb.size)
        have B231 := Lib.hid (B218.out.kept hb)
        have B232 := Lib.hid (B219.out.kept hb)
        have B233 := Lib.hid (B220.out.kept hb)
        have B234 := Lib.hid (B221.out.kept hb)
        have T235 := Lib.hid (T222.out.kept hb)
        have T236 := Lib.hid (T223.out.kept hb)
        have T237 := Lib.hid (T224.out.kept hb)
        have T238 := Lib.hid (T225.out.kept hb)
        have H239 := Lib.hid (H226.out.trans (hb.mono H226.out.size))
        rw [HI2.out]
        clear bf227 bg227 bh227 bz227 bf228 bg228 bh228 bz228
        clear hb
        go_wp2_with fail
        go_ret
        exact ⟨rfl, H239.out⟩

set_option maxRecDepth 100000 in
theorem lifted (os : Os) (started : os.Started) (H : Type) (enc : TypeId × Value → H) :
    ReturnsInHanded {} Try.checked os 5 .any (Rows.fnCanonTypeSpec.pre6 enc Try.prog Try.f5 Rows.fnCanonTypeRow.domain false) (Rows.fnCanonTypeSpec.post enc Try.prog Try.f5 false true false false) := by
  refine returnsInHanded_of_change (C := Try.checked) own started (by kernel_rfl) Try.func5
    (ChangeSpec.witness6 (enc := enc) (C := Try.checked) false ⟨#[], #[.slice none 0 0], []⟩ 8 (by kernel_rfl) (by kernel_rfl) (by kernel_rfl) (by kernel_rfl)) ?_
  intro W base args ds gs before hval0 hW hcnd _
  have hval : ∀ (j : Nat) t v, Try.f5.params[j]? = some t → args[j]? = some v → Value.okWide Try.prog W .any base t v := hval0
  have hW' := hW
  obtain ⟨p, q, hA0, hV, rfl, hfz, hnd⟩ := hW
  have hA : DataW.TrodAll enc Try.prog W 0 (fun _ => true) true Try.f5.params.toList args.toList ds p := hA0
  rw [Try.params5] at hA hval
  obtain ⟨v0, vs0, d0, ds0, p0, q0, hargs, rfl, rfl, h0, r0⟩ := trodAll_cons hA
  obtain ⟨rfl, rfl, rfl⟩ := trodAll_nil r0
  obtain rfl : args = #[v0] := by cases args; simp_all
  obtain ⟨rfl, rfl⟩ := trodVars_none hV
  have k0 := h0
  have lt0 : ∀ x ∈ p0, x.block < W.heap.size := by obtain ⟨m, hm⟩ := k0; exact DataW.trod_lt m _ _ _ hm
  obtain ⟨a0, len0, cap0, rfl⟩ := okWide_slice Try.underlying22 (hval 0 22 v0 rfl rfl)
  obtain ⟨z0, w0⟩ : ∃ zs, IsRow W a0 len0 cap0 zs := by
    obtain ⟨fuel, hf⟩ := h0
    rcases open_ints Try.underlying22 Try.underlying5 (by kernel_rfl) hf with ⟨hcs, _⟩ | ⟨x, l, c, zs, hcs, _, hl, hm, hz, _, hcell, hwz⟩
    · simp [Value.cells] at hcs
      obtain ⟨rfl, rfl, rfl⟩ := hcs
      exact ⟨[], .inl ⟨rfl, rfl, rfl, rfl⟩⟩
    · simp [Value.cells] at hcs
      obtain ⟨rfl, rfl, rfl⟩ := hcs
      exact ⟨zs, .inr ⟨_, rfl, hl, hm, by simpa using hz, hcell, hwz⟩⟩
  clear hA0 hval0
  refine (walk a0 len0 cap0 z0 W w0).mono fun e W' ⟨he, bel⟩ => ?_
  subst he
  exact ⟨_, rfl, _, _, _, [], _, [], hW', trodAll_mk1 (shut_bool Try.underlying4 _), (trodAll_cons_mk (Below.trod laidOut (by kernel_rfl) (of_decide_eq_true (by kernel_rfl)) k0 bel lt0) trodAll_mk0), rfl, bel.frame _, fun h => by cases h⟩

theorem over : Rows.fnCanonTypeRow.holds Try.pinned (OpenSpec.ofChange Rows.fnCanonTypeSpec) :=
  OpenClaim.holds_of_wide 5 Try.f5 rfl rfl rfl rfl rfl rfl rfl ⟨rfl, rfl, rfl, rfl, rfl⟩ rfl rfl rfl rfl rfl (by kernel_rfl) Try.func5 (by kernel_rfl)
    (of_decide_eq_true (by kernel_rfl)) (by unfold Func.isWrapper; first | (rw [if_pos (by decide +kernel)]; kernel_rfl) | (rw [if_neg (by decide +kernel)]; exact ⟨rfl, rfl⟩))
    (fun os started H enc _ => lifted os started H enc)

/-- The given statement. -/
theorem proved : Rows.FnCanonTypeSaid := over
end Go.Proofs.Ytndpoejohpmifaa.fnCanonType
