/-
  FnUnifyCanon returns true for every slice of bytes: a unified type is canonical, and is each of both types that has no variables. No conditions.
-/
import Derived.Test.YtjhccdioainibaaRows
import Derived.ProofKit
import Derived.OpenShut
import Derived.ShutString
import Derived.ChangeOld
import Derived.Below
import Derived.Lib.SmallJoins
import Derived.Test.YtjhccdioainibaaW27
import Derived.Test.YtjhccdioainibaaW29
import Derived.Test.YtjhccdioainibaaQb
import Derived.Test.YtjhccdioainibaaW11
import Derived.Test.YtjhccdioainibaaW25
namespace Go.Proofs.Ytjhccdioainibaa.fnUnifyCanon
open Go.Proofs.Ytjhccdioainibaa
open Go.ChangeShapes Go.WideShapes Go.ChangeAt Go.RowKit Go.Joins
open Go.ChangeMaps (open_string shut_string)
set_option linter.unusedVariables false
set_option linter.unusedSimpArgs false

theorem own : ownKnob Try.prog.godebug = none := by kernel_rfl
theorem laidOut : laidOutB Try.prog = true := by kernel_rfl

theorem unT_nodes {a b : Ty} {r : Option Ty} (h : unT a b = r) : nodes (optT r) ≤ 1048577 := by
  rcases r with _ | X
  · show nodes (.node 0 0 []) ≤ _
    simp [nodes, nodesL]
  · have h := nodes_shp 16 X (tvT_shp (unT_some h).2.2.1)
    have e : (2 : Nat) ^ 16 = 65536 := by decide
    show nodes X ≤ _
    omega
theorem cnT_some {a x : Ty} (h : cnT a = some x) : tvT a = true ∧ tvT x = true ∧ x = canT a := by
  unfold cnT at h
  split at h
  · rename_i hv
    injection h with h
    exact ⟨hv, by rw [← h]; exact canT_valid hv, h.symm⟩
  · cases h
theorem cnT_nodes {a : Ty} {r : Option Ty} (h : cnT a = r) : nodes (optT r) ≤ 1048577 := by
  rcases r with _ | X
  · show nodes (.node 0 0 []) ≤ _
    simp [nodes, nodesL]
  · have h := nodes_shp 16 X (tvT_shp (cnT_some h).2.1)
    have e : (2 : Nat) ^ 16 = 65536 := by decide
    show nodes X ≤ _
    omega
theorem svT_nodes {a : Ty} {L : List Ty} {r : Option Ty} (h : svT a L = r) : nodes (optT r) ≤ 1048577 := by
  rcases r with _ | X
  · show nodes (.node 0 0 []) ≤ _
    simp [nodes, nodesL]
  · have h := nodes_shp 16 X (tvT_shp (Mx.sv_parts h).2.1)
    have e : (2 : Nat) ^ 16 = 65536 := by decide
    show nodes X ≤ _
    omega
set_option maxRecDepth 100000 in
set_option maxHeartbeats 16000000 in
theorem walk (a : Option Addr) (len cap : Nat) (zs : List Int) (w : World) (hrow : IsRow w a len cap zs) :
    Calls Try.prog 7 #[.slice a len cap] w fun e w' => e = .returned (.bool true) ∧ Below w.heap.size w w' := by
  have HRow := Lib.hid hrow
  have hm := hrow.len
  unfold maxLen at hm
  clear hrow
  by_cases hl : len ≤ 1048576
  case neg =>
    go_enter Try.func7, Try.ntmps7
    go_wp2
    go_ret
    exact ⟨rfl, Below.refl _ _⟩
  go_enter Try.func7, Try.ntmps7
  go_wp2_with fail
  go_at_call 15
  refine (drawUnifyTypes_any a len cap zs _ HRow.out).mono ?_
  rintro e w0 ⟨x, y, vx, vy, hnx, hny, rfl, htx, hty, hb0⟩
  have H0 := Lib.hid hb0
  have TX := Lib.hid htx
  have TY := Lib.hid hty
  have HNX := Lib.hid (show nodes x ≤ 1048577 by omega)
  have HNY := Lib.hid (show nodes y ≤ 1048577 by omega)
  obtain ⟨ax, cx, rfl, _⟩ := htx.at.slice
  obtain ⟨ay, cy, rfl, _⟩ := hty.at.slice
  clear hb0 htx hty hnx hny
  obtain ⟨W2, hW2⟩ : ∃ W, (w0.alloc (.cells #[.int .i64 x.k, .int .i64 x.n, .slice ax x.ks.length cx] 28)).alloc (.cells #[.int .i64 y.k, .int .i64 y.n, .slice ay y.ks.length cy] 28) = W := ⟨_, rfl⟩
  obtain ⟨E, hE⟩ : ∃ E, w0.heap.size = E := ⟨_, rfl⟩
  have hb2 : Below w0.heap.size w0 W2 := by rw [← hW2]; exact ((Below.refl _ _).alloc (Nat.le_refl _) _).alloc (by simp) _
  have PA : Hid (TBox W2 E (.int .i64 x.k) (.int .i64 x.n) (.slice ax x.ks.length cx)) := Lib.hid (by rw [← hW2, ← hE]; exact (tbox_new w0 _ _ _ _).kept ((Below.refl _ _).alloc (Nat.le_refl _) _))
  have PB : Hid (TBox W2 (E + 1) (.int .i64 y.k) (.int .i64 y.n) (.slice ay y.ks.length cy)) := Lib.hid (by
    have h := tbox_new (w0.alloc (.cells #[.int .i64 x.k, .int .i64 x.n, .slice ax x.ks.length cx] 28)) (.int .i64 y.k) (.int .i64 y.n) (.slice ay y.ks.length cy) 28
    rw [hW2, sizeA, hE] at h; exact h)
  have H2 := Lib.hid (H0.out.trans (hb2.mono H0.out.size))
  have TX2 := Lib.hid (TX.out.kept hb2)
  have TY2 := Lib.hid (TY.out.kept hb2)
  have HW2 := Lib.hid hW2
  clear hW2 hb2
  obtain ⟨r1, hr1⟩ : ∃ r, unT x y = r := ⟨_, rfl⟩
  have HRR1 := Lib.hid hr1
  obtain ⟨T1, hT1⟩ : ∃ T, optT r1 = T := ⟨_, rfl⟩
  obtain ⟨b1, hb1⟩ : ∃ b, r1.isSome = b := ⟨_, rfl⟩
  have HNT1 : Hid (nodes T1 ≤ 1048577) := Lib.hid (by rw [← hT1]; exact unT_nodes hr1)
  have HSOME1 : Hid (b1 = true → unT x y = some T1) := Lib.hid (fun h => by
    rw [hr1, ← hT1]
    rw [← hb1] at h
    rcases r1 with _ | X
    · cases h
    · rfl)
  have HF1 : Hid (∀ (w : World) (e : Ending) (w' : World), OptRet r1 w e w' → ∃ v, e = .returned (.tuple #[.agg #[.int .i64 T1.k, .int .i64 T1.n, v], .bool b1]) ∧ TyIn w' w.heap.size w'.heap.size T1 v ∧ Below w.heap.size w w') := Lib.hid (by rw [← hT1, ← hb1]; exact fun w e w' h => h.flat)
  have hbb1 : (b1 != b1) = false := by cases b1 <;> rfl
  have HV1 : Hid (sameB T1 T1 = true) := Lib.hid (sameB_yes rfl)
  clear hT1 hb1 hr1
  obtain ⟨vs, hvs⟩ : ∃ vs, varsT x = vs := ⟨_, rfl⟩
  obtain ⟨us, hus⟩ : ∃ us, varsT y = us := ⟨_, rfl⟩
  have HVS := Lib.hid hvs
  have HUS := Lib.hid hus
  clear hvs hus
  go_wp2_with fail
  rw [HW2.out]
  clear hE
  obtain ⟨bf101, bg101, bh101, bz101⟩ := PA.out
  obtain ⟨bf102, bg102, bh102, bz102⟩ := PB.out
  go_wp2_with fail
  go_at_call 11
  refine (Nx.unifyTypes_impl x y _ _ _ TX2.out TY2.out r1 HRR1.out).mono ?_
  intro e w1 hret
  obtain ⟨v1, rfl, hty1, hb⟩ := HF1.out _ _ _ hret
  obtain ⟨a1, k1, rfl, _⟩ := hty1.at.slice
  have T1o := Lib.hid hty1.ok
  clear bf101 bg101 bh101 bz101 bf102 bg102 bh102 bz102
  have Z104 := Lib.hid (show W2.heap.size ≤ w1.heap.size from hb.size)
  have B105 := Lib.hid (PA.out.kept hb)
  have B106 := Lib.hid (PB.out.kept hb)
  have T107 := Lib.hid (TX2.out.kept hb)
  have T108 := Lib.hid (TY2.out.kept hb)
  have H109 := Lib.hid (H2.out.trans (hb.mono H2.out.size))
  clear hb hret hty1
  obtain ⟨W3, hW110⟩ : ∃ W, w1.alloc (.cells #[.int .i64 T1.k, .int .i64 T1.n, .slice a1 T1.ks.length k1] 28) = W := ⟨_, rfl⟩
  have hA110 : Below w1.heap.size w1 W3 := by rw [← hW110]; exact (Below.refl _ _).alloc (Nat.le_refl _) _
  have hZ110 : W3.heap.size = w1.heap.size + 1 := by rw [← hW110]; simp
  have B110n : Hid (TBox W3 w1.heap.size (.int .i64 T1.k) (.int .i64 T1.n) (.slice a1 T1.ks.length k1)) := Lib.hid (by rw [← hW110]; exact tbox_new w1 _ _ _ _)
  have Zb110 := Lib.hid hZ110
  have Z112 := Lib.hid (show w1.heap.size ≤ W3.heap.size from hA110.size)
  have B113 := Lib.hid (B105.out.kept hA110)
  have B114 := Lib.hid (B106.out.kept hA110)
  have T115 := Lib.hid (T107.out.kept hA110)
  have T116 := Lib.hid (T108.out.kept hA110)
  have T117 := Lib.hid (T1o.out.kept hA110)
  have H118 := Lib.hid (H109.out.trans (hA110.mono H109.out.size))
  clear hA110 hZ110
  obtain ⟨bf119, bg119, bh119, bz119⟩ := B113.out
  obtain ⟨bf120, bg120, bh120, bz120⟩ := B114.out
  go_wp2_with fail
  clear hW110
  go_at_call 9
  refine (unifyTypes_spec x y _ _ _ T115.out T116.out r1 HRR1.out).mono ?_
  intro e w2 hret
  obtain ⟨v2, rfl, hty2, hb⟩ := HF1.out _ _ _ hret
  obtain ⟨a2, k2, rfl, _⟩ := hty2.at.slice
  have T2o := Lib.hid hty2.ok
  clear bf119 bg119 bh119 bz119 bf120 bg120 bh120 bz120
  have Z122 := Lib.hid (show W3.heap.size ≤ w2.heap.size from hb.size)
  have B123 := Lib.hid (B113.out.kept hb)
  have B124 := Lib.hid (B114.out.kept hb)
  have B125 := Lib.hid (B110n.out.kept hb)
  have T126 := Lib.hid (T115.out.kept hb)
  have T127 := Lib.hid (T116.out.kept hb)
  have T128 := Lib.hid (T117.out.kept hb)
  have H129 := Lib.hid (H118.out.trans (hb.mono H118.out.size))
  clear hb hret hty2
  obtain ⟨W4, hW130⟩ : ∃ W, w2.alloc (.cells #[.int .i64 T1.k, .int .i64 T1.n, .slice a2 T1.ks.length k2] 28) = W := ⟨_, rfl⟩
  have hA130 : Below w2.heap.size w2 W4 := by rw [← hW130]; exact (Below.refl _ _).alloc (Nat.le_refl _) _
  have hZ130 : W4.heap.size = w2.heap.size + 1 := by rw [← hW130]; simp
  have B130n : Hid (TBox W4 w2.heap.size (.int .i64 T1.k) (.int .i64 T1.n) (.slice a2 T1.ks.length k2)) := Lib.hid (by rw [← hW130]; exact tbox_new w2 _ _ _ _)
  have Zb130 := Lib.hid hZ130
  have Z132 := Lib.hid (show w2.heap.size ≤ W4.heap.size from hA130.size)
  have B133 := Lib.hid (B123.out.kept hA130)
  have B134 := Lib.hid (B124.out.kept hA130)
  have B135 := Lib.hid (B125.out.kept hA130)
  have T136 := Lib.hid (T126.out.kept hA130)
  have T137 := Lib.hid (T127.out.kept hA130)
  have T138 := Lib.hid (T128.out.kept hA130)
  have T139 := Lib.hid (T2o.out.kept hA130)
  have H140 := Lib.hid (H129.out.trans (hA130.mono H129.out.size))
  clear hA130 hZ130
  obtain ⟨bf141, bg141, bh141, bz141⟩ := B135.out
  obtain ⟨bf142, bg142, bh142, bz142⟩ := B130n.out
  go_wp2_with fail
  clear hW130
  go_at_call 16
  refine (typeSame_impl T1 T1 0 _ _ _ HNT1.out T138.out T139.out).mono ?_
  rintro e w4 ⟨rfl, hb⟩
  have Z144 := Lib.hid (show W4.heap.size ≤ w4.heap.size from hb.size)
  have B145 := Lib.hid (B133.out.kept hb)
  have B146 := Lib.hid (B134.out.kept hb)
  have B147 := Lib.hid (B135.out.kept hb)
  have B148 := Lib.hid (B130n.out.kept hb)
  have T149 := Lib.hid (T136.out.kept hb)
  have T150 := Lib.hid (T137.out.kept hb)
  have T151 := Lib.hid (T138.out.kept hb)
  have T152 := Lib.hid (T139.out.kept hb)
  have H153 := Lib.hid (H140.out.trans (hb.mono H140.out.size))
  rw [HV1.out]
  clear bf141 bg141 bh141 bz141 bf142 bg142 bh142 bz142
  clear hb
  rcases b1 with _ | _
  · skip
    obtain ⟨bf154, bg154, bh154, bz154⟩ := B147.out
    obtain ⟨bf155, bg155, bh155, bz155⟩ := B148.out
    go_wp2_with fail
    go_at_call 16
    refine (typeSame_impl T1 T1 0 _ _ _ HNT1.out T151.out T152.out).mono ?_
    rintro e w5 ⟨rfl, hb⟩
    have Z157 := Lib.hid (show w4.heap.size ≤ w5.heap.size from hb.size)
    have B158 := Lib.hid (B145.out.kept hb)
    have B159 := Lib.hid (B146.out.kept hb)
    have B160 := Lib.hid (B147.out.kept hb)
    have B161 := Lib.hid (B148.out.kept hb)
    have T162 := Lib.hid (T149.out.kept hb)
    have T163 := Lib.hid (T150.out.kept hb)
    have T164 := Lib.hid (T151.out.kept hb)
    have T165 := Lib.hid (T152.out.kept hb)
    have H166 := Lib.hid (H153.out.trans (hb.mono H153.out.size))
    rw [HV1.out]
    clear bf154 bg154 bh154 bz154 bf155 bg155 bh155 bz155
    clear hb
    go_wp2_with fail
    go_ret
    exact ⟨rfl, H166.out⟩
  · skip
    have hun := HSOME1.out rfl
    have HCN := Lib.hid (unT_canon hun)
    have HLX : Hid (varsT x = [] → sameB T1 x = true) := Lib.hid (fun h => sameB_yes (unT_left hun h))
    have HLY : Hid (varsT y = [] → sameB T1 y = true) := Lib.hid (fun h => sameB_yes (unT_right hun h))
    clear hun
    obtain ⟨bf154, bg154, bh154, bz154⟩ := B147.out
    go_wp2_with fail
    go_at_call 20
    refine (canonType_impl T1 _ _ T151.out.at (some T1) HCN.out).mono ?_
    rintro e w5 ⟨v5, rfl, hty5, hb⟩
    obtain ⟨a5, k5, rfl, _⟩ := hty5.at.slice
    have T5o := Lib.hid hty5.ok
    clear bf154 bg154 bh154 bz154
    have Z156 := Lib.hid (show w4.heap.size ≤ w5.heap.size from hb.size)
    have B157 := Lib.hid (B145.out.kept hb)
    have B158 := Lib.hid (B146.out.kept hb)
    have B159 := Lib.hid (B147.out.kept hb)
    have B160 := Lib.hid (B148.out.kept hb)
    have T161 := Lib.hid (T149.out.kept hb)
    have T162 := Lib.hid (T150.out.kept hb)
    have T163 := Lib.hid (T151.out.kept hb)
    have T164 := Lib.hid (T152.out.kept hb)
    have H165 := Lib.hid (H153.out.trans (hb.mono H153.out.size))
    clear hb hty5
    obtain ⟨W6, hW166⟩ : ∃ W, w5.alloc (.cells #[.int .i64 T1.k, .int .i64 T1.n, .slice a5 T1.ks.length k5] 28) = W := ⟨_, rfl⟩
    have hA166 : Below w5.heap.size w5 W6 := by rw [← hW166]; exact (Below.refl _ _).alloc (Nat.le_refl _) _
    have hZ166 : W6.heap.size = w5.heap.size + 1 := by rw [← hW166]; simp
    have B166n : Hid (TBox W6 w5.heap.size (.int .i64 T1.k) (.int .i64 T1.n) (.slice a5 T1.ks.length k5)) := Lib.hid (by rw [← hW166]; exact tbox_new w5 _ _ _ _)
    have Zb166 := Lib.hid hZ166
    have Z168 := Lib.hid (show w5.heap.size ≤ W6.heap.size from hA166.size)
    have B169 := Lib.hid (B157.out.kept hA166)
    have B170 := Lib.hid (B158.out.kept hA166)
    have B171 := Lib.hid (B159.out.kept hA166)
    have B172 := Lib.hid (B160.out.kept hA166)
    have T173 := Lib.hid (T161.out.kept hA166)
    have T174 := Lib.hid (T162.out.kept hA166)
    have T175 := Lib.hid (T163.out.kept hA166)
    have T176 := Lib.hid (T164.out.kept hA166)
    have T177 := Lib.hid (T5o.out.kept hA166)
    have H178 := Lib.hid (H165.out.trans (hA166.mono H165.out.size))
    clear hA166 hZ166
    obtain ⟨bf179, bg179, bh179, bz179⟩ := B171.out
    obtain ⟨bf180, bg180, bh180, bz180⟩ := B166n.out
    go_wp2_with fail
    clear hW166
    go_at_call 16
    refine (typeSame_impl T1 T1 0 _ _ _ HNT1.out T175.out T177.out).mono ?_
    rintro e w6 ⟨rfl, hb⟩
    have Z182 := Lib.hid (show W6.heap.size ≤ w6.heap.size from hb.size)
    have B183 := Lib.hid (B169.out.kept hb)
    have B184 := Lib.hid (B170.out.kept hb)
    have B185 := Lib.hid (B171.out.kept hb)
    have B186 := Lib.hid (B172.out.kept hb)
    have B187 := Lib.hid (B166n.out.kept hb)
    have T188 := Lib.hid (T173.out.kept hb)
    have T189 := Lib.hid (T174.out.kept hb)
    have T190 := Lib.hid (T175.out.kept hb)
    have T191 := Lib.hid (T176.out.kept hb)
    have T192 := Lib.hid (T177.out.kept hb)
    have H193 := Lib.hid (H178.out.trans (hb.mono H178.out.size))
    rw [HV1.out]
    clear bf179 bg179 bh179 bz179 bf180 bg180 bh180 bz180
    clear hb
    obtain ⟨bf194, bg194, bh194, bz194⟩ := B183.out
    go_wp2_with fail
    go_at_call 21
    refine (typeVars_impl HVS.out _ _ T188.out.at).mono ?_
    rintro e w7 ⟨lv, rfl, hli, hb⟩
    obtain ⟨la, lcc, rfl⟩ := ints_slice hli
    clear hli
    have Z196 := Lib.hid (show w6.heap.size ≤ w7.heap.size from hb.size)
    have B197 := Lib.hid (B183.out.kept hb)
    have B198 := Lib.hid (B184.out.kept hb)
    have B199 := Lib.hid (B185.out.kept hb)
    have B200 := Lib.hid (B186.out.kept hb)
    have B201 := Lib.hid (B187.out.kept hb)
    have T202 := Lib.hid (T188.out.kept hb)
    have T203 := Lib.hid (T189.out.kept hb)
    have T204 := Lib.hid (T190.out.kept hb)
    have T205 := Lib.hid (T191.out.kept hb)
    have T206 := Lib.hid (T192.out.kept hb)
    have H207 := Lib.hid (H193.out.trans (hb.mono H193.out.size))
    clear bf194 bg194 bh194 bz194
    clear hb
    rcases vs with _ | ⟨n0, vr⟩
    · skip
      have HLX2 := Lib.hid (HLX.out HVS.out)
      obtain ⟨bf208, bg208, bh208, bz208⟩ := B199.out
      obtain ⟨bf209, bg209, bh209, bz209⟩ := B197.out
      go_wp2_with fail
      go_at_call 16
      refine (typeSame_impl T1 x 0 _ _ _ HNT1.out T204.out T202.out).mono ?_
      rintro e w8 ⟨rfl, hb⟩
      have Z211 := Lib.hid (show w7.heap.size ≤ w8.heap.size from hb.size)
      have B212 := Lib.hid (B197.out.kept hb)
      have B213 := Lib.hid (B198.out.kept hb)
      have B214 := Lib.hid (B199.out.kept hb)
      have B215 := Lib.hid (B200.out.kept hb)
      have B216 := Lib.hid (B201.out.kept hb)
      have T217 := Lib.hid (T202.out.kept hb)
      have T218 := Lib.hid (T203.out.kept hb)
      have T219 := Lib.hid (T204.out.kept hb)
      have T220 := Lib.hid (T205.out.kept hb)
      have T221 := Lib.hid (T206.out.kept hb)
      have H222 := Lib.hid (H207.out.trans (hb.mono H207.out.size))
      rw [HLX2.out]
      clear bf208 bg208 bh208 bz208 bf209 bg209 bh209 bz209
      clear hb
      obtain ⟨bf223, bg223, bh223, bz223⟩ := B213.out
      go_wp2_with fail
      go_at_call 21
      refine (typeVars_impl HUS.out _ _ T218.out.at).mono ?_
      rintro e w9 ⟨lv, rfl, hli, hb⟩
      obtain ⟨la, lcc, rfl⟩ := ints_slice hli
      clear hli
      have Z225 := Lib.hid (show w8.heap.size ≤ w9.heap.size from hb.size)
      have B226 := Lib.hid (B212.out.kept hb)
      have B227 := Lib.hid (B213.out.kept hb)
      have B228 := Lib.hid (B214.out.kept hb)
      have B229 := Lib.hid (B215.out.kept hb)
      have B230 := Lib.hid (B216.out.kept hb)
      have T231 := Lib.hid (T217.out.kept hb)
      have T232 := Lib.hid (T218.out.kept hb)
      have T233 := Lib.hid (T219.out.kept hb)
      have T234 := Lib.hid (T220.out.kept hb)
      have T235 := Lib.hid (T221.out.kept hb)
      have H236 := Lib.hid (H222.out.trans (hb.mono H222.out.size))
      clear bf223 bg223 bh223 bz223
      clear hb
      rcases us with _ | ⟨m0, ur⟩
      · skip
        have HLY2 := Lib.hid (HLY.out HUS.out)
        obtain ⟨bf237, bg237, bh237, bz237⟩ := B228.out
        obtain ⟨bf238, bg238, bh238, bz238⟩ := B227.out
        go_wp2_with fail
        go_at_call 16
        refine (typeSame_impl T1 y 0 _ _ _ HNT1.out T233.out T232.out).mono ?_
        rintro e w10 ⟨rfl, hb⟩
        have Z240 := Lib.hid (show w9.heap.size ≤ w10.heap.size from hb.size)
        have B241 := Lib.hid (B226.out.kept hb)
        have B242 := Lib.hid (B227.out.kept hb)
        have B243 := Lib.hid (B228.out.kept hb)
        have B244 := Lib.hid (B229.out.kept hb)
        have B245 := Lib.hid (B230.out.kept hb)
        have T246 := Lib.hid (T231.out.kept hb)
        have T247 := Lib.hid (T232.out.kept hb)
        have T248 := Lib.hid (T233.out.kept hb)
        have T249 := Lib.hid (T234.out.kept hb)
        have T250 := Lib.hid (T235.out.kept hb)
        have H251 := Lib.hid (H236.out.trans (hb.mono H236.out.size))
        rw [HLY2.out]
        clear bf237 bg237 bh237 bz237 bf238 bg238 bh238 bz238
        clear hb
        go_wp2_with fail
        go_ret
        exact ⟨rfl, H251.out⟩
      · skip
        have hpos2 : (0 : Int) < (((m0 :: ur).length : Nat) : Int) := by simp only [List.length_cons]; omega
        go_wp2_with fail
        go_ret
        exact ⟨rfl, H236.out⟩
    · skip
      have hpos : (0 : Int) < (((n0 :: vr).length : Nat) : Int) := by simp only [List.length_cons]; omega
      obtain ⟨bf208, bg208, bh208, bz208⟩ := B198.out
      go_wp2_with fail
      go_at_call 21
      refine (typeVars_impl HUS.out _ _ T203.out.at).mono ?_
      rintro e w9 ⟨lv, rfl, hli, hb⟩
      obtain ⟨la, lcc, rfl⟩ := ints_slice hli
      clear hli
      have Z210 := Lib.hid (show w7.heap.size ≤ w9.heap.size from hb.size)
      have B211 := Lib.hid (B197.out.kept hb)
      have B212 := Lib.hid (B198.out.kept hb)
      have B213 := Lib.hid (B199.out.kept hb)
      have B214 := Lib.hid (B200.out.kept hb)
      have B215 := Lib.hid (B201.out.kept hb)
      have T216 := Lib.hid (T202.out.kept hb)
      have T217 := Lib.hid (T203.out.kept hb)
      have T218 := Lib.hid (T204.out.kept hb)
      have T219 := Lib.hid (T205.out.kept hb)
      have T220 := Lib.hid (T206.out.kept hb)
      have H221 := Lib.hid (H207.out.trans (hb.mono H207.out.size))
      clear bf208 bg208 bh208 bz208
      clear hb
      rcases us with _ | ⟨m0, ur⟩
      · skip
        have HLY2 := Lib.hid (HLY.out HUS.out)
        obtain ⟨bf222, bg222, bh222, bz222⟩ := B213.out
        obtain ⟨bf223, bg223, bh223, bz223⟩ := B212.out
        go_wp2_with fail
        go_at_call 16
        refine (typeSame_impl T1 y 0 _ _ _ HNT1.out T218.out T217.out).mono ?_
        rintro e w10 ⟨rfl, hb⟩
        have Z225 := Lib.hid (show w9.heap.size ≤ w10.heap.size from hb.size)
        have B226 := Lib.hid (B211.out.kept hb)
        have B227 := Lib.hid (B212.out.kept hb)
        have B228 := Lib.hid (B213.out.kept hb)
        have B229 := Lib.hid (B214.out.kept hb)
        have B230 := Lib.hid (B215.out.kept hb)
        have T231 := Lib.hid (T216.out.kept hb)
        have T232 := Lib.hid (T217.out.kept hb)
        have T233 := Lib.hid (T218.out.kept hb)
        have T234 := Lib.hid (T219.out.kept hb)
        have T235 := Lib.hid (T220.out.kept hb)
        have H236 := Lib.hid (H221.out.trans (hb.mono H221.out.size))
        rw [HLY2.out]
        clear bf222 bg222 bh222 bz222 bf223 bg223 bh223 bz223
        clear hb
        go_wp2_with fail
        go_ret
        exact ⟨rfl, H236.out⟩
      · skip
        have hpos2 : (0 : Int) < (((m0 :: ur).length : Nat) : Int) := by simp only [List.length_cons]; omega
        go_wp2_with fail
        go_ret
        exact ⟨rfl, H221.out⟩

set_option maxRecDepth 100000 in
theorem lifted (os : Os) (started : os.Started) (H : Type) (enc : TypeId × Value → H) :
    ReturnsInHanded {} Try.checked os 7 .any (Rows.fnUnifyCanonSpec.pre6 enc Try.prog Try.f7 Rows.fnUnifyCanonRow.domain false) (Rows.fnUnifyCanonSpec.post enc Try.prog Try.f7 false true false false) := by
  refine returnsInHanded_of_change (C := Try.checked) own started (by kernel_rfl) Try.func7
    (ChangeSpec.witness6 (enc := enc) (C := Try.checked) false ⟨#[], #[.slice none 0 0], []⟩ 8 (by kernel_rfl) (by kernel_rfl) (by kernel_rfl) (by kernel_rfl)) ?_
  intro W base args ds gs before hval0 hW hcnd _
  have hval : ∀ (j : Nat) t v, Try.f7.params[j]? = some t → args[j]? = some v → Value.okWide Try.prog W .any base t v := hval0
  have hW' := hW
  obtain ⟨p, q, hA0, hV, rfl, hfz, hnd⟩ := hW
  have hA : DataW.TrodAll enc Try.prog W 0 (fun _ => true) true Try.f7.params.toList args.toList ds p := hA0
  rw [Try.params7] at hA hval
  obtain ⟨v0, vs0, d0, ds0, p0, q0, hargs, rfl, rfl, h0, r0⟩ := trodAll_cons hA
  obtain ⟨rfl, rfl, rfl⟩ := trodAll_nil r0
  obtain rfl : args = #[v0] := by cases args; simp_all
  obtain ⟨rfl, rfl⟩ := trodVars_none hV
  have k0 := h0
  have lt0 : ∀ x ∈ p0, x.block < W.heap.size := by obtain ⟨m, hm⟩ := k0; exact DataW.trod_lt m _ _ _ hm
  obtain ⟨a0, len0, cap0, rfl⟩ := okWide_slice Try.underlying35 (hval 0 35 v0 rfl rfl)
  obtain ⟨z0, w0⟩ : ∃ zs, IsRow W a0 len0 cap0 zs := by
    obtain ⟨fuel, hf⟩ := h0
    rcases open_ints Try.underlying35 Try.underlying5 (by kernel_rfl) hf with ⟨hcs, _⟩ | ⟨x, l, c, zs, hcs, _, hl, hm, hz, _, hcell, hwz⟩
    · simp [Value.cells] at hcs
      obtain ⟨rfl, rfl, rfl⟩ := hcs
      exact ⟨[], .inl ⟨rfl, rfl, rfl, rfl⟩⟩
    · simp [Value.cells] at hcs
      obtain ⟨rfl, rfl, rfl⟩ := hcs
      exact ⟨zs, .inr ⟨_, rfl, hl, hm, by simpa using hz, hcell, hwz⟩⟩
  clear hA0 hval0
  refine (walk a0 len0 cap0 z0 W w0).mono fun e W' ⟨he, bel⟩ => ?_
  subst he
  exact ⟨_, rfl, _, _, _, [], _, [], hW', trodAll_mk1 (shut_bool Try.underlying4 _), (trodAll_cons_mk (Below.trod laidOut (by kernel_rfl) (of_decide_eq_true (by kernel_rfl)) k0 bel lt0) trodAll_mk0), rfl, bel.frame _, fun h => by cases h⟩

theorem over : Rows.fnUnifyCanonRow.holds Try.pinned (OpenSpec.ofChange Rows.fnUnifyCanonSpec) :=
  OpenClaim.holds_of_wide 7 Try.f7 rfl rfl rfl rfl rfl rfl rfl ⟨rfl, rfl, rfl, rfl, rfl⟩ rfl rfl rfl rfl rfl (by kernel_rfl) Try.func7 (by kernel_rfl)
    (of_decide_eq_true (by kernel_rfl)) (by unfold Func.isWrapper; first | (rw [if_pos (by decide +kernel)]; kernel_rfl) | (rw [if_neg (by decide +kernel)]; exact ⟨rfl, rfl⟩))
    (fun os started H enc _ => lifted os started H enc)

/-- The given statement. -/
theorem proved : Rows.FnUnifyCanonSaid := over
end Go.Proofs.Ytjhccdioainibaa.fnUnifyCanon
