/-
  FnUnifyGeneral returns true for every two slices of bytes: a replacement of variables that makes two drawn types equal makes an instance of the unified type. No conditions.
-/
import Derived.Test.YtjhccdioainibaaRows
import Derived.ProofKit
import Derived.OpenShut
import Derived.ShutString
import Derived.ChangeOld
import Derived.Below
import Derived.Lib.SmallJoins
import Derived.Test.YtjhccdioainibaaW27
import Derived.Test.YtjhccdioainibaaW29
import Derived.Test.YtjhccdioainibaaQb
import Derived.Test.YtjhccdioainibaaW11
import Derived.Test.YtjhccdioainibaaW28
namespace Go.Proofs.Ytjhccdioainibaa.fnUnifyGeneral
open Go.Proofs.Ytjhccdioainibaa
open Go.ChangeShapes Go.WideShapes Go.ChangeAt Go.RowKit Go.Joins
open Go.ChangeMaps (open_string shut_string)
set_option linter.unusedVariables false
set_option linter.unusedSimpArgs false

theorem own : ownKnob Try.prog.godebug = none := by kernel_rfl
theorem laidOut : laidOutB Try.prog = true := by kernel_rfl

theorem unT_nodes {a b : Ty} {r : Option Ty} (h : unT a b = r) : nodes (optT r) ≤ 1048577 := by
  rcases r with _ | X
  · show nodes (.node 0 0 []) ≤ _
    simp [nodes, nodesL]
  · have h := nodes_shp 16 X (tvT_shp (unT_some h).2.2.1)
    have e : (2 : Nat) ^ 16 = 65536 := by decide
    show nodes X ≤ _
    omega
theorem cnT_some {a x : Ty} (h : cnT a = some x) : tvT a = true ∧ tvT x = true ∧ x = canT a := by
  unfold cnT at h
  split at h
  · rename_i hv
    injection h with h
    exact ⟨hv, by rw [← h]; exact canT_valid hv, h.symm⟩
  · cases h
theorem cnT_nodes {a : Ty} {r : Option Ty} (h : cnT a = r) : nodes (optT r) ≤ 1048577 := by
  rcases r with _ | X
  · show nodes (.node 0 0 []) ≤ _
    simp [nodes, nodesL]
  · have h := nodes_shp 16 X (tvT_shp (cnT_some h).2.1)
    have e : (2 : Nat) ^ 16 = 65536 := by decide
    show nodes X ≤ _
    omega
theorem svT_nodes {a : Ty} {L : List Ty} {r : Option Ty} (h : svT a L = r) : nodes (optT r) ≤ 1048577 := by
  rcases r with _ | X
  · show nodes (.node 0 0 []) ≤ _
    simp [nodes, nodesL]
  · have h := nodes_shp 16 X (tvT_shp (Mx.sv_parts h).2.1)
    have e : (2 : Nat) ^ 16 = 65536 := by decide
    show nodes X ≤ _
    omega
set_option maxRecDepth 100000 in
set_option maxHeartbeats 16000000 in
theorem walk (a : Option Addr) (len cap : Nat) (zs : List Int) (aM : Option Addr) (len2 cap2 : Nat) (zs2 : List Int) (w : World) (hrow : IsRow w a len cap zs) (hrow2 : IsRow w aM len2 cap2 zs2) :
    Calls Try.prog 5 #[.slice a len cap, .slice aM len2 cap2] w fun e w' => e = .returned (.bool true) ∧ Below w.heap.size w w' := by
  have HRow := Lib.hid hrow
  have hm := hrow.len
  unfold maxLen at hm
  clear hrow
  have HRow2 := Lib.hid hrow2
  have hm2 := hrow2.len
  unfold maxLen at hm2
  clear hrow2
  by_cases hl : len ≤ 1048576
  case neg =>
    go_enter Try.func5, Try.ntmps5
    go_wp2
    all_goals go_ret
    all_goals exact ⟨rfl, Below.refl _ _⟩
  by_cases hl2 : len2 ≤ 1048576
  case neg =>
    go_enter Try.func5, Try.ntmps5
    go_wp2
    all_goals go_ret
    all_goals exact ⟨rfl, Below.refl _ _⟩
  go_enter Try.func5, Try.ntmps5
  go_wp2_with fail
  go_at_call 15
  refine (drawUnifyTypes_any a len cap zs _ HRow.out).mono ?_
  rintro e w0 ⟨x, y, vx, vy, hnx, hny, rfl, htx, hty, hb0⟩
  have H0 := Lib.hid hb0
  have TX := Lib.hid htx
  have TY := Lib.hid hty
  have HNX := Lib.hid (show nodes x ≤ 1048577 by omega)
  have HNY := Lib.hid (show nodes y ≤ 1048577 by omega)
  obtain ⟨ax, cx, rfl, _⟩ := htx.at.slice
  obtain ⟨ay, cy, rfl, _⟩ := hty.at.slice
  have HR2 := Lib.hid (HRow2.out.kept hb0)
  clear hb0 htx hty hnx hny
  obtain ⟨W2, hW2⟩ : ∃ W, (w0.alloc (.cells #[.int .i64 x.k, .int .i64 x.n, .slice ax x.ks.length cx] 28)).alloc (.cells #[.int .i64 y.k, .int .i64 y.n, .slice ay y.ks.length cy] 28) = W := ⟨_, rfl⟩
  obtain ⟨E, hE⟩ : ∃ E, w0.heap.size = E := ⟨_, rfl⟩
  have hb2 : Below w0.heap.size w0 W2 := by rw [← hW2]; exact ((Below.refl _ _).alloc (Nat.le_refl _) _).alloc (by simp) _
  have PA : Hid (TBox W2 E (.int .i64 x.k) (.int .i64 x.n) (.slice ax x.ks.length cx)) := Lib.hid (by rw [← hW2, ← hE]; exact (tbox_new w0 _ _ _ _).kept ((Below.refl _ _).alloc (Nat.le_refl _) _))
  have PB : Hid (TBox W2 (E + 1) (.int .i64 y.k) (.int .i64 y.n) (.slice ay y.ks.length cy)) := Lib.hid (by
    have h := tbox_new (w0.alloc (.cells #[.int .i64 x.k, .int .i64 x.n, .slice ax x.ks.length cx] 28)) (.int .i64 y.k) (.int .i64 y.n) (.slice ay y.ks.length cy) 28
    rw [hW2, sizeA, hE] at h; exact h)
  have H2 := Lib.hid (H0.out.trans (hb2.mono H0.out.size))
  have TX2 := Lib.hid (TX.out.kept hb2)
  have TY2 := Lib.hid (TY.out.kept hb2)
  have HR2 := Lib.hid (HR2.out.kept hb2)
  have HW2 := Lib.hid hW2
  clear hW2 hb2
  obtain ⟨r1, hr1⟩ : ∃ r, unT x y = r := ⟨_, rfl⟩
  have HRR1 := Lib.hid hr1
  obtain ⟨T1, hT1⟩ : ∃ T, optT r1 = T := ⟨_, rfl⟩
  obtain ⟨b1, hb1⟩ : ∃ b, r1.isSome = b := ⟨_, rfl⟩
  have HNT1 : Hid (nodes T1 ≤ 1048577) := Lib.hid (by rw [← hT1]; exact unT_nodes hr1)
  have HSOME1 : Hid (b1 = true → unT x y = some T1) := Lib.hid (fun h => by
    rw [hr1, ← hT1]
    rw [← hb1] at h
    rcases r1 with _ | X
    · cases h
    · rfl)
  have HF1 : Hid (∀ (w : World) (e : Ending) (w' : World), OptRet r1 w e w' → ∃ v, e = .returned (.tuple #[.agg #[.int .i64 T1.k, .int .i64 T1.n, v], .bool b1]) ∧ TyIn w' w.heap.size w'.heap.size T1 v ∧ Below w.heap.size w w') := Lib.hid (by rw [← hT1, ← hb1]; exact fun w e w' h => h.flat)
  have HBS1 := Lib.hid hb1
  have hbb1 : (b1 != b1) = false := by cases b1 <;> rfl
  have HV1 : Hid (sameB T1 T1 = true) := Lib.hid (sameB_yes rfl)
  clear hT1 hb1 hr1
  go_wp2_with fail
  rw [HW2.out]
  clear hE
  obtain ⟨bf101, bg101, bh101, bz101⟩ := PA.out
  obtain ⟨bf102, bg102, bh102, bz102⟩ := PB.out
  go_wp2_with fail
  go_at_call 11
  refine (Nx.unifyTypes_impl x y _ _ _ TX2.out TY2.out r1 HRR1.out).mono ?_
  intro e w1 hret
  obtain ⟨v1, rfl, hty1, hb⟩ := HF1.out _ _ _ hret
  obtain ⟨a1, k1, rfl, _⟩ := hty1.at.slice
  have T1o := Lib.hid hty1.ok
  clear bf101 bg101 bh101 bz101 bf102 bg102 bh102 bz102
  have Z104 := Lib.hid (show W2.heap.size ≤ w1.heap.size from hb.size)
  have B105 := Lib.hid (PA.out.kept hb)
  have B106 := Lib.hid (PB.out.kept hb)
  have T107 := Lib.hid (TX2.out.kept hb)
  have T108 := Lib.hid (TY2.out.kept hb)
  have T109 := Lib.hid (HR2.out.kept hb)
  have H110 := Lib.hid (H2.out.trans (hb.mono H2.out.size))
  clear hb hret hty1
  obtain ⟨W3, hW111⟩ : ∃ W, w1.alloc (.cells #[.int .i64 T1.k, .int .i64 T1.n, .slice a1 T1.ks.length k1] 28) = W := ⟨_, rfl⟩
  have hA111 : Below w1.heap.size w1 W3 := by rw [← hW111]; exact (Below.refl _ _).alloc (Nat.le_refl _) _
  have hZ111 : W3.heap.size = w1.heap.size + 1 := by rw [← hW111]; simp
  have B111n : Hid (TBox W3 w1.heap.size (.int .i64 T1.k) (.int .i64 T1.n) (.slice a1 T1.ks.length k1)) := Lib.hid (by rw [← hW111]; exact tbox_new w1 _ _ _ _)
  have Zb111 := Lib.hid hZ111
  have Z113 := Lib.hid (show w1.heap.size ≤ W3.heap.size from hA111.size)
  have B114 := Lib.hid (B105.out.kept hA111)
  have B115 := Lib.hid (B106.out.kept hA111)
  have T116 := Lib.hid (T107.out.kept hA111)
  have T117 := Lib.hid (T108.out.kept hA111)
  have T118 := Lib.hid (T1o.out.kept hA111)
  have T119 := Lib.hid (T109.out.kept hA111)
  have H120 := Lib.hid (H110.out.trans (hA111.mono H110.out.size))
  clear hA111 hZ111
  obtain ⟨bf121, bg121, bh121, bz121⟩ := B114.out
  obtain ⟨bf122, bg122, bh122, bz122⟩ := B115.out
  go_wp2_with fail
  clear hW111
  go_at_call 9
  refine (unifyTypes_spec x y _ _ _ T116.out T117.out r1 HRR1.out).mono ?_
  intro e w2 hret
  obtain ⟨v2, rfl, hty2, hb⟩ := HF1.out _ _ _ hret
  obtain ⟨a2, k2, rfl, _⟩ := hty2.at.slice
  have T2o := Lib.hid hty2.ok
  clear bf121 bg121 bh121 bz121 bf122 bg122 bh122 bz122
  have Z124 := Lib.hid (show W3.heap.size ≤ w2.heap.size from hb.size)
  have B125 := Lib.hid (B114.out.kept hb)
  have B126 := Lib.hid (B115.out.kept hb)
  have B127 := Lib.hid (B111n.out.kept hb)
  have T128 := Lib.hid (T116.out.kept hb)
  have T129 := Lib.hid (T117.out.kept hb)
  have T130 := Lib.hid (T118.out.kept hb)
  have T131 := Lib.hid (T119.out.kept hb)
  have H132 := Lib.hid (H120.out.trans (hb.mono H120.out.size))
  clear hb hret hty2
  obtain ⟨W4, hW133⟩ : ∃ W, w2.alloc (.cells #[.int .i64 T1.k, .int .i64 T1.n, .slice a2 T1.ks.length k2] 28) = W := ⟨_, rfl⟩
  have hA133 : Below w2.heap.size w2 W4 := by rw [← hW133]; exact (Below.refl _ _).alloc (Nat.le_refl _) _
  have hZ133 : W4.heap.size = w2.heap.size + 1 := by rw [← hW133]; simp
  have B133n : Hid (TBox W4 w2.heap.size (.int .i64 T1.k) (.int .i64 T1.n) (.slice a2 T1.ks.length k2)) := Lib.hid (by rw [← hW133]; exact tbox_new w2 _ _ _ _)
  have Zb133 := Lib.hid hZ133
  have Z135 := Lib.hid (show w2.heap.size ≤ W4.heap.size from hA133.size)
  have B136 := Lib.hid (B125.out.kept hA133)
  have B137 := Lib.hid (B126.out.kept hA133)
  have B138 := Lib.hid (B127.out.kept hA133)
  have T139 := Lib.hid (T128.out.kept hA133)
  have T140 := Lib.hid (T129.out.kept hA133)
  have T141 := Lib.hid (T130.out.kept hA133)
  have T142 := Lib.hid (T2o.out.kept hA133)
  have T143 := Lib.hid (T131.out.kept hA133)
  have H144 := Lib.hid (H132.out.trans (hA133.mono H132.out.size))
  clear hA133 hZ133
  obtain ⟨bf145, bg145, bh145, bz145⟩ := B138.out
  go_wp2_with fail
  clear hW133
  go_at_call 18
  refine (drawSubstVars_any aM len2 cap2 zs2 _ T143.out).mono ?_
  rintro e w5 ⟨t, vt, L, lg, lc, hnt, hL3, hLn, rfl, htt, hll, hb⟩
  have LL := Lib.hid hll
  obtain ⟨at_, ct, rfl, _⟩ := htt.at.slice
  clear bf145 bg145 bh145 bz145
  have Z147 := Lib.hid (show W4.heap.size ≤ w5.heap.size from hb.size)
  have B148 := Lib.hid (B136.out.kept hb)
  have B149 := Lib.hid (B137.out.kept hb)
  have B150 := Lib.hid (B138.out.kept hb)
  have B151 := Lib.hid (B133n.out.kept hb)
  have T152 := Lib.hid (T139.out.kept hb)
  have T153 := Lib.hid (T140.out.kept hb)
  have T154 := Lib.hid (T141.out.kept hb)
  have T155 := Lib.hid (T142.out.kept hb)
  have T156 := Lib.hid (T143.out.kept hb)
  have H157 := Lib.hid (H144.out.trans (hb.mono H144.out.size))
  clear hb hll htt hnt hLn
  obtain ⟨r3, hr3⟩ : ∃ r, svT x L = r := ⟨_, rfl⟩
  have HRR3 := Lib.hid hr3
  obtain ⟨T3, hT3⟩ : ∃ T, optT r3 = T := ⟨_, rfl⟩
  obtain ⟨b3, hb3⟩ : ∃ b, r3.isSome = b := ⟨_, rfl⟩
  have HNT3 : Hid (nodes T3 ≤ 1048577) := Lib.hid (by rw [← hT3]; exact svT_nodes hr3)
  have HSOME3 : Hid (b3 = true → svT x L = some T3) := Lib.hid (fun h => by
    rw [hr3, ← hT3]
    rw [← hb3] at h
    rcases r3 with _ | X
    · cases h
    · rfl)
  have HF3 : Hid (∀ (w : World) (e : Ending) (w' : World), OptRet r3 w e w' → ∃ v, e = .returned (.tuple #[.agg #[.int .i64 T3.k, .int .i64 T3.n, v], .bool b3]) ∧ TyIn w' w.heap.size w'.heap.size T3 v ∧ Below w.heap.size w w') := Lib.hid (by rw [← hT3, ← hb3]; exact fun w e w' h => h.flat)
  have hbb3 : (b3 != b3) = false := by cases b3 <;> rfl
  have HV3 : Hid (sameB T3 T3 = true) := Lib.hid (sameB_yes rfl)
  clear hT3 hb3 hr3
  obtain ⟨r4, hr4⟩ : ∃ r, svT y L = r := ⟨_, rfl⟩
  have HRR4 := Lib.hid hr4
  obtain ⟨T4, hT4⟩ : ∃ T, optT r4 = T := ⟨_, rfl⟩
  obtain ⟨b4, hb4⟩ : ∃ b, r4.isSome = b := ⟨_, rfl⟩
  have HNT4 : Hid (nodes T4 ≤ 1048577) := Lib.hid (by rw [← hT4]; exact svT_nodes hr4)
  have HSOME4 : Hid (b4 = true → svT y L = some T4) := Lib.hid (fun h => by
    rw [hr4, ← hT4]
    rw [← hb4] at h
    rcases r4 with _ | X
    · cases h
    · rfl)
  have HF4 : Hid (∀ (w : World) (e : Ending) (w' : World), OptRet r4 w e w' → ∃ v, e = .returned (.tuple #[.agg #[.int .i64 T4.k, .int .i64 T4.n, v], .bool b4]) ∧ TyIn w' w.heap.size w'.heap.size T4 v ∧ Below w.heap.size w w') := Lib.hid (by rw [← hT4, ← hb4]; exact fun w e w' h => h.flat)
  have hbb4 : (b4 != b4) = false := by cases b4 <;> rfl
  have HV4 : Hid (sameB T4 T4 = true) := Lib.hid (sameB_yes rfl)
  clear hT4 hb4 hr4
  obtain ⟨W5b, hW158⟩ : ∃ W, w5.alloc (.cells #[.int .i64 t.k, .int .i64 t.n, .slice at_ t.ks.length ct] 28) = W := ⟨_, rfl⟩
  have hA158 : Below w5.heap.size w5 W5b := by rw [← hW158]; exact (Below.refl _ _).alloc (Nat.le_refl _) _
  have hZ158 : W5b.heap.size = w5.heap.size + 1 := by rw [← hW158]; simp
  have B158n : Hid (TBox W5b w5.heap.size (.int .i64 t.k) (.int .i64 t.n) (.slice at_ t.ks.length ct)) := Lib.hid (by rw [← hW158]; exact tbox_new w5 _ _ _ _)
  have Zb158 := Lib.hid hZ158
  have Z160 := Lib.hid (show w5.heap.size ≤ W5b.heap.size from hA158.size)
  have B161 := Lib.hid (B148.out.kept hA158)
  have B162 := Lib.hid (B149.out.kept hA158)
  have B163 := Lib.hid (B150.out.kept hA158)
  have B164 := Lib.hid (B151.out.kept hA158)
  have T165 := Lib.hid (T152.out.kept hA158)
  have T166 := Lib.hid (T153.out.kept hA158)
  have T167 := Lib.hid (T154.out.kept hA158)
  have T168 := Lib.hid (T155.out.kept hA158)
  have T169 := Lib.hid (LL.out.kept hA158)
  have T170 := Lib.hid (T156.out.kept hA158)
  have H171 := Lib.hid (H157.out.trans (hA158.mono H157.out.size))
  clear hA158 hZ158
  obtain ⟨bf172, bg172, bh172, bz172⟩ := B161.out
  obtain ⟨bf173, bg173, bh173, bz173⟩ := B162.out
  go_wp2_with fail
  clear hW158
  go_at_call 19
  refine (substVars_impl x L _ _ _ T165.out.at T169.out.at r3 HRR3.out).mono ?_
  intro e w6 hret
  obtain ⟨v6, rfl, hty6, hb⟩ := HF3.out _ _ _ hret
  obtain ⟨a6, k6, rfl, _⟩ := hty6.at.slice
  have T6o := Lib.hid hty6.ok
  clear bf172 bg172 bh172 bz172 bf173 bg173 bh173 bz173
  have Z175 := Lib.hid (show W5b.heap.size ≤ w6.heap.size from hb.size)
  have B176 := Lib.hid (B161.out.kept hb)
  have B177 := Lib.hid (B162.out.kept hb)
  have B178 := Lib.hid (B163.out.kept hb)
  have B179 := Lib.hid (B164.out.kept hb)
  have B180 := Lib.hid (B158n.out.kept hb)
  have T181 := Lib.hid (T165.out.kept hb)
  have T182 := Lib.hid (T166.out.kept hb)
  have T183 := Lib.hid (T167.out.kept hb)
  have T184 := Lib.hid (T168.out.kept hb)
  have T185 := Lib.hid (T169.out.kept hb)
  have T186 := Lib.hid (T170.out.kept hb)
  have H187 := Lib.hid (H171.out.trans (hb.mono H171.out.size))
  clear hb hret hty6
  obtain ⟨W7, hW188⟩ : ∃ W, w6.alloc (.cells #[.int .i64 T3.k, .int .i64 T3.n, .slice a6 T3.ks.length k6] 28) = W := ⟨_, rfl⟩
  have hA188 : Below w6.heap.size w6 W7 := by rw [← hW188]; exact (Below.refl _ _).alloc (Nat.le_refl _) _
  have hZ188 : W7.heap.size = w6.heap.size + 1 := by rw [← hW188]; simp
  have B188n : Hid (TBox W7 w6.heap.size (.int .i64 T3.k) (.int .i64 T3.n) (.slice a6 T3.ks.length k6)) := Lib.hid (by rw [← hW188]; exact tbox_new w6 _ _ _ _)
  have Zb188 := Lib.hid hZ188
  have Z190 := Lib.hid (show w6.heap.size ≤ W7.heap.size from hA188.size)
  have B191 := Lib.hid (B176.out.kept hA188)
  have B192 := Lib.hid (B177.out.kept hA188)
  have B193 := Lib.hid (B178.out.kept hA188)
  have B194 := Lib.hid (B179.out.kept hA188)
  have B195 := Lib.hid (B180.out.kept hA188)
  have T196 := Lib.hid (T181.out.kept hA188)
  have T197 := Lib.hid (T182.out.kept hA188)
  have T198 := Lib.hid (T183.out.kept hA188)
  have T199 := Lib.hid (T184.out.kept hA188)
  have T200 := Lib.hid (T185.out.kept hA188)
  have T201 := Lib.hid (T6o.out.kept hA188)
  have T202 := Lib.hid (T186.out.kept hA188)
  have H203 := Lib.hid (H187.out.trans (hA188.mono H187.out.size))
  clear hA188 hZ188
  obtain ⟨bf204, bg204, bh204, bz204⟩ := B192.out
  go_wp2_with fail
  clear hW188
  go_at_call 19
  refine (substVars_impl y L _ _ _ T197.out.at T200.out.at r4 HRR4.out).mono ?_
  intro e w8 hret
  obtain ⟨v7, rfl, hty7, hb⟩ := HF4.out _ _ _ hret
  obtain ⟨a7, k7, rfl, _⟩ := hty7.at.slice
  have T7o := Lib.hid hty7.ok
  clear bf204 bg204 bh204 bz204
  have Z206 := Lib.hid (show W7.heap.size ≤ w8.heap.size from hb.size)
  have B207 := Lib.hid (B191.out.kept hb)
  have B208 := Lib.hid (B192.out.kept hb)
  have B209 := Lib.hid (B193.out.kept hb)
  have B210 := Lib.hid (B194.out.kept hb)
  have B211 := Lib.hid (B195.out.kept hb)
  have B212 := Lib.hid (B188n.out.kept hb)
  have T213 := Lib.hid (T196.out.kept hb)
  have T214 := Lib.hid (T197.out.kept hb)
  have T215 := Lib.hid (T198.out.kept hb)
  have T216 := Lib.hid (T199.out.kept hb)
  have T217 := Lib.hid (T200.out.kept hb)
  have T218 := Lib.hid (T201.out.kept hb)
  have T219 := Lib.hid (T202.out.kept hb)
  have H220 := Lib.hid (H203.out.trans (hb.mono H203.out.size))
  clear hb hret hty7
  obtain ⟨W9, hW221⟩ : ∃ W, w8.alloc (.cells #[.int .i64 T4.k, .int .i64 T4.n, .slice a7 T4.ks.length k7] 28) = W := ⟨_, rfl⟩
  have hA221 : Below w8.heap.size w8 W9 := by rw [← hW221]; exact (Below.refl _ _).alloc (Nat.le_refl _) _
  have hZ221 : W9.heap.size = w8.heap.size + 1 := by rw [← hW221]; simp
  have B221n : Hid (TBox W9 w8.heap.size (.int .i64 T4.k) (.int .i64 T4.n) (.slice a7 T4.ks.length k7)) := Lib.hid (by rw [← hW221]; exact tbox_new w8 _ _ _ _)
  have Zb221 := Lib.hid hZ221
  have Z223 := Lib.hid (show w8.heap.size ≤ W9.heap.size from hA221.size)
  have B224 := Lib.hid (B207.out.kept hA221)
  have B225 := Lib.hid (B208.out.kept hA221)
  have B226 := Lib.hid (B209.out.kept hA221)
  have B227 := Lib.hid (B210.out.kept hA221)
  have B228 := Lib.hid (B211.out.kept hA221)
  have B229 := Lib.hid (B212.out.kept hA221)
  have T230 := Lib.hid (T213.out.kept hA221)
  have T231 := Lib.hid (T214.out.kept hA221)
  have T232 := Lib.hid (T215.out.kept hA221)
  have T233 := Lib.hid (T216.out.kept hA221)
  have T234 := Lib.hid (T217.out.kept hA221)
  have T235 := Lib.hid (T218.out.kept hA221)
  have T236 := Lib.hid (T7o.out.kept hA221)
  have T237 := Lib.hid (T219.out.kept hA221)
  have H238 := Lib.hid (H220.out.trans (hA221.mono H220.out.size))
  clear hA221 hZ221
  obtain ⟨bf239, bg239, bh239, bz239⟩ := B226.out
  obtain ⟨bf240, bg240, bh240, bz240⟩ := B227.out
  go_wp2_with fail
  clear hW221
  go_at_call 16
  refine (typeSame_impl T1 T1 0 _ _ _ HNT1.out T232.out T233.out).mono ?_
  rintro e w10 ⟨rfl, hb⟩
  have Z242 := Lib.hid (show W9.heap.size ≤ w10.heap.size from hb.size)
  have B243 := Lib.hid (B224.out.kept hb)
  have B244 := Lib.hid (B225.out.kept hb)
  have B245 := Lib.hid (B226.out.kept hb)
  have B246 := Lib.hid (B227.out.kept hb)
  have B247 := Lib.hid (B228.out.kept hb)
  have B248 := Lib.hid (B229.out.kept hb)
  have B249 := Lib.hid (B221n.out.kept hb)
  have T250 := Lib.hid (T230.out.kept hb)
  have T251 := Lib.hid (T231.out.kept hb)
  have T252 := Lib.hid (T232.out.kept hb)
  have T253 := Lib.hid (T233.out.kept hb)
  have T254 := Lib.hid (T234.out.kept hb)
  have T255 := Lib.hid (T235.out.kept hb)
  have T256 := Lib.hid (T236.out.kept hb)
  have T257 := Lib.hid (T237.out.kept hb)
  have H258 := Lib.hid (H238.out.trans (hb.mono H238.out.size))
  rw [HV1.out]
  clear bf239 bg239 bh239 bz239 bf240 bg240 bh240 bz240
  clear hb
  obtain ⟨bf259, bg259, bh259, bz259⟩ := B245.out
  obtain ⟨bf260, bg260, bh260, bz260⟩ := B246.out
  rcases b3 with _ | _
  · skip
    go_wp2_with fail
    go_at_call 16
    refine (typeSame_impl T1 T1 0 _ _ _ HNT1.out T252.out T253.out).mono ?_
    rintro e w11 ⟨rfl, hb⟩
    have Z262 := Lib.hid (show w10.heap.size ≤ w11.heap.size from hb.size)
    have B263 := Lib.hid (B243.out.kept hb)
    have B264 := Lib.hid (B244.out.kept hb)
    have B265 := Lib.hid (B245.out.kept hb)
    have B266 := Lib.hid (B246.out.kept hb)
    have B267 := Lib.hid (B247.out.kept hb)
    have B268 := Lib.hid (B248.out.kept hb)
    have B269 := Lib.hid (B249.out.kept hb)
    have T270 := Lib.hid (T250.out.kept hb)
    have T271 := Lib.hid (T251.out.kept hb)
    have T272 := Lib.hid (T252.out.kept hb)
    have T273 := Lib.hid (T253.out.kept hb)
    have T274 := Lib.hid (T254.out.kept hb)
    have T275 := Lib.hid (T255.out.kept hb)
    have T276 := Lib.hid (T256.out.kept hb)
    have T277 := Lib.hid (T257.out.kept hb)
    have H278 := Lib.hid (H258.out.trans (hb.mono H258.out.size))
    rw [HV1.out]
    clear bf259 bg259 bh259 bz259 bf260 bg260 bh260 bz260
    clear hb
    go_wp2_with fail
    go_ret
    exact ⟨rfl, H278.out⟩
  rcases b4 with _ | _
  · skip
    go_wp2_with fail
    go_at_call 16
    refine (typeSame_impl T1 T1 0 _ _ _ HNT1.out T252.out T253.out).mono ?_
    rintro e w11 ⟨rfl, hb⟩
    have Z262 := Lib.hid (show w10.heap.size ≤ w11.heap.size from hb.size)
    have B263 := Lib.hid (B243.out.kept hb)
    have B264 := Lib.hid (B244.out.kept hb)
    have B265 := Lib.hid (B245.out.kept hb)
    have B266 := Lib.hid (B246.out.kept hb)
    have B267 := Lib.hid (B247.out.kept hb)
    have B268 := Lib.hid (B248.out.kept hb)
    have B269 := Lib.hid (B249.out.kept hb)
    have T270 := Lib.hid (T250.out.kept hb)
    have T271 := Lib.hid (T251.out.kept hb)
    have T272 := Lib.hid (T252.out.kept hb)
    have T273 := Lib.hid (T253.out.kept hb)
    have T274 := Lib.hid (T254.out.kept hb)
    have T275 := Lib.hid (T255.out.kept hb)
    have T276 := Lib.hid (T256.out.kept hb)
    have T277 := Lib.hid (T257.out.kept hb)
    have H278 := Lib.hid (H258.out.trans (hb.mono H258.out.size))
    rw [HV1.out]
    clear bf259 bg259 bh259 bz259 bf260 bg260 bh260 bz260
    clear hb
    go_wp2_with fail
    go_ret
    exact ⟨rfl, H278.out⟩
  clear bf259 bg259 bh259 bz259 bf260 bg260 bh260 bz260
  have HSM3 := Lib.hid (HSOME3.out rfl)
  have HSM4 := Lib.hid (HSOME4.out rfl)
  obtain ⟨sb, hsb⟩ : ∃ b, sameB T3 T4 = b := ⟨_, rfl⟩
  have HSB := Lib.hid hsb
  clear hsb
  obtain ⟨bf261, bg261, bh261, bz261⟩ := B248.out
  obtain ⟨bf262, bg262, bh262, bz262⟩ := B249.out
  go_wp2_with fail
  go_at_call 16
  refine (typeSame_impl T3 T4 0 _ _ _ HNT3.out T255.out T256.out).mono ?_
  rintro e w11 ⟨rfl, hb⟩
  have Z264 := Lib.hid (show w10.heap.size ≤ w11.heap.size from hb.size)
  have B265 := Lib.hid (B243.out.kept hb)
  have B266 := Lib.hid (B244.out.kept hb)
  have B267 := Lib.hid (B245.out.kept hb)
  have B268 := Lib.hid (B246.out.kept hb)
  have B269 := Lib.hid (B247.out.kept hb)
  have B270 := Lib.hid (B248.out.kept hb)
  have B271 := Lib.hid (B249.out.kept hb)
  have T272 := Lib.hid (T250.out.kept hb)
  have T273 := Lib.hid (T251.out.kept hb)
  have T274 := Lib.hid (T252.out.kept hb)
  have T275 := Lib.hid (T253.out.kept hb)
  have T276 := Lib.hid (T254.out.kept hb)
  have T277 := Lib.hid (T255.out.kept hb)
  have T278 := Lib.hid (T256.out.kept hb)
  have T279 := Lib.hid (T257.out.kept hb)
  have H280 := Lib.hid (H258.out.trans (hb.mono H258.out.size))
  rw [HSB.out]
  clear bf261 bg261 bh261 bz261 bf262 bg262 bh262 bz262
  clear hb
  rcases sb with _ | _
  · skip
    obtain ⟨bf281, bg281, bh281, bz281⟩ := B267.out
    obtain ⟨bf282, bg282, bh282, bz282⟩ := B268.out
    go_wp2_with fail
    go_at_call 16
    refine (typeSame_impl T1 T1 0 _ _ _ HNT1.out T274.out T275.out).mono ?_
    rintro e w12 ⟨rfl, hb⟩
    have Z284 := Lib.hid (show w11.heap.size ≤ w12.heap.size from hb.size)
    have B285 := Lib.hid (B265.out.kept hb)
    have B286 := Lib.hid (B266.out.kept hb)
    have B287 := Lib.hid (B267.out.kept hb)
    have B288 := Lib.hid (B268.out.kept hb)
    have B289 := Lib.hid (B269.out.kept hb)
    have B290 := Lib.hid (B270.out.kept hb)
    have B291 := Lib.hid (B271.out.kept hb)
    have T292 := Lib.hid (T272.out.kept hb)
    have T293 := Lib.hid (T273.out.kept hb)
    have T294 := Lib.hid (T274.out.kept hb)
    have T295 := Lib.hid (T275.out.kept hb)
    have T296 := Lib.hid (T276.out.kept hb)
    have T297 := Lib.hid (T277.out.kept hb)
    have T298 := Lib.hid (T278.out.kept hb)
    have T299 := Lib.hid (T279.out.kept hb)
    have H300 := Lib.hid (H280.out.trans (hb.mono H280.out.size))
    rw [HV1.out]
    clear bf281 bg281 bh281 bz281 bf282 bg282 bh282 bz282
    clear hb
    go_wp2_with fail
    go_ret
    exact ⟨rfl, H300.out⟩
  have hTT : T3 = T4 := by
    by_cases e : T3 = T4
    · exact e
    · have := HSB.out; rw [sameB_no e] at this; cases this
  have hgen := unT_subst HSM3.out (by rw [hTT]; exact HSM4.out)
  obtain ⟨X, hX1, hX2⟩ := hgen
  rcases b1 with _ | _
  · have h1 := HBS1.out; rw [← HRR1.out, hX1] at h1; cases h1
  have hXT : X = T1 := by have h1 := HSOME1.out rfl; rw [hX1] at h1; injection h1
  have HIN : Hid (Mx.instB T3 T1 = true) := Lib.hid (by rw [← hXT]; exact hX2)
  clear hTT hX1 hX2 hXT
  obtain ⟨bf281, bg281, bh281, bz281⟩ := B270.out
  obtain ⟨bf282, bg282, bh282, bz282⟩ := B267.out
  go_wp2_with fail
  go_at_call 17
  refine (Mx.instanceOf_impl T3 T1 _ _ _ HNT3.out T277.out T274.out).mono ?_
  rintro e w12 ⟨rfl, hb⟩
  have Z284 := Lib.hid (show w11.heap.size ≤ w12.heap.size from hb.size)
  have B285 := Lib.hid (B265.out.kept hb)
  have B286 := Lib.hid (B266.out.kept hb)
  have B287 := Lib.hid (B267.out.kept hb)
  have B288 := Lib.hid (B268.out.kept hb)
  have B289 := Lib.hid (B269.out.kept hb)
  have B290 := Lib.hid (B270.out.kept hb)
  have B291 := Lib.hid (B271.out.kept hb)
  have T292 := Lib.hid (T272.out.kept hb)
  have T293 := Lib.hid (T273.out.kept hb)
  have T294 := Lib.hid (T274.out.kept hb)
  have T295 := Lib.hid (T275.out.kept hb)
  have T296 := Lib.hid (T276.out.kept hb)
  have T297 := Lib.hid (T277.out.kept hb)
  have T298 := Lib.hid (T278.out.kept hb)
  have T299 := Lib.hid (T279.out.kept hb)
  have H300 := Lib.hid (H280.out.trans (hb.mono H280.out.size))
  rw [HIN.out]
  clear bf281 bg281 bh281 bz281 bf282 bg282 bh282 bz282
  clear hb
  go_wp2_with fail
  go_ret
  exact ⟨rfl, H300.out⟩

set_option maxRecDepth 100000 in
theorem lifted (os : Os) (started : os.Started) (H : Type) (enc : TypeId × Value → H) :
    ReturnsInHanded {} Try.checked os 5 .any (Rows.fnUnifyGeneralSpec.pre6 enc Try.prog Try.f5 Rows.fnUnifyGeneralRow.domain false) (Rows.fnUnifyGeneralSpec.post enc Try.prog Try.f5 false true false false) := by
  refine returnsInHanded_of_change (C := Try.checked) own started (by kernel_rfl) Try.func5
    (ChangeSpec.witness6 (enc := enc) (C := Try.checked) false ⟨#[], #[.slice none 0 0, .slice none 0 0], []⟩ 8 (by kernel_rfl) (by kernel_rfl) (by kernel_rfl) (by kernel_rfl)) ?_
  intro W base args ds gs before hval0 hW hcnd _
  have hval : ∀ (j : Nat) t v, Try.f5.params[j]? = some t → args[j]? = some v → Value.okWide Try.prog W .any base t v := hval0
  have hW' := hW
  obtain ⟨p, q, hA0, hV, rfl, hfz, hnd⟩ := hW
  have hA : DataW.TrodAll enc Try.prog W 0 (fun _ => true) true Try.f5.params.toList args.toList ds p := hA0
  rw [Try.params5] at hA hval
  obtain ⟨v0, vs0, d0, ds0, p0, q0, hargs, rfl, rfl, h0, r0⟩ := trodAll_cons hA
  obtain ⟨v1, vs1, d1, ds1, p1, q1, rfl, rfl, rfl, h1, r1⟩ := trodAll_cons r0
  obtain ⟨rfl, rfl, rfl⟩ := trodAll_nil r1
  obtain rfl : args = #[v0, v1] := by cases args; simp_all
  obtain ⟨rfl, rfl⟩ := trodVars_none hV
  have k0 := h0
  have lt0 : ∀ x ∈ p0, x.block < W.heap.size := by obtain ⟨m, hm⟩ := k0; exact DataW.trod_lt m _ _ _ hm
  have k1 := h1
  have lt1 : ∀ x ∈ p1, x.block < W.heap.size := by obtain ⟨m, hm⟩ := k1; exact DataW.trod_lt m _ _ _ hm
  obtain ⟨a0, len0, cap0, rfl⟩ := okWide_slice Try.underlying35 (hval 0 35 v0 rfl rfl)
  obtain ⟨z0, w0⟩ : ∃ zs, IsRow W a0 len0 cap0 zs := by
    obtain ⟨fuel, hf⟩ := h0
    rcases open_ints Try.underlying35 Try.underlying5 (by kernel_rfl) hf with ⟨hcs, _⟩ | ⟨x, l, c, zs, hcs, _, hl, hm, hz, _, hcell, hwz⟩
    · simp [Value.cells] at hcs
      obtain ⟨rfl, rfl, rfl⟩ := hcs
      exact ⟨[], .inl ⟨rfl, rfl, rfl, rfl⟩⟩
    · simp [Value.cells] at hcs
      obtain ⟨rfl, rfl, rfl⟩ := hcs
      exact ⟨zs, .inr ⟨_, rfl, hl, hm, by simpa using hz, hcell, hwz⟩⟩
  obtain ⟨a1, len1, cap1, rfl⟩ := okWide_slice Try.underlying35 (hval 1 35 v1 rfl rfl)
  obtain ⟨z1, w1⟩ : ∃ zs, IsRow W a1 len1 cap1 zs := by
    obtain ⟨fuel, hf⟩ := h1
    rcases open_ints Try.underlying35 Try.underlying5 (by kernel_rfl) hf with ⟨hcs, _⟩ | ⟨x, l, c, zs, hcs, _, hl, hm, hz, _, hcell, hwz⟩
    · simp [Value.cells] at hcs
      obtain ⟨rfl, rfl, rfl⟩ := hcs
      exact ⟨[], .inl ⟨rfl, rfl, rfl, rfl⟩⟩
    · simp [Value.cells] at hcs
      obtain ⟨rfl, rfl, rfl⟩ := hcs
      exact ⟨zs, .inr ⟨_, rfl, hl, hm, by simpa using hz, hcell, hwz⟩⟩
  clear hA0 hval0
  refine (walk a0 len0 cap0 z0 a1 len1 cap1 z1 W w0 w1).mono fun e W' ⟨he, bel⟩ => ?_
  subst he
  exact ⟨_, rfl, _, _, _, [], _, [], hW', trodAll_mk1 (shut_bool Try.underlying4 _), (trodAll_cons_mk (Below.trod laidOut (by kernel_rfl) (of_decide_eq_true (by kernel_rfl)) k0 bel lt0) (trodAll_cons_mk (Below.trod laidOut (by kernel_rfl) (of_decide_eq_true (by kernel_rfl)) k1 bel lt1) trodAll_mk0)), rfl, bel.frame _, fun h => by cases h⟩

theorem over : Rows.fnUnifyGeneralRow.holds Try.pinned (OpenSpec.ofChange Rows.fnUnifyGeneralSpec) :=
  OpenClaim.holds_of_wide 5 Try.f5 rfl rfl rfl rfl rfl rfl rfl ⟨rfl, rfl, rfl, rfl, rfl⟩ rfl rfl rfl rfl rfl (by kernel_rfl) Try.func5 (by kernel_rfl)
    (of_decide_eq_true (by kernel_rfl)) (by unfold Func.isWrapper; first | (rw [if_pos (by decide +kernel)]; kernel_rfl) | (rw [if_neg (by decide +kernel)]; exact ⟨rfl, rfl⟩))
    (fun os started H enc _ => lifted os started H enc)

/-- The given statement. -/
theorem proved : Rows.FnUnifyGeneralSaid := over
end Go.Proofs.Ytjhccdioainibaa.fnUnifyGeneral
