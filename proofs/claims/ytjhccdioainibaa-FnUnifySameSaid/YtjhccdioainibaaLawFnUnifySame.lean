/-
  FnUnifySame returns true for every slice of bytes: a type is unified with itself to its canonical form, and with each of its instances without variables to the instance. No conditions.
-/
import Derived.Test.YtjhccdioainibaaRows
import Derived.ProofKit
import Derived.OpenShut
import Derived.ShutString
import Derived.ChangeOld
import Derived.Below
import Derived.Lib.SmallJoins
import Derived.Test.YtjhccdioainibaaW27
import Derived.Test.YtjhccdioainibaaW29
import Derived.Test.YtjhccdioainibaaQb
import Derived.Test.YtjhccdioainibaaW11
import Derived.Test.YtjhccdioainibaaW25
namespace Go.Proofs.Ytjhccdioainibaa.fnUnifySame
open Go.Proofs.Ytjhccdioainibaa
open Go.ChangeShapes Go.WideShapes Go.ChangeAt Go.RowKit Go.Joins
open Go.ChangeMaps (open_string shut_string)
set_option linter.unusedVariables false
set_option linter.unusedSimpArgs false

theorem own : ownKnob Try.prog.godebug = none := by kernel_rfl
theorem laidOut : laidOutB Try.prog = true := by kernel_rfl

theorem unT_nodes {a b : Ty} {r : Option Ty} (h : unT a b = r) : nodes (optT r) ≤ 1048577 := by
  rcases r with _ | X
  · show nodes (.node 0 0 []) ≤ _
    simp [nodes, nodesL]
  · have h := nodes_shp 16 X (tvT_shp (unT_some h).2.2.1)
    have e : (2 : Nat) ^ 16 = 65536 := by decide
    show nodes X ≤ _
    omega
theorem cnT_some {a x : Ty} (h : cnT a = some x) : tvT a = true ∧ tvT x = true ∧ x = canT a := by
  unfold cnT at h
  split at h
  · rename_i hv
    injection h with h
    exact ⟨hv, by rw [← h]; exact canT_valid hv, h.symm⟩
  · cases h
theorem cnT_nodes {a : Ty} {r : Option Ty} (h : cnT a = r) : nodes (optT r) ≤ 1048577 := by
  rcases r with _ | X
  · show nodes (.node 0 0 []) ≤ _
    simp [nodes, nodesL]
  · have h := nodes_shp 16 X (tvT_shp (cnT_some h).2.1)
    have e : (2 : Nat) ^ 16 = 65536 := by decide
    show nodes X ≤ _
    omega
theorem svT_nodes {a : Ty} {L : List Ty} {r : Option Ty} (h : svT a L = r) : nodes (optT r) ≤ 1048577 := by
  rcases r with _ | X
  · show nodes (.node 0 0 []) ≤ _
    simp [nodes, nodesL]
  · have h := nodes_shp 16 X (tvT_shp (Mx.sv_parts h).2.1)
    have e : (2 : Nat) ^ 16 = 65536 := by decide
    show nodes X ≤ _
    omega
set_option maxRecDepth 100000 in
set_option maxHeartbeats 16000000 in
theorem walk (a : Option Addr) (len cap : Nat) (zs : List Int) (w : World) (hrow : IsRow w a len cap zs) :
    Calls Try.prog 6 #[.slice a len cap] w fun e w' => e = .returned (.bool true) ∧ Below w.heap.size w w' := by
  have HRow := Lib.hid hrow
  have hm := hrow.len
  unfold maxLen at hm
  clear hrow
  by_cases hl : len ≤ 1048576
  case neg =>
    go_enter Try.func6, Try.ntmps6
    go_wp2
    go_ret
    exact ⟨rfl, Below.refl _ _⟩
  go_enter Try.func6, Try.ntmps6
  go_wp2_with fail
  go_at_call 15
  refine (drawUnifyTypes_any a len cap zs _ HRow.out).mono ?_
  rintro e w0 ⟨x, y, vx, vy, hnx, hny, rfl, htx, hty, hb0⟩
  have H0 := Lib.hid hb0
  have TX := Lib.hid htx
  have TY := Lib.hid hty
  have HNX := Lib.hid (show nodes x ≤ 1048577 by omega)
  have HNY := Lib.hid (show nodes y ≤ 1048577 by omega)
  obtain ⟨ax, cx, rfl, _⟩ := htx.at.slice
  obtain ⟨ay, cy, rfl, _⟩ := hty.at.slice
  clear hb0 htx hty hnx hny
  obtain ⟨W2, hW2⟩ : ∃ W, (w0.alloc (.cells #[.int .i64 x.k, .int .i64 x.n, .slice ax x.ks.length cx] 28)).alloc (.cells #[.int .i64 y.k, .int .i64 y.n, .slice ay y.ks.length cy] 28) = W := ⟨_, rfl⟩
  obtain ⟨E, hE⟩ : ∃ E, w0.heap.size = E := ⟨_, rfl⟩
  have hb2 : Below w0.heap.size w0 W2 := by rw [← hW2]; exact ((Below.refl _ _).alloc (Nat.le_refl _) _).alloc (by simp) _
  have PA : Hid (TBox W2 E (.int .i64 x.k) (.int .i64 x.n) (.slice ax x.ks.length cx)) := Lib.hid (by rw [← hW2, ← hE]; exact (tbox_new w0 _ _ _ _).kept ((Below.refl _ _).alloc (Nat.le_refl _) _))
  have PB : Hid (TBox W2 (E + 1) (.int .i64 y.k) (.int .i64 y.n) (.slice ay y.ks.length cy)) := Lib.hid (by
    have h := tbox_new (w0.alloc (.cells #[.int .i64 x.k, .int .i64 x.n, .slice ax x.ks.length cx] 28)) (.int .i64 y.k) (.int .i64 y.n) (.slice ay y.ks.length cy) 28
    rw [hW2, sizeA, hE] at h; exact h)
  have H2 := Lib.hid (H0.out.trans (hb2.mono H0.out.size))
  have TX2 := Lib.hid (TX.out.kept hb2)
  have TY2 := Lib.hid (TY.out.kept hb2)
  have HW2 := Lib.hid hW2
  clear hW2 hb2
  obtain ⟨r1, hr1⟩ : ∃ r, cnT x = r := ⟨_, rfl⟩
  have HRR1 := Lib.hid hr1
  obtain ⟨T1, hT1⟩ : ∃ T, optT r1 = T := ⟨_, rfl⟩
  obtain ⟨b1, hb1⟩ : ∃ b, r1.isSome = b := ⟨_, rfl⟩
  have HNT1 : Hid (nodes T1 ≤ 1048577) := Lib.hid (by rw [← hT1]; exact cnT_nodes hr1)
  have HSOME1 : Hid (b1 = true → cnT x = some T1) := Lib.hid (fun h => by
    rw [hr1, ← hT1]
    rw [← hb1] at h
    rcases r1 with _ | X
    · cases h
    · rfl)
  have HF1 : Hid (∀ (w : World) (e : Ending) (w' : World), OptRet r1 w e w' → ∃ v, e = .returned (.tuple #[.agg #[.int .i64 T1.k, .int .i64 T1.n, v], .bool b1]) ∧ TyIn w' w.heap.size w'.heap.size T1 v ∧ Below w.heap.size w w') := Lib.hid (by rw [← hT1, ← hb1]; exact fun w e w' h => h.flat)
  have hbb1 : (b1 != b1) = false := by cases b1 <;> rfl
  have HV1 : Hid (sameB T1 T1 = true) := Lib.hid (sameB_yes rfl)
  clear hT1 hb1 hr1
  obtain ⟨r2, hr2⟩ : ∃ r, cnT y = r := ⟨_, rfl⟩
  have HRR2 := Lib.hid hr2
  obtain ⟨T2, hT2⟩ : ∃ T, optT r2 = T := ⟨_, rfl⟩
  obtain ⟨b2, hb2⟩ : ∃ b, r2.isSome = b := ⟨_, rfl⟩
  have HNT2 : Hid (nodes T2 ≤ 1048577) := Lib.hid (by rw [← hT2]; exact cnT_nodes hr2)
  have HSOME2 : Hid (b2 = true → cnT y = some T2) := Lib.hid (fun h => by
    rw [hr2, ← hT2]
    rw [← hb2] at h
    rcases r2 with _ | X
    · cases h
    · rfl)
  have HF2 : Hid (∀ (w : World) (e : Ending) (w' : World), OptRet r2 w e w' → ∃ v, e = .returned (.tuple #[.agg #[.int .i64 T2.k, .int .i64 T2.n, v], .bool b2]) ∧ TyIn w' w.heap.size w'.heap.size T2 v ∧ Below w.heap.size w w') := Lib.hid (by rw [← hT2, ← hb2]; exact fun w e w' h => h.flat)
  have hbb2 : (b2 != b2) = false := by cases b2 <;> rfl
  have HV2 : Hid (sameB T2 T2 = true) := Lib.hid (sameB_yes rfl)
  clear hT2 hb2 hr2
  have HU1 : Hid (unT x x = r1) := Lib.hid (by rw [unT_self, HRR1.out])
  obtain ⟨us, hus⟩ : ∃ us, varsT y = us := ⟨_, rfl⟩
  have HUS := Lib.hid hus
  obtain ⟨ib, hib⟩ : ∃ b, Mx.instB y x = b := ⟨_, rfl⟩
  have HIB := Lib.hid hib
  clear hus hib
  go_wp2_with fail
  rw [HW2.out]
  clear hE
  obtain ⟨bf101, bg101, bh101, bz101⟩ := PA.out
  obtain ⟨bf102, bg102, bh102, bz102⟩ := PB.out
  go_wp2_with fail
  go_at_call 11
  refine (Nx.unifyTypes_impl x x _ _ _ TX2.out TX2.out r1 HU1.out).mono ?_
  intro e w1 hret
  obtain ⟨v1, rfl, hty1, hb⟩ := HF1.out _ _ _ hret
  obtain ⟨a1, k1, rfl, _⟩ := hty1.at.slice
  have T1o := Lib.hid hty1.ok
  clear bf101 bg101 bh101 bz101 bf102 bg102 bh102 bz102
  have Z104 := Lib.hid (show W2.heap.size ≤ w1.heap.size from hb.size)
  have B105 := Lib.hid (PA.out.kept hb)
  have B106 := Lib.hid (PB.out.kept hb)
  have T107 := Lib.hid (TX2.out.kept hb)
  have T108 := Lib.hid (TY2.out.kept hb)
  have H109 := Lib.hid (H2.out.trans (hb.mono H2.out.size))
  clear hb hret hty1
  obtain ⟨W3, hW110⟩ : ∃ W, w1.alloc (.cells #[.int .i64 T1.k, .int .i64 T1.n, .slice a1 T1.ks.length k1] 28) = W := ⟨_, rfl⟩
  have hA110 : Below w1.heap.size w1 W3 := by rw [← hW110]; exact (Below.refl _ _).alloc (Nat.le_refl _) _
  have hZ110 : W3.heap.size = w1.heap.size + 1 := by rw [← hW110]; simp
  have B110n : Hid (TBox W3 w1.heap.size (.int .i64 T1.k) (.int .i64 T1.n) (.slice a1 T1.ks.length k1)) := Lib.hid (by rw [← hW110]; exact tbox_new w1 _ _ _ _)
  have Zb110 := Lib.hid hZ110
  have Z112 := Lib.hid (show w1.heap.size ≤ W3.heap.size from hA110.size)
  have B113 := Lib.hid (B105.out.kept hA110)
  have B114 := Lib.hid (B106.out.kept hA110)
  have T115 := Lib.hid (T107.out.kept hA110)
  have T116 := Lib.hid (T108.out.kept hA110)
  have T117 := Lib.hid (T1o.out.kept hA110)
  have H118 := Lib.hid (H109.out.trans (hA110.mono H109.out.size))
  clear hA110 hZ110
  obtain ⟨bf119, bg119, bh119, bz119⟩ := B113.out
  go_wp2_with fail
  clear hW110
  go_at_call 9
  refine (unifyTypes_spec x x _ _ _ T115.out T115.out r1 HU1.out).mono ?_
  intro e w2 hret
  obtain ⟨v2, rfl, hty2, hb⟩ := HF1.out _ _ _ hret
  obtain ⟨a2, k2, rfl, _⟩ := hty2.at.slice
  have T2o := Lib.hid hty2.ok
  clear bf119 bg119 bh119 bz119
  have Z121 := Lib.hid (show W3.heap.size ≤ w2.heap.size from hb.size)
  have B122 := Lib.hid (B113.out.kept hb)
  have B123 := Lib.hid (B114.out.kept hb)
  have B124 := Lib.hid (B110n.out.kept hb)
  have T125 := Lib.hid (T115.out.kept hb)
  have T126 := Lib.hid (T116.out.kept hb)
  have T127 := Lib.hid (T117.out.kept hb)
  have H128 := Lib.hid (H118.out.trans (hb.mono H118.out.size))
  clear hb hret hty2
  obtain ⟨W4, hW129⟩ : ∃ W, w2.alloc (.cells #[.int .i64 T1.k, .int .i64 T1.n, .slice a2 T1.ks.length k2] 28) = W := ⟨_, rfl⟩
  have hA129 : Below w2.heap.size w2 W4 := by rw [← hW129]; exact (Below.refl _ _).alloc (Nat.le_refl _) _
  have hZ129 : W4.heap.size = w2.heap.size + 1 := by rw [← hW129]; simp
  have B129n : Hid (TBox W4 w2.heap.size (.int .i64 T1.k) (.int .i64 T1.n) (.slice a2 T1.ks.length k2)) := Lib.hid (by rw [← hW129]; exact tbox_new w2 _ _ _ _)
  have Zb129 := Lib.hid hZ129
  have Z131 := Lib.hid (show w2.heap.size ≤ W4.heap.size from hA129.size)
  have B132 := Lib.hid (B122.out.kept hA129)
  have B133 := Lib.hid (B123.out.kept hA129)
  have B134 := Lib.hid (B124.out.kept hA129)
  have T135 := Lib.hid (T125.out.kept hA129)
  have T136 := Lib.hid (T126.out.kept hA129)
  have T137 := Lib.hid (T127.out.kept hA129)
  have T138 := Lib.hid (T2o.out.kept hA129)
  have H139 := Lib.hid (H128.out.trans (hA129.mono H128.out.size))
  clear hA129 hZ129
  obtain ⟨bf140, bg140, bh140, bz140⟩ := B132.out
  go_wp2_with fail
  clear hW129
  go_at_call 20
  refine (canonType_impl x _ _ T135.out.at r1 HRR1.out).mono ?_
  intro e w3 hret
  obtain ⟨v3, rfl, hty3, hb⟩ := HF1.out _ _ _ hret
  obtain ⟨a3, k3, rfl, _⟩ := hty3.at.slice
  have T3o := Lib.hid hty3.ok
  clear bf140 bg140 bh140 bz140
  have Z142 := Lib.hid (show W4.heap.size ≤ w3.heap.size from hb.size)
  have B143 := Lib.hid (B132.out.kept hb)
  have B144 := Lib.hid (B133.out.kept hb)
  have B145 := Lib.hid (B134.out.kept hb)
  have B146 := Lib.hid (B129n.out.kept hb)
  have T147 := Lib.hid (T135.out.kept hb)
  have T148 := Lib.hid (T136.out.kept hb)
  have T149 := Lib.hid (T137.out.kept hb)
  have T150 := Lib.hid (T138.out.kept hb)
  have H151 := Lib.hid (H139.out.trans (hb.mono H139.out.size))
  clear hb hret hty3
  obtain ⟨W5, hW152⟩ : ∃ W, w3.alloc (.cells #[.int .i64 T1.k, .int .i64 T1.n, .slice a3 T1.ks.length k3] 28) = W := ⟨_, rfl⟩
  have hA152 : Below w3.heap.size w3 W5 := by rw [← hW152]; exact (Below.refl _ _).alloc (Nat.le_refl _) _
  have hZ152 : W5.heap.size = w3.heap.size + 1 := by rw [← hW152]; simp
  have B152n : Hid (TBox W5 w3.heap.size (.int .i64 T1.k) (.int .i64 T1.n) (.slice a3 T1.ks.length k3)) := Lib.hid (by rw [← hW152]; exact tbox_new w3 _ _ _ _)
  have Zb152 := Lib.hid hZ152
  have Z154 := Lib.hid (show w3.heap.size ≤ W5.heap.size from hA152.size)
  have B155 := Lib.hid (B143.out.kept hA152)
  have B156 := Lib.hid (B144.out.kept hA152)
  have B157 := Lib.hid (B145.out.kept hA152)
  have B158 := Lib.hid (B146.out.kept hA152)
  have T159 := Lib.hid (T147.out.kept hA152)
  have T160 := Lib.hid (T148.out.kept hA152)
  have T161 := Lib.hid (T149.out.kept hA152)
  have T162 := Lib.hid (T150.out.kept hA152)
  have T163 := Lib.hid (T3o.out.kept hA152)
  have H164 := Lib.hid (H151.out.trans (hA152.mono H151.out.size))
  clear hA152 hZ152
  obtain ⟨bf165, bg165, bh165, bz165⟩ := B157.out
  obtain ⟨bf166, bg166, bh166, bz166⟩ := B158.out
  go_wp2_with fail
  clear hW152
  go_at_call 16
  refine (typeSame_impl T1 T1 0 _ _ _ HNT1.out T161.out T162.out).mono ?_
  rintro e w4 ⟨rfl, hb⟩
  have Z168 := Lib.hid (show W5.heap.size ≤ w4.heap.size from hb.size)
  have B169 := Lib.hid (B155.out.kept hb)
  have B170 := Lib.hid (B156.out.kept hb)
  have B171 := Lib.hid (B157.out.kept hb)
  have B172 := Lib.hid (B158.out.kept hb)
  have B173 := Lib.hid (B152n.out.kept hb)
  have T174 := Lib.hid (T159.out.kept hb)
  have T175 := Lib.hid (T160.out.kept hb)
  have T176 := Lib.hid (T161.out.kept hb)
  have T177 := Lib.hid (T162.out.kept hb)
  have T178 := Lib.hid (T163.out.kept hb)
  have H179 := Lib.hid (H164.out.trans (hb.mono H164.out.size))
  rw [HV1.out]
  clear bf165 bg165 bh165 bz165 bf166 bg166 bh166 bz166
  clear hb
  obtain ⟨bf180, bg180, bh180, bz180⟩ := B171.out
  obtain ⟨bf181, bg181, bh181, bz181⟩ := B173.out
  go_wp2_with fail
  go_at_call 16
  refine (typeSame_impl T1 T1 0 _ _ _ HNT1.out T176.out T178.out).mono ?_
  rintro e w5 ⟨rfl, hb⟩
  have Z183 := Lib.hid (show w4.heap.size ≤ w5.heap.size from hb.size)
  have B184 := Lib.hid (B169.out.kept hb)
  have B185 := Lib.hid (B170.out.kept hb)
  have B186 := Lib.hid (B171.out.kept hb)
  have B187 := Lib.hid (B172.out.kept hb)
  have B188 := Lib.hid (B173.out.kept hb)
  have T189 := Lib.hid (T174.out.kept hb)
  have T190 := Lib.hid (T175.out.kept hb)
  have T191 := Lib.hid (T176.out.kept hb)
  have T192 := Lib.hid (T177.out.kept hb)
  have T193 := Lib.hid (T178.out.kept hb)
  have H194 := Lib.hid (H179.out.trans (hb.mono H179.out.size))
  rw [HV1.out]
  clear bf180 bg180 bh180 bz180 bf181 bg181 bh181 bz181
  clear hb
  obtain ⟨bf195, bg195, bh195, bz195⟩ := B185.out
  go_wp2_with fail
  go_at_call 20
  refine (canonType_impl y _ _ T190.out.at r2 HRR2.out).mono ?_
  intro e w6 hret
  obtain ⟨v5, rfl, hty5, hb⟩ := HF2.out _ _ _ hret
  obtain ⟨a5, k5, rfl, _⟩ := hty5.at.slice
  have T5o := Lib.hid hty5.ok
  clear bf195 bg195 bh195 bz195
  have Z197 := Lib.hid (show w5.heap.size ≤ w6.heap.size from hb.size)
  have B198 := Lib.hid (B184.out.kept hb)
  have B199 := Lib.hid (B185.out.kept hb)
  have B200 := Lib.hid (B186.out.kept hb)
  have B201 := Lib.hid (B187.out.kept hb)
  have B202 := Lib.hid (B188.out.kept hb)
  have T203 := Lib.hid (T189.out.kept hb)
  have T204 := Lib.hid (T190.out.kept hb)
  have T205 := Lib.hid (T191.out.kept hb)
  have T206 := Lib.hid (T192.out.kept hb)
  have T207 := Lib.hid (T193.out.kept hb)
  have H208 := Lib.hid (H194.out.trans (hb.mono H194.out.size))
  clear hb hret hty5
  obtain ⟨W7, hW209⟩ : ∃ W, w6.alloc (.cells #[.int .i64 T2.k, .int .i64 T2.n, .slice a5 T2.ks.length k5] 28) = W := ⟨_, rfl⟩
  have hA209 : Below w6.heap.size w6 W7 := by rw [← hW209]; exact (Below.refl _ _).alloc (Nat.le_refl _) _
  have hZ209 : W7.heap.size = w6.heap.size + 1 := by rw [← hW209]; simp
  have B209n : Hid (TBox W7 w6.heap.size (.int .i64 T2.k) (.int .i64 T2.n) (.slice a5 T2.ks.length k5)) := Lib.hid (by rw [← hW209]; exact tbox_new w6 _ _ _ _)
  have Zb209 := Lib.hid hZ209
  have Z211 := Lib.hid (show w6.heap.size ≤ W7.heap.size from hA209.size)
  have B212 := Lib.hid (B198.out.kept hA209)
  have B213 := Lib.hid (B199.out.kept hA209)
  have B214 := Lib.hid (B200.out.kept hA209)
  have B215 := Lib.hid (B201.out.kept hA209)
  have B216 := Lib.hid (B202.out.kept hA209)
  have T217 := Lib.hid (T203.out.kept hA209)
  have T218 := Lib.hid (T204.out.kept hA209)
  have T219 := Lib.hid (T205.out.kept hA209)
  have T220 := Lib.hid (T206.out.kept hA209)
  have T221 := Lib.hid (T207.out.kept hA209)
  have T222 := Lib.hid (T5o.out.kept hA209)
  have H223 := Lib.hid (H208.out.trans (hA209.mono H208.out.size))
  clear hA209 hZ209
  obtain ⟨bf224, bg224, bh224, bz224⟩ := B212.out
  obtain ⟨bf225, bg225, bh225, bz225⟩ := B213.out
  rcases b2 with _ | _
  · skip
    go_wp2_with fail
    go_ret
    exact ⟨rfl, H223.out⟩
  · skip
    have HSM2 := Lib.hid (HSOME2.out rfl)
    go_wp2_with fail
    clear hW209
    go_at_call 17
    refine (Mx.instanceOf_impl y x _ _ _ HNY.out T218.out T217.out).mono ?_
    rintro e w8 ⟨rfl, hb⟩
    have Z227 := Lib.hid (show W7.heap.size ≤ w8.heap.size from hb.size)
    have B228 := Lib.hid (B212.out.kept hb)
    have B229 := Lib.hid (B213.out.kept hb)
    have B230 := Lib.hid (B214.out.kept hb)
    have B231 := Lib.hid (B215.out.kept hb)
    have B232 := Lib.hid (B216.out.kept hb)
    have B233 := Lib.hid (B209n.out.kept hb)
    have T234 := Lib.hid (T217.out.kept hb)
    have T235 := Lib.hid (T218.out.kept hb)
    have T236 := Lib.hid (T219.out.kept hb)
    have T237 := Lib.hid (T220.out.kept hb)
    have T238 := Lib.hid (T221.out.kept hb)
    have T239 := Lib.hid (T222.out.kept hb)
    have H240 := Lib.hid (H223.out.trans (hb.mono H223.out.size))
    rw [HIB.out]
    clear bf224 bg224 bh224 bz224 bf225 bg225 bh225 bz225
    clear hb
    rcases ib with _ | _
    · skip
      go_wp2_with fail
      go_ret
      exact ⟨rfl, H240.out⟩
    · skip
      obtain ⟨bf241, bg241, bh241, bz241⟩ := B229.out
      go_wp2_with fail
      go_at_call 21
      refine (typeVars_impl HUS.out _ _ T235.out.at).mono ?_
      rintro e w9 ⟨lv, rfl, hli, hb⟩
      obtain ⟨la, lcc, rfl⟩ := ints_slice hli
      clear hli
      have Z243 := Lib.hid (show w8.heap.size ≤ w9.heap.size from hb.size)
      have B244 := Lib.hid (B228.out.kept hb)
      have B245 := Lib.hid (B229.out.kept hb)
      have B246 := Lib.hid (B230.out.kept hb)
      have B247 := Lib.hid (B231.out.kept hb)
      have B248 := Lib.hid (B232.out.kept hb)
      have B249 := Lib.hid (B233.out.kept hb)
      have T250 := Lib.hid (T234.out.kept hb)
      have T251 := Lib.hid (T235.out.kept hb)
      have T252 := Lib.hid (T236.out.kept hb)
      have T253 := Lib.hid (T237.out.kept hb)
      have T254 := Lib.hid (T238.out.kept hb)
      have T255 := Lib.hid (T239.out.kept hb)
      have H256 := Lib.hid (H240.out.trans (hb.mono H240.out.size))
      clear bf241 bg241 bh241 bz241
      clear hb
      rcases us with _ | ⟨m0, ur⟩
      · skip
        have hcy := HIB.out
        have htvy := (Mx.ev_of_inst hcy).1
        have hcs := cnT_some HSM2.out
        have heq : T2 = y := by rw [hcs.2.2, canT_closed htvy HUS.out]
        have HUC : Hid (unT x T2 = some T2) := Lib.hid (by rw [heq]; exact unT_closed hcy HUS.out)
        clear hcy htvy hcs heq
        obtain ⟨bf257, bg257, bh257, bz257⟩ := B244.out
        obtain ⟨bf258, bg258, bh258, bz258⟩ := B249.out
        go_wp2_with fail
        go_at_call 11
        refine (Nx.unifyTypes_impl x T2 _ _ _ T250.out T255.out (some T2) HUC.out).mono ?_
        rintro e w10 ⟨v10, rfl, hty10, hb⟩
        obtain ⟨a10, k10, rfl, _⟩ := hty10.at.slice
        have T10o := Lib.hid hty10.ok
        clear bf257 bg257 bh257 bz257 bf258 bg258 bh258 bz258
        have Z260 := Lib.hid (show w9.heap.size ≤ w10.heap.size from hb.size)
        have B261 := Lib.hid (B244.out.kept hb)
        have B262 := Lib.hid (B245.out.kept hb)
        have B263 := Lib.hid (B246.out.kept hb)
        have B264 := Lib.hid (B247.out.kept hb)
        have B265 := Lib.hid (B248.out.kept hb)
        have B266 := Lib.hid (B249.out.kept hb)
        have T267 := Lib.hid (T250.out.kept hb)
        have T268 := Lib.hid (T251.out.kept hb)
        have T269 := Lib.hid (T252.out.kept hb)
        have T270 := Lib.hid (T253.out.kept hb)
        have T271 := Lib.hid (T254.out.kept hb)
        have T272 := Lib.hid (T255.out.kept hb)
        have H273 := Lib.hid (H256.out.trans (hb.mono H256.out.size))
        clear hb hty10
        obtain ⟨W11, hW274⟩ : ∃ W, w10.alloc (.cells #[.int .i64 T2.k, .int .i64 T2.n, .slice a10 T2.ks.length k10] 28) = W := ⟨_, rfl⟩
        have hA274 : Below w10.heap.size w10 W11 := by rw [← hW274]; exact (Below.refl _ _).alloc (Nat.le_refl _) _
        have hZ274 : W11.heap.size = w10.heap.size + 1 := by rw [← hW274]; simp
        have B274n : Hid (TBox W11 w10.heap.size (.int .i64 T2.k) (.int .i64 T2.n) (.slice a10 T2.ks.length k10)) := Lib.hid (by rw [← hW274]; exact tbox_new w10 _ _ _ _)
        have Zb274 := Lib.hid hZ274
        have Z276 := Lib.hid (show w10.heap.size ≤ W11.heap.size from hA274.size)
        have B277 := Lib.hid (B261.out.kept hA274)
        have B278 := Lib.hid (B262.out.kept hA274)
        have B279 := Lib.hid (B263.out.kept hA274)
        have B280 := Lib.hid (B264.out.kept hA274)
        have B281 := Lib.hid (B265.out.kept hA274)
        have B282 := Lib.hid (B266.out.kept hA274)
        have T283 := Lib.hid (T267.out.kept hA274)
        have T284 := Lib.hid (T268.out.kept hA274)
        have T285 := Lib.hid (T269.out.kept hA274)
        have T286 := Lib.hid (T270.out.kept hA274)
        have T287 := Lib.hid (T271.out.kept hA274)
        have T288 := Lib.hid (T272.out.kept hA274)
        have T289 := Lib.hid (T10o.out.kept hA274)
        have H290 := Lib.hid (H273.out.trans (hA274.mono H273.out.size))
        clear hA274 hZ274
        obtain ⟨bf291, bg291, bh291, bz291⟩ := B274n.out
        obtain ⟨bf292, bg292, bh292, bz292⟩ := B282.out
        go_wp2_with fail
        clear hW274
        go_at_call 16
        refine (typeSame_impl T2 T2 0 _ _ _ HNT2.out T289.out T288.out).mono ?_
        rintro e w12 ⟨rfl, hb⟩
        have Z294 := Lib.hid (show W11.heap.size ≤ w12.heap.size from hb.size)
        have B295 := Lib.hid (B277.out.kept hb)
        have B296 := Lib.hid (B278.out.kept hb)
        have B297 := Lib.hid (B279.out.kept hb)
        have B298 := Lib.hid (B280.out.kept hb)
        have B299 := Lib.hid (B281.out.kept hb)
        have B300 := Lib.hid (B282.out.kept hb)
        have B301 := Lib.hid (B274n.out.kept hb)
        have T302 := Lib.hid (T283.out.kept hb)
        have T303 := Lib.hid (T284.out.kept hb)
        have T304 := Lib.hid (T285.out.kept hb)
        have T305 := Lib.hid (T286.out.kept hb)
        have T306 := Lib.hid (T287.out.kept hb)
        have T307 := Lib.hid (T288.out.kept hb)
        have T308 := Lib.hid (T289.out.kept hb)
        have H309 := Lib.hid (H290.out.trans (hb.mono H290.out.size))
        rw [HV2.out]
        clear bf291 bg291 bh291 bz291 bf292 bg292 bh292 bz292
        clear hb
        go_wp2_with fail
        go_ret
        exact ⟨rfl, H309.out⟩
      · skip
        have hpos2 : (0 : Int) < (((m0 :: ur).length : Nat) : Int) := by simp only [List.length_cons]; omega
        go_wp2_with fail
        go_ret
        exact ⟨rfl, H256.out⟩

set_option maxRecDepth 100000 in
theorem lifted (os : Os) (started : os.Started) (H : Type) (enc : TypeId × Value → H) :
    ReturnsInHanded {} Try.checked os 6 .any (Rows.fnUnifySameSpec.pre6 enc Try.prog Try.f6 Rows.fnUnifySameRow.domain false) (Rows.fnUnifySameSpec.post enc Try.prog Try.f6 false true false false) := by
  refine returnsInHanded_of_change (C := Try.checked) own started (by kernel_rfl) Try.func6
    (ChangeSpec.witness6 (enc := enc) (C := Try.checked) false ⟨#[], #[.slice none 0 0], []⟩ 8 (by kernel_rfl) (by kernel_rfl) (by kernel_rfl) (by kernel_rfl)) ?_
  intro W base args ds gs before hval0 hW hcnd _
  have hval : ∀ (j : Nat) t v, Try.f6.params[j]? = some t → args[j]? = some v → Value.okWide Try.prog W .any base t v := hval0
  have hW' := hW
  obtain ⟨p, q, hA0, hV, rfl, hfz, hnd⟩ := hW
  have hA : DataW.TrodAll enc Try.prog W 0 (fun _ => true) true Try.f6.params.toList args.toList ds p := hA0
  rw [Try.params6] at hA hval
  obtain ⟨v0, vs0, d0, ds0, p0, q0, hargs, rfl, rfl, h0, r0⟩ := trodAll_cons hA
  obtain ⟨rfl, rfl, rfl⟩ := trodAll_nil r0
  obtain rfl : args = #[v0] := by cases args; simp_all
  obtain ⟨rfl, rfl⟩ := trodVars_none hV
  have k0 := h0
  have lt0 : ∀ x ∈ p0, x.block < W.heap.size := by obtain ⟨m, hm⟩ := k0; exact DataW.trod_lt m _ _ _ hm
  obtain ⟨a0, len0, cap0, rfl⟩ := okWide_slice Try.underlying35 (hval 0 35 v0 rfl rfl)
  obtain ⟨z0, w0⟩ : ∃ zs, IsRow W a0 len0 cap0 zs := by
    obtain ⟨fuel, hf⟩ := h0
    rcases open_ints Try.underlying35 Try.underlying5 (by kernel_rfl) hf with ⟨hcs, _⟩ | ⟨x, l, c, zs, hcs, _, hl, hm, hz, _, hcell, hwz⟩
    · simp [Value.cells] at hcs
      obtain ⟨rfl, rfl, rfl⟩ := hcs
      exact ⟨[], .inl ⟨rfl, rfl, rfl, rfl⟩⟩
    · simp [Value.cells] at hcs
      obtain ⟨rfl, rfl, rfl⟩ := hcs
      exact ⟨zs, .inr ⟨_, rfl, hl, hm, by simpa using hz, hcell, hwz⟩⟩
  clear hA0 hval0
  refine (walk a0 len0 cap0 z0 W w0).mono fun e W' ⟨he, bel⟩ => ?_
  subst he
  exact ⟨_, rfl, _, _, _, [], _, [], hW', trodAll_mk1 (shut_bool Try.underlying4 _), (trodAll_cons_mk (Below.trod laidOut (by kernel_rfl) (of_decide_eq_true (by kernel_rfl)) k0 bel lt0) trodAll_mk0), rfl, bel.frame _, fun h => by cases h⟩

theorem over : Rows.fnUnifySameRow.holds Try.pinned (OpenSpec.ofChange Rows.fnUnifySameSpec) :=
  OpenClaim.holds_of_wide 6 Try.f6 rfl rfl rfl rfl rfl rfl rfl ⟨rfl, rfl, rfl, rfl, rfl⟩ rfl rfl rfl rfl rfl (by kernel_rfl) Try.func6 (by kernel_rfl)
    (of_decide_eq_true (by kernel_rfl)) (by unfold Func.isWrapper; first | (rw [if_pos (by decide +kernel)]; kernel_rfl) | (rw [if_neg (by decide +kernel)]; exact ⟨rfl, rfl⟩))
    (fun os started H enc _ => lifted os started H enc)

/-- The given statement. -/
theorem proved : Rows.FnUnifySameSaid := over
end Go.Proofs.Ytjhccdioainibaa.fnUnifySame
