/-
  FnUnifyTypes returns true for every slice of bytes: unification of drawn types is symmetric, and its result is an instance of both. No conditions.
-/
import Derived.Test.YtjhccdioainibaaRows
import Derived.ProofKit
import Derived.OpenShut
import Derived.ShutString
import Derived.ChangeOld
import Derived.Below
import Derived.Lib.SmallJoins
import Derived.Test.YtjhccdioainibaaW27
import Derived.Test.YtjhccdioainibaaW29
import Derived.Test.YtjhccdioainibaaQb
import Derived.Test.YtjhccdioainibaaW11
namespace Go.Proofs.Ytjhccdioainibaa.fnUnifyTypes
open Go.Proofs.Ytjhccdioainibaa
open Go.ChangeShapes Go.WideShapes Go.ChangeAt Go.RowKit Go.Joins
open Go.ChangeMaps (open_string shut_string)
set_option linter.unusedVariables false
set_option linter.unusedSimpArgs false

theorem own : ownKnob Try.prog.godebug = none := by kernel_rfl
theorem laidOut : laidOutB Try.prog = true := by kernel_rfl

theorem unT_nodes {a b : Ty} {r : Option Ty} (h : unT a b = r) : nodes (optT r) ≤ 1048577 := by
  rcases r with _ | X
  · show nodes (.node 0 0 []) ≤ _
    simp [nodes, nodesL]
  · have h := nodes_shp 16 X (tvT_shp (unT_some h).2.2.1)
    have e : (2 : Nat) ^ 16 = 65536 := by decide
    show nodes X ≤ _
    omega
theorem cnT_some {a x : Ty} (h : cnT a = some x) : tvT a = true ∧ tvT x = true ∧ x = canT a := by
  unfold cnT at h
  split at h
  · rename_i hv
    injection h with h
    exact ⟨hv, by rw [← h]; exact canT_valid hv, h.symm⟩
  · cases h
theorem cnT_nodes {a : Ty} {r : Option Ty} (h : cnT a = r) : nodes (optT r) ≤ 1048577 := by
  rcases r with _ | X
  · show nodes (.node 0 0 []) ≤ _
    simp [nodes, nodesL]
  · have h := nodes_shp 16 X (tvT_shp (cnT_some h).2.1)
    have e : (2 : Nat) ^ 16 = 65536 := by decide
    show nodes X ≤ _
    omega
theorem svT_nodes {a : Ty} {L : List Ty} {r : Option Ty} (h : svT a L = r) : nodes (optT r) ≤ 1048577 := by
  rcases r with _ | X
  · show nodes (.node 0 0 []) ≤ _
    simp [nodes, nodesL]
  · have h := nodes_shp 16 X (tvT_shp (Mx.sv_parts h).2.1)
    have e : (2 : Nat) ^ 16 = 65536 := by decide
    show nodes X ≤ _
    omega
set_option maxRecDepth 100000 in
set_option maxHeartbeats 16000000 in
theorem walk (a : Option Addr) (len cap : Nat) (zs : List Int) (w : World) (hrow : IsRow w a len cap zs) :
    Calls Try.prog 4 #[.slice a len cap] w fun e w' => e = .returned (.bool true) ∧ Below w.heap.size w w' := by
  have HRow := Lib.hid hrow
  have hm := hrow.len
  unfold maxLen at hm
  clear hrow
  by_cases hl : len ≤ 1048576
  case neg =>
    go_enter Try.func4, Try.ntmps4
    go_wp2
    go_ret
    exact ⟨rfl, Below.refl _ _⟩
  go_enter Try.func4, Try.ntmps4
  go_wp2_with fail
  go_at_call 15
  refine (drawUnifyTypes_any a len cap zs _ HRow.out).mono ?_
  rintro e w0 ⟨x, y, vx, vy, hnx, hny, rfl, htx, hty, hb0⟩
  have H0 := Lib.hid hb0
  have TX := Lib.hid htx
  have TY := Lib.hid hty
  have HNX := Lib.hid (show nodes x ≤ 1048577 by omega)
  have HNY := Lib.hid (show nodes y ≤ 1048577 by omega)
  obtain ⟨ax, cx, rfl, _⟩ := htx.at.slice
  obtain ⟨ay, cy, rfl, _⟩ := hty.at.slice
  clear hb0 htx hty hnx hny
  obtain ⟨W2, hW2⟩ : ∃ W, (w0.alloc (.cells #[.int .i64 x.k, .int .i64 x.n, .slice ax x.ks.length cx] 28)).alloc (.cells #[.int .i64 y.k, .int .i64 y.n, .slice ay y.ks.length cy] 28) = W := ⟨_, rfl⟩
  obtain ⟨E, hE⟩ : ∃ E, w0.heap.size = E := ⟨_, rfl⟩
  have hb2 : Below w0.heap.size w0 W2 := by rw [← hW2]; exact ((Below.refl _ _).alloc (Nat.le_refl _) _).alloc (by simp) _
  have PA : Hid (TBox W2 E (.int .i64 x.k) (.int .i64 x.n) (.slice ax x.ks.length cx)) := Lib.hid (by rw [← hW2, ← hE]; exact (tbox_new w0 _ _ _ _).kept ((Below.refl _ _).alloc (Nat.le_refl _) _))
  have PB : Hid (TBox W2 (E + 1) (.int .i64 y.k) (.int .i64 y.n) (.slice ay y.ks.length cy)) := Lib.hid (by
    have h := tbox_new (w0.alloc (.cells #[.int .i64 x.k, .int .i64 x.n, .slice ax x.ks.length cx] 28)) (.int .i64 y.k) (.int .i64 y.n) (.slice ay y.ks.length cy) 28
    rw [hW2, sizeA, hE] at h; exact h)
  have H2 := Lib.hid (H0.out.trans (hb2.mono H0.out.size))
  have TX2 := Lib.hid (TX.out.kept hb2)
  have TY2 := Lib.hid (TY.out.kept hb2)
  have HW2 := Lib.hid hW2
  clear hW2 hb2
  obtain ⟨r1, hr1⟩ : ∃ r, unT x y = r := ⟨_, rfl⟩
  have HRR1 := Lib.hid hr1
  obtain ⟨T1, hT1⟩ : ∃ T, optT r1 = T := ⟨_, rfl⟩
  obtain ⟨b1, hb1⟩ : ∃ b, r1.isSome = b := ⟨_, rfl⟩
  have HNT1 : Hid (nodes T1 ≤ 1048577) := Lib.hid (by rw [← hT1]; exact unT_nodes hr1)
  have HSOME1 : Hid (b1 = true → unT x y = some T1) := Lib.hid (fun h => by
    rw [hr1, ← hT1]
    rw [← hb1] at h
    rcases r1 with _ | X
    · cases h
    · rfl)
  have HF1 : Hid (∀ (w : World) (e : Ending) (w' : World), OptRet r1 w e w' → ∃ v, e = .returned (.tuple #[.agg #[.int .i64 T1.k, .int .i64 T1.n, v], .bool b1]) ∧ TyIn w' w.heap.size w'.heap.size T1 v ∧ Below w.heap.size w w') := Lib.hid (by rw [← hT1, ← hb1]; exact fun w e w' h => h.flat)
  have hbb1 : (b1 != b1) = false := by cases b1 <;> rfl
  have HV1 : Hid (sameB T1 T1 = true) := Lib.hid (sameB_yes rfl)
  clear hT1 hb1 hr1
  have HSW : Hid (unT y x = r1) := Lib.hid (by rw [unT_swap, HRR1.out])
  go_wp2_with fail
  rw [HW2.out]
  clear hE
  obtain ⟨bf101, bg101, bh101, bz101⟩ := PA.out
  obtain ⟨bf102, bg102, bh102, bz102⟩ := PB.out
  go_wp2_with fail
  go_at_call 11
  refine (Nx.unifyTypes_impl x y _ _ _ TX2.out TY2.out r1 HRR1.out).mono ?_
  intro e w1 hret
  obtain ⟨v1, rfl, hty1, hb⟩ := HF1.out _ _ _ hret
  obtain ⟨a1, k1, rfl, _⟩ := hty1.at.slice
  have T1o := Lib.hid hty1.ok
  clear bf101 bg101 bh101 bz101 bf102 bg102 bh102 bz102
  have Z104 := Lib.hid (show W2.heap.size ≤ w1.heap.size from hb.size)
  have B105 := Lib.hid (PA.out.kept hb)
  have B106 := Lib.hid (PB.out.kept hb)
  have T107 := Lib.hid (TX2.out.kept hb)
  have T108 := Lib.hid (TY2.out.kept hb)
  have H109 := Lib.hid (H2.out.trans (hb.mono H2.out.size))
  clear hb hret hty1
  obtain ⟨W3, hW110⟩ : ∃ W, w1.alloc (.cells #[.int .i64 T1.k, .int .i64 T1.n, .slice a1 T1.ks.length k1] 28) = W := ⟨_, rfl⟩
  have hA110 : Below w1.heap.size w1 W3 := by rw [← hW110]; exact (Below.refl _ _).alloc (Nat.le_refl _) _
  have hZ110 : W3.heap.size = w1.heap.size + 1 := by rw [← hW110]; simp
  have B110n : Hid (TBox W3 w1.heap.size (.int .i64 T1.k) (.int .i64 T1.n) (.slice a1 T1.ks.length k1)) := Lib.hid (by rw [← hW110]; exact tbox_new w1 _ _ _ _)
  have Zb110 := Lib.hid hZ110
  have Z112 := Lib.hid (show w1.heap.size ≤ W3.heap.size from hA110.size)
  have B113 := Lib.hid (B105.out.kept hA110)
  have B114 := Lib.hid (B106.out.kept hA110)
  have T115 := Lib.hid (T107.out.kept hA110)
  have T116 := Lib.hid (T108.out.kept hA110)
  have T117 := Lib.hid (T1o.out.kept hA110)
  have H118 := Lib.hid (H109.out.trans (hA110.mono H109.out.size))
  clear hA110 hZ110
  obtain ⟨bf119, bg119, bh119, bz119⟩ := B113.out
  obtain ⟨bf120, bg120, bh120, bz120⟩ := B114.out
  go_wp2_with fail
  clear hW110
  go_at_call 9
  refine (unifyTypes_spec x y _ _ _ T115.out T116.out r1 HRR1.out).mono ?_
  intro e w2 hret
  obtain ⟨v2, rfl, hty2, hb⟩ := HF1.out _ _ _ hret
  obtain ⟨a2, k2, rfl, _⟩ := hty2.at.slice
  have T2o := Lib.hid hty2.ok
  clear bf119 bg119 bh119 bz119 bf120 bg120 bh120 bz120
  have Z122 := Lib.hid (show W3.heap.size ≤ w2.heap.size from hb.size)
  have B123 := Lib.hid (B113.out.kept hb)
  have B124 := Lib.hid (B114.out.kept hb)
  have B125 := Lib.hid (B110n.out.kept hb)
  have T126 := Lib.hid (T115.out.kept hb)
  have T127 := Lib.hid (T116.out.kept hb)
  have T128 := Lib.hid (T117.out.kept hb)
  have H129 := Lib.hid (H118.out.trans (hb.mono H118.out.size))
  clear hb hret hty2
  obtain ⟨W4, hW130⟩ : ∃ W, w2.alloc (.cells #[.int .i64 T1.k, .int .i64 T1.n, .slice a2 T1.ks.length k2] 28) = W := ⟨_, rfl⟩
  have hA130 : Below w2.heap.size w2 W4 := by rw [← hW130]; exact (Below.refl _ _).alloc (Nat.le_refl _) _
  have hZ130 : W4.heap.size = w2.heap.size + 1 := by rw [← hW130]; simp
  have B130n : Hid (TBox W4 w2.heap.size (.int .i64 T1.k) (.int .i64 T1.n) (.slice a2 T1.ks.length k2)) := Lib.hid (by rw [← hW130]; exact tbox_new w2 _ _ _ _)
  have Zb130 := Lib.hid hZ130
  have Z132 := Lib.hid (show w2.heap.size ≤ W4.heap.size from hA130.size)
  have B133 := Lib.hid (B123.out.kept hA130)
  have B134 := Lib.hid (B124.out.kept hA130)
  have B135 := Lib.hid (B125.out.kept hA130)
  have T136 := Lib.hid (T126.out.kept hA130)
  have T137 := Lib.hid (T127.out.kept hA130)
  have T138 := Lib.hid (T128.out.kept hA130)
  have T139 := Lib.hid (T2o.out.kept hA130)
  have H140 := Lib.hid (H129.out.trans (hA130.mono H129.out.size))
  clear hA130 hZ130
  obtain ⟨bf141, bg141, bh141, bz141⟩ := B133.out
  obtain ⟨bf142, bg142, bh142, bz142⟩ := B134.out
  go_wp2_with fail
  clear hW130
  go_at_call 11
  refine (Nx.unifyTypes_impl y x _ _ _ T137.out T136.out r1 HSW.out).mono ?_
  intro e w3 hret
  obtain ⟨v3, rfl, hty3, hb⟩ := HF1.out _ _ _ hret
  obtain ⟨a3, k3, rfl, _⟩ := hty3.at.slice
  have T3o := Lib.hid hty3.ok
  clear bf141 bg141 bh141 bz141 bf142 bg142 bh142 bz142
  have Z144 := Lib.hid (show W4.heap.size ≤ w3.heap.size from hb.size)
  have B145 := Lib.hid (B133.out.kept hb)
  have B146 := Lib.hid (B134.out.kept hb)
  have B147 := Lib.hid (B135.out.kept hb)
  have B148 := Lib.hid (B130n.out.kept hb)
  have T149 := Lib.hid (T136.out.kept hb)
  have T150 := Lib.hid (T137.out.kept hb)
  have T151 := Lib.hid (T138.out.kept hb)
  have T152 := Lib.hid (T139.out.kept hb)
  have H153 := Lib.hid (H140.out.trans (hb.mono H140.out.size))
  clear hb hret hty3
  obtain ⟨W5, hW154⟩ : ∃ W, w3.alloc (.cells #[.int .i64 T1.k, .int .i64 T1.n, .slice a3 T1.ks.length k3] 28) = W := ⟨_, rfl⟩
  have hA154 : Below w3.heap.size w3 W5 := by rw [← hW154]; exact (Below.refl _ _).alloc (Nat.le_refl _) _
  have hZ154 : W5.heap.size = w3.heap.size + 1 := by rw [← hW154]; simp
  have B154n : Hid (TBox W5 w3.heap.size (.int .i64 T1.k) (.int .i64 T1.n) (.slice a3 T1.ks.length k3)) := Lib.hid (by rw [← hW154]; exact tbox_new w3 _ _ _ _)
  have Zb154 := Lib.hid hZ154
  have Z156 := Lib.hid (show w3.heap.size ≤ W5.heap.size from hA154.size)
  have B157 := Lib.hid (B145.out.kept hA154)
  have B158 := Lib.hid (B146.out.kept hA154)
  have B159 := Lib.hid (B147.out.kept hA154)
  have B160 := Lib.hid (B148.out.kept hA154)
  have T161 := Lib.hid (T149.out.kept hA154)
  have T162 := Lib.hid (T150.out.kept hA154)
  have T163 := Lib.hid (T151.out.kept hA154)
  have T164 := Lib.hid (T152.out.kept hA154)
  have T165 := Lib.hid (T3o.out.kept hA154)
  have H166 := Lib.hid (H153.out.trans (hA154.mono H153.out.size))
  clear hA154 hZ154
  obtain ⟨bf167, bg167, bh167, bz167⟩ := B159.out
  obtain ⟨bf168, bg168, bh168, bz168⟩ := B160.out
  go_wp2_with fail
  clear hW154
  go_at_call 16
  refine (typeSame_impl T1 T1 0 _ _ _ HNT1.out T163.out T164.out).mono ?_
  rintro e w4 ⟨rfl, hb⟩
  have Z170 := Lib.hid (show W5.heap.size ≤ w4.heap.size from hb.size)
  have B171 := Lib.hid (B157.out.kept hb)
  have B172 := Lib.hid (B158.out.kept hb)
  have B173 := Lib.hid (B159.out.kept hb)
  have B174 := Lib.hid (B160.out.kept hb)
  have B175 := Lib.hid (B154n.out.kept hb)
  have T176 := Lib.hid (T161.out.kept hb)
  have T177 := Lib.hid (T162.out.kept hb)
  have T178 := Lib.hid (T163.out.kept hb)
  have T179 := Lib.hid (T164.out.kept hb)
  have T180 := Lib.hid (T165.out.kept hb)
  have H181 := Lib.hid (H166.out.trans (hb.mono H166.out.size))
  rw [HV1.out]
  clear bf167 bg167 bh167 bz167 bf168 bg168 bh168 bz168
  clear hb
  rcases b1 with _ | _
  · skip
    obtain ⟨bf182, bg182, bh182, bz182⟩ := B173.out
    obtain ⟨bf183, bg183, bh183, bz183⟩ := B174.out
    go_wp2_with fail
    go_at_call 16
    refine (typeSame_impl T1 T1 0 _ _ _ HNT1.out T178.out T179.out).mono ?_
    rintro e w5 ⟨rfl, hb⟩
    have Z185 := Lib.hid (show w4.heap.size ≤ w5.heap.size from hb.size)
    have B186 := Lib.hid (B171.out.kept hb)
    have B187 := Lib.hid (B172.out.kept hb)
    have B188 := Lib.hid (B173.out.kept hb)
    have B189 := Lib.hid (B174.out.kept hb)
    have B190 := Lib.hid (B175.out.kept hb)
    have T191 := Lib.hid (T176.out.kept hb)
    have T192 := Lib.hid (T177.out.kept hb)
    have T193 := Lib.hid (T178.out.kept hb)
    have T194 := Lib.hid (T179.out.kept hb)
    have T195 := Lib.hid (T180.out.kept hb)
    have H196 := Lib.hid (H181.out.trans (hb.mono H181.out.size))
    rw [HV1.out]
    clear bf182 bg182 bh182 bz182 bf183 bg183 bh183 bz183
    clear hb
    go_wp2_with fail
    go_ret
    exact ⟨rfl, H196.out⟩
  · skip
    have hun := HSOME1.out rfl
    have HI1 := Lib.hid (unT_inst hun).1
    have HI2 := Lib.hid (unT_inst hun).2
    clear hun
    obtain ⟨bf182, bg182, bh182, bz182⟩ := B173.out
    obtain ⟨bf183, bg183, bh183, bz183⟩ := B175.out
    go_wp2_with fail
    go_at_call 16
    refine (typeSame_impl T1 T1 0 _ _ _ HNT1.out T178.out T180.out).mono ?_
    rintro e w5 ⟨rfl, hb⟩
    have Z185 := Lib.hid (show w4.heap.size ≤ w5.heap.size from hb.size)
    have B186 := Lib.hid (B171.out.kept hb)
    have B187 := Lib.hid (B172.out.kept hb)
    have B188 := Lib.hid (B173.out.kept hb)
    have B189 := Lib.hid (B174.out.kept hb)
    have B190 := Lib.hid (B175.out.kept hb)
    have T191 := Lib.hid (T176.out.kept hb)
    have T192 := Lib.hid (T177.out.kept hb)
    have T193 := Lib.hid (T178.out.kept hb)
    have T194 := Lib.hid (T179.out.kept hb)
    have T195 := Lib.hid (T180.out.kept hb)
    have H196 := Lib.hid (H181.out.trans (hb.mono H181.out.size))
    rw [HV1.out]
    clear bf182 bg182 bh182 bz182 bf183 bg183 bh183 bz183
    clear hb
    obtain ⟨bf197, bg197, bh197, bz197⟩ := B188.out
    obtain ⟨bf198, bg198, bh198, bz198⟩ := B186.out
    go_wp2_with fail
    go_at_call 17
    refine (Mx.instanceOf_impl T1 x _ _ _ HNT1.out T193.out T191.out).mono ?_
    rintro e w6 ⟨rfl, hb⟩
    have Z200 := Lib.hid (show w5.heap.size ≤ w6.heap.size from hb.size)
    have B201 := Lib.hid (B186.out.kept hb)
    have B202 := Lib.hid (B187.out.kept hb)
    have B203 := Lib.hid (B188.out.kept hb)
    have B204 := Lib.hid (B189.out.kept hb)
    have B205 := Lib.hid (B190.out.kept hb)
    have T206 := Lib.hid (T191.out.kept hb)
    have T207 := Lib.hid (T192.out.kept hb)
    have T208 := Lib.hid (T193.out.kept hb)
    have T209 := Lib.hid (T194.out.kept hb)
    have T210 := Lib.hid (T195.out.kept hb)
    have H211 := Lib.hid (H196.out.trans (hb.mono H196.out.size))
    rw [HI1.out]
    clear bf197 bg197 bh197 bz197 bf198 bg198 bh198 bz198
    clear hb
    obtain ⟨bf212, bg212, bh212, bz212⟩ := B203.out
    obtain ⟨bf213, bg213, bh213, bz213⟩ := B202.out
    go_wp2_with fail
    go_at_call 17
    refine (Mx.instanceOf_impl T1 y _ _ _ HNT1.out T208.out T207.out).mono ?_
    rintro e w7 ⟨rfl, hb⟩
    have Z215 := Lib.hid (show w6.heap.size ≤ w7.heap.size from hb.size)
    have B216 := Lib.hid (B201.out.kept hb)
    have B217 := Lib.hid (B202.out.kept hb)
    have B218 := Lib.hid (B203.out.kept hb)
    have B219 := Lib.hid (B204.out.kept hb)
    have B220 := Lib.hid (B205.out.kept hb)
    have T221 := Lib.hid (T206.out.kept hb)
    have T222 := Lib.hid (T207.out.kept hb)
    have T223 := Lib.hid (T208.out.kept hb)
    have T224 := Lib.hid (T209.out.kept hb)
    have T225 := Lib.hid (T210.out.kept hb)
    have H226 := Lib.hid (H211.out.trans (hb.mono H211.out.size))
    rw [HI2.out]
    clear bf212 bg212 bh212 bz212 bf213 bg213 bh213 bz213
    clear hb
    go_wp2_with fail
    go_ret
    exact ⟨rfl, H226.out⟩

set_option maxRecDepth 100000 in
theorem lifted (os : Os) (started : os.Started) (H : Type) (enc : TypeId × Value → H) :
    ReturnsInHanded {} Try.checked os 4 .any (Rows.fnUnifyTypesSpec.pre6 enc Try.prog Try.f4 Rows.fnUnifyTypesRow.domain false) (Rows.fnUnifyTypesSpec.post enc Try.prog Try.f4 false true false false) := by
  refine returnsInHanded_of_change (C := Try.checked) own started (by kernel_rfl) Try.func4
    (ChangeSpec.witness6 (enc := enc) (C := Try.checked) false ⟨#[], #[.slice none 0 0], []⟩ 8 (by kernel_rfl) (by kernel_rfl) (by kernel_rfl) (by kernel_rfl)) ?_
  intro W base args ds gs before hval0 hW hcnd _
  have hval : ∀ (j : Nat) t v, Try.f4.params[j]? = some t → args[j]? = some v → Value.okWide Try.prog W .any base t v := hval0
  have hW' := hW
  obtain ⟨p, q, hA0, hV, rfl, hfz, hnd⟩ := hW
  have hA : DataW.TrodAll enc Try.prog W 0 (fun _ => true) true Try.f4.params.toList args.toList ds p := hA0
  rw [Try.params4] at hA hval
  obtain ⟨v0, vs0, d0, ds0, p0, q0, hargs, rfl, rfl, h0, r0⟩ := trodAll_cons hA
  obtain ⟨rfl, rfl, rfl⟩ := trodAll_nil r0
  obtain rfl : args = #[v0] := by cases args; simp_all
  obtain ⟨rfl, rfl⟩ := trodVars_none hV
  have k0 := h0
  have lt0 : ∀ x ∈ p0, x.block < W.heap.size := by obtain ⟨m, hm⟩ := k0; exact DataW.trod_lt m _ _ _ hm
  obtain ⟨a0, len0, cap0, rfl⟩ := okWide_slice Try.underlying35 (hval 0 35 v0 rfl rfl)
  obtain ⟨z0, w0⟩ : ∃ zs, IsRow W a0 len0 cap0 zs := by
    obtain ⟨fuel, hf⟩ := h0
    rcases open_ints Try.underlying35 Try.underlying5 (by kernel_rfl) hf with ⟨hcs, _⟩ | ⟨x, l, c, zs, hcs, _, hl, hm, hz, _, hcell, hwz⟩
    · simp [Value.cells] at hcs
      obtain ⟨rfl, rfl, rfl⟩ := hcs
      exact ⟨[], .inl ⟨rfl, rfl, rfl, rfl⟩⟩
    · simp [Value.cells] at hcs
      obtain ⟨rfl, rfl, rfl⟩ := hcs
      exact ⟨zs, .inr ⟨_, rfl, hl, hm, by simpa using hz, hcell, hwz⟩⟩
  clear hA0 hval0
  refine (walk a0 len0 cap0 z0 W w0).mono fun e W' ⟨he, bel⟩ => ?_
  subst he
  exact ⟨_, rfl, _, _, _, [], _, [], hW', trodAll_mk1 (shut_bool Try.underlying4 _), (trodAll_cons_mk (Below.trod laidOut (by kernel_rfl) (of_decide_eq_true (by kernel_rfl)) k0 bel lt0) trodAll_mk0), rfl, bel.frame _, fun h => by cases h⟩

theorem over : Rows.fnUnifyTypesRow.holds Try.pinned (OpenSpec.ofChange Rows.fnUnifyTypesSpec) :=
  OpenClaim.holds_of_wide 4 Try.f4 rfl rfl rfl rfl rfl rfl rfl ⟨rfl, rfl, rfl, rfl, rfl⟩ rfl rfl rfl rfl rfl (by kernel_rfl) Try.func4 (by kernel_rfl)
    (of_decide_eq_true (by kernel_rfl)) (by unfold Func.isWrapper; first | (rw [if_pos (by decide +kernel)]; kernel_rfl) | (rw [if_neg (by decide +kernel)]; exact ⟨rfl, rfl⟩))
    (fun os started H enc _ => lifted os started H enc)

/-- The given statement. -/
theorem proved : Rows.FnUnifyTypesSaid := over
end Go.Proofs.Ytjhccdioainibaa.fnUnifyTypes
