/-
  FnUnifyParts returns true for every slice of bytes: functions are unified by their parts, and never with pairs. No conditions.
-/
import Derived.Test.YtndpoejohpmifaaRows
import Derived.ProofKit
import Derived.OpenShut
import Derived.ShutString
import Derived.ChangeOld
import Derived.Below
import Derived.Lib.SmallJoins
import Derived.BigQuiet
import Derived.Test.YtndpoejohpmifaaNlo
import Derived.Test.YtndpoejohpmifaaQac
import Derived.Test.YtndpoejohpmifaaQb
import Derived.Test.YtndpoejohpmifaaZln
import Derived.Test.YtndpoejohpmifaaQf
import Derived.Test.YtndpoejohpmifaaBh
namespace Go.Proofs.Ytndpoejohpmifaa.fnUnifyParts
open Go.Proofs.Ytndpoejohpmifaa
open Go.ChangeShapes Go.WideShapes Go.ChangeAt Go.RowKit Go.Joins
open Go.ChangeMaps (open_string shut_string)
set_option linter.unusedVariables false
set_option linter.unusedSimpArgs false

theorem own : ownKnob Try.prog.godebug = none := by kernel_rfl
theorem laidOut : laidOutB Try.prog = true := by kernel_rfl

theorem wp_region_quiet_litC {P : Program} {C : World → Prop} {id : Nat} {Q : Exit → Act → World → Prop} {a : Act} {w : World} {l : List Oper} (hm : P.follows .mixedOrders = true) (hB : Region.lexB .any l.toArray = true) (hC : C w.drew)
    (h : wpQuiet P l.toArray C (fun a' => ∀ w', C w' → Q .normal a' w') l a) : (Code.region id l.toArray true).wp P Q a w :=
  wp_region_quiet (C := C) hm hB hC (by simpa using h)
theorem ok_jn {w : World} {k : Int} {x : Ty} {B cap : Nat} {vx : Value} (hr : Row w B) (c : Six w B 0 (.int .i64 x.k) (.int .i64 x.n) vx (.int .i64 1) (.int .i64 0) (.slice none 0 0)) (hx : TyOk w x vx) : TyOk w (jn k x) (.slice (some ⟨B, 0, none⟩) 2 cap) := by
  have h := TyOk.row (w := w) k 0 [x, .node 1 0 []] B 0 cap (fun i => if i = 0 then vx else .slice none 0 0) hr (by simp)
    (fun i hi => by
      rcases i with _ | _ | i
      · simpa using c.c0
      · exact c.c3
      · simp at hi; omega)
    (fun i hi => by
      rcases i with _ | _ | i
      · simpa using c.c1
      · exact c.c4
      · simp at hi; omega)
    (fun i hi => by
      rcases i with _ | _ | i
      · simpa using c.c2
      · exact c.c5
      · simp at hi; omega)
    (fun i hi => by
      rcases i with _ | _ | i
      · simpa using hx
      · simpa using TyOk.bare (w := w) 1 0 none 0
      · simp at hi; omega)
  exact h
theorem six_new (w : World) (p0 p1 p2 p3 p4 p5 : Value) (T : TypeId) : Six (w.alloc (.cells #[p0, p1, p2, p3, p4, p5] T)) w.heap.size 0 p0 p1 p2 p3 p4 p5 :=
  ⟨by go_simp, by go_simp, by go_simp, by go_simp, by go_simp, by go_simp, by simp⟩
theorem jn_new {w w2 W : World} {k : Int} {x : Ty} {B : Nat} {vx : Value} {T : TypeId} (hB : w.heap.size = B) (h : w.alloc (.cells #[.int .i64 x.k, .int .i64 x.n, vx, .int .i64 1, .int .i64 0, .slice none 0 0] T) = w2) (hx : TyOk w x vx) (hb : Below w2.heap.size w2 W) : TyOk W (jn k x) (.slice (some ⟨B, 0, none⟩) 2 2) := by
  have e := ok_jn (k := k) (cap := 2) (row_at (C := #[.int .i64 x.k, .int .i64 x.n, vx, .int .i64 1, .int .i64 0, .slice none 0 0]) (T := T) hB) (by rw [← hB]; exact six_new w _ _ _ _ _ _ T) (hx.kept ((Below.refl _ _).alloc (Nat.le_refl _) _))
  rw [h] at e
  exact e.kept hb
theorem kid_jn {w : World} {k : Int} {x : Ty} {v : Value} (h : TyOk w (jn k x) v) : ∃ b o cap va, v = .slice (some ⟨b, o, none⟩) 2 cap ∧ b < w.heap.size ∧
    w.cell? ⟨b, o, none⟩ = some (.int .i64 x.k) ∧ w.cell? ⟨b, o + 1, none⟩ = some (.int .i64 x.n) ∧ w.cell? ⟨b, o + 2, none⟩ = some va ∧ TyOk w x va := by
  unfold jn at h
  cases h with
  | row k n ks b o cap vs hr hl h0 h1 h2 h3 =>
    exact ⟨b, o, cap, vs 0, rfl, hr.lt, h0 0 (Nat.succ_pos _), h1 0 (Nat.succ_pos _), h2 0 (Nat.succ_pos _), h3 0 (Nat.succ_pos _)⟩
theorem tb_new {w w2 W : World} {B : Nat} {p0 p1 p2 : Value} {T : TypeId} (hB : w.heap.size = B) (h : w.alloc (.cells #[p0, p1, p2] T) = w2) (hb : Below w2.heap.size w2 W) : TBox W B p0 p1 p2 := by
  have e := tbox_new w p0 p1 p2 T
  rw [h, hB] at e
  exact e.kept hb
theorem unT_nodes {a b : Ty} {r : Option Ty} (h : unT a b = r) : nodes (optT r) ≤ 1048577 := by
  rcases r with _ | X
  · show nodes (.node 0 0 []) ≤ _
    simp [nodes, nodesL]
  · have h := nodes_shp 16 X (tvT_shp (unT_some h).2.2.1)
    have e : (2 : Nat) ^ 16 = 65536 := by decide
    show nodes X ≤ _
    omega
theorem cnT_some {a x : Ty} (h : cnT a = some x) : tvT a = true ∧ tvT x = true ∧ x = canT a := by
  unfold cnT at h
  split at h
  · rename_i hv
    injection h with h
    exact ⟨hv, by rw [← h]; exact canT_valid hv, h.symm⟩
  · cases h
theorem cnT_nodes {a : Ty} {r : Option Ty} (h : cnT a = r) : nodes (optT r) ≤ 1048577 := by
  rcases r with _ | X
  · show nodes (.node 0 0 []) ≤ _
    simp [nodes, nodesL]
  · have h := nodes_shp 16 X (tvT_shp (cnT_some h).2.1)
    have e : (2 : Nat) ^ 16 = 65536 := by decide
    show nodes X ≤ _
    omega
theorem svT_nodes {a : Ty} {L : List Ty} {r : Option Ty} (h : svT a L = r) : nodes (optT r) ≤ 1048577 := by
  rcases r with _ | X
  · show nodes (.node 0 0 []) ≤ _
    simp [nodes, nodesL]
  · have h := nodes_shp 16 X (tvT_shp (Mx.sv_parts h).2.1)
    have e : (2 : Nat) ^ 16 = 65536 := by decide
    show nodes X ≤ _
    omega
set_option maxRecDepth 100000 in
set_option maxHeartbeats 16000000 in
theorem walk (a : Option Addr) (len cap : Nat) (zs : List Int) (w : World) (hrow : IsRow w a len cap zs) :
    Calls Try.prog 6 #[.slice a len cap] w fun e w' => e = .returned (.bool true) ∧ Below w.heap.size w w' := by
  have HRow := Lib.hid hrow
  have hm := hrow.len
  unfold maxLen at hm
  clear hrow
  by_cases hl : len ≤ 1048576
  case neg =>
    go_enter Try.func6, Try.ntmps6
    go_wp2
    go_ret
    exact ⟨rfl, Below.refl _ _⟩
  go_enter Try.func6, Try.ntmps6
  go_wp2_with fail
  go_at_call 27
  refine (drawUnifyTypes_any a len cap zs _ HRow.out).mono ?_
  rintro e w0 ⟨x, y, vx, vy, hnx, hny, rfl, htx, hty, hb0⟩
  have H0 := Lib.hid hb0
  have TX := Lib.hid htx
  have TY := Lib.hid hty
  have HNX := Lib.hid (show nodes x ≤ 1048577 by omega)
  have HNY := Lib.hid (show nodes y ≤ 1048577 by omega)
  obtain ⟨ax, cx, rfl, _⟩ := htx.at.slice
  obtain ⟨ay, cy, rfl, _⟩ := hty.at.slice
  clear hb0 htx hty hnx hny
  obtain ⟨W2, hW2⟩ : ∃ W, (w0.alloc (.cells #[.int .i64 x.k, .int .i64 x.n, .slice ax x.ks.length cx] 25)).alloc (.cells #[.int .i64 y.k, .int .i64 y.n, .slice ay y.ks.length cy] 25) = W := ⟨_, rfl⟩
  obtain ⟨E, hE⟩ : ∃ E, w0.heap.size = E := ⟨_, rfl⟩
  have hb2 : Below w0.heap.size w0 W2 := by rw [← hW2]; exact ((Below.refl _ _).alloc (Nat.le_refl _) _).alloc (by simp) _
  have PA : Hid (TBox W2 E (.int .i64 x.k) (.int .i64 x.n) (.slice ax x.ks.length cx)) := Lib.hid (by rw [← hW2, ← hE]; exact (tbox_new w0 _ _ _ _).kept ((Below.refl _ _).alloc (Nat.le_refl _) _))
  have PB : Hid (TBox W2 (E + 1) (.int .i64 y.k) (.int .i64 y.n) (.slice ay y.ks.length cy)) := Lib.hid (by
    have h := tbox_new (w0.alloc (.cells #[.int .i64 x.k, .int .i64 x.n, .slice ax x.ks.length cx] 25)) (.int .i64 y.k) (.int .i64 y.n) (.slice ay y.ks.length cy) 25
    rw [hW2, sizeA, hE] at h; exact h)
  have H2 := Lib.hid (H0.out.trans (hb2.mono H0.out.size))
  have TX2 := Lib.hid (TX.out.kept hb2)
  have TY2 := Lib.hid (TY.out.kept hb2)
  have HW2 := Lib.hid hW2
  clear hW2 hb2
  obtain ⟨r1, hr1⟩ : ∃ r, unT x y = r := ⟨_, rfl⟩
  have HRR1 := Lib.hid hr1
  obtain ⟨T1, hT1⟩ : ∃ T, optT r1 = T := ⟨_, rfl⟩
  obtain ⟨b1, hb1⟩ : ∃ b, r1.isSome = b := ⟨_, rfl⟩
  have HNT1 : Hid (nodes T1 ≤ 1048577) := Lib.hid (by rw [← hT1]; exact unT_nodes hr1)
  have HSOME1 : Hid (b1 = true → unT x y = some T1) := Lib.hid (fun h => by
    rw [hr1, ← hT1]
    rw [← hb1] at h
    rcases r1 with _ | X
    · cases h
    · rfl)
  have HNO1 : Hid (b1 = false → unT x y = none) := Lib.hid (fun h => by
    rw [hr1]
    rw [← hb1] at h
    rcases r1 with _ | X
    · rfl
    · cases h)
  have HF1 : Hid (∀ (w : World) (e : Ending) (w' : World), OptRet r1 w e w' → ∃ v, e = .returned (.tuple #[.agg #[.int .i64 T1.k, .int .i64 T1.n, v], .bool b1]) ∧ TyIn w' w.heap.size w'.heap.size T1 v ∧ Below w.heap.size w w') := Lib.hid (by rw [← hT1, ← hb1]; exact fun w e w' h => h.flat)
  have hbb1 : (b1 != b1) = false := by cases b1 <;> rfl
  have HV1 : Hid (sameB T1 T1 = true) := Lib.hid (sameB_yes rfl)
  clear hT1 hb1 hr1
  obtain ⟨r2, hr2⟩ : ∃ r, unT (jn 2 x) (jn 2 y) = r := ⟨_, rfl⟩
  have HRR2 := Lib.hid hr2
  obtain ⟨T2, hT2⟩ : ∃ T, optT r2 = T := ⟨_, rfl⟩
  obtain ⟨b2, hb2⟩ : ∃ b, r2.isSome = b := ⟨_, rfl⟩
  have HNT2 : Hid (nodes T2 ≤ 1048577) := Lib.hid (by rw [← hT2]; exact unT_nodes hr2)
  have HSOME2 : Hid (b2 = true → unT (jn 2 x) (jn 2 y) = some T2) := Lib.hid (fun h => by
    rw [hr2, ← hT2]
    rw [← hb2] at h
    rcases r2 with _ | X
    · cases h
    · rfl)
  have HF2 : Hid (∀ (w : World) (e : Ending) (w' : World), OptRet r2 w e w' → ∃ v, e = .returned (.tuple #[.agg #[.int .i64 T2.k, .int .i64 T2.n, v], .bool b2]) ∧ TyIn w' w.heap.size w'.heap.size T2 v ∧ Below w.heap.size w w') := Lib.hid (by rw [← hT2, ← hb2]; exact fun w e w' h => h.flat)
  have hbb2 : (b2 != b2) = false := by cases b2 <;> rfl
  have HV2 : Hid (sameB T2 T2 = true) := Lib.hid (sameB_yes rfl)
  clear hT2 hb2 hr2
  have HNV : Hid (unT (jn 2 x) (jn 3 y) = none) := Lib.hid (unT_never x y)
  obtain ⟨vf, hvf⟩ : ∃ b, tvT (jn 2 x) = b := ⟨_, rfl⟩
  have HVF := Lib.hid hvf
  obtain ⟨vg, hvg⟩ : ∃ b, tvT (jn 2 y) = b := ⟨_, rfl⟩
  have HVG := Lib.hid hvg
  have HJN : Hid (b2 = true → b1 = true ∧ T2 = jn 2 T1) := Lib.hid (fun h => by
    obtain ⟨c, hc, e⟩ := unT_jn (HSOME2.out h)
    rcases b1 with _ | _
    · have h1 := HNO1.out rfl
      rw [h1] at hc; cases hc
    · have h1 := HSOME1.out rfl
      rw [h1] at hc
      injection hc with hc
      exact ⟨rfl, by rw [e, hc]⟩)
  have hbe1 : (b1 == b1) = true := by cases b1 <;> rfl
  clear hvf hvg
  go_wp2_with fail
  rw [HW2.out]
  clear hE
  obtain ⟨bf101, bg101, bh101, bz101⟩ := PA.out
  obtain ⟨bf102, bg102, bh102, bz102⟩ := PB.out
  go_wp2_with fail
  go_at_call 28
  refine (Nx.unifyTypes_impl x y _ _ _ TX2.out TY2.out r1 HRR1.out).mono ?_
  intro e w1 hret
  obtain ⟨v1, rfl, hty1, hb⟩ := HF1.out _ _ _ hret
  obtain ⟨a1, k1, rfl, _⟩ := hty1.at.slice
  have T1o := Lib.hid hty1.ok
  clear bf101 bg101 bh101 bz101 bf102 bg102 bh102 bz102
  have Z104 := Lib.hid (show W2.heap.size ≤ w1.heap.size from hb.size)
  have B105 := Lib.hid (PA.out.kept hb)
  have B106 := Lib.hid (PB.out.kept hb)
  have T107 := Lib.hid (TX2.out.kept hb)
  have T108 := Lib.hid (TY2.out.kept hb)
  have H109 := Lib.hid (H2.out.trans (hb.mono H2.out.size))
  clear hb hret hty1
  obtain ⟨W3, hW110⟩ : ∃ W, w1.alloc (.cells #[.int .i64 T1.k, .int .i64 T1.n, .slice a1 T1.ks.length k1] 25) = W := ⟨_, rfl⟩
  have hA110 : Below w1.heap.size w1 W3 := by rw [← hW110]; exact (Below.refl _ _).alloc (Nat.le_refl _) _
  have hZ110 : W3.heap.size = w1.heap.size + 1 := by rw [← hW110]; simp
  have B110n : Hid (TBox W3 w1.heap.size (.int .i64 T1.k) (.int .i64 T1.n) (.slice a1 T1.ks.length k1)) := Lib.hid (by rw [← hW110]; exact tbox_new w1 _ _ _ _)
  have Zb110 := Lib.hid hZ110
  have Z112 := Lib.hid (show w1.heap.size ≤ W3.heap.size from hA110.size)
  have B113 := Lib.hid (B105.out.kept hA110)
  have B114 := Lib.hid (B106.out.kept hA110)
  have T115 := Lib.hid (T107.out.kept hA110)
  have T116 := Lib.hid (T108.out.kept hA110)
  have T117 := Lib.hid (T1o.out.kept hA110)
  have H118 := Lib.hid (H109.out.trans (hA110.mono H109.out.size))
  clear hA110 hZ110
  obtain ⟨bf119, bg119, bh119, bz119⟩ := B113.out
  obtain ⟨bf120, bg120, bh120, bz120⟩ := B114.out
  go_wp2_with fail
  clear hW110
  go_at_call 29
  refine (unifyTypes_spec x y _ _ _ T115.out T116.out r1 HRR1.out).mono ?_
  intro e w2 hret
  obtain ⟨v2, rfl, hty2, hb⟩ := HF1.out _ _ _ hret
  obtain ⟨a2, k2, rfl, _⟩ := hty2.at.slice
  have T2o := Lib.hid hty2.ok
  clear bf119 bg119 bh119 bz119 bf120 bg120 bh120 bz120
  have Z122 := Lib.hid (show W3.heap.size ≤ w2.heap.size from hb.size)
  have B123 := Lib.hid (B113.out.kept hb)
  have B124 := Lib.hid (B114.out.kept hb)
  have B125 := Lib.hid (B110n.out.kept hb)
  have T126 := Lib.hid (T115.out.kept hb)
  have T127 := Lib.hid (T116.out.kept hb)
  have T128 := Lib.hid (T117.out.kept hb)
  have H129 := Lib.hid (H118.out.trans (hb.mono H118.out.size))
  clear hb hret hty2
  obtain ⟨W4, hW130⟩ : ∃ W, w2.alloc (.cells #[.int .i64 T1.k, .int .i64 T1.n, .slice a2 T1.ks.length k2] 25) = W := ⟨_, rfl⟩
  have hA130 : Below w2.heap.size w2 W4 := by rw [← hW130]; exact (Below.refl _ _).alloc (Nat.le_refl _) _
  have hZ130 : W4.heap.size = w2.heap.size + 1 := by rw [← hW130]; simp
  have B130n : Hid (TBox W4 w2.heap.size (.int .i64 T1.k) (.int .i64 T1.n) (.slice a2 T1.ks.length k2)) := Lib.hid (by rw [← hW130]; exact tbox_new w2 _ _ _ _)
  have Zb130 := Lib.hid hZ130
  have Z132 := Lib.hid (show w2.heap.size ≤ W4.heap.size from hA130.size)
  have B133 := Lib.hid (B123.out.kept hA130)
  have B134 := Lib.hid (B124.out.kept hA130)
  have B135 := Lib.hid (B125.out.kept hA130)
  have T136 := Lib.hid (T126.out.kept hA130)
  have T137 := Lib.hid (T127.out.kept hA130)
  have T138 := Lib.hid (T128.out.kept hA130)
  have T139 := Lib.hid (T2o.out.kept hA130)
  have H140 := Lib.hid (H129.out.trans (hA130.mono H129.out.size))
  clear hA130 hZ130
  obtain ⟨bf141, bg141, bh141, bz141⟩ := B133.out
  obtain ⟨bf142, bg142, bh142, bz142⟩ := B134.out
  clear bf141 bg141 bh141 bz141 bf142 bg142 bh142 bz142
  obtain ⟨V1, hV1⟩ : ∃ W, W4.alloc (.cells #[.int .i64 1, .int .i64 0, .slice none 0 0] 25) = W := ⟨_, rfl⟩
  have hs1 : V1.heap.size = W4.heap.size + 1 := by rw [← hV1, sizeA]
  have hu1 : Below W4.heap.size W4 V1 := by rw [← hV1]; exact (Below.refl _ _).alloc (Nat.le_refl _) _
  obtain ⟨V2, hV2⟩ : ∃ W, V1.alloc (.cells #[.int .i64 x.k, .int .i64 x.n, .slice ax x.ks.length cx, .int .i64 1, .int .i64 0, .slice none 0 0] 25) = W := ⟨_, rfl⟩
  have hs2 : V2.heap.size = W4.heap.size + 1 + 1 := by rw [← hV2, sizeA]; rw [hs1]
  have hu2 : Below V1.heap.size V1 V2 := by rw [← hV2]; exact (Below.refl _ _).alloc (Nat.le_refl _) _
  obtain ⟨V3, hV3⟩ : ∃ W, V2.alloc (.cells #[.int .i64 2, .int .i64 0, .slice (some ⟨W4.heap.size + 1, 0, none⟩) 2 2] 25) = W := ⟨_, rfl⟩
  have hs3 : V3.heap.size = W4.heap.size + 1 + 1 + 1 := by rw [← hV3, sizeA]; rw [hs2]
  have hu3 : Below V2.heap.size V2 V3 := by rw [← hV3]; exact (Below.refl _ _).alloc (Nat.le_refl _) _
  obtain ⟨V4, hV4⟩ : ∃ W, V3.alloc (.cells #[.int .i64 y.k, .int .i64 y.n, .slice ay y.ks.length cy, .int .i64 1, .int .i64 0, .slice none 0 0] 25) = W := ⟨_, rfl⟩
  have hs4 : V4.heap.size = W4.heap.size + 1 + 1 + 1 + 1 := by rw [← hV4, sizeA]; rw [hs3]
  have hu4 : Below V3.heap.size V3 V4 := by rw [← hV4]; exact (Below.refl _ _).alloc (Nat.le_refl _) _
  obtain ⟨V5, hV5⟩ : ∃ W, V4.alloc (.cells #[.int .i64 2, .int .i64 0, .slice (some ⟨W4.heap.size + 1 + 1 + 1, 0, none⟩) 2 2] 25) = W := ⟨_, rfl⟩
  have hs5 : V5.heap.size = W4.heap.size + 1 + 1 + 1 + 1 + 1 := by rw [← hV5, sizeA]; rw [hs4]
  have hu5 : Below V4.heap.size V4 V5 := by rw [← hV5]; exact (Below.refl _ _).alloc (Nat.le_refl _) _
  obtain ⟨V6, hV6⟩ : ∃ W, V5.alloc (.cells #[.int .i64 y.k, .int .i64 y.n, .slice ay y.ks.length cy, .int .i64 1, .int .i64 0, .slice none 0 0] 25) = W := ⟨_, rfl⟩
  have hs6 : V6.heap.size = W4.heap.size + 1 + 1 + 1 + 1 + 1 + 1 := by rw [← hV6, sizeA]; rw [hs5]
  have hu6 : Below V5.heap.size V5 V6 := by rw [← hV6]; exact (Below.refl _ _).alloc (Nat.le_refl _) _
  obtain ⟨V7, hV7⟩ : ∃ W, V6.alloc (.cells #[.int .i64 3, .int .i64 0, .slice (some ⟨W4.heap.size + 1 + 1 + 1 + 1 + 1, 0, none⟩) 2 2] 25) = W := ⟨_, rfl⟩
  have hs7 : V7.heap.size = W4.heap.size + 1 + 1 + 1 + 1 + 1 + 1 + 1 := by rw [← hV7, sizeA]; rw [hs6]
  have hu7 : Below V6.heap.size V6 V7 := by rw [← hV7]; exact (Below.refl _ _).alloc (Nat.le_refl _) _
  have hw01 : Below W4.heap.size W4 V1 := hu1
  have hw03 : Below W4.heap.size W4 V3 := ((hu1.trans (hu2.mono hu1.size)).trans (hu3.mono (hu1.trans (hu2.mono hu1.size)).size))
  have hw05 : Below W4.heap.size W4 V5 := ((((hu1.trans (hu2.mono hu1.size)).trans (hu3.mono (hu1.trans (hu2.mono hu1.size)).size)).trans (hu4.mono ((hu1.trans (hu2.mono hu1.size)).trans (hu3.mono (hu1.trans (hu2.mono hu1.size)).size)).size)).trans (hu5.mono (((hu1.trans (hu2.mono hu1.size)).trans (hu3.mono (hu1.trans (hu2.mono hu1.size)).size)).trans (hu4.mono ((hu1.trans (hu2.mono hu1.size)).trans (hu3.mono (hu1.trans (hu2.mono hu1.size)).size)).size)).size))
  have hw07 : Below W4.heap.size W4 V7 := ((((((hu1.trans (hu2.mono hu1.size)).trans (hu3.mono (hu1.trans (hu2.mono hu1.size)).size)).trans (hu4.mono ((hu1.trans (hu2.mono hu1.size)).trans (hu3.mono (hu1.trans (hu2.mono hu1.size)).size)).size)).trans (hu5.mono (((hu1.trans (hu2.mono hu1.size)).trans (hu3.mono (hu1.trans (hu2.mono hu1.size)).size)).trans (hu4.mono ((hu1.trans (hu2.mono hu1.size)).trans (hu3.mono (hu1.trans (hu2.mono hu1.size)).size)).size)).size)).trans (hu6.mono ((((hu1.trans (hu2.mono hu1.size)).trans (hu3.mono (hu1.trans (hu2.mono hu1.size)).size)).trans (hu4.mono ((hu1.trans (hu2.mono hu1.size)).trans (hu3.mono (hu1.trans (hu2.mono hu1.size)).size)).size)).trans (hu5.mono (((hu1.trans (hu2.mono hu1.size)).trans (hu3.mono (hu1.trans (hu2.mono hu1.size)).size)).trans (hu4.mono ((hu1.trans (hu2.mono hu1.size)).trans (hu3.mono (hu1.trans (hu2.mono hu1.size)).size)).size)).size)).size)).trans (hu7.mono (((((hu1.trans (hu2.mono hu1.size)).trans (hu3.mono (hu1.trans (hu2.mono hu1.size)).size)).trans (hu4.mono ((hu1.trans (hu2.mono hu1.size)).trans (hu3.mono (hu1.trans (hu2.mono hu1.size)).size)).size)).trans (hu5.mono (((hu1.trans (hu2.mono hu1.size)).trans (hu3.mono (hu1.trans (hu2.mono hu1.size)).size)).trans (hu4.mono ((hu1.trans (hu2.mono hu1.size)).trans (hu3.mono (hu1.trans (hu2.mono hu1.size)).size)).size)).size)).trans (hu6.mono ((((hu1.trans (hu2.mono hu1.size)).trans (hu3.mono (hu1.trans (hu2.mono hu1.size)).size)).trans (hu4.mono ((hu1.trans (hu2.mono hu1.size)).trans (hu3.mono (hu1.trans (hu2.mono hu1.size)).size)).size)).trans (hu5.mono (((hu1.trans (hu2.mono hu1.size)).trans (hu3.mono (hu1.trans (hu2.mono hu1.size)).size)).trans (hu4.mono ((hu1.trans (hu2.mono hu1.size)).trans (hu3.mono (hu1.trans (hu2.mono hu1.size)).size)).size)).size)).size)).size))
  have hw11 : Below V1.heap.size V1 V1 := (Below.refl _ _)
  have hw13 : Below V1.heap.size V1 V3 := (hu2.trans (hu3.mono hu2.size))
  have hw15 : Below V1.heap.size V1 V5 := (((hu2.trans (hu3.mono hu2.size)).trans (hu4.mono (hu2.trans (hu3.mono hu2.size)).size)).trans (hu5.mono ((hu2.trans (hu3.mono hu2.size)).trans (hu4.mono (hu2.trans (hu3.mono hu2.size)).size)).size))
  have hw27 : Below V2.heap.size V2 V7 := ((((hu3.trans (hu4.mono hu3.size)).trans (hu5.mono (hu3.trans (hu4.mono hu3.size)).size)).trans (hu6.mono ((hu3.trans (hu4.mono hu3.size)).trans (hu5.mono (hu3.trans (hu4.mono hu3.size)).size)).size)).trans (hu7.mono (((hu3.trans (hu4.mono hu3.size)).trans (hu5.mono (hu3.trans (hu4.mono hu3.size)).size)).trans (hu6.mono ((hu3.trans (hu4.mono hu3.size)).trans (hu5.mono (hu3.trans (hu4.mono hu3.size)).size)).size)).size))
  have hw37 : Below V3.heap.size V3 V7 := (((hu4.trans (hu5.mono hu4.size)).trans (hu6.mono (hu4.trans (hu5.mono hu4.size)).size)).trans (hu7.mono ((hu4.trans (hu5.mono hu4.size)).trans (hu6.mono (hu4.trans (hu5.mono hu4.size)).size)).size))
  have hw47 : Below V4.heap.size V4 V7 := ((hu5.trans (hu6.mono hu5.size)).trans (hu7.mono (hu5.trans (hu6.mono hu5.size)).size))
  have hw57 : Below V5.heap.size V5 V7 := (hu6.trans (hu7.mono hu6.size))
  have hw67 : Below V6.heap.size V6 V7 := hu7
  have hw77 : Below V7.heap.size V7 V7 := (Below.refl _ _)
  have TFo : Hid (TyOk V7 (jn 2 x) (.slice (some ⟨W4.heap.size + 1, 0, none⟩) 2 2)) := Lib.hid (jn_new hs1 hV2 (T136.out.kept hw01) hw27)
  have TGo : Hid (TyOk V7 (jn 2 y) (.slice (some ⟨W4.heap.size + 1 + 1 + 1, 0, none⟩) 2 2)) := Lib.hid (jn_new hs3 hV4 (T137.out.kept hw03) hw47)
  have THo : Hid (TyOk V7 (jn 3 y) (.slice (some ⟨W4.heap.size + 1 + 1 + 1 + 1 + 1, 0, none⟩) 2 2)) := Lib.hid (jn_new hs5 hV6 (T137.out.kept hw05) hw67)
  have BFo : Hid (TBox V7 (W4.heap.size + 1 + 1) (.int .i64 2) (.int .i64 0) (.slice (some ⟨W4.heap.size + 1, 0, none⟩) 2 2)) := Lib.hid (tb_new hs2 hV3 hw37)
  have BGo : Hid (TBox V7 (W4.heap.size + 1 + 1 + 1 + 1) (.int .i64 2) (.int .i64 0) (.slice (some ⟨W4.heap.size + 1 + 1 + 1, 0, none⟩) 2 2)) := Lib.hid (tb_new hs4 hV5 hw57)
  have BHo : Hid (TBox V7 (W4.heap.size + 1 + 1 + 1 + 1 + 1 + 1) (.int .i64 3) (.int .i64 0) (.slice (some ⟨W4.heap.size + 1 + 1 + 1 + 1 + 1, 0, none⟩) 2 2)) := Lib.hid (tb_new hs6 hV7 hw77)
  have la := B133.out.kept hw01
  rw [← hV1] at la
  obtain ⟨la0, la1, la2, laz⟩ := la
  have ln1 := tb_new (B := W4.heap.size) rfl hV1 hw11
  rw [← hV1] at ln1
  obtain ⟨ln10, ln11, ln12, ln1z⟩ := ln1
  have lb3 := B134.out.kept hw03
  rw [← hV3, ← hV2, ← hV1] at lb3
  obtain ⟨lb30, lb31, lb32, lb3z⟩ := lb3
  have ln3 := tb_new (B := W4.heap.size) rfl hV1 hw13
  rw [← hV3, ← hV2, ← hV1] at ln3
  obtain ⟨ln30, ln31, ln32, ln3z⟩ := ln3
  have lb5 := B134.out.kept hw05
  rw [← hV5, ← hV4, ← hV3, ← hV2, ← hV1] at lb5
  obtain ⟨lb50, lb51, lb52, lb5z⟩ := lb5
  have ln5 := tb_new (B := W4.heap.size) rfl hV1 hw15
  rw [← hV5, ← hV4, ← hV3, ← hV2, ← hV1] at ln5
  obtain ⟨ln50, ln51, ln52, ln5z⟩ := ln5
  have lc7 := B135.out.kept hw07
  rw [← hV7, ← hV6, ← hV5, ← hV4, ← hV3, ← hV2, ← hV1] at lc7
  obtain ⟨lc70, lc71, lc72, lc7z⟩ := lc7
  have lw7 := B130n.out.kept hw07
  rw [← hV7, ← hV6, ← hV5, ← hV4, ← hV3, ← hV2, ← hV1] at lw7
  obtain ⟨lw70, lw71, lw72, lw7z⟩ := lw7
  have HUV := Lib.hid hw07
  have HV_1 := Lib.hid hV1
  have HV_2 := Lib.hid hV2
  have HV_3 := Lib.hid hV3
  have HV_4 := Lib.hid hV4
  have HV_5 := Lib.hid hV5
  have HV_6 := Lib.hid hV6
  have HV_7 := Lib.hid hV7
  clear hV1 hs1 hu1 hV2 hs2 hu2 hV3 hs3 hu3 hV4 hs4 hu4 hV5 hs5 hu5 hV6 hs6 hu6 hV7 hs7 hu7 hw01 hw03 hw05 hw07 hw11 hw13 hw15 hw27 hw37 hw47 hw57 hw67 hw77
  go_wp2_with fail
  clear hW130
  rw [HV_1.out, HV_2.out, HV_3.out, HV_4.out, HV_5.out, HV_6.out, HV_7.out]
  clear la0 la1 la2 laz ln10 ln11 ln12 ln1z lb30 lb31 lb32 lb3z ln30 ln31 ln32 ln3z lb50 lb51 lb52 lb5z ln50 ln51 ln52 ln5z lc70 lc71 lc72 lc7z lw70 lw71 lw72 lw7z
  have Z144 := Lib.hid (show W4.heap.size ≤ V7.heap.size from HUV.out.size)
  have B145 := Lib.hid (B133.out.kept HUV.out)
  have B146 := Lib.hid (B134.out.kept HUV.out)
  have B147 := Lib.hid (B135.out.kept HUV.out)
  have B148 := Lib.hid (B130n.out.kept HUV.out)
  have T149 := Lib.hid (T136.out.kept HUV.out)
  have T150 := Lib.hid (T137.out.kept HUV.out)
  have T151 := Lib.hid (T138.out.kept HUV.out)
  have T152 := Lib.hid (T139.out.kept HUV.out)
  have H153 := Lib.hid (H140.out.trans (HUV.out.mono H140.out.size))
  go_at_call 17
  refine (typeSame_impl T1 T1 0 _ _ _ HNT1.out T151.out T152.out).mono ?_
  rintro e w3 ⟨rfl, hb⟩
  have Z155 := Lib.hid (show V7.heap.size ≤ w3.heap.size from hb.size)
  have B156 := Lib.hid (B145.out.kept hb)
  have B157 := Lib.hid (B146.out.kept hb)
  have B158 := Lib.hid (B147.out.kept hb)
  have B159 := Lib.hid (B148.out.kept hb)
  have B160 := Lib.hid (BFo.out.kept hb)
  have B161 := Lib.hid (BGo.out.kept hb)
  have B162 := Lib.hid (BHo.out.kept hb)
  have T163 := Lib.hid (T149.out.kept hb)
  have T164 := Lib.hid (T150.out.kept hb)
  have T165 := Lib.hid (T151.out.kept hb)
  have T166 := Lib.hid (T152.out.kept hb)
  have T167 := Lib.hid (TFo.out.kept hb)
  have T168 := Lib.hid (TGo.out.kept hb)
  have T169 := Lib.hid (THo.out.kept hb)
  have H170 := Lib.hid (H153.out.trans (hb.mono H153.out.size))
  rw [HV1.out]
  clear hb
  obtain ⟨bf171, bg171, bh171, bz171⟩ := B160.out
  go_wp2_with fail
  go_at_call 15
  refine (typeValid_impl (jn 2 x) _ _ T167.out.at).mono ?_
  rintro e w4 ⟨rfl, hb⟩
  have Z173 := Lib.hid (show w3.heap.size ≤ w4.heap.size from hb.size)
  have B174 := Lib.hid (B156.out.kept hb)
  have B175 := Lib.hid (B157.out.kept hb)
  have B176 := Lib.hid (B158.out.kept hb)
  have B177 := Lib.hid (B159.out.kept hb)
  have B178 := Lib.hid (B160.out.kept hb)
  have B179 := Lib.hid (B161.out.kept hb)
  have B180 := Lib.hid (B162.out.kept hb)
  have T181 := Lib.hid (T163.out.kept hb)
  have T182 := Lib.hid (T164.out.kept hb)
  have T183 := Lib.hid (T165.out.kept hb)
  have T184 := Lib.hid (T166.out.kept hb)
  have T185 := Lib.hid (T167.out.kept hb)
  have T186 := Lib.hid (T168.out.kept hb)
  have T187 := Lib.hid (T169.out.kept hb)
  have H188 := Lib.hid (H170.out.trans (hb.mono H170.out.size))
  rw [HVF.out]
  clear bf171 bg171 bh171 bz171
  clear hb
  rcases vf with _ | _
  · skip
    obtain ⟨bf189, bg189, bh189, bz189⟩ := B176.out
    obtain ⟨bf190, bg190, bh190, bz190⟩ := B177.out
    go_wp2_with fail
    go_at_call 17
    refine (typeSame_impl T1 T1 0 _ _ _ HNT1.out T183.out T184.out).mono ?_
    rintro e w5 ⟨rfl, hb⟩
    have Z192 := Lib.hid (show w4.heap.size ≤ w5.heap.size from hb.size)
    have B193 := Lib.hid (B174.out.kept hb)
    have B194 := Lib.hid (B175.out.kept hb)
    have B195 := Lib.hid (B176.out.kept hb)
    have B196 := Lib.hid (B177.out.kept hb)
    have B197 := Lib.hid (B178.out.kept hb)
    have B198 := Lib.hid (B179.out.kept hb)
    have B199 := Lib.hid (B180.out.kept hb)
    have T200 := Lib.hid (T181.out.kept hb)
    have T201 := Lib.hid (T182.out.kept hb)
    have T202 := Lib.hid (T183.out.kept hb)
    have T203 := Lib.hid (T184.out.kept hb)
    have T204 := Lib.hid (T185.out.kept hb)
    have T205 := Lib.hid (T186.out.kept hb)
    have T206 := Lib.hid (T187.out.kept hb)
    have H207 := Lib.hid (H188.out.trans (hb.mono H188.out.size))
    rw [HV1.out]
    clear bf189 bg189 bh189 bz189 bf190 bg190 bh190 bz190
    clear hb
    go_wp2_with fail
    go_ret
    exact ⟨rfl, H207.out⟩
  · skip
    obtain ⟨bf189, bg189, bh189, bz189⟩ := B179.out
    go_wp2_with fail
    go_at_call 15
    refine (typeValid_impl (jn 2 y) _ _ T186.out.at).mono ?_
    rintro e w5 ⟨rfl, hb⟩
    have Z191 := Lib.hid (show w4.heap.size ≤ w5.heap.size from hb.size)
    have B192 := Lib.hid (B174.out.kept hb)
    have B193 := Lib.hid (B175.out.kept hb)
    have B194 := Lib.hid (B176.out.kept hb)
    have B195 := Lib.hid (B177.out.kept hb)
    have B196 := Lib.hid (B178.out.kept hb)
    have B197 := Lib.hid (B179.out.kept hb)
    have B198 := Lib.hid (B180.out.kept hb)
    have T199 := Lib.hid (T181.out.kept hb)
    have T200 := Lib.hid (T182.out.kept hb)
    have T201 := Lib.hid (T183.out.kept hb)
    have T202 := Lib.hid (T184.out.kept hb)
    have T203 := Lib.hid (T185.out.kept hb)
    have T204 := Lib.hid (T186.out.kept hb)
    have T205 := Lib.hid (T187.out.kept hb)
    have H206 := Lib.hid (H188.out.trans (hb.mono H188.out.size))
    rw [HVG.out]
    clear bf189 bg189 bh189 bz189
    clear hb
    rcases vg with _ | _
    · skip
      obtain ⟨bf207, bg207, bh207, bz207⟩ := B194.out
      obtain ⟨bf208, bg208, bh208, bz208⟩ := B195.out
      go_wp2_with fail
      go_at_call 17
      refine (typeSame_impl T1 T1 0 _ _ _ HNT1.out T201.out T202.out).mono ?_
      rintro e w6 ⟨rfl, hb⟩
      have Z210 := Lib.hid (show w5.heap.size ≤ w6.heap.size from hb.size)
      have B211 := Lib.hid (B192.out.kept hb)
      have B212 := Lib.hid (B193.out.kept hb)
      have B213 := Lib.hid (B194.out.kept hb)
      have B214 := Lib.hid (B195.out.kept hb)
      have B215 := Lib.hid (B196.out.kept hb)
      have B216 := Lib.hid (B197.out.kept hb)
      have B217 := Lib.hid (B198.out.kept hb)
      have T218 := Lib.hid (T199.out.kept hb)
      have T219 := Lib.hid (T200.out.kept hb)
      have T220 := Lib.hid (T201.out.kept hb)
      have T221 := Lib.hid (T202.out.kept hb)
      have T222 := Lib.hid (T203.out.kept hb)
      have T223 := Lib.hid (T204.out.kept hb)
      have T224 := Lib.hid (T205.out.kept hb)
      have H225 := Lib.hid (H206.out.trans (hb.mono H206.out.size))
      rw [HV1.out]
      clear bf207 bg207 bh207 bz207 bf208 bg208 bh208 bz208
      clear hb
      go_wp2_with fail
      go_ret
      exact ⟨rfl, H225.out⟩
    · skip
      obtain ⟨bf207, bg207, bh207, bz207⟩ := B196.out
      obtain ⟨bf208, bg208, bh208, bz208⟩ := B197.out
      go_wp2_with fail
      go_at_call 28
      refine (Nx.unifyTypes_impl (jn 2 x) (jn 2 y) _ _ _ T203.out T204.out r2 HRR2.out).mono ?_
      intro e w10 hret
      obtain ⟨v4, rfl, hty4, hb⟩ := HF2.out _ _ _ hret
      obtain ⟨a4, k4, rfl, _⟩ := hty4.at.slice
      have T4o := Lib.hid hty4.ok
      clear bf207 bg207 bh207 bz207 bf208 bg208 bh208 bz208
      have Z210 := Lib.hid (show w5.heap.size ≤ w10.heap.size from hb.size)
      have B211 := Lib.hid (B192.out.kept hb)
      have B212 := Lib.hid (B193.out.kept hb)
      have B213 := Lib.hid (B194.out.kept hb)
      have B214 := Lib.hid (B195.out.kept hb)
      have B215 := Lib.hid (B196.out.kept hb)
      have B216 := Lib.hid (B197.out.kept hb)
      have B217 := Lib.hid (B198.out.kept hb)
      have T218 := Lib.hid (T199.out.kept hb)
      have T219 := Lib.hid (T200.out.kept hb)
      have T220 := Lib.hid (T201.out.kept hb)
      have T221 := Lib.hid (T202.out.kept hb)
      have T222 := Lib.hid (T203.out.kept hb)
      have T223 := Lib.hid (T204.out.kept hb)
      have T224 := Lib.hid (T205.out.kept hb)
      have H225 := Lib.hid (H206.out.trans (hb.mono H206.out.size))
      clear hb hret hty4
      obtain ⟨W10, hW226⟩ : ∃ W, w10.alloc (.cells #[.int .i64 T2.k, .int .i64 T2.n, .slice a4 T2.ks.length k4] 25) = W := ⟨_, rfl⟩
      have hA226 : Below w10.heap.size w10 W10 := by rw [← hW226]; exact (Below.refl _ _).alloc (Nat.le_refl _) _
      have hZ226 : W10.heap.size = w10.heap.size + 1 := by rw [← hW226]; simp
      have B226n : Hid (TBox W10 w10.heap.size (.int .i64 T2.k) (.int .i64 T2.n) (.slice a4 T2.ks.length k4)) := Lib.hid (by rw [← hW226]; exact tbox_new w10 _ _ _ _)
      have Zb226 := Lib.hid hZ226
      have Z228 := Lib.hid (show w10.heap.size ≤ W10.heap.size from hA226.size)
      have B229 := Lib.hid (B211.out.kept hA226)
      have B230 := Lib.hid (B212.out.kept hA226)
      have B231 := Lib.hid (B213.out.kept hA226)
      have B232 := Lib.hid (B214.out.kept hA226)
      have B233 := Lib.hid (B215.out.kept hA226)
      have B234 := Lib.hid (B216.out.kept hA226)
      have B235 := Lib.hid (B217.out.kept hA226)
      have T236 := Lib.hid (T218.out.kept hA226)
      have T237 := Lib.hid (T219.out.kept hA226)
      have T238 := Lib.hid (T220.out.kept hA226)
      have T239 := Lib.hid (T221.out.kept hA226)
      have T240 := Lib.hid (T222.out.kept hA226)
      have T241 := Lib.hid (T223.out.kept hA226)
      have T242 := Lib.hid (T224.out.kept hA226)
      have T243 := Lib.hid (T4o.out.kept hA226)
      have H244 := Lib.hid (H225.out.trans (hA226.mono H225.out.size))
      clear hA226 hZ226
      obtain ⟨bf245, bg245, bh245, bz245⟩ := B233.out
      obtain ⟨bf246, bg246, bh246, bz246⟩ := B235.out
      go_wp2_with fail
      clear hW226
      go_at_call 28
      refine (Nx.unifyTypes_impl (jn 2 x) (jn 3 y) _ _ _ T240.out T242.out none HNV.out).mono ?_
      rintro e w11 ⟨rfl, hb⟩
      clear bf245 bg245 bh245 bz245 bf246 bg246 bh246 bz246
      have Z248 := Lib.hid (show W10.heap.size ≤ w11.heap.size from hb.size)
      have B249 := Lib.hid (B229.out.kept hb)
      have B250 := Lib.hid (B230.out.kept hb)
      have B251 := Lib.hid (B231.out.kept hb)
      have B252 := Lib.hid (B232.out.kept hb)
      have B253 := Lib.hid (B233.out.kept hb)
      have B254 := Lib.hid (B234.out.kept hb)
      have B255 := Lib.hid (B235.out.kept hb)
      have B256 := Lib.hid (B226n.out.kept hb)
      have T257 := Lib.hid (T236.out.kept hb)
      have T258 := Lib.hid (T237.out.kept hb)
      have T259 := Lib.hid (T238.out.kept hb)
      have T260 := Lib.hid (T239.out.kept hb)
      have T261 := Lib.hid (T240.out.kept hb)
      have T262 := Lib.hid (T241.out.kept hb)
      have T263 := Lib.hid (T242.out.kept hb)
      have T264 := Lib.hid (T243.out.kept hb)
      have H265 := Lib.hid (H244.out.trans (hb.mono H244.out.size))
      clear hb
      obtain ⟨W12, hW266⟩ : ∃ W, w11.alloc (.cells #[.int .i64 0, .int .i64 0, .slice none 0 0] 25) = W := ⟨_, rfl⟩
      have hA266 : Below w11.heap.size w11 W12 := by rw [← hW266]; exact (Below.refl _ _).alloc (Nat.le_refl _) _
      have hZ266 : W12.heap.size = w11.heap.size + 1 := by rw [← hW266]; simp
      have B266n : Hid (TBox W12 w11.heap.size (.int .i64 0) (.int .i64 0) (.slice none 0 0)) := Lib.hid (by rw [← hW266]; exact tbox_new w11 _ _ _ _)
      have Zb266 := Lib.hid hZ266
      have Z268 := Lib.hid (show w11.heap.size ≤ W12.heap.size from hA266.size)
      have B269 := Lib.hid (B249.out.kept hA266)
      have B270 := Lib.hid (B250.out.kept hA266)
      have B271 := Lib.hid (B251.out.kept hA266)
      have B272 := Lib.hid (B252.out.kept hA266)
      have B273 := Lib.hid (B253.out.kept hA266)
      have B274 := Lib.hid (B254.out.kept hA266)
      have B275 := Lib.hid (B255.out.kept hA266)
      have B276 := Lib.hid (B256.out.kept hA266)
      have T277 := Lib.hid (T257.out.kept hA266)
      have T278 := Lib.hid (T258.out.kept hA266)
      have T279 := Lib.hid (T259.out.kept hA266)
      have T280 := Lib.hid (T260.out.kept hA266)
      have T281 := Lib.hid (T261.out.kept hA266)
      have T282 := Lib.hid (T262.out.kept hA266)
      have T283 := Lib.hid (T263.out.kept hA266)
      have T284 := Lib.hid (T264.out.kept hA266)
      have H285 := Lib.hid (H265.out.trans (hA266.mono H265.out.size))
      clear hA266 hZ266
      have HWn := Lib.hid hW266
      clear hW266
      go_wp2_with fail
      rw [HWn.out]
      rcases b2 with _ | _
      · skip
        obtain ⟨fc0, fc1, fc2, fcz⟩ := B271.out
        have cD : Below W12.heap.size W12 W12.drew := (Below.refl _ _).drew
        refine wp_region_quiet_litC (C := fun w' => Below W12.heap.size W12 w' ∧ w'.cell? ⟨w1.heap.size, 0, none⟩ = some (.int .i64 T1.k) ∧ w'.cell? ⟨w1.heap.size, 1, none⟩ = some (.int .i64 T1.n) ∧ w'.cell? ⟨w1.heap.size, 2, none⟩ = some (.slice a1 T1.ks.length k1)) (by kernel_rfl) (by kernel_rfl) ⟨cD, (cD.cell fcz).trans fc0, (cD.cell fcz).trans fc1, (cD.cell fcz).trans fc2⟩ ?_
        repeat (first | go_big_quiet_skip | (go_big_quiet_want; first | (go_big_quiet_op; go_big_quiet_on) | (apply Exists.intro; refine ⟨fun w' hC => ?_, ?_⟩; (obtain ⟨cB, c_0, c_1, c_2⟩ := hC; go_simp; first | done | rfl | exact ⟨rfl, rfl⟩); (simp only [Act.put, List.setIfInBounds_toArray, List.set_cons_zero, List.set_cons_succ]); go_big_quiet_on)))
        refine wpQuiet_nil ?_
        intro w13 hC
        have HB_w13 := Lib.hid hC.1
        clear hC cD fc0 fc1 fc2 fcz
        have Z287 := Lib.hid (show W12.heap.size ≤ w13.heap.size from HB_w13.out.size)
        have B288 := Lib.hid (B269.out.kept HB_w13.out)
        have B289 := Lib.hid (B270.out.kept HB_w13.out)
        have B290 := Lib.hid (B271.out.kept HB_w13.out)
        have B291 := Lib.hid (B272.out.kept HB_w13.out)
        have B292 := Lib.hid (B273.out.kept HB_w13.out)
        have B293 := Lib.hid (B274.out.kept HB_w13.out)
        have B294 := Lib.hid (B275.out.kept HB_w13.out)
        have B295 := Lib.hid (B276.out.kept HB_w13.out)
        have B296 := Lib.hid (B266n.out.kept HB_w13.out)
        have T297 := Lib.hid (T277.out.kept HB_w13.out)
        have T298 := Lib.hid (T278.out.kept HB_w13.out)
        have T299 := Lib.hid (T279.out.kept HB_w13.out)
        have T300 := Lib.hid (T280.out.kept HB_w13.out)
        have T301 := Lib.hid (T281.out.kept HB_w13.out)
        have T302 := Lib.hid (T282.out.kept HB_w13.out)
        have T303 := Lib.hid (T283.out.kept HB_w13.out)
        have T304 := Lib.hid (T284.out.kept HB_w13.out)
        have H305 := Lib.hid (H285.out.trans (HB_w13.out.mono H285.out.size))
        go_wp2_with fail
        go_ret
        exact ⟨rfl, H305.out⟩
      · skip
        obtain ⟨hb1, hT2⟩ := HJN.out rfl
        subst hb1
        subst hT2
        obtain ⟨db, do_, dc, va, hv, hdl, x0, x1, x2, xa⟩ := kid_jn T284.out
        have TKo := Lib.hid xa
        injection hv with e1 e2 e3
        subst e1
        subst e3
        have BDo : Hid (TBox W12 w10.heap.size (.int .i64 2) (.int .i64 0) (.slice (some ⟨db, do_, none⟩) 2 k4)) := Lib.hid B276.out
        obtain ⟨fd0, fd1, fd2, fdz⟩ := BDo.out
        obtain ⟨fc0, fc1, fc2, fcz⟩ := B271.out
        have cD : Below W12.heap.size W12 W12.drew := (Below.refl _ _).drew
        refine wp_region_quiet_litC (C := fun w' => Below W12.heap.size W12 w' ∧ w'.cell? ⟨w10.heap.size, 0, none⟩ = some (.int .i64 2) ∧ w'.cell? ⟨w10.heap.size, 1, none⟩ = some (.int .i64 0) ∧ w'.cell? ⟨w10.heap.size, 2, none⟩ = some (.slice (some ⟨db, do_, none⟩) 2 k4) ∧ w'.cell? ⟨w1.heap.size, 0, none⟩ = some (.int .i64 T1.k) ∧ w'.cell? ⟨w1.heap.size, 1, none⟩ = some (.int .i64 T1.n) ∧ w'.cell? ⟨w1.heap.size, 2, none⟩ = some (.slice a1 T1.ks.length k1) ∧ w'.cell? ⟨db, do_, none⟩ = some (.int .i64 T1.k) ∧ w'.cell? ⟨db, do_ + 1, none⟩ = some (.int .i64 T1.n) ∧ w'.cell? ⟨db, do_ + 2, none⟩ = some (va)) (by kernel_rfl) (by kernel_rfl) ⟨cD, (cD.cell fdz).trans fd0, (cD.cell fdz).trans fd1, (cD.cell fdz).trans fd2, (cD.cell fcz).trans fc0, (cD.cell fcz).trans fc1, (cD.cell fcz).trans fc2, (cD.cell hdl).trans x0, (cD.cell hdl).trans x1, (cD.cell hdl).trans x2⟩ ?_
        repeat (first | go_big_quiet_skip | (go_big_quiet_want; first | (go_big_quiet_op; go_big_quiet_on) | (apply Exists.intro; refine ⟨fun w' hC => ?_, ?_⟩; (obtain ⟨cB, c_0, c_1, c_2, c_3, c_4, c_5, c_6, c_7, c_8⟩ := hC; go_simp; first | done | rfl | exact ⟨rfl, rfl⟩); (simp only [Act.put, List.setIfInBounds_toArray, List.set_cons_zero, List.set_cons_succ]); go_big_quiet_on)))
        (go_big_quiet_want; apply Exists.intro; refine ⟨fun w' hC => ?_, ?_⟩; (obtain ⟨cB, c_0, c_1, c_2, c_3, c_4, c_5, c_6, c_7, c_8⟩ := hC; go_simp; go_at_call 17; refine (typeSame_impl T1 T1 0 _ _ _ HNT1.out (TKo.out.kept cB) (T279.out.kept cB)).mono ?_; rintro e w8_ ⟨rfl, hb8⟩; rw [HV1.out]; exact ⟨rfl, cB.trans (hb8.mono cB.size), (hb8.cell (Nat.lt_of_lt_of_le fdz cB.size)).trans c_0, (hb8.cell (Nat.lt_of_lt_of_le fdz cB.size)).trans c_1, (hb8.cell (Nat.lt_of_lt_of_le fdz cB.size)).trans c_2, (hb8.cell (Nat.lt_of_lt_of_le fcz cB.size)).trans c_3, (hb8.cell (Nat.lt_of_lt_of_le fcz cB.size)).trans c_4, (hb8.cell (Nat.lt_of_lt_of_le fcz cB.size)).trans c_5, (hb8.cell (Nat.lt_of_lt_of_le hdl cB.size)).trans c_6, (hb8.cell (Nat.lt_of_lt_of_le hdl cB.size)).trans c_7, (hb8.cell (Nat.lt_of_lt_of_le hdl cB.size)).trans c_8⟩); (simp only [Act.put, List.setIfInBounds_toArray, List.set_cons_zero, List.set_cons_succ]); go_big_quiet_on)
        repeat (first | go_big_quiet_skip | (go_big_quiet_want; first | (go_big_quiet_op; go_big_quiet_on) | (apply Exists.intro; refine ⟨fun w' hC => ?_, ?_⟩; (obtain ⟨cB, c_0, c_1, c_2, c_3, c_4, c_5, c_6, c_7, c_8⟩ := hC; go_simp; first | done | rfl | exact ⟨rfl, rfl⟩); (simp only [Act.put, List.setIfInBounds_toArray, List.set_cons_zero, List.set_cons_succ]); go_big_quiet_on)))
        refine wpQuiet_nil ?_
        intro w13 hC
        have HB_w13 := Lib.hid hC.1
        clear hC cD fd0 fd1 fd2 fdz fc0 fc1 fc2 fcz
        have Z287 := Lib.hid (show W12.heap.size ≤ w13.heap.size from HB_w13.out.size)
        have B288 := Lib.hid (B269.out.kept HB_w13.out)
        have B289 := Lib.hid (B270.out.kept HB_w13.out)
        have B290 := Lib.hid (B271.out.kept HB_w13.out)
        have B291 := Lib.hid (B272.out.kept HB_w13.out)
        have B292 := Lib.hid (B273.out.kept HB_w13.out)
        have B293 := Lib.hid (B274.out.kept HB_w13.out)
        have B294 := Lib.hid (B275.out.kept HB_w13.out)
        have B295 := Lib.hid (BDo.out.kept HB_w13.out)
        have B296 := Lib.hid (B266n.out.kept HB_w13.out)
        have T297 := Lib.hid (T277.out.kept HB_w13.out)
        have T298 := Lib.hid (T278.out.kept HB_w13.out)
        have T299 := Lib.hid (T279.out.kept HB_w13.out)
        have T300 := Lib.hid (T280.out.kept HB_w13.out)
        have T301 := Lib.hid (T281.out.kept HB_w13.out)
        have T302 := Lib.hid (T282.out.kept HB_w13.out)
        have T303 := Lib.hid (T283.out.kept HB_w13.out)
        have T304 := Lib.hid (T284.out.kept HB_w13.out)
        have T305 := Lib.hid (TKo.out.kept HB_w13.out)
        have H306 := Lib.hid (H285.out.trans (HB_w13.out.mono H285.out.size))
        go_wp2_with fail
        go_ret
        exact ⟨rfl, H306.out⟩

set_option maxRecDepth 100000 in
theorem lifted (os : Os) (started : os.Started) (H : Type) (enc : TypeId × Value → H) :
    ReturnsInHanded {} Try.checked os 6 .any (Rows.fnUnifyPartsSpec.pre6 enc Try.prog Try.f6 Rows.fnUnifyPartsRow.domain false) (Rows.fnUnifyPartsSpec.post enc Try.prog Try.f6 false true false false) := by
  refine returnsInHanded_of_change (C := Try.checked) own started (by kernel_rfl) Try.func6
    (ChangeSpec.witness6 (enc := enc) (C := Try.checked) false ⟨#[], #[.slice none 0 0], []⟩ 8 (by kernel_rfl) (by kernel_rfl) (by kernel_rfl) (by kernel_rfl)) ?_
  intro W base args ds gs before hval0 hW hcnd _
  have hval : ∀ (j : Nat) t v, Try.f6.params[j]? = some t → args[j]? = some v → Value.okWide Try.prog W .any base t v := hval0
  have hW' := hW
  obtain ⟨p, q, hA0, hV, rfl, hfz, hnd⟩ := hW
  have hA : DataW.TrodAll enc Try.prog W 0 (fun _ => true) true Try.f6.params.toList args.toList ds p := hA0
  rw [Try.params6] at hA hval
  obtain ⟨v0, vs0, d0, ds0, p0, q0, hargs, rfl, rfl, h0, r0⟩ := trodAll_cons hA
  obtain ⟨rfl, rfl, rfl⟩ := trodAll_nil r0
  obtain rfl : args = #[v0] := by cases args; simp_all
  obtain ⟨rfl, rfl⟩ := trodVars_none hV
  have k0 := h0
  have lt0 : ∀ x ∈ p0, x.block < W.heap.size := by obtain ⟨m, hm⟩ := k0; exact DataW.trod_lt m _ _ _ hm
  obtain ⟨a0, len0, cap0, rfl⟩ := okWide_slice Try.underlying22 (hval 0 22 v0 rfl rfl)
  obtain ⟨z0, w0⟩ : ∃ zs, IsRow W a0 len0 cap0 zs := by
    obtain ⟨fuel, hf⟩ := h0
    rcases open_ints Try.underlying22 Try.underlying5 (by kernel_rfl) hf with ⟨hcs, _⟩ | ⟨x, l, c, zs, hcs, _, hl, hm, hz, _, hcell, hwz⟩
    · simp [Value.cells] at hcs
      obtain ⟨rfl, rfl, rfl⟩ := hcs
      exact ⟨[], .inl ⟨rfl, rfl, rfl, rfl⟩⟩
    · simp [Value.cells] at hcs
      obtain ⟨rfl, rfl, rfl⟩ := hcs
      exact ⟨zs, .inr ⟨_, rfl, hl, hm, by simpa using hz, hcell, hwz⟩⟩
  clear hA0 hval0
  refine (walk a0 len0 cap0 z0 W w0).mono fun e W' ⟨he, bel⟩ => ?_
  subst he
  exact ⟨_, rfl, _, _, _, [], _, [], hW', trodAll_mk1 (shut_bool Try.underlying4 _), (trodAll_cons_mk (Below.trod laidOut (by kernel_rfl) (of_decide_eq_true (by kernel_rfl)) k0 bel lt0) trodAll_mk0), rfl, bel.frame _, fun h => by cases h⟩

theorem over : Rows.fnUnifyPartsRow.holds Try.pinned (OpenSpec.ofChange Rows.fnUnifyPartsSpec) :=
  OpenClaim.holds_of_wide 6 Try.f6 rfl rfl rfl rfl rfl rfl rfl ⟨rfl, rfl, rfl, rfl, rfl⟩ rfl rfl rfl rfl rfl (by kernel_rfl) Try.func6 (by kernel_rfl)
    (of_decide_eq_true (by kernel_rfl)) (by unfold Func.isWrapper; first | (rw [if_pos (by decide +kernel)]; kernel_rfl) | (rw [if_neg (by decide +kernel)]; exact ⟨rfl, rfl⟩))
    (fun os started H enc _ => lifted os started H enc)

/-- The given statement. -/
theorem proved : Rows.FnUnifyPartsSaid := over
end Go.Proofs.Ytndpoejohpmifaa.fnUnifyParts
