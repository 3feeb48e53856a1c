/-
  FnInstanceOf returns true for every two slices of bytes: being an instance is reflexive and transitive, and types that are instances of each other have the same canonical form. No conditions.
-/
import Derived.Test.YtndpoejohpmifaaRows
import Derived.ProofKit
import Derived.OpenShut
import Derived.ShutString
import Derived.ChangeOld
import Derived.Below
import Derived.Lib.SmallJoins
import Derived.BigQuiet
import Derived.Test.YtndpoejohpmifaaQe
import Derived.Test.YtndpoejohpmifaaQac
import Derived.Test.YtndpoejohpmifaaBh
import Derived.Test.YtndpoejohpmifaaAl
import Derived.Test.YtndpoejohpmifaaGae
import Derived.Test.YtndpoejohpmifaaZln
namespace Go.Proofs.Ytndpoejohpmifaa.fnInstanceOf
open Go.Proofs.Ytndpoejohpmifaa
open Go.ChangeShapes Go.WideShapes Go.ChangeAt Go.RowKit Go.Joins
open Go.ChangeMaps (open_string shut_string)
set_option linter.unusedVariables false
set_option linter.unusedSimpArgs false

theorem own : ownKnob Try.prog.godebug = none := by kernel_rfl
theorem laidOut : laidOutB Try.prog = true := by kernel_rfl

theorem wp_region_quiet_litC {P : Program} {C : World → Prop} {id : Nat} {Q : Exit → Act → World → Prop} {a : Act} {w : World} {l : List Oper} (hm : P.follows .mixedOrders = true) (hB : Region.lexB .any l.toArray = true) (hC : C w.drew)
    (h : wpQuiet P l.toArray C (fun a' => ∀ w', C w' → Q .normal a' w') l a) : (Code.region id l.toArray true).wp P Q a w :=
  wp_region_quiet (C := C) hm hB hC (by simpa using h)
theorem optN {t : Ty} {r : Option Ty} (h : cnT t = r) : nodes (optT r) ≤ 1048577 := by
  rcases r with _ | X
  · show nodes (.node 0 0 []) ≤ _
    simp [nodes, nodesL]
  · have hv : tvT X = true := by
      rcases h2 : tvT t with _ | _
      · rw [cnT_no h2] at h; cases h
      · rw [cnT_yes h2] at h; injection h with h; rw [← h]; exact canT_valid h2
    have h := nodes_shp 16 X (tvT_shp hv)
    have e : (2 : Nat) ^ 16 = 65536 := by decide
    show nodes X ≤ _
    omega
set_option maxRecDepth 100000 in
set_option maxHeartbeats 16000000 in
theorem walk (a : Option Addr) (len cap : Nat) (zs : List Int) (aM : Option Addr) (len2 cap2 : Nat) (zs2 : List Int) (w : World) (hrow : IsRow w a len cap zs) (hrow2 : IsRow w aM len2 cap2 zs2) :
    Calls Try.prog 4 #[.slice a len cap, .slice aM len2 cap2] w fun e w' => e = .returned (.bool true) ∧ Below w.heap.size w w' := by
  have HRow := Lib.hid hrow
  have hm := hrow.len
  unfold maxLen at hm
  clear hrow
  have HRow2 := Lib.hid hrow2
  have hm2 := hrow2.len
  unfold maxLen at hm2
  clear hrow2
  by_cases hl : len ≤ 1048576
  case neg =>
    go_enter Try.func4, Try.ntmps4
    go_wp2
    all_goals go_ret
    all_goals exact ⟨rfl, Below.refl _ _⟩
  by_cases hl2 : len2 ≤ 1048576
  case neg =>
    go_enter Try.func4, Try.ntmps4
    go_wp2
    all_goals go_ret
    all_goals exact ⟨rfl, Below.refl _ _⟩
  go_enter Try.func4, Try.ntmps4
  go_wp2_with fail
  go_at_call 20
  refine (drawInstanceOf_any a len cap zs _ HRow.out).mono ?_
  rintro e w0 ⟨x, y, vx, vy, hnx, hny, rfl, htx, hty, hb0⟩
  have H0 := Lib.hid hb0
  have TX := Lib.hid htx
  have TY := Lib.hid hty
  have HNX := Lib.hid (show nodes x ≤ 1048577 by omega)
  have HNY := Lib.hid (show nodes y ≤ 1048577 by omega)
  obtain ⟨ax, cx, rfl, _⟩ := htx.at.slice
  obtain ⟨ay, cy, rfl, _⟩ := hty.at.slice
  have HR2 := Lib.hid (HRow2.out.kept hb0)
  clear hb0 htx hty hnx hny
  obtain ⟨W2, hW2⟩ : ∃ W, (w0.alloc (.cells #[.int .i64 x.k, .int .i64 x.n, .slice ax x.ks.length cx] 25)).alloc (.cells #[.int .i64 y.k, .int .i64 y.n, .slice ay y.ks.length cy] 25) = W := ⟨_, rfl⟩
  obtain ⟨E, hE⟩ : ∃ E, w0.heap.size = E := ⟨_, rfl⟩
  have hb2 : Below w0.heap.size w0 W2 := by rw [← hW2]; exact ((Below.refl _ _).alloc (Nat.le_refl _) _).alloc (by simp) _
  have PA : Hid (TBox W2 E (.int .i64 x.k) (.int .i64 x.n) (.slice ax x.ks.length cx)) := Lib.hid (by rw [← hW2, ← hE]; exact (tbox_new w0 _ _ _ _).kept ((Below.refl _ _).alloc (Nat.le_refl _) _))
  have PB : Hid (TBox W2 (E + 1) (.int .i64 y.k) (.int .i64 y.n) (.slice ay y.ks.length cy)) := Lib.hid (by
    have h := tbox_new (w0.alloc (.cells #[.int .i64 x.k, .int .i64 x.n, .slice ax x.ks.length cx] 25)) (.int .i64 y.k) (.int .i64 y.n) (.slice ay y.ks.length cy) 25
    rw [hW2, sizeA, hE] at h; exact h)
  have H2 := Lib.hid (H0.out.trans (hb2.mono H0.out.size))
  have TX2 := Lib.hid (TX.out.kept hb2)
  have TY2 := Lib.hid (TY.out.kept hb2)
  have HR2 := Lib.hid (HR2.out.kept hb2)
  have HW2 := Lib.hid hW2
  clear hW2 hb2
  obtain ⟨r1, hr1⟩ : ∃ r, cnT x = r := ⟨_, rfl⟩
  have HRR1 := Lib.hid hr1
  obtain ⟨T1, hT1⟩ : ∃ T, optT r1 = T := ⟨_, rfl⟩
  obtain ⟨b1, hb1⟩ : ∃ b, r1.isSome = b := ⟨_, rfl⟩
  have HNT1 : Hid (nodes T1 ≤ 1048577) := Lib.hid (by rw [← hT1]; exact optN hr1)
  have HVA1 : Hid (tvT x = b1) := Lib.hid (by
    rw [← hb1, ← hr1]
    rcases h : tvT x with _ | _
    · rw [cnT_no h]; rfl
    · rw [cnT_yes h]; rfl)
  have HCA1 : Hid (b1 = true → canT x = T1) := Lib.hid (fun h => by
    rw [HVA1.out.symm] at h
    rw [← hT1, ← hr1, cnT_yes h]; rfl)
  have HF1 : Hid (∀ (w : World) (e : Ending) (w' : World), OptRet r1 w e w' → ∃ v, e = .returned (.tuple #[.agg #[.int .i64 T1.k, .int .i64 T1.n, v], .bool b1]) ∧ TyIn w' w.heap.size w'.heap.size T1 v ∧ Below w.heap.size w w') := Lib.hid (by rw [← hT1, ← hb1]; exact fun w e w' h => h.flat)
  have hbb1 : (b1 != b1) = false := by cases b1 <;> rfl
  have hbe1_ : (b1 == b1) = true := by cases b1 <;> rfl
  have HV1 : Hid (sameB T1 T1 = true) := Lib.hid (sameB_yes rfl)
  clear hT1 hb1 hr1
  obtain ⟨r2, hr2⟩ : ∃ r, cnT y = r := ⟨_, rfl⟩
  have HRR2 := Lib.hid hr2
  obtain ⟨T2, hT2⟩ : ∃ T, optT r2 = T := ⟨_, rfl⟩
  obtain ⟨b2, hb2⟩ : ∃ b, r2.isSome = b := ⟨_, rfl⟩
  have HNT2 : Hid (nodes T2 ≤ 1048577) := Lib.hid (by rw [← hT2]; exact optN hr2)
  have HVA2 : Hid (tvT y = b2) := Lib.hid (by
    rw [← hb2, ← hr2]
    rcases h : tvT y with _ | _
    · rw [cnT_no h]; rfl
    · rw [cnT_yes h]; rfl)
  have HCA2 : Hid (b2 = true → canT y = T2) := Lib.hid (fun h => by
    rw [HVA2.out.symm] at h
    rw [← hT2, ← hr2, cnT_yes h]; rfl)
  have HF2 : Hid (∀ (w : World) (e : Ending) (w' : World), OptRet r2 w e w' → ∃ v, e = .returned (.tuple #[.agg #[.int .i64 T2.k, .int .i64 T2.n, v], .bool b2]) ∧ TyIn w' w.heap.size w'.heap.size T2 v ∧ Below w.heap.size w w') := Lib.hid (by rw [← hT2, ← hb2]; exact fun w e w' h => h.flat)
  have hbb2 : (b2 != b2) = false := by cases b2 <;> rfl
  have hbe2 : (b2 == b2) = true := by cases b2 <;> rfl
  have HV2 : Hid (sameB T2 T2 = true) := Lib.hid (sameB_yes rfl)
  clear hT2 hb2 hr2
  obtain ⟨ib, hib⟩ : ∃ b, Mx.instB x y = b := ⟨_, rfl⟩
  have HIB := Lib.hid hib
  have HSX : Hid (Mx.instB x x = b1) := Lib.hid (by rw [inst_self, HVA1.out])
  have HTT : Hid (ib = true → b1 = true ∧ b2 = true) := Lib.hid (fun h => by
    rw [h] at hib
    obtain ⟨h1, h2, _⟩ := Mx.ev_of_inst hib
    exact ⟨HVA1.out.symm.trans h1, HVA2.out.symm.trans h2⟩)
  have hii : (ib != ib) = false := by cases ib <;> rfl
  have hie : (ib == ib) = true := by cases ib <;> rfl
  clear hib
  go_wp2_with fail
  rw [HW2.out]
  clear hE
  obtain ⟨bf101, bg101, bh101, bz101⟩ := PA.out
  obtain ⟨bf102, bg102, bh102, bz102⟩ := PB.out
  go_wp2_with fail
  go_at_call 21
  refine (Mx.instanceOf_impl x y _ _ _ HNX.out TX2.out TY2.out).mono ?_
  rintro e w1 ⟨rfl, hb⟩
  have Z104 := Lib.hid (show W2.heap.size ≤ w1.heap.size from hb.size)
  have B105 := Lib.hid (PA.out.kept hb)
  have B106 := Lib.hid (PB.out.kept hb)
  have T107 := Lib.hid (TX2.out.kept hb)
  have T108 := Lib.hid (TY2.out.kept hb)
  have T109 := Lib.hid (HR2.out.kept hb)
  have H110 := Lib.hid (H2.out.trans (hb.mono H2.out.size))
  rw [HIB.out]
  clear bf101 bg101 bh101 bz101 bf102 bg102 bh102 bz102
  clear hb
  obtain ⟨bf111, bg111, bh111, bz111⟩ := B105.out
  obtain ⟨bf112, bg112, bh112, bz112⟩ := B106.out
  go_wp2_with fail
  go_region_held3 (fun w' => w'.cell? ⟨E, 0, none⟩ = some (.int .i64 x.k) ∧ w'.cell? ⟨E, 1, none⟩ = some (.int .i64 x.n) ∧ w'.cell? ⟨E, 2, none⟩ = some (.slice ax x.ks.length cx) ∧ w'.cell? ⟨(E + 1), 0, none⟩ = some (.int .i64 y.k) ∧ w'.cell? ⟨(E + 1), 1, none⟩ = some (.int .i64 y.n) ∧ w'.cell? ⟨(E + 1), 2, none⟩ = some (.slice ay y.ks.length cy)) (go_keep)
    (first
      | (have hgd2 := H130; clear hgd2; go_at_call 15; refine (typeValid_impl x _ _ (by first | exact T127.out.at | exact (T127.out.at).kept (Below.refl _ _).drew)).mono ?_; rintro e w4 ⟨rfl, hbx⟩; have hbd : Below w3.heap.size w3 w4 := Below.trans (B := w3.heap.size) (by first | exact Below.refl _ _ | exact (Below.refl _ _).drew) hbx; rw [HVA1.out]; have Z134 := Lib.hid (show w3.heap.size ≤ w4.heap.size from hbd.size); have B135 := Lib.hid (B125.out.kept hbd); have B136 := Lib.hid (B126.out.kept hbd); have T137 := Lib.hid (T127.out.kept hbd); have T138 := Lib.hid (T128.out.kept hbd); have T139 := Lib.hid (T129.out.kept hbd); have H140 := Lib.hid (H130.out.trans (hbd.mono H130.out.size)); obtain ⟨bf141, bg141, bh141, bz141⟩ := B135.out; obtain ⟨bf142, bg142, bh142, bz142⟩ := B136.out; clear hbx hbd)
      | (have hgd1 := H120; clear hgd1; go_at_call 21; refine (Mx.instanceOf_impl x x _ _ _ HNX.out (by first | exact T117.out | exact (T117.out).kept (Below.refl _ _).drew) (by first | exact T117.out | exact (T117.out).kept (Below.refl _ _).drew)).mono ?_; rintro e w3 ⟨rfl, hbx⟩; have hbd : Below w2.heap.size w2 w3 := Below.trans (B := w2.heap.size) (by first | exact Below.refl _ _ | exact (Below.refl _ _).drew) hbx; rw [HSX.out]; have Z124 := Lib.hid (show w2.heap.size ≤ w3.heap.size from hbd.size); have B125 := Lib.hid (B115.out.kept hbd); have B126 := Lib.hid (B116.out.kept hbd); have T127 := Lib.hid (T117.out.kept hbd); have T128 := Lib.hid (T118.out.kept hbd); have T129 := Lib.hid (T119.out.kept hbd); have H130 := Lib.hid (H120.out.trans (hbd.mono H120.out.size)); obtain ⟨bf131, bg131, bh131, bz131⟩ := B125.out; obtain ⟨bf132, bg132, bh132, bz132⟩ := B126.out; clear hbx hbd)
      | (go_at_call 22; refine (Mx.instanceOf_spec x y _ _ _ (by first | exact T107.out.at | exact (T107.out.at).kept (Below.refl _ _).drew) (by first | exact T108.out.at | exact (T108.out.at).kept (Below.refl _ _).drew)).mono ?_; rintro e w2 ⟨rfl, hbx⟩; have hbd : Below w1.heap.size w1 w2 := Below.trans (B := w1.heap.size) (by first | exact Below.refl _ _ | exact (Below.refl _ _).drew) hbx; rw [HIB.out]; have Z114 := Lib.hid (show w1.heap.size ≤ w2.heap.size from hbd.size); have B115 := Lib.hid (B105.out.kept hbd); have B116 := Lib.hid (B106.out.kept hbd); have T117 := Lib.hid (T107.out.kept hbd); have T118 := Lib.hid (T108.out.kept hbd); have T119 := Lib.hid (T109.out.kept hbd); have H120 := Lib.hid (H110.out.trans (hbd.mono H110.out.size)); obtain ⟨bf121, bg121, bh121, bz121⟩ := B115.out; obtain ⟨bf122, bg122, bh122, bz122⟩ := B116.out; clear hbx hbd))
  rcases ib with _ | _
  · skip
    clear bf111 bg111 bh111 bz111 bf112 bg112 bh112 bz112 bf121 bg121 bh121 bz121 bf122 bg122 bh122 bz122 bf131 bg131 bh131 bz131 bf132 bg132 bh132 bz132 bf141 bg141 bh141 bz141 bf142 bg142 bh142 bz142
    obtain ⟨bf143, bg143, bh143, bz143⟩ := B135.out
    obtain ⟨bf144, bg144, bh144, bz144⟩ := B136.out
    go_wp2_with fail
    go_region_held3 (fun w' => w'.cell? ⟨E, 0, none⟩ = some (.int .i64 x.k) ∧ w'.cell? ⟨E, 1, none⟩ = some (.int .i64 x.n) ∧ w'.cell? ⟨E, 2, none⟩ = some (.slice ax x.ks.length cx) ∧ w'.cell? ⟨(E + 1), 0, none⟩ = some (.int .i64 y.k) ∧ w'.cell? ⟨(E + 1), 1, none⟩ = some (.int .i64 y.n) ∧ w'.cell? ⟨(E + 1), 2, none⟩ = some (.slice ay y.ks.length cy)) (go_keep)
      (first
        | (have hgd2 := H162; clear hgd2; go_at_call 15; refine (typeValid_impl x _ _ (by first | exact T159.out.at | exact (T159.out.at).kept (Below.refl _ _).drew)).mono ?_; rintro e w7 ⟨rfl, hbx⟩; have hbd : Below w6.heap.size w6 w7 := Below.trans (B := w6.heap.size) (by first | exact Below.refl _ _ | exact (Below.refl _ _).drew) hbx; rw [HVA1.out]; have Z166 := Lib.hid (show w6.heap.size ≤ w7.heap.size from hbd.size); have B167 := Lib.hid (B157.out.kept hbd); have B168 := Lib.hid (B158.out.kept hbd); have T169 := Lib.hid (T159.out.kept hbd); have T170 := Lib.hid (T160.out.kept hbd); have T171 := Lib.hid (T161.out.kept hbd); have H172 := Lib.hid (H162.out.trans (hbd.mono H162.out.size)); obtain ⟨bf173, bg173, bh173, bz173⟩ := B167.out; obtain ⟨bf174, bg174, bh174, bz174⟩ := B168.out; clear hbx hbd)
        | (have hgd1 := H152; clear hgd1; go_at_call 21; refine (Mx.instanceOf_impl x x _ _ _ HNX.out (by first | exact T149.out | exact (T149.out).kept (Below.refl _ _).drew) (by first | exact T149.out | exact (T149.out).kept (Below.refl _ _).drew)).mono ?_; rintro e w6 ⟨rfl, hbx⟩; have hbd : Below w5.heap.size w5 w6 := Below.trans (B := w5.heap.size) (by first | exact Below.refl _ _ | exact (Below.refl _ _).drew) hbx; rw [HSX.out]; have Z156 := Lib.hid (show w5.heap.size ≤ w6.heap.size from hbd.size); have B157 := Lib.hid (B147.out.kept hbd); have B158 := Lib.hid (B148.out.kept hbd); have T159 := Lib.hid (T149.out.kept hbd); have T160 := Lib.hid (T150.out.kept hbd); have T161 := Lib.hid (T151.out.kept hbd); have H162 := Lib.hid (H152.out.trans (hbd.mono H152.out.size)); obtain ⟨bf163, bg163, bh163, bz163⟩ := B157.out; obtain ⟨bf164, bg164, bh164, bz164⟩ := B158.out; clear hbx hbd)
        | (go_at_call 22; refine (Mx.instanceOf_spec x y _ _ _ (by first | exact T137.out.at | exact (T137.out.at).kept (Below.refl _ _).drew) (by first | exact T138.out.at | exact (T138.out.at).kept (Below.refl _ _).drew)).mono ?_; rintro e w5 ⟨rfl, hbx⟩; have hbd : Below w4.heap.size w4 w5 := Below.trans (B := w4.heap.size) (by first | exact Below.refl _ _ | exact (Below.refl _ _).drew) hbx; rw [HIB.out]; have Z146 := Lib.hid (show w4.heap.size ≤ w5.heap.size from hbd.size); have B147 := Lib.hid (B135.out.kept hbd); have B148 := Lib.hid (B136.out.kept hbd); have T149 := Lib.hid (T137.out.kept hbd); have T150 := Lib.hid (T138.out.kept hbd); have T151 := Lib.hid (T139.out.kept hbd); have H152 := Lib.hid (H140.out.trans (hbd.mono H140.out.size)); obtain ⟨bf153, bg153, bh153, bz153⟩ := B147.out; obtain ⟨bf154, bg154, bh154, bz154⟩ := B148.out; clear hbx hbd))
    all_goals go_wp2_with fail
    all_goals go_ret
    all_goals first | exact ⟨rfl, H172.out⟩ | exact ⟨rfl, H172.out.drew⟩
  · skip
    obtain ⟨hb1, hb2⟩ := HTT.out rfl
    subst hb1
    subst hb2
    have HC1 := Lib.hid (HCA1.out rfl)
    have HC2 := Lib.hid (HCA2.out rfl)
    have HBK : Hid (Mx.instB y x = sameB T1 T2) := Lib.hid (by rw [← HC1.out, ← HC2.out]; exact inst_back HIB.out)
    obtain ⟨sb, hsb⟩ : ∃ b, sameB T1 T2 = b := ⟨_, rfl⟩
    have HSB := Lib.hid hsb
    rw [hsb] at HBK
    have hse : (sb == sb) = true := by cases sb <;> rfl
    clear hsb
    go_wp2_with fail
    go_at_call 20
    refine (drawInstanceOf_any aM len2 cap2 zs2 _ T139.out).mono ?_
    rintro e w5 ⟨p, r, vp, vr, hnp, hnr, rfl, htp, htr, hb⟩
    have TP := Lib.hid htp
    have TR := Lib.hid htr
    have HNP := Lib.hid (show nodes p ≤ 1048577 by omega)
    have HNR := Lib.hid (show nodes r ≤ 1048577 by omega)
    obtain ⟨ap, cp, rfl, _⟩ := htp.at.slice
    obtain ⟨ar, cr, rfl, _⟩ := htr.at.slice
    clear bf111 bg111 bh111 bz111 bf112 bg112 bh112 bz112 bf121 bg121 bh121 bz121 bf122 bg122 bh122 bz122 bf131 bg131 bh131 bz131 bf132 bg132 bh132 bz132 bf141 bg141 bh141 bz141 bf142 bg142 bh142 bz142
    have Z144 := Lib.hid (show w4.heap.size ≤ w5.heap.size from hb.size)
    have B145 := Lib.hid (B135.out.kept hb)
    have B146 := Lib.hid (B136.out.kept hb)
    have T147 := Lib.hid (T137.out.kept hb)
    have T148 := Lib.hid (T138.out.kept hb)
    have T149 := Lib.hid (T139.out.kept hb)
    have H150 := Lib.hid (H140.out.trans (hb.mono H140.out.size))
    clear hb htp htr hnp hnr
    obtain ⟨W6, hW151⟩ : ∃ W, w5.alloc (.cells #[.int .i64 p.k, .int .i64 p.n, .slice ap p.ks.length cp] 25) = W := ⟨_, rfl⟩
    have hA151 : Below w5.heap.size w5 W6 := by rw [← hW151]; exact (Below.refl _ _).alloc (Nat.le_refl _) _
    have hZ151 : W6.heap.size = w5.heap.size + 1 := by rw [← hW151]; simp
    have B151n : Hid (TBox W6 w5.heap.size (.int .i64 p.k) (.int .i64 p.n) (.slice ap p.ks.length cp)) := Lib.hid (by rw [← hW151]; exact tbox_new w5 _ _ _ _)
    have Zb151 := Lib.hid hZ151
    have Z153 := Lib.hid (show w5.heap.size ≤ W6.heap.size from hA151.size)
    have B154 := Lib.hid (B145.out.kept hA151)
    have B155 := Lib.hid (B146.out.kept hA151)
    have T156 := Lib.hid (T147.out.kept hA151)
    have T157 := Lib.hid (T148.out.kept hA151)
    have T158 := Lib.hid (TP.out.kept hA151)
    have T159 := Lib.hid (TR.out.kept hA151)
    have T160 := Lib.hid (T149.out.kept hA151)
    have H161 := Lib.hid (H150.out.trans (hA151.mono H150.out.size))
    clear hA151 hZ151
    obtain ⟨W7, hW162⟩ : ∃ W, W6.alloc (.cells #[.int .i64 r.k, .int .i64 r.n, .slice ar r.ks.length cr] 25) = W := ⟨_, rfl⟩
    have hA162 : Below W6.heap.size W6 W7 := by rw [← hW162]; exact (Below.refl _ _).alloc (Nat.le_refl _) _
    have hZ162 : W7.heap.size = W6.heap.size + 1 := by rw [← hW162]; simp
    have B162n : Hid (TBox W7 W6.heap.size (.int .i64 r.k) (.int .i64 r.n) (.slice ar r.ks.length cr)) := Lib.hid (by rw [← hW162]; exact tbox_new W6 _ _ _ _)
    have Zb162 := Lib.hid hZ162
    have Z164 := Lib.hid (show W6.heap.size ≤ W7.heap.size from hA162.size)
    have B165 := Lib.hid (B154.out.kept hA162)
    have B166 := Lib.hid (B155.out.kept hA162)
    have B167 := Lib.hid (B151n.out.kept hA162)
    have T168 := Lib.hid (T156.out.kept hA162)
    have T169 := Lib.hid (T157.out.kept hA162)
    have T170 := Lib.hid (T158.out.kept hA162)
    have T171 := Lib.hid (T159.out.kept hA162)
    have T172 := Lib.hid (T160.out.kept hA162)
    have H173 := Lib.hid (H161.out.trans (hA162.mono H161.out.size))
    clear hA162 hZ162
    have HWc := Lib.hid hW151
    have HWd := Lib.hid hW162
    clear hW151 hW162
    have hBxa := B165.out
    rw [← HWd.out, ← HWc.out] at hBxa
    obtain ⟨ma0, ma1, ma2, maz⟩ := hBxa
    go_wp2_with fail
    try rw [HWc.out]
    try rw [HWd.out]
    clear ma0 ma1 ma2 maz
    have hszd : W6.heap.size = w5.heap.size + 1 := by rw [← HWc.out, sizeA]
    rw [← hszd]
    clear hszd
    obtain ⟨i1, hi1⟩ : ∃ b, Mx.instB y p = b := ⟨_, rfl⟩
    have HI1 := Lib.hid hi1
    obtain ⟨i2, hi2⟩ : ∃ b, Mx.instB r x = b := ⟨_, rfl⟩
    have HI2 := Lib.hid hi2
    have HT1 : Hid (i1 = true → Mx.instB x p = true) := Lib.hid (fun h => inst_trans HIB.out (hi1.trans h))
    have HT2 : Hid (i2 = true → Mx.instB r y = true) := Lib.hid (fun h => inst_trans (hi2.trans h) HIB.out)
    clear hi1 hi2
    go_at_call 23
    refine (canonType_impl x _ _ T168.out.at r1 HRR1.out).mono ?_
    intro e w8 hret
    obtain ⟨vX, rfl, htyX, hb⟩ := HF1.out _ _ _ hret
    obtain ⟨aX, kX, rfl, _⟩ := htyX.at.slice
    have TXo := Lib.hid htyX.ok
    have Z175 := Lib.hid (show W7.heap.size ≤ w8.heap.size from hb.size)
    have B176 := Lib.hid (B165.out.kept hb)
    have B177 := Lib.hid (B166.out.kept hb)
    have B178 := Lib.hid (B167.out.kept hb)
    have B179 := Lib.hid (B162n.out.kept hb)
    have T180 := Lib.hid (T168.out.kept hb)
    have T181 := Lib.hid (T169.out.kept hb)
    have T182 := Lib.hid (T170.out.kept hb)
    have T183 := Lib.hid (T171.out.kept hb)
    have T184 := Lib.hid (T172.out.kept hb)
    have H185 := Lib.hid (H173.out.trans (hb.mono H173.out.size))
    clear hb hret htyX
    obtain ⟨W9, hW186⟩ : ∃ W, w8.alloc (.cells #[.int .i64 T1.k, .int .i64 T1.n, .slice aX T1.ks.length kX] 25) = W := ⟨_, rfl⟩
    have hA186 : Below w8.heap.size w8 W9 := by rw [← hW186]; exact (Below.refl _ _).alloc (Nat.le_refl _) _
    have hZ186 : W9.heap.size = w8.heap.size + 1 := by rw [← hW186]; simp
    have B186n : Hid (TBox W9 w8.heap.size (.int .i64 T1.k) (.int .i64 T1.n) (.slice aX T1.ks.length kX)) := Lib.hid (by rw [← hW186]; exact tbox_new w8 _ _ _ _)
    have Zb186 := Lib.hid hZ186
    have Z188 := Lib.hid (show w8.heap.size ≤ W9.heap.size from hA186.size)
    have B189 := Lib.hid (B176.out.kept hA186)
    have B190 := Lib.hid (B177.out.kept hA186)
    have B191 := Lib.hid (B178.out.kept hA186)
    have B192 := Lib.hid (B179.out.kept hA186)
    have T193 := Lib.hid (T180.out.kept hA186)
    have T194 := Lib.hid (T181.out.kept hA186)
    have T195 := Lib.hid (T182.out.kept hA186)
    have T196 := Lib.hid (T183.out.kept hA186)
    have T197 := Lib.hid (TXo.out.kept hA186)
    have T198 := Lib.hid (T184.out.kept hA186)
    have H199 := Lib.hid (H185.out.trans (hA186.mono H185.out.size))
    clear hA186 hZ186
    obtain ⟨bf200, bg200, bh200, bz200⟩ := B190.out
    go_wp2_with fail
    clear hW186
    go_at_call 23
    refine (canonType_impl y _ _ T194.out.at r2 HRR2.out).mono ?_
    intro e w10 hret
    obtain ⟨vY, rfl, htyY, hb⟩ := HF2.out _ _ _ hret
    obtain ⟨aY, kY, rfl, _⟩ := htyY.at.slice
    have TYo := Lib.hid htyY.ok
    clear bf200 bg200 bh200 bz200
    have Z202 := Lib.hid (show W9.heap.size ≤ w10.heap.size from hb.size)
    have B203 := Lib.hid (B189.out.kept hb)
    have B204 := Lib.hid (B190.out.kept hb)
    have B205 := Lib.hid (B191.out.kept hb)
    have B206 := Lib.hid (B192.out.kept hb)
    have B207 := Lib.hid (B186n.out.kept hb)
    have T208 := Lib.hid (T193.out.kept hb)
    have T209 := Lib.hid (T194.out.kept hb)
    have T210 := Lib.hid (T195.out.kept hb)
    have T211 := Lib.hid (T196.out.kept hb)
    have T212 := Lib.hid (T197.out.kept hb)
    have T213 := Lib.hid (T198.out.kept hb)
    have H214 := Lib.hid (H199.out.trans (hb.mono H199.out.size))
    clear hb hret htyY
    obtain ⟨W11, hW215⟩ : ∃ W, w10.alloc (.cells #[.int .i64 T2.k, .int .i64 T2.n, .slice aY T2.ks.length kY] 25) = W := ⟨_, rfl⟩
    have hA215 : Below w10.heap.size w10 W11 := by rw [← hW215]; exact (Below.refl _ _).alloc (Nat.le_refl _) _
    have hZ215 : W11.heap.size = w10.heap.size + 1 := by rw [← hW215]; simp
    have B215n : Hid (TBox W11 w10.heap.size (.int .i64 T2.k) (.int .i64 T2.n) (.slice aY T2.ks.length kY)) := Lib.hid (by rw [← hW215]; exact tbox_new w10 _ _ _ _)
    have Zb215 := Lib.hid hZ215
    have Z217 := Lib.hid (show w10.heap.size ≤ W11.heap.size from hA215.size)
    have B218 := Lib.hid (B203.out.kept hA215)
    have B219 := Lib.hid (B204.out.kept hA215)
    have B220 := Lib.hid (B205.out.kept hA215)
    have B221 := Lib.hid (B206.out.kept hA215)
    have B222 := Lib.hid (B207.out.kept hA215)
    have T223 := Lib.hid (T208.out.kept hA215)
    have T224 := Lib.hid (T209.out.kept hA215)
    have T225 := Lib.hid (T210.out.kept hA215)
    have T226 := Lib.hid (T211.out.kept hA215)
    have T227 := Lib.hid (T212.out.kept hA215)
    have T228 := Lib.hid (TYo.out.kept hA215)
    have T229 := Lib.hid (T213.out.kept hA215)
    have H230 := Lib.hid (H214.out.trans (hA215.mono H214.out.size))
    clear hA215 hZ215
    obtain ⟨bf231, bg231, bh231, bz231⟩ := B218.out
    obtain ⟨bf232, bg232, bh232, bz232⟩ := B219.out
    obtain ⟨bf233, bg233, bh233, bz233⟩ := B220.out
    obtain ⟨bf234, bg234, bh234, bz234⟩ := B221.out
    obtain ⟨bf235, bg235, bh235, bz235⟩ := B222.out
    obtain ⟨bf236, bg236, bh236, bz236⟩ := B215n.out
    go_wp2_with fail
    clear hW215
    rcases i1 with _ | _
    · skip
      rcases i2 with _ | _
      · skip
        clear bf231 bg231 bh231 bz231 bf232 bg232 bh232 bz232 bf233 bg233 bh233 bz233 bf234 bg234 bh234 bz234 bf235 bg235 bh235 bz235 bf236 bg236 bh236 bz236
        obtain ⟨fa0, fa1, fa2, faz⟩ := B218.out
        obtain ⟨fb0, fb1, fb2, fbz⟩ := B219.out
        obtain ⟨fc0, fc1, fc2, fcz⟩ := B220.out
        obtain ⟨fd0, fd1, fd2, fdz⟩ := B221.out
        obtain ⟨fX0, fX1, fX2, fXz⟩ := B222.out
        obtain ⟨fY0, fY1, fY2, fYz⟩ := B215n.out
        go_wp2_with fail
        have cD : Below W11.heap.size W11 W11.drew := (Below.refl _ _).drew
        refine wp_region_quiet_litC (C := fun w' => Below W11.heap.size W11 w' ∧ w'.cell? ⟨E, 0, none⟩ = some (.int .i64 x.k) ∧ w'.cell? ⟨E, 1, none⟩ = some (.int .i64 x.n) ∧ w'.cell? ⟨E, 2, none⟩ = some (.slice ax x.ks.length cx) ∧ w'.cell? ⟨(E + 1), 0, none⟩ = some (.int .i64 y.k) ∧ w'.cell? ⟨(E + 1), 1, none⟩ = some (.int .i64 y.n) ∧ w'.cell? ⟨(E + 1), 2, none⟩ = some (.slice ay y.ks.length cy) ∧ w'.cell? ⟨w5.heap.size, 0, none⟩ = some (.int .i64 p.k) ∧ w'.cell? ⟨w5.heap.size, 1, none⟩ = some (.int .i64 p.n) ∧ w'.cell? ⟨w5.heap.size, 2, none⟩ = some (.slice ap p.ks.length cp) ∧ w'.cell? ⟨W6.heap.size, 0, none⟩ = some (.int .i64 r.k) ∧ w'.cell? ⟨W6.heap.size, 1, none⟩ = some (.int .i64 r.n) ∧ w'.cell? ⟨W6.heap.size, 2, none⟩ = some (.slice ar r.ks.length cr) ∧ w'.cell? ⟨w8.heap.size, 0, none⟩ = some (.int .i64 T1.k) ∧ w'.cell? ⟨w8.heap.size, 1, none⟩ = some (.int .i64 T1.n) ∧ w'.cell? ⟨w8.heap.size, 2, none⟩ = some (.slice aX T1.ks.length kX) ∧ w'.cell? ⟨w10.heap.size, 0, none⟩ = some (.int .i64 T2.k) ∧ w'.cell? ⟨w10.heap.size, 1, none⟩ = some (.int .i64 T2.n) ∧ w'.cell? ⟨w10.heap.size, 2, none⟩ = some (.slice aY T2.ks.length kY)) (by kernel_rfl) (by kernel_rfl) ⟨cD, (cD.cell faz).trans fa0, (cD.cell faz).trans fa1, (cD.cell faz).trans fa2, (cD.cell fbz).trans fb0, (cD.cell fbz).trans fb1, (cD.cell fbz).trans fb2, (cD.cell fcz).trans fc0, (cD.cell fcz).trans fc1, (cD.cell fcz).trans fc2, (cD.cell fdz).trans fd0, (cD.cell fdz).trans fd1, (cD.cell fdz).trans fd2, (cD.cell fXz).trans fX0, (cD.cell fXz).trans fX1, (cD.cell fXz).trans fX2, (cD.cell fYz).trans fY0, (cD.cell fYz).trans fY1, (cD.cell fYz).trans fY2⟩ ?_
        iterate 2 (first | go_big_quiet_skip | (go_big_quiet_want; first | (go_big_quiet_op; go_big_quiet_on) | (apply Exists.intro; refine ⟨fun w' hC => ?_, ?_⟩; (obtain ⟨cB, ca0, ca1, ca2, cb0, cb1, cb2, cc0, cc1, cc2, cd0, cd1, cd2, cX0, cX1, cX2, cY0, cY1, cY2⟩ := hC; go_simp; first | done | rfl | exact ⟨rfl, rfl⟩); (simp only [Act.put, List.setIfInBounds_toArray, List.set_cons_zero, List.set_cons_succ]); go_big_quiet_on)))
        (go_big_quiet_want; apply Exists.intro; refine ⟨fun w' hC => ?_, ?_⟩; (obtain ⟨cB, ca0, ca1, ca2, cb0, cb1, cb2, cc0, cc1, cc2, cd0, cd1, cd2, cX0, cX1, cX2, cY0, cY1, cY2⟩ := hC; go_simp; go_at_call 21; refine (Mx.instanceOf_impl y p _ _ _ HNY.out (T224.out.kept cB) (T225.out.kept cB)).mono ?_; rintro e w8_ ⟨rfl, hb8⟩; rw [HI1.out]; exact ⟨rfl, cB.trans (hb8.mono cB.size), (hb8.cell (Nat.lt_of_lt_of_le faz cB.size)).trans ca0, (hb8.cell (Nat.lt_of_lt_of_le faz cB.size)).trans ca1, (hb8.cell (Nat.lt_of_lt_of_le faz cB.size)).trans ca2, (hb8.cell (Nat.lt_of_lt_of_le fbz cB.size)).trans cb0, (hb8.cell (Nat.lt_of_lt_of_le fbz cB.size)).trans cb1, (hb8.cell (Nat.lt_of_lt_of_le fbz cB.size)).trans cb2, (hb8.cell (Nat.lt_of_lt_of_le fcz cB.size)).trans cc0, (hb8.cell (Nat.lt_of_lt_of_le fcz cB.size)).trans cc1, (hb8.cell (Nat.lt_of_lt_of_le fcz cB.size)).trans cc2, (hb8.cell (Nat.lt_of_lt_of_le fdz cB.size)).trans cd0, (hb8.cell (Nat.lt_of_lt_of_le fdz cB.size)).trans cd1, (hb8.cell (Nat.lt_of_lt_of_le fdz cB.size)).trans cd2, (hb8.cell (Nat.lt_of_lt_of_le fXz cB.size)).trans cX0, (hb8.cell (Nat.lt_of_lt_of_le fXz cB.size)).trans cX1, (hb8.cell (Nat.lt_of_lt_of_le fXz cB.size)).trans cX2, (hb8.cell (Nat.lt_of_lt_of_le fYz cB.size)).trans cY0, (hb8.cell (Nat.lt_of_lt_of_le fYz cB.size)).trans cY1, (hb8.cell (Nat.lt_of_lt_of_le fYz cB.size)).trans cY2⟩); (simp only [Act.put, List.setIfInBounds_toArray, List.set_cons_zero, List.set_cons_succ]); go_big_quiet_on)
        iterate 4 (first | go_big_quiet_skip | (go_big_quiet_want; first | (go_big_quiet_op; go_big_quiet_on) | (apply Exists.intro; refine ⟨fun w' hC => ?_, ?_⟩; (obtain ⟨cB, ca0, ca1, ca2, cb0, cb1, cb2, cc0, cc1, cc2, cd0, cd1, cd2, cX0, cX1, cX2, cY0, cY1, cY2⟩ := hC; go_simp; first | done | rfl | exact ⟨rfl, rfl⟩); (simp only [Act.put, List.setIfInBounds_toArray, List.set_cons_zero, List.set_cons_succ]); go_big_quiet_on)))
        go_big_quiet_skip
        iterate 4 (first | go_big_quiet_skip | (go_big_quiet_want; first | (go_big_quiet_op; go_big_quiet_on) | (apply Exists.intro; refine ⟨fun w' hC => ?_, ?_⟩; (obtain ⟨cB, ca0, ca1, ca2, cb0, cb1, cb2, cc0, cc1, cc2, cd0, cd1, cd2, cX0, cX1, cX2, cY0, cY1, cY2⟩ := hC; go_simp; first | done | rfl | exact ⟨rfl, rfl⟩); (simp only [Act.put, List.setIfInBounds_toArray, List.set_cons_zero, List.set_cons_succ]); go_big_quiet_on)))
        (go_big_quiet_want; apply Exists.intro; refine ⟨fun w' hC => ?_, ?_⟩; (obtain ⟨cB, ca0, ca1, ca2, cb0, cb1, cb2, cc0, cc1, cc2, cd0, cd1, cd2, cX0, cX1, cX2, cY0, cY1, cY2⟩ := hC; go_simp; go_at_call 21; refine (Mx.instanceOf_impl r x _ _ _ HNR.out (T226.out.kept cB) (T223.out.kept cB)).mono ?_; rintro e w8_ ⟨rfl, hb8⟩; rw [HI2.out]; exact ⟨rfl, cB.trans (hb8.mono cB.size), (hb8.cell (Nat.lt_of_lt_of_le faz cB.size)).trans ca0, (hb8.cell (Nat.lt_of_lt_of_le faz cB.size)).trans ca1, (hb8.cell (Nat.lt_of_lt_of_le faz cB.size)).trans ca2, (hb8.cell (Nat.lt_of_lt_of_le fbz cB.size)).trans cb0, (hb8.cell (Nat.lt_of_lt_of_le fbz cB.size)).trans cb1, (hb8.cell (Nat.lt_of_lt_of_le fbz cB.size)).trans cb2, (hb8.cell (Nat.lt_of_lt_of_le fcz cB.size)).trans cc0, (hb8.cell (Nat.lt_of_lt_of_le fcz cB.size)).trans cc1, (hb8.cell (Nat.lt_of_lt_of_le fcz cB.size)).trans cc2, (hb8.cell (Nat.lt_of_lt_of_le fdz cB.size)).trans cd0, (hb8.cell (Nat.lt_of_lt_of_le fdz cB.size)).trans cd1, (hb8.cell (Nat.lt_of_lt_of_le fdz cB.size)).trans cd2, (hb8.cell (Nat.lt_of_lt_of_le fXz cB.size)).trans cX0, (hb8.cell (Nat.lt_of_lt_of_le fXz cB.size)).trans cX1, (hb8.cell (Nat.lt_of_lt_of_le fXz cB.size)).trans cX2, (hb8.cell (Nat.lt_of_lt_of_le fYz cB.size)).trans cY0, (hb8.cell (Nat.lt_of_lt_of_le fYz cB.size)).trans cY1, (hb8.cell (Nat.lt_of_lt_of_le fYz cB.size)).trans cY2⟩); (simp only [Act.put, List.setIfInBounds_toArray, List.set_cons_zero, List.set_cons_succ]); go_big_quiet_on)
        iterate 4 (first | go_big_quiet_skip | (go_big_quiet_want; first | (go_big_quiet_op; go_big_quiet_on) | (apply Exists.intro; refine ⟨fun w' hC => ?_, ?_⟩; (obtain ⟨cB, ca0, ca1, ca2, cb0, cb1, cb2, cc0, cc1, cc2, cd0, cd1, cd2, cX0, cX1, cX2, cY0, cY1, cY2⟩ := hC; go_simp; first | done | rfl | exact ⟨rfl, rfl⟩); (simp only [Act.put, List.setIfInBounds_toArray, List.set_cons_zero, List.set_cons_succ]); go_big_quiet_on)))
        go_big_quiet_skip
        iterate 5 (first | go_big_quiet_skip | (go_big_quiet_want; first | (go_big_quiet_op; go_big_quiet_on) | (apply Exists.intro; refine ⟨fun w' hC => ?_, ?_⟩; (obtain ⟨cB, ca0, ca1, ca2, cb0, cb1, cb2, cc0, cc1, cc2, cd0, cd1, cd2, cX0, cX1, cX2, cY0, cY1, cY2⟩ := hC; go_simp; first | done | rfl | exact ⟨rfl, rfl⟩); (simp only [Act.put, List.setIfInBounds_toArray, List.set_cons_zero, List.set_cons_succ]); go_big_quiet_on)))
        (go_big_quiet_want; apply Exists.intro; refine ⟨fun w' hC => ?_, ?_⟩; (obtain ⟨cB, ca0, ca1, ca2, cb0, cb1, cb2, cc0, cc1, cc2, cd0, cd1, cd2, cX0, cX1, cX2, cY0, cY1, cY2⟩ := hC; go_simp; go_at_call 21; refine (Mx.instanceOf_impl y x _ _ _ HNY.out (T224.out.kept cB) (T223.out.kept cB)).mono ?_; rintro e w8_ ⟨rfl, hb8⟩; rw [HBK.out]; exact ⟨rfl, cB.trans (hb8.mono cB.size), (hb8.cell (Nat.lt_of_lt_of_le faz cB.size)).trans ca0, (hb8.cell (Nat.lt_of_lt_of_le faz cB.size)).trans ca1, (hb8.cell (Nat.lt_of_lt_of_le faz cB.size)).trans ca2, (hb8.cell (Nat.lt_of_lt_of_le fbz cB.size)).trans cb0, (hb8.cell (Nat.lt_of_lt_of_le fbz cB.size)).trans cb1, (hb8.cell (Nat.lt_of_lt_of_le fbz cB.size)).trans cb2, (hb8.cell (Nat.lt_of_lt_of_le fcz cB.size)).trans cc0, (hb8.cell (Nat.lt_of_lt_of_le fcz cB.size)).trans cc1, (hb8.cell (Nat.lt_of_lt_of_le fcz cB.size)).trans cc2, (hb8.cell (Nat.lt_of_lt_of_le fdz cB.size)).trans cd0, (hb8.cell (Nat.lt_of_lt_of_le fdz cB.size)).trans cd1, (hb8.cell (Nat.lt_of_lt_of_le fdz cB.size)).trans cd2, (hb8.cell (Nat.lt_of_lt_of_le fXz cB.size)).trans cX0, (hb8.cell (Nat.lt_of_lt_of_le fXz cB.size)).trans cX1, (hb8.cell (Nat.lt_of_lt_of_le fXz cB.size)).trans cX2, (hb8.cell (Nat.lt_of_lt_of_le fYz cB.size)).trans cY0, (hb8.cell (Nat.lt_of_lt_of_le fYz cB.size)).trans cY1, (hb8.cell (Nat.lt_of_lt_of_le fYz cB.size)).trans cY2⟩); (simp only [Act.put, List.setIfInBounds_toArray, List.set_cons_zero, List.set_cons_succ]); go_big_quiet_on)
        iterate 2 (first | go_big_quiet_skip | (go_big_quiet_want; first | (go_big_quiet_op; go_big_quiet_on) | (apply Exists.intro; refine ⟨fun w' hC => ?_, ?_⟩; (obtain ⟨cB, ca0, ca1, ca2, cb0, cb1, cb2, cc0, cc1, cc2, cd0, cd1, cd2, cX0, cX1, cX2, cY0, cY1, cY2⟩ := hC; go_simp; first | done | rfl | exact ⟨rfl, rfl⟩); (simp only [Act.put, List.setIfInBounds_toArray, List.set_cons_zero, List.set_cons_succ]); go_big_quiet_on)))
        (go_big_quiet_want; apply Exists.intro; refine ⟨fun w' hC => ?_, ?_⟩; (obtain ⟨cB, ca0, ca1, ca2, cb0, cb1, cb2, cc0, cc1, cc2, cd0, cd1, cd2, cX0, cX1, cX2, cY0, cY1, cY2⟩ := hC; go_simp; go_at_call 17; refine (typeSame_impl T1 T2 0 _ _ _ HNT1.out (T227.out.kept cB) (T228.out.kept cB)).mono ?_; rintro e w8_ ⟨rfl, hb8⟩; rw [HSB.out]; exact ⟨rfl, cB.trans (hb8.mono cB.size), (hb8.cell (Nat.lt_of_lt_of_le faz cB.size)).trans ca0, (hb8.cell (Nat.lt_of_lt_of_le faz cB.size)).trans ca1, (hb8.cell (Nat.lt_of_lt_of_le faz cB.size)).trans ca2, (hb8.cell (Nat.lt_of_lt_of_le fbz cB.size)).trans cb0, (hb8.cell (Nat.lt_of_lt_of_le fbz cB.size)).trans cb1, (hb8.cell (Nat.lt_of_lt_of_le fbz cB.size)).trans cb2, (hb8.cell (Nat.lt_of_lt_of_le fcz cB.size)).trans cc0, (hb8.cell (Nat.lt_of_lt_of_le fcz cB.size)).trans cc1, (hb8.cell (Nat.lt_of_lt_of_le fcz cB.size)).trans cc2, (hb8.cell (Nat.lt_of_lt_of_le fdz cB.size)).trans cd0, (hb8.cell (Nat.lt_of_lt_of_le fdz cB.size)).trans cd1, (hb8.cell (Nat.lt_of_lt_of_le fdz cB.size)).trans cd2, (hb8.cell (Nat.lt_of_lt_of_le fXz cB.size)).trans cX0, (hb8.cell (Nat.lt_of_lt_of_le fXz cB.size)).trans cX1, (hb8.cell (Nat.lt_of_lt_of_le fXz cB.size)).trans cX2, (hb8.cell (Nat.lt_of_lt_of_le fYz cB.size)).trans cY0, (hb8.cell (Nat.lt_of_lt_of_le fYz cB.size)).trans cY1, (hb8.cell (Nat.lt_of_lt_of_le fYz cB.size)).trans cY2⟩); (simp only [Act.put, List.setIfInBounds_toArray, List.set_cons_zero, List.set_cons_succ]); go_big_quiet_on)
        repeat (first | go_big_quiet_skip | (go_big_quiet_want; first | (go_big_quiet_op; go_big_quiet_on) | (apply Exists.intro; refine ⟨fun w' hC => ?_, ?_⟩; (obtain ⟨cB, ca0, ca1, ca2, cb0, cb1, cb2, cc0, cc1, cc2, cd0, cd1, cd2, cX0, cX1, cX2, cY0, cY1, cY2⟩ := hC; go_simp; first | done | rfl | exact ⟨rfl, rfl⟩); (simp only [Act.put, List.setIfInBounds_toArray, List.set_cons_zero, List.set_cons_succ]); go_big_quiet_on)))
        refine wpQuiet_nil ?_
        intro w9_ hC
        have HB9 := Lib.hid hC.1
        clear hC
        go_wp2_with fail
        go_ret
        exact ⟨by first | rfl | exact congrArg Ending.returned (congrArg Value.bool (by simp)), H230.out.trans (HB9.out.mono H230.out.size)⟩
      · skip
        have HT2b := Lib.hid (HT2.out rfl)
        clear bf231 bg231 bh231 bz231 bf232 bg232 bh232 bz232 bf233 bg233 bh233 bz233 bf234 bg234 bh234 bz234 bf235 bg235 bh235 bz235 bf236 bg236 bh236 bz236
        obtain ⟨fa0, fa1, fa2, faz⟩ := B218.out
        obtain ⟨fb0, fb1, fb2, fbz⟩ := B219.out
        obtain ⟨fc0, fc1, fc2, fcz⟩ := B220.out
        obtain ⟨fd0, fd1, fd2, fdz⟩ := B221.out
        obtain ⟨fX0, fX1, fX2, fXz⟩ := B222.out
        obtain ⟨fY0, fY1, fY2, fYz⟩ := B215n.out
        go_wp2_with fail
        have cD : Below W11.heap.size W11 W11.drew := (Below.refl _ _).drew
        refine wp_region_quiet_litC (C := fun w' => Below W11.heap.size W11 w' ∧ w'.cell? ⟨E, 0, none⟩ = some (.int .i64 x.k) ∧ w'.cell? ⟨E, 1, none⟩ = some (.int .i64 x.n) ∧ w'.cell? ⟨E, 2, none⟩ = some (.slice ax x.ks.length cx) ∧ w'.cell? ⟨(E + 1), 0, none⟩ = some (.int .i64 y.k) ∧ w'.cell? ⟨(E + 1), 1, none⟩ = some (.int .i64 y.n) ∧ w'.cell? ⟨(E + 1), 2, none⟩ = some (.slice ay y.ks.length cy) ∧ w'.cell? ⟨w5.heap.size, 0, none⟩ = some (.int .i64 p.k) ∧ w'.cell? ⟨w5.heap.size, 1, none⟩ = some (.int .i64 p.n) ∧ w'.cell? ⟨w5.heap.size, 2, none⟩ = some (.slice ap p.ks.length cp) ∧ w'.cell? ⟨W6.heap.size, 0, none⟩ = some (.int .i64 r.k) ∧ w'.cell? ⟨W6.heap.size, 1, none⟩ = some (.int .i64 r.n) ∧ w'.cell? ⟨W6.heap.size, 2, none⟩ = some (.slice ar r.ks.length cr) ∧ w'.cell? ⟨w8.heap.size, 0, none⟩ = some (.int .i64 T1.k) ∧ w'.cell? ⟨w8.heap.size, 1, none⟩ = some (.int .i64 T1.n) ∧ w'.cell? ⟨w8.heap.size, 2, none⟩ = some (.slice aX T1.ks.length kX) ∧ w'.cell? ⟨w10.heap.size, 0, none⟩ = some (.int .i64 T2.k) ∧ w'.cell? ⟨w10.heap.size, 1, none⟩ = some (.int .i64 T2.n) ∧ w'.cell? ⟨w10.heap.size, 2, none⟩ = some (.slice aY T2.ks.length kY)) (by kernel_rfl) (by kernel_rfl) ⟨cD, (cD.cell faz).trans fa0, (cD.cell faz).trans fa1, (cD.cell faz).trans fa2, (cD.cell fbz).trans fb0, (cD.cell fbz).trans fb1, (cD.cell fbz).trans fb2, (cD.cell fcz).trans fc0, (cD.cell fcz).trans fc1, (cD.cell fcz).trans fc2, (cD.cell fdz).trans fd0, (cD.cell fdz).trans fd1, (cD.cell fdz).trans fd2, (cD.cell fXz).trans fX0, (cD.cell fXz).trans fX1, (cD.cell fXz).trans fX2, (cD.cell fYz).trans fY0, (cD.cell fYz).trans fY1, (cD.cell fYz).trans fY2⟩ ?_
        iterate 2 (first | go_big_quiet_skip | (go_big_quiet_want; first | (go_big_quiet_op; go_big_quiet_on) | (apply Exists.intro; refine ⟨fun w' hC => ?_, ?_⟩; (obtain ⟨cB, ca0, ca1, ca2, cb0, cb1, cb2, cc0, cc1, cc2, cd0, cd1, cd2, cX0, cX1, cX2, cY0, cY1, cY2⟩ := hC; go_simp; first | done | rfl | exact ⟨rfl, rfl⟩); (simp only [Act.put, List.setIfInBounds_toArray, List.set_cons_zero, List.set_cons_succ]); go_big_quiet_on)))
        (go_big_quiet_want; apply Exists.intro; refine ⟨fun w' hC => ?_, ?_⟩; (obtain ⟨cB, ca0, ca1, ca2, cb0, cb1, cb2, cc0, cc1, cc2, cd0, cd1, cd2, cX0, cX1, cX2, cY0, cY1, cY2⟩ := hC; go_simp; go_at_call 21; refine (Mx.instanceOf_impl y p _ _ _ HNY.out (T224.out.kept cB) (T225.out.kept cB)).mono ?_; rintro e w8_ ⟨rfl, hb8⟩; rw [HI1.out]; exact ⟨rfl, cB.trans (hb8.mono cB.size), (hb8.cell (Nat.lt_of_lt_of_le faz cB.size)).trans ca0, (hb8.cell (Nat.lt_of_lt_of_le faz cB.size)).trans ca1, (hb8.cell (Nat.lt_of_lt_of_le faz cB.size)).trans ca2, (hb8.cell (Nat.lt_of_lt_of_le fbz cB.size)).trans cb0, (hb8.cell (Nat.lt_of_lt_of_le fbz cB.size)).trans cb1, (hb8.cell (Nat.lt_of_lt_of_le fbz cB.size)).trans cb2, (hb8.cell (Nat.lt_of_lt_of_le fcz cB.size)).trans cc0, (hb8.cell (Nat.lt_of_lt_of_le fcz cB.size)).trans cc1, (hb8.cell (Nat.lt_of_lt_of_le fcz cB.size)).trans cc2, (hb8.cell (Nat.lt_of_lt_of_le fdz cB.size)).trans cd0, (hb8.cell (Nat.lt_of_lt_of_le fdz cB.size)).trans cd1, (hb8.cell (Nat.lt_of_lt_of_le fdz cB.size)).trans cd2, (hb8.cell (Nat.lt_of_lt_of_le fXz cB.size)).trans cX0, (hb8.cell (Nat.lt_of_lt_of_le fXz cB.size)).trans cX1, (hb8.cell (Nat.lt_of_lt_of_le fXz cB.size)).trans cX2, (hb8.cell (Nat.lt_of_lt_of_le fYz cB.size)).trans cY0, (hb8.cell (Nat.lt_of_lt_of_le fYz cB.size)).trans cY1, (hb8.cell (Nat.lt_of_lt_of_le fYz cB.size)).trans cY2⟩); (simp only [Act.put, List.setIfInBounds_toArray, List.set_cons_zero, List.set_cons_succ]); go_big_quiet_on)
        iterate 4 (first | go_big_quiet_skip | (go_big_quiet_want; first | (go_big_quiet_op; go_big_quiet_on) | (apply Exists.intro; refine ⟨fun w' hC => ?_, ?_⟩; (obtain ⟨cB, ca0, ca1, ca2, cb0, cb1, cb2, cc0, cc1, cc2, cd0, cd1, cd2, cX0, cX1, cX2, cY0, cY1, cY2⟩ := hC; go_simp; first | done | rfl | exact ⟨rfl, rfl⟩); (simp only [Act.put, List.setIfInBounds_toArray, List.set_cons_zero, List.set_cons_succ]); go_big_quiet_on)))
        go_big_quiet_skip
        iterate 4 (first | go_big_quiet_skip | (go_big_quiet_want; first | (go_big_quiet_op; go_big_quiet_on) | (apply Exists.intro; refine ⟨fun w' hC => ?_, ?_⟩; (obtain ⟨cB, ca0, ca1, ca2, cb0, cb1, cb2, cc0, cc1, cc2, cd0, cd1, cd2, cX0, cX1, cX2, cY0, cY1, cY2⟩ := hC; go_simp; first | done | rfl | exact ⟨rfl, rfl⟩); (simp only [Act.put, List.setIfInBounds_toArray, List.set_cons_zero, List.set_cons_succ]); go_big_quiet_on)))
        (go_big_quiet_want; apply Exists.intro; refine ⟨fun w' hC => ?_, ?_⟩; (obtain ⟨cB, ca0, ca1, ca2, cb0, cb1, cb2, cc0, cc1, cc2, cd0, cd1, cd2, cX0, cX1, cX2, cY0, cY1, cY2⟩ := hC; go_simp; go_at_call 21; refine (Mx.instanceOf_impl r x _ _ _ HNR.out (T226.out.kept cB) (T223.out.kept cB)).mono ?_; rintro e w8_ ⟨rfl, hb8⟩; rw [HI2.out]; exact ⟨rfl, cB.trans (hb8.mono cB.size), (hb8.cell (Nat.lt_of_lt_of_le faz cB.size)).trans ca0, (hb8.cell (Nat.lt_of_lt_of_le faz cB.size)).trans ca1, (hb8.cell (Nat.lt_of_lt_of_le faz cB.size)).trans ca2, (hb8.cell (Nat.lt_of_lt_of_le fbz cB.size)).trans cb0, (hb8.cell (Nat.lt_of_lt_of_le fbz cB.size)).trans cb1, (hb8.cell (Nat.lt_of_lt_of_le fbz cB.size)).trans cb2, (hb8.cell (Nat.lt_of_lt_of_le fcz cB.size)).trans cc0, (hb8.cell (Nat.lt_of_lt_of_le fcz cB.size)).trans cc1, (hb8.cell (Nat.lt_of_lt_of_le fcz cB.size)).trans cc2, (hb8.cell (Nat.lt_of_lt_of_le fdz cB.size)).trans cd0, (hb8.cell (Nat.lt_of_lt_of_le fdz cB.size)).trans cd1, (hb8.cell (Nat.lt_of_lt_of_le fdz cB.size)).trans cd2, (hb8.cell (Nat.lt_of_lt_of_le fXz cB.size)).trans cX0, (hb8.cell (Nat.lt_of_lt_of_le fXz cB.size)).trans cX1, (hb8.cell (Nat.lt_of_lt_of_le fXz cB.size)).trans cX2, (hb8.cell (Nat.lt_of_lt_of_le fYz cB.size)).trans cY0, (hb8.cell (Nat.lt_of_lt_of_le fYz cB.size)).trans cY1, (hb8.cell (Nat.lt_of_lt_of_le fYz cB.size)).trans cY2⟩); (simp only [Act.put, List.setIfInBounds_toArray, List.set_cons_zero, List.set_cons_succ]); go_big_quiet_on)
        iterate 4 (first | go_big_quiet_skip | (go_big_quiet_want; first | (go_big_quiet_op; go_big_quiet_on) | (apply Exists.intro; refine ⟨fun w' hC => ?_, ?_⟩; (obtain ⟨cB, ca0, ca1, ca2, cb0, cb1, cb2, cc0, cc1, cc2, cd0, cd1, cd2, cX0, cX1, cX2, cY0, cY1, cY2⟩ := hC; go_simp; first | done | rfl | exact ⟨rfl, rfl⟩); (simp only [Act.put, List.setIfInBounds_toArray, List.set_cons_zero, List.set_cons_succ]); go_big_quiet_on)))
        (go_big_quiet_want; apply Exists.intro; refine ⟨fun w' hC => ?_, ?_⟩; (obtain ⟨cB, ca0, ca1, ca2, cb0, cb1, cb2, cc0, cc1, cc2, cd0, cd1, cd2, cX0, cX1, cX2, cY0, cY1, cY2⟩ := hC; go_simp; go_at_call 21; refine (Mx.instanceOf_impl r y _ _ _ HNR.out (T226.out.kept cB) (T224.out.kept cB)).mono ?_; rintro e w8_ ⟨rfl, hb8⟩; rw [HT2b.out]; exact ⟨rfl, cB.trans (hb8.mono cB.size), (hb8.cell (Nat.lt_of_lt_of_le faz cB.size)).trans ca0, (hb8.cell (Nat.lt_of_lt_of_le faz cB.size)).trans ca1, (hb8.cell (Nat.lt_of_lt_of_le faz cB.size)).trans ca2, (hb8.cell (Nat.lt_of_lt_of_le fbz cB.size)).trans cb0, (hb8.cell (Nat.lt_of_lt_of_le fbz cB.size)).trans cb1, (hb8.cell (Nat.lt_of_lt_of_le fbz cB.size)).trans cb2, (hb8.cell (Nat.lt_of_lt_of_le fcz cB.size)).trans cc0, (hb8.cell (Nat.lt_of_lt_of_le fcz cB.size)).trans cc1, (hb8.cell (Nat.lt_of_lt_of_le fcz cB.size)).trans cc2, (hb8.cell (Nat.lt_of_lt_of_le fdz cB.size)).trans cd0, (hb8.cell (Nat.lt_of_lt_of_le fdz cB.size)).trans cd1, (hb8.cell (Nat.lt_of_lt_of_le fdz cB.size)).trans cd2, (hb8.cell (Nat.lt_of_lt_of_le fXz cB.size)).trans cX0, (hb8.cell (Nat.lt_of_lt_of_le fXz cB.size)).trans cX1, (hb8.cell (Nat.lt_of_lt_of_le fXz cB.size)).trans cX2, (hb8.cell (Nat.lt_of_lt_of_le fYz cB.size)).trans cY0, (hb8.cell (Nat.lt_of_lt_of_le fYz cB.size)).trans cY1, (hb8.cell (Nat.lt_of_lt_of_le fYz cB.size)).trans cY2⟩); (simp only [Act.put, List.setIfInBounds_toArray, List.set_cons_zero, List.set_cons_succ]); go_big_quiet_on)
        iterate 5 (first | go_big_quiet_skip | (go_big_quiet_want; first | (go_big_quiet_op; go_big_quiet_on) | (apply Exists.intro; refine ⟨fun w' hC => ?_, ?_⟩; (obtain ⟨cB, ca0, ca1, ca2, cb0, cb1, cb2, cc0, cc1, cc2, cd0, cd1, cd2, cX0, cX1, cX2, cY0, cY1, cY2⟩ := hC; go_simp; first | done | rfl | exact ⟨rfl, rfl⟩); (simp only [Act.put, List.setIfInBounds_toArray, List.set_cons_zero, List.set_cons_succ]); go_big_quiet_on)))
        (go_big_quiet_want; apply Exists.intro; refine ⟨fun w' hC => ?_, ?_⟩; (obtain ⟨cB, ca0, ca1, ca2, cb0, cb1, cb2, cc0, cc1, cc2, cd0, cd1, cd2, cX0, cX1, cX2, cY0, cY1, cY2⟩ := hC; go_simp; go_at_call 21; refine (Mx.instanceOf_impl y x _ _ _ HNY.out (T224.out.kept cB) (T223.out.kept cB)).mono ?_; rintro e w8_ ⟨rfl, hb8⟩; rw [HBK.out]; exact ⟨rfl, cB.trans (hb8.mono cB.size), (hb8.cell (Nat.lt_of_lt_of_le faz cB.size)).trans ca0, (hb8.cell (Nat.lt_of_lt_of_le faz cB.size)).trans ca1, (hb8.cell (Nat.lt_of_lt_of_le faz cB.size)).trans ca2, (hb8.cell (Nat.lt_of_lt_of_le fbz cB.size)).trans cb0, (hb8.cell (Nat.lt_of_lt_of_le fbz cB.size)).trans cb1, (hb8.cell (Nat.lt_of_lt_of_le fbz cB.size)).trans cb2, (hb8.cell (Nat.lt_of_lt_of_le fcz cB.size)).trans cc0, (hb8.cell (Nat.lt_of_lt_of_le fcz cB.size)).trans cc1, (hb8.cell (Nat.lt_of_lt_of_le fcz cB.size)).trans cc2, (hb8.cell (Nat.lt_of_lt_of_le fdz cB.size)).trans cd0, (hb8.cell (Nat.lt_of_lt_of_le fdz cB.size)).trans cd1, (hb8.cell (Nat.lt_of_lt_of_le fdz cB.size)).trans cd2, (hb8.cell (Nat.lt_of_lt_of_le fXz cB.size)).trans cX0, (hb8.cell (Nat.lt_of_lt_of_le fXz cB.size)).trans cX1, (hb8.cell (Nat.lt_of_lt_of_le fXz cB.size)).trans cX2, (hb8.cell (Nat.lt_of_lt_of_le fYz cB.size)).trans cY0, (hb8.cell (Nat.lt_of_lt_of_le fYz cB.size)).trans cY1, (hb8.cell (Nat.lt_of_lt_of_le fYz cB.size)).trans cY2⟩); (simp only [Act.put, List.setIfInBounds_toArray, List.set_cons_zero, List.set_cons_succ]); go_big_quiet_on)
        iterate 2 (first | go_big_quiet_skip | (go_big_quiet_want; first | (go_big_quiet_op; go_big_quiet_on) | (apply Exists.intro; refine ⟨fun w' hC => ?_, ?_⟩; (obtain ⟨cB, ca0, ca1, ca2, cb0, cb1, cb2, cc0, cc1, cc2, cd0, cd1, cd2, cX0, cX1, cX2, cY0, cY1, cY2⟩ := hC; go_simp; first | done | rfl | exact ⟨rfl, rfl⟩); (simp only [Act.put, List.setIfInBounds_toArray, List.set_cons_zero, List.set_cons_succ]); go_big_quiet_on)))
        (go_big_quiet_want; apply Exists.intro; refine ⟨fun w' hC => ?_, ?_⟩; (obtain ⟨cB, ca0, ca1, ca2, cb0, cb1, cb2, cc0, cc1, cc2, cd0, cd1, cd2, cX0, cX1, cX2, cY0, cY1, cY2⟩ := hC; go_simp; go_at_call 17; refine (typeSame_impl T1 T2 0 _ _ _ HNT1.out (T227.out.kept cB) (T228.out.kept cB)).mono ?_; rintro e w8_ ⟨rfl, hb8⟩; rw [HSB.out]; exact ⟨rfl, cB.trans (hb8.mono cB.size), (hb8.cell (Nat.lt_of_lt_of_le faz cB.size)).trans ca0, (hb8.cell (Nat.lt_of_lt_of_le faz cB.size)).trans ca1, (hb8.cell (Nat.lt_of_lt_of_le faz cB.size)).trans ca2, (hb8.cell (Nat.lt_of_lt_of_le fbz cB.size)).trans cb0, (hb8.cell (Nat.lt_of_lt_of_le fbz cB.size)).trans cb1, (hb8.cell (Nat.lt_of_lt_of_le fbz cB.size)).trans cb2, (hb8.cell (Nat.lt_of_lt_of_le fcz cB.size)).trans cc0, (hb8.cell (Nat.lt_of_lt_of_le fcz cB.size)).trans cc1, (hb8.cell (Nat.lt_of_lt_of_le fcz cB.size)).trans cc2, (hb8.cell (Nat.lt_of_lt_of_le fdz cB.size)).trans cd0, (hb8.cell (Nat.lt_of_lt_of_le fdz cB.size)).trans cd1, (hb8.cell (Nat.lt_of_lt_of_le fdz cB.size)).trans cd2, (hb8.cell (Nat.lt_of_lt_of_le fXz cB.size)).trans cX0, (hb8.cell (Nat.lt_of_lt_of_le fXz cB.size)).trans cX1, (hb8.cell (Nat.lt_of_lt_of_le fXz cB.size)).trans cX2, (hb8.cell (Nat.lt_of_lt_of_le fYz cB.size)).trans cY0, (hb8.cell (Nat.lt_of_lt_of_le fYz cB.size)).trans cY1, (hb8.cell (Nat.lt_of_lt_of_le fYz cB.size)).trans cY2⟩); (simp only [Act.put, List.setIfInBounds_toArray, List.set_cons_zero, List.set_cons_succ]); go_big_quiet_on)
        repeat (first | go_big_quiet_skip | (go_big_quiet_want; first | (go_big_quiet_op; go_big_quiet_on) | (apply Exists.intro; refine ⟨fun w' hC => ?_, ?_⟩; (obtain ⟨cB, ca0, ca1, ca2, cb0, cb1, cb2, cc0, cc1, cc2, cd0, cd1, cd2, cX0, cX1, cX2, cY0, cY1, cY2⟩ := hC; go_simp; first | done | rfl | exact ⟨rfl, rfl⟩); (simp only [Act.put, List.setIfInBounds_toArray, List.set_cons_zero, List.set_cons_succ]); go_big_quiet_on)))
        refine wpQuiet_nil ?_
        intro w9_ hC
        have HB9 := Lib.hid hC.1
        clear hC
        go_wp2_with fail
        go_ret
        exact ⟨by first | rfl | exact congrArg Ending.returned (congrArg Value.bool (by simp)), H230.out.trans (HB9.out.mono H230.out.size)⟩
    · skip
      rcases i2 with _ | _
      · skip
        have HT1b := Lib.hid (HT1.out rfl)
        clear bf231 bg231 bh231 bz231 bf232 bg232 bh232 bz232 bf233 bg233 bh233 bz233 bf234 bg234 bh234 bz234 bf235 bg235 bh235 bz235 bf236 bg236 bh236 bz236
        obtain ⟨fa0, fa1, fa2, faz⟩ := B218.out
        obtain ⟨fb0, fb1, fb2, fbz⟩ := B219.out
        obtain ⟨fc0, fc1, fc2, fcz⟩ := B220.out
        obtain ⟨fd0, fd1, fd2, fdz⟩ := B221.out
        obtain ⟨fX0, fX1, fX2, fXz⟩ := B222.out
        obtain ⟨fY0, fY1, fY2, fYz⟩ := B215n.out
        go_wp2_with fail
        have cD : Below W11.heap.size W11 W11.drew := (Below.refl _ _).drew
        refine wp_region_quiet_litC (C := fun w' => Below W11.heap.size W11 w' ∧ w'.cell? ⟨E, 0, none⟩ = some (.int .i64 x.k) ∧ w'.cell? ⟨E, 1, none⟩ = some (.int .i64 x.n) ∧ w'.cell? ⟨E, 2, none⟩ = some (.slice ax x.ks.length cx) ∧ w'.cell? ⟨(E + 1), 0, none⟩ = some (.int .i64 y.k) ∧ w'.cell? ⟨(E + 1), 1, none⟩ = some (.int .i64 y.n) ∧ w'.cell? ⟨(E + 1), 2, none⟩ = some (.slice ay y.ks.length cy) ∧ w'.cell? ⟨w5.heap.size, 0, none⟩ = some (.int .i64 p.k) ∧ w'.cell? ⟨w5.heap.size, 1, none⟩ = some (.int .i64 p.n) ∧ w'.cell? ⟨w5.heap.size, 2, none⟩ = some (.slice ap p.ks.length cp) ∧ w'.cell? ⟨W6.heap.size, 0, none⟩ = some (.int .i64 r.k) ∧ w'.cell? ⟨W6.heap.size, 1, none⟩ = some (.int .i64 r.n) ∧ w'.cell? ⟨W6.heap.size, 2, none⟩ = some (.slice ar r.ks.length cr) ∧ w'.cell? ⟨w8.heap.size, 0, none⟩ = some (.int .i64 T1.k) ∧ w'.cell? ⟨w8.heap.size, 1, none⟩ = some (.int .i64 T1.n) ∧ w'.cell? ⟨w8.heap.size, 2, none⟩ = some (.slice aX T1.ks.length kX) ∧ w'.cell? ⟨w10.heap.size, 0, none⟩ = some (.int .i64 T2.k) ∧ w'.cell? ⟨w10.heap.size, 1, none⟩ = some (.int .i64 T2.n) ∧ w'.cell? ⟨w10.heap.size, 2, none⟩ = some (.slice aY T2.ks.length kY)) (by kernel_rfl) (by kernel_rfl) ⟨cD, (cD.cell faz).trans fa0, (cD.cell faz).trans fa1, (cD.cell faz).trans fa2, (cD.cell fbz).trans fb0, (cD.cell fbz).trans fb1, (cD.cell fbz).trans fb2, (cD.cell fcz).trans fc0, (cD.cell fcz).trans fc1, (cD.cell fcz).trans fc2, (cD.cell fdz).trans fd0, (cD.cell fdz).trans fd1, (cD.cell fdz).trans fd2, (cD.cell fXz).trans fX0, (cD.cell fXz).trans fX1, (cD.cell fXz).trans fX2, (cD.cell fYz).trans fY0, (cD.cell fYz).trans fY1, (cD.cell fYz).trans fY2⟩ ?_
        iterate 2 (first | go_big_quiet_skip | (go_big_quiet_want; first | (go_big_quiet_op; go_big_quiet_on) | (apply Exists.intro; refine ⟨fun w' hC => ?_, ?_⟩; (obtain ⟨cB, ca0, ca1, ca2, cb0, cb1, cb2, cc0, cc1, cc2, cd0, cd1, cd2, cX0, cX1, cX2, cY0, cY1, cY2⟩ := hC; go_simp; first | done | rfl | exact ⟨rfl, rfl⟩); (simp only [Act.put, List.setIfInBounds_toArray, List.set_cons_zero, List.set_cons_succ]); go_big_quiet_on)))
        (go_big_quiet_want; apply Exists.intro; refine ⟨fun w' hC => ?_, ?_⟩; (obtain ⟨cB, ca0, ca1, ca2, cb0, cb1, cb2, cc0, cc1, cc2, cd0, cd1, cd2, cX0, cX1, cX2, cY0, cY1, cY2⟩ := hC; go_simp; go_at_call 21; refine (Mx.instanceOf_impl y p _ _ _ HNY.out (T224.out.kept cB) (T225.out.kept cB)).mono ?_; rintro e w8_ ⟨rfl, hb8⟩; rw [HI1.out]; exact ⟨rfl, cB.trans (hb8.mono cB.size), (hb8.cell (Nat.lt_of_lt_of_le faz cB.size)).trans ca0, (hb8.cell (Nat.lt_of_lt_of_le faz cB.size)).trans ca1, (hb8.cell (Nat.lt_of_lt_of_le faz cB.size)).trans ca2, (hb8.cell (Nat.lt_of_lt_of_le fbz cB.size)).trans cb0, (hb8.cell (Nat.lt_of_lt_of_le fbz cB.size)).trans cb1, (hb8.cell (Nat.lt_of_lt_of_le fbz cB.size)).trans cb2, (hb8.cell (Nat.lt_of_lt_of_le fcz cB.size)).trans cc0, (hb8.cell (Nat.lt_of_lt_of_le fcz cB.size)).trans cc1, (hb8.cell (Nat.lt_of_lt_of_le fcz cB.size)).trans cc2, (hb8.cell (Nat.lt_of_lt_of_le fdz cB.size)).trans cd0, (hb8.cell (Nat.lt_of_lt_of_le fdz cB.size)).trans cd1, (hb8.cell (Nat.lt_of_lt_of_le fdz cB.size)).trans cd2, (hb8.cell (Nat.lt_of_lt_of_le fXz cB.size)).trans cX0, (hb8.cell (Nat.lt_of_lt_of_le fXz cB.size)).trans cX1, (hb8.cell (Nat.lt_of_lt_of_le fXz cB.size)).trans cX2, (hb8.cell (Nat.lt_of_lt_of_le fYz cB.size)).trans cY0, (hb8.cell (Nat.lt_of_lt_of_le fYz cB.size)).trans cY1, (hb8.cell (Nat.lt_of_lt_of_le fYz cB.size)).trans cY2⟩); (simp only [Act.put, List.setIfInBounds_toArray, List.set_cons_zero, List.set_cons_succ]); go_big_quiet_on)
        iterate 4 (first | go_big_quiet_skip | (go_big_quiet_want; first | (go_big_quiet_op; go_big_quiet_on) | (apply Exists.intro; refine ⟨fun w' hC => ?_, ?_⟩; (obtain ⟨cB, ca0, ca1, ca2, cb0, cb1, cb2, cc0, cc1, cc2, cd0, cd1, cd2, cX0, cX1, cX2, cY0, cY1, cY2⟩ := hC; go_simp; first | done | rfl | exact ⟨rfl, rfl⟩); (simp only [Act.put, List.setIfInBounds_toArray, List.set_cons_zero, List.set_cons_succ]); go_big_quiet_on)))
        (go_big_quiet_want; apply Exists.intro; refine ⟨fun w' hC => ?_, ?_⟩; (obtain ⟨cB, ca0, ca1, ca2, cb0, cb1, cb2, cc0, cc1, cc2, cd0, cd1, cd2, cX0, cX1, cX2, cY0, cY1, cY2⟩ := hC; go_simp; go_at_call 21; refine (Mx.instanceOf_impl x p _ _ _ HNX.out (T223.out.kept cB) (T225.out.kept cB)).mono ?_; rintro e w8_ ⟨rfl, hb8⟩; rw [HT1b.out]; exact ⟨rfl, cB.trans (hb8.mono cB.size), (hb8.cell (Nat.lt_of_lt_of_le faz cB.size)).trans ca0, (hb8.cell (Nat.lt_of_lt_of_le faz cB.size)).trans ca1, (hb8.cell (Nat.lt_of_lt_of_le faz cB.size)).trans ca2, (hb8.cell (Nat.lt_of_lt_of_le fbz cB.size)).trans cb0, (hb8.cell (Nat.lt_of_lt_of_le fbz cB.size)).trans cb1, (hb8.cell (Nat.lt_of_lt_of_le fbz cB.size)).trans cb2, (hb8.cell (Nat.lt_of_lt_of_le fcz cB.size)).trans cc0, (hb8.cell (Nat.lt_of_lt_of_le fcz cB.size)).trans cc1, (hb8.cell (Nat.lt_of_lt_of_le fcz cB.size)).trans cc2, (hb8.cell (Nat.lt_of_lt_of_le fdz cB.size)).trans cd0, (hb8.cell (Nat.lt_of_lt_of_le fdz cB.size)).trans cd1, (hb8.cell (Nat.lt_of_lt_of_le fdz cB.size)).trans cd2, (hb8.cell (Nat.lt_of_lt_of_le fXz cB.size)).trans cX0, (hb8.cell (Nat.lt_of_lt_of_le fXz cB.size)).trans cX1, (hb8.cell (Nat.lt_of_lt_of_le fXz cB.size)).trans cX2, (hb8.cell (Nat.lt_of_lt_of_le fYz cB.size)).trans cY0, (hb8.cell (Nat.lt_of_lt_of_le fYz cB.size)).trans cY1, (hb8.cell (Nat.lt_of_lt_of_le fYz cB.size)).trans cY2⟩); (simp only [Act.put, List.setIfInBounds_toArray, List.set_cons_zero, List.set_cons_succ]); go_big_quiet_on)
        iterate 4 (first | go_big_quiet_skip | (go_big_quiet_want; first | (go_big_quiet_op; go_big_quiet_on) | (apply Exists.intro; refine ⟨fun w' hC => ?_, ?_⟩; (obtain ⟨cB, ca0, ca1, ca2, cb0, cb1, cb2, cc0, cc1, cc2, cd0, cd1, cd2, cX0, cX1, cX2, cY0, cY1, cY2⟩ := hC; go_simp; first | done | rfl | exact ⟨rfl, rfl⟩); (simp only [Act.put, List.setIfInBounds_toArray, List.set_cons_zero, List.set_cons_succ]); go_big_quiet_on)))
        (go_big_quiet_want; apply Exists.intro; refine ⟨fun w' hC => ?_, ?_⟩; (obtain ⟨cB, ca0, ca1, ca2, cb0, cb1, cb2, cc0, cc1, cc2, cd0, cd1, cd2, cX0, cX1, cX2, cY0, cY1, cY2⟩ := hC; go_simp; go_at_call 21; refine (Mx.instanceOf_impl r x _ _ _ HNR.out (T226.out.kept cB) (T223.out.kept cB)).mono ?_; rintro e w8_ ⟨rfl, hb8⟩; rw [HI2.out]; exact ⟨rfl, cB.trans (hb8.mono cB.size), (hb8.cell (Nat.lt_of_lt_of_le faz cB.size)).trans ca0, (hb8.cell (Nat.lt_of_lt_of_le faz cB.size)).trans ca1, (hb8.cell (Nat.lt_of_lt_of_le faz cB.size)).trans ca2, (hb8.cell (Nat.lt_of_lt_of_le fbz cB.size)).trans cb0, (hb8.cell (Nat.lt_of_lt_of_le fbz cB.size)).trans cb1, (hb8.cell (Nat.lt_of_lt_of_le fbz cB.size)).trans cb2, (hb8.cell (Nat.lt_of_lt_of_le fcz cB.size)).trans cc0, (hb8.cell (Nat.lt_of_lt_of_le fcz cB.size)).trans cc1, (hb8.cell (Nat.lt_of_lt_of_le fcz cB.size)).trans cc2, (hb8.cell (Nat.lt_of_lt_of_le fdz cB.size)).trans cd0, (hb8.cell (Nat.lt_of_lt_of_le fdz cB.size)).trans cd1, (hb8.cell (Nat.lt_of_lt_of_le fdz cB.size)).trans cd2, (hb8.cell (Nat.lt_of_lt_of_le fXz cB.size)).trans cX0, (hb8.cell (Nat.lt_of_lt_of_le fXz cB.size)).trans cX1, (hb8.cell (Nat.lt_of_lt_of_le fXz cB.size)).trans cX2, (hb8.cell (Nat.lt_of_lt_of_le fYz cB.size)).trans cY0, (hb8.cell (Nat.lt_of_lt_of_le fYz cB.size)).trans cY1, (hb8.cell (Nat.lt_of_lt_of_le fYz cB.size)).trans cY2⟩); (simp only [Act.put, List.setIfInBounds_toArray, List.set_cons_zero, List.set_cons_succ]); go_big_quiet_on)
        iterate 4 (first | go_big_quiet_skip | (go_big_quiet_want; first | (go_big_quiet_op; go_big_quiet_on) | (apply Exists.intro; refine ⟨fun w' hC => ?_, ?_⟩; (obtain ⟨cB, ca0, ca1, ca2, cb0, cb1, cb2, cc0, cc1, cc2, cd0, cd1, cd2, cX0, cX1, cX2, cY0, cY1, cY2⟩ := hC; go_simp; first | done | rfl | exact ⟨rfl, rfl⟩); (simp only [Act.put, List.setIfInBounds_toArray, List.set_cons_zero, List.set_cons_succ]); go_big_quiet_on)))
        go_big_quiet_skip
        iterate 5 (first | go_big_quiet_skip | (go_big_quiet_want; first | (go_big_quiet_op; go_big_quiet_on) | (apply Exists.intro; refine ⟨fun w' hC => ?_, ?_⟩; (obtain ⟨cB, ca0, ca1, ca2, cb0, cb1, cb2, cc0, cc1, cc2, cd0, cd1, cd2, cX0, cX1, cX2, cY0, cY1, cY2⟩ := hC; go_simp; first | done | rfl | exact ⟨rfl, rfl⟩); (simp only [Act.put, List.setIfInBounds_toArray, List.set_cons_zero, List.set_cons_succ]); go_big_quiet_on)))
        (go_big_quiet_want; apply Exists.intro; refine ⟨fun w' hC => ?_, ?_⟩; (obtain ⟨cB, ca0, ca1, ca2, cb0, cb1, cb2, cc0, cc1, cc2, cd0, cd1, cd2, cX0, cX1, cX2, cY0, cY1, cY2⟩ := hC; go_simp; go_at_call 21; refine (Mx.instanceOf_impl y x _ _ _ HNY.out (T224.out.kept cB) (T223.out.kept cB)).mono ?_; rintro e w8_ ⟨rfl, hb8⟩; rw [HBK.out]; exact ⟨rfl, cB.trans (hb8.mono cB.size), (hb8.cell (Nat.lt_of_lt_of_le faz cB.size)).trans ca0, (hb8.cell (Nat.lt_of_lt_of_le faz cB.size)).trans ca1, (hb8.cell (Nat.lt_of_lt_of_le faz cB.size)).trans ca2, (hb8.cell (Nat.lt_of_lt_of_le fbz cB.size)).trans cb0, (hb8.cell (Nat.lt_of_lt_of_le fbz cB.size)).trans cb1, (hb8.cell (Nat.lt_of_lt_of_le fbz cB.size)).trans cb2, (hb8.cell (Nat.lt_of_lt_of_le fcz cB.size)).trans cc0, (hb8.cell (Nat.lt_of_lt_of_le fcz cB.size)).trans cc1, (hb8.cell (Nat.lt_of_lt_of_le fcz cB.size)).trans cc2, (hb8.cell (Nat.lt_of_lt_of_le fdz cB.size)).trans cd0, (hb8.cell (Nat.lt_of_lt_of_le fdz cB.size)).trans cd1, (hb8.cell (Nat.lt_of_lt_of_le fdz cB.size)).trans cd2, (hb8.cell (Nat.lt_of_lt_of_le fXz cB.size)).trans cX0, (hb8.cell (Nat.lt_of_lt_of_le fXz cB.size)).trans cX1, (hb8.cell (Nat.lt_of_lt_of_le fXz cB.size)).trans cX2, (hb8.cell (Nat.lt_of_lt_of_le fYz cB.size)).trans cY0, (hb8.cell (Nat.lt_of_lt_of_le fYz cB.size)).trans cY1, (hb8.cell (Nat.lt_of_lt_of_le fYz cB.size)).trans cY2⟩); (simp only [Act.put, List.setIfInBounds_toArray, List.set_cons_zero, List.set_cons_succ]); go_big_quiet_on)
        iterate 2 (first | go_big_quiet_skip | (go_big_quiet_want; first | (go_big_quiet_op; go_big_quiet_on) | (apply Exists.intro; refine ⟨fun w' hC => ?_, ?_⟩; (obtain ⟨cB, ca0, ca1, ca2, cb0, cb1, cb2, cc0, cc1, cc2, cd0, cd1, cd2, cX0, cX1, cX2, cY0, cY1, cY2⟩ := hC; go_simp; first | done | rfl | exact ⟨rfl, rfl⟩); (simp only [Act.put, List.setIfInBounds_toArray, List.set_cons_zero, List.set_cons_succ]); go_big_quiet_on)))
        (go_big_quiet_want; apply Exists.intro; refine ⟨fun w' hC => ?_, ?_⟩; (obtain ⟨cB, ca0, ca1, ca2, cb0, cb1, cb2, cc0, cc1, cc2, cd0, cd1, cd2, cX0, cX1, cX2, cY0, cY1, cY2⟩ := hC; go_simp; go_at_call 17; refine (typeSame_impl T1 T2 0 _ _ _ HNT1.out (T227.out.kept cB) (T228.out.kept cB)).mono ?_; rintro e w8_ ⟨rfl, hb8⟩; rw [HSB.out]; exact ⟨rfl, cB.trans (hb8.mono cB.size), (hb8.cell (Nat.lt_of_lt_of_le faz cB.size)).trans ca0, (hb8.cell (Nat.lt_of_lt_of_le faz cB.size)).trans ca1, (hb8.cell (Nat.lt_of_lt_of_le faz cB.size)).trans ca2, (hb8.cell (Nat.lt_of_lt_of_le fbz cB.size)).trans cb0, (hb8.cell (Nat.lt_of_lt_of_le fbz cB.size)).trans cb1, (hb8.cell (Nat.lt_of_lt_of_le fbz cB.size)).trans cb2, (hb8.cell (Nat.lt_of_lt_of_le fcz cB.size)).trans cc0, (hb8.cell (Nat.lt_of_lt_of_le fcz cB.size)).trans cc1, (hb8.cell (Nat.lt_of_lt_of_le fcz cB.size)).trans cc2, (hb8.cell (Nat.lt_of_lt_of_le fdz cB.size)).trans cd0, (hb8.cell (Nat.lt_of_lt_of_le fdz cB.size)).trans cd1, (hb8.cell (Nat.lt_of_lt_of_le fdz cB.size)).trans cd2, (hb8.cell (Nat.lt_of_lt_of_le fXz cB.size)).trans cX0, (hb8.cell (Nat.lt_of_lt_of_le fXz cB.size)).trans cX1, (hb8.cell (Nat.lt_of_lt_of_le fXz cB.size)).trans cX2, (hb8.cell (Nat.lt_of_lt_of_le fYz cB.size)).trans cY0, (hb8.cell (Nat.lt_of_lt_of_le fYz cB.size)).trans cY1, (hb8.cell (Nat.lt_of_lt_of_le fYz cB.size)).trans cY2⟩); (simp only [Act.put, List.setIfInBounds_toArray, List.set_cons_zero, List.set_cons_succ]); go_big_quiet_on)
        repeat (first | go_big_quiet_skip | (go_big_quiet_want; first | (go_big_quiet_op; go_big_quiet_on) | (apply Exists.intro; refine ⟨fun w' hC => ?_, ?_⟩; (obtain ⟨cB, ca0, ca1, ca2, cb0, cb1, cb2, cc0, cc1, cc2, cd0, cd1, cd2, cX0, cX1, cX2, cY0, cY1, cY2⟩ := hC; go_simp; first | done | rfl | exact ⟨rfl, rfl⟩); (simp only [Act.put, List.setIfInBounds_toArray, List.set_cons_zero, List.set_cons_succ]); go_big_quiet_on)))
        refine wpQuiet_nil ?_
        intro w9_ hC
        have HB9 := Lib.hid hC.1
        clear hC
        go_wp2_with fail
        go_ret
        exact ⟨by first | rfl | exact congrArg Ending.returned (congrArg Value.bool (by simp)), H230.out.trans (HB9.out.mono H230.out.size)⟩
      · skip
        have HT1b := Lib.hid (HT1.out rfl)
        have HT2b := Lib.hid (HT2.out rfl)
        clear bf231 bg231 bh231 bz231 bf232 bg232 bh232 bz232 bf233 bg233 bh233 bz233 bf234 bg234 bh234 bz234 bf235 bg235 bh235 bz235 bf236 bg236 bh236 bz236
        obtain ⟨fa0, fa1, fa2, faz⟩ := B218.out
        obtain ⟨fb0, fb1, fb2, fbz⟩ := B219.out
        obtain ⟨fc0, fc1, fc2, fcz⟩ := B220.out
        obtain ⟨fd0, fd1, fd2, fdz⟩ := B221.out
        obtain ⟨fX0, fX1, fX2, fXz⟩ := B222.out
        obtain ⟨fY0, fY1, fY2, fYz⟩ := B215n.out
        go_wp2_with fail
        have cD : Below W11.heap.size W11 W11.drew := (Below.refl _ _).drew
        refine wp_region_quiet_litC (C := fun w' => Below W11.heap.size W11 w' ∧ w'.cell? ⟨E, 0, none⟩ = some (.int .i64 x.k) ∧ w'.cell? ⟨E, 1, none⟩ = some (.int .i64 x.n) ∧ w'.cell? ⟨E, 2, none⟩ = some (.slice ax x.ks.length cx) ∧ w'.cell? ⟨(E + 1), 0, none⟩ = some (.int .i64 y.k) ∧ w'.cell? ⟨(E + 1), 1, none⟩ = some (.int .i64 y.n) ∧ w'.cell? ⟨(E + 1), 2, none⟩ = some (.slice ay y.ks.length cy) ∧ w'.cell? ⟨w5.heap.size, 0, none⟩ = some (.int .i64 p.k) ∧ w'.cell? ⟨w5.heap.size, 1, none⟩ = some (.int .i64 p.n) ∧ w'.cell? ⟨w5.heap.size, 2, none⟩ = some (.slice ap p.ks.length cp) ∧ w'.cell? ⟨W6.heap.size, 0, none⟩ = some (.int .i64 r.k) ∧ w'.cell? ⟨W6.heap.size, 1, none⟩ = some (.int .i64 r.n) ∧ w'.cell? ⟨W6.heap.size, 2, none⟩ = some (.slice ar r.ks.length cr) ∧ w'.cell? ⟨w8.heap.size, 0, none⟩ = some (.int .i64 T1.k) ∧ w'.cell? ⟨w8.heap.size, 1, none⟩ = some (.int .i64 T1.n) ∧ w'.cell? ⟨w8.heap.size, 2, none⟩ = some (.slice aX T1.ks.length kX) ∧ w'.cell? ⟨w10.heap.size, 0, none⟩ = some (.int .i64 T2.k) ∧ w'.cell? ⟨w10.heap.size, 1, none⟩ = some (.int .i64 T2.n) ∧ w'.cell? ⟨w10.heap.size, 2, none⟩ = some (.slice aY T2.ks.length kY)) (by kernel_rfl) (by kernel_rfl) ⟨cD, (cD.cell faz).trans fa0, (cD.cell faz).trans fa1, (cD.cell faz).trans fa2, (cD.cell fbz).trans fb0, (cD.cell fbz).trans fb1, (cD.cell fbz).trans fb2, (cD.cell fcz).trans fc0, (cD.cell fcz).trans fc1, (cD.cell fcz).trans fc2, (cD.cell fdz).trans fd0, (cD.cell fdz).trans fd1, (cD.cell fdz).trans fd2, (cD.cell fXz).trans fX0, (cD.cell fXz).trans fX1, (cD.cell fXz).trans fX2, (cD.cell fYz).trans fY0, (cD.cell fYz).trans fY1, (cD.cell fYz).trans fY2⟩ ?_
        iterate 2 (first | go_big_quiet_skip | (go_big_quiet_want; first | (go_big_quiet_op; go_big_quiet_on) | (apply Exists.intro; refine ⟨fun w' hC => ?_, ?_⟩; (obtain ⟨cB, ca0, ca1, ca2, cb0, cb1, cb2, cc0, cc1, cc2, cd0, cd1, cd2, cX0, cX1, cX2, cY0, cY1, cY2⟩ := hC; go_simp; first | done | rfl | exact ⟨rfl, rfl⟩); (simp only [Act.put, List.setIfInBounds_toArray, List.set_cons_zero, List.set_cons_succ]); go_big_quiet_on)))
        (go_big_quiet_want; apply Exists.intro; refine ⟨fun w' hC => ?_, ?_⟩; (obtain ⟨cB, ca0, ca1, ca2, cb0, cb1, cb2, cc0, cc1, cc2, cd0, cd1, cd2, cX0, cX1, cX2, cY0, cY1, cY2⟩ := hC; go_simp; go_at_call 21; refine (Mx.instanceOf_impl y p _ _ _ HNY.out (T224.out.kept cB) (T225.out.kept cB)).mono ?_; rintro e w8_ ⟨rfl, hb8⟩; rw [HI1.out]; exact ⟨rfl, cB.trans (hb8.mono cB.size), (hb8.cell (Nat.lt_of_lt_of_le faz cB.size)).trans ca0, (hb8.cell (Nat.lt_of_lt_of_le faz cB.size)).trans ca1, (hb8.cell (Nat.lt_of_lt_of_le faz cB.size)).trans ca2, (hb8.cell (Nat.lt_of_lt_of_le fbz cB.size)).trans cb0, (hb8.cell (Nat.lt_of_lt_of_le fbz cB.size)).trans cb1, (hb8.cell (Nat.lt_of_lt_of_le fbz cB.size)).trans cb2, (hb8.cell (Nat.lt_of_lt_of_le fcz cB.size)).trans cc0, (hb8.cell (Nat.lt_of_lt_of_le fcz cB.size)).trans cc1, (hb8.cell (Nat.lt_of_lt_of_le fcz cB.size)).trans cc2, (hb8.cell (Nat.lt_of_lt_of_le fdz cB.size)).trans cd0, (hb8.cell (Nat.lt_of_lt_of_le fdz cB.size)).trans cd1, (hb8.cell (Nat.lt_of_lt_of_le fdz cB.size)).trans cd2, (hb8.cell (Nat.lt_of_lt_of_le fXz cB.size)).trans cX0, (hb8.cell (Nat.lt_of_lt_of_le fXz cB.size)).trans cX1, (hb8.cell (Nat.lt_of_lt_of_le fXz cB.size)).trans cX2, (hb8.cell (Nat.lt_of_lt_of_le fYz cB.size)).trans cY0, (hb8.cell (Nat.lt_of_lt_of_le fYz cB.size)).trans cY1, (hb8.cell (Nat.lt_of_lt_of_le fYz cB.size)).trans cY2⟩); (simp only [Act.put, List.setIfInBounds_toArray, List.set_cons_zero, List.set_cons_succ]); go_big_quiet_on)
        iterate 4 (first | go_big_quiet_skip | (go_big_quiet_want; first | (go_big_quiet_op; go_big_quiet_on) | (apply Exists.intro; refine ⟨fun w' hC => ?_, ?_⟩; (obtain ⟨cB, ca0, ca1, ca2, cb0, cb1, cb2, cc0, cc1, cc2, cd0, cd1, cd2, cX0, cX1, cX2, cY0, cY1, cY2⟩ := hC; go_simp; first | done | rfl | exact ⟨rfl, rfl⟩); (simp only [Act.put, List.setIfInBounds_toArray, List.set_cons_zero, List.set_cons_succ]); go_big_quiet_on)))
        (go_big_quiet_want; apply Exists.intro; refine ⟨fun w' hC => ?_, ?_⟩; (obtain ⟨cB, ca0, ca1, ca2, cb0, cb1, cb2, cc0, cc1, cc2, cd0, cd1, cd2, cX0, cX1, cX2, cY0, cY1, cY2⟩ := hC; go_simp; go_at_call 21; refine (Mx.instanceOf_impl x p _ _ _ HNX.out (T223.out.kept cB) (T225.out.kept cB)).mono ?_; rintro e w8_ ⟨rfl, hb8⟩; rw [HT1b.out]; exact ⟨rfl, cB.trans (hb8.mono cB.size), (hb8.cell (Nat.lt_of_lt_of_le faz cB.size)).trans ca0, (hb8.cell (Nat.lt_of_lt_of_le faz cB.size)).trans ca1, (hb8.cell (Nat.lt_of_lt_of_le faz cB.size)).trans ca2, (hb8.cell (Nat.lt_of_lt_of_le fbz cB.size)).trans cb0, (hb8.cell (Nat.lt_of_lt_of_le fbz cB.size)).trans cb1, (hb8.cell (Nat.lt_of_lt_of_le fbz cB.size)).trans cb2, (hb8.cell (Nat.lt_of_lt_of_le fcz cB.size)).trans cc0, (hb8.cell (Nat.lt_of_lt_of_le fcz cB.size)).trans cc1, (hb8.cell (Nat.lt_of_lt_of_le fcz cB.size)).trans cc2, (hb8.cell (Nat.lt_of_lt_of_le fdz cB.size)).trans cd0, (hb8.cell (Nat.lt_of_lt_of_le fdz cB.size)).trans cd1, (hb8.cell (Nat.lt_of_lt_of_le fdz cB.size)).trans cd2, (hb8.cell (Nat.lt_of_lt_of_le fXz cB.size)).trans cX0, (hb8.cell (Nat.lt_of_lt_of_le fXz cB.size)).trans cX1, (hb8.cell (Nat.lt_of_lt_of_le fXz cB.size)).trans cX2, (hb8.cell (Nat.lt_of_lt_of_le fYz cB.size)).trans cY0, (hb8.cell (Nat.lt_of_lt_of_le fYz cB.size)).trans cY1, (hb8.cell (Nat.lt_of_lt_of_le fYz cB.size)).trans cY2⟩); (simp only [Act.put, List.setIfInBounds_toArray, List.set_cons_zero, List.set_cons_succ]); go_big_quiet_on)
        iterate 4 (first | go_big_quiet_skip | (go_big_quiet_want; first | (go_big_quiet_op; go_big_quiet_on) | (apply Exists.intro; refine ⟨fun w' hC => ?_, ?_⟩; (obtain ⟨cB, ca0, ca1, ca2, cb0, cb1, cb2, cc0, cc1, cc2, cd0, cd1, cd2, cX0, cX1, cX2, cY0, cY1, cY2⟩ := hC; go_simp; first | done | rfl | exact ⟨rfl, rfl⟩); (simp only [Act.put, List.setIfInBounds_toArray, List.set_cons_zero, List.set_cons_succ]); go_big_quiet_on)))
        (go_big_quiet_want; apply Exists.intro; refine ⟨fun w' hC => ?_, ?_⟩; (obtain ⟨cB, ca0, ca1, ca2, cb0, cb1, cb2, cc0, cc1, cc2, cd0, cd1, cd2, cX0, cX1, cX2, cY0, cY1, cY2⟩ := hC; go_simp; go_at_call 21; refine (Mx.instanceOf_impl r x _ _ _ HNR.out (T226.out.kept cB) (T223.out.kept cB)).mono ?_; rintro e w8_ ⟨rfl, hb8⟩; rw [HI2.out]; exact ⟨rfl, cB.trans (hb8.mono cB.size), (hb8.cell (Nat.lt_of_lt_of_le faz cB.size)).trans ca0, (hb8.cell (Nat.lt_of_lt_of_le faz cB.size)).trans ca1, (hb8.cell (Nat.lt_of_lt_of_le faz cB.size)).trans ca2, (hb8.cell (Nat.lt_of_lt_of_le fbz cB.size)).trans cb0, (hb8.cell (Nat.lt_of_lt_of_le fbz cB.size)).trans cb1, (hb8.cell (Nat.lt_of_lt_of_le fbz cB.size)).trans cb2, (hb8.cell (Nat.lt_of_lt_of_le fcz cB.size)).trans cc0, (hb8.cell (Nat.lt_of_lt_of_le fcz cB.size)).trans cc1, (hb8.cell (Nat.lt_of_lt_of_le fcz cB.size)).trans cc2, (hb8.cell (Nat.lt_of_lt_of_le fdz cB.size)).trans cd0, (hb8.cell (Nat.lt_of_lt_of_le fdz cB.size)).trans cd1, (hb8.cell (Nat.lt_of_lt_of_le fdz cB.size)).trans cd2, (hb8.cell (Nat.lt_of_lt_of_le fXz cB.size)).trans cX0, (hb8.cell (Nat.lt_of_lt_of_le fXz cB.size)).trans cX1, (hb8.cell (Nat.lt_of_lt_of_le fXz cB.size)).trans cX2, (hb8.cell (Nat.lt_of_lt_of_le fYz cB.size)).trans cY0, (hb8.cell (Nat.lt_of_lt_of_le fYz cB.size)).trans cY1, (hb8.cell (Nat.lt_of_lt_of_le fYz cB.size)).trans cY2⟩); (simp only [Act.put, List.setIfInBounds_toArray, List.set_cons_zero, List.set_cons_succ]); go_big_quiet_on)
        iterate 4 (first | go_big_quiet_skip | (go_big_quiet_want; first | (go_big_quiet_op; go_big_quiet_on) | (apply Exists.intro; refine ⟨fun w' hC => ?_, ?_⟩; (obtain ⟨cB, ca0, ca1, ca2, cb0, cb1, cb2, cc0, cc1, cc2, cd0, cd1, cd2, cX0, cX1, cX2, cY0, cY1, cY2⟩ := hC; go_simp; first | done | rfl | exact ⟨rfl, rfl⟩); (simp only [Act.put, List.setIfInBounds_toArray, List.set_cons_zero, List.set_cons_succ]); go_big_quiet_on)))
        (go_big_quiet_want; apply Exists.intro; refine ⟨fun w' hC => ?_, ?_⟩; (obtain ⟨cB, ca0, ca1, ca2, cb0, cb1, cb2, cc0, cc1, cc2, cd0, cd1, cd2, cX0, cX1, cX2, cY0, cY1, cY2⟩ := hC; go_simp; go_at_call 21; refine (Mx.instanceOf_impl r y _ _ _ HNR.out (T226.out.kept cB) (T224.out.kept cB)).mono ?_; rintro e w8_ ⟨rfl, hb8⟩; rw [HT2b.out]; exact ⟨rfl, cB.trans (hb8.mono cB.size), (hb8.cell (Nat.lt_of_lt_of_le faz cB.size)).trans ca0, (hb8.cell (Nat.lt_of_lt_of_le faz cB.size)).trans ca1, (hb8.cell (Nat.lt_of_lt_of_le faz cB.size)).trans ca2, (hb8.cell (Nat.lt_of_lt_of_le fbz cB.size)).trans cb0, (hb8.cell (Nat.lt_of_lt_of_le fbz cB.size)).trans cb1, (hb8.cell (Nat.lt_of_lt_of_le fbz cB.size)).trans cb2, (hb8.cell (Nat.lt_of_lt_of_le fcz cB.size)).trans cc0, (hb8.cell (Nat.lt_of_lt_of_le fcz cB.size)).trans cc1, (hb8.cell (Nat.lt_of_lt_of_le fcz cB.size)).trans cc2, (hb8.cell (Nat.lt_of_lt_of_le fdz cB.size)).trans cd0, (hb8.cell (Nat.lt_of_lt_of_le fdz cB.size)).trans cd1, (hb8.cell (Nat.lt_of_lt_of_le fdz cB.size)).trans cd2, (hb8.cell (Nat.lt_of_lt_of_le fXz cB.size)).trans cX0, (hb8.cell (Nat.lt_of_lt_of_le fXz cB.size)).trans cX1, (hb8.cell (Nat.lt_of_lt_of_le fXz cB.size)).trans cX2, (hb8.cell (Nat.lt_of_lt_of_le fYz cB.size)).trans cY0, (hb8.cell (Nat.lt_of_lt_of_le fYz cB.size)).trans cY1, (hb8.cell (Nat.lt_of_lt_of_le fYz cB.size)).trans cY2⟩); (simp only [Act.put, List.setIfInBounds_toArray, List.set_cons_zero, List.set_cons_succ]); go_big_quiet_on)
        iterate 5 (first | go_big_quiet_skip | (go_big_quiet_want; first | (go_big_quiet_op; go_big_quiet_on) | (apply Exists.intro; refine ⟨fun w' hC => ?_, ?_⟩; (obtain ⟨cB, ca0, ca1, ca2, cb0, cb1, cb2, cc0, cc1, cc2, cd0, cd1, cd2, cX0, cX1, cX2, cY0, cY1, cY2⟩ := hC; go_simp; first | done | rfl | exact ⟨rfl, rfl⟩); (simp only [Act.put, List.setIfInBounds_toArray, List.set_cons_zero, List.set_cons_succ]); go_big_quiet_on)))
        (go_big_quiet_want; apply Exists.intro; refine ⟨fun w' hC => ?_, ?_⟩; (obtain ⟨cB, ca0, ca1, ca2, cb0, cb1, cb2, cc0, cc1, cc2, cd0, cd1, cd2, cX0, cX1, cX2, cY0, cY1, cY2⟩ := hC; go_simp; go_at_call 21; refine (Mx.instanceOf_impl y x _ _ _ HNY.out (T224.out.kept cB) (T223.out.kept cB)).mono ?_; rintro e w8_ ⟨rfl, hb8⟩; rw [HBK.out]; exact ⟨rfl, cB.trans (hb8.mono cB.size), (hb8.cell (Nat.lt_of_lt_of_le faz cB.size)).trans ca0, (hb8.cell (Nat.lt_of_lt_of_le faz cB.size)).trans ca1, (hb8.cell (Nat.lt_of_lt_of_le faz cB.size)).trans ca2, (hb8.cell (Nat.lt_of_lt_of_le fbz cB.size)).trans cb0, (hb8.cell (Nat.lt_of_lt_of_le fbz cB.size)).trans cb1, (hb8.cell (Nat.lt_of_lt_of_le fbz cB.size)).trans cb2, (hb8.cell (Nat.lt_of_lt_of_le fcz cB.size)).trans cc0, (hb8.cell (Nat.lt_of_lt_of_le fcz cB.size)).trans cc1, (hb8.cell (Nat.lt_of_lt_of_le fcz cB.size)).trans cc2, (hb8.cell (Nat.lt_of_lt_of_le fdz cB.size)).trans cd0, (hb8.cell (Nat.lt_of_lt_of_le fdz cB.size)).trans cd1, (hb8.cell (Nat.lt_of_lt_of_le fdz cB.size)).trans cd2, (hb8.cell (Nat.lt_of_lt_of_le fXz cB.size)).trans cX0, (hb8.cell (Nat.lt_of_lt_of_le fXz cB.size)).trans cX1, (hb8.cell (Nat.lt_of_lt_of_le fXz cB.size)).trans cX2, (hb8.cell (Nat.lt_of_lt_of_le fYz cB.size)).trans cY0, (hb8.cell (Nat.lt_of_lt_of_le fYz cB.size)).trans cY1, (hb8.cell (Nat.lt_of_lt_of_le fYz cB.size)).trans cY2⟩); (simp only [Act.put, List.setIfInBounds_toArray, List.set_cons_zero, List.set_cons_succ]); go_big_quiet_on)
        iterate 2 (first | go_big_quiet_skip | (go_big_quiet_want; first | (go_big_quiet_op; go_big_quiet_on) | (apply Exists.intro; refine ⟨fun w' hC => ?_, ?_⟩; (obtain ⟨cB, ca0, ca1, ca2, cb0, cb1, cb2, cc0, cc1, cc2, cd0, cd1, cd2, cX0, cX1, cX2, cY0, cY1, cY2⟩ := hC; go_simp; first | done | rfl | exact ⟨rfl, rfl⟩); (simp only [Act.put, List.setIfInBounds_toArray, List.set_cons_zero, List.set_cons_succ]); go_big_quiet_on)))
        (go_big_quiet_want; apply Exists.intro; refine ⟨fun w' hC => ?_, ?_⟩; (obtain ⟨cB, ca0, ca1, ca2, cb0, cb1, cb2, cc0, cc1, cc2, cd0, cd1, cd2, cX0, cX1, cX2, cY0, cY1, cY2⟩ := hC; go_simp; go_at_call 17; refine (typeSame_impl T1 T2 0 _ _ _ HNT1.out (T227.out.kept cB) (T228.out.kept cB)).mono ?_; rintro e w8_ ⟨rfl, hb8⟩; rw [HSB.out]; exact ⟨rfl, cB.trans (hb8.mono cB.size), (hb8.cell (Nat.lt_of_lt_of_le faz cB.size)).trans ca0, (hb8.cell (Nat.lt_of_lt_of_le faz cB.size)).trans ca1, (hb8.cell (Nat.lt_of_lt_of_le faz cB.size)).trans ca2, (hb8.cell (Nat.lt_of_lt_of_le fbz cB.size)).trans cb0, (hb8.cell (Nat.lt_of_lt_of_le fbz cB.size)).trans cb1, (hb8.cell (Nat.lt_of_lt_of_le fbz cB.size)).trans cb2, (hb8.cell (Nat.lt_of_lt_of_le fcz cB.size)).trans cc0, (hb8.cell (Nat.lt_of_lt_of_le fcz cB.size)).trans cc1, (hb8.cell (Nat.lt_of_lt_of_le fcz cB.size)).trans cc2, (hb8.cell (Nat.lt_of_lt_of_le fdz cB.size)).trans cd0, (hb8.cell (Nat.lt_of_lt_of_le fdz cB.size)).trans cd1, (hb8.cell (Nat.lt_of_lt_of_le fdz cB.size)).trans cd2, (hb8.cell (Nat.lt_of_lt_of_le fXz cB.size)).trans cX0, (hb8.cell (Nat.lt_of_lt_of_le fXz cB.size)).trans cX1, (hb8.cell (Nat.lt_of_lt_of_le fXz cB.size)).trans cX2, (hb8.cell (Nat.lt_of_lt_of_le fYz cB.size)).trans cY0, (hb8.cell (Nat.lt_of_lt_of_le fYz cB.size)).trans cY1, (hb8.cell (Nat.lt_of_lt_of_le fYz cB.size)).trans cY2⟩); (simp only [Act.put, List.setIfInBounds_toArray, List.set_cons_zero, List.set_cons_succ]); go_big_quiet_on)
        repeat (first | go_big_quiet_skip | (go_big_quiet_want; first | (go_big_quiet_op; go_big_quiet_on) | (apply Exists.intro; refine ⟨fun w' hC => ?_, ?_⟩; (obtain ⟨cB, ca0, ca1, ca2, cb0, cb1, cb2, cc0, cc1, cc2, cd0, cd1, cd2, cX0, cX1, cX2, cY0, cY1, cY2⟩ := hC; go_simp; first | done | rfl | exact ⟨rfl, rfl⟩); (simp only [Act.put, List.setIfInBounds_toArray, List.set_cons_zero, List.set_cons_succ]); go_big_quiet_on)))
        refine wpQuiet_nil ?_
        intro w9_ hC
        have HB9 := Lib.hid hC.1
        clear hC
        go_wp2_with fail
        go_ret
        exact ⟨by first | rfl | exact congrArg Ending.returned (congrArg Value.bool (by simp)), H230.out.trans (HB9.out.mono H230.out.size)⟩

set_option maxRecDepth 100000 in
theorem lifted (os : Os) (started : os.Started) (H : Type) (enc : TypeId × Value → H) :
    ReturnsInHanded {} Try.checked os 4 .any (Rows.fnInstanceOfSpec.pre6 enc Try.prog Try.f4 Rows.fnInstanceOfRow.domain false) (Rows.fnInstanceOfSpec.post enc Try.prog Try.f4 false true false false) := by
  refine returnsInHanded_of_change (C := Try.checked) own started (by kernel_rfl) Try.func4
    (ChangeSpec.witness6 (enc := enc) (C := Try.checked) false ⟨#[], #[.slice none 0 0, .slice none 0 0], []⟩ 8 (by kernel_rfl) (by kernel_rfl) (by kernel_rfl) (by kernel_rfl)) ?_
  intro W base args ds gs before hval0 hW hcnd _
  have hval : ∀ (j : Nat) t v, Try.f4.params[j]? = some t → args[j]? = some v → Value.okWide Try.prog W .any base t v := hval0
  have hW' := hW
  obtain ⟨p, q, hA0, hV, rfl, hfz, hnd⟩ := hW
  have hA : DataW.TrodAll enc Try.prog W 0 (fun _ => true) true Try.f4.params.toList args.toList ds p := hA0
  rw [Try.params4] at hA hval
  obtain ⟨v0, vs0, d0, ds0, p0, q0, hargs, rfl, rfl, h0, r0⟩ := trodAll_cons hA
  obtain ⟨v1, vs1, d1, ds1, p1, q1, rfl, rfl, rfl, h1, r1⟩ := trodAll_cons r0
  obtain ⟨rfl, rfl, rfl⟩ := trodAll_nil r1
  obtain rfl : args = #[v0, v1] := by cases args; simp_all
  obtain ⟨rfl, rfl⟩ := trodVars_none hV
  have k0 := h0
  have lt0 : ∀ x ∈ p0, x.block < W.heap.size := by obtain ⟨m, hm⟩ := k0; exact DataW.trod_lt m _ _ _ hm
  have k1 := h1
  have lt1 : ∀ x ∈ p1, x.block < W.heap.size := by obtain ⟨m, hm⟩ := k1; exact DataW.trod_lt m _ _ _ hm
  obtain ⟨a0, len0, cap0, rfl⟩ := okWide_slice Try.underlying22 (hval 0 22 v0 rfl rfl)
  obtain ⟨z0, w0⟩ : ∃ zs, IsRow W a0 len0 cap0 zs := by
    obtain ⟨fuel, hf⟩ := h0
    rcases open_ints Try.underlying22 Try.underlying5 (by kernel_rfl) hf with ⟨hcs, _⟩ | ⟨x, l, c, zs, hcs, _, hl, hm, hz, _, hcell, hwz⟩
    · simp [Value.cells] at hcs
      obtain ⟨rfl, rfl, rfl⟩ := hcs
      exact ⟨[], .inl ⟨rfl, rfl, rfl, rfl⟩⟩
    · simp [Value.cells] at hcs
      obtain ⟨rfl, rfl, rfl⟩ := hcs
      exact ⟨zs, .inr ⟨_, rfl, hl, hm, by simpa using hz, hcell, hwz⟩⟩
  obtain ⟨a1, len1, cap1, rfl⟩ := okWide_slice Try.underlying22 (hval 1 22 v1 rfl rfl)
  obtain ⟨z1, w1⟩ : ∃ zs, IsRow W a1 len1 cap1 zs := by
    obtain ⟨fuel, hf⟩ := h1
    rcases open_ints Try.underlying22 Try.underlying5 (by kernel_rfl) hf with ⟨hcs, _⟩ | ⟨x, l, c, zs, hcs, _, hl, hm, hz, _, hcell, hwz⟩
    · simp [Value.cells] at hcs
      obtain ⟨rfl, rfl, rfl⟩ := hcs
      exact ⟨[], .inl ⟨rfl, rfl, rfl, rfl⟩⟩
    · simp [Value.cells] at hcs
      obtain ⟨rfl, rfl, rfl⟩ := hcs
      exact ⟨zs, .inr ⟨_, rfl, hl, hm, by simpa using hz, hcell, hwz⟩⟩
  clear hA0 hval0
  refine (walk a0 len0 cap0 z0 a1 len1 cap1 z1 W w0 w1).mono fun e W' ⟨he, bel⟩ => ?_
  subst he
  exact ⟨_, rfl, _, _, _, [], _, [], hW', trodAll_mk1 (shut_bool Try.underlying4 _), (trodAll_cons_mk (Below.trod laidOut (by kernel_rfl) (of_decide_eq_true (by kernel_rfl)) k0 bel lt0) (trodAll_cons_mk (Below.trod laidOut (by kernel_rfl) (of_decide_eq_true (by kernel_rfl)) k1 bel lt1) trodAll_mk0)), rfl, bel.frame _, fun h => by cases h⟩

theorem over : Rows.fnInstanceOfRow.holds Try.pinned (OpenSpec.ofChange Rows.fnInstanceOfSpec) :=
  OpenClaim.holds_of_wide 4 Try.f4 rfl rfl rfl rfl rfl rfl rfl ⟨rfl, rfl, rfl, rfl, rfl⟩ rfl rfl rfl rfl rfl (by kernel_rfl) Try.func4 (by kernel_rfl)
    (of_decide_eq_true (by kernel_rfl)) (by unfold Func.isWrapper; first | (rw [if_pos (by decide +kernel)]; kernel_rfl) | (rw [if_neg (by decide +kernel)]; exact ⟨rfl, rfl⟩))
    (fun os started H enc _ => lifted os started H enc)

/-- The given statement. -/
theorem proved : Rows.FnInstanceOfSaid := over
end Go.Proofs.Ytndpoejohpmifaa.fnInstanceOf
