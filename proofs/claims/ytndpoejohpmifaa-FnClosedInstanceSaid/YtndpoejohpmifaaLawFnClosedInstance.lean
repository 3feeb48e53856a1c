/-
  FnClosedInstance returns true for every two slices of bytes: a type without variables has no instances but itself, and every type is an instance of a variable. No conditions.
-/
import Derived.Test.YtndpoejohpmifaaRows
import Derived.ProofKit
import Derived.OpenShut
import Derived.ShutString
import Derived.ChangeOld
import Derived.Below
import Derived.Lib.SmallJoins
import Derived.Test.YtndpoejohpmifaaQe
import Derived.Test.YtndpoejohpmifaaQac
import Derived.Test.YtndpoejohpmifaaBh
import Derived.Test.YtndpoejohpmifaaAl
import Derived.Test.YtndpoejohpmifaaGae
import Derived.Test.YtndpoejohpmifaaZln
namespace Go.Proofs.Ytndpoejohpmifaa.fnClosedInstance
open Go.Proofs.Ytndpoejohpmifaa
open Go.ChangeShapes Go.WideShapes Go.ChangeAt Go.RowKit Go.Joins
open Go.ChangeMaps (open_string shut_string)
set_option linter.unusedVariables false
set_option linter.unusedSimpArgs false

theorem own : ownKnob Try.prog.godebug = none := by kernel_rfl
theorem laidOut : laidOutB Try.prog = true := by kernel_rfl

theorem optN {t : Ty} {r : Option Ty} (h : cnT t = r) : nodes (optT r) ≤ 1048577 := by
  rcases r with _ | X
  · show nodes (.node 0 0 []) ≤ _
    simp [nodes, nodesL]
  · have hv : tvT X = true := by
      rcases h2 : tvT t with _ | _
      · rw [cnT_no h2] at h; cases h
      · rw [cnT_yes h2] at h; injection h with h; rw [← h]; exact canT_valid h2
    have h := nodes_shp 16 X (tvT_shp hv)
    have e : (2 : Nat) ^ 16 = 65536 := by decide
    show nodes X ≤ _
    omega
set_option maxRecDepth 100000 in
set_option maxHeartbeats 16000000 in
theorem walk (a : Option Addr) (len cap : Nat) (zs : List Int) (aM : Option Addr) (len2 cap2 : Nat) (zs2 : List Int) (w : World) (hrow : IsRow w a len cap zs) (hrow2 : IsRow w aM len2 cap2 zs2) :
    Calls Try.prog 8 #[.slice a len cap, .slice aM len2 cap2] w fun e w' => e = .returned (.bool true) ∧ Below w.heap.size w w' := by
  have HRow := Lib.hid hrow
  have hm := hrow.len
  unfold maxLen at hm
  clear hrow
  have HRow2 := Lib.hid hrow2
  have hm2 := hrow2.len
  unfold maxLen at hm2
  clear hrow2
  by_cases hl : len ≤ 1048576
  case neg =>
    go_enter Try.func8, Try.ntmps8
    go_wp2
    all_goals go_ret
    all_goals exact ⟨rfl, Below.refl _ _⟩
  by_cases hl2 : len2 ≤ 1048576
  case neg =>
    go_enter Try.func8, Try.ntmps8
    go_wp2
    all_goals go_ret
    all_goals exact ⟨rfl, Below.refl _ _⟩
  go_enter Try.func8, Try.ntmps8
  go_wp2_with fail
  go_at_call 20
  refine (drawInstanceOf_any a len cap zs _ HRow.out).mono ?_
  rintro e w0 ⟨x, y, vx, vy, hnx, hny, rfl, htx, hty, hb0⟩
  have H0 := Lib.hid hb0
  have TX := Lib.hid htx
  have TY := Lib.hid hty
  have HNX := Lib.hid (show nodes x ≤ 1048577 by omega)
  have HNY := Lib.hid (show nodes y ≤ 1048577 by omega)
  obtain ⟨ax, cx, rfl, _⟩ := htx.at.slice
  obtain ⟨ay, cy, rfl, _⟩ := hty.at.slice
  have HR2 := Lib.hid (HRow2.out.kept hb0)
  clear hb0 htx hty hnx hny
  obtain ⟨W2, hW2⟩ : ∃ W, (w0.alloc (.cells #[.int .i64 x.k, .int .i64 x.n, .slice ax x.ks.length cx] 25)).alloc (.cells #[.int .i64 y.k, .int .i64 y.n, .slice ay y.ks.length cy] 25) = W := ⟨_, rfl⟩
  obtain ⟨E, hE⟩ : ∃ E, w0.heap.size = E := ⟨_, rfl⟩
  have hb2 : Below w0.heap.size w0 W2 := by rw [← hW2]; exact ((Below.refl _ _).alloc (Nat.le_refl _) _).alloc (by simp) _
  have PA : Hid (TBox W2 E (.int .i64 x.k) (.int .i64 x.n) (.slice ax x.ks.length cx)) := Lib.hid (by rw [← hW2, ← hE]; exact (tbox_new w0 _ _ _ _).kept ((Below.refl _ _).alloc (Nat.le_refl _) _))
  have PB : Hid (TBox W2 (E + 1) (.int .i64 y.k) (.int .i64 y.n) (.slice ay y.ks.length cy)) := Lib.hid (by
    have h := tbox_new (w0.alloc (.cells #[.int .i64 x.k, .int .i64 x.n, .slice ax x.ks.length cx] 25)) (.int .i64 y.k) (.int .i64 y.n) (.slice ay y.ks.length cy) 25
    rw [hW2, sizeA, hE] at h; exact h)
  have H2 := Lib.hid (H0.out.trans (hb2.mono H0.out.size))
  have TX2 := Lib.hid (TX.out.kept hb2)
  have TY2 := Lib.hid (TY.out.kept hb2)
  have HR2 := Lib.hid (HR2.out.kept hb2)
  have HW2 := Lib.hid hW2
  clear hW2 hb2
  obtain ⟨ib, hib⟩ : ∃ b, Mx.instB x y = b := ⟨_, rfl⟩
  have HIB := Lib.hid hib
  obtain ⟨bx, hbx⟩ : ∃ b, tvT x = b := ⟨_, rfl⟩
  have HBX := Lib.hid hbx
  obtain ⟨by_, hby⟩ : ∃ b, tvT y = b := ⟨_, rfl⟩
  have HBY := Lib.hid hby
  have HNO : Hid (bx = false ∨ by_ = false → ib = false) := Lib.hid (fun h => by
    rcases hi : ib with _ | _
    · rfl
    · rw [hi] at hib
      obtain ⟨h1, h2, _⟩ := Mx.ev_of_inst hib
      rw [hbx] at h1; rw [hby] at h2
      rcases h with h | h
      · rw [h] at h1; cases h1
      · rw [h] at h2; cases h2)
  obtain ⟨k, hk⟩ : ∃ k, len2 % 26 = k := ⟨_, rfl⟩
  have hk25 : k ≤ 25 := by have := Nat.mod_lt len2 (show 0 < 26 by omega); omega
  have hkm : ((len2 : Int) % 26) = (k : Int) := by rw [← hk]; push_cast; rfl
  obtain ⟨us, hus⟩ : ∃ us, varsT y = us := ⟨_, rfl⟩
  have HUS := Lib.hid hus
  have hii : (ib != ib) = false := by cases ib <;> rfl
  have hie : (ib == ib) = true := by cases ib <;> rfl
  clear hib hbx hby hk hus
  go_wp2_with fail
  rw [HW2.out]
  clear hE
  obtain ⟨bf101, bg101, bh101, bz101⟩ := PA.out
  obtain ⟨bf102, bg102, bh102, bz102⟩ := PB.out
  go_wp2_with fail
  go_at_call 21
  refine (Mx.instanceOf_impl x y _ _ _ HNX.out TX2.out TY2.out).mono ?_
  rintro e w1 ⟨rfl, hb⟩
  have Z104 := Lib.hid (show W2.heap.size ≤ w1.heap.size from hb.size)
  have B105 := Lib.hid (PA.out.kept hb)
  have B106 := Lib.hid (PB.out.kept hb)
  have T107 := Lib.hid (TX2.out.kept hb)
  have T108 := Lib.hid (TY2.out.kept hb)
  have H109 := Lib.hid (H2.out.trans (hb.mono H2.out.size))
  rw [HIB.out]
  clear bf101 bg101 bh101 bz101 bf102 bg102 bh102 bz102
  clear hb
  obtain ⟨bf110, bg110, bh110, bz110⟩ := B105.out
  obtain ⟨bf111, bg111, bh111, bz111⟩ := B106.out
  go_wp2_with fail
  go_at_call 22
  refine (Mx.instanceOf_spec x y _ _ _ T107.out.at T108.out.at).mono ?_
  rintro e w2 ⟨rfl, hb⟩
  have Z113 := Lib.hid (show w1.heap.size ≤ w2.heap.size from hb.size)
  have B114 := Lib.hid (B105.out.kept hb)
  have B115 := Lib.hid (B106.out.kept hb)
  have T116 := Lib.hid (T107.out.kept hb)
  have T117 := Lib.hid (T108.out.kept hb)
  have H118 := Lib.hid (H109.out.trans (hb.mono H109.out.size))
  rw [HIB.out]
  clear bf110 bg110 bh110 bz110 bf111 bg111 bh111 bz111
  clear hb
  obtain ⟨bf119, bg119, bh119, bz119⟩ := B114.out
  go_wp2_with fail
  go_at_call 15
  refine (typeValid_impl x _ _ T116.out.at).mono ?_
  rintro e w3 ⟨rfl, hb⟩
  have Z121 := Lib.hid (show w2.heap.size ≤ w3.heap.size from hb.size)
  have B122 := Lib.hid (B114.out.kept hb)
  have B123 := Lib.hid (B115.out.kept hb)
  have T124 := Lib.hid (T116.out.kept hb)
  have T125 := Lib.hid (T117.out.kept hb)
  have H126 := Lib.hid (H118.out.trans (hb.mono H118.out.size))
  rw [HBX.out]
  clear bf119 bg119 bh119 bz119
  clear hb
  rcases bx with _ | _
  · skip
    have hib0 := HNO.out (.inl rfl)
    subst hib0
    obtain ⟨bf127, bg127, bh127, bz127⟩ := B122.out
    obtain ⟨bf128, bg128, bh128, bz128⟩ := B123.out
    go_wp2_with fail
    go_at_call 22
    refine (Mx.instanceOf_spec x y _ _ _ T124.out.at T125.out.at).mono ?_
    rintro e w4 ⟨rfl, hb⟩
    have Z130 := Lib.hid (show w3.heap.size ≤ w4.heap.size from hb.size)
    have B131 := Lib.hid (B122.out.kept hb)
    have B132 := Lib.hid (B123.out.kept hb)
    have T133 := Lib.hid (T124.out.kept hb)
    have T134 := Lib.hid (T125.out.kept hb)
    have H135 := Lib.hid (H126.out.trans (hb.mono H126.out.size))
    rw [HIB.out]
    clear bf127 bg127 bh127 bz127 bf128 bg128 bh128 bz128
    clear hb
    go_wp2_with fail
    go_ret
    exact ⟨rfl, H135.out⟩
  · skip
    obtain ⟨bf127, bg127, bh127, bz127⟩ := B123.out
    go_wp2_with fail
    go_at_call 15
    refine (typeValid_impl y _ _ T125.out.at).mono ?_
    rintro e w5 ⟨rfl, hb⟩
    have Z129 := Lib.hid (show w3.heap.size ≤ w5.heap.size from hb.size)
    have B130 := Lib.hid (B122.out.kept hb)
    have B131 := Lib.hid (B123.out.kept hb)
    have T132 := Lib.hid (T124.out.kept hb)
    have T133 := Lib.hid (T125.out.kept hb)
    have H134 := Lib.hid (H126.out.trans (hb.mono H126.out.size))
    rw [HBY.out]
    clear bf127 bg127 bh127 bz127
    clear hb
    rcases by_ with _ | _
    · skip
      have hib0 := HNO.out (.inr rfl)
      subst hib0
      obtain ⟨bf135, bg135, bh135, bz135⟩ := B130.out
      obtain ⟨bf136, bg136, bh136, bz136⟩ := B131.out
      go_wp2_with fail
      go_at_call 22
      refine (Mx.instanceOf_spec x y _ _ _ T132.out.at T133.out.at).mono ?_
      rintro e w6 ⟨rfl, hb⟩
      have Z138 := Lib.hid (show w5.heap.size ≤ w6.heap.size from hb.size)
      have B139 := Lib.hid (B130.out.kept hb)
      have B140 := Lib.hid (B131.out.kept hb)
      have T141 := Lib.hid (T132.out.kept hb)
      have T142 := Lib.hid (T133.out.kept hb)
      have H143 := Lib.hid (H134.out.trans (hb.mono H134.out.size))
      rw [HIB.out]
      clear bf135 bg135 bh135 bz135 bf136 bg136 bh136 bz136
      clear hb
      go_wp2_with fail
      go_ret
      exact ⟨rfl, H143.out⟩
    · skip
      have HIV : Hid (Mx.instB x (.node 4 (k : Int) []) = true) := Lib.hid (inst_var HBX.out (by omega) (by omega))
      have HCL : Hid (us = [] → Mx.instB x y = sameB x y) := Lib.hid (fun h => inst_closed HBX.out HBY.out (by rw [HUS.out]; exact h))
      have Tvo : Hid (TyOk w5 (.node 4 (k : Int) []) (.slice none 0 0)) := Lib.hid (.bare _ _ _ _)
      obtain ⟨W6, hW135⟩ : ∃ W, w5.alloc (.cells #[.int .i64 4, .int .i64 (k : Int), .slice none 0 0] 25) = W := ⟨_, rfl⟩
      have hA135 : Below w5.heap.size w5 W6 := by rw [← hW135]; exact (Below.refl _ _).alloc (Nat.le_refl _) _
      have hZ135 : W6.heap.size = w5.heap.size + 1 := by rw [← hW135]; simp
      have B135n : Hid (TBox W6 w5.heap.size (.int .i64 4) (.int .i64 (k : Int)) (.slice none 0 0)) := Lib.hid (by rw [← hW135]; exact tbox_new w5 _ _ _ _)
      have Zb135 := Lib.hid hZ135
      have Z137 := Lib.hid (show w5.heap.size ≤ W6.heap.size from hA135.size)
      have B138 := Lib.hid (B130.out.kept hA135)
      have B139 := Lib.hid (B131.out.kept hA135)
      have T140 := Lib.hid (T132.out.kept hA135)
      have T141 := Lib.hid (T133.out.kept hA135)
      have T142 := Lib.hid (Tvo.out.kept hA135)
      have H143 := Lib.hid (H134.out.trans (hA135.mono H134.out.size))
      clear hA135 hZ135
      have HWV := Lib.hid hW135
      clear hW135
      have hBxa := B138.out
      rw [← HWV.out] at hBxa
      obtain ⟨ma0, ma1, ma2, maz⟩ := hBxa
      have hBxv := B135n.out
      rw [← HWV.out] at hBxv
      obtain ⟨mv0, mv1, mv2, mvz⟩ := hBxv
      go_wp2_with fail
      try rw [HWV.out]
      clear ma0 ma1 ma2 maz mv0 mv1 mv2 mvz
      go_at_call 21
      refine (Mx.instanceOf_impl x (.node 4 (k : Int) []) _ _ _ HNX.out T140.out T142.out).mono ?_
      rintro e w7 ⟨rfl, hb⟩
      have Z145 := Lib.hid (show W6.heap.size ≤ w7.heap.size from hb.size)
      have B146 := Lib.hid (B138.out.kept hb)
      have B147 := Lib.hid (B139.out.kept hb)
      have B148 := Lib.hid (B135n.out.kept hb)
      have T149 := Lib.hid (T140.out.kept hb)
      have T150 := Lib.hid (T141.out.kept hb)
      have T151 := Lib.hid (T142.out.kept hb)
      have H152 := Lib.hid (H143.out.trans (hb.mono H143.out.size))
      rw [HIV.out]
      clear hb
      obtain ⟨bf153, bg153, bh153, bz153⟩ := B147.out
      go_wp2_with fail
      go_at_call 26
      refine (typeVars_impl HUS.out _ _ T150.out.at).mono ?_
      rintro e w8 ⟨lv, rfl, hli, hb⟩
      obtain ⟨la, lcc, rfl⟩ := ints_slice hli
      clear hli
      have Z155 := Lib.hid (show w7.heap.size ≤ w8.heap.size from hb.size)
      have B156 := Lib.hid (B146.out.kept hb)
      have B157 := Lib.hid (B147.out.kept hb)
      have B158 := Lib.hid (B148.out.kept hb)
      have T159 := Lib.hid (T149.out.kept hb)
      have T160 := Lib.hid (T150.out.kept hb)
      have T161 := Lib.hid (T151.out.kept hb)
      have H162 := Lib.hid (H152.out.trans (hb.mono H152.out.size))
      clear bf153 bg153 bh153 bz153
      clear hb
      rcases us with _ | ⟨m0, ur⟩
      · skip
        have HSB : Hid (sameB x y = ib) := Lib.hid (by rw [← HCL.out rfl, HIB.out])
        obtain ⟨bf163, bg163, bh163, bz163⟩ := B156.out
        obtain ⟨bf164, bg164, bh164, bz164⟩ := B157.out
        go_wp2_with fail
        go_at_call 17
        refine (typeSame_impl x y 0 _ _ _ HNX.out T159.out T160.out).mono ?_
        rintro e w9 ⟨rfl, hb⟩
        have Z166 := Lib.hid (show w8.heap.size ≤ w9.heap.size from hb.size)
        have B167 := Lib.hid (B156.out.kept hb)
        have B168 := Lib.hid (B157.out.kept hb)
        have B169 := Lib.hid (B158.out.kept hb)
        have T170 := Lib.hid (T159.out.kept hb)
        have T171 := Lib.hid (T160.out.kept hb)
        have T172 := Lib.hid (T161.out.kept hb)
        have H173 := Lib.hid (H162.out.trans (hb.mono H162.out.size))
        rw [HSB.out]
        clear bf163 bg163 bh163 bz163 bf164 bg164 bh164 bz164
        clear hb
        go_wp2_with fail
        go_ret
        exact ⟨rfl, H173.out⟩
      · skip
        have hpos : (0 : Int) < (((m0 :: ur).length : Nat) : Int) := by simp only [List.length_cons]; omega
        go_wp2_with fail
        go_ret
        exact ⟨rfl, H162.out⟩

set_option maxRecDepth 100000 in
theorem lifted (os : Os) (started : os.Started) (H : Type) (enc : TypeId × Value → H) :
    ReturnsInHanded {} Try.checked os 8 .any (Rows.fnClosedInstanceSpec.pre6 enc Try.prog Try.f8 Rows.fnClosedInstanceRow.domain false) (Rows.fnClosedInstanceSpec.post enc Try.prog Try.f8 false true false false) := by
  refine returnsInHanded_of_change (C := Try.checked) own started (by kernel_rfl) Try.func8
    (ChangeSpec.witness6 (enc := enc) (C := Try.checked) false ⟨#[], #[.slice none 0 0, .slice none 0 0], []⟩ 8 (by kernel_rfl) (by kernel_rfl) (by kernel_rfl) (by kernel_rfl)) ?_
  intro W base args ds gs before hval0 hW hcnd _
  have hval : ∀ (j : Nat) t v, Try.f8.params[j]? = some t → args[j]? = some v → Value.okWide Try.prog W .any base t v := hval0
  have hW' := hW
  obtain ⟨p, q, hA0, hV, rfl, hfz, hnd⟩ := hW
  have hA : DataW.TrodAll enc Try.prog W 0 (fun _ => true) true Try.f8.params.toList args.toList ds p := hA0
  rw [Try.params8] at hA hval
  obtain ⟨v0, vs0, d0, ds0, p0, q0, hargs, rfl, rfl, h0, r0⟩ := trodAll_cons hA
  obtain ⟨v1, vs1, d1, ds1, p1, q1, rfl, rfl, rfl, h1, r1⟩ := trodAll_cons r0
  obtain ⟨rfl, rfl, rfl⟩ := trodAll_nil r1
  obtain rfl : args = #[v0, v1] := by cases args; simp_all
  obtain ⟨rfl, rfl⟩ := trodVars_none hV
  have k0 := h0
  have lt0 : ∀ x ∈ p0, x.block < W.heap.size := by obtain ⟨m, hm⟩ := k0; exact DataW.trod_lt m _ _ _ hm
  have k1 := h1
  have lt1 : ∀ x ∈ p1, x.block < W.heap.size := by obtain ⟨m, hm⟩ := k1; exact DataW.trod_lt m _ _ _ hm
  obtain ⟨a0, len0, cap0, rfl⟩ := okWide_slice Try.underlying22 (hval 0 22 v0 rfl rfl)
  obtain ⟨z0, w0⟩ : ∃ zs, IsRow W a0 len0 cap0 zs := by
    obtain ⟨fuel, hf⟩ := h0
    rcases open_ints Try.underlying22 Try.underlying5 (by kernel_rfl) hf with ⟨hcs, _⟩ | ⟨x, l, c, zs, hcs, _, hl, hm, hz, _, hcell, hwz⟩
    · simp [Value.cells] at hcs
      obtain ⟨rfl, rfl, rfl⟩ := hcs
      exact ⟨[], .inl ⟨rfl, rfl, rfl, rfl⟩⟩
    · simp [Value.cells] at hcs
      obtain ⟨rfl, rfl, rfl⟩ := hcs
      exact ⟨zs, .inr ⟨_, rfl, hl, hm, by simpa using hz, hcell, hwz⟩⟩
  obtain ⟨a1, len1, cap1, rfl⟩ := okWide_slice Try.underlying22 (hval 1 22 v1 rfl rfl)
  obtain ⟨z1, w1⟩ : ∃ zs, IsRow W a1 len1 cap1 zs := by
    obtain ⟨fuel, hf⟩ := h1
    rcases open_ints Try.underlying22 Try.underlying5 (by kernel_rfl) hf with ⟨hcs, _⟩ | ⟨x, l, c, zs, hcs, _, hl, hm, hz, _, hcell, hwz⟩
    · simp [Value.cells] at hcs
      obtain ⟨rfl, rfl, rfl⟩ := hcs
      exact ⟨[], .inl ⟨rfl, rfl, rfl, rfl⟩⟩
    · simp [Value.cells] at hcs
      obtain ⟨rfl, rfl, rfl⟩ := hcs
      exact ⟨zs, .inr ⟨_, rfl, hl, hm, by simpa using hz, hcell, hwz⟩⟩
  clear hA0 hval0
  refine (walk a0 len0 cap0 z0 a1 len1 cap1 z1 W w0 w1).mono fun e W' ⟨he, bel⟩ => ?_
  subst he
  exact ⟨_, rfl, _, _, _, [], _, [], hW', trodAll_mk1 (shut_bool Try.underlying4 _), (trodAll_cons_mk (Below.trod laidOut (by kernel_rfl) (of_decide_eq_true (by kernel_rfl)) k0 bel lt0) (trodAll_cons_mk (Below.trod laidOut (by kernel_rfl) (of_decide_eq_true (by kernel_rfl)) k1 bel lt1) trodAll_mk0)), rfl, bel.frame _, fun h => by cases h⟩

theorem over : Rows.fnClosedInstanceRow.holds Try.pinned (OpenSpec.ofChange Rows.fnClosedInstanceSpec) :=
  OpenClaim.holds_of_wide 8 Try.f8 rfl rfl rfl rfl rfl rfl rfl ⟨rfl, rfl, rfl, rfl, rfl⟩ rfl rfl rfl rfl rfl (by kernel_rfl) Try.func8 (by kernel_rfl)
    (of_decide_eq_true (by kernel_rfl)) (by unfold Func.isWrapper; first | (rw [if_pos (by decide +kernel)]; kernel_rfl) | (rw [if_neg (by decide +kernel)]; exact ⟨rfl, rfl⟩))
    (fun os started H enc _ => lifted os started H enc)

/-- The given statement. -/
theorem proved : Rows.FnClosedInstanceSaid := over
end Go.Proofs.Ytndpoejohpmifaa.fnClosedInstance
