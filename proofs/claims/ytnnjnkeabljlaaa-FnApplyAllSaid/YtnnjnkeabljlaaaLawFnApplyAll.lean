/-
  FnApplyAll returns true for every slice of bytes, and it reads as it did: edits in order are applied at their places. No conditions.
-/
import Derived.Test.YtnnjnkeabljlaaaRows
import Derived.ProofKit
import Derived.OpenShut
import Derived.ShutString
import Derived.ChangeOld
import Derived.Below
import Derived.Lib.SmallJoins
import Derived.Test.YtnnjnkeabljlaaaIr
import Derived.Test.YtnnjnkeabljlaaaIh
import Derived.Test.YtnnjnkeabljlaaaIj
import Derived.Test.YtnnjnkeabljlaaaIl
import Derived.Test.YtnnjnkeabljlaaaIs
import Derived.BigQuiet
import Derived.Deep.DeepCutAuto
import Derived.Deep.RegionHeld3
import Derived.Deep.RegionWith
namespace Go.Proofs.Ytnnjnkeabljlaaa.fnApplyAll
open Go.Proofs.Ytnnjnkeabljlaaa
open Go.ChangeShapes Go.WideShapes Go.ChangeAt Go.RowKit Go.Joins
open Go.ChangeMaps (open_string shut_string)
set_option linter.unusedVariables false
set_option linter.unusedSimpArgs false

theorem own : ownKnob Try.prog.godebug = none := by kernel_rfl
theorem laidOut : laidOutB Try.prog = true := by kernel_rfl

theorem applyEdit_impl_at (s : ByteArray) (f t : Int) (i y : ByteArray) (hb : fitsB s f t i = true) (hy : ap s f t i = y) (w : World) :
    Calls Try.prog 17 #[.string s, .agg #[.int .i64 f, .int .i64 t, .string i]] w fun e w' => e = .returned (.tuple #[.string y, .bool true]) ∧ Below w.heap.size w w' := by
  subst hy; exact applyEdit_impl_yes s f t i hb w
theorem es_front {w : World} {l : List Ed} {x : Ed} {b n c : Nat} (h : EsAt w (l ++ [x]) (.slice (some ⟨b, 0, none⟩) n c)) : EsAt w l (.slice (some ⟨b, 0, none⟩) l.length c) := by
  generalize hL : l ++ [x] = L at h
  generalize hv : Value.slice (some ⟨b, 0, none⟩) n c = v at h
  have hlen : L.length = l.length + 1 := by rw [← hL]; simp
  cases h with
  | bare a cap => simp at hlen
  | row ls b o cap hb hl h0 =>
    cases hv
    refine .row l b 0 c hb (by omega) (fun i hi => ?_)
    have h := h0 i (by omega)
    have e : L.getD i Ed.dummy = l.getD i Ed.dummy := by rw [← hL]; simp [List.getD, hi, List.getElem?_append_left hi]
    rw [e] at h
    exact h
set_option maxRecDepth 100000 in
set_option maxHeartbeats 8000000 in
theorem walk (a : Option Addr) (len cap : Nat) (zs : List Int) (w : World) (hrow : IsRow w a len cap zs) :
    Calls Try.prog 3 #[.slice a len cap] w fun e w' => e = .returned (.bool true) ∧ Below w.heap.size w w' := by
  have HRow := Lib.hid hrow
  have hm := hrow.len
  unfold maxLen at hm
  clear hrow
  by_cases hl : len ≤ 1048576
  case neg =>
    go_enter Try.func3, Try.ntmps3
    go_wp2
    go_ret
    exact ⟨rfl, Below.refl _ _⟩
  go_enter Try.func3, Try.ntmps3
  go_wp2_with fail
  go_at_call 7
  refine (drawApplyAll_any a len cap zs _ HRow.out).mono ?_
  rintro e w0 ⟨s, L, b, cp, hs, hl4, hsm, rfl, hx, hb0, hc1, hc2⟩
  have HB0 := Lib.hid hb0
  have HSL : Hid (s.size ≤ maxLen) := Lib.hid (by unfold maxLen; omega)
  have HX := Lib.hid hx
  have HZ : Hid (EdSz L) := Lib.hid (sz_small hsm)
  have HSM := Lib.hid hsm
  clear hb0 hx hsm
  obtain ⟨n, hn⟩ : ∃ n, L.length = n := ⟨_, rfl⟩
  have HN := Lib.hid hn
  rw [hn] at hl4 HX hc1 ⊢
  clear hn
  rcases hv : ordB s L with _ | _
  · have HV := Lib.hid hv
    clear hv
    go_wp2_with fail
    go_at_call 8
    refine (applyAll_impl_no s L _ HV.out HSL.out HZ.out _ HX.out).mono ?_
    rintro e w1 ⟨rfl, hb1⟩
    have HB1 := Lib.hid (HB0.out.trans (hb1.mono HB0.out.size))
    have HX1 := Lib.hid (HX.out.kept hb1)
    clear hb1
    go_wp2_with fail
    go_at_call 9
    refine (applyAll_spec_no s L _ HV.out HSL.out HZ.out _ HX1.out).mono ?_
    rintro e w2 ⟨rfl, hb2⟩
    have HB2 := Lib.hid (HB1.out.trans (hb2.mono HB1.out.size))
    have HX2 := Lib.hid (HX1.out.kept hb2)
    clear hb2
    go_wp2_with fail
    go_at_call 10
    refine (editsInOrder_impl s L _ _ HV.out HSL.out HZ.out _ HX2.out).mono ?_
    rintro e w3 ⟨rfl, hb3⟩
    have HB3 := Lib.hid (HB2.out.trans (hb3.mono HB2.out.size))
    have HX3 := Lib.hid (HX2.out.kept hb3)
    clear hb3
    go_wp2_with fail
    go_at_call 10
    refine (editsInOrder_impl s L _ _ HV.out HSL.out HZ.out _ HX3.out).mono ?_
    rintro e w4 ⟨rfl, hb4⟩
    have HB4 := Lib.hid (HB3.out.trans (hb4.mono HB3.out.size))
    clear hb4
    go_wp2_with fail
    go_ret
    exact ⟨rfl, HB4.out⟩
  · have HV := Lib.hid hv
    clear hv
    obtain ⟨y, hy⟩ : ∃ y, apR s L = y := ⟨_, rfl⟩
    have HY := Lib.hid hy
    clear hy
    by_cases h0 : n = 0
    · subst h0
      have HYS : Hid (y = s) := Lib.hid (by rw [← HY.out, List.eq_nil_of_length_eq_zero HN.out]; rfl)
      go_wp2_with fail
      go_at_call 8
      refine (applyAll_impl_yes s L _ y HV.out HY.out HSL.out HZ.out _ HX.out).mono ?_
      rintro e w1 ⟨rfl, hb1⟩
      have HB1 := Lib.hid (HB0.out.trans (hb1.mono HB0.out.size))
      have HX1 := Lib.hid (HX.out.kept hb1)
      clear hb1
      go_wp2_with fail
      go_at_call 9
      refine (applyAll_spec_yes s L _ y HV.out HY.out HSL.out HZ.out _ HX1.out).mono ?_
      rintro e w2 ⟨rfl, hb2⟩
      have HB2 := Lib.hid (HB1.out.trans (hb2.mono HB1.out.size))
      have HX2 := Lib.hid (HX1.out.kept hb2)
      clear hb2
      go_wp2_with fail
      go_at_call 10
      refine (editsInOrder_impl s L _ _ HV.out HSL.out HZ.out _ HX2.out).mono ?_
      rintro e w3 ⟨rfl, hb3⟩
      have HB3 := Lib.hid (HB2.out.trans (hb3.mono HB2.out.size))
      have HX3 := Lib.hid (HX2.out.kept hb3)
      clear hb3
      go_wp2_with fail
      go_at_call 10
      refine (editsInOrder_impl s L _ _ HV.out HSL.out HZ.out _ HX3.out).mono ?_
      rintro e w4 ⟨rfl, hb4⟩
      have HB4 := Lib.hid (HB3.out.trans (hb4.mono HB3.out.size))
      clear hb4
      go_wp2_with fail
      go_ret
      exact ⟨by rw [HYS.out]; simp, HB4.out⟩
    obtain ⟨m, hm⟩ : ∃ m, n = m + 1 := ⟨n - 1, by omega⟩
    obtain ⟨l, x, hlx⟩ : ∃ l x, L = l ++ [x] := by
      refine ⟨L.take m, L.getD m Ed.dummy, ?_⟩
      have hmL : m < L.length := by rw [HN.out]; omega
      have e1 : L.getD m Ed.dummy = L[m] := by simp [List.getD, hmL]
      rw [e1, List.take_append_getElem hmL, List.take_of_length_le (by rw [HN.out]; omega)]
    have hlm : l.length = m := by have := HN.out; rw [hlx, List.length_append] at this; simp at this; omega
    have hgx : L.getD m Ed.dummy = x := by rw [hlx, ← hlm]; simp [List.getD]
    obtain ⟨hof, hap⟩ := ord_front (s := s) (x := x) (l := l) (by rw [← hlx]; exact HV.out)
    obtain ⟨z, hz⟩ : ∃ z, apR (s.extract 0 x.f.toNat) l = z := ⟨_, rfl⟩
    have hfx := ord_fits HV.out (i := m) (by rw [HN.out]; omega)
    rw [hgx] at hfx
    obtain ⟨_, _, a0, a1, a2, _⟩ := fitsB_iff.mp hfx
    rw [hz, ← hlx, HY.out] at hap
    have hys : y.size ≤ 2000 := by
      have h1 := (apR_sz (ioB_chn (ordB_iff.mp HV.out).2) (Int.le_refl 0)).1
      have h2 := ioB_gr (ordB_iff.mp HV.out).2 (by have := tv_size (ordB_iff.mp HV.out).1; omega)
      rw [HY.out] at h1
      omega
    have hsum : y.size = z.size + x.i.size + (s.extract x.t.toNat s.size).size := by rw [hap, ByteArray.size_append, ByteArray.size_append]
    have HSUM : Hid (z.size + x.i.size ≤ 2000 ∧ z.size + x.i.size + (s.extract x.t.toNat s.size).size ≤ 2000) := Lib.hid (by omega)
    clear hys hsum
    have HVP := Lib.hid hof
    have HZP := Lib.hid hz
    have HYZ := Lib.hid hap
    have HLM := Lib.hid hlm
    have HGX := Lib.hid hgx
    have HPS : Hid ((s.extract 0 x.f.toNat).size ≤ maxLen) := Lib.hid (by rw [ByteArray.size_extract]; unfold maxLen; omega)
    have HZL : Hid (EdSz l) := Lib.hid (sz_small (fun u hu => HSM.out u (by rw [hlx]; exact List.mem_append.2 (.inl hu))))
    have HLX := Lib.hid hlx
    clear hlx hlm hgx hof hap hz hfx
    have s1 : IntKind.i64.wrap ((n : Int) - 1) = (m : Int) := by rw [hm]; exact (IntWalk.i64_in _ (by push_cast; omega)).trans (by push_cast; omega)
    have hn0 : ((n : Int) == 0) = false := by rw [beq_eq_false_iff_ne]; omega
    have hmn : (m : Int) < (n : Int) := by omega
    have hm0 : (0 : Int) ≤ (m : Int) := by omega
    have hmc : (m : Int) ≤ (cp : Int) := by omega
    have hmc2 : m ≤ cp := by omega
    have hcp0 : ¬ cp = 0 := by omega
    have HM := Lib.hid hm
    clear hm h0
    go_wp2_with fail
    go_at_call 8
    refine (applyAll_impl_yes s L _ y HV.out HY.out HSL.out HZ.out _ HX.out).mono ?_
    rintro e w1 ⟨rfl, hb1⟩
    have HB1 := Lib.hid (HB0.out.trans (hb1.mono HB0.out.size))
    have HX1 := Lib.hid (HX.out.kept hb1)
    clear hb1
    go_wp2_with fail
    go_at_call 9
    refine (applyAll_spec_yes s L _ y HV.out HY.out HSL.out HZ.out _ HX1.out).mono ?_
    rintro e w2 ⟨rfl, hb2⟩
    have HB2 := Lib.hid (HB1.out.trans (hb2.mono HB1.out.size))
    have HX2 := Lib.hid (HX1.out.kept hb2)
    clear hb2
    go_wp2_with fail
    go_at_call 10
    refine (editsInOrder_impl s L _ _ HV.out HSL.out HZ.out _ HX2.out).mono ?_
    rintro e w3 ⟨rfl, hb3⟩
    have HB3 := Lib.hid (HB2.out.trans (hb3.mono HB2.out.size))
    have HX3 := Lib.hid (HX2.out.kept hb3)
    clear hb3
    obtain ⟨xb, xo, cap2, ex, bl, hxi⟩ := (show EsAt _ L (.slice (some ⟨b, 0, none⟩) L.length cp) by rw [HN.out]; exact HX3.out).kid m (by rw [HN.out]; have := HM.out; omega)
    obtain ⟨rfl, rfl⟩ : b = xb ∧ xo = 0 := by cases ex; exact ⟨rfl, rfl⟩
    rw [HGX.out] at hxi
    obtain ⟨x0, x1, x2⟩ := hxi
    rw [Nat.zero_add] at x0 x1 x2
    clear ex
    obtain ⟨W4, hW4⟩ : ∃ W, w3.alloc (.cells #[.int .i64 x.f, .int .i64 x.t, .string x.i] 30) = W := ⟨_, rfl⟩
    obtain ⟨E, hE⟩ : ∃ E, w3.heap.size = E := ⟨_, rfl⟩
    have HE4 : Hid (EdAt W4 E x.f x.t x.i) := Lib.hid (by rw [← hW4, ← hE]; exact edAt_new w3 _ _ _ _)
    have HB4 := Lib.hid (HB3.out.alloc HB3.out.size (.cells #[.int .i64 x.f, .int .i64 x.t, .string x.i] 30))
    have HX4 := Lib.hid (HX3.out.kept ((Below.refl _ _).alloc (Nat.le_refl _) (.cells #[.int .i64 x.f, .int .i64 x.t, .string x.i] 30)))
    rw [hW4] at HB4 HX4
    have HW4 := Lib.hid hW4
    have s2 : IntKind.i64.wrap ((s.size : Int) - x.f) = (s.size : Int) - x.f := IntWalk.i64_in _ (by omega)
    have a3 : x.f ≤ (s.size : Int) := by omega
    clear hW4
    obtain ⟨e0, e1, e2, e3, e4, e5, e6⟩ := HE4.out
    go_wp2_with fail
    rw [HW4.out]
    try rw [hE]
    have hEN : E < W4.heap.size := HE4.out.sz
    have HXF : Hid (EsAt W4 l (.slice (some ⟨b, 0, none⟩) m cp)) := Lib.hid (by rw [← HLM.out]; exact es_front (n := n) (by rw [← HLX.out]; exact HX4.out))
    go_cut [11, 12] (fun p1 p2 wx => p1 = .string z ∧ p2 = .bool true ∧ Hid (Below W4.heap.size W4 wx))
    case first =>
      refine wp_region_quiet_litC (C := fun w' => Below W4.heap.size W4 w' ∧ w'.cell? ⟨E, 0, none⟩ = some (.int .i64 x.f) ∧ w'.cell? ⟨E, 1, none⟩ = some (.int .i64 x.t) ∧ w'.cell? ⟨E, 2, none⟩ = some (.string x.i) ∧ W4.heap.size ≤ w'.heap.size) (by kernel_rfl) (by kernel_rfl) ⟨(Below.refl _ _).drew, e0, e1, e2, Nat.le_refl _⟩ ?_
      iterate 15 (first | go_big_quiet_skip | (go_big_quiet_want; first | (go_big_quiet_op; go_big_quiet_on) | (apply Exists.intro; refine ⟨fun w' hC => ?_, ?_⟩; (obtain ⟨cB, c0, c1, c2, cX⟩ := hC; go_simp; first | done | rfl | exact ⟨rfl, rfl⟩ | (go_at_call 8; refine (applyAll_impl_yes (s.extract 0 x.f.toNat) l _ z HVP.out HZP.out HPS.out HZL.out _ (HXF.out.kept cB)).mono ?_; rintro e w8 ⟨rfl, hb8⟩; exact ⟨rfl, cB.trans (hb8.mono cB.size), (hb8.cell (Nat.lt_of_lt_of_le hEN cX)).trans c0, (hb8.cell (Nat.lt_of_lt_of_le hEN cX)).trans c1, (hb8.cell (Nat.lt_of_lt_of_le hEN cX)).trans c2, Nat.le_trans cX hb8.size⟩)); (simp only [Act.put, List.setIfInBounds_toArray, List.set_cons_zero, List.set_cons_succ]); go_big_quiet_on)))
      refine wpQuiet_nil ?_
      intro w5 hC
      go_wp2_with fail
      go_meet
      exact ⟨rfl, rfl, Lib.hid hC.1⟩
    case rest =>
      obtain ⟨rfl, rfl, HBc⟩ := hcut
      have HE5 := Lib.hid (HE4.out.below HBc.out)
      clear e0 e1 e2 e3 e4 e5 e6
      obtain ⟨e0, e1, e2, e3, e4, e5, e6⟩ := HE5.out
      have a4 : (0 : Int) ≤ (s.size : Int) - x.f := by omega
      have a5 : (0 : Int) ≤ x.t := by omega
      obtain ⟨q1, q2⟩ := HSUM.out
      have q3 : z.size ≤ 2000 := by omega
      have q4 : x.i.size ≤ 2000 := by omega
      have hd : decide ((0 : Int) ≤ (s.size : Int) - x.f) = true := decide_eq_true a4
      go_wp2_with fail
      go_quiet (fail)
      go_wp2_with fail
      go_ret
      exact ⟨by rw [HYZ.out]; simp, by first | exact (HB4.out.trans (HBc.out.mono HB4.out.size)) | exact (HB4.out.trans (HBc.out.mono HB4.out.size)).drew | (refine Below.trans (HB4.out.trans (HBc.out.mono HB4.out.size)) ?_; exact ⟨rfl, rfl, rfl, Nat.le_refl _, fun _ _ => rfl⟩)⟩

set_option maxRecDepth 100000 in
theorem lifted (os : Os) (started : os.Started) (H : Type) (enc : TypeId × Value → H) :
    ReturnsInHanded {} Try.checked os 3 .any (Rows.fnApplyAllSpec.pre6 enc Try.prog Try.f3 Rows.fnApplyAllRow.domain false) (Rows.fnApplyAllSpec.post enc Try.prog Try.f3 false true false false) := by
  refine returnsInHanded_of_change (C := Try.checked) own started (by kernel_rfl) Try.func3
    (ChangeSpec.witness6 (enc := enc) (C := Try.checked) false ⟨#[], #[.slice none 0 0], []⟩ 8 (by kernel_rfl) (by kernel_rfl) (by kernel_rfl) (by kernel_rfl)) ?_
  intro W base args ds gs before hval0 hW hcnd _
  have hval : ∀ (j : Nat) t v, Try.f3.params[j]? = some t → args[j]? = some v → Value.okWide Try.prog W .any base t v := hval0
  have hW' := hW
  obtain ⟨p, q, hA0, hV, rfl, hfz, hnd⟩ := hW
  have hA : DataW.TrodAll enc Try.prog W 0 (fun _ => true) true Try.f3.params.toList args.toList ds p := hA0
  rw [Try.params3] at hA hval
  obtain ⟨v0, vs0, d0, ds0, p0, q0, hargs, rfl, rfl, h0, r0⟩ := trodAll_cons hA
  obtain ⟨rfl, rfl, rfl⟩ := trodAll_nil r0
  obtain rfl : args = #[v0] := by cases args; simp_all
  obtain ⟨rfl, rfl⟩ := trodVars_none hV
  have k0 := h0
  have lt0 : ∀ x ∈ p0, x.block < W.heap.size := by obtain ⟨m, hm⟩ := k0; exact DataW.trod_lt m _ _ _ hm
  obtain ⟨a0, len0, cap0, rfl⟩ := okWide_slice Try.underlying22 (hval 0 22 v0 rfl rfl)
  obtain ⟨z0, w0⟩ : ∃ zs, IsRow W a0 len0 cap0 zs := by
    obtain ⟨fuel, hf⟩ := h0
    rcases open_ints Try.underlying22 Try.underlying5 (by kernel_rfl) hf with ⟨hcs, _⟩ | ⟨x, l, c, zs, hcs, _, hl, hm, hz, _, hcell, hwz⟩
    · simp [Value.cells] at hcs
      obtain ⟨rfl, rfl, rfl⟩ := hcs
      exact ⟨[], .inl ⟨rfl, rfl, rfl, rfl⟩⟩
    · simp [Value.cells] at hcs
      obtain ⟨rfl, rfl, rfl⟩ := hcs
      exact ⟨zs, .inr ⟨_, rfl, hl, hm, by simpa using hz, hcell, hwz⟩⟩
  clear hA0 hval0
  refine (walk a0 len0 cap0 z0 W w0).mono fun e W' ⟨he, bel⟩ => ?_
  subst he
  exact ⟨_, rfl, _, _, _, [], _, [], hW', trodAll_mk1 (shut_bool Try.underlying4 _), (trodAll_cons_mk (Below.trod laidOut (by kernel_rfl) (of_decide_eq_true (by kernel_rfl)) k0 bel lt0) trodAll_mk0), rfl, bel.frame _, fun h => by cases h⟩

theorem over : Rows.fnApplyAllRow.holds Try.pinned (OpenSpec.ofChange Rows.fnApplyAllSpec) :=
  OpenClaim.holds_of_wide 3 Try.f3 rfl rfl rfl rfl rfl rfl rfl ⟨rfl, rfl, rfl, rfl, rfl⟩ rfl rfl rfl rfl rfl (by kernel_rfl) Try.func3 (by kernel_rfl)
    (of_decide_eq_true (by kernel_rfl)) (by unfold Func.isWrapper; first | (rw [if_pos (by decide +kernel)]; kernel_rfl) | (rw [if_neg (by decide +kernel)]; exact ⟨rfl, rfl⟩))
    (fun os started H enc _ => lifted os started H enc)

/-- The given statement. -/
theorem proved : Rows.FnApplyAllSaid := over
end Go.Proofs.Ytnnjnkeabljlaaa.fnApplyAll
