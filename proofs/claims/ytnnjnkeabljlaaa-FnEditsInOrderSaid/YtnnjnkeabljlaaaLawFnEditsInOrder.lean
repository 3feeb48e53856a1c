/-
  FnEditsInOrder returns true for every slice of bytes, and it reads as it did: edits in order are valid, and do not clash. No conditions.
-/
import Derived.Test.YtnnjnkeabljlaaaRows
import Derived.ProofKit
import Derived.OpenShut
import Derived.ShutString
import Derived.ChangeOld
import Derived.Below
import Derived.Lib.SmallJoins
import Derived.Test.YtnnjnkeabljlaaaIr
import Derived.Test.YtnnjnkeabljlaaaIh
import Derived.Test.YtnnjnkeabljlaaaIe
import Derived.Test.YtnnjnkeabljlaaaIs
import Derived.BigQuiet
import Derived.Deep.DeepCutAuto
import Derived.Deep.RegionHeld3
import Derived.Deep.RegionWith
namespace Go.Proofs.Ytnnjnkeabljlaaa.fnEditsInOrder
open Go.Proofs.Ytnnjnkeabljlaaa
open Go.ChangeShapes Go.WideShapes Go.ChangeAt Go.RowKit Go.Joins
open Go.ChangeMaps (open_string shut_string)
set_option linter.unusedVariables false
set_option linter.unusedSimpArgs false

theorem own : ownKnob Try.prog.godebug = none := by kernel_rfl
theorem laidOut : laidOutB Try.prog = true := by kernel_rfl

theorem applyEdit_impl_at (s : ByteArray) (f t : Int) (i y : ByteArray) (hb : fitsB s f t i = true) (hy : ap s f t i = y) (w : World) :
    Calls Try.prog 17 #[.string s, .agg #[.int .i64 f, .int .i64 t, .string i]] w fun e w' => e = .returned (.tuple #[.string y, .bool true]) ∧ Below w.heap.size w w' := by
  subst hy; exact applyEdit_impl_yes s f t i hb w
set_option maxRecDepth 100000 in
set_option maxHeartbeats 8000000 in
theorem walk (a : Option Addr) (len cap : Nat) (zs : List Int) (w : World) (hrow : IsRow w a len cap zs) :
    Calls Try.prog 4 #[.slice a len cap] w fun e w' => e = .returned (.bool true) ∧ Below w.heap.size w w' := by
  have HRow := Lib.hid hrow
  have hm := hrow.len
  unfold maxLen at hm
  clear hrow
  by_cases hl : len ≤ 1048576
  case neg =>
    go_enter Try.func4, Try.ntmps4
    go_wp2
    go_ret
    exact ⟨rfl, Below.refl _ _⟩
  go_enter Try.func4, Try.ntmps4
  go_wp2_with fail
  go_at_call 11
  refine (drawEditsInOrder_any a len cap zs _ HRow.out).mono ?_
  rintro e w0 ⟨s, L, b, cp, hs, hl4, hsm, rfl, hx, hb0, _⟩
  have HB0 := Lib.hid hb0
  have HSL : Hid (s.size ≤ maxLen) := Lib.hid (by unfold maxLen; omega)
  have HX := Lib.hid hx
  have HZ : Hid (EdSz L) := Lib.hid (sz_small hsm)
  clear hb0 hx hsm
  rcases hv : ordB s L with _ | _
  · have HV := Lib.hid hv
    clear hv
    go_wp2_with fail
    go_at_call 10
    refine (editsInOrder_impl s L _ _ HV.out HSL.out HZ.out _ HX.out).mono ?_
    rintro e w1 ⟨rfl, hb1⟩
    have HB1 := Lib.hid (HB0.out.trans (hb1.mono HB0.out.size))
    have HX1 := Lib.hid (HX.out.kept hb1)
    clear hb1
    go_wp2_with fail
    go_at_call 12
    refine (editsInOrder_spec s L _ _ HV.out HSL.out HZ.out _ HX1.out).mono ?_
    rintro e w2 ⟨rfl, hb2⟩
    have HB2 := Lib.hid (HB1.out.trans (hb2.mono HB1.out.size))
    have HX2 := Lib.hid (HX1.out.kept hb2)
    clear hb2
    go_wp2_with fail
    go_at_call 12
    refine (editsInOrder_spec s L _ _ HV.out HSL.out HZ.out _ HX2.out).mono ?_
    rintro e w3 ⟨rfl, hb3⟩
    have HB3 := Lib.hid (HB2.out.trans (hb3.mono HB2.out.size))
    clear hb3
    go_wp2_with fail
    go_ret
    exact ⟨rfl, HB3.out⟩
  · have HV := Lib.hid hv
    clear hv
    obtain ⟨n, hn⟩ : ∃ n, L.length = n := ⟨_, rfl⟩
    have HN := Lib.hid hn
    rw [hn] at hl4 HX ⊢
    clear hn
    go_wp2_with fail
    go_at_call 10
    refine (editsInOrder_impl s L _ _ HV.out HSL.out HZ.out _ HX.out).mono ?_
    rintro e w1 ⟨rfl, hb1⟩
    have HB1 := Lib.hid (HB0.out.trans (hb1.mono HB0.out.size))
    have HX1 := Lib.hid (HX.out.kept hb1)
    clear hb1
    go_wp2_with fail
    go_at_call 12
    refine (editsInOrder_spec s L _ _ HV.out HSL.out HZ.out _ HX1.out).mono ?_
    rintro e w2 ⟨rfl, hb2⟩
    have HB2 := Lib.hid (HB1.out.trans (hb2.mono HB1.out.size))
    have HX2 := Lib.hid (HX1.out.kept hb2)
    clear hb2
    go_wp2_with fail
    go_loopw [6] (fun iv wr => ∃ i : Nat, i ≤ n ∧ iv = .int .i64 i ∧ Below w2.heap.size w2 wr) (fun iv _ => n - (intOf iv).toNat)
    case atStart => exact ⟨0, Nat.zero_le _, rfl, Below.refl _ _⟩
    case round =>
      obtain ⟨i, hi, rfl, hB⟩ := hrel
      have HB := Lib.hid hB
      clear hB
      by_cases hlt : i < n
      case neg =>
        have hki : ¬ (i : Int) < (n : Int) := by omega
        have HT : Hid (tv s = true) := Lib.hid (ordB_iff.mp HV.out).1
        clear hlt
        go_wp2_with fail
        go_at_call 15
        refine (textValid_impl s _ HT.out HSL.out _).mono ?_
        rintro e w3 ⟨rfl, rfl⟩
        go_wp2_with fail
        go_ret
        exact ⟨rfl, HB2.out.trans (HB.out.mono HB2.out.size)⟩
      have hki : (i : Int) < (n : Int) := by omega
      have hiL : i < L.length := by rw [HN.out]; exact hlt
      obtain ⟨x, hx⟩ : ∃ x, L.getD i Ed.dummy = x := ⟨_, rfl⟩
      have HF : Hid (fitsB s x.f x.t x.i = true) := Lib.hid (by rw [← hx]; exact ord_fits HV.out hiL)
      have HXI : Hid (x.i.size ≤ maxLen) := Lib.hid (by rw [← hx]; exact HZ.out i hiL)
      have HXX := Lib.hid hx
      clear hx
      go_wp2_with fail
      go_loopw [7] (fun kv wq => ∃ k : Nat, k ≤ i ∧ kv = .int .i64 k ∧ Below w2.heap.size w2 wq) (fun kv _ => i - (intOf kv).toNat)
      case atStart => exact ⟨0, Nat.zero_le _, rfl, HB.out⟩
      case round =>
        clear HB
        obtain ⟨k, hk, rfl, hB⟩ := hrel
        have HB := Lib.hid hB
        clear hB
        have hkd := HX2.out.kept HB.out
        obtain ⟨xb, xo, cap2, ex, bl, hxi⟩ := (show EsAt _ L (.slice (some ⟨b, 0, none⟩) L.length cp) by rw [HN.out]; exact hkd).kid i hiL
        obtain ⟨rfl, rfl⟩ : b = xb ∧ xo = 0 := by cases ex; exact ⟨rfl, rfl⟩
        rw [HXX.out] at hxi
        obtain ⟨x0, x1, x2⟩ := hxi
        rw [Nat.zero_add] at x0 x1 x2
        clear ex
        by_cases hkt : k < i
        case neg =>
          have hkk : ¬ (k : Int) < (i : Int) := by omega
          clear hkt hkd
          go_wp2_with fail
          go_at_call 14
          refine (editValid_impl s x.f x.t x.i _ HF.out HSL.out HXI.out _).mono ?_
          rintro e w3 ⟨rfl, hb3⟩
          have HB3 := Lib.hid (HB.out.trans (hb3.mono HB.out.size))
          clear hb3 x0 x1 x2 bl
          go_wp2_with fail
          go_roundw
          case rel => exact ⟨i + 1, by omega, by go_num, HB3.out⟩
          case measure => simp [intOf]; omega
        have hkk : (k : Int) < (i : Int) := by omega
        have hkn : (k : Int) < (n : Int) := by omega
        have hkL : k < L.length := by omega
        obtain ⟨yb, yo, cap3, ex, _, hyi⟩ := (show EsAt _ L (.slice (some ⟨b, 0, none⟩) L.length cp) by rw [HN.out]; exact hkd).kid k hkL
        obtain ⟨rfl, rfl⟩ : b = yb ∧ yo = 0 := by cases ex; exact ⟨rfl, rfl⟩
        obtain ⟨y, hy⟩ : ∃ y, L.getD k Ed.dummy = y := ⟨_, rfl⟩
        have HC : Hid (ecB s x.f x.t x.i y.f y.t y.i = false) := Lib.hid (by
          have h := ord_sep HV.out hkt hiL
          rw [hy, HXX.out] at h
          unfold ecB
          rw [clB_no.mpr (.inl h)]
          simp)
        have HYI : Hid (y.i.size ≤ maxLen) := Lib.hid (by rw [← hy]; exact HZ.out k hkL)
        rw [hy] at hyi
        obtain ⟨y0, y1, y2⟩ := hyi
        rw [Nat.zero_add] at y0 y1 y2
        clear ex hkd hy
        go_wp2_with fail
        go_cut [53] (fun p wx => p = .bool false ∧ Hid (Below w2.heap.size w2 wx))
        case first =>
          refine wp_region_quiet_litC (C := fun w' => Below w2.heap.size w2 w' ∧ w'.cell? ⟨b, i * 3, none⟩ = some (.int .i64 x.f) ∧ w'.cell? ⟨b, i * 3 + 1, none⟩ = some (.int .i64 x.t) ∧ w'.cell? ⟨b, i * 3 + 2, none⟩ = some (.string x.i) ∧ w'.cell? ⟨b, k * 3, none⟩ = some (.int .i64 y.f) ∧ w'.cell? ⟨b, k * 3 + 1, none⟩ = some (.int .i64 y.t) ∧ w'.cell? ⟨b, k * 3 + 2, none⟩ = some (.string y.i) ∧ wr.heap.size ≤ w'.heap.size) (by kernel_rfl) (by kernel_rfl) ⟨HB.out.drew, x0, x1, x2, y0, y1, y2, Nat.le_refl _⟩ ?_
          iterate 10 (first | go_big_quiet_skip | (go_big_quiet_want; first | (go_big_quiet_op; go_big_quiet_on) | (apply Exists.intro; refine ⟨fun w' hC => ?_, ?_⟩; (obtain ⟨cB, c0, c1, c2, c3, c4, c5, cX⟩ := hC; go_simp; first | done | rfl | exact ⟨rfl, rfl⟩ | (go_at_call 13; refine (editsClash_impl s x.f x.t x.i y.f y.t y.i _ HC.out HSL.out HXI.out HYI.out _).mono ?_; rintro e w8 ⟨rfl, hb8⟩; exact ⟨rfl, cB.trans (hb8.mono cB.size), (hb8.cell (Nat.lt_of_lt_of_le bl cX)).trans c0, (hb8.cell (Nat.lt_of_lt_of_le bl cX)).trans c1, (hb8.cell (Nat.lt_of_lt_of_le bl cX)).trans c2, (hb8.cell (Nat.lt_of_lt_of_le bl cX)).trans c3, (hb8.cell (Nat.lt_of_lt_of_le bl cX)).trans c4, (hb8.cell (Nat.lt_of_lt_of_le bl cX)).trans c5, Nat.le_trans cX hb8.size⟩)); (simp only [Act.put, List.setIfInBounds_toArray, List.set_cons_zero, List.set_cons_succ]); go_big_quiet_on)))
          refine wpQuiet_nil ?_
          intro w3 hC
          go_wp2_with fail
          go_meet
          exact ⟨rfl, Lib.hid hC.1⟩
        case rest =>
          obtain ⟨rfl, HBc⟩ := hcut
          clear x0 x1 x2 y0 y1 y2 bl
          go_wp2_with fail
          go_roundw
          case rel => exact ⟨k + 1, by omega, by go_num, HBc.out⟩
          case measure => simp [intOf]; omega

set_option maxRecDepth 100000 in
theorem lifted (os : Os) (started : os.Started) (H : Type) (enc : TypeId × Value → H) :
    ReturnsInHanded {} Try.checked os 4 .any (Rows.fnEditsInOrderSpec.pre6 enc Try.prog Try.f4 Rows.fnEditsInOrderRow.domain false) (Rows.fnEditsInOrderSpec.post enc Try.prog Try.f4 false true false false) := by
  refine returnsInHanded_of_change (C := Try.checked) own started (by kernel_rfl) Try.func4
    (ChangeSpec.witness6 (enc := enc) (C := Try.checked) false ⟨#[], #[.slice none 0 0], []⟩ 8 (by kernel_rfl) (by kernel_rfl) (by kernel_rfl) (by kernel_rfl)) ?_
  intro W base args ds gs before hval0 hW hcnd _
  have hval : ∀ (j : Nat) t v, Try.f4.params[j]? = some t → args[j]? = some v → Value.okWide Try.prog W .any base t v := hval0
  have hW' := hW
  obtain ⟨p, q, hA0, hV, rfl, hfz, hnd⟩ := hW
  have hA : DataW.TrodAll enc Try.prog W 0 (fun _ => true) true Try.f4.params.toList args.toList ds p := hA0
  rw [Try.params4] at hA hval
  obtain ⟨v0, vs0, d0, ds0, p0, q0, hargs, rfl, rfl, h0, r0⟩ := trodAll_cons hA
  obtain ⟨rfl, rfl, rfl⟩ := trodAll_nil r0
  obtain rfl : args = #[v0] := by cases args; simp_all
  obtain ⟨rfl, rfl⟩ := trodVars_none hV
  have k0 := h0
  have lt0 : ∀ x ∈ p0, x.block < W.heap.size := by obtain ⟨m, hm⟩ := k0; exact DataW.trod_lt m _ _ _ hm
  obtain ⟨a0, len0, cap0, rfl⟩ := okWide_slice Try.underlying22 (hval 0 22 v0 rfl rfl)
  obtain ⟨z0, w0⟩ : ∃ zs, IsRow W a0 len0 cap0 zs := by
    obtain ⟨fuel, hf⟩ := h0
    rcases open_ints Try.underlying22 Try.underlying5 (by kernel_rfl) hf with ⟨hcs, _⟩ | ⟨x, l, c, zs, hcs, _, hl, hm, hz, _, hcell, hwz⟩
    · simp [Value.cells] at hcs
      obtain ⟨rfl, rfl, rfl⟩ := hcs
      exact ⟨[], .inl ⟨rfl, rfl, rfl, rfl⟩⟩
    · simp [Value.cells] at hcs
      obtain ⟨rfl, rfl, rfl⟩ := hcs
      exact ⟨zs, .inr ⟨_, rfl, hl, hm, by simpa using hz, hcell, hwz⟩⟩
  clear hA0 hval0
  refine (walk a0 len0 cap0 z0 W w0).mono fun e W' ⟨he, bel⟩ => ?_
  subst he
  exact ⟨_, rfl, _, _, _, [], _, [], hW', trodAll_mk1 (shut_bool Try.underlying4 _), (trodAll_cons_mk (Below.trod laidOut (by kernel_rfl) (of_decide_eq_true (by kernel_rfl)) k0 bel lt0) trodAll_mk0), rfl, bel.frame _, fun h => by cases h⟩

theorem over : Rows.fnEditsInOrderRow.holds Try.pinned (OpenSpec.ofChange Rows.fnEditsInOrderSpec) :=
  OpenClaim.holds_of_wide 4 Try.f4 rfl rfl rfl rfl rfl rfl rfl ⟨rfl, rfl, rfl, rfl, rfl⟩ rfl rfl rfl rfl rfl (by kernel_rfl) Try.func4 (by kernel_rfl)
    (of_decide_eq_true (by kernel_rfl)) (by unfold Func.isWrapper; first | (rw [if_pos (by decide +kernel)]; kernel_rfl) | (rw [if_neg (by decide +kernel)]; exact ⟨rfl, rfl⟩))
    (fun os started H enc _ => lifted os started H enc)

/-- The given statement. -/
theorem proved : Rows.FnEditsInOrderSaid := over
end Go.Proofs.Ytnnjnkeabljlaaa.fnEditsInOrder
