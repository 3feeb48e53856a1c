/-
  FnLinesOf returns true for every input of bytes, and it reads as it did: lines are joined. No conditions.
-/
import Derived.Test.YtiaoopikmkakbaaDoorVw
import Derived.Test.YtiaoopikmkakbaaDoorVk
namespace Go.Proofs.YtiaoopikmkakbaaDoor.fnLinesOf
open Go.Proofs.YtiaoopikmkakbaaDoor
open Go.ChangeShapes Go.WideShapes Go.ChangeAt Go.RowKit Go.Joins
open Go.ChangeMaps (open_string shut_string)
set_option linter.unusedVariables false

set_option maxHeartbeats 4000000 in
theorem walk (a : Option Addr) (len cap : Nat) (zs : List Int) (w : World) (h : IsRow w a len cap zs) :
    Calls Tryd.prog 5 #[.slice a len cap] w fun e w' => e = .returned (.bool true) ∧ Below w.heap.size w w' := by
  have HZ : Hid (IsRow w a len cap zs) := Lib.hid h
  clear h
  by_cases hl : len ≤ 1048576
  case neg =>
    go_enter Tryd.func5, Tryd.ntmps5
    go_wp2
    go_ret
    exact ⟨rfl, Below.refl _ _⟩
  go_enter Tryd.func5, Tryd.ntmps5
  go_wp2_with fail
  go_at_call 16
  refine (drawLinesOf_any a len cap zs _ HZ.out).mono ?_
  rintro e w1 ⟨s, hs, rfl, hb1⟩
  have HSZ := Lib.hid hs
  have HSL : Hid (s.size ≤ maxLen) := Lib.hid (by unfold maxLen; omega)
  have H1 := Lib.hid hb1
  obtain ⟨L, hL⟩ : ∃ L, (linesB s).length = L := ⟨_, rfl⟩
  have hL1 : L ≤ 2001 := by rw [← hL]; exact linesB_len s
  have HL := Lib.hid hL
  clear hL hb1 hs
  go_wp2_with fail
  go_at_call 15
  refine (linesOf_impl s HSL.out _).mono ?_
  rintro e w2 ⟨v2, rfl, own2, hb2⟩
  obtain ⟨z2, y2, hv2⟩ := owns_slice own2
  rw [HL.out] at hv2
  subst hv2
  have OWN2 := Lib.hid own2
  have B2 := Lib.hid hb2
  have H2 : Hid (Below w.heap.size w w2) := Lib.hid (H1.out.trans (hb2.mono H1.out.size))
  clear own2 hb2
  go_wp2_with fail
  go_at_call 18
  refine (linesOf_spec s HSL.out _).mono ?_
  rintro e w3 ⟨v3, rfl, own3, hb3⟩
  obtain ⟨z3, y3, hv3⟩ := owns_slice own3
  rw [HL.out] at hv3
  subst hv3
  have OWN3 := Lib.hid own3
  have B3 := Lib.hid hb3
  have H3 : Hid (Below w.heap.size w w3) := Lib.hid (H2.out.trans (hb3.mono H2.out.size))
  clear own3 hb3
  go_wp2_with fail
  go_at_call 17
  refine (lvTexts_same _ _ (linesB s) (by rw [HL.out]; omega) _ _ _ (owns_below OWN2.out B3.out) OWN3.out).mono ?_
  rintro e w4 ⟨rfl, hb4⟩
  have B4 := Lib.hid hb4
  have H4 : Hid (Below w.heap.size w w4) := Lib.hid (H3.out.trans (hb4.mono H3.out.size))
  clear hb4
  have OWN4 : Hid (w4.ownsRow w1.heap.size 9 1 (.slice z2 L y2) (linesB s).length ((linesB s).map Value.string)) := Lib.hid (owns_below OWN2.out (B3.out.trans (B4.out.mono B3.out.size)))
  rcases hv : tv s with _ | _
  · have HV := Lib.hid hv
    have hL0 : L = 0 := by rw [← HL.out, linesB_no hv]; rfl
    subst hL0
    clear hv
    go_wp2_with (go_at_call 19; refine (textValid_impl s false HV.out HSL.out _).mono ?_; rintro e w' ⟨rfl, rfl⟩)
    go_at_call 18
    refine (linesOf_spec s HSL.out _).mono ?_
    rintro e w5 ⟨v5, rfl, own5, hb5⟩
    obtain ⟨z5, y5, hv5⟩ := owns_slice own5
    rw [HL.out] at hv5
    subst hv5
    have OWN5 := Lib.hid own5
    have B5 := Lib.hid hb5
    have H5 : Hid (Below w.heap.size w w5) := Lib.hid (H4.out.trans (hb5.mono H4.out.size))
    clear own5 hb5
    go_wp2_with fail
    go_at_call 17
    refine (lvTexts_same _ _ (linesB s) (by rw [HL.out]; omega) _ _ _ (owns_below OWN4.out B5.out) OWN5.out).mono ?_
    rintro e w6 ⟨rfl, hb6⟩
    have B6 := Lib.hid hb6
    have H6 : Hid (Below w.heap.size w w6) := Lib.hid (H5.out.trans (hb6.mono H5.out.size))
    clear hb6
    go_wp2_with (first | (go_at_call 19; refine (textValid_impl s false HV.out HSL.out _).mono ?_; rintro e w' ⟨rfl, rfl⟩) | (go_at_call 20; refine (textValid_spec s false HV.out HSL.out _).mono ?_; rintro e w' ⟨rfl, rfl⟩))
    all_goals go_ret
    all_goals exact ⟨rfl, H6.out⟩
  · have HV := Lib.hid hv
    have HC : Hid (linesB s = cut s 10) := Lib.hid (linesB_yes hv)
    have HJ : Hid (∀ k, ((jb ((linesB s).take k)).length : Int) ≤ 2011) := Lib.hid (fun k => by
      rw [jb_length, HC.out]
      have h1 := lenSum_take (cut s 10) k
      have h2 := lenSum_cut s
      have h3 := HSZ.out
      omega)
    clear hv
    go_wp2_with (go_at_call 19; refine (textValid_impl s true HV.out HSL.out _).mono ?_; rintro e w' ⟨rfl, rfl⟩)
    go_loopw [5, 6] (fun xv i wr => ∃ (k : Nat) (x : ByteArray), k ≤ L ∧ i = .int .i64 k ∧ xv = .string x ∧ Hid (x.data.toList ++ (if k = 0 then [] else [10]) = jb ((linesB s).take k)) ∧ x.size ≤ 2011 ∧ Below w4.heap.size w4 wr) (fun _ i _ => L - (intOf i).toNat)
    case atStart => exact ⟨0, ⟨#[]⟩, Nat.zero_le _, rfl, rfl, Lib.hid rfl, by decide, Below.refl _ _⟩
    case round =>
      obtain ⟨k, x, hk, rfl, rfl, hx, hxs, hB⟩ := hrel
      have HB := Lib.hid hB
      by_cases hlt : k < L
      · obtain ⟨b1, d1, e1, n1, l1, x1⟩ := row_at OWN4.out k (by rw [HL.out]; exact hlt)
        have f1 : z2 = some ⟨b1, 0, none⟩ := by injection e1
        subst f1
        have x2 := (hB.cell (p := ⟨b1, k, none⟩) l1).trans x1
        obtain ⟨y, hy⟩ : ∃ y, (linesB s).getD k ⟨#[]⟩ = y := ⟨_, rfl⟩
        rw [hy] at x2
        have hki : (k : Int) < (L : Int) := by omega
        have hjs := jb_take_succ (l := linesB s) (k := k) (by rw [HL.out]; exact hlt)
        rw [hy, ← hx.out] at hjs
        have hj1 := HJ.out (k + 1)
        rw [hjs] at hj1
        simp only [List.length_append, List.length_cons, List.length_nil] at hj1
        have hys : y.data.toList.length = y.size := by simp
        have hxl : x.data.toList.length = x.size := by simp
        have hyz : y.size ≤ 2011 := by omega
        have hxy : x.size + y.size ≤ 2011 := by omega
        by_cases hk0 : k = 0
        · have hxq : x.size + y.size ≤ 2011 := hxy
          have HN : Hid ((x ++ y).data.toList ++ (if k + 1 = 0 then [] else [10]) = jb ((linesB s).take (k + 1))) := Lib.hid (by
            rw [hjs, if_neg (by omega), if_pos hk0]; simp)
          have hg : ¬ (0 : Int) < (k : Int) := by omega
          clear e1 hB x1 hy hjs hj1 hys hxl hk0
          go_wp2_with fail
          refine ⟨⟨k + 1, _, by omega, by go_num, rfl, HN, by rw [ByteArray.size_append]; omega, HB.out⟩, by simp [intOf]; omega⟩
        · have hxq : x.size + 1 + y.size ≤ 2011 := by rw [if_neg hk0] at hj1; simp at hj1; omega
          have HN : Hid ((x ++ ⟨#[10]⟩ ++ y).data.toList ++ (if k + 1 = 0 then [] else [10]) = jb ((linesB s).take (k + 1))) := Lib.hid (by
            rw [hjs, if_neg (by omega), if_neg hk0]; simp)
          have hg : (0 : Int) < (k : Int) := by omega
          clear e1 hB x1 hy hjs hj1 hys hxl hk0
          go_wp2_with fail
          refine ⟨⟨k + 1, _, by omega, by go_num, rfl, HN, by rw [ByteArray.size_append, ByteArray.size_append]; show x.size + 1 + y.size ≤ 2011; omega, HB.out⟩, by simp [intOf]; omega⟩
      · have hki : ¬ (k : Int) < (L : Int) := by omega
        have hL0 : 0 < L := by rw [← HL.out, HC.out, (cut_lastLine s).1]; omega
        have hxs' : x = s := bytes_inj (by
          have h1 := hx.out
          rw [if_neg (by omega), List.take_of_length_le (by rw [HL.out]; omega), HC.out, jb_cut] at h1
          exact h1)
        subst hxs'
        clear hB hlt
        go_wp2_with fail
        go_ret
        refine ⟨?_, H4.out.trans (HB.out.mono H4.out.size)⟩
        first | rfl | (simp; done) | (trace_state; sorry)

theorem contract (H : Type) (enc : TypeId × Value → H) (W : World) (base : Nat) (args : Array Value) (ds gs : List (DataW H)) (before : List MemPlace)
    (hval0 : ∀ (j : Nat) t v, Tryd.f5.params[j]? = some t → args[j]? = some v → Value.okWide Tryd.prog W .any base t v)
    (hW : DataW.Whole enc Tryd.prog Tryd.f5.params.toList Rows.fnLinesOfSpec.vars false W args.toList ds gs before) :
    Calls Tryd.prog 5 args W fun e W' => ∃ v, e = .returned v ∧ Rows.fnLinesOfSpec.post enc Tryd.prog Tryd.f5 false true false false W args v W' := by
  have hval : ∀ (j : Nat) t v, Tryd.f5.params[j]? = some t → args[j]? = some v → Value.okWide Tryd.prog W .any base t v := hval0
  have hW' := hW
  obtain ⟨p, q, hA0, hV, rfl, hfz, hnd⟩ := hW
  have hA : DataW.TrodAll enc Tryd.prog W 0 (fun _ => true) true Tryd.f5.params.toList args.toList ds p := hA0
  rw [Tryd.params5] at hA hval
  obtain ⟨v0, vs0, d0, ds0, p0, q0, hargs, rfl, rfl, h0, r0⟩ := trodAll_cons hA
  obtain ⟨rfl, rfl, rfl⟩ := trodAll_nil r0
  obtain rfl : args = #[v0] := by cases args; simp_all
  obtain ⟨rfl, rfl⟩ := trodVars_none hV
  have k0 := h0
  have lt0 : ∀ x ∈ p0, x.block < W.heap.size := by obtain ⟨m, hm⟩ := k0; exact DataW.trod_lt m _ _ _ hm
  obtain ⟨a0, len0, cap0, rfl⟩ := okWide_slice Tryd.underlying22 (hval 0 22 v0 rfl rfl)
  obtain ⟨z0, w0⟩ : ∃ zs, IsRow W a0 len0 cap0 zs := by
    obtain ⟨fuel, hf⟩ := h0
    rcases open_ints Tryd.underlying22 Tryd.underlying5 (by kernel_rfl) hf with ⟨hcs, _⟩ | ⟨x, l, c, zs, hcs, _, hl, hm, hz, _, hcell, hwz⟩
    · simp [Value.cells] at hcs
      obtain ⟨rfl, rfl, rfl⟩ := hcs
      exact ⟨[], .inl ⟨rfl, rfl, rfl, rfl⟩⟩
    · simp [Value.cells] at hcs
      obtain ⟨rfl, rfl, rfl⟩ := hcs
      exact ⟨zs, .inr ⟨_, rfl, hl, hm, by simpa using hz, hcell, hwz⟩⟩
  clear hA0 hval0
  refine (walk a0 len0 cap0 z0 W w0).mono fun e W' ⟨he, bel⟩ => ?_
  subst he
  exact ⟨_, rfl, _, _, _, [], _, [], hW', trodAll_mk1 (shut_bool Tryd.underlying4 _), (trodAll_cons_mk (Below.trod laidOut (by kernel_rfl) (of_decide_eq_true (by kernel_rfl)) k0 bel lt0) trodAll_mk0), rfl, bel.frame _, fun h => by cases h⟩

theorem laid_met (os : Os) : laidMet Tryd.prog Rows.fnLinesOfRow.laid ((laidWorld os).forCall (fun _ _ => 0) ⟨#[], #[.slice none 0 0], []⟩).memory :=
  laidMet_of_run' 8 (by kernel_rfl) (by kernel_rfl)
theorem reads (os : Os) {H : Type} (enc : TypeId × Value → H) : ∃ places, DataW.whole enc Tryd.prog ((laidWorld os).forCall (fun _ _ => 0) ⟨#[], #[.slice none 0 0], []⟩).memory Tryd.f5.params.toList Rows.fnLinesOfSpec.vars false (#[Value.slice none 0 0] : Array Value).toList 8 = some ([.nil], [], places) :=
  ⟨[], by kernel_rfl⟩

set_option maxRecDepth 100000 in
theorem lifted (os : Os) (started : os.Started) (H : Type) (enc : TypeId × Value → H) (F : Stop.Interp) :
    ReturnsInHanded {} Tryd.checked os 5 .any ((OpenSpec.ofChange Rows.fnLinesOfSpec).preRow enc Tryd.prog Tryd.f5 Rows.fnLinesOfRow.domain false Rows.fnLinesOfRow.laid) (((OpenSpec.ofChange Rows.fnLinesOfSpec).at F).post enc Tryd.prog Tryd.f5 false true false false) := by
  obtain ⟨places, hx⟩ := reads os enc
  refine returnsInHanded_of_row (C := Tryd.checked) (s := OpenSpec.ofChange Rows.fnLinesOfSpec) own started (by kernel_rfl) Tryd.func5
    (witness_row_at (enc := enc) (C := Tryd.checked) false (laidWorld os) #[.slice none 0 0] rfl (by kernel_rfl) (by kernel_rfl) (by kernel_rfl)
      (OpenSpec.preRow_of_cond 8 hx (by kernel_rfl) (fun k hk => by cases hk) (by kernel_rfl) (laid_met os))) ?_
  intro W base args ds gs before hval hW _ _ _ _ _ _
  exact contract H enc W base args ds gs before hval hW

theorem said : Rows.FnLinesOfSaid :=
  OpenClaim.holds_of_cond 5 Tryd.f5 rfl rfl rfl rfl rfl rfl rfl ⟨rfl, rfl, rfl, rfl, rfl⟩ rfl rfl rfl rfl rfl (by kernel_rfl) Tryd.func5 (by kernel_rfl)
    (of_decide_eq_true (by kernel_rfl)) (by unfold Func.isWrapper; first | (rw [if_pos (by decide +kernel)]; kernel_rfl) | (rw [if_neg (by decide +kernel)]; exact ⟨rfl, rfl⟩))
    (fun os started H enc _ F => by rw [OpenClaim.pre_eq_preRow]; exact lifted os started H enc F)

theorem plain (f : FuncId) (fn : Func) (hf : Tryd.pinned.checked.prog.funcNamed "loop.example/livetyper/laws.FnLinesOf" = some f) (hfn : Tryd.pinned.checked.prog.funcs[f]? = some fn) :
    false = Tryd.pinned.checked.prog.looks [] ∧ ∀ (j : Nat) t, fn.params[j]? = some t → Tryd.pinned.checked.prog.wantsStandIn t = false := by
  obtain rfl : f = 5 := Option.some.inj ((show Tryd.prog.funcNamed "loop.example/livetyper/laws.FnLinesOf" = some 5 by kernel_rfl).symm.trans hf) |>.symm
  obtain rfl : fn = Tryd.f5 := (Option.some.inj (Tryd.func5.symm.trans hfn)).symm
  refine ⟨by kernel_rfl, fun j t ht => ?_⟩
  rw [Tryd.params5] at ht
  have hm := Array.mem_of_getElem? ht
  simp at hm
  rcases hm with rfl
  · exact (show Tryd.prog.wantsStandIn 22 = false by kernel_rfl)

/-- The given statement. -/
theorem proved : Rows.FnLinesOfCardSaid :=
  Claim7.holds_tied_plain_at .later [] _ _ _ _ said (fun _ h => by cases h) (by kernel_rfl) (fun _ h => by cases h) fnLinesOf_row_tie rfl ⟨rfl, rfl⟩ (by kernel_rfl) rfl plain (by kernel_rfl)
end Go.Proofs.YtiaoopikmkakbaaDoor.fnLinesOf
