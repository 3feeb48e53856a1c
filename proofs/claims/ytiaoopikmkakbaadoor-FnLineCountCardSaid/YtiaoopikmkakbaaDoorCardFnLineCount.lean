/-
  FnLineCount returns true for every input of bytes, and it reads as it did: newlines separate lines. No conditions.
-/
import Derived.Test.YtiaoopikmkakbaaDoorVw
import Derived.Test.YtiaoopikmkakbaaDoorVk
import Derived.Test.YtiaoopikmkakbaaDoorTo
namespace Go.Proofs.YtiaoopikmkakbaaDoor.fnLineCount
open Go.Proofs.YtiaoopikmkakbaaDoor
open Go.ChangeShapes Go.WideShapes Go.ChangeAt Go.RowKit Go.Joins
open Go.ChangeMaps (open_string shut_string)
set_option linter.unusedVariables false

set_option maxHeartbeats 4000000 in
theorem walk (a : Option Addr) (len cap : Nat) (zs : List Int) (w : World) (h : IsRow w a len cap zs) :
    Calls Tryd.prog 6 #[.slice a len cap] w fun e w' => e = .returned (.bool true) ∧ Below w.heap.size w w' := by
  have HZ : Hid (IsRow w a len cap zs) := Lib.hid h
  clear h
  by_cases hl : len ≤ 1048576
  case neg =>
    go_enter Tryd.func6, Tryd.ntmps6
    go_wp2
    go_ret
    exact ⟨rfl, Below.refl _ _⟩
  go_enter Tryd.func6, Tryd.ntmps6
  go_wp2_with fail
  go_at_call 16
  refine (drawLinesOf_any a len cap zs _ HZ.out).mono ?_
  rintro e w1 ⟨s, hs, rfl, hb1⟩
  have HSZ := Lib.hid hs
  have HSL : Hid (s.size ≤ maxLen) := Lib.hid (by unfold maxLen; omega)
  have H1 := Lib.hid hb1
  obtain ⟨L, hL⟩ : ∃ L, (linesB s).length = L := ⟨_, rfl⟩
  have hL1 : L ≤ 2001 := by rw [← hL]; exact linesB_len s
  have HL := Lib.hid hL
  clear hL hb1 hs
  go_wp2_with fail
  go_at_call 15
  refine (linesOf_impl s HSL.out _).mono ?_
  rintro e w2 ⟨v2, rfl, own2, hb2⟩
  obtain ⟨z2, y2, hv2⟩ := owns_slice own2
  rw [HL.out] at hv2
  subst hv2
  have OWN2 := Lib.hid own2
  have B2 := Lib.hid hb2
  have H2 : Hid (Below w.heap.size w w2) := Lib.hid (H1.out.trans (hb2.mono H1.out.size))
  clear own2 hb2
  go_wp2_with fail
  go_at_call 18
  refine (linesOf_spec s HSL.out _).mono ?_
  rintro e w3 ⟨v3, rfl, own3, hb3⟩
  obtain ⟨z3, y3, hv3⟩ := owns_slice own3
  rw [HL.out] at hv3
  subst hv3
  have OWN3 := Lib.hid own3
  have B3 := Lib.hid hb3
  have H3 : Hid (Below w.heap.size w w3) := Lib.hid (H2.out.trans (hb3.mono H2.out.size))
  clear own3 hb3
  go_wp2_with fail
  go_at_call 17
  refine (lvTexts_same _ _ (linesB s) (by rw [HL.out]; omega) _ _ _ (owns_below OWN2.out B3.out) OWN3.out).mono ?_
  rintro e w4 ⟨rfl, hb4⟩
  have B4 := Lib.hid hb4
  have H4 : Hid (Below w.heap.size w w4) := Lib.hid (H3.out.trans (hb4.mono H3.out.size))
  clear hb4
  have OWN4 : Hid (w4.ownsRow w1.heap.size 9 1 (.slice z2 L y2) (linesB s).length ((linesB s).map Value.string)) := Lib.hid (owns_below OWN2.out (B3.out.trans (B4.out.mono B3.out.size)))
  rcases hv : tv s with _ | _
  · have HV := Lib.hid hv
    clear hv
    go_wp2_with (go_at_call 19; refine (textValid_impl s false HV.out HSL.out _).mono ?_; rintro e w' ⟨rfl, rfl⟩)
    go_at_call 18
    refine (linesOf_spec s HSL.out _).mono ?_
    rintro e w5 ⟨v5, rfl, own5, hb5⟩
    obtain ⟨z5, y5, hv5⟩ := owns_slice own5
    rw [HL.out] at hv5
    subst hv5
    have OWN5 := Lib.hid own5
    have B5 := Lib.hid hb5
    have H5 : Hid (Below w.heap.size w w5) := Lib.hid (H4.out.trans (hb5.mono H4.out.size))
    clear own5 hb5
    go_wp2_with fail
    go_at_call 17
    refine (lvTexts_same _ _ (linesB s) (by rw [HL.out]; omega) _ _ _ (owns_below OWN4.out B5.out) OWN5.out).mono ?_
    rintro e w6 ⟨rfl, hb6⟩
    have B6 := Lib.hid hb6
    have H6 : Hid (Below w.heap.size w w6) := Lib.hid (H5.out.trans (hb6.mono H5.out.size))
    clear hb6
    go_wp2_with fail
    go_ret
    exact ⟨rfl, H6.out⟩
  · have HV := Lib.hid hv
    have hs2 := tv_size hv
    obtain ⟨M, hM⟩ : ∃ M, lnN s s.size = M := ⟨_, rfl⟩
    have hLM : L = M + 1 := by rw [← HL.out, linesB_yes hv, (cut_lastLine s).1, hM]
    obtain ⟨y, hy⟩ : ∃ y, (linesB s).getD M ⟨#[]⟩ = y := ⟨_, rfl⟩
    have hyc : (y.size : Int) = colN s s.size := by rw [← hy, linesB_yes hv, ← hM, (cut_lastLine s).2]
    obtain ⟨b1, d1, e1, n1, l1, x1⟩ := row_at OWN4.out M (by rw [HL.out]; omega)
    have f1 : z2 = some ⟨b1, 0, none⟩ := by injection e1
    subst f1
    rw [hy] at x1
    subst hLM
    have HYC := Lib.hid hyc
    have HM := Lib.hid hM
    clear hv e1 hy hyc hM
    go_wp2_with (go_at_call 19; refine (textValid_impl s true HV.out HSL.out _).mono ?_; rintro e w' ⟨rfl, rfl⟩)
    go_loopw [5, 6] (fun nv i wr => ∃ (k : Nat) (n : Nat), k ≤ s.size ∧ n ≤ 2001 ∧ i = .int .i64 k ∧ nv = .int .i64 n ∧ Hid (n = lnN s k + 1) ∧ Below w4.heap.size w4 wr) (fun _ i _ => s.size - (intOf i).toNat)
    case atStart => exact ⟨0, 1, Nat.zero_le _, by omega, rfl, rfl, Lib.hid (by rw [lnN_zero]), Below.refl _ _⟩
    case round =>
      obtain ⟨k, n, hk, hn2, rfl, rfl, hn, hB⟩ := hrel
      have HB := Lib.hid hB
      by_cases hlt : k < s.size
      · have hlt' : (k : Int) < (s.size : Int) := by omega
        clear hB
        rcases hb : ((s[k].toNat : Int) == 10) with _ | _
        · have HN : Hid (n = lnN s (k + 1) + 1) := Lib.hid (by rw [lnN_other s k hlt hb]; exact hn.out)
          go_wp2_with fail
          exact ⟨⟨k + 1, n, by omega, by omega, by go_num, rfl, HN, HB.out⟩, by simp [intOf]; omega⟩
        · have HN : Hid (n + 1 = lnN s (k + 1) + 1) := Lib.hid (by rw [lnN_nl s k hlt hb, hn.out])
          have hle : n + 1 ≤ 2001 := by have := HN.out; have h3 := lnN_le s (k + 1); omega
          go_wp2_with fail
          exact ⟨⟨k + 1, n + 1, by omega, by omega, by go_num, by go_num, HN, HB.out⟩, by simp [intOf]; omega⟩
      · have hlt' : ¬ (k : Int) < (s.size : Int) := by omega
        have hks : k = s.size := by omega
        have hnM : n = M + 1 := by rw [hn.out, hks, HM.out]
        subst hnM
        have x2 := (hB.cell (p := ⟨b1, M, none⟩) l1).trans x1
        have l2 : b1 < wr.heap.size := Nat.lt_of_lt_of_le l1 hB.size
        have H5 : Hid (Below w.heap.size w wr) := Lib.hid (H4.out.trans (hB.mono H4.out.size))
        clear hB hlt x1
        go_wp2_with fail
        go_at_call 10
        refine (posOf_impl_yes s s.size HV.out (Nat.le_refl _) _).mono ?_
        rintro e w6 ⟨rfl, hb6⟩
        rw [HM.out, ← HYC.out]
        have x3 := (hb6.cell (p := ⟨b1, M, none⟩) l2).trans x2
        have l3 : b1 < w6.heap.size := Nat.lt_of_lt_of_le l2 hb6.size
        have H6 : Hid (Below w.heap.size w w6) := Lib.hid (H5.out.trans (hb6.mono H5.out.size))
        clear hb6 x2
        go_wp2_with fail
        have hne : ¬ b1 = w6.heap.size := by omega
        go_quiet (fail)
        go_wp2_with fail
        go_ret
        refine ⟨?_, below_drewN (H6.out.alloc H6.out.size _) _⟩
        first | rfl | (simp; done) | (trace_state; sorry)

theorem contract (H : Type) (enc : TypeId × Value → H) (W : World) (base : Nat) (args : Array Value) (ds gs : List (DataW H)) (before : List MemPlace)
    (hval0 : ∀ (j : Nat) t v, Tryd.f6.params[j]? = some t → args[j]? = some v → Value.okWide Tryd.prog W .any base t v)
    (hW : DataW.Whole enc Tryd.prog Tryd.f6.params.toList Rows.fnLineCountSpec.vars false W args.toList ds gs before) :
    Calls Tryd.prog 6 args W fun e W' => ∃ v, e = .returned v ∧ Rows.fnLineCountSpec.post enc Tryd.prog Tryd.f6 false true false false W args v W' := by
  have hval : ∀ (j : Nat) t v, Tryd.f6.params[j]? = some t → args[j]? = some v → Value.okWide Tryd.prog W .any base t v := hval0
  have hW' := hW
  obtain ⟨p, q, hA0, hV, rfl, hfz, hnd⟩ := hW
  have hA : DataW.TrodAll enc Tryd.prog W 0 (fun _ => true) true Tryd.f6.params.toList args.toList ds p := hA0
  rw [Tryd.params6] at hA hval
  obtain ⟨v0, vs0, d0, ds0, p0, q0, hargs, rfl, rfl, h0, r0⟩ := trodAll_cons hA
  obtain ⟨rfl, rfl, rfl⟩ := trodAll_nil r0
  obtain rfl : args = #[v0] := by cases args; simp_all
  obtain ⟨rfl, rfl⟩ := trodVars_none hV
  have k0 := h0
  have lt0 : ∀ x ∈ p0, x.block < W.heap.size := by obtain ⟨m, hm⟩ := k0; exact DataW.trod_lt m _ _ _ hm
  obtain ⟨a0, len0, cap0, rfl⟩ := okWide_slice Tryd.underlying22 (hval 0 22 v0 rfl rfl)
  obtain ⟨z0, w0⟩ : ∃ zs, IsRow W a0 len0 cap0 zs := by
    obtain ⟨fuel, hf⟩ := h0
    rcases open_ints Tryd.underlying22 Tryd.underlying5 (by kernel_rfl) hf with ⟨hcs, _⟩ | ⟨x, l, c, zs, hcs, _, hl, hm, hz, _, hcell, hwz⟩
    · simp [Value.cells] at hcs
      obtain ⟨rfl, rfl, rfl⟩ := hcs
      exact ⟨[], .inl ⟨rfl, rfl, rfl, rfl⟩⟩
    · simp [Value.cells] at hcs
      obtain ⟨rfl, rfl, rfl⟩ := hcs
      exact ⟨zs, .inr ⟨_, rfl, hl, hm, by simpa using hz, hcell, hwz⟩⟩
  clear hA0 hval0
  refine (walk a0 len0 cap0 z0 W w0).mono fun e W' ⟨he, bel⟩ => ?_
  subst he
  exact ⟨_, rfl, _, _, _, [], _, [], hW', trodAll_mk1 (shut_bool Tryd.underlying4 _), (trodAll_cons_mk (Below.trod laidOut (by kernel_rfl) (of_decide_eq_true (by kernel_rfl)) k0 bel lt0) trodAll_mk0), rfl, bel.frame _, fun h => by cases h⟩

theorem laid_met (os : Os) : laidMet Tryd.prog Rows.fnLineCountRow.laid ((laidWorld os).forCall (fun _ _ => 0) ⟨#[], #[.slice none 0 0], []⟩).memory :=
  laidMet_of_run' 8 (by kernel_rfl) (by kernel_rfl)
theorem reads (os : Os) {H : Type} (enc : TypeId × Value → H) : ∃ places, DataW.whole enc Tryd.prog ((laidWorld os).forCall (fun _ _ => 0) ⟨#[], #[.slice none 0 0], []⟩).memory Tryd.f6.params.toList Rows.fnLineCountSpec.vars false (#[Value.slice none 0 0] : Array Value).toList 8 = some ([.nil], [], places) :=
  ⟨[], by kernel_rfl⟩

set_option maxRecDepth 100000 in
theorem lifted (os : Os) (started : os.Started) (H : Type) (enc : TypeId × Value → H) (F : Stop.Interp) :
    ReturnsInHanded {} Tryd.checked os 6 .any ((OpenSpec.ofChange Rows.fnLineCountSpec).preRow enc Tryd.prog Tryd.f6 Rows.fnLineCountRow.domain false Rows.fnLineCountRow.laid) (((OpenSpec.ofChange Rows.fnLineCountSpec).at F).post enc Tryd.prog Tryd.f6 false true false false) := by
  obtain ⟨places, hx⟩ := reads os enc
  refine returnsInHanded_of_row (C := Tryd.checked) (s := OpenSpec.ofChange Rows.fnLineCountSpec) own started (by kernel_rfl) Tryd.func6
    (witness_row_at (enc := enc) (C := Tryd.checked) false (laidWorld os) #[.slice none 0 0] rfl (by kernel_rfl) (by kernel_rfl) (by kernel_rfl)
      (OpenSpec.preRow_of_cond 8 hx (by kernel_rfl) (fun k hk => by cases hk) (by kernel_rfl) (laid_met os))) ?_
  intro W base args ds gs before hval hW _ _ _ _ _ _
  exact contract H enc W base args ds gs before hval hW

theorem said : Rows.FnLineCountSaid :=
  OpenClaim.holds_of_cond 6 Tryd.f6 rfl rfl rfl rfl rfl rfl rfl ⟨rfl, rfl, rfl, rfl, rfl⟩ rfl rfl rfl rfl rfl (by kernel_rfl) Tryd.func6 (by kernel_rfl)
    (of_decide_eq_true (by kernel_rfl)) (by unfold Func.isWrapper; first | (rw [if_pos (by decide +kernel)]; kernel_rfl) | (rw [if_neg (by decide +kernel)]; exact ⟨rfl, rfl⟩))
    (fun os started H enc _ F => by rw [OpenClaim.pre_eq_preRow]; exact lifted os started H enc F)

theorem plain (f : FuncId) (fn : Func) (hf : Tryd.pinned.checked.prog.funcNamed "loop.example/livetyper/laws.FnLineCount" = some f) (hfn : Tryd.pinned.checked.prog.funcs[f]? = some fn) :
    false = Tryd.pinned.checked.prog.looks [] ∧ ∀ (j : Nat) t, fn.params[j]? = some t → Tryd.pinned.checked.prog.wantsStandIn t = false := by
  obtain rfl : f = 6 := Option.some.inj ((show Tryd.prog.funcNamed "loop.example/livetyper/laws.FnLineCount" = some 6 by kernel_rfl).symm.trans hf) |>.symm
  obtain rfl : fn = Tryd.f6 := (Option.some.inj (Tryd.func6.symm.trans hfn)).symm
  refine ⟨by kernel_rfl, fun j t ht => ?_⟩
  rw [Tryd.params6] at ht
  have hm := Array.mem_of_getElem? ht
  simp at hm
  rcases hm with rfl
  · exact (show Tryd.prog.wantsStandIn 22 = false by kernel_rfl)

/-- The given statement. -/
theorem proved : Rows.FnLineCountCardSaid :=
  Claim7.holds_tied_plain_at .later [] _ _ _ _ said (fun _ h => by cases h) (by kernel_rfl) (fun _ h => by cases h) fnLineCount_row_tie rfl ⟨rfl, rfl⟩ (by kernel_rfl) rfl plain (by kernel_rfl)
end Go.Proofs.YtiaoopikmkakbaaDoor.fnLineCount
