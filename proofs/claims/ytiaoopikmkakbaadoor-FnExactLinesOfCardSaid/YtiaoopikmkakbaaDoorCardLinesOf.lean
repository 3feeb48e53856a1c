/-
  FnExactLinesOf returns true for every string, and it reads as it did: LinesOf answers as its model, in memory of its own. No conditions.
-/
import Derived.Test.YtiaoopikmkakbaaDoorVw
import Derived.Test.YtiaoopikmkakbaaDoorVh
namespace Go.Proofs.YtiaoopikmkakbaaDoor.fnExactLinesOf
open Go.Proofs.YtiaoopikmkakbaaDoor
open Go.ChangeShapes Go.WideShapes Go.ChangeAt Go.RowKit Go.Joins
open Go.ChangeMaps (open_string shut_string)
set_option linter.unusedVariables false

set_option maxHeartbeats 2000000 in
theorem walk (s : ByteArray) (w : World) (hs : s.size ≤ maxLen) :
    Calls Tryd.prog 8 #[.string s] w fun e w' => e = .returned (.bool true) ∧ Below w.heap.size w w' := by
  have HSL := Lib.hid hs
  unfold maxLen at hs
  by_cases hl : s.size ≤ 1048576
  case neg =>
    go_enter Tryd.func8, Tryd.ntmps8
    go_wp2
    go_ret
    exact ⟨rfl, Below.refl _ _⟩
  obtain ⟨L, hL⟩ : ∃ L, (linesB s).length = L := ⟨_, rfl⟩
  have hL1 : L ≤ 2001 := by rw [← hL]; exact linesB_len s
  have HL := Lib.hid hL
  clear hL
  go_enter Tryd.func8, Tryd.ntmps8
  go_wp2_with fail
  go_at_call 18
  refine (linesOf_spec s HSL.out _).mono ?_
  rintro e w1 ⟨v0, rfl, own0, hb1⟩
  obtain ⟨z0, y0, hv0⟩ := owns_slice own0
  rw [HL.out] at hv0
  subst hv0
  have OWN0 := Lib.hid own0
  have H1 := Lib.hid hb1
  clear own0 hb1
  go_wp2_with fail
  go_at_call 15
  refine (linesOf_impl s HSL.out _).mono ?_
  rintro e w2 ⟨v1, rfl, own1, hb2⟩
  obtain ⟨z1, y1, hv1⟩ := owns_slice own1
  rw [HL.out] at hv1
  subst hv1
  have OWN1 := Lib.hid own1
  have B2 := Lib.hid hb2
  have H2 : Hid (Below w.heap.size w w2) := Lib.hid (H1.out.trans (hb2.mono H1.out.size))
  clear own1 hb2
  go_wp2_with fail
  go_at_call 22
  refine (eqStringS_same _ _ (linesB s) (by rw [HL.out]; omega) _ _ _ OWN1.out (owns_below OWN0.out B2.out)).mono ?_
  rintro e w3 ⟨rfl, hb3⟩
  have B3 : Hid (Below w1.heap.size w1 w3) := Lib.hid (B2.out.trans (hb3.mono B2.out.size))
  have H3 : Hid (Below w.heap.size w w3) := Lib.hid (H2.out.trans (hb3.mono H2.out.size))
  have OWN3 := Lib.hid (owns_below OWN1.out hb3)
  clear hb3
  go_wp2_with fail
  go_at_call 23
  refine (markStringS_any w1.heap.size 1 (linesB s) (by rw [HL.out]; omega) ⟨by omega, by omega⟩ _ _ OWN3.out).mono ?_
  rintro e w4 ⟨rfl, own4, hb4⟩
  rw [HL.out] at own4 ⊢
  have B4 : Hid (Below w1.heap.size w1 w4) := Lib.hid (B3.out.trans hb4)
  have H4 : Hid (Below w.heap.size w w4) := Lib.hid (H3.out.trans (hb4.mono H1.out.size))
  have OWN4 := Lib.hid own4
  clear own4 hb4
  go_wp2_with fail
  go_at_call 24
  refine (heldStringS_any w1.heap.size 1 L (by omega) ⟨by omega, by omega⟩ _ _ OWN4.out).mono ?_
  rintro e w5 ⟨rfl, hb5⟩
  have B5 : Hid (Below w1.heap.size w1 w5) := Lib.hid (B4.out.trans (hb5.mono B4.out.size))
  have H5 : Hid (Below w.heap.size w w5) := Lib.hid (H4.out.trans (hb5.mono H4.out.size))
  have OWN5 := Lib.hid (owns_below OWN4.out hb5)
  clear hb5
  go_wp2_with fail
  go_at_call 15
  refine (linesOf_impl s HSL.out _).mono ?_
  rintro e w6 ⟨v2, rfl, own2, hb6⟩
  obtain ⟨z2, y2, hv2⟩ := owns_slice own2
  rw [HL.out] at hv2
  subst hv2
  have OWN2 := Lib.hid own2
  have B6 : Hid (Below w1.heap.size w1 w6) := Lib.hid (B5.out.trans (hb6.mono B5.out.size))
  have H6 : Hid (Below w.heap.size w w6) := Lib.hid (H5.out.trans (hb6.mono H5.out.size))
  have OWN6 := Lib.hid (owns_below OWN5.out hb6)
  clear own2 hb6
  go_wp2_with fail
  go_at_call 22
  refine (eqStringS_same _ _ (linesB s) (by rw [HL.out]; omega) _ _ _ OWN2.out (owns_below OWN0.out B6.out)).mono ?_
  rintro e w7 ⟨rfl, hb7⟩
  have H7 : Hid (Below w.heap.size w w7) := Lib.hid (H6.out.trans (hb7.mono H6.out.size))
  have OWN7 := Lib.hid (owns_below OWN6.out hb7)
  clear hb7
  go_wp2_with fail
  go_at_call 24
  refine (heldStringS_any w1.heap.size 1 L (by omega) ⟨by omega, by omega⟩ _ _ OWN7.out).mono ?_
  rintro e w8 ⟨rfl, hb8⟩
  have H8 : Hid (Below w.heap.size w w8) := Lib.hid (H7.out.trans (hb8.mono H7.out.size))
  clear hb8
  go_wp2_with fail
  go_ret
  exact ⟨rfl, H8.out⟩

theorem contract (H : Type) (enc : TypeId × Value → H) (W : World) (base : Nat) (args : Array Value) (ds gs : List (DataW H)) (before : List MemPlace)
    (hval0 : ∀ (j : Nat) t v, Tryd.f8.params[j]? = some t → args[j]? = some v → Value.okWide Tryd.prog W .any base t v)
    (hW : DataW.Whole enc Tryd.prog Tryd.f8.params.toList Rows.fnExactLinesOfSpec.vars false W args.toList ds gs before) :
    Calls Tryd.prog 8 args W fun e W' => ∃ v, e = .returned v ∧ Rows.fnExactLinesOfSpec.post enc Tryd.prog Tryd.f8 false true false false W args v W' := by
  have hval : ∀ (j : Nat) t v, Tryd.f8.params[j]? = some t → args[j]? = some v → Value.okWide Tryd.prog W .any base t v := hval0
  have hW' := hW
  obtain ⟨p, q, hA0, hV, rfl, hfz, hnd⟩ := hW
  have hA : DataW.TrodAll enc Tryd.prog W 0 (fun _ => true) true Tryd.f8.params.toList args.toList ds p := hA0
  rw [Tryd.params8] at hA hval
  obtain ⟨v0, vs0, d0, ds0, p0, q0, hargs, rfl, rfl, h0, r0⟩ := trodAll_cons hA
  obtain ⟨rfl, rfl, rfl⟩ := trodAll_nil r0
  obtain rfl : args = #[v0] := by cases args; simp_all
  obtain ⟨rfl, rfl⟩ := trodVars_none hV
  have k0 := h0
  have lt0 : ∀ x ∈ p0, x.block < W.heap.size := by obtain ⟨m, hm⟩ := k0; exact DataW.trod_lt m _ _ _ hm
  obtain ⟨a0, rfl, rfl, rfl, w0⟩ := open_string Tryd.underlying9 (hval 0 9 v0 rfl rfl) h0
  clear hA0 hval0
  refine (walk a0 W w0).mono fun e W' ⟨he, bel⟩ => ?_
  subst he
  exact ⟨_, rfl, _, _, _, [], _, [], hW', trodAll_mk1 (shut_bool Tryd.underlying4 _), (trodAll_cons_mk (Below.trod laidOut (by kernel_rfl) (of_decide_eq_true (by kernel_rfl)) k0 bel lt0) trodAll_mk0), rfl, bel.frame _, fun h => by cases h⟩

theorem laid_met (os : Os) : laidMet Tryd.prog Rows.fnExactLinesOfRow.laid ((laidWorld os).forCall (fun _ _ => 0) ⟨#[], #[.string ⟨#[]⟩], []⟩).memory :=
  laidMet_of_run' 8 (by kernel_rfl) (by kernel_rfl)
theorem reads (os : Os) {H : Type} (enc : TypeId × Value → H) : ∃ places, DataW.whole enc Tryd.prog ((laidWorld os).forCall (fun _ _ => 0) ⟨#[], #[.string ⟨#[]⟩], []⟩).memory Tryd.f8.params.toList Rows.fnExactLinesOfSpec.vars false (#[Value.string ⟨#[]⟩] : Array Value).toList 8 = some ([.lit (.string [])], [], places) :=
  ⟨[], by kernel_rfl⟩

set_option maxRecDepth 100000 in
theorem lifted (os : Os) (started : os.Started) (H : Type) (enc : TypeId × Value → H) (F : Stop.Interp) :
    ReturnsInHanded {} Tryd.checked os 8 .any ((OpenSpec.ofChange Rows.fnExactLinesOfSpec).preRow enc Tryd.prog Tryd.f8 Rows.fnExactLinesOfRow.domain false Rows.fnExactLinesOfRow.laid) (((OpenSpec.ofChange Rows.fnExactLinesOfSpec).at F).post enc Tryd.prog Tryd.f8 false true false false) := by
  obtain ⟨places, hx⟩ := reads os enc
  refine returnsInHanded_of_row (C := Tryd.checked) (s := OpenSpec.ofChange Rows.fnExactLinesOfSpec) own started (by kernel_rfl) Tryd.func8
    (witness_row_at (enc := enc) (C := Tryd.checked) false (laidWorld os) #[.string ⟨#[]⟩] rfl (by kernel_rfl) (by kernel_rfl) (by kernel_rfl)
      (OpenSpec.preRow_of_cond 8 hx (by kernel_rfl) (fun k hk => by cases hk) (by kernel_rfl) (laid_met os))) ?_
  intro W base args ds gs before hval hW _ _ _ _ _ _
  exact contract H enc W base args ds gs before hval hW

theorem said : Rows.FnExactLinesOfSaid :=
  OpenClaim.holds_of_cond 8 Tryd.f8 rfl rfl rfl rfl rfl rfl rfl ⟨rfl, rfl, rfl, rfl, rfl⟩ rfl rfl rfl rfl rfl (by kernel_rfl) Tryd.func8 (by kernel_rfl)
    (of_decide_eq_true (by kernel_rfl)) (by unfold Func.isWrapper; first | (rw [if_pos (by decide +kernel)]; kernel_rfl) | (rw [if_neg (by decide +kernel)]; exact ⟨rfl, rfl⟩))
    (fun os started H enc _ F => by rw [OpenClaim.pre_eq_preRow]; exact lifted os started H enc F)

theorem plain (f : FuncId) (fn : Func) (hf : Tryd.pinned.checked.prog.funcNamed "loop.example/livetyper/laws.FnExactLinesOf" = some f) (hfn : Tryd.pinned.checked.prog.funcs[f]? = some fn) :
    false = Tryd.pinned.checked.prog.looks [] ∧ ∀ (j : Nat) t, fn.params[j]? = some t → Tryd.pinned.checked.prog.wantsStandIn t = false := by
  obtain rfl : f = 8 := Option.some.inj ((show Tryd.prog.funcNamed "loop.example/livetyper/laws.FnExactLinesOf" = some 8 by kernel_rfl).symm.trans hf) |>.symm
  obtain rfl : fn = Tryd.f8 := (Option.some.inj (Tryd.func8.symm.trans hfn)).symm
  refine ⟨by kernel_rfl, fun j t ht => ?_⟩
  rw [Tryd.params8] at ht
  have hm := Array.mem_of_getElem? ht
  simp at hm
  rcases hm with rfl
  · exact (show Tryd.prog.wantsStandIn 9 = false by kernel_rfl)

/-- The given statement. -/
theorem proved : Rows.FnExactLinesOfCardSaid :=
  Claim7.holds_tied_plain_at .later [] _ _ _ _ said (fun _ h => by cases h) (by kernel_rfl) (fun _ h => by cases h) fnExactLinesOf_row_tie rfl ⟨rfl, rfl⟩ (by kernel_rfl) rfl plain (by kernel_rfl)
end Go.Proofs.YtiaoopikmkakbaaDoor.fnExactLinesOf
