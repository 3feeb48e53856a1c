/-
  FnOffsetOf returns true for every input of bytes, and it reads as it did: offsets have places. No conditions.
-/
import Derived.Test.YtiaoopikmkakbaaDoorVw
import Derived.Test.YtiaoopikmkakbaaDoorVk
import Derived.Test.YtiaoopikmkakbaaDoorTo
namespace Go.Proofs.YtiaoopikmkakbaaDoor.fnOffsetOf
open Go.Proofs.YtiaoopikmkakbaaDoor
open Go.ChangeShapes Go.WideShapes Go.ChangeAt Go.RowKit Go.Joins
open Go.ChangeMaps (open_string shut_string)
set_option linter.unusedVariables false

set_option maxHeartbeats 4000000 in
theorem walk (a : Option Addr) (len cap : Nat) (zs : List Int) (w : World) (h : IsRow w a len cap zs) :
    Calls Tryd.prog 4 #[.slice a len cap] w fun e w' => e = .returned (.bool true) ∧ Below w.heap.size w w' := by
  have HZ : Hid (IsRow w a len cap zs) := Lib.hid h
  clear h
  by_cases hl : len ≤ 1048576
  case neg =>
    go_enter Tryd.func4, Tryd.ntmps4
    go_wp2
    go_ret
    exact ⟨rfl, Below.refl _ _⟩
  go_enter Tryd.func4, Tryd.ntmps4
  go_wp2_with fail
  go_at_call 13
  refine (drawOffsetOf_any a len cap zs _ HZ.out).mono ?_
  rintro e w1 ⟨s, ln, col, hs, rfl, hb1⟩
  have HSZ := Lib.hid hs
  have HSL : Hid (s.size ≤ maxLen) := Lib.hid (by unfold maxLen; omega)
  have H1 := Lib.hid hb1
  obtain ⟨r, hr⟩ : ∃ r, offRes s ln col = r := ⟨_, rfl⟩
  obtain ⟨rv, rb⟩ := r
  have HR := Lib.hid hr
  have HP1 := Lib.hid (pAt_new w1 ln col 26)
  have HA1 : Hid (Below w.heap.size w (w1.alloc (.cells #[.int .i64 ln, .int .i64 col] 26))) := Lib.hid (hb1.alloc hb1.size _)
  have hz1 : w.heap.size ≤ w1.heap.size := hb1.size
  clear hr hb1 hs
  go_wp2_with fail
  obtain ⟨q0, q1, _, _, qz⟩ := HP1.out
  go_wp2_with fail
  go_at_call 12
  refine (offsetOf_impl s ln col HSL.out _).mono ?_
  rintro e w2 ⟨rfl, hb2⟩
  rw [HR.out]
  have HP2 := Lib.hid (HP1.out.below hb2)
  have hz2 : w1.heap.size < w2.heap.size := by have := hb2.size; rw [World.size_alloc] at this; omega
  have H2 : Hid (Below w.heap.size w w2) := Lib.hid (HA1.out.trans (hb2.mono HA1.out.size))
  clear hb2 q0 q1 qz
  obtain ⟨q0, q1, _, _, qz⟩ := HP2.out
  go_wp2_with fail
  go_at_call 14
  refine (offsetOf_spec s ln col HSL.out _).mono ?_
  rintro e w3 ⟨rfl, hb3⟩
  rw [HR.out]
  have HP3 := Lib.hid (HP2.out.below hb3)
  have hz3 : w1.heap.size < w3.heap.size := Nat.lt_of_lt_of_le hz2 hb3.size
  have H3 : Hid (Below w.heap.size w w3) := Lib.hid (H2.out.trans (hb3.mono H2.out.size))
  clear hb3 q0 q1 qz
  cases rb with
  | false =>
    go_wp2_with fail
    go_ret
    refine ⟨?_, H3.out⟩
    first | rfl | (simp; done) | (trace_state; sorry)
  | true =>
    rcases hv : tv s with _ | _
    · have := HR.out; rw [offRes_no hv] at this; cases this
    have hrr := HR.out
    rw [offRes_yes hv] at hrr
    obtain ⟨n, l, hn, hl2, hrep⟩ := rep_offOf hrr
    subst hn
    subst hl2
    have hle := hrep.le
    have HV := Lib.hid hv
    have HC : Hid (linesB s = cut s 10) := Lib.hid (linesB_yes hv)
    have HLE := Lib.hid hle
    have HREP := Lib.hid hrep
    obtain ⟨L, hL⟩ : ∃ L, (linesB s).length = L := ⟨_, rfl⟩
    have HL := Lib.hid hL
    obtain ⟨y, hy⟩ : ∃ y, (linesB s).getD l ⟨#[]⟩ = y := ⟨_, rfl⟩
    have HY := Lib.hid hy
    have hlL : (l : Int) < (L : Int) := by have := hrep.lt; rw [← hL, HC.out]; omega
    have hcy : col ≤ (y.size : Int) := by have := hrep.c1; rw [← hy, HC.out]; exact this
    clear hrr hv hle hrep hL hy
    go_wp2_with fail
    go_at_call 10
    refine (posOf_impl_yes s n HV.out HLE.out _).mono ?_
    rintro e w4 ⟨rfl, hb4⟩
    rw [HREP.out.place.1, HREP.out.place.2]
    have HP4 := Lib.hid (HP3.out.below hb4)
    have hz4 : w1.heap.size < w4.heap.size := Nat.lt_of_lt_of_le hz3 hb4.size
    have H4 : Hid (Below w.heap.size w w4) := Lib.hid (H3.out.trans (hb4.mono H3.out.size))
    have HQ4 := Lib.hid (pAt_new w4 l col 26)
    have HA4 : Hid (Below w.heap.size w (w4.alloc (.cells #[.int .i64 l, .int .i64 col] 26))) := Lib.hid (H4.out.alloc H4.out.size _)
    have HP5 := Lib.hid (HP4.out.below ((Below.refl _ _).alloc (Nat.le_refl _) (.cells #[.int .i64 l, .int .i64 col] 26)))
    clear hb4
    go_wp2_with fail
    go_at_call 15
    refine (linesOf_impl s HSL.out _).mono ?_
    rintro e w6 ⟨v6, rfl, own6, hb6⟩
    obtain ⟨z6, y6, hv6⟩ := owns_slice own6
    rw [HL.out] at hv6
    subst hv6
    have OWN6 := Lib.hid own6
    have HP6 := Lib.hid (HP5.out.below hb6)
    have HQ6 := Lib.hid (HQ4.out.below hb6)
    have H6 : Hid (Below w.heap.size w w6) := Lib.hid (HA4.out.trans (hb6.mono HA4.out.size))
    clear own6 hb6
    obtain ⟨b1, d1, e1, n1, l1, x1⟩ := row_at OWN6.out l (by rw [HL.out]; omega)
    have f1 : z6 = some ⟨b1, 0, none⟩ := by injection e1
    subst f1
    rw [HY.out] at x1
    clear e1
    obtain ⟨p0, p1, _, _, pz⟩ := HP6.out
    obtain ⟨k0, k1, _, _, kz⟩ := HQ6.out
    go_wp2_with fail
    go_quiet (fail)
    go_wp2_with fail
    go_ret
    refine ⟨?_, below_drewN H6.out _⟩
    first | rfl | (simp; done) | (trace_state; sorry)

theorem contract (H : Type) (enc : TypeId × Value → H) (W : World) (base : Nat) (args : Array Value) (ds gs : List (DataW H)) (before : List MemPlace)
    (hval0 : ∀ (j : Nat) t v, Tryd.f4.params[j]? = some t → args[j]? = some v → Value.okWide Tryd.prog W .any base t v)
    (hW : DataW.Whole enc Tryd.prog Tryd.f4.params.toList Rows.fnOffsetOfSpec.vars false W args.toList ds gs before) :
    Calls Tryd.prog 4 args W fun e W' => ∃ v, e = .returned v ∧ Rows.fnOffsetOfSpec.post enc Tryd.prog Tryd.f4 false true false false W args v W' := by
  have hval : ∀ (j : Nat) t v, Tryd.f4.params[j]? = some t → args[j]? = some v → Value.okWide Tryd.prog W .any base t v := hval0
  have hW' := hW
  obtain ⟨p, q, hA0, hV, rfl, hfz, hnd⟩ := hW
  have hA : DataW.TrodAll enc Tryd.prog W 0 (fun _ => true) true Tryd.f4.params.toList args.toList ds p := hA0
  rw [Tryd.params4] at hA hval
  obtain ⟨v0, vs0, d0, ds0, p0, q0, hargs, rfl, rfl, h0, r0⟩ := trodAll_cons hA
  obtain ⟨rfl, rfl, rfl⟩ := trodAll_nil r0
  obtain rfl : args = #[v0] := by cases args; simp_all
  obtain ⟨rfl, rfl⟩ := trodVars_none hV
  have k0 := h0
  have lt0 : ∀ x ∈ p0, x.block < W.heap.size := by obtain ⟨m, hm⟩ := k0; exact DataW.trod_lt m _ _ _ hm
  obtain ⟨a0, len0, cap0, rfl⟩ := okWide_slice Tryd.underlying22 (hval 0 22 v0 rfl rfl)
  obtain ⟨z0, w0⟩ : ∃ zs, IsRow W a0 len0 cap0 zs := by
    obtain ⟨fuel, hf⟩ := h0
    rcases open_ints Tryd.underlying22 Tryd.underlying5 (by kernel_rfl) hf with ⟨hcs, _⟩ | ⟨x, l, c, zs, hcs, _, hl, hm, hz, _, hcell, hwz⟩
    · simp [Value.cells] at hcs
      obtain ⟨rfl, rfl, rfl⟩ := hcs
      exact ⟨[], .inl ⟨rfl, rfl, rfl, rfl⟩⟩
    · simp [Value.cells] at hcs
      obtain ⟨rfl, rfl, rfl⟩ := hcs
      exact ⟨zs, .inr ⟨_, rfl, hl, hm, by simpa using hz, hcell, hwz⟩⟩
  clear hA0 hval0
  refine (walk a0 len0 cap0 z0 W w0).mono fun e W' ⟨he, bel⟩ => ?_
  subst he
  exact ⟨_, rfl, _, _, _, [], _, [], hW', trodAll_mk1 (shut_bool Tryd.underlying4 _), (trodAll_cons_mk (Below.trod laidOut (by kernel_rfl) (of_decide_eq_true (by kernel_rfl)) k0 bel lt0) trodAll_mk0), rfl, bel.frame _, fun h => by cases h⟩

theorem laid_met (os : Os) : laidMet Tryd.prog Rows.fnOffsetOfRow.laid ((laidWorld os).forCall (fun _ _ => 0) ⟨#[], #[.slice none 0 0], []⟩).memory :=
  laidMet_of_run' 8 (by kernel_rfl) (by kernel_rfl)
theorem reads (os : Os) {H : Type} (enc : TypeId × Value → H) : ∃ places, DataW.whole enc Tryd.prog ((laidWorld os).forCall (fun _ _ => 0) ⟨#[], #[.slice none 0 0], []⟩).memory Tryd.f4.params.toList Rows.fnOffsetOfSpec.vars false (#[Value.slice none 0 0] : Array Value).toList 8 = some ([.nil], [], places) :=
  ⟨[], by kernel_rfl⟩

set_option maxRecDepth 100000 in
theorem lifted (os : Os) (started : os.Started) (H : Type) (enc : TypeId × Value → H) (F : Stop.Interp) :
    ReturnsInHanded {} Tryd.checked os 4 .any ((OpenSpec.ofChange Rows.fnOffsetOfSpec).preRow enc Tryd.prog Tryd.f4 Rows.fnOffsetOfRow.domain false Rows.fnOffsetOfRow.laid) (((OpenSpec.ofChange Rows.fnOffsetOfSpec).at F).post enc Tryd.prog Tryd.f4 false true false false) := by
  obtain ⟨places, hx⟩ := reads os enc
  refine returnsInHanded_of_row (C := Tryd.checked) (s := OpenSpec.ofChange Rows.fnOffsetOfSpec) own started (by kernel_rfl) Tryd.func4
    (witness_row_at (enc := enc) (C := Tryd.checked) false (laidWorld os) #[.slice none 0 0] rfl (by kernel_rfl) (by kernel_rfl) (by kernel_rfl)
      (OpenSpec.preRow_of_cond 8 hx (by kernel_rfl) (fun k hk => by cases hk) (by kernel_rfl) (laid_met os))) ?_
  intro W base args ds gs before hval hW _ _ _ _ _ _
  exact contract H enc W base args ds gs before hval hW

theorem said : Rows.FnOffsetOfSaid :=
  OpenClaim.holds_of_cond 4 Tryd.f4 rfl rfl rfl rfl rfl rfl rfl ⟨rfl, rfl, rfl, rfl, rfl⟩ rfl rfl rfl rfl rfl (by kernel_rfl) Tryd.func4 (by kernel_rfl)
    (of_decide_eq_true (by kernel_rfl)) (by unfold Func.isWrapper; first | (rw [if_pos (by decide +kernel)]; kernel_rfl) | (rw [if_neg (by decide +kernel)]; exact ⟨rfl, rfl⟩))
    (fun os started H enc _ F => by rw [OpenClaim.pre_eq_preRow]; exact lifted os started H enc F)

theorem plain (f : FuncId) (fn : Func) (hf : Tryd.pinned.checked.prog.funcNamed "loop.example/livetyper/laws.FnOffsetOf" = some f) (hfn : Tryd.pinned.checked.prog.funcs[f]? = some fn) :
    false = Tryd.pinned.checked.prog.looks [] ∧ ∀ (j : Nat) t, fn.params[j]? = some t → Tryd.pinned.checked.prog.wantsStandIn t = false := by
  obtain rfl : f = 4 := Option.some.inj ((show Tryd.prog.funcNamed "loop.example/livetyper/laws.FnOffsetOf" = some 4 by kernel_rfl).symm.trans hf) |>.symm
  obtain rfl : fn = Tryd.f4 := (Option.some.inj (Tryd.func4.symm.trans hfn)).symm
  refine ⟨by kernel_rfl, fun j t ht => ?_⟩
  rw [Tryd.params4] at ht
  have hm := Array.mem_of_getElem? ht
  simp at hm
  rcases hm with rfl
  · exact (show Tryd.prog.wantsStandIn 22 = false by kernel_rfl)

/-- The given statement. -/
theorem proved : Rows.FnOffsetOfCardSaid :=
  Claim7.holds_tied_plain_at .later [] _ _ _ _ said (fun _ h => by cases h) (by kernel_rfl) (fun _ h => by cases h) fnOffsetOf_row_tie rfl ⟨rfl, rfl⟩ (by kernel_rfl) rfl plain (by kernel_rfl)
end Go.Proofs.YtiaoopikmkakbaaDoor.fnOffsetOf
