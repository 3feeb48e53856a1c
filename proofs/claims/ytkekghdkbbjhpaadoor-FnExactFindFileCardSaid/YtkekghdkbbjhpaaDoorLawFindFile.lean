/-
  FnExactFindFile returns true for every list of files and every name, and they read as they did: FindFile answers as its model. The row lists tables that the program's text lays; the card ties them.
-/
import Derived.Test.YtkekghdkbbjhpaaDoorVw
import Derived.Test.YtkekghdkbbjhpaaDoorLk
import Derived.Test.YtkekghdkbbjhpaaDoorLb
namespace Go.Proofs.YtkekghdkbbjhpaaDoor.fnExactFindFile
open Go.Proofs.YtkekghdkbbjhpaaDoor
open Go.ChangeShapes Go.WideShapes Go.ChangeAt Go.RowKit Go.Joins
open Go.ChangeMaps (open_string shut_string)
set_option linter.unusedVariables false

set_option maxRecDepth 100000 in
set_option maxHeartbeats 8000000 in
theorem walk (ls : List Fl) (lv : Value) (s : ByteArray) (w : World) (hx : FsAt w ls lv) (hz : FlSz ls) (hs : s.size ≤ maxLen) :
    Calls Tryd.prog 3 #[lv, .string s] w fun e w' => e = .returned (.bool true) ∧ Below w.heap.size w w' := by
  have HX := Lib.hid hx
  have HZ : Hid (FlSz ls) := Lib.hid hz
  have HSL := Lib.hid hs
  obtain ⟨a, cap, rfl, hlen⟩ := hx.slice
  obtain ⟨n, hn⟩ : ∃ n, ls.length = n := ⟨_, rfl⟩
  have HN := Lib.hid hn
  rw [hn] at hlen HX ⊢
  unfold maxLen at hs
  clear hx hz
  by_cases hl : s.size ≤ 1048576
  case neg =>
    go_enter Tryd.func3, Tryd.ntmps3
    go_wp2
    go_ret
    exact ⟨rfl, Below.refl _ _⟩
  by_cases hl2 : (n : Int) ≤ 1048576
  case neg =>
    have HL2 : Hid (¬ (ls.length : Int) ≤ 1048576) := Lib.hid (by rw [hn]; exact hl2)
    clear hn hl2
    go_enter Tryd.func3, Tryd.ntmps3
    go_wp2_with fail
    go_at_call 7
    refine (szFileS_long ls _ _ HX.out (by have := HL2.out; omega)).mono ?_
    rintro e w1 ⟨rfl, hb1⟩
    go_wp2_with fail
    go_ret
    exact ⟨rfl, hb1⟩
  have HL : Hid ((ls.length : Int) ≤ 1048576) := Lib.hid (by rw [hn]; exact hl2)
  have HM : Hid (ls.length ≤ 2000000) := Lib.hid (by rw [hn]; omega)
  obtain ⟨b, hb⟩ : ∃ b, lff (1048576 - ls.length) ls = b := ⟨_, rfl⟩
  have hbr := lff_range (ls := ls) (n := 1048576 - ls.length) (by rw [hn]; omega)
  rw [hb] at hbr
  have HBB := Lib.hid hb
  clear hn hb hl2
  rcases hbr with rfl | ⟨hb0, hb1⟩
  · go_enter Tryd.func3, Tryd.ntmps3
    go_wp2_with fail
    go_at_call 7
    refine (szFileS_any ls _ _ _ HZ.out HX.out HL.out HBB.out).mono ?_
    rintro e w1 ⟨rfl, hb1⟩
    go_wp2_with fail
    go_ret
    exact ⟨rfl, hb1⟩
  have hbn : ¬ b < 0 := by omega
  clear hb0 hb1
  obtain ⟨r, hr⟩ := fdR_ex ls s
  have HR : Hid (FdR ls s r) := Lib.hid hr
  obtain ⟨v, hv⟩ : ∃ v, fdB ls r = v := ⟨_, rfl⟩
  have HV := Lib.hid hv
  obtain ⟨q, hq⟩ : ∃ q, fdT ls r = q := ⟨_, rfl⟩
  have HQ := Lib.hid hq
  have hvv : (v != v) = false := by cases v <;> rfl
  have hqq : (q.toList == q.toList) = true := beq_self_eq_true _
  clear hv hr hq
  go_enter Tryd.func3, Tryd.ntmps3
  go_wp2_with fail
  go_at_call 7
  refine (szFileS_any ls _ _ _ HZ.out HX.out HL.out HBB.out).mono ?_
  rintro e w1 ⟨rfl, hb1⟩
  have HB1 := Lib.hid ((Below.refl w.heap.size w).trans (hb1.mono (Below.refl w.heap.size w).size))
  have HX_1 := Lib.hid (HX.out.kept hb1)
  clear hb1
  go_wp2_with fail
  go_at_call 9
  refine (toFileS_any ls _ _ HL.out HX_1.out).mono ?_
  rintro e w2 ⟨aA1, rfl, hat, hb2⟩
  have HB2 := Lib.hid (HB1.out.trans (hb2.mono HB1.out.size))
  have HX_2 := Lib.hid (HX_1.out.kept hb2)
  have A1 := Lib.hid hat
  clear hat
  clear hb2
  go_wp2_with fail
  go_at_call 8
  refine (findFile_spec ls _ _ s r _ HM.out (Nat.le_refl _) HM.out HZ.out HR.out A1.out).mono ?_
  rintro e w3 ⟨rfl, hb3⟩
  rw [HV.out, HQ.out]
  have HB3 := Lib.hid (HB2.out.trans (hb3.mono HB2.out.size))
  have HX_3 := Lib.hid (HX_2.out.kept hb3)
  have A1_3 := Lib.hid (A1.out.kept hb3)
  clear hb3
  go_wp2_with fail
  go_at_call 9
  refine (toFileS_any ls _ _ HL.out HX_3.out).mono ?_
  rintro e w4 ⟨aA2, rfl, hat, hb4⟩
  have HB4 := Lib.hid (HB3.out.trans (hb4.mono HB3.out.size))
  have HX_4 := Lib.hid (HX_3.out.kept hb4)
  have A2 := Lib.hid hat
  clear hat
  clear hb4
  go_wp2_with fail
  go_at_call 10
  refine (findFile_impl ls _ _ s r _ HM.out HZ.out HSL.out HR.out A2.out).mono ?_
  rintro e w5 ⟨rfl, hb5⟩
  rw [HV.out, HQ.out]
  have HB5 := Lib.hid (HB4.out.trans (hb5.mono HB4.out.size))
  have HX_5 := Lib.hid (HX_4.out.kept hb5)
  have A2_5 := Lib.hid (A2.out.kept hb5)
  clear hb5
  go_wp2_with fail
  go_at_call 9
  refine (toFileS_any ls _ _ HL.out HX_5.out).mono ?_
  rintro e w6 ⟨aA3, rfl, hat, hb6⟩
  have HB6 := Lib.hid (HB5.out.trans (hb6.mono HB5.out.size))
  have HX_6 := Lib.hid (HX_5.out.kept hb6)
  have A2_6 := Lib.hid (A2_5.out.kept hb6)
  have A3 := Lib.hid hat
  clear hat
  clear hb6
  go_wp2_with fail
  go_at_call 11
  refine (eqFileS_any ls _ _ _ HL.out A2_6.out A3.out).mono ?_
  rintro e w7 ⟨rfl, hb7⟩
  have HB7 := Lib.hid (HB6.out.trans (hb7.mono HB6.out.size))
  have HX_7 := Lib.hid (HX_6.out.kept hb7)
  have A2_7 := Lib.hid (A2_6.out.kept hb7)
  have A3_7 := Lib.hid (A3.out.kept hb7)
  clear hb7
  go_wp2_with fail
  go_ret
  exact ⟨rfl, HB7.out⟩

set_option maxRecDepth 100000 in
theorem contract (H : Type) (enc : TypeId × Value → H) (W : World) (base : Nat) (args : Array Value) (ds gs : List (DataW H)) (before : List MemPlace)
    (hval0 : ∀ (j : Nat) t v, Tryd.f3.params[j]? = some t → args[j]? = some v → Value.okWide Tryd.prog W .any base t v)
    (hW : DataW.Whole enc Tryd.prog Tryd.f3.params.toList Rows.fnExactFindFileSpec.vars false W args.toList ds gs before) :
    Calls Tryd.prog 3 args W fun e W' => ∃ v, e = .returned v ∧ Rows.fnExactFindFileSpec.post enc Tryd.prog Tryd.f3 false true false false W args v W' := by
  have hval : ∀ (j : Nat) t v, Tryd.f3.params[j]? = some t → args[j]? = some v → Value.okWide Tryd.prog W .any base t v := hval0
  have hW' := hW
  obtain ⟨p, q, hA0, hV, rfl, hfz, hnd⟩ := hW
  have hA : DataW.TrodAll enc Tryd.prog W 0 (fun _ => true) true Tryd.f3.params.toList args.toList ds p := hA0
  rw [Tryd.params3] at hA hval
  obtain ⟨v0, vs0, d0, ds0, p0, q0, hargs, rfl, rfl, h0, r0⟩ := trodAll_cons hA
  obtain ⟨v1, vs1, d1, ds1, p1, q1, rfl, rfl, rfl, h1, r1⟩ := trodAll_cons r0
  obtain ⟨rfl, rfl, rfl⟩ := trodAll_nil r1
  obtain rfl : args = #[v0, v1] := by cases args; simp_all
  obtain ⟨rfl, rfl⟩ := trodVars_none hV
  have k0 := h0
  have lt0 : ∀ x ∈ p0, x.block < W.heap.size := by obtain ⟨m, hm⟩ := k0; exact DataW.trod_lt m _ _ _ hm
  have k1 := h1
  have lt1 : ∀ x ∈ p1, x.block < W.heap.size := by obtain ⟨m, hm⟩ := k1; exact DataW.trod_lt m _ _ _ hm
  obtain ⟨a0, len0, cap0, rfl⟩ := okWide_slice Tryd.underlying22 (hval 0 22 v0 rfl rfl)
  obtain ⟨u0, hz0, hn0⟩ : ∃ (ls : List Fl), FsAt W ls (.slice a0 len0 cap0) ∧ FlSz ls := by
    obtain ⟨fuel, hf⟩ := h0
    obtain ⟨ls, v, hcs, hat, hsz⟩ := fls_of_trod fuel _ _ hf
    simp [Value.cells] at hcs
    exact ⟨ls, hcs ▸ hat, hsz⟩
  obtain ⟨a1, rfl, rfl, rfl, w1⟩ := open_string Tryd.underlying9 (hval 1 9 v1 rfl rfl) h1
  clear hA0 hval0
  refine (walk u0 (.slice a0 len0 cap0) a1 W hz0 hn0 w1).mono fun e W' ⟨he, bel⟩ => ?_
  subst he
  exact ⟨_, rfl, _, _, _, [], _, [], hW', trodAll_mk1 (shut_bool Tryd.underlying4 _), (trodAll_cons_mk (Below.trod laidOut (by kernel_rfl) (of_decide_eq_true (by kernel_rfl)) k0 bel lt0) (trodAll_cons_mk (Below.trod laidOut (by kernel_rfl) (of_decide_eq_true (by kernel_rfl)) k1 bel lt1) trodAll_mk0)), rfl, bel.frame _, fun h => by cases h⟩

theorem laid_met (os : Os) : laidMet Tryd.prog Rows.fnExactFindFileRow.laid ((laidWorld os).forCall (fun _ _ => 0) ⟨#[], #[.slice none 0 0, .string ⟨#[]⟩], []⟩).memory :=
  laidMet_of_run' 8 (by kernel_rfl) (by kernel_rfl)
theorem reads (os : Os) {H : Type} (enc : TypeId × Value → H) : ∃ places, DataW.whole enc Tryd.prog ((laidWorld os).forCall (fun _ _ => 0) ⟨#[], #[.slice none 0 0, .string ⟨#[]⟩], []⟩).memory Tryd.f3.params.toList Rows.fnExactFindFileSpec.vars false (#[Value.slice none 0 0, Value.string ⟨#[]⟩] : Array Value).toList 8 = some ([.nil, .lit (.string [])], [], places) :=
  ⟨[], by kernel_rfl⟩

set_option maxRecDepth 100000 in
theorem lifted (os : Os) (started : os.Started) (H : Type) (enc : TypeId × Value → H) (F : Stop.Interp) :
    ReturnsInHanded {} Tryd.checked os 3 .any ((OpenSpec.ofChange Rows.fnExactFindFileSpec).preRow enc Tryd.prog Tryd.f3 Rows.fnExactFindFileRow.domain false Rows.fnExactFindFileRow.laid) (((OpenSpec.ofChange Rows.fnExactFindFileSpec).at F).post enc Tryd.prog Tryd.f3 false true false false) := by
  obtain ⟨places, hx⟩ := reads os enc
  refine returnsInHanded_of_row (C := Tryd.checked) (s := OpenSpec.ofChange Rows.fnExactFindFileSpec) own started (by kernel_rfl) Tryd.func3
    (witness_row_at (enc := enc) (C := Tryd.checked) false (laidWorld os) #[.slice none 0 0, .string ⟨#[]⟩] rfl (by kernel_rfl) (by kernel_rfl) (by kernel_rfl)
      (OpenSpec.preRow_of_cond 8 hx (by kernel_rfl) (fun k hk => by cases hk) (by kernel_rfl) (laid_met os))) ?_
  intro W base args ds gs before hval hW _ _ _ _ _ _
  exact contract H enc W base args ds gs before hval hW

theorem said : Rows.FnExactFindFileSaid :=
  OpenClaim.holds_of_cond 3 Tryd.f3 rfl rfl rfl rfl rfl rfl rfl ⟨rfl, rfl, rfl, rfl, rfl⟩ rfl rfl rfl rfl rfl (by kernel_rfl) Tryd.func3 (by kernel_rfl)
    (of_decide_eq_true (by kernel_rfl)) (by unfold Func.isWrapper; first | (rw [if_pos (by decide +kernel)]; kernel_rfl) | (rw [if_neg (by decide +kernel)]; exact ⟨rfl, rfl⟩))
    (fun os started H enc _ F => by rw [OpenClaim.pre_eq_preRow]; exact lifted os started H enc F)

theorem plain (f : FuncId) (fn : Func) (hf : Tryd.pinned.checked.prog.funcNamed "loop.example/livetyper/laws.FnExactFindFile" = some f) (hfn : Tryd.pinned.checked.prog.funcs[f]? = some fn) :
    false = Tryd.pinned.checked.prog.looks [] ∧ ∀ (j : Nat) t, fn.params[j]? = some t → Tryd.pinned.checked.prog.wantsStandIn t = false := by
  obtain rfl : f = 3 := Option.some.inj ((show Tryd.prog.funcNamed "loop.example/livetyper/laws.FnExactFindFile" = some 3 by kernel_rfl).symm.trans hf) |>.symm
  obtain rfl : fn = Tryd.f3 := (Option.some.inj (Tryd.func3.symm.trans hfn)).symm
  refine ⟨by kernel_rfl, fun j t ht => ?_⟩
  rw [Tryd.params3] at ht
  have hm := Array.mem_of_getElem? ht
  simp at hm
  rcases hm with rfl | rfl
  · exact (show Tryd.prog.wantsStandIn 22 = false by kernel_rfl)
  · exact (show Tryd.prog.wantsStandIn 9 = false by kernel_rfl)

/-- The given statement. -/
theorem proved : Rows.FnExactFindFileCardSaid :=
  Claim7.holds_tied_plain_at .later [] _ _ _ _ said (fun _ h => by cases h) (by kernel_rfl) (fun _ h => by cases h) fnExactFindFile_row_tie rfl ⟨rfl, rfl⟩ (by kernel_rfl) rfl plain (by kernel_rfl)
end Go.Proofs.YtkekghdkbbjhpaaDoor.fnExactFindFile
