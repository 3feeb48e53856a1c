/-
  FnPosOf returns true for every input of two rows of bytes, and they read as they did: places are ordered. No conditions.
-/
import Derived.Test.YtiaoopikmkakbaaDoorVw
import Derived.Test.YtiaoopikmkakbaaDoorVk
import Derived.Test.YtiaoopikmkakbaaDoorTo
namespace Go.Proofs.YtiaoopikmkakbaaDoor.fnPosOf
open Go.Proofs.YtiaoopikmkakbaaDoor
open Go.ChangeShapes Go.WideShapes Go.ChangeAt Go.RowKit Go.Joins
open Go.ChangeMaps (open_string shut_string)
set_option linter.unusedVariables false

set_option maxHeartbeats 4000000 in
theorem walk (a : Option Addr) (len cap : Nat) (zs : List Int) (a' : Option Addr) (len' cap' : Nat) (zs' : List Int) (w : World) (h : IsRow w a len cap zs) (h' : IsRow w a' len' cap' zs') :
    Calls Tryd.prog 3 #[.slice a len cap, .slice a' len' cap'] w fun e w' => e = .returned (.bool true) ∧ Below w.heap.size w w' := by
  have HZ : Hid (IsRow w a len cap zs) := Lib.hid h
  clear h h'
  by_cases hl : len ≤ 1048576
  case neg =>
    go_enter Tryd.func3, Tryd.ntmps3
    go_wp2
    go_ret
    exact ⟨rfl, Below.refl _ _⟩
  by_cases hl2 : len' ≤ 1048576
  case neg =>
    go_enter Tryd.func3, Tryd.ntmps3
    go_wp2
    go_ret
    exact ⟨rfl, Below.refl _ _⟩
  go_enter Tryd.func3, Tryd.ntmps3
  go_wp2_with fail
  go_at_call 9
  refine (drawPosOf_any a len cap zs _ HZ.out).mono ?_
  rintro e w1 ⟨s, n, hs, hn, rfl, hb1⟩
  have HSZ := Lib.hid hs
  have HSL : Hid (s.size ≤ maxLen) := Lib.hid (by unfold maxLen; omega)
  have H1 := Lib.hid hb1
  have hz1 : w.heap.size ≤ w1.heap.size := hb1.size
  clear hb1 hs
  go_wp2_with fail
  by_cases hbad : tv s = false ∨ ¬ (0 ≤ n ∧ n ≤ s.size)
  · have HBAD := Lib.hid hbad
    clear hbad hn
    go_at_call 10
    refine (posOf_impl_no s n HBAD.out HSL.out _).mono ?_
    rintro e w2 ⟨rfl, hb2⟩
    have H2 : Hid (Below w.heap.size w w2) := Lib.hid (H1.out.trans (hb2.mono H1.out.size))
    have HP2 := Lib.hid (pAt_new w2 0 0 26)
    have HA2 : Hid (Below w.heap.size w (w2.alloc (.cells #[.int .i64 0, .int .i64 0] 26))) := Lib.hid (H2.out.alloc H2.out.size _)
    clear hb2
    go_wp2_with fail
    go_at_call 11
    refine (posOf_spec_no s n HBAD.out HSL.out _).mono ?_
    rintro e w3 ⟨rfl, hb3⟩
    have H3 : Hid (Below w.heap.size w w3) := Lib.hid (HA2.out.trans (hb3.mono HA2.out.size))
    have HP3 := Lib.hid (HP2.out.below hb3)
    have hz3 : w2.heap.size < w3.heap.size := by have := hb3.size; rw [World.size_alloc] at this; omega
    have HA3 : Hid (Below w.heap.size w (w3.alloc (.cells #[.int .i64 0, .int .i64 0] 26))) := Lib.hid (H3.out.alloc H3.out.size _)
    have HP4 := Lib.hid (HP3.out.below ((Below.refl _ _).alloc (Nat.le_refl _) (.cells #[.int .i64 0, .int .i64 0] 26)))
    have HW4 := Lib.hid (pAt_new w3 0 0 26)
    clear hb3
    obtain ⟨p0, p1, _, _, pz⟩ := HP4.out
    obtain ⟨k0, k1, _, _, kz⟩ := HW4.out
    go_wp2_with fail
    go_ret
    refine ⟨?_, HA3.out⟩
    first | rfl | (simp; done) | (trace_state; sorry)
  have hva : tv s = true := by rcases h : tv s with _ | _ <;> simp_all
  have hnn : 0 ≤ n ∧ n ≤ s.size := by
    by_cases h : 0 ≤ n ∧ n ≤ s.size
    · exact h
    · exact absurd (.inr h) hbad
  obtain ⟨m, rfl⟩ : ∃ m : Nat, n = m := ⟨n.toNat, by omega⟩
  have hm : m ≤ s.size := by omega
  have HV := Lib.hid hva
  have HM := Lib.hid hm
  have HREP := Lib.hid (rep_of hm)
  have HOF : Hid (offRes s (lnN s m) (colN s m) = ((m : Int), true)) := Lib.hid (by rw [offRes_yes hva]; exact offOf_rep (rep_of hm))
  have hs2 := tv_size hva
  clear hbad hn hva hnn hm
  go_at_call 10
  refine (posOf_impl_yes s m HV.out HM.out _).mono ?_
  rintro e w2 ⟨rfl, hb2⟩
  obtain ⟨lp, hlp⟩ : ∃ lp, lnN s m = lp := ⟨_, rfl⟩
  obtain ⟨cp, hcp⟩ : ∃ cp, colN s m = cp := ⟨_, rfl⟩
  have HLP := Lib.hid hlp
  have HCP := Lib.hid hcp
  have HM3 := Lib.hid (fun W => posOf_spec_yes s m HV.out HM.out W)
  rw [hlp, hcp] at HOF HREP HM3
  rw [hlp, hcp]
  have H2 : Hid (Below w.heap.size w w2) := Lib.hid (H1.out.trans (hb2.mono H1.out.size))
  have HP2 := Lib.hid (pAt_new w2 lp cp 26)
  have HA2 : Hid (Below w.heap.size w (w2.alloc (.cells #[.int .i64 lp, .int .i64 cp] 26))) := Lib.hid (H2.out.alloc H2.out.size _)
  clear hb2 hlp hcp
  go_wp2_with fail
  go_at_call 11
  refine (HM3.out _).mono ?_
  rintro e w3 ⟨rfl, hb3⟩
  have H3 : Hid (Below w.heap.size w w3) := Lib.hid (HA2.out.trans (hb3.mono HA2.out.size))
  have HP3 := Lib.hid (HP2.out.below hb3)
  have hz3 : w2.heap.size < w3.heap.size := by have := hb3.size; rw [World.size_alloc] at this; omega
  have HA3 : Hid (Below w.heap.size w (w3.alloc (.cells #[.int .i64 lp, .int .i64 cp] 26))) := Lib.hid (H3.out.alloc H3.out.size _)
  have HP4 := Lib.hid (HP3.out.below ((Below.refl _ _).alloc (Nat.le_refl _) (.cells #[.int .i64 lp, .int .i64 cp] 26)))
  have HW4 := Lib.hid (pAt_new w3 lp cp 26)
  clear hb3
  obtain ⟨p0, p1, _, _, pz⟩ := HP4.out
  obtain ⟨k0, k1, _, _, kz⟩ := HW4.out
  go_wp2_with fail
  go_at_call 12
  refine (offsetOf_impl s lp cp HSL.out _).mono ?_
  rintro e w5 ⟨rfl, hb5⟩
  rw [HOF.out]
  have H5 : Hid (Below w.heap.size w w5) := Lib.hid (HA3.out.trans (hb5.mono HA3.out.size))
  have HP5 := Lib.hid (HP4.out.below hb5)
  have hz5 : w2.heap.size < w5.heap.size := by have := hb5.size; rw [World.size_alloc] at this; omega
  clear hb5 p0 p1 pz k0 k1 kz
  obtain ⟨k, hk⟩ : ∃ k, len' % (s.size + 1) = k := ⟨_, rfl⟩
  have hks : k ≤ s.size := by have := Nat.mod_lt len' (show 0 < s.size + 1 by omega); omega
  have hkm : ((len' : Int) % ((s.size : Int) + 1)) = (k : Int) := by rw [← hk]; push_cast; rfl
  have HK := Lib.hid hks
  have HRK := Lib.hid (rep_of hks)
  obtain ⟨lq, hlq⟩ : ∃ lq, lnN s k = lq := ⟨_, rfl⟩
  obtain ⟨cq, hcq⟩ : ∃ cq, colN s k = cq := ⟨_, rfl⟩
  have HLQ := Lib.hid hlq
  have HCQ := Lib.hid hcq
  rw [hlq, hcq] at HRK
  have HORD := Lib.hid (HRK.out.order HREP.out)
  clear hlq hcq hk hks
  go_wp2_with fail
  go_at_call 10
  refine (posOf_impl_yes s k HV.out HK.out _).mono ?_
  rintro e w6 ⟨rfl, hb6⟩
  rw [HLQ.out, HCQ.out]
  have H6 : Hid (Below w.heap.size w w6) := Lib.hid (H5.out.trans (hb6.mono H5.out.size))
  have HP6 := Lib.hid (HP5.out.below hb6)
  have hz6 : w2.heap.size < w6.heap.size := by have := hb6.size; omega
  have HA6 : Hid (Below w.heap.size w (w6.alloc (.cells #[.int .i64 lq, .int .i64 cq] 26))) := Lib.hid (H6.out.alloc H6.out.size _)
  have HP7 := Lib.hid (HP6.out.below ((Below.refl _ _).alloc (Nat.le_refl _) (.cells #[.int .i64 lq, .int .i64 cq] 26)))
  have HW7 := Lib.hid (pAt_new w6 lq cq 26)
  clear hb6
  obtain ⟨p0, p1, _, _, pz⟩ := HP7.out
  obtain ⟨k0, k1, _, _, kz⟩ := HW7.out
  rcases Nat.lt_trichotomy lq lp with h | h | h
  · have hll : (lq : Int) < (lp : Int) := by omega
    have hkm2 : (k : Int) < (m : Int) := by have := HORD.out.1 (.inl h); omega
    clear h
    go_wp2_with fail
    all_goals go_ret
    all_goals refine ⟨?_, HA6.out⟩
    all_goals first | rfl | (simp; done) | (trace_state; sorry)
  · subst h
    have hll : ¬ (lq : Int) < (lq : Int) := by omega
    by_cases hc : cq < cp
    · have hkm2 : (k : Int) < (m : Int) := by have := HORD.out.1 (.inr ⟨rfl, hc⟩); omega
      go_wp2_with fail
      all_goals go_ret
      all_goals refine ⟨?_, HA6.out⟩
      all_goals first | rfl | (simp; done) | (trace_state; sorry)
    · have hkm2 : ¬ (k : Int) < (m : Int) := fun h3 => by
        rcases HORD.out.2 (by omega) with h4 | ⟨_, h4⟩
        · omega
        · exact hc h4
      go_wp2_with fail
      all_goals go_ret
      all_goals refine ⟨?_, HA6.out⟩
      have hkn : ¬ k < m := by omega
      all_goals first | rfl | (simp [hc, hkn]; done) | (simp; done) | (trace_state; sorry)
  · have hll : ¬ (lq : Int) < (lp : Int) := by omega
    have hle2 : ((lq : Int) == (lp : Int)) = false := by simp; omega
    have hkm2 : ¬ (k : Int) < (m : Int) := fun h3 => by
      rcases HORD.out.2 (by omega) with h4 | ⟨h4, _⟩ <;> omega
    clear h
    go_wp2_with fail
    all_goals go_ret
    all_goals refine ⟨?_, HA6.out⟩
    have hkn : ¬ k < m := by omega
    have hln : ¬ lq < lp := by omega
    all_goals first | rfl | (simp [hln, hkn]; done) | (simp; done) | (trace_state; sorry)

theorem contract (H : Type) (enc : TypeId × Value → H) (W : World) (base : Nat) (args : Array Value) (ds gs : List (DataW H)) (before : List MemPlace)
    (hval0 : ∀ (j : Nat) t v, Tryd.f3.params[j]? = some t → args[j]? = some v → Value.okWide Tryd.prog W .any base t v)
    (hW : DataW.Whole enc Tryd.prog Tryd.f3.params.toList Rows.fnPosOfSpec.vars false W args.toList ds gs before) :
    Calls Tryd.prog 3 args W fun e W' => ∃ v, e = .returned v ∧ Rows.fnPosOfSpec.post enc Tryd.prog Tryd.f3 false true false false W args v W' := by
  have hval : ∀ (j : Nat) t v, Tryd.f3.params[j]? = some t → args[j]? = some v → Value.okWide Tryd.prog W .any base t v := hval0
  have hW' := hW
  obtain ⟨p, q, hA0, hV, rfl, hfz, hnd⟩ := hW
  have hA : DataW.TrodAll enc Tryd.prog W 0 (fun _ => true) true Tryd.f3.params.toList args.toList ds p := hA0
  rw [Tryd.params3] at hA hval
  obtain ⟨v0, vs0, d0, ds0, p0, q0, hargs, rfl, rfl, h0, r0⟩ := trodAll_cons hA
  obtain ⟨v1, vs1, d1, ds1, p1, q1, rfl, rfl, rfl, h1, r1⟩ := trodAll_cons r0
  obtain ⟨rfl, rfl, rfl⟩ := trodAll_nil r1
  obtain rfl : args = #[v0, v1] := by cases args; simp_all
  obtain ⟨rfl, rfl⟩ := trodVars_none hV
  have k0 := h0
  have lt0 : ∀ x ∈ p0, x.block < W.heap.size := by obtain ⟨m, hm⟩ := k0; exact DataW.trod_lt m _ _ _ hm
  have k1 := h1
  have lt1 : ∀ x ∈ p1, x.block < W.heap.size := by obtain ⟨m, hm⟩ := k1; exact DataW.trod_lt m _ _ _ hm
  obtain ⟨a0, len0, cap0, rfl⟩ := okWide_slice Tryd.underlying22 (hval 0 22 v0 rfl rfl)
  obtain ⟨z0, w0⟩ : ∃ zs, IsRow W a0 len0 cap0 zs := by
    obtain ⟨fuel, hf⟩ := h0
    rcases open_ints Tryd.underlying22 Tryd.underlying5 (by kernel_rfl) hf with ⟨hcs, _⟩ | ⟨x, l, c, zs, hcs, _, hl, hm, hz, _, hcell, hwz⟩
    · simp [Value.cells] at hcs
      obtain ⟨rfl, rfl, rfl⟩ := hcs
      exact ⟨[], .inl ⟨rfl, rfl, rfl, rfl⟩⟩
    · simp [Value.cells] at hcs
      obtain ⟨rfl, rfl, rfl⟩ := hcs
      exact ⟨zs, .inr ⟨_, rfl, hl, hm, by simpa using hz, hcell, hwz⟩⟩
  obtain ⟨a1, len1, cap1, rfl⟩ := okWide_slice Tryd.underlying22 (hval 1 22 v1 rfl rfl)
  obtain ⟨z1, w1⟩ : ∃ zs, IsRow W a1 len1 cap1 zs := by
    obtain ⟨fuel, hf⟩ := h1
    rcases open_ints Tryd.underlying22 Tryd.underlying5 (by kernel_rfl) hf with ⟨hcs, _⟩ | ⟨x, l, c, zs, hcs, _, hl, hm, hz, _, hcell, hwz⟩
    · simp [Value.cells] at hcs
      obtain ⟨rfl, rfl, rfl⟩ := hcs
      exact ⟨[], .inl ⟨rfl, rfl, rfl, rfl⟩⟩
    · simp [Value.cells] at hcs
      obtain ⟨rfl, rfl, rfl⟩ := hcs
      exact ⟨zs, .inr ⟨_, rfl, hl, hm, by simpa using hz, hcell, hwz⟩⟩
  clear hA0 hval0
  refine (walk a0 len0 cap0 z0 a1 len1 cap1 z1 W w0 w1).mono fun e W' ⟨he, bel⟩ => ?_
  subst he
  exact ⟨_, rfl, _, _, _, [], _, [], hW', trodAll_mk1 (shut_bool Tryd.underlying4 _), (trodAll_cons_mk (Below.trod laidOut (by kernel_rfl) (of_decide_eq_true (by kernel_rfl)) k0 bel lt0) (trodAll_cons_mk (Below.trod laidOut (by kernel_rfl) (of_decide_eq_true (by kernel_rfl)) k1 bel lt1) trodAll_mk0)), rfl, bel.frame _, fun h => by cases h⟩

theorem laid_met (os : Os) : laidMet Tryd.prog Rows.fnPosOfRow.laid ((laidWorld os).forCall (fun _ _ => 0) ⟨#[], #[.slice none 0 0, .slice none 0 0], []⟩).memory :=
  laidMet_of_run' 8 (by kernel_rfl) (by kernel_rfl)
theorem reads (os : Os) {H : Type} (enc : TypeId × Value → H) : ∃ places, DataW.whole enc Tryd.prog ((laidWorld os).forCall (fun _ _ => 0) ⟨#[], #[.slice none 0 0, .slice none 0 0], []⟩).memory Tryd.f3.params.toList Rows.fnPosOfSpec.vars false (#[Value.slice none 0 0, Value.slice none 0 0] : Array Value).toList 8 = some ([.nil, .nil], [], places) :=
  ⟨[], by kernel_rfl⟩

set_option maxRecDepth 100000 in
theorem lifted (os : Os) (started : os.Started) (H : Type) (enc : TypeId × Value → H) (F : Stop.Interp) :
    ReturnsInHanded {} Tryd.checked os 3 .any ((OpenSpec.ofChange Rows.fnPosOfSpec).preRow enc Tryd.prog Tryd.f3 Rows.fnPosOfRow.domain false Rows.fnPosOfRow.laid) (((OpenSpec.ofChange Rows.fnPosOfSpec).at F).post enc Tryd.prog Tryd.f3 false true false false) := by
  obtain ⟨places, hx⟩ := reads os enc
  refine returnsInHanded_of_row (C := Tryd.checked) (s := OpenSpec.ofChange Rows.fnPosOfSpec) own started (by kernel_rfl) Tryd.func3
    (witness_row_at (enc := enc) (C := Tryd.checked) false (laidWorld os) #[.slice none 0 0, .slice none 0 0] rfl (by kernel_rfl) (by kernel_rfl) (by kernel_rfl)
      (OpenSpec.preRow_of_cond 8 hx (by kernel_rfl) (fun k hk => by cases hk) (by kernel_rfl) (laid_met os))) ?_
  intro W base args ds gs before hval hW _ _ _ _ _ _
  exact contract H enc W base args ds gs before hval hW

theorem said : Rows.FnPosOfSaid :=
  OpenClaim.holds_of_cond 3 Tryd.f3 rfl rfl rfl rfl rfl rfl rfl ⟨rfl, rfl, rfl, rfl, rfl⟩ rfl rfl rfl rfl rfl (by kernel_rfl) Tryd.func3 (by kernel_rfl)
    (of_decide_eq_true (by kernel_rfl)) (by unfold Func.isWrapper; first | (rw [if_pos (by decide +kernel)]; kernel_rfl) | (rw [if_neg (by decide +kernel)]; exact ⟨rfl, rfl⟩))
    (fun os started H enc _ F => by rw [OpenClaim.pre_eq_preRow]; exact lifted os started H enc F)

theorem plain (f : FuncId) (fn : Func) (hf : Tryd.pinned.checked.prog.funcNamed "loop.example/livetyper/laws.FnPosOf" = some f) (hfn : Tryd.pinned.checked.prog.funcs[f]? = some fn) :
    false = Tryd.pinned.checked.prog.looks [] ∧ ∀ (j : Nat) t, fn.params[j]? = some t → Tryd.pinned.checked.prog.wantsStandIn t = false := by
  obtain rfl : f = 3 := Option.some.inj ((show Tryd.prog.funcNamed "loop.example/livetyper/laws.FnPosOf" = some 3 by kernel_rfl).symm.trans hf) |>.symm
  obtain rfl : fn = Tryd.f3 := (Option.some.inj (Tryd.func3.symm.trans hfn)).symm
  refine ⟨by kernel_rfl, fun j t ht => ?_⟩
  rw [Tryd.params3] at ht
  have hm := Array.mem_of_getElem? ht
  simp at hm
  rcases hm with rfl
  · exact (show Tryd.prog.wantsStandIn 22 = false by kernel_rfl)

/-- The given statement. -/
theorem proved : Rows.FnPosOfCardSaid :=
  Claim7.holds_tied_plain_at .later [] _ _ _ _ said (fun _ h => by cases h) (by kernel_rfl) (fun _ h => by cases h) fnPosOf_row_tie rfl ⟨rfl, rfl⟩ (by kernel_rfl) rfl plain (by kernel_rfl)
end Go.Proofs.YtiaoopikmkakbaaDoor.fnPosOf
