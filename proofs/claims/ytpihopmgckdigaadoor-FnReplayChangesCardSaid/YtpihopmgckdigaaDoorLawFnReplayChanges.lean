/-
  FnReplayChanges returns true for every input of two rows of bytes, and they read as they did: changes can be made in two parts. The row lists tables that the program's text lays; the card ties them.
-/
import Derived.Test.YtpihopmgckdigaaDoorVw
import Derived.Test.YtpihopmgckdigaaDoorDkl
import Derived.Test.YtpihopmgckdigaaDoorDfh
import Derived.Test.YtpihopmgckdigaaDoorJhx
namespace Go.Proofs.YtpihopmgckdigaaDoor.fnReplayChanges
open Go.Proofs.YtpihopmgckdigaaDoor
open Go.ChangeShapes Go.WideShapes Go.ChangeAt Go.RowKit Go.Joins
open Go.ChangeMaps (open_string shut_string)
set_option linter.unusedVariables false

theorem rpF_le (ls : List Fl) (cs : List Ch) : (rpF ls cs).length ≤ 4 := by
  rcases hr : rpR ls cs with _ | fs
  · unfold rpF; rw [hr]; exact Nat.zero_le _
  · rw [rpF_some hr]
    unfold rpR at hr
    by_cases h : (filesB ls && decide (cs.length ≤ 100)) = true
    · rw [if_pos h] at hr
      rw [Bool.and_eq_true] at h
      rw [rpC_len cs ls fs hr]
      have h1 := h.1
      unfold filesB at h1
      simp only [Bool.and_eq_true, decide_eq_true_eq] at h1
      exact h1.1
    · rw [if_neg h] at hr; cases hr
set_option maxRecDepth 100000 in
set_option maxHeartbeats 8000000 in
theorem walk (a : Option Addr) (len cap : Nat) (zs : List Int) (a' : Option Addr) (len' cap' : Nat) (zs' : List Int) (w : World) (h : IsRow w a len cap zs) (h' : IsRow w a' len' cap' zs') :
    Calls Tryd.prog 3 #[.slice a len cap, .slice a' len' cap'] w fun e w' => e = .returned (.bool true) ∧ Below w.heap.size w w' := by
  have HZ : Hid (IsRow w a len cap zs) := Lib.hid h
  clear h h'
  by_cases hl : len ≤ 1048576
  case neg =>
    go_enter Tryd.func3, Tryd.ntmps3
    go_wp2
    go_ret
    exact ⟨rfl, Below.refl _ _⟩
  by_cases hl2 : len' ≤ 1048576
  case neg =>
    go_enter Tryd.func3, Tryd.ntmps3
    go_wp2
    go_ret
    exact ⟨rfl, Below.refl _ _⟩
  go_enter Tryd.func3, Tryd.ntmps3
  go_wp2_with fail
  go_at_call 6
  refine (drawReplayChanges_any a len cap zs _ HZ.out).mono ?_
  rintro e w1 ⟨ls, cs, g, c, g2, c2, hls, hcs, hlz, hcz, rfl, hf, hc, hb, hcap1, hcap2, hcap3, hcap4⟩
  have HLZ : Hid (FlSz ls) := Lib.hid (fun i hi => ⟨by have := (hlz (ls.getD i Fl.dummy) (by simp [List.getD, hi])).1; unfold maxLen; omega, by have := (hlz (ls.getD i Fl.dummy) (by simp [List.getD, hi])).2; unfold maxLen; omega⟩)
  have HCZ : Hid (ChSz cs) := Lib.hid (fun i hi => ⟨by have := (hcz (cs.getD i Ch.dummy) (by simp [List.getD, hi])).1; unfold maxLen; omega, by have := (hcz (cs.getD i Ch.dummy) (by simp [List.getD, hi])).2; unfold maxLen; omega⟩)
  have HF1 := Lib.hid hf
  have HC1 := Lib.hid hc
  have HB1 := Lib.hid hb
  obtain ⟨n, hn⟩ : ∃ n, ls.length = n := ⟨_, rfl⟩
  obtain ⟨j, hj⟩ : ∃ j, cs.length = j := ⟨_, rfl⟩
  have HN := Lib.hid hn
  have HJ := Lib.hid hj
  rw [hn] at hls HF1 hcap1 ⊢
  rw [hj] at hcs HC1 hcap3 ⊢
  clear hf hc hb hlz hcz hn hj
  go_wp2_with fail
  go_at_call 7
  refine (replay_impl ls n HN.out (by omega) HLZ.out cs j HJ.out HCZ.out g c c2 _ w1 HF1.out HC1.out).mono ?_
  rintro e w2 ⟨ax, cx, lx, hx, rfl, hfx, hx1, hx2, hb2, hgx⟩
  obtain ⟨v, hv⟩ : ∃ v, rpB ls cs = v := ⟨_, rfl⟩
  obtain ⟨fs, hfs⟩ : ∃ fs, rpF ls cs = fs := ⟨_, rfl⟩
  obtain ⟨m, hm⟩ : ∃ m, fs.length = m := ⟨_, rfl⟩
  have HV := Lib.hid hv
  have HFS := Lib.hid hfs
  have HM := Lib.hid hm
  have hm4 : m ≤ 4 := by rw [← hm, ← hfs]; exact rpF_le ls cs
  rw [hfs] at hfx
  rw [hm] at hfx
  rw [hv, hfs, hm]
  have HX2 := Lib.hid hfx.at
  have HF2 := Lib.hid (HF1.out.kept hb2)
  have HC2 := Lib.hid (HC1.out.kept hb2)
  have HB2 := Lib.hid (HB1.out.trans (hb2.mono HB1.out.size))
  clear hfx hx1 hx2 hb2 hgx hv hfs hm
  go_wp2_with fail
  go_at_call 8
  refine (replay_spec ls n HN.out (by omega) HLZ.out cs j HJ.out HCZ.out g c c2 _ hcap1 hcap2 w2 HF2.out HC2.out).mono ?_
  rintro e w3 ⟨ay, cy, ly, hy, rfl, hfy, hy1, hy2, hb3, hgy⟩
  rw [HFS.out] at hfy
  rw [HM.out] at hfy
  rw [HV.out, HFS.out, HM.out]
  have HY3 := Lib.hid hfy.at
  have HX3 := Lib.hid (HX2.out.kept hb3)
  have HF3 := Lib.hid (HF2.out.kept hb3)
  have HC3 := Lib.hid (HC2.out.kept hb3)
  have HB3 := Lib.hid (HB2.out.trans (hb3.mono HB2.out.size))
  clear hfy hy1 hy2 hb3 hgy
  have hvv : (v != v) = false := by cases v <;> rfl
  have hve : (v == v) = true := by cases v <;> rfl
  go_wp2_with fail
  go_at_call 9
  refine (lvFiles_any fs m HM.out (by omega) ax ay cx cy w3 HX3.out HY3.out).mono ?_
  rintro e w4 ⟨rfl, hb4⟩
  have HX4 := Lib.hid (HX3.out.kept hb4)
  have HY4 := Lib.hid (HY3.out.kept hb4)
  have HF4 := Lib.hid (HF3.out.kept hb4)
  have HC4 := Lib.hid (HC3.out.kept hb4)
  have HB4 := Lib.hid (HB3.out.trans (hb4.mono HB3.out.size))
  clear hb4 hvv hve
  rcases v with _ | _
  · go_wp2_with fail
    go_at_call 9
    refine (lvFiles_any fs m HM.out (by omega) ax ay cx cy w4 HX4.out HY4.out).mono ?_
    rintro e w5 ⟨rfl, hb5⟩
    have HB5 := Lib.hid (HB4.out.trans (hb5.mono HB4.out.size))
    clear hb5
    go_wp2_with fail
    go_ret
    exact ⟨rfl, HB5.out⟩
  have HR : Hid (rpR ls cs = some fs) := Lib.hid (by rw [← HFS.out]; exact rpR_of HV.out)
  obtain ⟨k, hk⟩ : ∃ k, len' % (j + 1) = k := ⟨_, rfl⟩
  have hkj : k ≤ j := by have := Nat.mod_lt len' (show 0 < j + 1 by omega); omega
  have hkm : ((len' : Int) % ((j : Int) + 1)) = (k : Int) := by rw [← hk]; push_cast; rfl
  have hkc : k ≤ c2 := by omega
  obtain ⟨ys, hr1, hr2, hz1, hz2, hy4, hf4, hfv⟩ := rpR_parts HR.out HLZ.out k
  obtain ⟨q, hq⟩ : ∃ q, ys.length = q := ⟨_, rfl⟩
  have HQ := Lib.hid hq
  have HR1 := Lib.hid hr1
  have HR2 := Lib.hid hr2
  have HZ1 : Hid (FlSz ys) := Lib.hid hz1
  have HZ2 : Hid (FlSz fs) := Lib.hid hz2
  have HFV := Lib.hid hfv
  rw [hq] at hy4
  have HTK : Hid ((cs.take k).length = k) := Lib.hid (by rw [List.length_take, HJ.out]; omega)
  have HDK : Hid ((cs.drop k).length = j - k) := Lib.hid (by rw [List.length_drop, HJ.out])
  have HTZ : Hid (ChSz (cs.take k)) := Lib.hid (fun i hi => by
    have h1 := HTK.out
    have e : (cs.take k).getD i Ch.dummy = cs.getD i Ch.dummy := by simp [List.getD, show i < k by omega]
    rw [e]; exact HCZ.out i (by have := HJ.out; omega))
  have HDZ : Hid (ChSz (cs.drop k)) := Lib.hid (fun i hi => by
    have h1 := HDK.out
    have e : (cs.drop k).getD i Ch.dummy = cs.getD (k + i) Ch.dummy := by simp [List.getD]
    rw [e]; exact HCZ.out (k + i) (by have := HJ.out; omega))
  have HT4 : Hid (CsAt w4 (cs.take k) (.slice (some ⟨g2, 0, none⟩) k c2)) := Lib.hid (HC4.out.take k c2 (by rw [HJ.out]; exact hkj))
  clear hk hr1 hr2 hz1 hz2 hf4 hfv hq
  go_wp2_with fail
  go_at_call 7
  refine (replay_impl ls n HN.out (by omega) HLZ.out (cs.take k) k HTK.out HTZ.out g c c2 _ w4 HF4.out HT4.out).mono ?_
  rintro e w5 ⟨az, cz, lz, hz, rfl, hfz, hz1, hz2, hb5, hgz⟩
  obtain ⟨g5, rfl⟩ := hgz (rpB_some HR1.out)
  rw [rpB_some HR1.out]
  rw [rpF_some HR1.out] at hfz ⊢
  rw [HQ.out] at hfz ⊢
  have HY5 := Lib.hid hfz.at
  have HX5 := Lib.hid (HX4.out.kept hb5)
  have HD5 : Hid (CsAt w5 (cs.drop k) (.slice (some ⟨g2, k * 4, none⟩) (j - k) (c2 - k))) := Lib.hid (by have h := (HC4.out.kept hb5).drop k (j - k) (c2 - k) (by rw [HJ.out]; exact hkj) (by rw [HJ.out]); rw [Nat.zero_add] at h; exact h)
  have HB5 := Lib.hid (HB4.out.trans (hb5.mono HB4.out.size))
  clear hfz hz1 hz2 hb5 hgz
  have HDE : Hid (∀ (a : Option Addr) (cap : Nat), j - k = 0 → CsAt w5 (cs.drop k) (.slice a (j - k) cap)) := Lib.hid (fun a cap h0 => by
    have e : cs.drop k = [] := List.drop_eq_nil_of_le (by have := HJ.out; omega)
    rw [e, h0]
    exact .bare _ _)
  go_wp2_with fail
  all_goals
    go_at_call 7
    refine (replay_impl ys q HQ.out (by omega) HZ1.out (cs.drop k) (j - k) HDK.out HDZ.out g5 cz _ _ w5 HY5.out (by first | exact HD5.out | exact HDE.out _ _ (by omega))).mono ?_
    rintro e w6 ⟨au, cu, lu, hu, rfl, hfu, hu1, hu2, hb6, hgu⟩
    rw [rpB_some HR2.out]
    rw [rpF_some HR2.out] at hfu ⊢
    rw [HM.out] at hfu ⊢
    have HU6 := Lib.hid hfu.at
    have HX6 := Lib.hid (HX5.out.kept hb6)
    have HB6 := Lib.hid (HB5.out.trans (hb6.mono HB5.out.size))
    clear hfu hu1 hu2 hb6 hgu
    go_wp2_with fail
    go_at_call 9
    refine (lvFiles_any fs m HM.out (by omega) au ax cu cx w6 HU6.out HX6.out).mono ?_
    rintro e w7 ⟨rfl, hb7⟩
    have HX7 : Hid (FsAt w7 fs (.slice ax fs.length cx)) := Lib.hid (by rw [HM.out]; exact HX6.out.kept hb7)
    have HB7 := Lib.hid (HB6.out.trans (hb7.mono HB6.out.size))
    clear hb7
    have HVV : Hid (Calls Tryd.prog 10 #[.slice ax m cx] w7 fun e w' => e = .returned (.bool true) ∧ Below w7.heap.size w7 w') := Lib.hid (by
      have h := filesValid_impl fs ax cx w7 (by rw [HM.out]; omega) HZ2.out HX7.out
      rw [HM.out, HFV.out] at h
      exact h)
    go_wp2_with fail
    go_at_call 10
    refine (HVV.out).mono ?_
    rintro e w8 ⟨rfl, hb8⟩
    have HB8 := Lib.hid (HB7.out.trans (hb8.mono HB7.out.size))
    clear hb8
    go_wp2_with fail
    go_ret
    exact ⟨rfl, HB8.out⟩

set_option maxRecDepth 100000 in
theorem contract (H : Type) (enc : TypeId × Value → H) (W : World) (base : Nat) (args : Array Value) (ds gs : List (DataW H)) (before : List MemPlace)
    (hval0 : ∀ (j : Nat) t v, Tryd.f3.params[j]? = some t → args[j]? = some v → Value.okWide Tryd.prog W .any base t v)
    (hW : DataW.Whole enc Tryd.prog Tryd.f3.params.toList Rows.fnReplayChangesSpec.vars false W args.toList ds gs before) :
    Calls Tryd.prog 3 args W fun e W' => ∃ v, e = .returned v ∧ Rows.fnReplayChangesSpec.post enc Tryd.prog Tryd.f3 false true false false W args v W' := by
  have hval : ∀ (j : Nat) t v, Tryd.f3.params[j]? = some t → args[j]? = some v → Value.okWide Tryd.prog W .any base t v := hval0
  have hW' := hW
  obtain ⟨p, q, hA0, hV, rfl, hfz, hnd⟩ := hW
  have hA : DataW.TrodAll enc Tryd.prog W 0 (fun _ => true) true Tryd.f3.params.toList args.toList ds p := hA0
  rw [Tryd.params3] at hA hval
  obtain ⟨v0, vs0, d0, ds0, p0, q0, hargs, rfl, rfl, h0, r0⟩ := trodAll_cons hA
  obtain ⟨v1, vs1, d1, ds1, p1, q1, rfl, rfl, rfl, h1, r1⟩ := trodAll_cons r0
  obtain ⟨rfl, rfl, rfl⟩ := trodAll_nil r1
  obtain rfl : args = #[v0, v1] := by cases args; simp_all
  obtain ⟨rfl, rfl⟩ := trodVars_none hV
  have k0 := h0
  have lt0 : ∀ x ∈ p0, x.block < W.heap.size := by obtain ⟨m, hm⟩ := k0; exact DataW.trod_lt m _ _ _ hm
  have k1 := h1
  have lt1 : ∀ x ∈ p1, x.block < W.heap.size := by obtain ⟨m, hm⟩ := k1; exact DataW.trod_lt m _ _ _ hm
  obtain ⟨a0, len0, cap0, rfl⟩ := okWide_slice Tryd.underlying22 (hval 0 22 v0 rfl rfl)
  obtain ⟨z0, w0⟩ : ∃ zs, IsRow W a0 len0 cap0 zs := by
    obtain ⟨fuel, hf⟩ := h0
    rcases open_ints Tryd.underlying22 Tryd.underlying5 (by kernel_rfl) hf with ⟨hcs, _⟩ | ⟨x, l, c, zs, hcs, _, hl, hm, hz, _, hcell, hwz⟩
    · simp [Value.cells] at hcs
      obtain ⟨rfl, rfl, rfl⟩ := hcs
      exact ⟨[], .inl ⟨rfl, rfl, rfl, rfl⟩⟩
    · simp [Value.cells] at hcs
      obtain ⟨rfl, rfl, rfl⟩ := hcs
      exact ⟨zs, .inr ⟨_, rfl, hl, hm, by simpa using hz, hcell, hwz⟩⟩
  obtain ⟨a1, len1, cap1, rfl⟩ := okWide_slice Tryd.underlying22 (hval 1 22 v1 rfl rfl)
  obtain ⟨z1, w1⟩ : ∃ zs, IsRow W a1 len1 cap1 zs := by
    obtain ⟨fuel, hf⟩ := h1
    rcases open_ints Tryd.underlying22 Tryd.underlying5 (by kernel_rfl) hf with ⟨hcs, _⟩ | ⟨x, l, c, zs, hcs, _, hl, hm, hz, _, hcell, hwz⟩
    · simp [Value.cells] at hcs
      obtain ⟨rfl, rfl, rfl⟩ := hcs
      exact ⟨[], .inl ⟨rfl, rfl, rfl, rfl⟩⟩
    · simp [Value.cells] at hcs
      obtain ⟨rfl, rfl, rfl⟩ := hcs
      exact ⟨zs, .inr ⟨_, rfl, hl, hm, by simpa using hz, hcell, hwz⟩⟩
  clear hA0 hval0
  refine (walk a0 len0 cap0 z0 a1 len1 cap1 z1 W w0 w1).mono fun e W' ⟨he, bel⟩ => ?_
  subst he
  exact ⟨_, rfl, _, _, _, [], _, [], hW', trodAll_mk1 (shut_bool Tryd.underlying4 _), (trodAll_cons_mk (Below.trod laidOut (by kernel_rfl) (of_decide_eq_true (by kernel_rfl)) k0 bel lt0) (trodAll_cons_mk (Below.trod laidOut (by kernel_rfl) (of_decide_eq_true (by kernel_rfl)) k1 bel lt1) trodAll_mk0)), rfl, bel.frame _, fun h => by cases h⟩

theorem laid_met (os : Os) : laidMet Tryd.prog Rows.fnReplayChangesRow.laid ((laidWorld os).forCall (fun _ _ => 0) ⟨#[], #[.slice none 0 0, .slice none 0 0], []⟩).memory :=
  laidMet_of_run' 8 (by kernel_rfl) (by kernel_rfl)
theorem reads (os : Os) {H : Type} (enc : TypeId × Value → H) : ∃ places, DataW.whole enc Tryd.prog ((laidWorld os).forCall (fun _ _ => 0) ⟨#[], #[.slice none 0 0, .slice none 0 0], []⟩).memory Tryd.f3.params.toList Rows.fnReplayChangesSpec.vars false (#[Value.slice none 0 0, Value.slice none 0 0] : Array Value).toList 8 = some ([.nil, .nil], [], places) :=
  ⟨[], by kernel_rfl⟩

set_option maxRecDepth 100000 in
theorem lifted (os : Os) (started : os.Started) (H : Type) (enc : TypeId × Value → H) (F : Stop.Interp) :
    ReturnsInHanded {} Tryd.checked os 3 .any ((OpenSpec.ofChange Rows.fnReplayChangesSpec).preRow enc Tryd.prog Tryd.f3 Rows.fnReplayChangesRow.domain false Rows.fnReplayChangesRow.laid) (((OpenSpec.ofChange Rows.fnReplayChangesSpec).at F).post enc Tryd.prog Tryd.f3 false true false false) := by
  obtain ⟨places, hx⟩ := reads os enc
  refine returnsInHanded_of_row (C := Tryd.checked) (s := OpenSpec.ofChange Rows.fnReplayChangesSpec) own started (by kernel_rfl) Tryd.func3
    (witness_row_at (enc := enc) (C := Tryd.checked) false (laidWorld os) #[.slice none 0 0, .slice none 0 0] rfl (by kernel_rfl) (by kernel_rfl) (by kernel_rfl)
      (OpenSpec.preRow_of_cond 8 hx (by kernel_rfl) (fun k hk => by cases hk) (by kernel_rfl) (laid_met os))) ?_
  intro W base args ds gs before hval hW _ _ _ _ _ _
  exact contract H enc W base args ds gs before hval hW

theorem said : Rows.FnReplayChangesSaid :=
  OpenClaim.holds_of_cond 3 Tryd.f3 rfl rfl rfl rfl rfl rfl rfl ⟨rfl, rfl, rfl, rfl, rfl⟩ rfl rfl rfl rfl rfl (by kernel_rfl) Tryd.func3 (by kernel_rfl)
    (of_decide_eq_true (by kernel_rfl)) (by unfold Func.isWrapper; first | (rw [if_pos (by decide +kernel)]; kernel_rfl) | (rw [if_neg (by decide +kernel)]; exact ⟨rfl, rfl⟩))
    (fun os started H enc _ F => by rw [OpenClaim.pre_eq_preRow]; exact lifted os started H enc F)

theorem plain (f : FuncId) (fn : Func) (hf : Tryd.pinned.checked.prog.funcNamed "loop.example/livetyper/laws.FnReplayChanges" = some f) (hfn : Tryd.pinned.checked.prog.funcs[f]? = some fn) :
    true = Tryd.pinned.checked.prog.looks [] ∧ ∀ (j : Nat) t, fn.params[j]? = some t → Tryd.pinned.checked.prog.wantsStandIn t = false := by
  obtain rfl : f = 3 := Option.some.inj ((show Tryd.prog.funcNamed "loop.example/livetyper/laws.FnReplayChanges" = some 3 by kernel_rfl).symm.trans hf) |>.symm
  obtain rfl : fn = Tryd.f3 := (Option.some.inj (Tryd.func3.symm.trans hfn)).symm
  refine ⟨by kernel_rfl, fun j t ht => ?_⟩
  rw [Tryd.params3] at ht
  have hm := Array.mem_of_getElem? ht
  simp at hm
  rcases hm with rfl
  · exact (show Tryd.prog.wantsStandIn 22 = false by kernel_rfl)

/-- The given statement. -/
theorem proved : Rows.FnReplayChangesCardSaid :=
  Claim7.holds_tied_plain_at .later [] _ _ _ _ said (fun _ h => by cases h) (by kernel_rfl) (fun _ h => by cases h) fnReplayChanges_row_tie rfl ⟨rfl, rfl⟩ (by kernel_rfl) rfl plain (by kernel_rfl)
end Go.Proofs.YtpihopmgckdigaaDoor.fnReplayChanges
