/-
  FnExactShapeFits returns true for every type and every text, and they read as they did: ShapeFits answers as its model. The row lists tables and errors that the program's text lays; the card ties them.
-/
import Derived.Test.YtpihopmgckdigaaDoorSv
import Derived.Test.YtpihopmgckdigaaDoorSf
import Derived.Test.YtpihopmgckdigaaDoorZh
namespace Go.Proofs.YtpihopmgckdigaaDoor.fnExactShapeFits
open Go.Proofs.YtpihopmgckdigaaDoor
open Go.ChangeShapes Go.WideShapes Go.ChangeAt Go.RowKit Go.Joins
open Go.ChangeMaps (open_string shut_string)
set_option linter.unusedVariables false

set_option maxRecDepth 100000 in
theorem errV_of {W : World} (hL : laidMetH Tryd.prog Rows.fnExactShapeFitsRow.laid W) : ErrV W := by
  have h : laidMet Tryd.prog Rows.fnExactShapeFitsRow.laid W := by
    rw [Go.MakeChecks.laidMetH_plain _ _ _ (by kernel_rfl)] at hL; exact hL
  exact errV_laid (show laidMet Tryd.prog (("strconv.ErrRange", Rows.laid_strconv_ErrRange) :: _) W from (((laidMet.tail (x := _) h).tail).tail).tail) (show laidMet Tryd.prog (("strconv.ErrSyntax", Rows.laid_strconv_ErrSyntax) :: _) W from ((((laidMet.tail (x := _) h).tail).tail).tail).tail)
set_option maxHeartbeats 4000000 in
theorem walk (t : Ty) (v : Value) (s : ByteArray) (w : World) (hx : TyAt w t v) (hs9 : s.size ≤ maxLen) (hE : ErrV w) :
    Calls Tryd.prog 5 #[.agg #[.int .i64 t.k, .int .i64 t.n, v], .string s] w fun e w' => e = .returned (.bool true) ∧ Below w.heap.size w w' := by
  have HE := Lib.hid hE
  unfold maxLen at hs9
  have hs8 : (s.size : Int) ≤ 9223372036854775807 := by omega
  clear hE hs9
  obtain ⟨c, hc⟩ := cnt_total _ t (Nat.lt_succ_self _)
  have HX := Lib.hid hx
  have HC := Lib.hid hc
  obtain ⟨a, cap, rfl, hlen⟩ := hx.slice
  clear hx hc
  have HA0 : Hid (Below w.heap.size w (w.alloc (.cells #[.int .i64 t.k, .int .i64 t.n, .slice a t.ks.length cap] 42))) := Lib.hid ((Below.refl _ _).alloc (Nat.le_refl _) _)
  have HP0 := Lib.hid (tbox_new w (.int .i64 t.k) (.int .i64 t.n) (.slice a t.ks.length cap) 42)
  by_cases hsz : s.size ≤ 1048576
  case neg =>
    go_enter Tryd.func5, Tryd.ntmps5
    go_wp2_with fail
    go_ret
    exact ⟨rfl, HA0.out⟩
  have HS : Hid (s.size ≤ 2000000) := Lib.hid (by omega)
  by_cases hle : (c : Int) ≤ 1048576
  case neg =>
    have HL := Lib.hid (leftOf_no hle)
    go_enter Tryd.func5, Tryd.ntmps5
    go_wp2_with fail
    go_at_call 15
    refine (szType_any _ t c _ 1048576 _ (Nat.lt_succ_self _) HC.out (HX.out.kept HA0.out) (by omega) (by omega)).mono ?_
    rintro e w1 ⟨rfl, hb1⟩
    rw [HL.out]
    have H1 := Lib.hid (HA0.out.trans (hb1.mono HA0.out.size))
    clear hb1
    go_wp2_with fail
    go_ret
    exact ⟨rfl, H1.out⟩
  have hcm : c ≤ 1048576 := by omega
  have HL := Lib.hid (leftOf_yes hle)
  have hnn : 0 ≤ 1048576 - (c : Int) := by omega
  clear hle
  obtain ⟨b, hb⟩ : ∃ b, shB t s.data.toList = b := ⟨_, rfl⟩
  have HV := Lib.hid hb
  clear hb
  go_enter Tryd.func5, Tryd.ntmps5
  go_wp2_with fail
  go_at_call 15
  refine (szType_any _ t c _ 1048576 _ (Nat.lt_succ_self _) HC.out (HX.out.kept HA0.out) (by omega) (by omega)).mono ?_
  rintro e w1 ⟨rfl, hb1⟩
  rw [HL.out]
  have HP1 := Lib.hid (HP0.out.kept hb1)
  have H1 := Lib.hid (HA0.out.trans (hb1.mono HA0.out.size))
  clear hb1
  obtain ⟨p0, p1, p2, pz⟩ := HP1.out
  go_wp2_with fail
  go_at_call 16
  refine (toType_any _ t c _ _ (Nat.lt_succ_self _) HC.out hcm (HX.out.kept H1.out)).mono ?_
  rintro e w2 ⟨v2, rfl, hty2, hb2⟩
  have HT2 := Lib.hid hty2.at
  have HP2 := Lib.hid (HP1.out.kept hb2)
  have H2 := Lib.hid (H1.out.trans (hb2.mono H1.out.size))
  clear hb2 hty2 p0 p1 p2 pz
  go_wp2_with fail
  go_at_call 13
  refine (shapeFits_spec t _ s _ HT2.out HS.out).mono ?_
  rintro e w3 ⟨rfl, hb3⟩
  rw [HV.out]
  have HP3 := Lib.hid (HP2.out.kept hb3)
  have H3 := Lib.hid (H2.out.trans (hb3.mono H2.out.size))
  clear hb3
  obtain ⟨p0, p1, p2, pz⟩ := HP3.out
  go_wp2_with fail
  go_at_call 16
  refine (toType_any _ t c _ _ (Nat.lt_succ_self _) HC.out hcm (HX.out.kept H3.out)).mono ?_
  rintro e w4 ⟨v4, rfl, hty4, hb4⟩
  have HT4 := Lib.hid hty4.at
  obtain ⟨a4, k4, rfl, _⟩ := hty4.at.slice
  have HP4 := Lib.hid (HP3.out.kept hb4)
  have hzz : w.heap.size < w4.heap.size := HP4.out.sz
  have H4 := Lib.hid (H3.out.trans (hb4.mono H3.out.size))
  have HP5 := Lib.hid (HP4.out.kept ((Below.refl _ _).alloc (Nat.le_refl _) (.cells #[.int .i64 t.k, .int .i64 t.n, .slice a4 t.ks.length k4] 34)))
  have HQ5 := Lib.hid (tbox_new w4 (.int .i64 t.k) (.int .i64 t.n) (.slice a4 t.ks.length k4) 34)
  have H5 := Lib.hid (H4.out.alloc H4.out.size (.cells #[.int .i64 t.k, .int .i64 t.n, .slice a4 t.ks.length k4] 34))
  have HT5 := Lib.hid (HT4.out.kept ((Below.refl _ _).alloc (Nat.le_refl _) (.cells #[.int .i64 t.k, .int .i64 t.n, .slice a4 t.ks.length k4] 34)))
  clear hb4 hty4 p0 p1 p2 pz
  go_wp2_with fail
  go_at_call 12
  refine (shapeFits_impl t _ s _ HT5.out HS.out (HE.out.kept H5.out)).mono ?_
  rintro e w6 ⟨rfl, hb6⟩
  rw [HV.out]
  have HP6 := Lib.hid (HP5.out.kept hb6)
  have HQ6 := Lib.hid (HQ5.out.kept hb6)
  have HT6 := Lib.hid (HT5.out.kept hb6)
  have H6 := Lib.hid (H5.out.trans (hb6.mono H5.out.size))
  clear hb6
  obtain ⟨p0, p1, p2, pz⟩ := HP6.out
  obtain ⟨q0, q1, q2, qz⟩ := HQ6.out
  obtain ⟨B4, hB4⟩ : ∃ B, w4.heap.size = B := ⟨_, rfl⟩
  rw [hB4] at q0 q1 q2 qz hzz ⊢
  rw [hB4] at HQ6
  go_wp2_with fail
  go_region_held3 (fun w' => w'.cell? ⟨w.heap.size, 0, none⟩ = some (.int .i64 t.k) ∧ w'.cell? ⟨w.heap.size, 1, none⟩ = some (.int .i64 t.n) ∧ w'.cell? ⟨w.heap.size, 2, none⟩ = some (.slice a t.ks.length cap) ∧ w'.cell? ⟨B4, 0, none⟩ = some (.int .i64 t.k) ∧ w'.cell? ⟨B4, 1, none⟩ = some (.int .i64 t.n) ∧ w'.cell? ⟨B4, 2, none⟩ = some (.slice a4 t.ks.length k4)) (go_keep)
    (first
      | (go_at_call 16; refine (toType_any _ t c _ _ (Nat.lt_succ_self _) HC.out hcm (HX.out.kept (by first | exact H6.out | exact H6.out.drew))).mono ?_; rintro e w7 ⟨v7, rfl, hty7, hb7⟩; obtain ⟨a7, k7, rfl, _⟩ := hty7.at.slice; have HT7 := Lib.hid hty7.at; have HT6b := Lib.hid (HT6.out.kept (Below.trans (B := w6.heap.size) (by first | exact Below.refl _ _ | exact (Below.refl _ _).drew) hb7)); have HP7 := Lib.hid (HP6.out.kept (Below.trans (B := w6.heap.size) (by first | exact Below.refl _ _ | exact (Below.refl _ _).drew) hb7)); have HQ7 := Lib.hid (HQ6.out.kept (Below.trans (B := w6.heap.size) (by first | exact Below.refl _ _ | exact (Below.refl _ _).drew) hb7)); have H7 := Lib.hid (H6.out.trans ((Below.trans (B := w6.heap.size) (by first | exact Below.refl _ _ | exact (Below.refl _ _).drew) hb7).mono H6.out.size)); obtain ⟨g0, g1, g2, gz⟩ := HP7.out; obtain ⟨f0, f1, f2, fz⟩ := HQ7.out; clear hb7 hty7)
      | (go_at_call 17; refine (eqType_any _ t c _ _ _ (Nat.lt_succ_self _) HC.out hcm (by first | exact HT6b.out | exact HT6b.out.kept (Below.refl _ _).drew) (by first | exact HT7.out | exact HT7.out.kept (Below.refl _ _).drew)).mono ?_; rintro e w8 ⟨rfl, hb8⟩; have H8 := Lib.hid (H7.out.trans ((Below.trans (B := w7.heap.size) (by first | exact Below.refl _ _ | exact (Below.refl _ _).drew) hb8).mono H7.out.size)); have HP8 := Lib.hid (HP7.out.kept (Below.trans (B := w7.heap.size) (by first | exact Below.refl _ _ | exact (Below.refl _ _).drew) hb8)); have HQ8 := Lib.hid (HQ7.out.kept (Below.trans (B := w7.heap.size) (by first | exact Below.refl _ _ | exact (Below.refl _ _).drew) hb8)); obtain ⟨e0, e1, e2, ez⟩ := HP8.out; obtain ⟨j0, j1, j2, jz⟩ := HQ8.out; clear hb8))
  all_goals go_wp2_with fail
  all_goals go_ret
  all_goals first | exact ⟨rfl, H8.out⟩ | exact ⟨rfl, H8.out.drew⟩

set_option maxRecDepth 100000 in
theorem contract (H : Type) (enc : TypeId × Value → H) (W : World) (base : Nat) (args : Array Value) (ds gs : List (DataW H)) (before : List MemPlace)
    (hval0 : ∀ (j : Nat) t v, Tryd.f5.params[j]? = some t → args[j]? = some v → Value.okWide Tryd.prog W .any base t v)
    (hW : DataW.Whole enc Tryd.prog Tryd.f5.params.toList Rows.fnExactShapeFitsSpec.vars false W args.toList ds gs before) :
    ErrV W → Calls Tryd.prog 5 args W fun e W' => ∃ v, e = .returned v ∧ Rows.fnExactShapeFitsSpec.post enc Tryd.prog Tryd.f5 false true false false W args v W' := by
  intro hE
  have hval : ∀ (j : Nat) t v, Tryd.f5.params[j]? = some t → args[j]? = some v → Value.okWide Tryd.prog W .any base t v := hval0
  have hW' := hW
  obtain ⟨p, q, hA0, hV, rfl, hfz, hnd⟩ := hW
  have hA : DataW.TrodAll enc Tryd.prog W 0 (fun _ => true) true Tryd.f5.params.toList args.toList ds p := hA0
  rw [Tryd.params5] at hA hval
  obtain ⟨v0, vs0, d0, ds0, p0, q0, hargs, rfl, rfl, h0, r0⟩ := trodAll_cons hA
  obtain ⟨v1, vs1, d1, ds1, p1, q1, rfl, rfl, rfl, h1, r1⟩ := trodAll_cons r0
  obtain ⟨rfl, rfl, rfl⟩ := trodAll_nil r1
  obtain rfl : args = #[v0, v1] := by cases args; simp_all
  obtain ⟨rfl, rfl⟩ := trodVars_none hV
  have k0 := h0
  have lt0 : ∀ x ∈ p0, x.block < W.heap.size := by obtain ⟨m, hm⟩ := k0; exact DataW.trod_lt m _ _ _ hm
  have k1 := h1
  have lt1 : ∀ x ∈ p1, x.block < W.heap.size := by obtain ⟨m, hm⟩ := k1; exact DataW.trod_lt m _ _ _ hm
  obtain ⟨cs0, rfl, _⟩ := okWide_struct Tryd.underlying42 (hval 0 42 v0 rfl rfl)
  obtain ⟨u0, z0, w0, hz0⟩ : ∃ (t : Ty) (v : Value), cs0 = #[.int .i64 t.k, .int .i64 t.n, v] ∧ TyAt W t v := by
    obtain ⟨fuel, hf⟩ := h0
    obtain ⟨t, v, hcs, hat⟩ := ty_of_trod fuel _ _ hf
    exact ⟨t, v, Array.toList_inj.1 hcs, hat⟩
  subst w0
  obtain ⟨a1, rfl, rfl, rfl, w1⟩ := open_string Tryd.underlying9 (hval 1 9 v1 rfl rfl) h1
  clear hA0 hval0
  refine (walk u0 z0 a1 W hz0 w1 hE).mono fun e W' ⟨he, bel⟩ => ?_
  subst he
  exact ⟨_, rfl, _, _, _, [], _, [], hW', trodAll_mk1 (shut_bool Tryd.underlying4 _), (trodAll_cons_mk (Below.trod laidOut (by kernel_rfl) (of_decide_eq_true (by kernel_rfl)) k0 bel lt0) (trodAll_cons_mk (Below.trod laidOut (by kernel_rfl) (of_decide_eq_true (by kernel_rfl)) k1 bel lt1) trodAll_mk0)), rfl, bel.frame _, fun h => by cases h⟩

theorem laid_met (os : Os) : laidMet Tryd.prog Rows.fnExactShapeFitsRow.laid ((laidWorld os).forCall (fun _ _ => 0) ⟨#[], #[.agg #[.int .i64 0, .int .i64 0, .slice none 0 0], .string ⟨#[]⟩], []⟩).memory :=
  laidMet_of_run' 8 (by kernel_rfl) (by kernel_rfl)
theorem reads (os : Os) {H : Type} (enc : TypeId × Value → H) : ∃ places, DataW.whole enc Tryd.prog ((laidWorld os).forCall (fun _ _ => 0) ⟨#[], #[.agg #[.int .i64 0, .int .i64 0, .slice none 0 0], .string ⟨#[]⟩], []⟩).memory Tryd.f5.params.toList Rows.fnExactShapeFitsSpec.vars false (#[Value.agg #[.int .i64 0, .int .i64 0, .slice none 0 0], Value.string ⟨#[]⟩] : Array Value).toList 8 = some ([.agg [.lit (.int .i64 0), .lit (.int .i64 0), .nil], .lit (.string [])], [], places) :=
  ⟨[], by kernel_rfl⟩

set_option maxRecDepth 100000 in
theorem lifted (os : Os) (started : os.Started) (H : Type) (enc : TypeId × Value → H) (F : Stop.Interp) :
    ReturnsInHanded {} Tryd.checked os 5 .any ((OpenSpec.ofChange Rows.fnExactShapeFitsSpec).preRow enc Tryd.prog Tryd.f5 Rows.fnExactShapeFitsRow.domain false Rows.fnExactShapeFitsRow.laid) (((OpenSpec.ofChange Rows.fnExactShapeFitsSpec).at F).post enc Tryd.prog Tryd.f5 false true false false) := by
  obtain ⟨places, hx⟩ := reads os enc
  refine returnsInHanded_of_row (C := Tryd.checked) (s := OpenSpec.ofChange Rows.fnExactShapeFitsSpec) own started (by kernel_rfl) Tryd.func5
    (witness_row_at (enc := enc) (C := Tryd.checked) false (laidWorld os) #[.agg #[.int .i64 0, .int .i64 0, .slice none 0 0], .string ⟨#[]⟩] rfl (by kernel_rfl) (by kernel_rfl) (by kernel_rfl)
      (OpenSpec.preRow_of_cond 8 hx (by kernel_rfl) (fun k hk => by cases hk) (by kernel_rfl) (laid_met os))) ?_
  intro W base args ds gs before hval hW _ _ _ hL _ _
  exact contract H enc W base args ds gs before hval hW (errV_of hL)

theorem said : Rows.FnExactShapeFitsSaid :=
  OpenClaim.holds_of_cond 5 Tryd.f5 rfl rfl rfl rfl rfl rfl rfl ⟨rfl, rfl, rfl, rfl, rfl⟩ rfl rfl rfl rfl rfl (by kernel_rfl) Tryd.func5 (by kernel_rfl)
    (of_decide_eq_true (by kernel_rfl)) (by unfold Func.isWrapper; first | (rw [if_pos (by decide +kernel)]; kernel_rfl) | (rw [if_neg (by decide +kernel)]; exact ⟨rfl, rfl⟩))
    (fun os started H enc _ F => by rw [OpenClaim.pre_eq_preRow]; exact lifted os started H enc F)

theorem plain (f : FuncId) (fn : Func) (hf : Tryd.pinned.checked.prog.funcNamed "loop.example/livetyper/laws.FnExactShapeFits" = some f) (hfn : Tryd.pinned.checked.prog.funcs[f]? = some fn) :
    true = Tryd.pinned.checked.prog.looks [] ∧ ∀ (j : Nat) t, fn.params[j]? = some t → Tryd.pinned.checked.prog.wantsStandIn t = false := by
  obtain rfl : f = 5 := Option.some.inj ((show Tryd.prog.funcNamed "loop.example/livetyper/laws.FnExactShapeFits" = some 5 by kernel_rfl).symm.trans hf) |>.symm
  obtain rfl : fn = Tryd.f5 := (Option.some.inj (Tryd.func5.symm.trans hfn)).symm
  refine ⟨by kernel_rfl, fun j t ht => ?_⟩
  rw [Tryd.params5] at ht
  have hm := Array.mem_of_getElem? ht
  simp at hm
  rcases hm with rfl | rfl
  · exact (show Tryd.prog.wantsStandIn 42 = false by kernel_rfl)
  · exact (show Tryd.prog.wantsStandIn 9 = false by kernel_rfl)

/-- The given statement. -/
theorem proved : Rows.FnExactShapeFitsCardSaid :=
  Claim7.holds_tied_plain_at .later [] _ _ _ _ said (fun _ h => by cases h) (by kernel_rfl) (fun _ h => by cases h) fnExactShapeFits_row_tie rfl ⟨rfl, rfl⟩ (by kernel_rfl) rfl plain (by kernel_rfl)
end Go.Proofs.YtpihopmgckdigaaDoor.fnExactShapeFits
