/-
  FnExactFormatExpr returns true for every expression, and it reads as it did: FormatExpr answers as its model. The row lists tables that the program's text lays; the card ties them.
-/
import Derived.Test.YtmoclinccmhijaaDoorFv
import Derived.Test.YtmoclinccmhijaaDoorFg
import Derived.Test.YtmoclinccmhijaaDoorFd
import Derived.Test.YtmoclinccmhijaaDoorEh
namespace Go.Proofs.YtmoclinccmhijaaDoor.fnExactFormatExpr
open Go.Proofs.YtmoclinccmhijaaDoor
open Go.ChangeShapes Go.WideShapes Go.ChangeAt Go.RowKit Go.Joins
open Go.ChangeMaps (open_string shut_string)
set_option linter.unusedVariables false

set_option maxRecDepth 100000 in
set_option maxHeartbeats 16000000 in
theorem walk (x : Ex) (v : Value) (w : World) (hx : ExAt w x v) (hc0 : ∃ c, Ox.Cnt x c) :
    Calls Tryd.prog 3 #[.agg #[.int .i64 x.k, .int .i64 x.n, .string x.m, .string x.s, v]] w fun e w' => e = .returned (.bool true) ∧ Below w.heap.size w w' := by
  obtain ⟨c, hc⟩ := hc0
  have HX := Lib.hid hx
  have HC := Lib.hid hc
  obtain ⟨a, cap, rfl, hlen⟩ := hx.slice
  clear hx hc
  obtain ⟨W1, hW1⟩ : ∃ W, w.alloc (.cells #[.int .i64 x.k, .int .i64 x.n, .string x.m, .string x.s, .slice a x.ks.length cap] 24) = W := ⟨_, rfl⟩
  have HA0 : Hid (Below w.heap.size w W1) := Lib.hid (by rw [← hW1]; exact (Below.refl _ _).alloc (Nat.le_refl _) _)
  have HP0 : Hid (EBox W1 w.heap.size (.int .i64 x.k) (.int .i64 x.n) (.string x.m) (.string x.s) (.slice a x.ks.length cap)) := Lib.hid (by rw [← hW1]; exact ebox_new w _ _ _ _ _ _)
  have HW1 := Lib.hid hW1
  clear hW1
  by_cases hle : (c : Int) ≤ 1048576
  case neg =>
    have HLE := Lib.hid (leftOf_no hle)
    clear hle
    go_enter Tryd.func3, Tryd.ntmps3
    go_wp2_with fail
    rw [HW1.out]
    obtain ⟨p0, p1, p2, p3, p4, pz⟩ := HP0.out
    go_wp2_with fail
    go_at_call 6
    refine (Ox.szExpr_any _ x c _ 1048576 _ (Nat.lt_succ_self _) HC.out (HX.out.kept HA0.out) (by omega) (by omega)).mono ?_
    rintro e w1 ⟨rfl, hb1⟩
    rw [HLE.out]
    have H1 := Lib.hid (HA0.out.trans (hb1.mono HA0.out.size))
    clear hb1
    go_wp2_with fail
    go_ret
    exact ⟨rfl, H1.out⟩
  have hcm : c ≤ 1048576 := by omega
  have HLE := Lib.hid (leftOf_yes hle)
  have hnn : 0 ≤ 1048576 - (c : Int) := by omega
  clear hle
  obtain ⟨b, hb⟩ : ∃ b, Ox.fmtB x = b := ⟨_, rfl⟩
  have HV := Lib.hid hb
  clear hb
  go_enter Tryd.func3, Tryd.ntmps3
  go_wp2_with fail
  rw [HW1.out]
  obtain ⟨p0, p1, p2, p3, p4, pz⟩ := HP0.out
  go_wp2_with fail
  go_at_call 6
  refine (Ox.szExpr_any _ x c _ 1048576 _ (Nat.lt_succ_self _) HC.out (HX.out.kept HA0.out) (by omega) (by omega)).mono ?_
  rintro e w1 ⟨rfl, hb1⟩
  rw [HLE.out]
  have HP1 := Lib.hid (HP0.out.kept hb1)
  have H1 := Lib.hid (HA0.out.trans (hb1.mono HA0.out.size))
  have Z1 := Lib.hid (show w.heap.size + 1 ≤ w1.heap.size from HP1.out.sz)
  clear hb1 p0 p1 p2 p3 p4 pz
  obtain ⟨bf101, bg101, bh101, bi101, bj101, bz101⟩ := HP1.out
  go_wp2_with fail
  go_at_call 8
  refine (Ox.toExpr_any _ x c _ _ (Nat.lt_succ_self _) HC.out hcm (HX.out.kept H1.out)).mono ?_
  rintro e w2 ⟨v2, rfl, hty2, hb⟩
  obtain ⟨a2, k2, rfl, _⟩ := hty2.at.slice
  have T2 := Lib.hid hty2
  clear hty2
  have Z103 := Lib.hid (show w1.heap.size ≤ w2.heap.size from hb.size)
  have B104 := Lib.hid (HP1.out.kept hb)
  have H105 := Lib.hid (H1.out.trans (hb.mono H1.out.size))
  clear bf101 bg101 bh101 bi101 bj101 bz101
  clear hb
  go_wp2_with fail
  go_at_call 7
  refine (Ox.formatExpr_spec x _ _ T2.out.at).mono ?_
  rintro e w3 ⟨rfl, hb⟩
  have Z107 := Lib.hid (show w2.heap.size ≤ w3.heap.size from hb.size)
  have B108 := Lib.hid (B104.out.kept hb)
  have T109 := Lib.hid (T2.out.kept hb)
  have H110 := Lib.hid (H105.out.trans (hb.mono H105.out.size))
  rw [HV.out]
  clear hb
  obtain ⟨bf111, bg111, bh111, bi111, bj111, bz111⟩ := B108.out
  go_wp2_with fail
  go_at_call 8
  refine (Ox.toExprC_any _ x c _ _ (Nat.lt_succ_self _) HC.out hcm (HX.out.kept H110.out)).mono ?_
  rintro e w4 ⟨v4, rfl, hty4, hb⟩
  obtain ⟨a4, k4, rfl, _⟩ := hty4.at.slice
  have T4 := Lib.hid hty4
  clear hty4
  have Z113 := Lib.hid (show w3.heap.size ≤ w4.heap.size from hb.size)
  have B114 := Lib.hid (B108.out.kept hb)
  have H115 := Lib.hid (H110.out.trans (hb.mono H110.out.size))
  clear bf111 bg111 bh111 bi111 bj111 bz111
  clear hb
  obtain ⟨W4, hW116⟩ : ∃ W, w4.alloc (.cells #[.int .i64 x.k, .int .i64 x.n, .string x.m, .string x.s, .slice a4 x.ks.length k4] 29) = W := ⟨_, rfl⟩
  have hA116 : Below w4.heap.size w4 W4 := by rw [← hW116]; exact (Below.refl _ _).alloc (Nat.le_refl _) _
  have hZ116 : W4.heap.size = w4.heap.size + 1 := by rw [← hW116]; simp
  have B116n : Hid (EBox W4 w4.heap.size (.int .i64 x.k) (.int .i64 x.n) (.string x.m) (.string x.s) (.slice a4 x.ks.length k4)) := Lib.hid (by rw [← hW116]; exact ebox_new w4 _ _ _ _ _ _)
  have Zb116 := Lib.hid hZ116
  have Z118 := Lib.hid (show w4.heap.size ≤ W4.heap.size from hA116.size)
  have B119 := Lib.hid (B114.out.kept hA116)
  have T120 := Lib.hid (T4.out.kept hA116)
  have H121 := Lib.hid (H115.out.trans (hA116.mono H115.out.size))
  clear hA116 hZ116
  obtain ⟨bf122, bg122, bh122, bi122, bj122, bz122⟩ := B116n.out
  go_wp2_with fail
  clear hW116
  go_at_call 9
  refine (Ox.formatExpr_impl x _ _ T120.out.at ⟨_, _, T120.out.2⟩).mono ?_
  rintro e w5 ⟨rfl, hb⟩
  have Z124 := Lib.hid (show W4.heap.size ≤ w5.heap.size from hb.size)
  have B125 := Lib.hid (B119.out.kept hb)
  have B126 := Lib.hid (B116n.out.kept hb)
  have T127 := Lib.hid (T120.out.kept hb)
  have H128 := Lib.hid (H121.out.trans (hb.mono H121.out.size))
  rw [HV.out]
  clear bf122 bg122 bh122 bi122 bj122 bz122
  clear hb
  obtain ⟨bf129, bg129, bh129, bi129, bj129, bz129⟩ := B125.out
  obtain ⟨bf130, bg130, bh130, bi130, bj130, bz130⟩ := B126.out
  go_wp2_with fail
  go_region_held3 (fun w' => w'.cell? ⟨w4.heap.size, 0, none⟩ = some (.int .i64 x.k) ∧ w'.cell? ⟨w4.heap.size, 1, none⟩ = some (.int .i64 x.n) ∧ w'.cell? ⟨w4.heap.size, 2, none⟩ = some (.string x.m) ∧ w'.cell? ⟨w4.heap.size, 3, none⟩ = some (.string x.s) ∧ w'.cell? ⟨w4.heap.size, 4, none⟩ = some (.slice a4 x.ks.length k4) ∧ w'.cell? ⟨w.heap.size, 0, none⟩ = some (.int .i64 x.k) ∧ w'.cell? ⟨w.heap.size, 1, none⟩ = some (.int .i64 x.n) ∧ w'.cell? ⟨w.heap.size, 2, none⟩ = some (.string x.m) ∧ w'.cell? ⟨w.heap.size, 3, none⟩ = some (.string x.s) ∧ w'.cell? ⟨w.heap.size, 4, none⟩ = some (.slice a x.ks.length cap)) (go_keep)
    (first
      | (go_at_call 8; refine (Ox.toExpr_any _ x c _ _ (Nat.lt_succ_self _) HC.out hcm (HX.out.kept (by first | exact H128.out | exact H128.out.drew))).mono ?_; rintro e w6 ⟨vc1, rfl, htc1, hbc1⟩; obtain ⟨ac1, kc1, rfl, _⟩ := htc1.at.slice; have hbd : Below w5.heap.size w5 w6 := Below.trans (B := w5.heap.size) (by first | exact Below.refl _ _ | exact (Below.refl _ _).drew) hbc1; have TC1 := Lib.hid htc1.at; have Z132 := Lib.hid (show w5.heap.size ≤ w6.heap.size from hbd.size); have B133 := Lib.hid (B125.out.kept hbd); have B134 := Lib.hid (B126.out.kept hbd); have T135 := Lib.hid (T127.out.kept hbd); have H136 := Lib.hid (H128.out.trans (hbd.mono H128.out.size)); obtain ⟨bf137, bg137, bh137, bi137, bj137, bz137⟩ := B134.out; obtain ⟨bf138, bg138, bh138, bi138, bj138, bz138⟩ := B133.out; clear hbc1 hbd htc1)
      | (go_at_call 10; refine (Ox.eqExpr_any _ x c _ _ _ (Nat.lt_succ_self _) HC.out hcm (by first | exact T135.out.at | exact T135.out.at.kept (Below.refl _ _).drew) (by first | exact TC1.out | exact TC1.out.kept (Below.refl _ _).drew)).mono ?_; rintro e w7 ⟨rfl, hbc2⟩; have hbd : Below w6.heap.size w6 w7 := Below.trans (B := w6.heap.size) (by first | exact Below.refl _ _ | exact (Below.refl _ _).drew) hbc2; have Z140 := Lib.hid (show w6.heap.size ≤ w7.heap.size from hbd.size); have B141 := Lib.hid (B133.out.kept hbd); have B142 := Lib.hid (B134.out.kept hbd); have T143 := Lib.hid (T135.out.kept hbd); have H144 := Lib.hid (H136.out.trans (hbd.mono H136.out.size)); obtain ⟨bf145, bg145, bh145, bi145, bj145, bz145⟩ := B142.out; obtain ⟨bf146, bg146, bh146, bi146, bj146, bz146⟩ := B141.out; clear hbc2 hbd))
  go_wp2_with fail
  go_ret
  exact ⟨rfl, H144.out⟩

set_option maxRecDepth 100000 in
theorem contract (H : Type) (enc : TypeId × Value → H) (W : World) (base : Nat) (args : Array Value) (ds gs : List (DataW H)) (before : List MemPlace)
    (hval0 : ∀ (j : Nat) t v, Tryd.f3.params[j]? = some t → args[j]? = some v → Value.okWide Tryd.prog W .any base t v)
    (hW : DataW.Whole enc Tryd.prog Tryd.f3.params.toList Rows.fnExactFormatExprSpec.vars false W args.toList ds gs before) :
    Calls Tryd.prog 3 args W fun e W' => ∃ v, e = .returned v ∧ Rows.fnExactFormatExprSpec.post enc Tryd.prog Tryd.f3 false true false false W args v W' := by
  have hval : ∀ (j : Nat) t v, Tryd.f3.params[j]? = some t → args[j]? = some v → Value.okWide Tryd.prog W .any base t v := hval0
  have hW' := hW
  obtain ⟨p, q, hA0, hV, rfl, hfz, hnd⟩ := hW
  have hA : DataW.TrodAll enc Tryd.prog W 0 (fun _ => true) true Tryd.f3.params.toList args.toList ds p := hA0
  rw [Tryd.params3] at hA hval
  obtain ⟨v0, vs0, d0, ds0, p0, q0, hargs, rfl, rfl, h0, r0⟩ := trodAll_cons hA
  obtain ⟨rfl, rfl, rfl⟩ := trodAll_nil r0
  obtain rfl : args = #[v0] := by cases args; simp_all
  obtain ⟨rfl, rfl⟩ := trodVars_none hV
  have k0 := h0
  have lt0 : ∀ x ∈ p0, x.block < W.heap.size := by obtain ⟨m, hm⟩ := k0; exact DataW.trod_lt m _ _ _ hm
  obtain ⟨cs0, rfl, _⟩ := okWide_struct Tryd.underlying24 (hval 0 24 v0 rfl rfl)
  obtain ⟨u0, z0, w0, hz0, hn0⟩ : ∃ (t : Ex) (v : Value), cs0 = #[.int .i64 t.k, .int .i64 t.n, .string t.m, .string t.s, v] ∧ ExAt W t v ∧ ∃ c, Ox.Cnt t c := by
    obtain ⟨fuel, hf⟩ := h0
    obtain ⟨t, v, c, hcs, hat, hct⟩ := Ox.ex_of_trod fuel _ _ hf
    exact ⟨t, v, Array.toList_inj.1 hcs, hat, c, hct⟩
  subst w0
  clear hA0 hval0
  refine (walk u0 z0 W hz0 hn0).mono fun e W' ⟨he, bel⟩ => ?_
  subst he
  exact ⟨_, rfl, _, _, _, [], _, [], hW', trodAll_mk1 (shut_bool Tryd.underlying4 _), (trodAll_cons_mk (Below.trod laidOut (by kernel_rfl) (of_decide_eq_true (by kernel_rfl)) k0 bel lt0) trodAll_mk0), rfl, bel.frame _, fun h => by cases h⟩

theorem laid_met (os : Os) : laidMet Tryd.prog Rows.fnExactFormatExprRow.laid ((laidWorld os).forCall (fun _ _ => 0) ⟨#[], #[.agg #[.int .i64 0, .int .i64 0, .string ⟨#[]⟩, .string ⟨#[]⟩, .slice none 0 0]], []⟩).memory :=
  laidMet_of_run' 8 (by kernel_rfl) (by kernel_rfl)
theorem reads (os : Os) {H : Type} (enc : TypeId × Value → H) : ∃ places, DataW.whole enc Tryd.prog ((laidWorld os).forCall (fun _ _ => 0) ⟨#[], #[.agg #[.int .i64 0, .int .i64 0, .string ⟨#[]⟩, .string ⟨#[]⟩, .slice none 0 0]], []⟩).memory Tryd.f3.params.toList Rows.fnExactFormatExprSpec.vars false (#[Value.agg #[.int .i64 0, .int .i64 0, .string ⟨#[]⟩, .string ⟨#[]⟩, .slice none 0 0]] : Array Value).toList 8 = some ([.agg [.lit (.int .i64 0), .lit (.int .i64 0), .lit (.string []), .lit (.string []), .nil]], [], places) :=
  ⟨[], by kernel_rfl⟩

set_option maxRecDepth 100000 in
theorem lifted (os : Os) (started : os.Started) (H : Type) (enc : TypeId × Value → H) (F : Stop.Interp) :
    ReturnsInHanded {} Tryd.checked os 3 .any ((OpenSpec.ofChange Rows.fnExactFormatExprSpec).preRow enc Tryd.prog Tryd.f3 Rows.fnExactFormatExprRow.domain false Rows.fnExactFormatExprRow.laid) (((OpenSpec.ofChange Rows.fnExactFormatExprSpec).at F).post enc Tryd.prog Tryd.f3 false true false false) := by
  obtain ⟨places, hx⟩ := reads os enc
  refine returnsInHanded_of_row (C := Tryd.checked) (s := OpenSpec.ofChange Rows.fnExactFormatExprSpec) own started (by kernel_rfl) Tryd.func3
    (witness_row_at (enc := enc) (C := Tryd.checked) false (laidWorld os) #[.agg #[.int .i64 0, .int .i64 0, .string ⟨#[]⟩, .string ⟨#[]⟩, .slice none 0 0]] rfl (by kernel_rfl) (by kernel_rfl) (by kernel_rfl)
      (OpenSpec.preRow_of_cond 8 hx (by kernel_rfl) (fun k hk => by cases hk) (by kernel_rfl) (laid_met os))) ?_
  intro W base args ds gs before hval hW _ _ _ _ _ _
  exact contract H enc W base args ds gs before hval hW

theorem said : Rows.FnExactFormatExprSaid :=
  OpenClaim.holds_of_cond 3 Tryd.f3 rfl rfl rfl rfl rfl rfl rfl ⟨rfl, rfl, rfl, rfl, rfl⟩ rfl rfl rfl rfl rfl (by kernel_rfl) Tryd.func3 (by kernel_rfl)
    (of_decide_eq_true (by kernel_rfl)) (by unfold Func.isWrapper; first | (rw [if_pos (by decide +kernel)]; kernel_rfl) | (rw [if_neg (by decide +kernel)]; exact ⟨rfl, rfl⟩))
    (fun os started H enc _ F => by rw [OpenClaim.pre_eq_preRow]; exact lifted os started H enc F)

theorem plain (f : FuncId) (fn : Func) (hf : Tryd.pinned.checked.prog.funcNamed "loop.example/livetyper/laws.FnExactFormatExpr" = some f) (hfn : Tryd.pinned.checked.prog.funcs[f]? = some fn) :
    false = Tryd.pinned.checked.prog.looks [] ∧ ∀ (j : Nat) t, fn.params[j]? = some t → Tryd.pinned.checked.prog.wantsStandIn t = false := by
  obtain rfl : f = 3 := Option.some.inj ((show Tryd.prog.funcNamed "loop.example/livetyper/laws.FnExactFormatExpr" = some 3 by kernel_rfl).symm.trans hf) |>.symm
  obtain rfl : fn = Tryd.f3 := (Option.some.inj (Tryd.func3.symm.trans hfn)).symm
  refine ⟨by kernel_rfl, fun j t ht => ?_⟩
  rw [Tryd.params3] at ht
  have hm := Array.mem_of_getElem? ht
  simp at hm
  rcases hm with rfl
  · exact (show Tryd.prog.wantsStandIn 24 = false by kernel_rfl)

/-- The given statement. -/
theorem proved : Rows.FnExactFormatExprCardSaid :=
  Claim7.holds_tied_plain_at .later [] _ _ _ _ said (fun _ h => by cases h) (by kernel_rfl) (fun _ h => by cases h) fnExactFormatExpr_row_tie rfl ⟨rfl, rfl⟩ (by kernel_rfl) rfl plain (by kernel_rfl)
end Go.Proofs.YtmoclinccmhijaaDoor.fnExactFormatExpr
