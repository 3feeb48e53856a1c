/-
  ExprValid of the model and of the program: whether an expression is valid; what was in memory stays.
-/
import Derived.Test.YtmoclinccmhijaaDoorOe
namespace Go.Proofs.YtmoclinccmhijaaDoor.Ox
open Go.Proofs.YtmoclinccmhijaaDoor
open Go.RowKit
set_option linter.unusedVariables false
set_option linter.unusedSimpArgs false

theorem l3Shape_val {x : Ex} {b : Bool} (hb : shpX 12 x = b) (v : Value) (w : World) (hx : ExAt w x v) :
    Calls Tryd.prog 45 #[.agg #[.int .i64 x.k, .int .i64 x.n, .string x.m, .string x.s, v], .int .i64 12] w fun e w' => e = .returned (.bool b) ∧ Below w.heap.size w w' := by
  subst hb; exact l3Shape_any 12 12 x v w rfl (by omega) hx
theorem l3Count_val {x : Ex} {N : Nat} (hs : shpX 12 x = true) (hN : ndX 12 x = N) (v : Value) (w : World) (hx : ExAt w x v) :
    Calls Tryd.prog 46 #[.agg #[.int .i64 x.k, .int .i64 x.n, .string x.m, .string x.s, v], .int .i64 60] w (CountPost N 60 w) := by
  subst hN; exact l3Count_any 12 60 60 x v w rfl (by omega) (by omega) hs hx
theorem exprNodes_val {x : Ex} {b : Bool} {N : Int} (hb : okX 12 x = b) (hN : nvX 12 x = N) (v : Value) (w : World) (hx : ExAt w x v) :
    Calls Tryd.prog 49 #[.agg #[.int .i64 x.k, .int .i64 x.n, .string x.m, .string x.s, v], .int .i64 12] w fun e w' => e = .returned (.tuple #[.int .i64 N, .bool b]) ∧ Below w.heap.size w w' := by
  subst hb hN; exact exprNodes_any 12 12 x v w rfl (by omega) hx

set_option maxRecDepth 100000 in
set_option maxHeartbeats 2000000 in
theorem exprValid_spec (x : Ex) (v : Value) (w : World) (hx : ExAt w x v) :
    Calls Tryd.prog 23 #[.agg #[.int .i64 x.k, .int .i64 x.n, .string x.m, .string x.s, v]] w fun e w' => e = .returned (.bool (okX 12 x)) ∧ Below w.heap.size w w' := by
  obtain ⟨a, cap, rfl, hlen⟩ := hx.slice
  have HX := Lib.hid hx
  clear hx
  rcases hs : shpX 12 x with _ | _
  · have HS := Lib.hid hs
    have HT : Hid (okX 12 x = false) := Lib.hid (okX_no (fun h => by rw [hs] at h; cases h.1))
    clear hs
    go_enter Tryd.func23, Tryd.ntmps23
    go_wp2_with fail
    go_at_call 45
    refine (l3Shape_val HS.out _ _ (HX.out.kept ((Below.refl _ _).alloc (Nat.le_refl _) _))).mono ?_
    rintro e w1 ⟨rfl, hb1⟩
    have HB1 : Hid (Below w.heap.size w w1) := Lib.hid (((Below.refl _ _).alloc (Nat.le_refl _) _).trans (hb1.mono (by simp)))
    clear hb1
    go_wp2_with fail
    go_ret
    exact ⟨ret_bz HT.out.symm, HB1.out⟩
  · have HS := Lib.hid hs
    obtain ⟨N, hN⟩ : ∃ N, ndX 12 x = N := ⟨_, rfl⟩
    have HNN := Lib.hid hN
    clear hs hN
    go_enter Tryd.func23, Tryd.ntmps23
    go_wp2_with fail
    go_at_call 45
    refine (l3Shape_val HS.out _ _ (HX.out.kept ((Below.refl _ _).alloc (Nat.le_refl _) _))).mono ?_
    rintro e w1 ⟨rfl, hb1⟩
    have HB0 : Hid (Below (w.heap.size + 1) (w.alloc (.cells #[.int .i64 x.k, .int .i64 x.n, .string x.m, .string x.s, .slice a x.ks.length cap] 29)) w1) := Lib.hid (hb1.mono (by simp))
    obtain ⟨x0, x1, x2, x3, x4, xz⟩ := box5_kept HB0.out
    have HB1 := Lib.hid (below_one HB0.out)
    clear hb1
    go_wp2_with fail
    go_at_call 46
    refine (l3Count_val HS.out HNN.out _ _ (HX.out.kept HB1.out)).mono ?_
    rintro e w2 ⟨c, rfl, hc, hb2⟩
    have HB2 := Lib.hid (HB1.out.trans (hb2.mono HB1.out.size))
    clear hb2
    by_cases hc63 : c ≤ 60
    · have hci : (c : Int) ≤ 60 := by omega
      have HD : Hid (okX 12 x = true) := Lib.hid (okX_iff.2 ⟨HS.out, by
        rw [HNN.out]
        rcases Nat.lt_or_ge 60 N with h | h
        · have := hc.2.1 h; omega
        · exact h⟩)
      clear hc63
      go_wp2_with fail
      go_ret
      exact ⟨ret_bz (by first | exact HD.out.symm | (rw [HD.out]; exact decide_eq_true (by omega)) | (rw [HD.out]; exact decide_eq_false (by omega))), HB2.out⟩
    · have hci : ¬ (c : Int) ≤ 60 := by omega
      have HD : Hid (okX 12 x = false) := Lib.hid (okX_no (fun h => by
        have h2 := h.2
        rw [HNN.out] at h2
        have := hc.1 h2
        omega))
      clear hc63
      go_wp2_with fail
      go_ret
      exact ⟨ret_bz (by first | exact HD.out.symm | (rw [HD.out]; exact decide_eq_true (by omega)) | (rw [HD.out]; exact decide_eq_false (by omega))), HB2.out⟩

set_option maxRecDepth 100000 in
set_option maxHeartbeats 2000000 in
theorem exprValid_impl (x : Ex) (v : Value) (w : World) (hx : ExAt w x v) :
    Calls Tryd.prog 26 #[.agg #[.int .i64 x.k, .int .i64 x.n, .string x.m, .string x.s, v]] w fun e w' => e = .returned (.bool (okX 12 x)) ∧ Below w.heap.size w w' := by
  obtain ⟨a, cap, rfl, hlen⟩ := hx.slice
  have HX := Lib.hid hx
  clear hx
  obtain ⟨b, hb⟩ : ∃ b, okX 12 x = b := ⟨_, rfl⟩
  obtain ⟨N, hN⟩ : ∃ N, nvX 12 x = N := ⟨_, rfl⟩
  have HS := Lib.hid hb
  have HV := Lib.hid hN
  rw [hb]
  clear hb hN
  go_enter Tryd.func26, Tryd.ntmps26
  go_wp2_with fail
  go_at_call 49
  refine (exprNodes_val HS.out HV.out _ _ (by first | exact HX.out | exact HX.out.kept ((Below.refl _ _).alloc (Nat.le_refl _) _))).mono ?_
  rintro e w1 ⟨rfl, hb1⟩
  have HB1 : Hid (Below w.heap.size w w1) := Lib.hid (by first | exact hb1 | exact ((Below.refl _ _).alloc (Nat.le_refl _) _).trans (hb1.mono (by simp)))
  clear hb1
  go_wp2_with fail
  go_ret
  exact ⟨rfl, HB1.out⟩

end Go.Proofs.YtmoclinccmhijaaDoor.Ox
