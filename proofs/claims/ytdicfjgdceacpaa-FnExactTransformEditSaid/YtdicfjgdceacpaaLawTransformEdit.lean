/-
  FnExactTransformEdit returns true for every string, every two edits and both values of first, and they read as they did: TransformEdit answers as its model. No conditions.
-/
import Derived.Test.YtdicfjgdceacpaaRows
import Derived.ProofKit
import Derived.OpenShut
import Derived.ShutString
import Derived.ChangeOld
import Derived.Below
import Derived.Lib.SmallJoins
import Derived.Test.YtdicfjgdceacpaaIe
import Derived.Test.YtdicfjgdceacpaaTe
import Derived.Deep.RegionHeld3
import Derived.Deep.RegionWith
import Derived.Deep.DeepCutAuto
namespace Go.Proofs.Ytdicfjgdceacpaa.fnExactTransformEdit
open Go.Proofs.Ytdicfjgdceacpaa
open Go.ChangeShapes Go.WideShapes Go.ChangeAt Go.RowKit Go.Joins
open Go.ChangeMaps (open_string shut_string)
set_option linter.unusedVariables false
set_option linter.unusedSimpArgs false

theorem own : ownKnob Try.prog.godebug = none := by kernel_rfl
theorem laidOut : laidOutB Try.prog = true := by kernel_rfl

theorem edAt_set2 {w : World} {E : Nat} {f t : Int} {i : ByteArray} (h : EdAt w E f t i) (v : ByteArray) : EdAt (w.setCell ⟨E, 2, none⟩ (.string v)) E f t v := by
  obtain ⟨a0, a1, a2, b0, b1, b2, sz⟩ := h
  exact ⟨by go_simp, by go_simp, by go_simp, by go_simp, by go_simp, by go_simp, by simpa using sz⟩
theorem set3_at {w : World} {X : Nat} {f t : Int} {i : ByteArray} (h : EdAt w X f t i) (p q : Int) (k : ByteArray) : EdAt (((w.setCell ⟨X, 0, none⟩ (.int .i64 p)).setCell ⟨X, 1, none⟩ (.int .i64 q)).setCell ⟨X, 2, none⟩ (.string k)) X p q k :=
  edAt_set2 ((h.set0 p).set1 q) k
theorem set3_other {w : World} {X E : Nat} {f t : Int} {i : ByteArray} (h : EdAt w E f t i) (hne : ¬ E = X) (p q k : Value) : EdAt (((w.setCell ⟨X, 0, none⟩ p).setCell ⟨X, 1, none⟩ q).setCell ⟨X, 2, none⟩ k) E f t i :=
  ((h.other hne 0 p).other hne 1 q).other hne 2 k
theorem tn_set {v w : World} {X : Nat} {f t : Int} {i : ByteArray} {g u : Int} {j : ByteArray} {z0 z1 : Int} {z2 : ByteArray} (h : TA v w f t i g u j) (hx : EdAt w X z0 z1 z2) (p q : Int) (k : ByteArray) (hl : v.heap.size + 1 < X) :
    TN v (((w.setCell ⟨X, 0, none⟩ (.int .i64 p)).setCell ⟨X, 1, none⟩ (.int .i64 q)).setCell ⟨X, 2, none⟩ (.string k)) X f t i g u j p q k :=
  ⟨set3_other h.a (by omega) _ _ _, set3_other h.b (by omega) _ _ _, set3_at hx p q k, hl, below_set3 h.bel (by omega)⟩
theorem ta_new (w : World) (f t : Int) (i : ByteArray) (g u : Int) (j : ByteArray) : TA w ((w.alloc (.cells #[.int .i64 f, .int .i64 t, .string i] 47)).alloc (.cells #[.int .i64 g, .int .i64 u, .string j] 47)) f t i g u j := by
  refine ⟨(edAt_new w f t i 47).below ((Below.refl _ _).alloc (Nat.le_refl _) _), ?_, ((Below.refl _ _).alloc (Nat.le_refl _) _).alloc (by simp) _⟩
  have h := edAt_new (w.alloc (.cells #[.int .i64 f, .int .i64 t, .string i] 47)) g u j 47
  rw [sizeE] at h
  exact h

set_option maxHeartbeats 8000000 in
theorem walk (s : ByteArray) (f t : Int) (i : ByteArray) (g u : Int) (j : ByteArray) (c : Bool) (w : World) (hs : s.size ≤ maxLen) (wf : (Lit.int .i64 f).wf = true) (wt : (Lit.int .i64 t).wf = true) (wi : i.size ≤ maxLen) (wg : (Lit.int .i64 g).wf = true) (wu : (Lit.int .i64 u).wf = true) (wj : j.size ≤ maxLen) :
    Calls Try.prog 12 #[.string s, .agg #[.int .i64 f, .int .i64 t, .string i], .agg #[.int .i64 g, .int .i64 u, .string j], .bool c] w fun e w' => e = .returned (.bool true) ∧ Below w.heap.size w w' := by
  have hi := wi
  have hj := wj
  have HSL := Lib.hid hs
  have HIL := Lib.hid hi
  have HJL := Lib.hid hj
  clear wf wt wi wg wu wj
  unfold maxLen at hs hi hj
  by_cases hl : s.size ≤ 1048576
  case neg =>
    go_enter Try.func12, Try.ntmps12
    go_wp2
    go_ret
    exact ⟨rfl, ((Below.refl _ _).alloc (Nat.le_refl _) _).alloc (by simp) _⟩
  by_cases hl2 : (i.size : Int) ≤ 1048576
  case neg =>
    obtain ⟨W3, hW3⟩ : ∃ W, (w.alloc (.cells #[.int .i64 f, .int .i64 t, .string i] 47)).alloc (.cells #[.int .i64 g, .int .i64 u, .string j] 47) = W := ⟨_, rfl⟩
    have HT0 : Hid (TA w W3 f t i g u j) := Lib.hid (hW3 ▸ ta_new w f t i g u j)
    have HW3 := Lib.hid hW3
    clear hW3
    go_enter Try.func12, Try.ntmps12
    go_wp2_with fail
    rw [HW3.out]
    obtain ⟨⟨a0, a1, a2, a3, a4, a5, a6⟩, ⟨b0, b1, b2, b3, b4, b5, b6⟩, _⟩ := HT0.out
    go_at_call 37
    refine (szEdit_out f t i 1048576 (by omega) (by omega) (by omega) HIL.out _).mono ?_
    rintro e w1 ⟨rfl, hb1⟩
    clear a0 a1 a2 a3 a4 a5 a6 b0 b1 b2 b3 b4 b5 b6
    have HT1 := Lib.hid (HT0.out.below hb1)
    clear hb1
    obtain ⟨⟨a0, a1, a2, a3, a4, a5, a6⟩, ⟨b0, b1, b2, b3, b4, b5, b6⟩, _⟩ := HT1.out
    go_wp2_with fail
    go_ret
    exact ⟨rfl, HT1.out.bel⟩
  by_cases hl3 : (j.size : Int) ≤ 1048576 - i.size
  case neg =>
    obtain ⟨W3, hW3⟩ : ∃ W, (w.alloc (.cells #[.int .i64 f, .int .i64 t, .string i] 47)).alloc (.cells #[.int .i64 g, .int .i64 u, .string j] 47) = W := ⟨_, rfl⟩
    have HT0 : Hid (TA w W3 f t i g u j) := Lib.hid (hW3 ▸ ta_new w f t i g u j)
    have HW3 := Lib.hid hW3
    clear hW3
    go_enter Try.func12, Try.ntmps12
    go_wp2_with fail
    rw [HW3.out]
    obtain ⟨⟨a0, a1, a2, a3, a4, a5, a6⟩, ⟨b0, b1, b2, b3, b4, b5, b6⟩, _⟩ := HT0.out
    go_at_call 37
    refine (szEdit_in f t i 1048576 (by omega) (by omega) _).mono ?_
    rintro e w1 ⟨rfl, hb1⟩
    clear a0 a1 a2 a3 a4 a5 a6 b0 b1 b2 b3 b4 b5 b6
    have HT1 := Lib.hid (HT0.out.below hb1)
    clear hb1
    obtain ⟨⟨a0, a1, a2, a3, a4, a5, a6⟩, ⟨b0, b1, b2, b3, b4, b5, b6⟩, _⟩ := HT1.out
    go_wp2_with fail
    go_at_call 37
    refine (szEdit_out g u j (1048576 - i.size) (by omega) (by omega) (by omega) HJL.out _).mono ?_
    rintro e w2 ⟨rfl, hb2⟩
    clear a0 a1 a2 a3 a4 a5 a6 b0 b1 b2 b3 b4 b5 b6
    have HT2 := Lib.hid (HT1.out.below hb2)
    clear hb2
    obtain ⟨⟨a0, a1, a2, a3, a4, a5, a6⟩, ⟨b0, b1, b2, b3, b4, b5, b6⟩, _⟩ := HT2.out
    go_wp2_with fail
    go_ret
    exact ⟨rfl, HT2.out.bel⟩
  have hn1 : ¬ (1048576 : Int) - i.size < 0 := by omega
  have hn2 : ¬ (1048576 : Int) - i.size - j.size < 0 := by omega
  rcases hb : trB s f t i g u j c with _ | _
  case false =>
    have HB := Lib.hid hb
    clear hb
    obtain ⟨W3, hW3⟩ : ∃ W, (w.alloc (.cells #[.int .i64 f, .int .i64 t, .string i] 47)).alloc (.cells #[.int .i64 g, .int .i64 u, .string j] 47) = W := ⟨_, rfl⟩
    have HT0 : Hid (TA w W3 f t i g u j) := Lib.hid (hW3 ▸ ta_new w f t i g u j)
    have HW3 := Lib.hid hW3
    clear hW3
    go_enter Try.func12, Try.ntmps12
    go_wp2_with fail
    rw [HW3.out]
    obtain ⟨⟨a0, a1, a2, a3, a4, a5, a6⟩, ⟨b0, b1, b2, b3, b4, b5, b6⟩, _⟩ := HT0.out
    go_at_call 37
    refine (szEdit_in f t i 1048576 (by omega) (by omega) _).mono ?_
    rintro e w1 ⟨rfl, hb1⟩
    clear a0 a1 a2 a3 a4 a5 a6 b0 b1 b2 b3 b4 b5 b6
    have HT1 := Lib.hid (HT0.out.below hb1)
    clear hb1
    obtain ⟨⟨a0, a1, a2, a3, a4, a5, a6⟩, ⟨b0, b1, b2, b3, b4, b5, b6⟩, _⟩ := HT1.out
    go_wp2_with fail
    go_at_call 37
    refine (szEdit_in g u j (1048576 - i.size) (by omega) (by omega) _).mono ?_
    rintro e w2 ⟨rfl, hb2⟩
    clear a0 a1 a2 a3 a4 a5 a6 b0 b1 b2 b3 b4 b5 b6
    have HT2 := Lib.hid (HT1.out.below hb2)
    clear hb2
    obtain ⟨⟨a0, a1, a2, a3, a4, a5, a6⟩, ⟨b0, b1, b2, b3, b4, b5, b6⟩, _⟩ := HT2.out
    go_wp2_with fail
    go_cut [10, 11] (fun s10 s11 wx => ∃ X : Nat, s10 = .pointer (some ⟨X, 0, none⟩) ∧ s11 = .bool false ∧ Hid (TN w wx X f t i g u j 0 0 ⟨#[]⟩))
    case first =>
      have na0 : ¬ w2.heap.size = w.heap.size := by omega
      have nb0 : ¬ w.heap.size = w2.heap.size := by omega
      have nc0 : ¬ w2.heap.size = w.heap.size + 1 := by omega
      have nd0 : ¬ w.heap.size + 1 = w2.heap.size := by omega
      have HTd := Lib.hid HT2.out.drew
      go_region_held3 (fun w' => w'.cell? ⟨w.heap.size, 0, none⟩ = some (.int .i64 f) ∧ w'.cell? ⟨w.heap.size, 1, none⟩ = some (.int .i64 t) ∧ w'.cell? ⟨w.heap.size, 2, none⟩ = some (.string i) ∧ w'.cell? ⟨w.heap.size + 1, 0, none⟩ = some (.int .i64 g) ∧ w'.cell? ⟨w.heap.size + 1, 1, none⟩ = some (.int .i64 u) ∧ w'.cell? ⟨w.heap.size + 1, 2, none⟩ = some (.string j)) (first | go_keep | go_simp)
        (first | (go_at_call_of 38 (Value.agg #[.int IntKind.i64 f, .int IntKind.i64 t, .string i]); refine (toEdit_any _ _ _ _).mono ?_; rintro e w7 ⟨rfl, hb7⟩; have HT7 := Lib.hid (TA.below (by first | exact HTd.out | exact HTd.out.below ((Below.refl _ _).alloc (Nat.le_refl _) _) | exact (HT2.out.below ((Below.refl _ _).alloc (Nat.le_refl _) _)).drew) hb7); (first | have HX7 : Hid (EdAt w7 w2.heap.size 0 0 ⟨#[]⟩) := Lib.hid (EdAt.below (by first | exact edAt_new _ _ _ _ _ | exact (edAt_new _ _ _ _ _).drew) hb7) | skip); clear hb7; obtain ⟨⟨x0p, x1p, x2p, x3p, x4p, x5p, x6p⟩, ⟨y0p, y1p, y2p, y3p, y4p, y5p, y6p⟩, _⟩ := HT7.out; have na7 : ¬ w7.heap.size = w.heap.size := (by omega); have nb7 : ¬ w.heap.size = w7.heap.size := (by omega); have nc7 : ¬ w7.heap.size = w.heap.size + 1 := (by omega); have nd7 : ¬ w.heap.size + 1 = w7.heap.size := (by omega); (try obtain ⟨q0p, q1p, q2p, q3p, q4p, q5p, q6p⟩ := HX7.out)) | (go_at_call_of 38 (Value.agg #[.int IntKind.i64 g, .int IntKind.i64 u, .string j]); refine (toEdit_any _ _ _ _).mono ?_; rintro e w8 ⟨rfl, hb8⟩; have HT8 := Lib.hid (TA.below (by first | exact HT7.out | exact HT7.out.below ((Below.refl _ _).alloc (Nat.le_refl _) _)) hb8); (first | have HX8 := Lib.hid (HX7.out.below hb8) | have HX8 : Hid (EdAt w8 w7.heap.size 0 0 ⟨#[]⟩) := Lib.hid (EdAt.below (by first | exact edAt_new _ _ _ _ _ | exact (edAt_new _ _ _ _ _).drew) hb8) | skip); clear hb8; obtain ⟨⟨x0q, x1q, x2q, x3q, x4q, x5q, x6q⟩, ⟨y0q, y1q, y2q, y3q, y4q, y5q, y6q⟩, _⟩ := HT8.out; have na8 : ¬ w8.heap.size = w.heap.size := (by omega); have nb8 : ¬ w.heap.size = w8.heap.size := (by omega); have nc8 : ¬ w8.heap.size = w.heap.size + 1 := (by omega); have nd8 : ¬ w.heap.size + 1 = w8.heap.size := (by omega); (try obtain ⟨q0q, q1q, q2q, q3q, q4q, q5q, q6q⟩ := HX8.out)) | (go_at_call 19; refine (transform_spec_no s f t i g u j c HB.out HSL.out HIL.out HJL.out _).mono ?_; rintro e w9 ⟨rfl, hb9⟩; have HT9 := Lib.hid (TA.below (by first | exact HT8.out | exact HT8.out.below ((Below.refl _ _).alloc (Nat.le_refl _) _)) hb9); (first | have HX9 := Lib.hid (HX8.out.below hb9) | have HX9 : Hid (EdAt w9 w8.heap.size 0 0 ⟨#[]⟩) := Lib.hid (EdAt.below (by first | exact edAt_new _ _ _ _ _ | exact (edAt_new _ _ _ _ _).drew) hb9) | skip); clear hb9; obtain ⟨⟨x0r, x1r, x2r, x3r, x4r, x5r, x6r⟩, ⟨y0r, y1r, y2r, y3r, y4r, y5r, y6r⟩, _⟩ := HT9.out; have na9 : ¬ w9.heap.size = w.heap.size := (by omega); have nb9 : ¬ w.heap.size = w9.heap.size := (by omega); have nc9 : ¬ w9.heap.size = w.heap.size + 1 := (by omega); have nd9 : ¬ w.heap.size + 1 = w9.heap.size := (by omega); (try obtain ⟨q0r, q1r, q2r, q3r, q4r, q5r, q6r⟩ := HX9.out)))
      all_goals
        go_wp2_with fail
        go_meet
        first | exact ⟨_, rfl, rfl, Lib.hid (HT9.out.more _ _ _)⟩ | exact ⟨_, rfl, rfl, Lib.hid (tn_set HT9.out HX9.out _ _ _ (by omega))⟩
    case rest =>
      obtain ⟨X, rfl, rfl, HTc⟩ := hcut
      clear a0 a1 a2 a3 a4 a5 a6 b0 b1 b2 b3 b4 b5 b6
      obtain ⟨⟨a0, a1, a2, a3, a4, a5, a6⟩, ⟨b0, b1, b2, b3, b4, b5, b6⟩, ⟨m0, m1, m2, m3, m4, m5, m6⟩, hx, _⟩ := HTc.out
      go_wp2_with fail
      go_cut [12, 13] (fun s10 s11 wx => ∃ Y : Nat, s10 = .pointer (some ⟨Y, 0, none⟩) ∧ s11 = .bool false ∧ Hid (EdAt wx X 0 0 ⟨#[]⟩) ∧ Hid (EdAt wx Y 0 0 ⟨#[]⟩) ∧ Hid (Below w.heap.size w wx))
      case first =>
        have na0 : ¬ wc.heap.size = w.heap.size := by omega
        have nb0 : ¬ w.heap.size = wc.heap.size := by omega
        have nc0 : ¬ wc.heap.size = w.heap.size + 1 := by omega
        have nd0 : ¬ w.heap.size + 1 = wc.heap.size := by omega
        have HTd := Lib.hid HTc.out.drew
        go_region_held3 (fun w' => w'.cell? ⟨w.heap.size, 0, none⟩ = some (.int .i64 f) ∧ w'.cell? ⟨w.heap.size, 1, none⟩ = some (.int .i64 t) ∧ w'.cell? ⟨w.heap.size, 2, none⟩ = some (.string i) ∧ w'.cell? ⟨w.heap.size + 1, 0, none⟩ = some (.int .i64 g) ∧ w'.cell? ⟨w.heap.size + 1, 1, none⟩ = some (.int .i64 u) ∧ w'.cell? ⟨w.heap.size + 1, 2, none⟩ = some (.string j)) (first | go_keep | go_simp)
          (first | (go_at_call_of 38 (Value.agg #[.int IntKind.i64 f, .int IntKind.i64 t, .string i]); refine (toEdit_any _ _ _ _).mono ?_; rintro e w7 ⟨rfl, hb7⟩; have HT7 := Lib.hid (TN.below (by first | exact HTd.out | exact HTd.out.below ((Below.refl _ _).alloc (Nat.le_refl _) _) | exact (HTc.out.below ((Below.refl _ _).alloc (Nat.le_refl _) _)).drew) hb7); (first | have HX7 : Hid (EdAt w7 wc.heap.size 0 0 ⟨#[]⟩) := Lib.hid (EdAt.below (by first | exact edAt_new _ _ _ _ _ | exact (edAt_new _ _ _ _ _).drew) hb7) | skip); clear hb7; obtain ⟨⟨x0p, x1p, x2p, x3p, x4p, x5p, x6p⟩, ⟨y0p, y1p, y2p, y3p, y4p, y5p, y6p⟩, ⟨n0p, n1p, n2p, n3p, n4p, n5p, n6p⟩, _, _⟩ := HT7.out; have na7 : ¬ w7.heap.size = w.heap.size := (by omega); have nb7 : ¬ w.heap.size = w7.heap.size := (by omega); have nc7 : ¬ w7.heap.size = w.heap.size + 1 := (by omega); have nd7 : ¬ w.heap.size + 1 = w7.heap.size := (by omega); (try obtain ⟨q0p, q1p, q2p, q3p, q4p, q5p, q6p⟩ := HX7.out)) | (go_at_call_of 38 (Value.agg #[.int IntKind.i64 g, .int IntKind.i64 u, .string j]); refine (toEdit_any _ _ _ _).mono ?_; rintro e w8 ⟨rfl, hb8⟩; have HT8 := Lib.hid (TN.below (by first | exact HT7.out | exact HT7.out.below ((Below.refl _ _).alloc (Nat.le_refl _) _)) hb8); (first | have HX8 := Lib.hid (HX7.out.below hb8) | have HX8 : Hid (EdAt w8 w7.heap.size 0 0 ⟨#[]⟩) := Lib.hid (EdAt.below (by first | exact edAt_new _ _ _ _ _ | exact (edAt_new _ _ _ _ _).drew) hb8) | skip); clear hb8; obtain ⟨⟨x0q, x1q, x2q, x3q, x4q, x5q, x6q⟩, ⟨y0q, y1q, y2q, y3q, y4q, y5q, y6q⟩, ⟨n0q, n1q, n2q, n3q, n4q, n5q, n6q⟩, _, _⟩ := HT8.out; have na8 : ¬ w8.heap.size = w.heap.size := (by omega); have nb8 : ¬ w.heap.size = w8.heap.size := (by omega); have nc8 : ¬ w8.heap.size = w.heap.size + 1 := (by omega); have nd8 : ¬ w.heap.size + 1 = w8.heap.size := (by omega); (try obtain ⟨q0q, q1q, q2q, q3q, q4q, q5q, q6q⟩ := HX8.out)) | (go_at_call 18; refine (transform_impl_no s f t i g u j c HB.out HSL.out HIL.out HJL.out _).mono ?_; rintro e w9 ⟨rfl, hb9⟩; have HT9 := Lib.hid (TN.below (by first | exact HT8.out | exact HT8.out.below ((Below.refl _ _).alloc (Nat.le_refl _) _)) hb9); (first | have HX9 := Lib.hid (HX8.out.below hb9) | have HX9 : Hid (EdAt w9 w8.heap.size 0 0 ⟨#[]⟩) := Lib.hid (EdAt.below (by first | exact edAt_new _ _ _ _ _ | exact (edAt_new _ _ _ _ _).drew) hb9) | skip); clear hb9; obtain ⟨⟨x0r, x1r, x2r, x3r, x4r, x5r, x6r⟩, ⟨y0r, y1r, y2r, y3r, y4r, y5r, y6r⟩, ⟨n0r, n1r, n2r, n3r, n4r, n5r, n6r⟩, _, _⟩ := HT9.out; have na9 : ¬ w9.heap.size = w.heap.size := (by omega); have nb9 : ¬ w.heap.size = w9.heap.size := (by omega); have nc9 : ¬ w9.heap.size = w.heap.size + 1 := (by omega); have nd9 : ¬ w.heap.size + 1 = w9.heap.size := (by omega); (try obtain ⟨q0r, q1r, q2r, q3r, q4r, q5r, q6r⟩ := HX9.out)))
        all_goals
          go_wp2_with fail
          go_meet
          first | exact ⟨_, rfl, rfl, Lib.hid (HT9.out.m.below ((Below.refl _ _).alloc (Nat.le_refl _) _)), Lib.hid (edAt_new _ _ _ _ _), Lib.hid (HT9.out.bel.alloc HT9.out.bel.size _)⟩ | exact ⟨_, rfl, rfl, Lib.hid (set3_other HT9.out.m (by omega) _ _ _), Lib.hid (set3_at HX9.out _ _ _), Lib.hid (below_set3 HT9.out.bel (by omega))⟩
      case rest =>
        obtain ⟨Y, rfl, rfl, HX, HY, HBe⟩ := hcut
        clear a0 a1 a2 a3 a4 a5 a6 b0 b1 b2 b3 b4 b5 b6 m0 m1 m2 m3 m4 m5 m6 hx
        obtain ⟨x0, x1, x2, x3, x4, x5, x6⟩ := HX.out
        obtain ⟨y0, y1, y2, y3, y4, y5, y6⟩ := HY.out
        go_wp2_with fail
        go_at_call 39
        refine (eqEdit_same _ _ _ _).mono ?_
        rintro e w9 ⟨rfl, hb9⟩
        have HBf := Lib.hid (HBe.out.trans (hb9.mono HBe.out.size))
        clear hb9 x0 x1 x2 x3 x4 x5 x6 y0 y1 y2 y3 y4 y5 y6
        go_wp2_with fail
        go_ret
        exact ⟨rfl, HBf.out⟩
  case true =>
    have HB := Lib.hid hb
    obtain ⟨p, hp⟩ : ∃ p, f + mv f t g u j c = p := ⟨_, rfl⟩
    obtain ⟨q, hq⟩ : ∃ q, t + mv f t g u j c = q := ⟨_, rfl⟩
    have HP := Lib.hid hp
    have HQ := Lib.hid hq
    clear hb hp hq
    obtain ⟨W3, hW3⟩ : ∃ W, (w.alloc (.cells #[.int .i64 f, .int .i64 t, .string i] 47)).alloc (.cells #[.int .i64 g, .int .i64 u, .string j] 47) = W := ⟨_, rfl⟩
    have HT0 : Hid (TA w W3 f t i g u j) := Lib.hid (hW3 ▸ ta_new w f t i g u j)
    have HW3 := Lib.hid hW3
    clear hW3
    go_enter Try.func12, Try.ntmps12
    go_wp2_with fail
    rw [HW3.out]
    obtain ⟨⟨a0, a1, a2, a3, a4, a5, a6⟩, ⟨b0, b1, b2, b3, b4, b5, b6⟩, _⟩ := HT0.out
    go_at_call 37
    refine (szEdit_in f t i 1048576 (by omega) (by omega) _).mono ?_
    rintro e w1 ⟨rfl, hb1⟩
    clear a0 a1 a2 a3 a4 a5 a6 b0 b1 b2 b3 b4 b5 b6
    have HT1 := Lib.hid (HT0.out.below hb1)
    clear hb1
    obtain ⟨⟨a0, a1, a2, a3, a4, a5, a6⟩, ⟨b0, b1, b2, b3, b4, b5, b6⟩, _⟩ := HT1.out
    go_wp2_with fail
    go_at_call 37
    refine (szEdit_in g u j (1048576 - i.size) (by omega) (by omega) _).mono ?_
    rintro e w2 ⟨rfl, hb2⟩
    clear a0 a1 a2 a3 a4 a5 a6 b0 b1 b2 b3 b4 b5 b6
    have HT2 := Lib.hid (HT1.out.below hb2)
    clear hb2
    obtain ⟨⟨a0, a1, a2, a3, a4, a5, a6⟩, ⟨b0, b1, b2, b3, b4, b5, b6⟩, _⟩ := HT2.out
    go_wp2_with fail
    go_cut [10, 11] (fun s10 s11 wx => ∃ X : Nat, s10 = .pointer (some ⟨X, 0, none⟩) ∧ s11 = .bool true ∧ Hid (TN w wx X f t i g u j p q i))
    case first =>
      have na0 : ¬ w2.heap.size = w.heap.size := by omega
      have nb0 : ¬ w.heap.size = w2.heap.size := by omega
      have nc0 : ¬ w2.heap.size = w.heap.size + 1 := by omega
      have nd0 : ¬ w.heap.size + 1 = w2.heap.size := by omega
      have HTd := Lib.hid HT2.out.drew
      go_region_held3 (fun w' => w'.cell? ⟨w.heap.size, 0, none⟩ = some (.int .i64 f) ∧ w'.cell? ⟨w.heap.size, 1, none⟩ = some (.int .i64 t) ∧ w'.cell? ⟨w.heap.size, 2, none⟩ = some (.string i) ∧ w'.cell? ⟨w.heap.size + 1, 0, none⟩ = some (.int .i64 g) ∧ w'.cell? ⟨w.heap.size + 1, 1, none⟩ = some (.int .i64 u) ∧ w'.cell? ⟨w.heap.size + 1, 2, none⟩ = some (.string j)) (first | go_keep | go_simp)
        (first | (go_at_call_of 38 (Value.agg #[.int IntKind.i64 f, .int IntKind.i64 t, .string i]); refine (toEdit_any _ _ _ _).mono ?_; rintro e w7 ⟨rfl, hb7⟩; have HT7 := Lib.hid (TA.below (by first | exact HTd.out | exact HTd.out.below ((Below.refl _ _).alloc (Nat.le_refl _) _) | exact (HT2.out.below ((Below.refl _ _).alloc (Nat.le_refl _) _)).drew) hb7); (first | have HX7 : Hid (EdAt w7 w2.heap.size 0 0 ⟨#[]⟩) := Lib.hid (EdAt.below (by first | exact edAt_new _ _ _ _ _ | exact (edAt_new _ _ _ _ _).drew) hb7) | skip); clear hb7; obtain ⟨⟨x0p, x1p, x2p, x3p, x4p, x5p, x6p⟩, ⟨y0p, y1p, y2p, y3p, y4p, y5p, y6p⟩, _⟩ := HT7.out; have na7 : ¬ w7.heap.size = w.heap.size := (by omega); have nb7 : ¬ w.heap.size = w7.heap.size := (by omega); have nc7 : ¬ w7.heap.size = w.heap.size + 1 := (by omega); have nd7 : ¬ w.heap.size + 1 = w7.heap.size := (by omega); (try obtain ⟨q0p, q1p, q2p, q3p, q4p, q5p, q6p⟩ := HX7.out)) | (go_at_call_of 38 (Value.agg #[.int IntKind.i64 g, .int IntKind.i64 u, .string j]); refine (toEdit_any _ _ _ _).mono ?_; rintro e w8 ⟨rfl, hb8⟩; have HT8 := Lib.hid (TA.below (by first | exact HT7.out | exact HT7.out.below ((Below.refl _ _).alloc (Nat.le_refl _) _)) hb8); (first | have HX8 := Lib.hid (HX7.out.below hb8) | have HX8 : Hid (EdAt w8 w7.heap.size 0 0 ⟨#[]⟩) := Lib.hid (EdAt.below (by first | exact edAt_new _ _ _ _ _ | exact (edAt_new _ _ _ _ _).drew) hb8) | skip); clear hb8; obtain ⟨⟨x0q, x1q, x2q, x3q, x4q, x5q, x6q⟩, ⟨y0q, y1q, y2q, y3q, y4q, y5q, y6q⟩, _⟩ := HT8.out; have na8 : ¬ w8.heap.size = w.heap.size := (by omega); have nb8 : ¬ w.heap.size = w8.heap.size := (by omega); have nc8 : ¬ w8.heap.size = w.heap.size + 1 := (by omega); have nd8 : ¬ w.heap.size + 1 = w8.heap.size := (by omega); (try obtain ⟨q0q, q1q, q2q, q3q, q4q, q5q, q6q⟩ := HX8.out)) | (go_at_call 19; refine (transform_spec_yes s f t i g u j c p q HB.out HP.out HQ.out _).mono ?_; rintro e w9 ⟨rfl, hb9⟩; have HT9 := Lib.hid (TA.below (by first | exact HT8.out | exact HT8.out.below ((Below.refl _ _).alloc (Nat.le_refl _) _)) hb9); (first | have HX9 := Lib.hid (HX8.out.below hb9) | have HX9 : Hid (EdAt w9 w8.heap.size 0 0 ⟨#[]⟩) := Lib.hid (EdAt.below (by first | exact edAt_new _ _ _ _ _ | exact (edAt_new _ _ _ _ _).drew) hb9) | skip); clear hb9; obtain ⟨⟨x0r, x1r, x2r, x3r, x4r, x5r, x6r⟩, ⟨y0r, y1r, y2r, y3r, y4r, y5r, y6r⟩, _⟩ := HT9.out; have na9 : ¬ w9.heap.size = w.heap.size := (by omega); have nb9 : ¬ w.heap.size = w9.heap.size := (by omega); have nc9 : ¬ w9.heap.size = w.heap.size + 1 := (by omega); have nd9 : ¬ w.heap.size + 1 = w9.heap.size := (by omega); (try obtain ⟨q0r, q1r, q2r, q3r, q4r, q5r, q6r⟩ := HX9.out)))
      all_goals
        go_wp2_with fail
        go_meet
        first | exact ⟨_, rfl, rfl, Lib.hid (HT9.out.more _ _ _)⟩ | exact ⟨_, rfl, rfl, Lib.hid (tn_set HT9.out HX9.out _ _ _ (by omega))⟩
    case rest =>
      obtain ⟨X, rfl, rfl, HTc⟩ := hcut
      clear a0 a1 a2 a3 a4 a5 a6 b0 b1 b2 b3 b4 b5 b6
      obtain ⟨⟨a0, a1, a2, a3, a4, a5, a6⟩, ⟨b0, b1, b2, b3, b4, b5, b6⟩, ⟨m0, m1, m2, m3, m4, m5, m6⟩, hx, _⟩ := HTc.out
      go_wp2_with fail
      go_cut [12, 13] (fun s10 s11 wx => ∃ Y : Nat, s10 = .pointer (some ⟨Y, 0, none⟩) ∧ s11 = .bool true ∧ Hid (EdAt wx X p q i) ∧ Hid (EdAt wx Y p q i) ∧ Hid (Below w.heap.size w wx))
      case first =>
        have na0 : ¬ wc.heap.size = w.heap.size := by omega
        have nb0 : ¬ w.heap.size = wc.heap.size := by omega
        have nc0 : ¬ wc.heap.size = w.heap.size + 1 := by omega
        have nd0 : ¬ w.heap.size + 1 = wc.heap.size := by omega
        have HTd := Lib.hid HTc.out.drew
        go_region_held3 (fun w' => w'.cell? ⟨w.heap.size, 0, none⟩ = some (.int .i64 f) ∧ w'.cell? ⟨w.heap.size, 1, none⟩ = some (.int .i64 t) ∧ w'.cell? ⟨w.heap.size, 2, none⟩ = some (.string i) ∧ w'.cell? ⟨w.heap.size + 1, 0, none⟩ = some (.int .i64 g) ∧ w'.cell? ⟨w.heap.size + 1, 1, none⟩ = some (.int .i64 u) ∧ w'.cell? ⟨w.heap.size + 1, 2, none⟩ = some (.string j)) (first | go_keep | go_simp)
          (first | (go_at_call_of 38 (Value.agg #[.int IntKind.i64 f, .int IntKind.i64 t, .string i]); refine (toEdit_any _ _ _ _).mono ?_; rintro e w7 ⟨rfl, hb7⟩; have HT7 := Lib.hid (TN.below (by first | exact HTd.out | exact HTd.out.below ((Below.refl _ _).alloc (Nat.le_refl _) _) | exact (HTc.out.below ((Below.refl _ _).alloc (Nat.le_refl _) _)).drew) hb7); (first | have HX7 : Hid (EdAt w7 wc.heap.size 0 0 ⟨#[]⟩) := Lib.hid (EdAt.below (by first | exact edAt_new _ _ _ _ _ | exact (edAt_new _ _ _ _ _).drew) hb7) | skip); clear hb7; obtain ⟨⟨x0p, x1p, x2p, x3p, x4p, x5p, x6p⟩, ⟨y0p, y1p, y2p, y3p, y4p, y5p, y6p⟩, ⟨n0p, n1p, n2p, n3p, n4p, n5p, n6p⟩, _, _⟩ := HT7.out; have na7 : ¬ w7.heap.size = w.heap.size := (by omega); have nb7 : ¬ w.heap.size = w7.heap.size := (by omega); have nc7 : ¬ w7.heap.size = w.heap.size + 1 := (by omega); have nd7 : ¬ w.heap.size + 1 = w7.heap.size := (by omega); (try obtain ⟨q0p, q1p, q2p, q3p, q4p, q5p, q6p⟩ := HX7.out)) | (go_at_call_of 38 (Value.agg #[.int IntKind.i64 g, .int IntKind.i64 u, .string j]); refine (toEdit_any _ _ _ _).mono ?_; rintro e w8 ⟨rfl, hb8⟩; have HT8 := Lib.hid (TN.below (by first | exact HT7.out | exact HT7.out.below ((Below.refl _ _).alloc (Nat.le_refl _) _)) hb8); (first | have HX8 := Lib.hid (HX7.out.below hb8) | have HX8 : Hid (EdAt w8 w7.heap.size 0 0 ⟨#[]⟩) := Lib.hid (EdAt.below (by first | exact edAt_new _ _ _ _ _ | exact (edAt_new _ _ _ _ _).drew) hb8) | skip); clear hb8; obtain ⟨⟨x0q, x1q, x2q, x3q, x4q, x5q, x6q⟩, ⟨y0q, y1q, y2q, y3q, y4q, y5q, y6q⟩, ⟨n0q, n1q, n2q, n3q, n4q, n5q, n6q⟩, _, _⟩ := HT8.out; have na8 : ¬ w8.heap.size = w.heap.size := (by omega); have nb8 : ¬ w.heap.size = w8.heap.size := (by omega); have nc8 : ¬ w8.heap.size = w.heap.size + 1 := (by omega); have nd8 : ¬ w.heap.size + 1 = w8.heap.size := (by omega); (try obtain ⟨q0q, q1q, q2q, q3q, q4q, q5q, q6q⟩ := HX8.out)) | (go_at_call 18; refine (transform_impl_yes s f t i g u j c p q HB.out HP.out HQ.out _).mono ?_; rintro e w9 ⟨rfl, hb9⟩; have HT9 := Lib.hid (TN.below (by first | exact HT8.out | exact HT8.out.below ((Below.refl _ _).alloc (Nat.le_refl _) _)) hb9); (first | have HX9 := Lib.hid (HX8.out.below hb9) | have HX9 : Hid (EdAt w9 w8.heap.size 0 0 ⟨#[]⟩) := Lib.hid (EdAt.below (by first | exact edAt_new _ _ _ _ _ | exact (edAt_new _ _ _ _ _).drew) hb9) | skip); clear hb9; obtain ⟨⟨x0r, x1r, x2r, x3r, x4r, x5r, x6r⟩, ⟨y0r, y1r, y2r, y3r, y4r, y5r, y6r⟩, ⟨n0r, n1r, n2r, n3r, n4r, n5r, n6r⟩, _, _⟩ := HT9.out; have na9 : ¬ w9.heap.size = w.heap.size := (by omega); have nb9 : ¬ w.heap.size = w9.heap.size := (by omega); have nc9 : ¬ w9.heap.size = w.heap.size + 1 := (by omega); have nd9 : ¬ w.heap.size + 1 = w9.heap.size := (by omega); (try obtain ⟨q0r, q1r, q2r, q3r, q4r, q5r, q6r⟩ := HX9.out)))
        all_goals
          go_wp2_with fail
          go_meet
          first | exact ⟨_, rfl, rfl, Lib.hid (HT9.out.m.below ((Below.refl _ _).alloc (Nat.le_refl _) _)), Lib.hid (edAt_new _ _ _ _ _), Lib.hid (HT9.out.bel.alloc HT9.out.bel.size _)⟩ | exact ⟨_, rfl, rfl, Lib.hid (set3_other HT9.out.m (by omega) _ _ _), Lib.hid (set3_at HX9.out _ _ _), Lib.hid (below_set3 HT9.out.bel (by omega))⟩
      case rest =>
        obtain ⟨Y, rfl, rfl, HX, HY, HBe⟩ := hcut
        clear a0 a1 a2 a3 a4 a5 a6 b0 b1 b2 b3 b4 b5 b6 m0 m1 m2 m3 m4 m5 m6 hx
        obtain ⟨x0, x1, x2, x3, x4, x5, x6⟩ := HX.out
        obtain ⟨y0, y1, y2, y3, y4, y5, y6⟩ := HY.out
        go_wp2_with fail
        go_at_call 39
        refine (eqEdit_same _ _ _ _).mono ?_
        rintro e w9 ⟨rfl, hb9⟩
        have HBf := Lib.hid (HBe.out.trans (hb9.mono HBe.out.size))
        clear hb9 x0 x1 x2 x3 x4 x5 x6 y0 y1 y2 y3 y4 y5 y6
        go_wp2_with fail
        go_ret
        exact ⟨rfl, HBf.out⟩

set_option maxRecDepth 100000 in
theorem lifted (os : Os) (started : os.Started) (H : Type) (enc : TypeId × Value → H) :
    ReturnsInHanded {} Try.checked os 12 .any (Rows.fnExactTransformEditSpec.pre6 enc Try.prog Try.f12 Rows.fnExactTransformEditRow.domain false) (Rows.fnExactTransformEditSpec.post enc Try.prog Try.f12 false true false false) := by
  refine returnsInHanded_of_change (C := Try.checked) own started (by kernel_rfl) Try.func12
    (ChangeSpec.witness6 (enc := enc) (C := Try.checked) false ⟨#[], #[.string ⟨#[]⟩, .agg #[.int .i64 0, .int .i64 0, .string ⟨#[]⟩], .agg #[.int .i64 0, .int .i64 0, .string ⟨#[]⟩], .bool false], []⟩ 8 (by kernel_rfl) (by kernel_rfl) (by kernel_rfl) (by kernel_rfl)) ?_
  intro W base args ds gs before hval0 hW hcnd _
  have hval : ∀ (j : Nat) t v, Try.f12.params[j]? = some t → args[j]? = some v → Value.okWide Try.prog W .any base t v := hval0
  have hW' := hW
  obtain ⟨p, q, hA0, hV, rfl, hfz, hnd⟩ := hW
  have hA : DataW.TrodAll enc Try.prog W 0 (fun _ => true) true Try.f12.params.toList args.toList ds p := hA0
  rw [Try.params12] at hA hval
  obtain ⟨v0, vs0, d0, ds0, p0, q0, hargs, rfl, rfl, h0, r0⟩ := trodAll_cons hA
  obtain ⟨v1, vs1, d1, ds1, p1, q1, rfl, rfl, rfl, h1, r1⟩ := trodAll_cons r0
  obtain ⟨v2, vs2, d2, ds2, p2, q2, rfl, rfl, rfl, h2, r2⟩ := trodAll_cons r1
  obtain ⟨v3, vs3, d3, ds3, p3, q3, rfl, rfl, rfl, h3, r3⟩ := trodAll_cons r2
  obtain ⟨rfl, rfl, rfl⟩ := trodAll_nil r3
  obtain rfl : args = #[v0, v1, v2, v3] := by cases args; simp_all
  obtain ⟨rfl, rfl⟩ := trodVars_none hV
  have k0 := h0
  have lt0 : ∀ x ∈ p0, x.block < W.heap.size := by obtain ⟨m, hm⟩ := k0; exact DataW.trod_lt m _ _ _ hm
  have k1 := h1
  have lt1 : ∀ x ∈ p1, x.block < W.heap.size := by obtain ⟨m, hm⟩ := k1; exact DataW.trod_lt m _ _ _ hm
  have k2 := h2
  have lt2 : ∀ x ∈ p2, x.block < W.heap.size := by obtain ⟨m, hm⟩ := k2; exact DataW.trod_lt m _ _ _ hm
  have k3 := h3
  have lt3 : ∀ x ∈ p3, x.block < W.heap.size := by obtain ⟨m, hm⟩ := k3; exact DataW.trod_lt m _ _ _ hm
  obtain ⟨a0, rfl, rfl, rfl, w0⟩ := open_string Try.underlying9 (hval 0 9 v0 rfl rfl) h0
  obtain ⟨c10, c11, c12, y10, y11, y12, m1, rfl, rfl, rfl, hy10, hy11, hy12⟩ := open_agg3 Try.underlying47 (by kernel_rfl) (by kernel_rfl) (hval 1 47 v1 rfl rfl) h1
  obtain ⟨f1, e10, rfl, wf1⟩ := DataW.trod_int Try.underlying3 hy10
  obtain ⟨t1, e11, rfl, wt1⟩ := DataW.trod_int Try.underlying3 hy11
  obtain ⟨i1, e12, rfl, wi1⟩ := DataW.trod_string Try.underlying9 hy12
  simp at e10 e11 e12
  subst e10 e11 e12
  obtain ⟨c20, c21, c22, y20, y21, y22, m2, rfl, rfl, rfl, hy20, hy21, hy22⟩ := open_agg3 Try.underlying47 (by kernel_rfl) (by kernel_rfl) (hval 2 47 v2 rfl rfl) h2
  obtain ⟨f2, e20, rfl, wf2⟩ := DataW.trod_int Try.underlying3 hy20
  obtain ⟨t2, e21, rfl, wt2⟩ := DataW.trod_int Try.underlying3 hy21
  obtain ⟨i2, e22, rfl, wi2⟩ := DataW.trod_string Try.underlying9 hy22
  simp at e20 e21 e22
  subst e20 e21 e22
  obtain ⟨a3, rfl, rfl, rfl⟩ := open_bool Try.underlying4 (hval 3 4 v3 rfl rfl) h3
  clear hA0 hval0
  refine (walk a0 f1 t1 i1 f2 t2 i2 a3 W w0 wf1 wt1 wi1 wf2 wt2 wi2).mono fun e W' ⟨he, bel⟩ => ?_
  subst he
  exact ⟨_, rfl, _, _, _, [], _, [], hW', trodAll_mk1 (shut_bool Try.underlying4 _), (trodAll_cons_mk (Below.trod laidOut (by kernel_rfl) (of_decide_eq_true (by kernel_rfl)) k0 bel lt0) (trodAll_cons_mk (Below.trod laidOut (by kernel_rfl) (of_decide_eq_true (by kernel_rfl)) k1 bel lt1) (trodAll_cons_mk (Below.trod laidOut (by kernel_rfl) (of_decide_eq_true (by kernel_rfl)) k2 bel lt2) (trodAll_cons_mk (Below.trod laidOut (by kernel_rfl) (of_decide_eq_true (by kernel_rfl)) k3 bel lt3) trodAll_mk0)))), rfl, bel.frame _, fun h => by cases h⟩

theorem over : Rows.fnExactTransformEditRow.holds Try.pinned (OpenSpec.ofChange Rows.fnExactTransformEditSpec) :=
  OpenClaim.holds_of_wide 12 Try.f12 rfl rfl rfl rfl rfl rfl rfl ⟨rfl, rfl, rfl, rfl, rfl⟩ rfl rfl rfl rfl rfl (by kernel_rfl) Try.func12 (by kernel_rfl)
    (of_decide_eq_true (by kernel_rfl)) (by unfold Func.isWrapper; first | (rw [if_pos (by decide +kernel)]; kernel_rfl) | (rw [if_neg (by decide +kernel)]; exact ⟨rfl, rfl⟩))
    (fun os started H enc _ => lifted os started H enc)

/-- The given statement. -/
theorem proved : Rows.FnExactTransformEditSaid := over
end Go.Proofs.Ytdicfjgdceacpaa.fnExactTransformEdit
