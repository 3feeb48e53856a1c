/-
  FnExactMergeEdits returns true for every string and every two edits, and they read as they did: MergeEdits answers as its model. No conditions.
-/
import Derived.Test.YtdicfjgdceacpaaRows
import Derived.ProofKit
import Derived.OpenShut
import Derived.ShutString
import Derived.ChangeOld
import Derived.Below
import Derived.Lib.SmallJoins
import Derived.Test.YtdicfjgdceacpaaIe
import Derived.Test.YtdicfjgdceacpaaTe
import Derived.Deep.RegionHeld3
import Derived.Deep.RegionWith
import Derived.Deep.DeepCutAuto
namespace Go.Proofs.Ytdicfjgdceacpaa.fnExactMergeEdits
open Go.Proofs.Ytdicfjgdceacpaa
open Go.ChangeShapes Go.WideShapes Go.ChangeAt Go.RowKit Go.Joins
open Go.ChangeMaps (open_string shut_string)
set_option linter.unusedVariables false
set_option linter.unusedSimpArgs false

theorem own : ownKnob Try.prog.godebug = none := by kernel_rfl
theorem laidOut : laidOutB Try.prog = true := by kernel_rfl

theorem ta_new (w : World) (f t : Int) (i : ByteArray) (g u : Int) (j : ByteArray) : TA w ((w.alloc (.cells #[.int .i64 f, .int .i64 t, .string i] 47)).alloc (.cells #[.int .i64 g, .int .i64 u, .string j] 47)) f t i g u j := by
  refine ⟨(edAt_new w f t i 47).below ((Below.refl _ _).alloc (Nat.le_refl _) _), ?_, ((Below.refl _ _).alloc (Nat.le_refl _) _).alloc (by simp) _⟩
  have h := edAt_new (w.alloc (.cells #[.int .i64 f, .int .i64 t, .string i] 47)) g u j 47
  rw [sizeE] at h
  exact h

set_option maxHeartbeats 8000000 in
theorem walk (s : ByteArray) (f t : Int) (i : ByteArray) (g u : Int) (j : ByteArray) (w : World) (hs : s.size ≤ maxLen) (wf : (Lit.int .i64 f).wf = true) (wt : (Lit.int .i64 t).wf = true) (wi : i.size ≤ maxLen) (wg : (Lit.int .i64 g).wf = true) (wu : (Lit.int .i64 u).wf = true) (wj : j.size ≤ maxLen) :
    Calls Try.prog 14 #[.string s, .agg #[.int .i64 f, .int .i64 t, .string i], .agg #[.int .i64 g, .int .i64 u, .string j]] w fun e w' => e = .returned (.bool true) ∧ Below w.heap.size w w' := by
  have hi := wi
  have hj := wj
  have HSL := Lib.hid hs
  have HIL := Lib.hid hi
  have HJL := Lib.hid hj
  clear wf wt wi wg wu wj
  unfold maxLen at hs hi hj
  by_cases hl : s.size ≤ 1048576
  case neg =>
    go_enter Try.func14, Try.ntmps14
    go_wp2
    go_ret
    exact ⟨rfl, ((Below.refl _ _).alloc (Nat.le_refl _) _).alloc (by simp) _⟩
  by_cases hl2 : (i.size : Int) ≤ 1048576
  case neg =>
    obtain ⟨W3, hW3⟩ : ∃ W, (w.alloc (.cells #[.int .i64 f, .int .i64 t, .string i] 47)).alloc (.cells #[.int .i64 g, .int .i64 u, .string j] 47) = W := ⟨_, rfl⟩
    have HT0 : Hid (TA w W3 f t i g u j) := Lib.hid (hW3 ▸ ta_new w f t i g u j)
    have HW3 := Lib.hid hW3
    clear hW3
    go_enter Try.func14, Try.ntmps14
    go_wp2_with fail
    rw [HW3.out]
    obtain ⟨⟨a0, a1, a2, a3, a4, a5, a6⟩, ⟨b0, b1, b2, b3, b4, b5, b6⟩, _⟩ := HT0.out
    go_at_call 37
    refine (szEdit_out f t i 1048576 (by omega) (by omega) (by omega) HIL.out _).mono ?_
    rintro e w1 ⟨rfl, hb1⟩
    clear a0 a1 a2 a3 a4 a5 a6 b0 b1 b2 b3 b4 b5 b6
    have HT1 := Lib.hid (HT0.out.below hb1)
    clear hb1
    obtain ⟨⟨a0, a1, a2, a3, a4, a5, a6⟩, ⟨b0, b1, b2, b3, b4, b5, b6⟩, _⟩ := HT1.out
    go_wp2_with fail
    go_ret
    exact ⟨rfl, HT1.out.bel⟩
  by_cases hl3 : (j.size : Int) ≤ 1048576 - i.size
  case neg =>
    obtain ⟨W3, hW3⟩ : ∃ W, (w.alloc (.cells #[.int .i64 f, .int .i64 t, .string i] 47)).alloc (.cells #[.int .i64 g, .int .i64 u, .string j] 47) = W := ⟨_, rfl⟩
    have HT0 : Hid (TA w W3 f t i g u j) := Lib.hid (hW3 ▸ ta_new w f t i g u j)
    have HW3 := Lib.hid hW3
    clear hW3
    go_enter Try.func14, Try.ntmps14
    go_wp2_with fail
    rw [HW3.out]
    obtain ⟨⟨a0, a1, a2, a3, a4, a5, a6⟩, ⟨b0, b1, b2, b3, b4, b5, b6⟩, _⟩ := HT0.out
    go_at_call 37
    refine (szEdit_in f t i 1048576 (by omega) (by omega) _).mono ?_
    rintro e w1 ⟨rfl, hb1⟩
    clear a0 a1 a2 a3 a4 a5 a6 b0 b1 b2 b3 b4 b5 b6
    have HT1 := Lib.hid (HT0.out.below hb1)
    clear hb1
    obtain ⟨⟨a0, a1, a2, a3, a4, a5, a6⟩, ⟨b0, b1, b2, b3, b4, b5, b6⟩, _⟩ := HT1.out
    go_wp2_with fail
    go_at_call 37
    refine (szEdit_out g u j (1048576 - i.size) (by omega) (by omega) (by omega) HJL.out _).mono ?_
    rintro e w2 ⟨rfl, hb2⟩
    clear a0 a1 a2 a3 a4 a5 a6 b0 b1 b2 b3 b4 b5 b6
    have HT2 := Lib.hid (HT1.out.below hb2)
    clear hb2
    obtain ⟨⟨a0, a1, a2, a3, a4, a5, a6⟩, ⟨b0, b1, b2, b3, b4, b5, b6⟩, _⟩ := HT2.out
    go_wp2_with fail
    go_ret
    exact ⟨rfl, HT2.out.bel⟩
  have hn1 : ¬ (1048576 : Int) - i.size < 0 := by omega
  have hn2 : ¬ (1048576 : Int) - i.size - j.size < 0 := by omega
  rcases hb : trB s g u j f t i false with _ | _
  case false =>
    have HB := Lib.hid hb
    clear hb
    obtain ⟨W3, hW3⟩ : ∃ W, (w.alloc (.cells #[.int .i64 f, .int .i64 t, .string i] 47)).alloc (.cells #[.int .i64 g, .int .i64 u, .string j] 47) = W := ⟨_, rfl⟩
    have HT0 : Hid (TA w W3 f t i g u j) := Lib.hid (hW3 ▸ ta_new w f t i g u j)
    have HW3 := Lib.hid hW3
    clear hW3
    go_enter Try.func14, Try.ntmps14
    go_wp2_with fail
    rw [HW3.out]
    obtain ⟨⟨a0, a1, a2, a3, a4, a5, a6⟩, ⟨b0, b1, b2, b3, b4, b5, b6⟩, _⟩ := HT0.out
    go_at_call 37
    refine (szEdit_in f t i 1048576 (by omega) (by omega) _).mono ?_
    rintro e w1 ⟨rfl, hb1⟩
    clear a0 a1 a2 a3 a4 a5 a6 b0 b1 b2 b3 b4 b5 b6
    have HT1 := Lib.hid (HT0.out.below hb1)
    clear hb1
    obtain ⟨⟨a0, a1, a2, a3, a4, a5, a6⟩, ⟨b0, b1, b2, b3, b4, b5, b6⟩, _⟩ := HT1.out
    go_wp2_with fail
    go_at_call 37
    refine (szEdit_in g u j (1048576 - i.size) (by omega) (by omega) _).mono ?_
    rintro e w2 ⟨rfl, hb2⟩
    clear a0 a1 a2 a3 a4 a5 a6 b0 b1 b2 b3 b4 b5 b6
    have HT2 := Lib.hid (HT1.out.below hb2)
    clear hb2
    obtain ⟨⟨a0, a1, a2, a3, a4, a5, a6⟩, ⟨b0, b1, b2, b3, b4, b5, b6⟩, _⟩ := HT2.out
    go_wp2_with fail
    go_cut [8, 9] (fun s8 s9 wx => s8 = .string ⟨#[]⟩ ∧ s9 = .bool false ∧ Hid (TA w wx f t i g u j))
    case first =>
      have HTd := Lib.hid HT2.out.drew
      go_region_held3 (fun w' => w'.cell? ⟨w.heap.size, 0, none⟩ = some (.int .i64 f) ∧ w'.cell? ⟨w.heap.size, 1, none⟩ = some (.int .i64 t) ∧ w'.cell? ⟨w.heap.size, 2, none⟩ = some (.string i) ∧ w'.cell? ⟨w.heap.size + 1, 0, none⟩ = some (.int .i64 g) ∧ w'.cell? ⟨w.heap.size + 1, 1, none⟩ = some (.int .i64 u) ∧ w'.cell? ⟨w.heap.size + 1, 2, none⟩ = some (.string j)) (first | go_keep | go_simp)
        (first | (go_at_call_of 38 (Value.agg #[.int IntKind.i64 f, .int IntKind.i64 t, .string i]); refine (toEdit_any _ _ _ _).mono ?_; rintro e w7 ⟨rfl, hb7⟩; have HT7 := Lib.hid (HTd.out.below hb7); clear hb7; obtain ⟨⟨x0p, x1p, x2p, x3p, x4p, x5p, x6p⟩, ⟨y0p, y1p, y2p, y3p, y4p, y5p, y6p⟩, _⟩ := HT7.out) | (go_at_call_of 38 (Value.agg #[.int IntKind.i64 g, .int IntKind.i64 u, .string j]); refine (toEdit_any _ _ _ _).mono ?_; rintro e w8 ⟨rfl, hb8⟩; have HT8 := Lib.hid (HT7.out.below hb8); clear hb8; obtain ⟨⟨x0q, x1q, x2q, x3q, x4q, x5q, x6q⟩, ⟨y0q, y1q, y2q, y3q, y4q, y5q, y6q⟩, _⟩ := HT8.out) | (go_at_call 27; refine (mergeEdits_spec_no s f t i g u j HB.out HSL.out HIL.out HJL.out _).mono ?_; rintro e w9 ⟨rfl, hb9⟩; have HT9 := Lib.hid (HT8.out.below hb9); clear hb9; obtain ⟨⟨x0r, x1r, x2r, x3r, x4r, x5r, x6r⟩, ⟨y0r, y1r, y2r, y3r, y4r, y5r, y6r⟩, _⟩ := HT9.out))
      all_goals
        go_wp2_with fail
        go_meet
        exact ⟨rfl, rfl, HT9⟩
    case rest =>
      obtain ⟨rfl, rfl, HTc⟩ := hcut
      clear a0 a1 a2 a3 a4 a5 a6 b0 b1 b2 b3 b4 b5 b6
      obtain ⟨⟨a0, a1, a2, a3, a4, a5, a6⟩, ⟨b0, b1, b2, b3, b4, b5, b6⟩, _⟩ := HTc.out
      go_wp2_with fail
      go_cut [10, 11] (fun s8 s9 wx => s8 = .string ⟨#[]⟩ ∧ s9 = .bool false ∧ Hid (TA w wx f t i g u j))
      case first =>
        have HTd := Lib.hid HTc.out.drew
        go_region_held3 (fun w' => w'.cell? ⟨w.heap.size, 0, none⟩ = some (.int .i64 f) ∧ w'.cell? ⟨w.heap.size, 1, none⟩ = some (.int .i64 t) ∧ w'.cell? ⟨w.heap.size, 2, none⟩ = some (.string i) ∧ w'.cell? ⟨w.heap.size + 1, 0, none⟩ = some (.int .i64 g) ∧ w'.cell? ⟨w.heap.size + 1, 1, none⟩ = some (.int .i64 u) ∧ w'.cell? ⟨w.heap.size + 1, 2, none⟩ = some (.string j)) (first | go_keep | go_simp)
          (first | (go_at_call_of 38 (Value.agg #[.int IntKind.i64 f, .int IntKind.i64 t, .string i]); refine (toEdit_any _ _ _ _).mono ?_; rintro e w7 ⟨rfl, hb7⟩; have HT7 := Lib.hid (HTd.out.below hb7); clear hb7; obtain ⟨⟨x0p, x1p, x2p, x3p, x4p, x5p, x6p⟩, ⟨y0p, y1p, y2p, y3p, y4p, y5p, y6p⟩, _⟩ := HT7.out) | (go_at_call_of 38 (Value.agg #[.int IntKind.i64 g, .int IntKind.i64 u, .string j]); refine (toEdit_any _ _ _ _).mono ?_; rintro e w8 ⟨rfl, hb8⟩; have HT8 := Lib.hid (HT7.out.below hb8); clear hb8; obtain ⟨⟨x0q, x1q, x2q, x3q, x4q, x5q, x6q⟩, ⟨y0q, y1q, y2q, y3q, y4q, y5q, y6q⟩, _⟩ := HT8.out) | (go_at_call 26; refine (mergeEdits_impl_no s f t i g u j HB.out HSL.out HIL.out HJL.out _).mono ?_; rintro e w9 ⟨rfl, hb9⟩; have HT9 := Lib.hid (HT8.out.below hb9); clear hb9; obtain ⟨⟨x0r, x1r, x2r, x3r, x4r, x5r, x6r⟩, ⟨y0r, y1r, y2r, y3r, y4r, y5r, y6r⟩, _⟩ := HT9.out))
        all_goals
          go_wp2_with fail
          go_meet
          exact ⟨rfl, rfl, HT9⟩
      case rest =>
        obtain ⟨rfl, rfl, HTe⟩ := hcut
        clear a0 a1 a2 a3 a4 a5 a6 b0 b1 b2 b3 b4 b5 b6
        go_wp2_with fail
        go_ret
        exact ⟨rfl, HTe.out.bel⟩
  case true =>
    have HB := Lib.hid hb
    obtain ⟨p, hp⟩ : ∃ p, g + mv g u f t i false = p := ⟨_, rfl⟩
    obtain ⟨q, hq⟩ : ∃ q, u + mv g u f t i false = q := ⟨_, rfl⟩
    obtain ⟨z, hz⟩ : ∃ z, ap (ap s f t i) p q j = z := ⟨_, rfl⟩
    have HP := Lib.hid hp
    have HQ := Lib.hid hq
    have HZ := Lib.hid hz
    clear hb hp hq hz
    obtain ⟨W3, hW3⟩ : ∃ W, (w.alloc (.cells #[.int .i64 f, .int .i64 t, .string i] 47)).alloc (.cells #[.int .i64 g, .int .i64 u, .string j] 47) = W := ⟨_, rfl⟩
    have HT0 : Hid (TA w W3 f t i g u j) := Lib.hid (hW3 ▸ ta_new w f t i g u j)
    have HW3 := Lib.hid hW3
    clear hW3
    go_enter Try.func14, Try.ntmps14
    go_wp2_with fail
    rw [HW3.out]
    obtain ⟨⟨a0, a1, a2, a3, a4, a5, a6⟩, ⟨b0, b1, b2, b3, b4, b5, b6⟩, _⟩ := HT0.out
    go_at_call 37
    refine (szEdit_in f t i 1048576 (by omega) (by omega) _).mono ?_
    rintro e w1 ⟨rfl, hb1⟩
    clear a0 a1 a2 a3 a4 a5 a6 b0 b1 b2 b3 b4 b5 b6
    have HT1 := Lib.hid (HT0.out.below hb1)
    clear hb1
    obtain ⟨⟨a0, a1, a2, a3, a4, a5, a6⟩, ⟨b0, b1, b2, b3, b4, b5, b6⟩, _⟩ := HT1.out
    go_wp2_with fail
    go_at_call 37
    refine (szEdit_in g u j (1048576 - i.size) (by omega) (by omega) _).mono ?_
    rintro e w2 ⟨rfl, hb2⟩
    clear a0 a1 a2 a3 a4 a5 a6 b0 b1 b2 b3 b4 b5 b6
    have HT2 := Lib.hid (HT1.out.below hb2)
    clear hb2
    obtain ⟨⟨a0, a1, a2, a3, a4, a5, a6⟩, ⟨b0, b1, b2, b3, b4, b5, b6⟩, _⟩ := HT2.out
    go_wp2_with fail
    go_cut [8, 9] (fun s8 s9 wx => s8 = .string z ∧ s9 = .bool true ∧ Hid (TA w wx f t i g u j))
    case first =>
      have HTd := Lib.hid HT2.out.drew
      go_region_held3 (fun w' => w'.cell? ⟨w.heap.size, 0, none⟩ = some (.int .i64 f) ∧ w'.cell? ⟨w.heap.size, 1, none⟩ = some (.int .i64 t) ∧ w'.cell? ⟨w.heap.size, 2, none⟩ = some (.string i) ∧ w'.cell? ⟨w.heap.size + 1, 0, none⟩ = some (.int .i64 g) ∧ w'.cell? ⟨w.heap.size + 1, 1, none⟩ = some (.int .i64 u) ∧ w'.cell? ⟨w.heap.size + 1, 2, none⟩ = some (.string j)) (first | go_keep | go_simp)
        (first | (go_at_call_of 38 (Value.agg #[.int IntKind.i64 f, .int IntKind.i64 t, .string i]); refine (toEdit_any _ _ _ _).mono ?_; rintro e w7 ⟨rfl, hb7⟩; have HT7 := Lib.hid (HTd.out.below hb7); clear hb7; obtain ⟨⟨x0p, x1p, x2p, x3p, x4p, x5p, x6p⟩, ⟨y0p, y1p, y2p, y3p, y4p, y5p, y6p⟩, _⟩ := HT7.out) | (go_at_call_of 38 (Value.agg #[.int IntKind.i64 g, .int IntKind.i64 u, .string j]); refine (toEdit_any _ _ _ _).mono ?_; rintro e w8 ⟨rfl, hb8⟩; have HT8 := Lib.hid (HT7.out.below hb8); clear hb8; obtain ⟨⟨x0q, x1q, x2q, x3q, x4q, x5q, x6q⟩, ⟨y0q, y1q, y2q, y3q, y4q, y5q, y6q⟩, _⟩ := HT8.out) | (go_at_call 27; refine (mergeEdits_spec_yes s f t i g u j p q z HB.out HP.out HQ.out HZ.out _).mono ?_; rintro e w9 ⟨rfl, hb9⟩; have HT9 := Lib.hid (HT8.out.below hb9); clear hb9; obtain ⟨⟨x0r, x1r, x2r, x3r, x4r, x5r, x6r⟩, ⟨y0r, y1r, y2r, y3r, y4r, y5r, y6r⟩, _⟩ := HT9.out))
      all_goals
        go_wp2_with fail
        go_meet
        exact ⟨rfl, rfl, HT9⟩
    case rest =>
      obtain ⟨rfl, rfl, HTc⟩ := hcut
      clear a0 a1 a2 a3 a4 a5 a6 b0 b1 b2 b3 b4 b5 b6
      obtain ⟨⟨a0, a1, a2, a3, a4, a5, a6⟩, ⟨b0, b1, b2, b3, b4, b5, b6⟩, _⟩ := HTc.out
      go_wp2_with fail
      go_cut [10, 11] (fun s8 s9 wx => s8 = .string z ∧ s9 = .bool true ∧ Hid (TA w wx f t i g u j))
      case first =>
        have HTd := Lib.hid HTc.out.drew
        go_region_held3 (fun w' => w'.cell? ⟨w.heap.size, 0, none⟩ = some (.int .i64 f) ∧ w'.cell? ⟨w.heap.size, 1, none⟩ = some (.int .i64 t) ∧ w'.cell? ⟨w.heap.size, 2, none⟩ = some (.string i) ∧ w'.cell? ⟨w.heap.size + 1, 0, none⟩ = some (.int .i64 g) ∧ w'.cell? ⟨w.heap.size + 1, 1, none⟩ = some (.int .i64 u) ∧ w'.cell? ⟨w.heap.size + 1, 2, none⟩ = some (.string j)) (first | go_keep | go_simp)
          (first | (go_at_call_of 38 (Value.agg #[.int IntKind.i64 f, .int IntKind.i64 t, .string i]); refine (toEdit_any _ _ _ _).mono ?_; rintro e w7 ⟨rfl, hb7⟩; have HT7 := Lib.hid (HTd.out.below hb7); clear hb7; obtain ⟨⟨x0p, x1p, x2p, x3p, x4p, x5p, x6p⟩, ⟨y0p, y1p, y2p, y3p, y4p, y5p, y6p⟩, _⟩ := HT7.out) | (go_at_call_of 38 (Value.agg #[.int IntKind.i64 g, .int IntKind.i64 u, .string j]); refine (toEdit_any _ _ _ _).mono ?_; rintro e w8 ⟨rfl, hb8⟩; have HT8 := Lib.hid (HT7.out.below hb8); clear hb8; obtain ⟨⟨x0q, x1q, x2q, x3q, x4q, x5q, x6q⟩, ⟨y0q, y1q, y2q, y3q, y4q, y5q, y6q⟩, _⟩ := HT8.out) | (go_at_call 26; refine (mergeEdits_impl_yes s f t i g u j p q z HB.out HP.out HQ.out HZ.out _).mono ?_; rintro e w9 ⟨rfl, hb9⟩; have HT9 := Lib.hid (HT8.out.below hb9); clear hb9; obtain ⟨⟨x0r, x1r, x2r, x3r, x4r, x5r, x6r⟩, ⟨y0r, y1r, y2r, y3r, y4r, y5r, y6r⟩, _⟩ := HT9.out))
        all_goals
          go_wp2_with fail
          go_meet
          exact ⟨rfl, rfl, HT9⟩
      case rest =>
        obtain ⟨rfl, rfl, HTe⟩ := hcut
        clear a0 a1 a2 a3 a4 a5 a6 b0 b1 b2 b3 b4 b5 b6
        go_wp2_with fail
        go_ret
        exact ⟨rfl, HTe.out.bel⟩

set_option maxRecDepth 100000 in
theorem lifted (os : Os) (started : os.Started) (H : Type) (enc : TypeId × Value → H) :
    ReturnsInHanded {} Try.checked os 14 .any (Rows.fnExactMergeEditsSpec.pre6 enc Try.prog Try.f14 Rows.fnExactMergeEditsRow.domain false) (Rows.fnExactMergeEditsSpec.post enc Try.prog Try.f14 false true false false) := by
  refine returnsInHanded_of_change (C := Try.checked) own started (by kernel_rfl) Try.func14
    (ChangeSpec.witness6 (enc := enc) (C := Try.checked) false ⟨#[], #[.string ⟨#[]⟩, .agg #[.int .i64 0, .int .i64 0, .string ⟨#[]⟩], .agg #[.int .i64 0, .int .i64 0, .string ⟨#[]⟩]], []⟩ 8 (by kernel_rfl) (by kernel_rfl) (by kernel_rfl) (by kernel_rfl)) ?_
  intro W base args ds gs before hval0 hW hcnd _
  have hval : ∀ (j : Nat) t v, Try.f14.params[j]? = some t → args[j]? = some v → Value.okWide Try.prog W .any base t v := hval0
  have hW' := hW
  obtain ⟨p, q, hA0, hV, rfl, hfz, hnd⟩ := hW
  have hA : DataW.TrodAll enc Try.prog W 0 (fun _ => true) true Try.f14.params.toList args.toList ds p := hA0
  rw [Try.params14] at hA hval
  obtain ⟨v0, vs0, d0, ds0, p0, q0, hargs, rfl, rfl, h0, r0⟩ := trodAll_cons hA
  obtain ⟨v1, vs1, d1, ds1, p1, q1, rfl, rfl, rfl, h1, r1⟩ := trodAll_cons r0
  obtain ⟨v2, vs2, d2, ds2, p2, q2, rfl, rfl, rfl, h2, r2⟩ := trodAll_cons r1
  obtain ⟨rfl, rfl, rfl⟩ := trodAll_nil r2
  obtain rfl : args = #[v0, v1, v2] := by cases args; simp_all
  obtain ⟨rfl, rfl⟩ := trodVars_none hV
  have k0 := h0
  have lt0 : ∀ x ∈ p0, x.block < W.heap.size := by obtain ⟨m, hm⟩ := k0; exact DataW.trod_lt m _ _ _ hm
  have k1 := h1
  have lt1 : ∀ x ∈ p1, x.block < W.heap.size := by obtain ⟨m, hm⟩ := k1; exact DataW.trod_lt m _ _ _ hm
  have k2 := h2
  have lt2 : ∀ x ∈ p2, x.block < W.heap.size := by obtain ⟨m, hm⟩ := k2; exact DataW.trod_lt m _ _ _ hm
  obtain ⟨a0, rfl, rfl, rfl, w0⟩ := open_string Try.underlying9 (hval 0 9 v0 rfl rfl) h0
  obtain ⟨c10, c11, c12, y10, y11, y12, m1, rfl, rfl, rfl, hy10, hy11, hy12⟩ := open_agg3 Try.underlying47 (by kernel_rfl) (by kernel_rfl) (hval 1 47 v1 rfl rfl) h1
  obtain ⟨f1, e10, rfl, wf1⟩ := DataW.trod_int Try.underlying3 hy10
  obtain ⟨t1, e11, rfl, wt1⟩ := DataW.trod_int Try.underlying3 hy11
  obtain ⟨i1, e12, rfl, wi1⟩ := DataW.trod_string Try.underlying9 hy12
  simp at e10 e11 e12
  subst e10 e11 e12
  obtain ⟨c20, c21, c22, y20, y21, y22, m2, rfl, rfl, rfl, hy20, hy21, hy22⟩ := open_agg3 Try.underlying47 (by kernel_rfl) (by kernel_rfl) (hval 2 47 v2 rfl rfl) h2
  obtain ⟨f2, e20, rfl, wf2⟩ := DataW.trod_int Try.underlying3 hy20
  obtain ⟨t2, e21, rfl, wt2⟩ := DataW.trod_int Try.underlying3 hy21
  obtain ⟨i2, e22, rfl, wi2⟩ := DataW.trod_string Try.underlying9 hy22
  simp at e20 e21 e22
  subst e20 e21 e22
  clear hA0 hval0
  refine (walk a0 f1 t1 i1 f2 t2 i2 W w0 wf1 wt1 wi1 wf2 wt2 wi2).mono fun e W' ⟨he, bel⟩ => ?_
  subst he
  exact ⟨_, rfl, _, _, _, [], _, [], hW', trodAll_mk1 (shut_bool Try.underlying4 _), (trodAll_cons_mk (Below.trod laidOut (by kernel_rfl) (of_decide_eq_true (by kernel_rfl)) k0 bel lt0) (trodAll_cons_mk (Below.trod laidOut (by kernel_rfl) (of_decide_eq_true (by kernel_rfl)) k1 bel lt1) (trodAll_cons_mk (Below.trod laidOut (by kernel_rfl) (of_decide_eq_true (by kernel_rfl)) k2 bel lt2) trodAll_mk0))), rfl, bel.frame _, fun h => by cases h⟩

theorem over : Rows.fnExactMergeEditsRow.holds Try.pinned (OpenSpec.ofChange Rows.fnExactMergeEditsSpec) :=
  OpenClaim.holds_of_wide 14 Try.f14 rfl rfl rfl rfl rfl rfl rfl ⟨rfl, rfl, rfl, rfl, rfl⟩ rfl rfl rfl rfl rfl (by kernel_rfl) Try.func14 (by kernel_rfl)
    (of_decide_eq_true (by kernel_rfl)) (by unfold Func.isWrapper; first | (rw [if_pos (by decide +kernel)]; kernel_rfl) | (rw [if_neg (by decide +kernel)]; exact ⟨rfl, rfl⟩))
    (fun os started H enc _ => lifted os started H enc)

/-- The given statement. -/
theorem proved : Rows.FnExactMergeEditsSaid := over
end Go.Proofs.Ytdicfjgdceacpaa.fnExactMergeEdits
