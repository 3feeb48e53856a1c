/-
  The exact laws' functions that compare, mark and look at a base without answers.
-/
import Derived.Test.YtkekghdkbbjhpaaDoorJc
namespace Go.Proofs.YtkekghdkbbjhpaaDoor
open Go.RowKit
set_option linter.unusedVariables false
set_option linter.unusedSimpArgs false

set_option maxRecDepth 100000 in
set_option maxHeartbeats 1000000 in
theorem eqBase_same (fs : List Fl) (zs : List Int) (n n1 n2 : Nat) (fa fb ia ib : Option Addr) (fc gc ic jc : Nat) (w : World) (hn : fs.length = n) (hm : zs.length = n) (hl : n ≤ 4)
    (h1 : FsAt w fs (.slice fa n fc)) (h2 : FsAt w fs (.slice fb n gc)) (h3 : IntsAt w n1 (.slice ia n ic) zs) (h4 : IntsAt w n2 (.slice ib n jc) zs) :
    Calls Tryd.prog 14 #[.agg #[.slice fa n fc, .slice ia n ic, .int .i64 0, .slice none 0 0, .int .i64 0], .agg #[.slice fb n gc, .slice ib n jc, .int .i64 0, .slice none 0 0, .int .i64 0]] w fun e w' => e = .returned (.bool true) ∧ Below w.heap.size w w' := by
  have hA : Below w.heap.size w ((w.alloc (.cells #[.slice fa n fc, .slice ia n ic, .int .i64 0, .slice none 0 0, .int .i64 0] 33)).alloc (.cells #[.slice fb n gc, .slice ib n jc, .int .i64 0, .slice none 0 0, .int .i64 0] 33)) := ((Below.refl _ _).alloc (Nat.le_refl _) _).alloc (by rw [World.size_alloc]; omega) _
  have X1 := Lib.hid ((Bx.new w (.slice fa n fc) (.slice ia n ic)).kept ((Below.refl _ _).alloc (Nat.le_refl _) (.cells #[.slice fb n gc, .slice ib n jc, .int .i64 0, .slice none 0 0, .int .i64 0] 33)))
  have hX2 := Bx.new (w.alloc (.cells #[.slice fa n fc, .slice ia n ic, .int .i64 0, .slice none 0 0, .int .i64 0] 33)) (.slice fb n gc) (.slice ib n jc)
  rw [World.size_alloc] at hX2
  have X2 := Lib.hid hX2
  have H1 := Lib.hid (h1.kept hA)
  have H2 := Lib.hid (h2.kept hA)
  have H3 := Lib.hid (ints_below h3 hA)
  have H4 := Lib.hid (ints_below h4 hA)
  have HA := Lib.hid hA
  have HL : Hid ((fs.length : Int) ≤ 1048576) := Lib.hid (by rw [hn]; omega)
  have HM : Hid (zs.length ≤ 1000000) := Lib.hid (by rw [hm]; omega)
  clear h1 h2 h3 h4 hA hX2 hn hm
  go_enter Tryd.func14, Tryd.ntmps14
  go_wp2_with fail
  go_at_call 11
  refine (eqFileS_any fs _ _ _ HL.out H1.out H2.out).mono ?_
  rintro e w1 ⟨rfl, hb1⟩
  have HB1 := Lib.hid (HA.out.trans (hb1.mono HA.out.size))
  have H31 := Lib.hid (ints_below H3.out hb1)
  have H41 := Lib.hid (ints_below H4.out hb1)
  have X11 := Lib.hid (X1.out.kept hb1)
  have X21 := Lib.hid (X2.out.kept hb1)
  clear hb1
  obtain ⟨p0, p1, p2, p3, p4, _, _, _, _, _, _⟩ := X11.out
  obtain ⟨q0, q1, q2, q3, q4, _, _, _, _, _, _⟩ := X21.out
  go_wp2_with fail
  go_at_call 34
  refine (eqIntS_same _ _ zs HM.out _ _ _ H31.out H41.out).mono ?_
  rintro e w2 ⟨rfl, hb2⟩
  have HB2 := Lib.hid (HB1.out.trans (hb2.mono HB1.out.size))
  have X12 := Lib.hid (X11.out.kept hb2)
  have X22 := Lib.hid (X21.out.kept hb2)
  clear hb2 p0 p1 p2 p3 p4 q0 q1 q2 q3 q4
  obtain ⟨p0, p1, p2, p3, p4, _, _, _, _, _, _⟩ := X12.out
  obtain ⟨q0, q1, q2, q3, q4, _, _, _, _, _, _⟩ := X22.out
  go_wp2_with fail
  go_at_call 35
  refine (eqMemoS_none _).mono ?_
  rintro e w3 ⟨rfl, rfl⟩
  go_wp2_with fail
  go_ret
  exact ⟨rfl, HB2.out⟩
set_option maxRecDepth 100000 in
set_option maxHeartbeats 1000000 in
theorem markBase_any (fs : List Fl) (zs : List Int) (n K : Nat) (fa ia : Option Addr) (fc ic lf hf li hi lo up : Nat) (w : World) (hn : fs.length = n) (hm : zs.length = n) (hl : n ≤ 4) (hK : 0 < K ∧ K ≤ 1000)
    (h1 : FO w lf hf (.slice fa n fc) fs) (h3 : IO w li hi (.slice ia n ic) zs) (hd : hf ≤ li ∨ hi ≤ lf) (b1 : lo ≤ lf) (b2 : lo ≤ li) (b3 : hf ≤ up) (b4 : hi ≤ up) (b5 : up ≤ w.heap.size) :
    Calls Tryd.prog 16 #[.agg #[.slice fa n fc, .slice ia n ic, .int .i64 0, .slice none 0 0, .int .i64 0], .int .i64 K] w fun e w' => e = .returned (.int .i64 ((K + 3 * n : Nat) : Int)) ∧ FO w' lf hf (.slice fa n fc) (mkF K n) ∧ IO w' li hi (.slice ia n ic) (marksI (K + 2 * n) n) ∧ Inside lo up w w' := by
  obtain ⟨hK0, hK1⟩ := hK
  have hA : Below w.heap.size w (w.alloc (.cells #[.slice fa n fc, .slice ia n ic, .int .i64 0, .slice none 0 0, .int .i64 0] 33)) := (Below.refl _ _).alloc (Nat.le_refl _) _
  have X1 := Lib.hid (Bx.new w (.slice fa n fc) (.slice ia n ic))
  have H1 := Lib.hid (h1.kept hA)
  have H3 := Lib.hid (h3.kept hA)
  have HI0 : Hid (Inside lo up w (w.alloc (.cells #[.slice fa n fc, .slice ia n ic, .int .i64 0, .slice none 0 0, .int .i64 0] 33))) := Lib.hid (inside_below hA)
  have HN := Lib.hid hn
  have HM := Lib.hid hm
  have HD := Lib.hid hd
  have HZ : Hid (lo ≤ lf ∧ lo ≤ li ∧ hf ≤ up ∧ hi ≤ up ∧ up ≤ w.heap.size) := Lib.hid ⟨b1, b2, b3, b4, b5⟩
  clear h1 h3 hA hn hm hd b1 b2 b3 b4 b5
  go_enter Tryd.func16, Tryd.ntmps16
  go_wp2_with fail
  go_at_call 15
  refine (markFileS_any lf hf K fs (by rw [HN.out]; omega) ⟨hK0, by omega⟩ _ _ H1.out).mono ?_
  rintro e w1 ⟨rfl, hF1, hI1⟩
  rw [HN.out] at hF1 ⊢
  have HF1 := Lib.hid hF1
  have HI1 := Lib.hid (HI0.out.trans (hI1.wide HZ.out.1 HZ.out.2.2.1))
  have H31 := Lib.hid (H3.out.inside hI1 (by have := HD.out; omega))
  have X11 := Lib.hid (X1.out.inside hI1 (.inr (by have := HZ.out; omega)))
  clear hF1 hI1
  obtain ⟨p0, p1, p2, p3, p4, _, _, _, _, _, _⟩ := X11.out
  go_wp2_with fail
  go_at_call 37
  refine (markIntS_in li hi (K + 2 * n) zs (by rw [HM.out]; omega) (by omega) _ _ H31.out).mono ?_
  rintro e w2 ⟨rfl, hZ2, hI2⟩
  rw [HM.out] at hZ2 ⊢
  have HZ2 := Lib.hid hZ2
  have HI2 := Lib.hid (HI1.out.trans (hI2.wide HZ.out.2.1 HZ.out.2.2.2.1))
  have HF2 := Lib.hid (HF1.out.inside hI2 HD.out)
  have X12 := Lib.hid (X11.out.inside hI2 (.inr (by have := HZ.out; omega)))
  clear hZ2 hI2 p0 p1 p2 p3 p4
  obtain ⟨p0, p1, p2, p3, p4, _, _, _, _, _, _⟩ := X12.out
  go_wp2_with fail
  go_at_call 38
  refine (markMemoS_none _ _).mono ?_
  rintro e w3 ⟨rfl, rfl⟩
  go_wp2_with fail
  go_ret
  exact ⟨ret_i3 (by push_cast; omega), HF2.out, HZ2.out, HI2.out⟩
set_option maxRecDepth 100000 in
set_option maxHeartbeats 1000000 in
theorem heldBase_any (n K n1 : Nat) (fa ia : Option Addr) (fc ic : Nat) (w : World) (hl : n ≤ 4) (hK : 0 < K ∧ K ≤ 1000)
    (h1 : FsAt w (mkF K n) (.slice fa n fc)) (h3 : IntsAt w n1 (.slice ia n ic) (marksI (K + 2 * n) n)) :
    Calls Tryd.prog 17 #[.agg #[.slice fa n fc, .slice ia n ic, .int .i64 0, .slice none 0 0, .int .i64 0], .int .i64 K] w fun e w' => e = .returned (.int .i64 ((K + 3 * n : Nat) : Int)) ∧ Below w.heap.size w w' := by
  obtain ⟨hK0, hK1⟩ := hK
  have hA : Below w.heap.size w (w.alloc (.cells #[.slice fa n fc, .slice ia n ic, .int .i64 0, .slice none 0 0, .int .i64 0] 33)) := (Below.refl _ _).alloc (Nat.le_refl _) _
  have X1 := Lib.hid (Bx.new w (.slice fa n fc) (.slice ia n ic))
  have H1 := Lib.hid (h1.kept hA)
  have H3 := Lib.hid (ints_below h3 hA)
  have HA := Lib.hid hA
  clear h1 h3 hA
  have t1 : ¬ (K : Int) + 2 * (n : Int) < 0 := by omega
  have t2 : ¬ (K : Int) + 2 * (n : Int) + (n : Int) < 0 := by omega
  go_enter Tryd.func17, Tryd.ntmps17
  go_wp2_with fail
  go_at_call 39
  refine (heldFileS_any K n (by omega) ⟨hK0, by omega⟩ _ _ H1.out).mono ?_
  rintro e w1 ⟨rfl, hb1⟩
  have HB1 := Lib.hid (HA.out.trans (hb1.mono HA.out.size))
  have H31 := Lib.hid (ints_below H3.out hb1)
  have X11 := Lib.hid (X1.out.kept hb1)
  clear hb1
  obtain ⟨p0, p1, p2, p3, p4, _, _, _, _, _, _⟩ := X11.out
  go_wp2_with fail
  go_at_call 40
  refine (heldIntS_any _ (K + 2 * n) n (by omega) (by omega) _ _ H31.out).mono ?_
  rintro e w2 ⟨rfl, hb2⟩
  have HB2 := Lib.hid (HB1.out.trans (hb2.mono HB1.out.size))
  have X12 := Lib.hid (X11.out.kept hb2)
  clear hb2 p0 p1 p2 p3 p4
  obtain ⟨p0, p1, p2, p3, p4, _, _, _, _, _, _⟩ := X12.out
  go_wp2_with fail
  go_at_call 41
  refine (heldMemoS_none _ _).mono ?_
  rintro e w3 ⟨rfl, rfl⟩
  go_wp2_with fail
  go_ret
  exact ⟨ret_i3 (by push_cast; omega), HB2.out⟩
end Go.Proofs.YtkekghdkbbjhpaaDoor
