/-
  What the draws of two texts and of two edits return. Nothing that was in memory changes.
  Conditions: the bytes that are drawn from can be read.
-/
import Derived.Test.YthannbkkpocejaaProg
import Derived.Test.YthannbkkpocejaaUd
import Derived.Test.YthannbkkpocejaaUe
namespace Go.Proofs.Ythannbkkpocejaa
open Go.RowKit

theorem applyEdit_spec_at0 (s : ByteArray) (f t : Int) (i y : ByteArray) (hb : fitsB s f t i = true) (hy : ap s f t i = y) (w : World) :
    Calls Try.prog 17 #[.string s, .agg #[.int .i64 f, .int .i64 t, .string i]] w fun e w' => e = .returned (.tuple #[.string y, .bool true]) ∧ Below w.heap.size w w' := by
  subst hy; exact applyEdit_spec_yes s f t i hb w
/-- What the draw of two texts leaves. -/
def TwoPost (w : World) (e : Ending) (w' : World) : Prop :=
  ∃ s x : ByteArray, s.size ≤ 2010 ∧ x.size ≤ 2010 ∧ e = .returned (.tuple #[.string s, .string x]) ∧ Below w.heap.size w w'

set_option maxHeartbeats 2000000 in
theorem drawDiffEdit_any (a : Option Addr) (len cap : Nat) (zs : List Int) (w : World) (h : IsRow w a len cap zs) :
    Calls Try.prog 19 #[.slice a len cap] w (TwoPost w) := by
  have HRow := Lib.hid h
  clear h
  go_enter Try.func19, Try.ntmps19
  go_wp2_with fail
  go_at_call 37
  refine (l16Open_any a len cap zs _ HRow.out).mono ?_
  rintro e w1 ⟨len1, cap1, rfl, hr1, hb1⟩
  have HR1 := Lib.hid hr1
  have HB1 := Lib.hid hb1
  clear hr1 hb1
  go_wp2_with fail
  go_at_call 38
  refine (l1Text_any _ _ _ _ _ _ _ HR1.out (by omega)).mono ?_
  rintro e w2 ⟨s, hs, rfl, hd2, hr2⟩
  have Hsz := Lib.hid hs
  have HR2 := Lib.hid hr2
  have HB2 : Hid (Below w.heap.size w w2) := Lib.hid (HB1.out.trans (hd2.below (by omega) (HB1.out.size)))
  clear hd2 hr2
  go_wp2_with fail
  go_at_call 39
  refine (l1Edit_any _ _ _ _ _ _ s w2 HR2.out (by omega) hs).mono ?_
  rintro e w3 ⟨f, t, i, r3, hi, hr3b, rfl, hd3, hr3⟩
  have HR3 := Lib.hid hr3
  have HB3 : Hid (Below w.heap.size w w3) := Lib.hid (HB2.out.trans (hd3.below (Nat.le_refl _) HB2.out.size))
  have HSL : Hid (s.size ≤ maxLen) := Lib.hid (by unfold maxLen; omega)
  have HIL : Hid (i.size ≤ maxLen) := Lib.hid (by unfold maxLen; omega)
  clear hd3 hr3 hs hi
  rcases hfit : fitsB s f t i with _ | _
  · have HF := Lib.hid hfit
    clear hfit
    go_wp2_with fail
    go_at_call 17
    refine (applyEdit_spec_no s f t i HF.out HSL.out HIL.out _).mono ?_
    rintro e w4 ⟨rfl, hb4⟩
    have HR4 := Lib.hid (HR3.out.kept (hb4.mono HR3.out.big))
    have HB4 := Lib.hid (HB3.out.trans (hb4.mono HB3.out.size))
    clear hb4
    go_wp2_with fail
    go_at_call 38
    refine (l1Text_any _ _ _ _ _ _ _ HR4.out (by omega)).mono ?_
    rintro e w5 ⟨x, hx, rfl, hd5, hr5⟩
    have Hxz := Lib.hid hx
    have HR5 := Lib.hid hr5
    have HB5 : Hid (Below w.heap.size w w5) := Lib.hid (HB4.out.trans (hd5.below (by omega) (HB4.out.size)))
    clear hd5 hr5 hx
    go_wp2_with fail
    go_ret2
    exact ⟨s, x, Hsz.out, Hxz.out, rfl, HB5.out⟩
  · have HF := Lib.hid hfit
    obtain ⟨y, hy⟩ : ∃ y, ap s f t i = y := ⟨_, rfl⟩
    have hyz := tv_size (tv_ap' hfit)
    rw [hy] at hyz
    have HY := Lib.hid hy
    have HYZ := Lib.hid hyz
    clear hfit hy hyz
    go_wp2_with fail
    go_at_call 17
    refine (applyEdit_spec_at0 s f t i y HF.out HY.out _).mono ?_
    rintro e w4 ⟨rfl, hb4⟩
    have HR4 := Lib.hid (HR3.out.kept (hb4.mono HR3.out.big))
    have HB4 := Lib.hid (HB3.out.trans (hb4.mono HB3.out.size))
    clear hb4
    go_wp2_with fail
    go_at_call 40
    refine (pick_any _ _ _ _ _ _ 4 _ HR4.out (by omega) (by omega) (by omega)).mono ?_
    rintro e w5 ⟨q, hq, rfl, k5, hw5⟩
    have HR5 := Lib.hid (HR4.out.picked hw5)
    have HB5 : Hid (Below w.heap.size w w5) := Lib.hid (HB4.out.trans ((Dw.pick hw5).below (Nat.le_refl _) HB4.out.size))
    clear hw5
    by_cases hq0 : q = 0
    · subst hq0
      go_wp2_with fail
      go_at_call 38
      refine (l1Text_any _ _ _ _ _ _ _ HR5.out (by omega)).mono ?_
      rintro e w6 ⟨x, hx, rfl, hd6, hr6⟩
      have Hxz := Lib.hid hx
      have HR6 := Lib.hid hr6
      have HB6 : Hid (Below w.heap.size w w6) := Lib.hid (HB5.out.trans (hd6.below (by omega) (HB5.out.size)))
      clear hd6 hr6 hx
      go_wp2_with fail
      go_ret2
      exact ⟨s, x, Hsz.out, Hxz.out, rfl, HB6.out⟩
    · have e0 : ((q : Int) == 0) = false := by simp; omega
      clear hq0
      go_wp2_with fail
      go_ret2
      exact ⟨s, y, Hsz.out, Nat.le_trans HYZ.out (by omega), rfl, HB5.out⟩

end Go.Proofs.Ythannbkkpocejaa
