/-
  What the draws of an offset, of two texts and of two edits return. Nothing that was in memory changes.
  Conditions: the bytes that are drawn from can be read.
-/
import Derived.Test.YtiaoopikmkakbaaDoorProg
import Derived.Test.YtiaoopikmkakbaaDoorUd
import Derived.RegionTactic
import Derived.ChangeAlike
namespace Go.Proofs.YtiaoopikmkakbaaDoor
open Go.RowKit

/-- What the draw of a text, an edit and an offset leaves. -/
def OffPost (w : World) (e : Ending) (w' : World) : Prop :=
  ∃ (s : ByteArray) (f t : Int) (i : ByteArray) (n : Int), s.size ≤ 2010 ∧ i.size ≤ 16 ∧ (-1 ≤ n ∧ n ≤ 5000) ∧ e = .returned (.tuple #[.string s, .agg #[.int .i64 f, .int .i64 t, .string i], .int .i64 n]) ∧ Below w.heap.size w w'

set_option maxHeartbeats 2000000 in
theorem drawMoveOffset_any (a : Option Addr) (len cap : Nat) (zs : List Int) (w : World) (h : IsRow w a len cap zs) :
    Calls Tryd.prog 25 #[.slice a len cap] w (OffPost w) := by
  have HRow := Lib.hid h
  clear h
  go_enter Tryd.func25, Tryd.ntmps25
  go_wp2_with fail
  go_at_call 30
  refine (l16Open_any a len cap zs _ (HRow.out.kept ((Below.refl _ _).alloc (Nat.le_refl _) _))).mono ?_
  rintro e w1 ⟨len1, cap1, rfl, hr1, hb1⟩
  (try rw [size_alloc1] at hr1)
  (try rw [size_alloc1] at hr1)
  have HR1 := Lib.hid hr1
  have HB1 : Hid (Below w.heap.size w w1) := Lib.hid (((Below.refl _ _).alloc (Nat.le_refl _) _).trans (hb1.mono (by simp)))
  have HQ1 : Hid (EdAt w1 w.heap.size 0 0 ⟨#[]⟩) := Lib.hid ((edAt_new w 0 0 ⟨#[]⟩ 45).below hb1)
  have hz1 : w.heap.size + 1 ≤ w1.heap.size := by have := hb1.size; simpa using this
  clear hr1 hb1
  have hne : ¬ w.heap.size = w.heap.size + 1 := by omega
  go_wp2_with fail
  go_at_call 31
  refine (l1Text_any _ _ _ _ _ 0 w1 HR1.out (by omega)).mono ?_
  rintro e w2 ⟨s, hs, rfl, hd2, hr2⟩
  have HS := Lib.hid hs
  have HR2 := Lib.hid hr2
  have HB2 : Hid (Below w.heap.size w w2) := Lib.hid (HB1.out.trans (hd2.below (by omega) (by omega)))
  have HQ2 := Lib.hid (HQ1.out.kept hd2 hne)
  have hz2 : w.heap.size + 1 ≤ w2.heap.size := Nat.le_trans hz1 hd2.size
  clear hd2 hr2
  go_wp2_with fail
  go_at_call 37
  refine (l1Edit_any _ _ _ _ _ _ s w2 HR2.out (by omega) hs).mono ?_
  rintro e w3 ⟨f, t, i, r3, hi, hr3b, rfl, hd3, hr3⟩
  have HI := Lib.hid hi
  have HR3 := Lib.hid hr3
  have HB3 : Hid (Below w.heap.size w w3) := Lib.hid (HB2.out.trans (hd3.below (by omega) (by omega)))
  have HQ3 := Lib.hid (HQ2.out.kept hd3 hne)
  have hz3 : w.heap.size + 1 ≤ w3.heap.size := Nat.le_trans hz2 hd3.size
  clear hd3 hr3 hi hs
  have hbig := HR3.out.big
  have hEB : ¬ w3.heap.size = w.heap.size + 1 := by omega
  have HR4 := Lib.hid (HR3.out.alloc (.cells #[.int .i64 f, .int .i64 t, .string i] 45))
  have HE4 := Lib.hid (edAt_new w3 f t i 45)
  have HQ4 := Lib.hid (HQ3.out.kept ((Dw.refl (w.heap.size + 1) w3).alloc (.cells #[.int .i64 f, .int .i64 t, .string i] 45)) hne)
  have HB4 := Lib.hid (HB3.out.alloc (by omega) (.cells #[.int .i64 f, .int .i64 t, .string i] 45))
  have HS2 : Hid (s.size ≤ 2010) := HS
  have hs2 := HS.out
  go_wp2_with fail
  generalize w3.alloc _ = w4 at *
  have hz4 : w.heap.size + 1 ≤ w4.heap.size := by have := HR4.out.big; omega
  go_at_call 38
  refine (pick_any _ _ _ _ _ _ _ _ HR4.out (by omega) (by omega) (by omega)).mono ?_
  rintro e w5 ⟨y5, hy5, rfl, k5, hw5⟩
  have HR5 := Lib.hid (HR4.out.picked hw5)
  have HE5 := Lib.hid (HE4.out.kept (Dw.pick hw5) hEB)
  have HQ5 := Lib.hid (HQ4.out.kept (Dw.pick hw5) hne)
  have hz5 : w.heap.size + 1 ≤ w5.heap.size := Nat.le_trans hz4 (Dw.size (Dw.pick hw5))
  have HB5 : Hid (Below w.heap.size w w5) := Lib.hid (HB4.out.trans (Dw.below (Dw.pick hw5) (by omega) (by omega)))
  clear hw5
  go_wp2_with fail
  go_at_call 38
  refine (pick_any _ _ _ _ _ _ 12 _ HR5.out (by omega) (by omega) (by omega)).mono ?_
  rintro e w6 ⟨y6, hy6, rfl, k6, hw6⟩
  have HR6 := Lib.hid (HR5.out.picked hw6)
  have HE6 := Lib.hid (HE5.out.kept (Dw.pick hw6) hEB)
  have HQ6 := Lib.hid (HQ5.out.kept (Dw.pick hw6) hne)
  have hz6 : w.heap.size + 1 ≤ w6.heap.size := Nat.le_trans hz5 (Dw.size (Dw.pick hw6))
  have HB6 : Hid (Below w.heap.size w w6) := Lib.hid (HB5.out.trans (Dw.below (Dw.pick hw6) (by omega) (by omega)))
  clear hw6
  by_cases h0 : y6 = 0
  · subst h0
    go_wp2_with fail
    go_at_call 32
    refine (num_any _ _ _ _ _ _ _ (HR6.out.alloc _) (by omega) _ 2 2 (-1) 5000 (by omega) (by omega) HR6.out.ne (intRow_new _ _ _ _ _ _ rfl (by kernel_rfl))).mono ?_
    rintro e w7 ⟨n, hn, rfl, k7, hw7⟩
    have HN := Lib.hid hn
    have HD7 := Lib.hid (((Dw.refl (w.heap.size + 1) w6).alloc _).trans (Dw.pick hw7))
    have HE7 := Lib.hid (HE6.out.kept HD7.out hEB)
    have HQ7 := Lib.hid (HQ6.out.kept HD7.out hne)
    have hz7 : w.heap.size + 1 ≤ w7.heap.size := Nat.le_trans hz6 (Dw.size HD7.out)
    have HB7 : Hid (Below w.heap.size w w7) := Lib.hid (HB6.out.trans (Dw.below HD7.out (by omega) (by omega)))
    clear hw7 hn
    obtain ⟨x0, x1, x2, y0, y1, y2, xz⟩ := HQ7.out
    obtain ⟨e0, e1, e2, g0, g1, g2, ez⟩ := HE7.out
    go_wp2_with fail
    go_region
    all_goals go_wp2
    all_goals exact bodyPost_ret (v := .tuple #[.string s, .agg #[.int .i64 f, .int .i64 t, .string i], .int .i64 n]) (by simp [results, Tryd.results25, go_sem, x0, x1, x2]) rfl ⟨s, f, t, i, n, HS.out, HI.out, HN.out, rfl, below_set3 HB7.out.drew (Nat.le_refl _)⟩
  · have e0' : ((y6 : Int) == 0) = false := by simp; omega
    have HN : Hid (-1 ≤ (y5 : Int) ∧ (y5 : Int) ≤ 5000) := Lib.hid ⟨by omega, by omega⟩
    clear h0
    obtain ⟨x0, x1, x2, y0, y1, y2, xz⟩ := HQ6.out
    obtain ⟨e0, e1, e2, g0, g1, g2, ez⟩ := HE6.out
    go_wp2_with fail
    go_region
    all_goals go_wp2
    all_goals exact bodyPost_ret (v := .tuple #[.string s, .agg #[.int .i64 f, .int .i64 t, .string i], .int .i64 y5]) (by simp [results, Tryd.results25, go_sem, x0, x1, x2]) rfl ⟨s, f, t, i, y5, HS.out, HI.out, HN.out, rfl, below_set3 HB6.out.drew (Nat.le_refl _)⟩

/-- What the draw of a text and an offset leaves. -/
def PosPost (w : World) (e : Ending) (w' : World) : Prop :=
  ∃ (s : ByteArray) (n : Int), s.size ≤ 2010 ∧ (-1 ≤ n ∧ n ≤ 5000) ∧ e = .returned (.tuple #[.string s, .int .i64 n]) ∧ Below w.heap.size w w'
set_option maxHeartbeats 1000000 in
theorem drawPosOf_any (a : Option Addr) (len cap : Nat) (zs : List Int) (w : World) (h : IsRow w a len cap zs) :
    Calls Tryd.prog 9 #[.slice a len cap] w (PosPost w) := by
  have HRow := Lib.hid h
  clear h
  go_enter Tryd.func9, Tryd.ntmps9
  go_wp2_with fail
  go_at_call 25
  refine (drawMoveOffset_any a len cap zs _ HRow.out).mono ?_
  rintro e w1 ⟨s, f, t, i, n, hs, hi, hn, rfl, hb1⟩
  have HB1 := Lib.hid hb1
  have HS := Lib.hid hs
  have HN := Lib.hid hn
  clear hb1 hs hi hn
  go_wp2_with fail
  go_ret2
  exact ⟨s, n, HS.out, HN.out, rfl, HB1.out.alloc HB1.out.size _⟩

end Go.Proofs.YtiaoopikmkakbaaDoor
