/-
  What the draw of a text and two edits returns. Nothing that was in memory changes.
  Conditions: the bytes that are drawn from can be read.
-/
import Derived.Test.YthannbkkpocejaaProg
import Derived.Test.YthannbkkpocejaaUg
import Derived.Deep.RegionHeld3
import Derived.Deep.RegionWith
namespace Go.Proofs.Ythannbkkpocejaa
open Go.RowKit

/-- What the draw of a text and two edits leaves. -/
def TwoEdPost (w : World) (e : Ending) (w' : World) : Prop :=
  ∃ (s : ByteArray) (f t : Int) (i : ByteArray) (g u : Int) (j : ByteArray), s.size ≤ 2010 ∧ i.size ≤ 16 ∧ j.size ≤ 16 ∧ e = .returned (.tuple #[.string s, .agg #[.int .i64 f, .int .i64 t, .string i], .agg #[.int .i64 g, .int .i64 u, .string j]]) ∧ Below w.heap.size w w'

set_option maxHeartbeats 8000000 in
theorem drawComposeEdits_any (a : Option Addr) (len cap : Nat) (zs : List Int) (w : World) (h : IsRow w a len cap zs) :
    Calls Try.prog 22 #[.slice a len cap] w (TwoEdPost w) := by
  have HRow := Lib.hid h
  clear h
  have b00 : Below w.heap.size w ((w.alloc (.cells #[.int .i64 0, .int .i64 0, .string ⟨#[]⟩] 24)).alloc (.cells #[.int .i64 0, .int .i64 0, .string ⟨#[]⟩] 24)) := ((Below.refl _ _).alloc (Nat.le_refl _) _).alloc (by simp) _
  have B00 := Lib.hid b00
  clear b00
  go_enter Try.func22, Try.ntmps22
  go_wp2_with fail
  go_at_call 37
  refine (l16Open_any a len cap zs _ (HRow.out.kept B00.out)).mono ?_
  rintro e w1 ⟨len1, cap1, rfl, hr1, hb1⟩
  (try rw [size_alloc1, size_alloc1] at hr1)
  have HR1 := Lib.hid hr1
  have HB1 : Hid (Below w.heap.size w w1) := Lib.hid (B00.out.trans (hb1.mono B00.out.size))
  have HP1 : Hid (EdAt w1 w.heap.size 0 0 ⟨#[]⟩) := Lib.hid (((edAt_new w 0 0 ⟨#[]⟩ 24).below ((Below.refl _ _).alloc (Nat.le_refl _) _)).below hb1)
  have HQ1 : Hid (EdAt w1 (w.heap.size + 1) 0 0 ⟨#[]⟩) := Lib.hid (by
    have h2 := (edAt_new (w.alloc (.cells #[.int .i64 0, .int .i64 0, .string ⟨#[]⟩] 24)) 0 0 ⟨#[]⟩ 24).below hb1
    rwa [size_alloc1] at h2)
  have nP : ¬ w.heap.size = w.heap.size + 1 + 1 := by omega
  have nQ : ¬ w.heap.size + 1 = w.heap.size + 1 + 1 := by omega
  clear hr1 hb1
  go_wp2_with fail
  go_at_call 38
  refine (l1Text_any _ _ _ _ _ _ _ HR1.out (by omega)).mono ?_
  rintro e w2 ⟨s, hs, rfl, hd2, hr2⟩
  have HS := Lib.hid hs
  have HR2 := Lib.hid hr2
  have HP2 := Lib.hid (HP1.out.kept hd2 nP)
  have HQ2 := Lib.hid (HQ1.out.kept hd2 nQ)
  have HB2 : Hid (Below w.heap.size w w2) := Lib.hid (HB1.out.trans (Dw.below hd2 (by omega) HB1.out.size))
  clear hd2 hr2
  go_wp2_with fail
  go_at_call 39
  refine (l1Edit_any _ _ _ _ _ _ s w2 HR2.out (by omega) hs).mono ?_
  rintro e w3 ⟨f, t, i, r3, hi, hr3b, rfl, hd3, hr3⟩
  have HI := Lib.hid hi
  have HR3 := Lib.hid hr3
  have HSL : Hid (s.size ≤ maxLen) := Lib.hid (by unfold maxLen; omega)
  have HIL : Hid (i.size ≤ maxLen) := Lib.hid (by unfold maxLen; omega)
  have HP3 := Lib.hid (HP2.out.kept hd3 nP)
  have HQ3 := Lib.hid (HQ2.out.kept hd3 nQ)
  have HB3 : Hid (Below w.heap.size w w3) := Lib.hid (HB2.out.trans (Dw.below hd3 (by omega) HB2.out.size))
  clear hd3 hr3
  have hbig := HR3.out.big
  have HE4 := Lib.hid (edAt_new w3 f t i 24)
  have HR4 := Lib.hid (HR3.out.alloc (.cells #[.int .i64 f, .int .i64 t, .string i] 24))
  have HP4 := Lib.hid (HP3.out.kept ((Dw.refl (w.heap.size + 1 + 1) w3).alloc (.cells #[.int .i64 f, .int .i64 t, .string i] 24)) nP)
  have HQ4 := Lib.hid (HQ3.out.kept ((Dw.refl (w.heap.size + 1 + 1) w3).alloc (.cells #[.int .i64 f, .int .i64 t, .string i] 24)) nQ)
  have HB4 := Lib.hid (HB3.out.alloc HB3.out.size (.cells #[.int .i64 f, .int .i64 t, .string i] 24))
  go_wp2_with fail
  generalize w3.alloc _ = w4 at *
  generalize w3.heap.size = X at *
  have nE : ¬ X = w.heap.size + 1 + 1 := by omega
  have v1 : ¬ X = w.heap.size := by omega
  have v2 : ¬ w.heap.size = X := by omega
  have v3 : ¬ X = w.heap.size + 1 := by omega
  have v4 : ¬ w.heap.size + 1 = X := by omega
  have v5 : ¬ w.heap.size = w.heap.size + 1 := by omega
  have v6 : ¬ w.heap.size + 1 = w.heap.size := by omega
  clear hi hbig
  rcases hfit : fitsB s f t i with _ | _
  · have HF := Lib.hid hfit
    have HYZ := HS
    clear hfit hs
    go_at_call 17
    refine (applyEdit_spec_no s f t i HF.out HSL.out HIL.out _).mono ?_
    rintro e w5 ⟨rfl, hb5⟩
    have HR5 := Lib.hid (HR4.out.kept (hb5.mono HR4.out.big))
    have HB5 := Lib.hid (HB4.out.trans (hb5.mono HB4.out.size))
    have HE5 := Lib.hid (HE4.out.below hb5)
    have HP5 := Lib.hid (HP4.out.below hb5)
    have HQ5 := Lib.hid (HQ4.out.below hb5)
    clear hb5
    obtain ⟨x0, x1, x2, x3, x4, x5, x6⟩ := HE5.out
    obtain ⟨p0, p1, p2, p3, p4, p5, p6⟩ := HP5.out
    obtain ⟨q0, q1, q2, q3, q4, q5, q6⟩ := HQ5.out
    go_wp2_with fail
    go_region_held3 (fun w' => w'.cell? ⟨X, 0, none⟩ = some (.int .i64 f) ∧ w'.cell? ⟨X, 1, none⟩ = some (.int .i64 t) ∧ w'.cell? ⟨X, 2, none⟩ = some (.string i)) (first | go_keep | go_simp)
      (first | (go_at_call 39; refine (l1Edit_any _ _ _ _ _ _ s _ HR5.out.drew (by omega) HYZ.out).mono ?_; rintro e w6 ⟨g, u, j, r6, hj, hr6b, rfl, hd6, hr6⟩; have HJ := Lib.hid hj; have HB6 : Hid (Below w.heap.size w w6) := Lib.hid (HB5.out.drew.trans (Dw.below hd6 (by omega) HB5.out.size)); have HE6 := Lib.hid (HE5.out.drew.kept hd6 nE); have HP6 := Lib.hid (HP5.out.drew.kept hd6 nP); have HQ6 := Lib.hid (HQ5.out.drew.kept hd6 nQ); clear hd6 hr6 hj; obtain ⟨xx0, xx1, xx2, xx3, xx4, xx5, xx6⟩ := HE6.out; obtain ⟨pp0, pp1, pp2, pp3, pp4, pp5, pp6⟩ := HP6.out; obtain ⟨qq0, qq1, qq2, qq3, qq4, qq5, qq6⟩ := HQ6.out))
    all_goals go_wp2_with fail
    all_goals exact bodyPost_ret (v := .tuple #[.string s, .agg #[.int .i64 f, .int .i64 t, .string i], .agg #[.int .i64 g, .int .i64 u, .string j]]) (by simp [results, Try.results22, go_sem, pp0, pp1, pp2, qq0, qq1, qq2]) rfl ⟨s, f, t, i, g, u, j, HS.out, HI.out, HJ.out, rfl, below_set3 (below_set3 HB6.out (Nat.le_refl _)) (Nat.le_succ _)⟩
  · have HF := Lib.hid hfit
    obtain ⟨y, hy⟩ : ∃ y, ap s f t i = y := ⟨_, rfl⟩
    have hyz := tv_size (tv_ap' hfit)
    rw [hy] at hyz
    have HY := Lib.hid hy
    have HYZ : Hid (y.size ≤ 2010) := Lib.hid (by omega)
    clear hfit hy hyz hs
    go_at_call 17
    refine (applyEdit_spec_at0 s f t i y HF.out HY.out _).mono ?_
    rintro e w5 ⟨rfl, hb5⟩
    have HR5 := Lib.hid (HR4.out.kept (hb5.mono HR4.out.big))
    have HB5 := Lib.hid (HB4.out.trans (hb5.mono HB4.out.size))
    have HE5 := Lib.hid (HE4.out.below hb5)
    have HP5 := Lib.hid (HP4.out.below hb5)
    have HQ5 := Lib.hid (HQ4.out.below hb5)
    clear hb5
    obtain ⟨x0, x1, x2, x3, x4, x5, x6⟩ := HE5.out
    obtain ⟨p0, p1, p2, p3, p4, p5, p6⟩ := HP5.out
    obtain ⟨q0, q1, q2, q3, q4, q5, q6⟩ := HQ5.out
    go_wp2_with fail
    go_region_held3 (fun w' => w'.cell? ⟨X, 0, none⟩ = some (.int .i64 f) ∧ w'.cell? ⟨X, 1, none⟩ = some (.int .i64 t) ∧ w'.cell? ⟨X, 2, none⟩ = some (.string i)) (first | go_keep | go_simp)
      (first | (go_at_call 39; refine (l1Edit_any _ _ _ _ _ _ y _ HR5.out.drew (by omega) HYZ.out).mono ?_; rintro e w6 ⟨g, u, j, r6, hj, hr6b, rfl, hd6, hr6⟩; have HJ := Lib.hid hj; have HB6 : Hid (Below w.heap.size w w6) := Lib.hid (HB5.out.drew.trans (Dw.below hd6 (by omega) HB5.out.size)); have HE6 := Lib.hid (HE5.out.drew.kept hd6 nE); have HP6 := Lib.hid (HP5.out.drew.kept hd6 nP); have HQ6 := Lib.hid (HQ5.out.drew.kept hd6 nQ); clear hd6 hr6 hj; obtain ⟨xx0, xx1, xx2, xx3, xx4, xx5, xx6⟩ := HE6.out; obtain ⟨pp0, pp1, pp2, pp3, pp4, pp5, pp6⟩ := HP6.out; obtain ⟨qq0, qq1, qq2, qq3, qq4, qq5, qq6⟩ := HQ6.out))
    all_goals go_wp2_with fail
    all_goals exact bodyPost_ret (v := .tuple #[.string s, .agg #[.int .i64 f, .int .i64 t, .string i], .agg #[.int .i64 g, .int .i64 u, .string j]]) (by simp [results, Try.results22, go_sem, pp0, pp1, pp2, qq0, qq1, qq2]) rfl ⟨s, f, t, i, g, u, j, HS.out, HI.out, HJ.out, rfl, below_set3 (below_set3 HB6.out (Nat.le_refl _)) (Nat.le_succ _)⟩

end Go.Proofs.Ythannbkkpocejaa
