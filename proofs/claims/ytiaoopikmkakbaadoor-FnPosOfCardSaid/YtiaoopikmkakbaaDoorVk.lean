/-
  The draws of a text and of a place; the laws' function on equal slices of strings.
-/
import Derived.Test.YtiaoopikmkakbaaDoorVj
import Derived.Test.YtiaoopikmkakbaaDoorUf
namespace Go.Proofs.YtiaoopikmkakbaaDoor
open Go.RowKit Go.Shelf

set_option maxHeartbeats 1000000 in
theorem lvTexts_same (n1 n2 : Nat) (l : List ByteArray) (hl : l.length ≤ 1000000) (v1 v2 : Value) (w : World) (h1 : w.ownsRow n1 9 1 v1 l.length (l.map Value.string)) (h2 : w.ownsRow n2 9 1 v2 l.length (l.map Value.string)) :
    Calls Tryd.prog 17 #[v1, v2] w fun e w' => e = .returned (.bool true) ∧ Below w.heap.size w w' := by
  have H1 := Lib.hid h1
  have H2 := Lib.hid h2
  obtain ⟨a1, c1, rfl⟩ := owns_slice h1
  obtain ⟨a2, c2, rfl⟩ := owns_slice h2
  clear h1 h2
  obtain ⟨L, hL⟩ : ∃ L, l.length = L := ⟨_, rfl⟩
  have HL := Lib.hid hL
  rw [hL] at hl ⊢
  clear hL
  go_enter Tryd.func17, Tryd.ntmps17
  go_wp2
  go_loopw [5] (fun i wr => ∃ k : Nat, k ≤ L ∧ i = .int .i64 k ∧ Below w.heap.size w wr) (fun i _ => L - (intOf i).toNat)
  case atStart => exact ⟨0, Nat.zero_le _, rfl, Below.refl _ _⟩
  case round =>
    obtain ⟨k, hk, rfl, hB⟩ := hrel
    by_cases hlt : k < L
    · obtain ⟨b1, d1, e1, _, l1, x1⟩ := row_at H1.out k (by rw [HL.out]; exact hlt)
      obtain ⟨b2, d2, e2, _, l2, x2⟩ := row_at H2.out k (by rw [HL.out]; exact hlt)
      have f1 : a1 = some ⟨b1, 0, none⟩ := by injection e1
      have f2 : a2 = some ⟨b2, 0, none⟩ := by injection e2
      subst f1 f2
      clear e1 e2
      have y1 := (hB.cell (p := ⟨b1, k, none⟩) l1).trans x1
      have y2 := (hB.cell (p := ⟨b2, k, none⟩) l2).trans x2
      have HB := Lib.hid hB
      have hki : (k : Int) < (L : Int) := by omega
      clear x1 x2 hB
      go_wp2_with fail
      go_quiet (fail)
      go_wp2_with fail
      refine ⟨⟨k + 1, by omega, by go_num, ?_⟩, by simp [intOf]; omega⟩
      exact below_drewN HB.out _
    · have hki : ¬ (k : Int) < (L : Int) := by omega
      go_wp2_with fail
      go_ret
      exact ⟨rfl, hB⟩

/-- What the draw of a text leaves. -/
def TextPost (w : World) (e : Ending) (w' : World) : Prop := ∃ s : ByteArray, s.size ≤ 2010 ∧ e = .returned (.string s) ∧ Below w.heap.size w w'
set_option maxHeartbeats 1000000 in
theorem drawLinesOf_any (a : Option Addr) (len cap : Nat) (zs : List Int) (w : World) (h : IsRow w a len cap zs) :
    Calls Tryd.prog 16 #[.slice a len cap] w (TextPost w) := by
  have HRow := Lib.hid h
  clear h
  go_enter Tryd.func16, Tryd.ntmps16
  go_wp2_with fail
  go_at_call 30
  refine (l16Open_any a len cap zs _ HRow.out).mono ?_
  rintro e w1 ⟨len1, cap1, rfl, hr1, hb1⟩
  have HR1 := Lib.hid hr1
  have HB1 := Lib.hid hb1
  have hz1 : w.heap.size ≤ w1.heap.size := hb1.size
  clear hr1 hb1
  go_wp2_with fail
  go_at_call 31
  refine (l1Text_any _ _ _ _ _ 0 w1 HR1.out (by omega)).mono ?_
  rintro e w2 ⟨s, hs, rfl, hd2, hr2⟩
  have HS := Lib.hid hs
  have HB2 : Hid (Below w.heap.size w w2) := Lib.hid (HB1.out.trans (hd2.below (by omega) (by omega)))
  clear hd2 hr2
  go_wp2_with fail
  go_ret
  exact ⟨s, HS.out, rfl, HB2.out⟩

/-- A place in a variable. -/
structure PAt (w : World) (E : Nat) (l c : Int) : Prop where
  a0 : w.cell? ⟨E, 0, none⟩ = some (.int .i64 l)
  a1 : w.cell? ⟨E, 1, none⟩ = some (.int .i64 c)
  b0 : w.frozen? ⟨E, 0, none⟩ = false
  b1 : w.frozen? ⟨E, 1, none⟩ = false
  sz : E < w.heap.size
theorem PAt.kept {w w' : World} {B E : Nat} {l c : Int} (h : PAt w E l c) (hd : Dw B w w') (hne : ¬ E = B) : PAt w' E l c := by
  obtain ⟨a0, a1, b0, b1, sz⟩ := h
  obtain ⟨hc, hf⟩ := hd.cells
  exact ⟨by rw [hc _ _ sz hne]; exact a0, by rw [hc _ _ sz hne]; exact a1, by rw [hf _ _ sz hne]; exact b0, by rw [hf _ _ sz hne]; exact b1, Nat.lt_of_lt_of_le sz hd.size⟩
theorem PAt.below {w w' : World} {E : Nat} {l c : Int} (h : PAt w E l c) (hd : Below w.heap.size w w') : PAt w' E l c := by
  obtain ⟨a0, a1, b0, b1, sz⟩ := h
  have hc := fun o => hd.cell (p := ⟨E, o, none⟩) sz
  have hf := fun o => hd.frozen (p := ⟨E, o, none⟩) sz
  exact ⟨by rw [hc]; exact a0, by rw [hc]; exact a1, by rw [hf]; exact b0, by rw [hf]; exact b1, Nat.lt_of_lt_of_le sz hd.size⟩
theorem pAt_new (w : World) (l c : Int) (T : TypeId) : PAt (w.alloc (.cells #[.int .i64 l, .int .i64 c] T)) w.heap.size l c :=
  ⟨by go_simp, by go_simp, by go_simp, by go_simp, by simp⟩

/-- What the draw of a text and a place leaves. -/
def PlacePost (w : World) (e : Ending) (w' : World) : Prop :=
  ∃ (s : ByteArray) (l c : Int), s.size ≤ 2010 ∧ e = .returned (.tuple #[.string s, .agg #[.int .i64 l, .int .i64 c]]) ∧ Below w.heap.size w w'
set_option maxHeartbeats 1000000 in
theorem drawOffsetOf_any (a : Option Addr) (len cap : Nat) (zs : List Int) (w : World) (h : IsRow w a len cap zs) :
    Calls Tryd.prog 13 #[.slice a len cap] w (PlacePost w) := by
  have HRow := Lib.hid h
  clear h
  go_enter Tryd.func13, Tryd.ntmps13
  go_wp2_with fail
  go_at_call 30
  refine (l16Open_any a len cap zs _ (HRow.out.kept ((Below.refl _ _).alloc (Nat.le_refl _) _))).mono ?_
  rintro e w1 ⟨len1, cap1, rfl, hr1, hb1⟩
  (try rw [size_alloc1] at hr1)
  have HR1 := Lib.hid hr1
  have HB1 : Hid (Below w.heap.size w w1) := Lib.hid (((Below.refl _ _).alloc (Nat.le_refl _) _).trans (hb1.mono (by simp)))
  have HQ1 := Lib.hid ((pAt_new w 0 0 26).below hb1)
  have hz1 : w.heap.size + 1 ≤ w1.heap.size := by have := hb1.size; simpa using this
  clear hr1 hb1
  (try rw [size_alloc1])
  have hne : ¬ w.heap.size = w.heap.size + 1 := by omega
  go_wp2_with fail
  go_at_call 31
  refine (l1Text_any _ _ _ _ _ 0 w1 HR1.out (by omega)).mono ?_
  rintro e w2 ⟨s, hs, rfl, hd2, hr2⟩
  have HS := Lib.hid hs
  have HR2 := Lib.hid hr2
  have HB2 : Hid (Below w.heap.size w w2) := Lib.hid (HB1.out.trans (hd2.below (by omega) (by omega)))
  have HQ2 := Lib.hid (HQ1.out.kept hd2 hne)
  have hz2 : w.heap.size + 1 ≤ w2.heap.size := Nat.le_trans hz1 hd2.size
  clear hd2 hr2
  go_wp2_with fail
  go_at_call 32
  refine (num_any _ _ _ _ _ _ _ (HR2.out.alloc _) (by omega) _ 6 6 (-1) 9 (by omega) (by omega) HR2.out.ne (intRow_new _ _ _ _ _ _ rfl (by kernel_rfl))).mono ?_
  rintro e w3 ⟨n, hn, rfl, k3, hw3⟩
  have HN := Lib.hid hn
  have HR3 := Lib.hid ((HR2.out.alloc _).picked hw3)
  have HD3 := Lib.hid (((Dw.refl (w.heap.size + 1) w2).alloc _).trans (Dw.pick hw3))
  have HQ3 := Lib.hid (HQ2.out.kept HD3.out hne)
  have hz3 : w.heap.size + 1 ≤ w3.heap.size := Nat.le_trans hz2 (Dw.size HD3.out)
  have HB3 : Hid (Below w.heap.size w w3) := Lib.hid (HB2.out.trans (Dw.below HD3.out (by omega) (by omega)))
  clear hw3 hn
  go_wp2_with fail
  go_at_call 32
  refine (num_any _ _ _ _ _ _ _ (HR3.out.alloc _) (by omega) _ 6 6 (-1) 40 (by omega) (by omega) HR3.out.ne (intRow_new _ _ _ _ _ _ rfl (by kernel_rfl))).mono ?_
  rintro e w4 ⟨m, hm, rfl, k4, hw4⟩
  have HM := Lib.hid hm
  have HD4 := Lib.hid (((Dw.refl (w.heap.size + 1) w3).alloc _).trans (Dw.pick hw4))
  have HQ4 := Lib.hid (HQ3.out.kept HD4.out hne)
  have HB4 : Hid (Below w.heap.size w w4) := Lib.hid (HB3.out.trans (Dw.below HD4.out (by omega) (by omega)))
  clear hw4 hm
  obtain ⟨x0, x1, y0, y1, xz⟩ := HQ4.out
  go_wp2_with fail
  exact bodyPost_ret (v := .tuple #[.string s, .agg #[.int .i64 n, .int .i64 m]]) (by simp [results, Tryd.results13, go_sem, x0, x1]) rfl ⟨s, n, m, HS.out, rfl, (HB4.out.setCell (p := ⟨w.heap.size, 0, none⟩) (Nat.le_refl _) _).setCell (p := ⟨w.heap.size, 1, none⟩) (Nat.le_refl _) _⟩
end Go.Proofs.YtiaoopikmkakbaaDoor
