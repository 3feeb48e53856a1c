/-
  What the draws of the laws' arguments return: some text of at most 2010 bytes, some edits that insert at most 16 bytes, some offset. Nothing that was in memory changes.
  Conditions: the bytes that are drawn from can be read.
-/
import Derived.Test.YtnnjnkeabljlaaaProg
import Derived.Test.YtnnjnkeabljlaaaUc
import Derived.OpenShut
namespace Go.Proofs.Ytnnjnkeabljlaaa
open Go.RowKit

/-- A slice of bytes that came in: nil, or a row of 'cap' bytes. -/
def IsRow (w : World) (a : Option Addr) (len cap : Nat) (zs : List Int) : Prop :=
  (a = none ∧ len = 0 ∧ cap = 0 ∧ zs = []) ∨
  ∃ x, a = some x ∧ len ≤ cap ∧ cap ≤ maxLen ∧ zs.length = cap ∧ (∀ i, i < zs.length → w.cell? (x.add i) = some (.int .u8 (zs.getD i 0))) ∧ ∀ n ∈ zs, (Lit.int .u8 n).wf = true
theorem IsRow.len {w : World} {a : Option Addr} {len cap : Nat} {zs : List Int} (h : IsRow w a len cap zs) : len ≤ maxLen := by
  rcases h with ⟨rfl, rfl, rfl, rfl⟩ | ⟨x, rfl, h1, h2, _⟩
  · exact Nat.zero_le _
  · exact Nat.le_trans h1 h2
theorem IsRow.old {w : World} {a : Option Addr} {len cap : Nat} {zs : List Int} (h : IsRow w a len cap zs) : len = 0 ∨ ∃ cb co, a = some ⟨cb, co, none⟩ ∧ len ≤ cap ∧ cap ≤ maxLen ∧ cb < w.heap.size ∧ ∀ i, i < len → w.cell? ⟨cb, co + i, none⟩ = some (.int .u8 (zs.getD i 0)) := by
  rcases h with ⟨rfl, rfl, rfl, rfl⟩ | ⟨x, rfl, h1, hm, h2, h3, _⟩
  · exact .inl rfl
  · by_cases h0 : len = 0
    · exact .inl h0
    · obtain ⟨b, off, spot⟩ := x
      have hc := h3 0 (by omega)
      have hspot : spot = none := by simpa [Addr.add] using World.cell?_spot hc
      subst hspot
      exact .inr ⟨b, off, rfl, h1, hm, World.block_lt_of_cell? w _ hc, fun i hi => by
        have h5 := h3 i (by omega)
        unfold Addr.add at h5
        by_cases hi0 : i = 0
        · subst hi0; simpa using h5
        · simpa [hi0] using h5⟩
theorem IsRow.small {w : World} {a : Option Addr} {len cap : Nat} {zs : List Int} (h : IsRow w a len cap zs) : ∀ i, 0 ≤ zs.getD i 0 ∧ zs.getD i 0 ≤ 255 := by
  intro i
  rcases h with ⟨rfl, rfl, rfl, rfl⟩ | ⟨x, rfl, _, _, _, _, h4⟩
  · simp
  · by_cases hi : i < zs.length
    · have := h4 zs[i] (List.getElem_mem hi)
      have e : zs.getD i 0 = zs[i] := by simp [List.getD, hi]
      rw [e]
      have h5 := bounds_u8 this
      omega
    · have e : zs.getD i 0 = 0 := by simp [List.getD, hi]
      rw [e]; omega
/-- A row is kept by what leaves old memory alone. -/
theorem IsRow.kept {w w' : World} {a : Option Addr} {len cap : Nat} {zs : List Int} (h : IsRow w a len cap zs) (hb : Below w.heap.size w w') : IsRow w' a len cap zs := by
  rcases h with h | ⟨x, rfl, h1, hm, h2, h3, h4⟩
  · exact .inl h
  · refine .inr ⟨x, rfl, h1, hm, h2, fun i hi => ?_, h4⟩
    rw [hb.cell (p := x.add i) (World.block_lt_of_cell? w _ (h3 i hi))]
    exact h3 i hi

theorem size_alloc1 (w : World) (o : Obj) : (w.alloc o).heap.size = w.heap.size + 1 := by simp
/-- What the opening of a reader leaves. -/
def OpenPost (w : World) (a : Option Addr) (zs : List Int) (e : Ending) (w' : World) : Prop :=
  ∃ len cap, e = .returned (.pointer (some ⟨w.heap.size, 0, none⟩)) ∧ Rd w' w.heap.size a len cap zs 0 ∧ Below w.heap.size w w'
theorem rd_new {w : World} {a : Option Addr} {len cap n : Nat} {zs : List Int} (h : IsRow w a len cap zs) (T : TypeId) (hn : n ≤ len) (hn2 : n ≤ 2000) :
    Rd (w.alloc (.cells #[.slice a n cap, .int .i64 0] T)) w.heap.size a n cap zs 0 := by
  refine ⟨by go_simp, by go_simp, by go_simp, ?_, h.small, hn2, by simp⟩
  rcases h.old with h0 | ⟨cb, co, ha, _, _, h1, h2⟩
  · exact .inl (by omega)
  · refine .inr ⟨cb, co, ha, h1, fun i hi => ?_⟩
    rw [((Below.refl _ w).alloc (Nat.le_refl _) _).cell (p := ⟨cb, co + i, none⟩) h1]
    exact h2 i (by omega)
set_option maxRecDepth 100000 in
set_option maxHeartbeats 400000 in
theorem l16Open_any (a : Option Addr) (len cap : Nat) (zs : List Int) (w : World) (h : IsRow w a len cap zs) :
    Calls Try.prog 26 #[.slice a len cap] w (OpenPost w a zs) := by
  have HR := Lib.hid h
  have hm := h.len
  unfold maxLen at hm
  by_cases hl : 2000 < len
  · obtain ⟨cb, co, rfl, hlc, hcm, _, _⟩ : ∃ cb co, a = some ⟨cb, co, none⟩ ∧ len ≤ cap ∧ cap ≤ maxLen ∧ cb < w.heap.size ∧ ∀ i, i < len → w.cell? ⟨cb, co + i, none⟩ = some (.int .u8 (zs.getD i 0)) := by
      rcases h.old with h0 | h0
      · omega
      · exact h0
    unfold maxLen at hcm
    have h2k : 2000 ≤ cap := by omega
    clear h
    go_enter Try.func26, Try.ntmps26
    go_wp2
    go_ret
    exact ⟨2000, cap, rfl, rd_new HR.out _ (by omega) (by omega), (Below.refl _ _).alloc (Nat.le_refl _) _⟩
  · clear h
    go_enter Try.func26, Try.ntmps26
    go_wp2
    go_ret
    exact ⟨len, cap, rfl, rd_new HR.out _ (Nat.le_refl _) (by omega), (Below.refl _ _).alloc (Nat.le_refl _) _⟩

theorem below_set3 {B : Nat} {a w : World} (h : Below B a w) {b o1 o2 o3 : Nat} {x y z : Value} (hp : B ≤ b) : Below B a (((w.setCell ⟨b, o1, none⟩ x).setCell ⟨b, o2, none⟩ y).setCell ⟨b, o3, none⟩ z) :=
  ((h.setCell (p := ⟨b, o1, none⟩) hp x).setCell (p := ⟨b, o2, none⟩) hp y).setCell (p := ⟨b, o3, none⟩) hp z

/-- What the draw of a text and an edit leaves. -/
def EditPost (w : World) (e : Ending) (w' : World) : Prop :=
  ∃ (s : ByteArray) (f t : Int) (i : ByteArray), s.size ≤ 2010 ∧ i.size ≤ 16 ∧ e = .returned (.tuple #[.string s, .agg #[.int .i64 f, .int .i64 t, .string i]]) ∧ Below w.heap.size w w'

set_option maxHeartbeats 1000000 in
theorem drawEditValid_any (a : Option Addr) (len cap : Nat) (zs : List Int) (w : World) (h : IsRow w a len cap zs) :
    Calls Try.prog 37 #[.slice a len cap] w (EditPost w) := by
  have HRow := Lib.hid h
  clear h
  go_enter Try.func37, Try.ntmps37
  go_wp2_with fail
  go_at_call 26
  refine (l16Open_any a len cap zs _ (HRow.out.kept ((Below.refl _ _).alloc (Nat.le_refl _) _))).mono ?_
  rintro e w1 ⟨len1, cap1, rfl, hr1, hb1⟩
  (try rw [size_alloc1] at hr1)
  have HR1 := Lib.hid hr1
  have HB1 : Hid (Below w.heap.size w w1) := Lib.hid (((Below.refl _ _).alloc (Nat.le_refl _) _).trans (hb1.mono (by simp)))
  have HQ1 : Hid (EdAt w1 w.heap.size 0 0 ⟨#[]⟩) := Lib.hid ((edAt_new w 0 0 ⟨#[]⟩ 30).below hb1)
  have hz1 : w.heap.size + 1 ≤ w1.heap.size := by have := hb1.size; simpa using this
  clear hr1 hb1
  have hne : ¬ w.heap.size = w.heap.size + 1 := by omega
  go_wp2_with fail
  go_at_call 27
  refine (l1Text_any _ _ _ _ _ 0 w1 HR1.out (by omega)).mono ?_
  rintro e w2 ⟨s, hs, rfl, hd2, hr2⟩
  have HS := Lib.hid hs
  have HR2 := Lib.hid hr2
  have HB2 : Hid (Below w.heap.size w w2) := Lib.hid (HB1.out.trans (hd2.below (by omega) (by omega)))
  have HQ2 := Lib.hid (HQ1.out.kept hd2 hne)
  have hz2 : w.heap.size + 1 ≤ w2.heap.size := Nat.le_trans hz1 hd2.size
  clear hd2 hr2
  go_wp2_with fail
  go_at_call 31
  refine (l1Edit_any _ _ _ _ _ _ s w2 HR2.out (by omega) hs).mono ?_
  rintro e w3 ⟨f, t, i, r3, hi, hr3b, rfl, hd3, hr3⟩
  have HI := Lib.hid hi
  have HR3 := Lib.hid hr3
  have HB3 : Hid (Below w.heap.size w w3) := Lib.hid (HB2.out.trans (hd3.below (by omega) (by omega)))
  have HQ3 := Lib.hid (HQ2.out.kept hd3 hne)
  have hz3 : w.heap.size + 1 ≤ w3.heap.size := Nat.le_trans hz2 hd3.size
  clear hd3 hr3 hi hs
  obtain ⟨x0, x1, x2, y0, y1, y2, xz⟩ := HQ3.out
  go_wp2_with fail
  exact bodyPost_ret (v := .tuple #[.string s, .agg #[.int .i64 f, .int .i64 t, .string i]]) (by simp [results, Try.results37, go_sem, x0, x1, x2]) rfl ⟨s, f, t, i, HS.out, HI.out, rfl, below_set3 HB3.out (Nat.le_refl _)⟩


set_option maxHeartbeats 1000000 in
theorem drawApplyEdit_any (a : Option Addr) (len cap : Nat) (zs : List Int) (w : World) (h : IsRow w a len cap zs) :
    Calls Try.prog 16 #[.slice a len cap] w (EditPost w) := by
  have HRow := Lib.hid h
  clear h
  go_enter Try.func16, Try.ntmps16
  go_wp2_with fail
  go_at_call 37
  refine (drawEditValid_any a len cap zs _ (HRow.out.kept ((Below.refl _ _).alloc (Nat.le_refl _) _))).mono ?_
  rintro e w1 ⟨s, f, t, i, hs, hi, rfl, hb1⟩
  have HB1 : Hid (Below w.heap.size w w1) := Lib.hid (((Below.refl _ _).alloc (Nat.le_refl _) _).trans (hb1.mono (by simp)))
  have HQ1 : Hid (EdAt w1 w.heap.size 0 0 ⟨#[]⟩) := Lib.hid ((edAt_new w 0 0 ⟨#[]⟩ 30).below hb1)
  have HS := Lib.hid hs
  have HI := Lib.hid hi
  clear hb1 hs hi
  obtain ⟨x0, x1, x2, y0, y1, y2, xz⟩ := HQ1.out
  go_wp2_with fail
  exact bodyPost_ret (v := .tuple #[.string s, .agg #[.int .i64 f, .int .i64 t, .string i]]) (by simp [results, Try.results16, go_sem, x0, x1, x2]) rfl ⟨s, f, t, i, HS.out, HI.out, rfl, below_set3 HB1.out (Nat.le_refl _)⟩

end Go.Proofs.Ytnnjnkeabljlaaa
