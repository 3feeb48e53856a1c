/-
  What the draws of the laws' arguments return: some text of at most 2010 bytes, some edits that insert at most 16 bytes, some offset. Nothing that was in memory changes.
  Conditions: the bytes that are drawn from can be read.
-/
import Derived.Test.YtpihopmgckdigaaDoorProg
import Derived.Test.YtpihopmgckdigaaDoorUc
import Derived.OpenShut
namespace Go.Proofs.YtpihopmgckdigaaDoor
open Go.RowKit

/-- A slice of bytes that came in: nil, or a row of 'cap' bytes. -/
def IsRow (w : World) (a : Option Addr) (len cap : Nat) (zs : List Int) : Prop :=
  (a = none ∧ len = 0 ∧ cap = 0 ∧ zs = []) ∨
  ∃ x, a = some x ∧ len ≤ cap ∧ cap ≤ maxLen ∧ zs.length = cap ∧ (∀ i, i < zs.length → w.cell? (x.add i) = some (.int .u8 (zs.getD i 0))) ∧ ∀ n ∈ zs, (Lit.int .u8 n).wf = true
theorem IsRow.len {w : World} {a : Option Addr} {len cap : Nat} {zs : List Int} (h : IsRow w a len cap zs) : len ≤ maxLen := by
  rcases h with ⟨rfl, rfl, rfl, rfl⟩ | ⟨x, rfl, h1, h2, _⟩
  · exact Nat.zero_le _
  · exact Nat.le_trans h1 h2
theorem IsRow.old {w : World} {a : Option Addr} {len cap : Nat} {zs : List Int} (h : IsRow w a len cap zs) : len = 0 ∨ ∃ cb co, a = some ⟨cb, co, none⟩ ∧ len ≤ cap ∧ cap ≤ maxLen ∧ cb < w.heap.size ∧ ∀ i, i < len → w.cell? ⟨cb, co + i, none⟩ = some (.int .u8 (zs.getD i 0)) := by
  rcases h with ⟨rfl, rfl, rfl, rfl⟩ | ⟨x, rfl, h1, hm, h2, h3, _⟩
  · exact .inl rfl
  · by_cases h0 : len = 0
    · exact .inl h0
    · obtain ⟨b, off, spot⟩ := x
      have hc := h3 0 (by omega)
      have hspot : spot = none := by simpa [Addr.add] using World.cell?_spot hc
      subst hspot
      exact .inr ⟨b, off, rfl, h1, hm, World.block_lt_of_cell? w _ hc, fun i hi => by
        have h5 := h3 i (by omega)
        unfold Addr.add at h5
        by_cases hi0 : i = 0
        · subst hi0; simpa using h5
        · simpa [hi0] using h5⟩
theorem IsRow.small {w : World} {a : Option Addr} {len cap : Nat} {zs : List Int} (h : IsRow w a len cap zs) : ∀ i, 0 ≤ zs.getD i 0 ∧ zs.getD i 0 ≤ 255 := by
  intro i
  rcases h with ⟨rfl, rfl, rfl, rfl⟩ | ⟨x, rfl, _, _, _, _, h4⟩
  · simp
  · by_cases hi : i < zs.length
    · have := h4 zs[i] (List.getElem_mem hi)
      have e : zs.getD i 0 = zs[i] := by simp [List.getD, hi]
      rw [e]
      have h5 := bounds_u8 this
      omega
    · have e : zs.getD i 0 = 0 := by simp [List.getD, hi]
      rw [e]; omega
/-- A row is kept by what leaves old memory alone. -/
theorem IsRow.kept {w w' : World} {a : Option Addr} {len cap : Nat} {zs : List Int} (h : IsRow w a len cap zs) (hb : Below w.heap.size w w') : IsRow w' a len cap zs := by
  rcases h with h | ⟨x, rfl, h1, hm, h2, h3, h4⟩
  · exact .inl h
  · refine .inr ⟨x, rfl, h1, hm, h2, fun i hi => ?_, h4⟩
    rw [hb.cell (p := x.add i) (World.block_lt_of_cell? w _ (h3 i hi))]
    exact h3 i hi

theorem size_alloc1 (w : World) (o : Obj) : (w.alloc o).heap.size = w.heap.size + 1 := by simp
/-- What the opening of a reader leaves. -/
def OpenPost (w : World) (a : Option Addr) (zs : List Int) (e : Ending) (w' : World) : Prop :=
  ∃ len cap, e = .returned (.pointer (some ⟨w.heap.size, 0, none⟩)) ∧ Rd w' w.heap.size a len cap zs 0 ∧ Below w.heap.size w w'
theorem rd_new {w : World} {a : Option Addr} {len cap n : Nat} {zs : List Int} (h : IsRow w a len cap zs) (T : TypeId) (hn : n ≤ len) (hn2 : n ≤ 2000) :
    Rd (w.alloc (.cells #[.slice a n cap, .int .i64 0] T)) w.heap.size a n cap zs 0 := by
  refine ⟨by go_simp, by go_simp, by go_simp, ?_, h.small, hn2, by simp⟩
  rcases h.old with h0 | ⟨cb, co, ha, _, _, h1, h2⟩
  · exact .inl (by omega)
  · refine .inr ⟨cb, co, ha, h1, fun i hi => ?_⟩
    rw [((Below.refl _ w).alloc (Nat.le_refl _) _).cell (p := ⟨cb, co + i, none⟩) h1]
    exact h2 i (by omega)
set_option maxRecDepth 100000 in
set_option maxHeartbeats 400000 in
theorem l16Open_any (a : Option Addr) (len cap : Nat) (zs : List Int) (w : World) (h : IsRow w a len cap zs) :
    Calls Tryd.prog 18 #[.slice a len cap] w (OpenPost w a zs) := by
  have HR := Lib.hid h
  have hm := h.len
  unfold maxLen at hm
  by_cases hl : 2000 < len
  · obtain ⟨cb, co, rfl, hlc, hcm, _, _⟩ : ∃ cb co, a = some ⟨cb, co, none⟩ ∧ len ≤ cap ∧ cap ≤ maxLen ∧ cb < w.heap.size ∧ ∀ i, i < len → w.cell? ⟨cb, co + i, none⟩ = some (.int .u8 (zs.getD i 0)) := by
      rcases h.old with h0 | h0
      · omega
      · exact h0
    unfold maxLen at hcm
    have h2k : 2000 ≤ cap := by omega
    clear h
    go_enter Tryd.func18, Tryd.ntmps18
    go_wp2
    go_ret
    exact ⟨2000, cap, rfl, rd_new HR.out _ (by omega) (by omega), (Below.refl _ _).alloc (Nat.le_refl _) _⟩
  · clear h
    go_enter Tryd.func18, Tryd.ntmps18
    go_wp2
    go_ret
    exact ⟨len, cap, rfl, rd_new HR.out _ (Nat.le_refl _) (by omega), (Below.refl _ _).alloc (Nat.le_refl _) _⟩

theorem below_set3 {B : Nat} {a w : World} (h : Below B a w) {b o1 o2 o3 : Nat} {x y z : Value} (hp : B ≤ b) : Below B a (((w.setCell ⟨b, o1, none⟩ x).setCell ⟨b, o2, none⟩ y).setCell ⟨b, o3, none⟩ z) :=
  ((h.setCell (p := ⟨b, o1, none⟩) hp x).setCell (p := ⟨b, o2, none⟩) hp y).setCell (p := ⟨b, o3, none⟩) hp z

/-- What the draw of a text and an edit leaves. -/
def EditPost (w : World) (e : Ending) (w' : World) : Prop :=
  ∃ (s : ByteArray) (f t : Int) (i : ByteArray), s.size ≤ 2010 ∧ i.size ≤ 16 ∧ e = .returned (.tuple #[.string s, .agg #[.int .i64 f, .int .i64 t, .string i]]) ∧ Below w.heap.size w w'




end Go.Proofs.YtpihopmgckdigaaDoor
