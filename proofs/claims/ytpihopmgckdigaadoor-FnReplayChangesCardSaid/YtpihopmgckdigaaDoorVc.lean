/-
  strings.splitSeq$1 of the library, at a separator of one byte '\n': it yields the pieces of the string, in order; its own cells are the three boxes that it has captured.
-/
import Derived.Test.YtpihopmgckdigaaDoorVa
import Derived.Test.YtpihopmgckdigaaDoorVb
import Derived.RangeFuncBound
import Derived.RangeFuncLeaves
import Derived.Shelf.Abstract
import Derived.Shelf.RegionOpen
import Derived.WalkKit
import Derived.OwnWalkIn
import Derived.TacticsInMore
import Derived.LoopNIn
import Derived.LoopIn
import Derived.Lib.IndexBytes
namespace Go.Proofs.YtpihopmgckdigaaDoor
open Go.RowKit Go.Shelf
attribute [local go_sem] Oper.semAt_some

/-- The three boxes from A on. -/
def Own3 (A r : Nat) : Prop := A ≤ r ∧ r < A + 3

theorem cell_same {W W' : World} {b i : Nat} (h : W'.heap[b]? = W.heap[b]?) : W'.cell? ⟨b, i, none⟩ = W.cell? ⟨b, i, none⟩ := by simp [World.cell?, h]
theorem frozen_same {W W' : World} {b i : Nat} (h : W'.heap[b]? = W.heap[b]?) : W'.frozen? ⟨b, i, none⟩ = W.frozen? ⟨b, i, none⟩ := by simp [World.frozen?, h]

/-- What the three boxes hold: the rest of the string, the separator, 0. -/
structure Boxes3 (W : World) (A : Nat) (r : ByteArray) : Prop where
  lt : A + 2 < W.heap.size
  s : W.cell? ⟨A, 0, none⟩ = some (.string r)
  sf : W.frozen? ⟨A, 0, none⟩ = false
  sep : W.cell? ⟨A + 1, 0, none⟩ = some (.string ⟨#[10]⟩)
  save : W.cell? ⟨A + 2, 0, none⟩ = some (.int .i64 0)
theorem Boxes3.keep {W W' : World} {A : Nat} {r : ByteArray} (h : Boxes3 W A r) (k : KeepsAt (Own3 A) W W') : Boxes3 W' A r :=
  have l := h.lt
  ⟨Nat.lt_of_lt_of_le h.lt k.size, (cell_same (k.same A ⟨by omega, by omega⟩ (by omega))).trans h.s, (frozen_same (k.same A ⟨by omega, by omega⟩ (by omega))).trans h.sf,
    (cell_same (k.same (A + 1) ⟨by omega, by omega⟩ (by omega))).trans h.sep, (cell_same (k.same (A + 2) ⟨by omega, by omega⟩ (by omega))).trans h.save⟩

/-- No byte 10 between a and b: nothing is cut off there. -/
theorem cutN_skip (s : ByteArray) (a : Nat) : ∀ d : Nat, a + d ≤ s.size → (∀ j, a ≤ j → j < a + d → s.data[j]! ≠ 10) → cutN s 10 (a + d) = cutN s 10 a
  | 0, _, _ => rfl
  | d + 1, h, hn => by
    have ih := cutN_skip s a d (by omega) (fun j h1 h2 => hn j h1 (by omega))
    rw [show a + (d + 1) = (a + d) + 1 from rfl, cutN_miss s 10 (a + d) ?_, ih]
    rintro (e | e)
    · omega
    · have := hn (a + d) (by omega) (by omega)
      apply this
      have e2 : (s.data[a + d]!).toNat = 10 := by omega
      exact UInt8.toNat_inj.1 (by rw [e2]; rfl)

/-- The byte k + i of s in the rest from k on. -/
theorem rest_at (s : ByteArray) (k i : Nat) (h : k + i < s.size) : (s.extract k s.size).data.toList[i]? = some (s.data[k + i]!) := by
  have h2 : k + i < s.data.size := h
  rw [ByteArray.data_extract]
  rw [Array.getElem?_toList, Array.getElem?_extract]
  rw [if_pos (by simp; omega), getElem!_pos s.data (k + i) h2]
  simp

theorem cut_step {s : ByteArray} {k i : Nat} (hk : (cutN s 10 k).2 = k) (hks : k ≤ s.size) (h : Lib.indexByte (s.extract k s.size).data.toList 10 = (i : Int)) :
    k + i < s.size ∧ cutN s 10 (k + i + 1) = ((cutN s 10 k).1 ++ [s.extract k (k + i)], k + i + 1) := by
  obtain ⟨h1, h2⟩ := Lib.indexByte_some h
  have hlt : k + i < s.size := by
    have := (List.getElem?_eq_some_iff.1 h1).1
    simp [ByteArray.data_extract] at this
    have e : s.data.size = s.size := rfl
    omega
  have hsk := cutN_skip s k i (by omega) (fun j hj1 hj2 e => by
    have := h2 (j - k) (by omega)
    rw [rest_at s k (j - k) (by omega), show k + (j - k) = j by omega, e] at this
    exact this rfl)
  rw [rest_at s k i hlt] at h1
  refine ⟨hlt, ?_⟩
  rw [cutN_hit s 10 (k + i) (.inr (by injection h1 with h1; rw [h1]; rfl)), hsk, hk]

theorem cut_last {s : ByteArray} {k : Nat} (hk : (cutN s 10 k).2 = k) (hks : k ≤ s.size) (h : Lib.indexByte (s.extract k s.size).data.toList 10 = -1) :
    cut s 10 = (cutN s 10 k).1 ++ [s.extract k s.size] := by
  have h2 := Lib.indexByte_none h
  have hsk := cutN_skip s k (s.size - k) (by omega) (fun j hj1 hj2 e => by
    have := h2 (j - k)
    rw [rest_at s k (j - k) (by omega), show k + (j - k) = j by omega, e] at this
    exact this rfl)
  rw [show k + (s.size - k) = s.size by omega] at hsk
  unfold cut
  rw [cutN_hit s 10 s.size (.inl rfl), hsk, hk]

end Go.Proofs.YtpihopmgckdigaaDoor
