/-
  Rows of numbers, and the exact laws' functions that compare and look at them (out of the texts on the variables of types).
-/
import Derived.Test.YtkekghdkbbjhpaaGreatDoorZf
import Derived.Test.YtkekghdkbbjhpaaGreatDoorZh
import Derived.BigQuiet
namespace Go.Proofs.YtkekghdkbbjhpaaGreatDoor
open Go.RowKit

abbrev IntsAt (w : World) (B : Nat) (v : Value) (l : List Int) : Prop := w.ownsRow B 3 1 v l.length (l.map (Value.int .i64))
theorem ints_slice {w : World} {B : Nat} {v : Value} {l : List Int} (h : IntsAt w B v l) : ∃ a cap, v = .slice a l.length cap := by
  obtain ⟨hl, ⟨rfl, h0⟩ | ⟨g, cap, cur, rfl, _⟩⟩ := h
  · exact ⟨none, 0, by rw [h0]⟩
  · exact ⟨_, cap, rfl⟩
theorem ints_at {w : World} {B : Nat} {v : Value} {l : List Int} (h : IntsAt w B v l) (k : Nat) (hk : k < l.length) :
    ∃ b cap, v = .slice (some ⟨b, 0, none⟩) l.length cap ∧ B ≤ b ∧ b < w.heap.size ∧ w.cell? ⟨b, k, none⟩ = some (.int .i64 (l.getD k 0)) := by
  have h' := h
  obtain ⟨hl, ⟨rfl, h0⟩ | ⟨g, cap, cur, rfl, hb', ho, h1, h2, h3, h4⟩⟩ := h
  · omega
  · refine ⟨g, cap, rfl, hb', (Array.getElem?_eq_some_iff.1 ho).1, ?_⟩
    rw [h'.cellAt k (by omega)]
    simp [List.getD, hk]
theorem ints_below {w w' : World} {B : Nat} {v : Value} {l : List Int} (h : IntsAt w B v l) (hb : Below w.heap.size w w') : IntsAt w' B v l := own_below h hb
theorem ints_low {w w' : World} {B C : Nat} {v : Value} {l : List Int} (h : IntsAt w B v l) (hlt : ∀ g, v.ownBlock = some g → g < C) (hb : Below C w w') : IntsAt w' B v l := by
  obtain ⟨hl, h | ⟨g, cap, cur, rfl, hb', ho, h1, h2, h3, h4⟩⟩ := h
  · exact ⟨hl, .inl h⟩
  · exact ⟨hl, .inr ⟨g, cap, cur, rfl, hb', (hb.block g (hlt g rfl)).trans ho, h1, h2, h3, h4⟩⟩

set_option maxRecDepth 100000 in
set_option maxHeartbeats 1000000 in
theorem eqIntS_same (n1 n2 : Nat) (l : List Int) (hl : l.length ≤ 1000000) (v1 v2 : Value) (w : World) (h1 : IntsAt w n1 v1 l) (h2 : IntsAt w n2 v2 l) :
    Calls Tryz.prog 47 #[v1, v2] w fun e w' => e = .returned (.bool true) ∧ Below w.heap.size w w' := by
  have H1 := Lib.hid h1
  have H2 := Lib.hid h2
  obtain ⟨a1, c1, rfl⟩ := ints_slice h1
  obtain ⟨a2, c2, rfl⟩ := ints_slice h2
  clear h1 h2
  obtain ⟨L, hL⟩ : ∃ L, l.length = L := ⟨_, rfl⟩
  have HL := Lib.hid hL
  rw [hL] at hl ⊢
  clear hL
  go_enter Tryz.func47, Tryz.ntmps47
  go_wp2
  go_loopw [5] (fun i wr => ∃ k : Nat, k ≤ L ∧ i = .int .i64 k ∧ Below w.heap.size w wr) (fun i _ => L - (intOf i).toNat)
  case atStart => exact ⟨0, Nat.zero_le _, rfl, Below.refl _ _⟩
  case round =>
    obtain ⟨k, hk, rfl, hB⟩ := hrel
    by_cases hlt : k < L
    · obtain ⟨b1, d1, e1, _, l1, x1⟩ := ints_at H1.out k (by rw [HL.out]; exact hlt)
      obtain ⟨b2, d2, e2, _, l2, x2⟩ := ints_at H2.out k (by rw [HL.out]; exact hlt)
      have f1 : a1 = some ⟨b1, 0, none⟩ := by injection e1
      have f2 : a2 = some ⟨b2, 0, none⟩ := by injection e2
      subst f1 f2
      clear e1 e2
      have y1 := (hB.cell (p := ⟨b1, k, none⟩) l1).trans x1
      have y2 := (hB.cell (p := ⟨b2, k, none⟩) l2).trans x2
      have HB := Lib.hid hB
      have hki : (k : Int) < (L : Int) := by omega
      clear x1 x2 hB
      go_wp2_with fail
      go_quiet (fail)
      go_wp2_with fail
      refine ⟨⟨k + 1, by omega, by go_num, ?_⟩, by simp [intOf]; omega⟩
      exact below_drewN HB.out _
    · have hki : ¬ (k : Int) < (L : Int) := by omega
      go_wp2_with fail
      go_ret
      exact ⟨rfl, hB⟩

/-- The marks from K on. -/
def marksI (K L : Nat) : List Int := (List.range L).map fun i => ((K + i : Nat) : Int)
theorem marksI_len (K L : Nat) : (marksI K L).length = L := by unfold marksI; simp


set_option maxRecDepth 100000 in
set_option maxHeartbeats 1000000 in
theorem heldIntS_any (n0 K : Nat) (L : Nat) (hl : L ≤ 1000000) (hK : K ≤ 1000000) (v : Value) (w : World) (h : IntsAt w n0 v (marksI K L)) :
    Calls Tryz.prog 51 #[v, .int .i64 K] w fun e w' => e = .returned (.int .i64 ((K + L : Nat) : Int)) ∧ Below w.heap.size w w' := by
  have H := Lib.hid h
  obtain ⟨a, c, hv⟩ := ints_slice h
  rw [marksI_len] at hv
  subst hv
  clear h
  go_enter Tryz.func51, Tryz.ntmps51
  go_wp2
  go_loopw [1, 5] (fun m i wr => ∃ (k : Nat), k ≤ L ∧ i = .int .i64 k ∧ m = .int .i64 ((K + k : Nat) : Int) ∧ Below w.heap.size w wr) (fun _ i _ => L - (intOf i).toNat)
  case atStart => exact ⟨0, Nat.zero_le _, rfl, rfl, Below.refl _ _⟩
  case round =>
    obtain ⟨k, hk, rfl, rfl, hB⟩ := hrel
    have HB := Lib.hid hB
    by_cases hlt : k < L
    · obtain ⟨b1, d1, e1, n1, l1, x1⟩ := ints_at H.out k (by rw [marksI_len]; exact hlt)
      have f1 : a = some ⟨b1, 0, none⟩ := by injection e1
      subst f1
      have hki : (k : Int) < (L : Int) := by omega
      have hx1 : wr.cell? ⟨b1, k, none⟩ = some (.int .i64 ((K : Int) + (k : Int))) := by
        refine (hB.cell (p := ⟨b1, k, none⟩) l1).trans (x1.trans ?_)
        simp [List.getD, hlt, marksI]
      clear e1 hB x1
      go_wp2_with fail
      exact ⟨⟨k + 1, by omega, by go_num, by push_cast; rw [Int.add_assoc], HB.out⟩, by simp [intOf]; omega⟩
    · have hki : ¬ (k : Int) < (L : Int) := by omega
      have hkl : k = L := by omega
      subst hkl
      clear hB hlt
      go_wp2_with fail
      go_ret
      exact ⟨rfl, HB.out⟩
end Go.Proofs.YtkekghdkbbjhpaaGreatDoor
