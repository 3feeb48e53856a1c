/-
  The exact laws' copies of lines: in blocks of their own; what was in memory stays.
-/
import Derived.Test.YtncpakpamfocbaaMa
namespace Go.Proofs.Ytncpakpamfocbaa
open Go.RowKit

def ToLnPost (l : Ln) (w : World) (e : Ending) (w' : World) : Prop := ∃ vt ve B, e = .returned (.agg #[.int .i64 l.k, .string l.s, .int .i64 l.t.k, .int .i64 l.t.n, vt, .int .i64 l.e.k, .int .i64 l.e.n, .string l.e.m, .string l.e.s, ve, .int .i64 l.c]) ∧ w.heap.size ≤ B ∧ B ≤ w'.heap.size ∧ TyIn w' w.heap.size B l.t vt ∧ ExIn w' B w'.heap.size l.e ve ∧ Below w.heap.size w w'
/-- The frozen marks of eleven cells. -/
def Thaw (w : World) (B : Nat) : Prop := ∀ i, i < 11 → w.frozen? ⟨B, i, none⟩ = false
theorem Thaw.kept {w w' : World} {B : Nat} (h : Thaw w B) (hb : Below w.heap.size w w') (hl : B < w.heap.size) : Thaw w' B := fun i hi => (hb.frozen (p := ⟨B, i, none⟩) hl).trans (h i hi)
theorem thaw_new (w : World) (v0 v1 v2 v3 v4 v5 v6 v7 v8 v9 v10 : Value) (T : TypeId) : Thaw (w.alloc (.cells #[v0, v1, v2, v3, v4, v5, v6, v7, v8, v9, v10] T)) w.heap.size := by
  intro i hi
  obtain rfl | rfl | rfl | rfl | rfl | rfl | rfl | rfl | rfl | rfl | rfl : i = 0 ∨ i = 1 ∨ i = 2 ∨ i = 3 ∨ i = 4 ∨ i = 5 ∨ i = 6 ∨ i = 7 ∨ i = 8 ∨ i = 9 ∨ i = 10 := by omega
  all_goals go_simp
theorem sizeA2 (w : World) (o : Obj) : (w.alloc o).heap.size = w.heap.size + 1 := by simp

set_option maxRecDepth 100000 in
set_option maxHeartbeats 1000000 in
theorem lbox_set3 {w : World} {B : Nat} {v0 v1 v2 v3 v4 v5 v6 v7 v8 v9 v10 a b c : Value} (h : LBox w B v0 v1 v2 v3 v4 v5 v6 v7 v8 v9 v10) (f : Thaw w B) :
    LBox (((w.setCell ⟨B, 2, none⟩ a).setCell ⟨B, 3, none⟩ b).setCell ⟨B, 4, none⟩ c) B v0 v1 a b c v5 v6 v7 v8 v9 v10 ∧ Thaw (((w.setCell ⟨B, 2, none⟩ a).setCell ⟨B, 3, none⟩ b).setCell ⟨B, 4, none⟩ c) B := by
  obtain ⟨q0, q1, q2, q3, q4, q5, q6, q7, q8, q9, q10, qz⟩ := h
  have qf0 := f 0 (by omega)
  have qf1 := f 1 (by omega)
  have qf2 := f 2 (by omega)
  have qf3 := f 3 (by omega)
  have qf4 := f 4 (by omega)
  have qf5 := f 5 (by omega)
  have qf6 := f 6 (by omega)
  have qf7 := f 7 (by omega)
  have qf8 := f 8 (by omega)
  have qf9 := f 9 (by omega)
  have qf10 := f 10 (by omega)
  refine ⟨⟨by go_simp, by go_simp, by go_simp, by go_simp, by go_simp, by go_simp, by go_simp, by go_simp, by go_simp, by go_simp, by go_simp, by simp; exact qz⟩, ?_⟩
  intro i hi
  obtain rfl | rfl | rfl | rfl | rfl | rfl | rfl | rfl | rfl | rfl | rfl : i = 0 ∨ i = 1 ∨ i = 2 ∨ i = 3 ∨ i = 4 ∨ i = 5 ∨ i = 6 ∨ i = 7 ∨ i = 8 ∨ i = 9 ∨ i = 10 := by omega
  all_goals go_simp
set_option maxRecDepth 100000 in
set_option maxHeartbeats 8000000 in
theorem toLine_any (l : Ln) (ct ce : Nat) (vt ve : Value) (w : World) (hc : LnCnt l ct ce) (hct1 : ct ≤ 1048576) (hce1 : ce ≤ 1048576) (ht : TyAt w l.t vt) (he : ExAt w l.e ve) :
    Calls Try.prog 26 #[.agg #[.int .i64 l.k, .string l.s, .int .i64 l.t.k, .int .i64 l.t.n, vt, .int .i64 l.e.k, .int .i64 l.e.n, .string l.e.m, .string l.e.s, ve, .int .i64 l.c]] w (ToLnPost l w) := by
  obtain ⟨_, hct, hce⟩ := hc
  have HT := Lib.hid ht
  have HE := Lib.hid he
  have HCT := Lib.hid hct
  have HCE := Lib.hid hce
  obtain ⟨ta, tc, rfl, _⟩ := ht.slice
  obtain ⟨ea, ec, rfl, _⟩ := he.slice
  clear ht he hct hce
  obtain ⟨S, hS⟩ : ∃ S, w.heap.size = S := ⟨_, rfl⟩
  obtain ⟨W3, hW3⟩ : ∃ W, (((w.alloc (.cells #[.int .i64 l.k, .string l.s, .int .i64 l.t.k, .int .i64 l.t.n, .slice ta l.t.ks.length tc, .int .i64 l.e.k, .int .i64 l.e.n, .string l.e.m, .string l.e.s, .slice ea l.e.ks.length ec, .int .i64 l.c] 46)).alloc (.cells #[.int .i64 0, .string ⟨#[]⟩, .int .i64 0, .int .i64 0, .slice none 0 0, .int .i64 0, .int .i64 0, .string ⟨#[]⟩, .string ⟨#[]⟩, .slice none 0 0, .int .i64 0] 53)).alloc (.cells #[.int .i64 l.k, .string l.s, .int .i64 0, .int .i64 0, .slice none 0 0, .int .i64 0, .int .i64 0, .string ⟨#[]⟩, .string ⟨#[]⟩, .slice none 0 0, .int .i64 0] 53)) = W := ⟨_, rfl⟩
  have HBA : Hid (Below w.heap.size w W3) := Lib.hid (by rw [← hW3]; exact (((Below.refl _ _).alloc (Nat.le_refl _) _).alloc (by simp) _).alloc (by simp; omega) _)
  have HA3 : Hid (LBox W3 S (.int .i64 l.k) (.string l.s) (.int .i64 l.t.k) (.int .i64 l.t.n) (.slice ta l.t.ks.length tc) (.int .i64 l.e.k) (.int .i64 l.e.n) (.string l.e.m) (.string l.e.s) (.slice ea l.e.ks.length ec) (.int .i64 l.c)) := Lib.hid (by
    rw [← hW3, ← hS]
    exact ((lbox_new w _ _ _ _ _ _ _ _ _ _ _ _).kept ((Below.refl _ _).alloc (Nat.le_refl _) _)).kept ((Below.refl _ _).alloc (Nat.le_refl _) _))
  have HP3 : Hid (LBox W3 (S + 1) (.int .i64 0) (.string ⟨#[]⟩) (.int .i64 0) (.int .i64 0) (.slice none 0 0) (.int .i64 0) (.int .i64 0) (.string ⟨#[]⟩) (.string ⟨#[]⟩) (.slice none 0 0) (.int .i64 0)) := Lib.hid (by
    have h := (lbox_new (w.alloc (.cells #[.int .i64 l.k, .string l.s, .int .i64 l.t.k, .int .i64 l.t.n, .slice ta l.t.ks.length tc, .int .i64 l.e.k, .int .i64 l.e.n, .string l.e.m, .string l.e.s, .slice ea l.e.ks.length ec, .int .i64 l.c] 46)) (.int .i64 0) (.string ⟨#[]⟩) (.int .i64 0) (.int .i64 0) (.slice none 0 0) (.int .i64 0) (.int .i64 0) (.string ⟨#[]⟩) (.string ⟨#[]⟩) (.slice none 0 0) (.int .i64 0) 53).kept (w' := W3) (by rw [← hW3]; exact (Below.refl _ _).alloc (Nat.le_refl _) _)
    rw [sizeA2, hS] at h; exact h)
  have HQ3 : Hid (LBox W3 (S + 1 + 1) (.int .i64 l.k) (.string l.s) (.int .i64 0) (.int .i64 0) (.slice none 0 0) (.int .i64 0) (.int .i64 0) (.string ⟨#[]⟩) (.string ⟨#[]⟩) (.slice none 0 0) (.int .i64 0)) := Lib.hid (by
    have h := lbox_new ((w.alloc (.cells #[.int .i64 l.k, .string l.s, .int .i64 l.t.k, .int .i64 l.t.n, .slice ta l.t.ks.length tc, .int .i64 l.e.k, .int .i64 l.e.n, .string l.e.m, .string l.e.s, .slice ea l.e.ks.length ec, .int .i64 l.c] 46)).alloc (.cells #[.int .i64 0, .string ⟨#[]⟩, .int .i64 0, .int .i64 0, .slice none 0 0, .int .i64 0, .int .i64 0, .string ⟨#[]⟩, .string ⟨#[]⟩, .slice none 0 0, .int .i64 0] 53)) (.int .i64 l.k) (.string l.s) (.int .i64 0) (.int .i64 0) (.slice none 0 0) (.int .i64 0) (.int .i64 0) (.string ⟨#[]⟩) (.string ⟨#[]⟩) (.slice none 0 0) (.int .i64 0) 53
    rw [hW3, sizeA2, sizeA2, hS] at h; exact h)
  have HFP3 : Hid (Thaw W3 (S + 1)) := Lib.hid (by
    have h := (thaw_new (w.alloc (.cells #[.int .i64 l.k, .string l.s, .int .i64 l.t.k, .int .i64 l.t.n, .slice ta l.t.ks.length tc, .int .i64 l.e.k, .int .i64 l.e.n, .string l.e.m, .string l.e.s, .slice ea l.e.ks.length ec, .int .i64 l.c] 46)) (.int .i64 0) (.string ⟨#[]⟩) (.int .i64 0) (.int .i64 0) (.slice none 0 0) (.int .i64 0) (.int .i64 0) (.string ⟨#[]⟩) (.string ⟨#[]⟩) (.slice none 0 0) (.int .i64 0) 53).kept (w' := W3) (by rw [← hW3]; exact (Below.refl _ _).alloc (Nat.le_refl _) _) (by simp)
    rw [sizeA2, hS] at h; exact h)
  have HFQ3 : Hid (Thaw W3 (S + 1 + 1)) := Lib.hid (by
    have h := thaw_new ((w.alloc (.cells #[.int .i64 l.k, .string l.s, .int .i64 l.t.k, .int .i64 l.t.n, .slice ta l.t.ks.length tc, .int .i64 l.e.k, .int .i64 l.e.n, .string l.e.m, .string l.e.s, .slice ea l.e.ks.length ec, .int .i64 l.c] 46)).alloc (.cells #[.int .i64 0, .string ⟨#[]⟩, .int .i64 0, .int .i64 0, .slice none 0 0, .int .i64 0, .int .i64 0, .string ⟨#[]⟩, .string ⟨#[]⟩, .slice none 0 0, .int .i64 0] 53)) (.int .i64 l.k) (.string l.s) (.int .i64 0) (.int .i64 0) (.slice none 0 0) (.int .i64 0) (.int .i64 0) (.string ⟨#[]⟩) (.string ⟨#[]⟩) (.slice none 0 0) (.int .i64 0) 53
    rw [hW3, sizeA2, sizeA2, hS] at h; exact h)
  have hz3 : S + 3 = W3.heap.size := by rw [← hW3, ← hS]; simp
  have HZ3 := Lib.hid hz3
  have HW3 := Lib.hid hW3
  have HS := Lib.hid hS
  clear hW3
  go_enter Try.func26, Try.ntmps26
  go_wp2_with fail
  rw [HW3.out]
  try rw [hS]
  obtain ⟨a0, a1, a2, a3, a4, a5, a6, a7, a8, a9, a10, az⟩ := HA3.out
  obtain ⟨p0, p1, p2, p3, p4, p5, p6, p7, p8, p9, p10, pz⟩ := HP3.out
  obtain ⟨q0, q1, q2, q3, q4, q5, q6, q7, q8, q9, q10, qz⟩ := HQ3.out
  have pf0 := HFP3.out 0 (by omega)
  have pf1 := HFP3.out 1 (by omega)
  have pf2 := HFP3.out 2 (by omega)
  have pf3 := HFP3.out 3 (by omega)
  have pf4 := HFP3.out 4 (by omega)
  have pf5 := HFP3.out 5 (by omega)
  have pf6 := HFP3.out 6 (by omega)
  have pf7 := HFP3.out 7 (by omega)
  have pf8 := HFP3.out 8 (by omega)
  have pf9 := HFP3.out 9 (by omega)
  have pf10 := HFP3.out 10 (by omega)
  have qf0 := HFQ3.out 0 (by omega)
  have qf1 := HFQ3.out 1 (by omega)
  have qf2 := HFQ3.out 2 (by omega)
  have qf3 := HFQ3.out 3 (by omega)
  have qf4 := HFQ3.out 4 (by omega)
  have qf5 := HFQ3.out 5 (by omega)
  have qf6 := HFQ3.out 6 (by omega)
  have qf7 := HFQ3.out 7 (by omega)
  have qf8 := HFQ3.out 8 (by omega)
  have qf9 := HFQ3.out 9 (by omega)
  have qf10 := HFQ3.out 10 (by omega)
  go_at_call 47
  refine (toType_any _ l.t ct _ _ (Nat.lt_succ_self _) HCT.out hct1 (HT.out.kept HBA.out)).mono ?_
  rintro e w4 ⟨v4, rfl, hty, hb4⟩
  obtain ⟨u4, j4, rfl, _⟩ := hty.at.slice
  have HA4 := Lib.hid (HA3.out.kept hb4)
  have HP4 := Lib.hid (HP3.out.kept hb4)
  have HQ4 := Lib.hid (HQ3.out.kept hb4)
  have HFP4 := Lib.hid (HFP3.out.kept hb4 (by omega))
  have HFQ4 := Lib.hid (HFQ3.out.kept hb4 (by omega))
  have HB4 := Lib.hid (HBA.out.trans (hb4.mono HBA.out.size))
  have HZ4 := Lib.hid (show S + 3 ≤ w4.heap.size from by have := hb4.size; omega)
  have HTY := Lib.hid (hty.wide (lo' := S + 3) (by omega) (Nat.le_refl _))
  clear hty hb4 a0 a1 a2 a3 a4 a5 a6 a7 a8 a9 a10 az p0 p1 p2 p3 p4 p5 p6 p7 p8 p9 p10 pz q0 q1 q2 q3 q4 q5 q6 q7 q8 q9 q10 qz pf0 qf0 pf1 qf1 pf2 qf2 pf3 qf3 pf4 qf4 pf5 qf5 pf6 qf6 pf7 qf7 pf8 qf8 pf9 qf9 pf10 qf10
  obtain ⟨a0, a1, a2, a3, a4, a5, a6, a7, a8, a9, a10, az⟩ := HA4.out
  obtain ⟨p0, p1, p2, p3, p4, p5, p6, p7, p8, p9, p10, pz⟩ := HP4.out
  obtain ⟨q0, q1, q2, q3, q4, q5, q6, q7, q8, q9, q10, qz⟩ := HQ4.out
  have pf0 := HFP4.out 0 (by omega)
  have pf1 := HFP4.out 1 (by omega)
  have pf2 := HFP4.out 2 (by omega)
  have pf3 := HFP4.out 3 (by omega)
  have pf4 := HFP4.out 4 (by omega)
  have pf5 := HFP4.out 5 (by omega)
  have pf6 := HFP4.out 6 (by omega)
  have pf7 := HFP4.out 7 (by omega)
  have pf8 := HFP4.out 8 (by omega)
  have pf9 := HFP4.out 9 (by omega)
  have pf10 := HFP4.out 10 (by omega)
  have qf0 := HFQ4.out 0 (by omega)
  have qf1 := HFQ4.out 1 (by omega)
  have qf2 := HFQ4.out 2 (by omega)
  have qf3 := HFQ4.out 3 (by omega)
  have qf4 := HFQ4.out 4 (by omega)
  have qf5 := HFQ4.out 5 (by omega)
  have qf6 := HFQ4.out 6 (by omega)
  have qf7 := HFQ4.out 7 (by omega)
  have qf8 := HFQ4.out 8 (by omega)
  have qf9 := HFQ4.out 9 (by omega)
  have qf10 := HFQ4.out 10 (by omega)
  go_wp2_with fail
  obtain ⟨W5, hW5⟩ : ∃ W, ((w4.setCell ⟨S + 1 + 1, 2, none⟩ (.int .i64 l.t.k)).setCell ⟨S + 1 + 1, 3, none⟩ (.int .i64 l.t.n)).setCell ⟨S + 1 + 1, 4, none⟩ (.slice u4 l.t.ks.length j4) = W := ⟨_, rfl⟩
  have hold5 : ∀ b, b ≠ S + 1 + 1 → W5.heap[b]? = w4.heap[b]? := by
    intro b hb
    rw [← hW5, heap_setCell_other _ ⟨S + 1 + 1, 4, none⟩ b _ hb, heap_setCell_other _ ⟨S + 1 + 1, 3, none⟩ b _ hb, heap_setCell_other _ ⟨S + 1 + 1, 2, none⟩ b _ hb]
  have hz5 : W5.heap.size = w4.heap.size := by rw [← hW5]; simp
  have HB5 : Hid (Below w.heap.size w W5) := Lib.hid (by
    rw [← hW5]
    exact ((HB4.out.setCell (p := ⟨S + 1 + 1, 2, none⟩) (by show w.heap.size ≤ S + 1 + 1; omega) _).setCell (p := ⟨S + 1 + 1, 3, none⟩) (by show w.heap.size ≤ S + 1 + 1; omega) _).setCell (p := ⟨S + 1 + 1, 4, none⟩) (by show w.heap.size ≤ S + 1 + 1; omega) _)
  have HA5 := Lib.hid (HA4.out.aside (Nat.le_of_eq hz5.symm) (hold5 _ (by omega)))
  have HP5 := Lib.hid (HP4.out.aside (Nat.le_of_eq hz5.symm) (hold5 _ (by omega)))
  obtain ⟨hq5, hfq5⟩ := lbox_set3 (a := .int .i64 l.t.k) (b := .int .i64 l.t.n) (c := .slice u4 l.t.ks.length j4) HQ4.out HFQ4.out
  rw [hW5] at hq5 hfq5
  have HQ5 := Lib.hid hq5
  have HFQ5 := Lib.hid hfq5
  have HFP5 : Hid (Thaw W5 (S + 1)) := Lib.hid (fun i hi => (frozenEq (hold5 _ (by omega))).trans (HFP4.out i hi))
  have HTY5 : Hid (TyIn W5 (S + 3) W5.heap.size l.t (.slice u4 l.t.ks.length j4)) := Lib.hid (by rw [hz5]; exact HTY.out.keep (Nat.le_of_eq hz5.symm) (fun b h1 _ _ => hold5 b (by omega)))
  have HZ5 := Lib.hid (show S + 3 ≤ W5.heap.size from by have := HZ4.out; omega)
  have HW5 := Lib.hid hW5
  clear hW5 hold5 hz5 hq5 hfq5 a0 a1 a2 a3 a4 a5 a6 a7 a8 a9 a10 az p0 p1 p2 p3 p4 p5 p6 p7 p8 p9 p10 pz q0 q1 q2 q3 q4 q5 q6 q7 q8 q9 q10 qz pf0 qf0 pf1 qf1 pf2 qf2 pf3 qf3 pf4 qf4 pf5 qf5 pf6 qf6 pf7 qf7 pf8 qf8 pf9 qf9 pf10 qf10
  rw [HW5.out]
  go_at_call 10
  refine (Ox.toExpr_any _ l.e ce _ _ (Nat.lt_succ_self _) HCE.out hce1 (HE.out.kept HB5.out)).mono ?_
  rintro e w6 ⟨v6, rfl, hex, hb6⟩
  obtain ⟨u6, j6, rfl, _⟩ := hex.at.slice
  have HA6 := Lib.hid (HA5.out.kept hb6)
  have HP6 := Lib.hid (HP5.out.kept hb6)
  have HQ6 := Lib.hid (HQ5.out.kept hb6)
  have HFP6 := Lib.hid (HFP5.out.kept hb6 (by have := HZ5.out; omega))
  have HFQ6 := Lib.hid (HFQ5.out.kept hb6 (by have := HZ5.out; omega))
  have HB6 := Lib.hid (HB5.out.trans (hb6.mono HB5.out.size))
  have hz6 : W5.heap.size ≤ w6.heap.size := hb6.size
  have HTY6 := Lib.hid (HTY5.out.kept hb6)
  have HEX := Lib.hid hex
  clear hex hb6
  obtain ⟨a0, a1, a2, a3, a4, a5, a6, a7, a8, a9, a10, az⟩ := HA6.out
  obtain ⟨p0, p1, p2, p3, p4, p5, p6, p7, p8, p9, p10, pz⟩ := HP6.out
  obtain ⟨q0, q1, q2, q3, q4, q5, q6, q7, q8, q9, q10, qz⟩ := HQ6.out
  have pf0 := HFP6.out 0 (by omega)
  have pf1 := HFP6.out 1 (by omega)
  have pf2 := HFP6.out 2 (by omega)
  have pf3 := HFP6.out 3 (by omega)
  have pf4 := HFP6.out 4 (by omega)
  have pf5 := HFP6.out 5 (by omega)
  have pf6 := HFP6.out 6 (by omega)
  have pf7 := HFP6.out 7 (by omega)
  have pf8 := HFP6.out 8 (by omega)
  have pf9 := HFP6.out 9 (by omega)
  have pf10 := HFP6.out 10 (by omega)
  have qf0 := HFQ6.out 0 (by omega)
  have qf1 := HFQ6.out 1 (by omega)
  have qf2 := HFQ6.out 2 (by omega)
  have qf3 := HFQ6.out 3 (by omega)
  have qf4 := HFQ6.out 4 (by omega)
  have qf5 := HFQ6.out 5 (by omega)
  have qf6 := HFQ6.out 6 (by omega)
  have qf7 := HFQ6.out 7 (by omega)
  have qf8 := HFQ6.out 8 (by omega)
  have qf9 := HFQ6.out 9 (by omega)
  have qf10 := HFQ6.out 10 (by omega)
  go_wp2_with fail
  refine bodyPost_ret (v := .agg #[.int .i64 l.k, .string l.s, .int .i64 l.t.k, .int .i64 l.t.n, .slice u4 l.t.ks.length j4, .int .i64 l.e.k, .int .i64 l.e.n, .string l.e.m, .string l.e.s, .slice u6 l.e.ks.length j6, .int .i64 l.c]) (by simp [results, Try.results26, go_sem, p0, p1, p2, p3, p4, p5, p6, p7, p8, p9, p10]) rfl ⟨_, _, W5.heap.size, rfl, ?_, ?_, ?_, ?_, ?_⟩
  · have := HZ5.out; omega
  · simp; exact hz6
  · refine (HTY6.out.keep ?_ (fun b h1 _ _ => ?_)).wide (by omega) (Nat.le_refl _)
    · simp
    · have hb1 : b ≠ S + 1 := by omega
      have hb2 : b ≠ S + 1 + 1 := by omega
      rw [heap_setCell_other _ ⟨S + 1, 10, none⟩ b _ hb1, heap_setCell_other _ ⟨S + 1, 9, none⟩ b _ hb1, heap_setCell_other _ ⟨S + 1, 8, none⟩ b _ hb1, heap_setCell_other _ ⟨S + 1, 7, none⟩ b _ hb1, heap_setCell_other _ ⟨S + 1, 6, none⟩ b _ hb1, heap_setCell_other _ ⟨S + 1, 5, none⟩ b _ hb1, heap_setCell_other _ ⟨S + 1, 4, none⟩ b _ hb1, heap_setCell_other _ ⟨S + 1, 3, none⟩ b _ hb1, heap_setCell_other _ ⟨S + 1, 2, none⟩ b _ hb1, heap_setCell_other _ ⟨S + 1, 1, none⟩ b _ hb1, heap_setCell_other _ ⟨S + 1, 0, none⟩ b _ hb1, heap_setCell_other _ ⟨S + 1 + 1, 10, none⟩ b _ hb2, heap_setCell_other _ ⟨S + 1 + 1, 9, none⟩ b _ hb2, heap_setCell_other _ ⟨S + 1 + 1, 8, none⟩ b _ hb2, heap_setCell_other _ ⟨S + 1 + 1, 7, none⟩ b _ hb2, heap_setCell_other _ ⟨S + 1 + 1, 6, none⟩ b _ hb2, heap_setCell_other _ ⟨S + 1 + 1, 5, none⟩ b _ hb2]
  · refine (HEX.out.keep ?_ (fun b h1 _ _ => ?_)).wide (Nat.le_refl _) ?_
    · simp
    · have h5 := HZ5.out
      have hb1 : b ≠ S + 1 := by omega
      have hb2 : b ≠ S + 1 + 1 := by omega
      rw [heap_setCell_other _ ⟨S + 1, 10, none⟩ b _ hb1, heap_setCell_other _ ⟨S + 1, 9, none⟩ b _ hb1, heap_setCell_other _ ⟨S + 1, 8, none⟩ b _ hb1, heap_setCell_other _ ⟨S + 1, 7, none⟩ b _ hb1, heap_setCell_other _ ⟨S + 1, 6, none⟩ b _ hb1, heap_setCell_other _ ⟨S + 1, 5, none⟩ b _ hb1, heap_setCell_other _ ⟨S + 1, 4, none⟩ b _ hb1, heap_setCell_other _ ⟨S + 1, 3, none⟩ b _ hb1, heap_setCell_other _ ⟨S + 1, 2, none⟩ b _ hb1, heap_setCell_other _ ⟨S + 1, 1, none⟩ b _ hb1, heap_setCell_other _ ⟨S + 1, 0, none⟩ b _ hb1, heap_setCell_other _ ⟨S + 1 + 1, 10, none⟩ b _ hb2, heap_setCell_other _ ⟨S + 1 + 1, 9, none⟩ b _ hb2, heap_setCell_other _ ⟨S + 1 + 1, 8, none⟩ b _ hb2, heap_setCell_other _ ⟨S + 1 + 1, 7, none⟩ b _ hb2, heap_setCell_other _ ⟨S + 1 + 1, 6, none⟩ b _ hb2, heap_setCell_other _ ⟨S + 1 + 1, 5, none⟩ b _ hb2]
    · simp
  · exact (((((((((((((((((HB6.out.setCell (p := ⟨S + 1 + 1, 5, none⟩) (by show w.heap.size ≤ S + 1 + 1; omega) _).setCell (p := ⟨S + 1 + 1, 6, none⟩) (by show w.heap.size ≤ S + 1 + 1; omega) _).setCell (p := ⟨S + 1 + 1, 7, none⟩) (by show w.heap.size ≤ S + 1 + 1; omega) _).setCell (p := ⟨S + 1 + 1, 8, none⟩) (by show w.heap.size ≤ S + 1 + 1; omega) _).setCell (p := ⟨S + 1 + 1, 9, none⟩) (by show w.heap.size ≤ S + 1 + 1; omega) _).setCell (p := ⟨S + 1 + 1, 10, none⟩) (by show w.heap.size ≤ S + 1 + 1; omega) _).setCell (p := ⟨S + 1, 0, none⟩) (by show w.heap.size ≤ S + 1; omega) _).setCell (p := ⟨S + 1, 1, none⟩) (by show w.heap.size ≤ S + 1; omega) _).setCell (p := ⟨S + 1, 2, none⟩) (by show w.heap.size ≤ S + 1; omega) _).setCell (p := ⟨S + 1, 3, none⟩) (by show w.heap.size ≤ S + 1; omega) _).setCell (p := ⟨S + 1, 4, none⟩) (by show w.heap.size ≤ S + 1; omega) _).setCell (p := ⟨S + 1, 5, none⟩) (by show w.heap.size ≤ S + 1; omega) _).setCell (p := ⟨S + 1, 6, none⟩) (by show w.heap.size ≤ S + 1; omega) _).setCell (p := ⟨S + 1, 7, none⟩) (by show w.heap.size ≤ S + 1; omega) _).setCell (p := ⟨S + 1, 8, none⟩) (by show w.heap.size ≤ S + 1; omega) _).setCell (p := ⟨S + 1, 9, none⟩) (by show w.heap.size ≤ S + 1; omega) _).setCell (p := ⟨S + 1, 10, none⟩) (by show w.heap.size ≤ S + 1; omega) _)

end Go.Proofs.Ytncpakpamfocbaa
