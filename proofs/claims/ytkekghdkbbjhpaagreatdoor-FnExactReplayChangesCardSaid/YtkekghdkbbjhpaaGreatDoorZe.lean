/-
  TypeValid of the program and of the model: for every type in memory, whether it is valid; what was in memory stays.
-/
import Derived.Test.YtkekghdkbbjhpaaGreatDoorZd
namespace Go.Proofs.YtkekghdkbbjhpaaGreatDoor
open Go.RowKit

def CountPost (N : Nat) (most : Nat) (w : World) (e : Ending) (w' : World) : Prop := ∃ c : Nat, e = .returned (.int .i64 c) ∧ CountTo N most c ∧ Below w.heap.size w w'

theorem typeNodes_val {t : Ty} {b : Bool} {N : Int} (hb : shp 16 t = b) (hN : ndv 16 t = N) (v : Value) (w : World) (hx : TyAt w t v) :
    Calls Tryz.prog 183 #[.agg #[.int .i64 t.k, .int .i64 t.n, v], .int .i64 16] w fun e w' => e = .returned (.tuple #[.int .i64 N, .bool b]) ∧ Below w.heap.size w w' := by
  subst hb hN; exact typeNodes_any 16 16 t v w rfl (by omega) hx
theorem tvT_no {t : Ty} (h : shp 16 t = false) : tvT t = false := by unfold tvT; rw [h]; rfl
theorem tvT_yes {t : Ty} (h : shp 16 t = true) : tvT t = decide (nd 16 t ≤ 63) := by unfold tvT; rw [h]; rfl

set_option maxRecDepth 100000 in
set_option maxHeartbeats 1000000 in
theorem typeValid_impl (t : Ty) (v : Value) (w : World) (hx : TyAt w t v) :
    Calls Tryz.prog 169 #[.agg #[.int .i64 t.k, .int .i64 t.n, v]] w fun e w' => e = .returned (.bool (tvT t)) ∧ Below w.heap.size w w' := by
  obtain ⟨a, cap, rfl, hlen⟩ := hx.slice
  have HX := Lib.hid hx
  clear hx
  rcases hs : shp 16 t with _ | _
  · have HS := Lib.hid hs
    have HV := Lib.hid (ndv_no hs)
    have HT := Lib.hid (tvT_no hs)
    clear hs
    go_enter Tryz.func169, Tryz.ntmps169
    go_wp2_with fail
    go_at_call 183
    refine (typeNodes_val HS.out HV.out _ _ (HX.out.kept ((Below.refl _ _).alloc (Nat.le_refl _) _))).mono ?_
    rintro e w1 ⟨rfl, hb1⟩
    have HB1 : Hid (Below w.heap.size w w1) := Lib.hid (((Below.refl _ _).alloc (Nat.le_refl _) _).trans (hb1.mono (by simp)))
    clear hb1
    go_wp2_with fail
    go_ret
    exact ⟨ret_bz HT.out.symm, HB1.out⟩
  · have HS := Lib.hid hs
    have HV := Lib.hid (ndv_yes hs)
    have HT := Lib.hid (tvT_yes hs)
    have hle := nd_le (by omega) hs
    obtain ⟨N, hN⟩ : ∃ N, nd 16 t = N := ⟨_, rfl⟩
    rw [hN] at HV HT hle
    clear hs hN
    have key : ∀ b, decide (N ≤ 63) = b → Calls Tryz.prog 169 #[.agg #[.int .i64 t.k, .int .i64 t.n, .slice a t.ks.length cap]] w fun e w' => e = .returned (.bool b) ∧ Below w.heap.size w w' := by
      intro b hb
      by_cases h63 : N ≤ 63
      · have hni : (N : Int) ≤ 63 := by omega
        have HBB : Hid (b = true) := Lib.hid (by rw [← hb]; exact decide_eq_true h63)
        have H63 := Lib.hid h63
        clear hb h63
        go_enter Tryz.func169, Tryz.ntmps169
        go_wp2_with fail
        go_at_call 183
        refine (typeNodes_val HS.out HV.out _ _ (HX.out.kept ((Below.refl _ _).alloc (Nat.le_refl _) _))).mono ?_
        rintro e w1 ⟨rfl, hb1⟩
        have HB1 : Hid (Below w.heap.size w w1) := Lib.hid (((Below.refl _ _).alloc (Nat.le_refl _) _).trans (hb1.mono (by simp)))
        clear hb1
        go_wp2_with fail
        go_ret
        exact ⟨ret_bz (by first | exact HBB.out.symm | (rw [HBB.out]; exact decide_eq_true (by have := H63.out; omega)) | (rw [HBB.out]; exact decide_eq_false (by have := H63.out; omega))), HB1.out⟩
      · have hni : ¬ (N : Int) ≤ 63 := by omega
        have HBB : Hid (b = false) := Lib.hid (by rw [← hb]; exact decide_eq_false h63)
        have H63 := Lib.hid h63
        clear hb h63
        go_enter Tryz.func169, Tryz.ntmps169
        go_wp2_with fail
        go_at_call 183
        refine (typeNodes_val HS.out HV.out _ _ (HX.out.kept ((Below.refl _ _).alloc (Nat.le_refl _) _))).mono ?_
        rintro e w1 ⟨rfl, hb1⟩
        have HB1 : Hid (Below w.heap.size w w1) := Lib.hid (((Below.refl _ _).alloc (Nat.le_refl _) _).trans (hb1.mono (by simp)))
        clear hb1
        go_wp2_with fail
        go_ret
        exact ⟨ret_bz (by first | exact HBB.out.symm | (rw [HBB.out]; exact decide_eq_true (by have := H63.out; omega)) | (rw [HBB.out]; exact decide_eq_false (by have := H63.out; omega))), HB1.out⟩
    exact key _ HT.out.symm

end Go.Proofs.YtkekghdkbbjhpaaGreatDoor
