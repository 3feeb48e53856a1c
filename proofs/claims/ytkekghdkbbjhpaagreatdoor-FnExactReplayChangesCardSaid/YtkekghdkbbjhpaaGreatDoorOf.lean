/-
  ExprValid of the model and of the program: whether an expression is valid; what was in memory stays.
-/
import Derived.Test.YtkekghdkbbjhpaaGreatDoorOe
namespace Go.Proofs.YtkekghdkbbjhpaaGreatDoor.Ox
open Go.Proofs.YtkekghdkbbjhpaaGreatDoor
open Go.RowKit
set_option linter.unusedVariables false
set_option linter.unusedSimpArgs false

theorem exprNodes_val {x : Ex} {b : Bool} {N : Int} (hb : okX 12 x = b) (hN : nvX 12 x = N) (v : Value) (w : World) (hx : ExAt w x v) :
    Calls Tryz.prog 195 #[.agg #[.int .i64 x.k, .int .i64 x.n, .string x.m, .string x.s, v], .int .i64 12] w fun e w' => e = .returned (.tuple #[.int .i64 N, .bool b]) ∧ Below w.heap.size w w' := by
  subst hb hN; exact exprNodes_any 12 12 x v w rfl (by omega) hx

set_option maxRecDepth 100000 in
set_option maxHeartbeats 2000000 in
theorem exprValid_impl (x : Ex) (v : Value) (w : World) (hx : ExAt w x v) :
    Calls Tryz.prog 185 #[.agg #[.int .i64 x.k, .int .i64 x.n, .string x.m, .string x.s, v]] w fun e w' => e = .returned (.bool (okX 12 x)) ∧ Below w.heap.size w w' := by
  obtain ⟨a, cap, rfl, hlen⟩ := hx.slice
  have HX := Lib.hid hx
  clear hx
  obtain ⟨b, hb⟩ : ∃ b, okX 12 x = b := ⟨_, rfl⟩
  obtain ⟨N, hN⟩ : ∃ N, nvX 12 x = N := ⟨_, rfl⟩
  have HS := Lib.hid hb
  have HV := Lib.hid hN
  rw [hb]
  clear hb hN
  go_enter Tryz.func185, Tryz.ntmps185
  go_wp2_with fail
  go_at_call 195
  refine (exprNodes_val HS.out HV.out _ _ (by first | exact HX.out | exact HX.out.kept ((Below.refl _ _).alloc (Nat.le_refl _) _))).mono ?_
  rintro e w1 ⟨rfl, hb1⟩
  have HB1 : Hid (Below w.heap.size w w1) := Lib.hid (by first | exact hb1 | exact ((Below.refl _ _).alloc (Nat.le_refl _) _).trans (hb1.mono (by simp)))
  clear hb1
  go_wp2_with fail
  go_ret
  exact ⟨rfl, HB1.out⟩

end Go.Proofs.YtkekghdkbbjhpaaGreatDoor.Ox
