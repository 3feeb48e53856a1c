/-
  The draws of DrawTypeVars.
-/
import Derived.Test.YtndpoejohpmifaaPce
namespace Go.Proofs.Ytndpoejohpmifaa
open Go.RowKit
set_option linter.unusedVariables false
set_option linter.unusedSimpArgs false

set_option maxRecDepth 100000 in
set_option maxHeartbeats 4000000 in
theorem drawTypeVars_any (a : Option Addr) (len cap : Nat) (zs : List Int) (w : World) (h : IsRow w a len cap zs) :
    Calls Try.prog 30 #[.slice a len cap] w (OnePost w) := by
  obtain ⟨W1, hW1⟩ : ∃ W, w.alloc (.cells #[.int .i64 0, .int .i64 0, .slice none 0 0] 25) = W := ⟨_, rfl⟩
  obtain ⟨S, hS⟩ : ∃ S, w.heap.size = S := ⟨_, rfl⟩
  have hb1 : Below S w W1 := by rw [← hW1, ← hS]; exact (Below.refl _ _).alloc (Nat.le_refl _) _
  have HB1 := Lib.hid hb1
  have HI : Hid (IsRow W1 a len cap zs) := Lib.hid (h.kept (by rw [hS]; exact hb1))
  have HR1 : Hid (RB W1 S) := Lib.hid (by rw [← hW1, ← hS]; exact rb_new w _)
  have HW1 := Lib.hid hW1
  have HS := Lib.hid hS
  clear h hb1 hW1
  go_enter Try.func30, Try.ntmps30
  go_wp2_with fail
  rw [HW1.out]
  clear hS
  go_at_call 38
  refine (drawTypeValidN_any a len cap zs _ HI.out).mono ?_
  rintro e w5 ⟨z, vz, hnz, rfl, htz, hb⟩
  have HNZ := Lib.hid hnz
  have HTZ := Lib.hid htz
  have hsW : S < W1.heap.size := HR1.out.sz
  have HBL5 : Hid (Below S w w5) := Lib.hid (HB1.out.trans (hb.mono (by omega)))
  have HRB5 : Hid (RB w5 S) := Lib.hid (HR1.out.kept hb)
  obtain ⟨az, cz, rfl, _⟩ := htz.ok.at.slice
  clear htz hb hnz
  obtain ⟨p0, p1, p2, f0, f1, f2, psz⟩ := HRB5.out
  go_wp2_with fail
  refine bodyPost_ret (v := .agg #[.int .i64 z.k, .int .i64 z.n, .slice az z.ks.length cz]) (by simp [results, Try.results30, go_sem, p0, p1, p2]) rfl ⟨z, _, by have := HNZ.out; omega, rfl, (rest_ty HTZ.out hsW _ _ _).ok, ?_⟩
  rw [HS.out]
  exact rest_bl HBL5.out (Nat.le_refl _) _ _ _


end Go.Proofs.Ytndpoejohpmifaa
