/-
  The exact laws' comparison of two lines: it returns true for the same line; what was in memory stays.
-/
import Derived.Test.YtncpakpamfocbaaMb
namespace Go.Proofs.Ytncpakpamfocbaa
open Go.RowKit

set_option maxRecDepth 100000 in
set_option maxHeartbeats 8000000 in
theorem eqLine_any (l : Ln) (ct ce : Nat) (vt ve ut ue : Value) (w : World) (hc : LnCnt l ct ce) (hct1 : ct ≤ 1048576) (hce1 : ce ≤ 1048576) (hx1 : TyAt w l.t vt) (hx2 : ExAt w l.e ve) (hy1 : TyAt w l.t ut) (hy2 : ExAt w l.e ue) :
    Calls Try.prog 28 #[.agg #[.int .i64 l.k, .string l.s, .int .i64 l.t.k, .int .i64 l.t.n, vt, .int .i64 l.e.k, .int .i64 l.e.n, .string l.e.m, .string l.e.s, ve, .int .i64 l.c], .agg #[.int .i64 l.k, .string l.s, .int .i64 l.t.k, .int .i64 l.t.n, ut, .int .i64 l.e.k, .int .i64 l.e.n, .string l.e.m, .string l.e.s, ue, .int .i64 l.c]] w (EqPost w) := by
  obtain ⟨_, hct, hce⟩ := hc
  have HX1 := Lib.hid hx1
  have HX2 := Lib.hid hx2
  have HY1 := Lib.hid hy1
  have HY2 := Lib.hid hy2
  have HCT := Lib.hid hct
  have HCE := Lib.hid hce
  clear hct hce
  obtain ⟨ta, tc, rfl, _⟩ := hx1.slice
  obtain ⟨ea, ec, rfl, _⟩ := hx2.slice
  obtain ⟨tb, td, rfl, _⟩ := hy1.slice
  obtain ⟨eb, ed, rfl, _⟩ := hy2.slice
  clear hx1 hx2 hy1 hy2
  obtain ⟨W1, hW1⟩ : ∃ W, (w.alloc (.cells #[.int .i64 l.k, .string l.s, .int .i64 l.t.k, .int .i64 l.t.n, .slice ta l.t.ks.length tc, .int .i64 l.e.k, .int .i64 l.e.n, .string l.e.m, .string l.e.s, .slice ea l.e.ks.length ec, .int .i64 l.c] 53)).alloc (.cells #[.int .i64 l.k, .string l.s, .int .i64 l.t.k, .int .i64 l.t.n, .slice tb l.t.ks.length td, .int .i64 l.e.k, .int .i64 l.e.n, .string l.e.m, .string l.e.s, .slice eb l.e.ks.length ed, .int .i64 l.c] 53) = W := ⟨_, rfl⟩
  have HBA : Hid (Below w.heap.size w W1) := Lib.hid (by rw [← hW1]; exact ((Below.refl _ _).alloc (Nat.le_refl _) _).alloc (by simp) _)
  have HX0 : Hid (LBox W1 w.heap.size (.int .i64 l.k) (.string l.s) (.int .i64 l.t.k) (.int .i64 l.t.n) (.slice ta l.t.ks.length tc) (.int .i64 l.e.k) (.int .i64 l.e.n) (.string l.e.m) (.string l.e.s) (.slice ea l.e.ks.length ec) (.int .i64 l.c)) := Lib.hid (by rw [← hW1]; exact (lbox_new w _ _ _ _ _ _ _ _ _ _ _ _).kept ((Below.refl _ _).alloc (Nat.le_refl _) _))
  have HY0 : Hid (LBox W1 (w.heap.size + 1) (.int .i64 l.k) (.string l.s) (.int .i64 l.t.k) (.int .i64 l.t.n) (.slice tb l.t.ks.length td) (.int .i64 l.e.k) (.int .i64 l.e.n) (.string l.e.m) (.string l.e.s) (.slice eb l.e.ks.length ed) (.int .i64 l.c)) := Lib.hid (by
    have h := lbox_new (w.alloc (.cells #[.int .i64 l.k, .string l.s, .int .i64 l.t.k, .int .i64 l.t.n, .slice ta l.t.ks.length tc, .int .i64 l.e.k, .int .i64 l.e.n, .string l.e.m, .string l.e.s, .slice ea l.e.ks.length ec, .int .i64 l.c] 53)) (.int .i64 l.k) (.string l.s) (.int .i64 l.t.k) (.int .i64 l.t.n) (.slice tb l.t.ks.length td) (.int .i64 l.e.k) (.int .i64 l.e.n) (.string l.e.m) (.string l.e.s) (.slice eb l.e.ks.length ed) (.int .i64 l.c) 53
    rw [hW1, sizeA2] at h; exact h)
  have HW1 := Lib.hid hW1
  clear hW1
  go_enter Try.func28, Try.ntmps28
  go_wp2_with fail
  rw [HW1.out]
  obtain ⟨p0, p1, p2, p3, p4, p5, p6, p7, p8, p9, p10, pz⟩ := HX0.out
  obtain ⟨q0, q1, q2, q3, q4, q5, q6, q7, q8, q9, q10, qz⟩ := HY0.out
  go_wp2_with fail
  go_at_call 49
  refine (eqType_any _ l.t ct _ _ _ (Nat.lt_succ_self _) HCT.out hct1 (HX1.out.kept HBA.out) (HY1.out.kept HBA.out)).mono ?_
  rintro e w2 ⟨rfl, hb2⟩
  have HXB2 := Lib.hid (HX0.out.kept hb2)
  have HYB2 := Lib.hid (HY0.out.kept hb2)
  have HB2 := Lib.hid (HBA.out.trans (hb2.mono HBA.out.size))
  clear hb2 p0 p1 p2 p3 p4 p5 p6 p7 p8 p9 p10 pz q0 q1 q2 q3 q4 q5 q6 q7 q8 q9 q10 qz
  obtain ⟨p0, p1, p2, p3, p4, p5, p6, p7, p8, p9, p10, pz⟩ := HXB2.out
  obtain ⟨q0, q1, q2, q3, q4, q5, q6, q7, q8, q9, q10, qz⟩ := HYB2.out
  go_wp2_with fail
  go_at_call 12
  refine (Ox.eqExpr_any _ l.e ce _ _ _ (Nat.lt_succ_self _) HCE.out hce1 (HX2.out.kept HB2.out) (HY2.out.kept HB2.out)).mono ?_
  rintro e w3 ⟨rfl, hb3⟩
  have HXB3 := Lib.hid (HXB2.out.kept hb3)
  have HYB3 := Lib.hid (HYB2.out.kept hb3)
  have HB3 := Lib.hid (HB2.out.trans (hb3.mono HB2.out.size))
  clear hb3 p0 p1 p2 p3 p4 p5 p6 p7 p8 p9 p10 pz q0 q1 q2 q3 q4 q5 q6 q7 q8 q9 q10 qz
  obtain ⟨p0, p1, p2, p3, p4, p5, p6, p7, p8, p9, p10, pz⟩ := HXB3.out
  obtain ⟨q0, q1, q2, q3, q4, q5, q6, q7, q8, q9, q10, qz⟩ := HYB3.out
  go_wp2_with fail
  go_ret
  exact ⟨rfl, HB3.out⟩

end Go.Proofs.Ytncpakpamfocbaa
