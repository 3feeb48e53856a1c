/-
  The draw of two types, the second one first.
-/
import Derived.Test.YtndpoejohpmifaaQb
namespace Go.Proofs.Ytndpoejohpmifaa
open Go.RowKit
set_option linter.unusedVariables false
set_option linter.unusedSimpArgs false

theorem below_eq {S : Nat} {w w2 : World} (h : w.heap.size = S) (hb : Below S w w2) : Below w.heap.size w w2 := by rw [h]; exact hb
set_option maxHeartbeats 8000000 in
theorem drawInstanceOf_any (a : Option Addr) (len cap : Nat) (zs : List Int) (w : World) (h : IsRow w a len cap zs) :
    Calls Try.prog 20 #[.slice a len cap] w (DuoPost w) := by
  obtain ⟨W1, hW1⟩ : ∃ W, (w.alloc (.cells #[.int .i64 0, .int .i64 0, .slice none 0 0] 25)).alloc (.cells #[.int .i64 0, .int .i64 0, .slice none 0 0] 25) = W := ⟨_, rfl⟩
  obtain ⟨S, hS⟩ : ∃ S, w.heap.size = S := ⟨_, rfl⟩
  have hb1 : Below S w W1 := by rw [← hW1, ← hS]; exact ((Below.refl _ _).alloc (Nat.le_refl _) _).alloc (by simp) _
  have HB1 := Lib.hid hb1
  have HI : Hid (IsRow W1 a len cap zs) := Lib.hid (h.kept (by rw [hS]; exact hb1))
  have HR1 : Hid (RB W1 S) := Lib.hid (by rw [← hW1, ← hS]; exact (rb_new w _).kept ((Below.refl _ _).alloc (Nat.le_refl _) _))
  have HR2 : Hid (RB W1 (S + 1)) := Lib.hid (by have h := rb_new (w.alloc (.cells #[.int .i64 0, .int .i64 0, .slice none 0 0] 25)) 25; rw [hW1, sizeA, hS] at h; exact h)
  have HW1 := Lib.hid hW1
  have HS := Lib.hid hS
  clear h hb1 hW1
  go_enter Try.func20, Try.ntmps20
  go_wp2_with fail
  rw [HW1.out]
  clear hS
  go_at_call 52
  refine (l2TwoN_any a len cap zs _ HI.out).mono ?_
  rintro e w5 ⟨x, y, vx, vy, hnx, hny, rfl, htx, hty, hb⟩
  have HNX := Lib.hid hnx
  have HNY := Lib.hid hny
  have HTX := Lib.hid htx
  have HTY := Lib.hid hty
  have hsW : S + 1 < W1.heap.size := HR2.out.sz
  have HBL5 : Hid (Below S w w5) := Lib.hid (HB1.out.trans (hb.mono (by omega)))
  have HRA := Lib.hid (HR1.out.kept hb)
  have HRB := Lib.hid (HR2.out.kept hb)
  obtain ⟨ax, cx, rfl, _⟩ := htx.ok.at.slice
  obtain ⟨ay, cy, rfl, _⟩ := hty.ok.at.slice
  clear htx hty hb hnx hny
  obtain ⟨T, hT⟩ : ∃ T, w5.heap.size = T := ⟨_, rfl⟩
  obtain ⟨W6, hW6⟩ : ∃ W, (w5.alloc (.cells #[.int .i64 x.k, .int .i64 x.n, .slice ax x.ks.length cx] 25)).alloc (.cells #[.int .i64 y.k, .int .i64 y.n, .slice ay y.ks.length cy] 25) = W := ⟨_, rfl⟩
  have hb6 : Below w5.heap.size w5 W6 := by rw [← hW6]; exact ((Below.refl _ _).alloc (Nat.le_refl _) _).alloc (by simp) _
  have HTA : Hid (TBox W6 T (.int .i64 x.k) (.int .i64 x.n) (.slice ax x.ks.length cx)) := Lib.hid (by rw [← hW6, ← hT]; exact (tbox_new w5 _ _ _ _).kept ((Below.refl _ _).alloc (Nat.le_refl _) _))
  have HTB : Hid (TBox W6 (T + 1) (.int .i64 y.k) (.int .i64 y.n) (.slice ay y.ks.length cy)) := Lib.hid (by
    have h := tbox_new (w5.alloc (.cells #[.int .i64 x.k, .int .i64 x.n, .slice ax x.ks.length cx] 25)) (.int .i64 y.k) (.int .i64 y.n) (.slice ay y.ks.length cy) 25
    rw [hW6, sizeA, hT] at h; exact h)
  have HRA6 := Lib.hid (HRA.out.kept hb6)
  have HRB6 := Lib.hid (HRB.out.kept hb6)
  have HTX6 := Lib.hid (HTX.out.keep hb6.size (fun b _ _ h3 => hb6.block b h3))
  have HTY6 := Lib.hid (HTY.out.keep hb6.size (fun b _ _ h3 => hb6.block b h3))
  have HBL6 := Lib.hid (HBL5.out.trans (hb6.mono (by have := HBL5.out.size; have := HRA.out.sz; omega)))
  have hST : S + 1 < T := by rw [← hT]; exact HRB.out.sz
  have hn1 : ¬ T = S := by omega
  have hn2 : ¬ T = S + 1 := by omega
  have hn3 : ¬ S = T := by omega
  have hn4 : ¬ S + 1 = T := by omega
  have hn5 : ¬ T + 1 = S := by omega
  have hn6 : ¬ T + 1 = S + 1 := by omega
  have hn7 : ¬ S = T + 1 := by omega
  have hW6h := Lib.hid hW6
  clear hW6 hb6
  obtain ⟨p0, p1, p2, f0, f1, f2, psz⟩ := HRA6.out
  obtain ⟨o0, o1, o2, of0, of1, of2, oz⟩ := HRB6.out
  obtain ⟨a0, a1, a2, az⟩ := HTA.out
  obtain ⟨b0, b1, b2, bz⟩ := HTB.out
  go_wp2_with fail
  rw [hW6h.out]
  try rw [hT]
  clear hT
  go_region
  all_goals go_wp2_with fail
  all_goals refine bodyPost_ret (v := .tuple #[.agg #[.int .i64 y.k, .int .i64 y.n, .slice ay y.ks.length cy], .agg #[.int .i64 x.k, .int .i64 x.n, .slice ax x.ks.length cx]]) (by simp [results, Try.results20, go_sem, p0, p1, p2, o0, o1, o2]) rfl ?_
  all_goals
    have HY7 := (rest_ty (rest_ty HTY6.out (S := S) (by omega) (.int .i64 y.k) (.int .i64 y.n) (.slice ay y.ks.length cy)) (S := S + 1) hsW (.int .i64 x.k) (.int .i64 x.n) (.slice ax x.ks.length cx)).ok
    have HX7 := (rest_ty (rest_ty HTX6.out (S := S) (by omega) (.int .i64 y.k) (.int .i64 y.n) (.slice ay y.ks.length cy)) (S := S + 1) hsW (.int .i64 x.k) (.int .i64 x.n) (.slice ax x.ks.length cx)).ok
    have HB7 := rest_bl (rest_bl HBL6.out (Nat.le_refl S) (.int .i64 y.k) (.int .i64 y.n) (.slice ay y.ks.length cy)) (Nat.le_succ S) (.int .i64 x.k) (.int .i64 x.n) (.slice ax x.ks.length cx)
    have hnx := HNX.out
    have hny := HNY.out
    have HB8 := below_eq HS.out HB7
    unfold DuoPost
  all_goals first
    | with_reducible exact ⟨y, x, _, _, hny, hnx, rfl, HY7, HX7, HB8⟩
    | with_reducible exact ⟨y, x, _, _, hny, hnx, rfl, HY7.kept (Below.refl _ _).drew, HX7.kept (Below.refl _ _).drew, HB8.drew⟩

end Go.Proofs.Ytndpoejohpmifaa
