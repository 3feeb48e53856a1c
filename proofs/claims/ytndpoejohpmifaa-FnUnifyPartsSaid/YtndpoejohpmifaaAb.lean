/-
  replaceVars at a variable, by the function that it was given; copyType; the function that SubstVars gives.
-/
import Derived.Test.YtndpoejohpmifaaAa
namespace Go.Proofs.Ytndpoejohpmifaa
open Go.RowKit
set_option linter.unusedVariables false
set_option linter.unusedSimpArgs false

set_option maxRecDepth 100000 in
set_option maxHeartbeats 1000000 in
theorem rv_varType (F : List Int → Int → Ty × List Int) (I : List Int → World → Prop) (lo hi : Nat) (S : Stays I lo hi) (w0 : World) (hlo : w0.heap.size ≤ lo)
    (hcl : ∀ (st : List Int) (n : Int) (w : World), 0 ≤ n → n ≤ 25 → Below w0.heap.size w0 w → I st w → Calls Try.prog 58 #[.int .i64 n] w (RvPost (F st n) I lo hi w))
    (st : List Int) (n : Int) (v : Value) (w : World) (h0 : 0 ≤ n) (h1 : n ≤ 25) (hx : TyAt w0 (.node 4 n []) v) (hb : Below w0.heap.size w0 w) (hst : I st w) :
    Calls Try.prog 56 #[.agg #[.int .i64 4, .int .i64 n, v], .func (.func 58) #[] #[]] w (RvPost (F st n) I lo hi w) := by
  obtain ⟨a, cap, rfl, _⟩ := hx.slice
  have e0 : (Ty.node 4 n []).ks.length = 0 := rfl
  rw [e0]
  obtain ⟨W1, hW1⟩ : ∃ W1, (w.alloc (.cells #[.int .i64 4, .int .i64 n, .slice a 0 cap] 25)).alloc (.cells #[.int .i64 0, .int .i64 0, .slice none 0 0] 25) = W1 := ⟨_, rfl⟩
  have hB1 : Below w.heap.size w W1 := by rw [← hW1]; exact ((Below.refl _ _).alloc (Nat.le_refl _) _).alloc (by simp) _
  have HT1 : Hid (TBox W1 w.heap.size (.int .i64 4) (.int .i64 n) (.slice a 0 cap)) := Lib.hid (by rw [← hW1]; exact (tbox_new w _ _ _ _).kept ((Below.refl _ _).alloc (Nat.le_refl _) _))
  have HR1 : Hid (RB W1 (w.heap.size + 1)) := Lib.hid (by have h := rb_new (w.alloc (.cells #[.int .i64 4, .int .i64 n, .slice a 0 cap] 25)) 25; rw [sizeA, hW1] at h; exact h)
  have hz1 : W1.heap.size = w.heap.size + 2 := by rw [← hW1]; simp
  have HC := Lib.hid (hcl st n W1 h0 h1 (hb.trans (hB1.mono hb.size)) (S.below hst hB1))
  have HF1 : Hid (Inside lo hi w W1) := Lib.hid (Inside.of_below hB1)
  have hzz := S.size _ _ hst
  have HS := Lib.hid S
  obtain ⟨t0, t1, t2, tz⟩ := HT1.out
  obtain ⟨p0, p1, p2, f0, f1, f2, psz⟩ := HR1.out
  clear hcl hst hx hb hB1 S
  go_enter Try.func56, Try.ntmps56
  go_wp2_with fail
  go_at_call 58
  refine HC.out.mono ?_
  rintro e w1 ⟨v1, rfl, hty, hin, hi1⟩
  obtain ⟨a1, k1, rfl, _⟩ := hty.at.slice
  have HR2 := Lib.hid (HR1.out.keep hin.size (hin.block _ HR1.out.sz (.inr (by omega))))
  have HF2 := Lib.hid (HF1.out.trans hin)
  have HTY := Lib.hid hty
  have HI1 := Lib.hid hi1
  have hz2 : W1.heap.size ≤ w1.heap.size := hin.size
  clear hW1 p0 p1 p2 f0 f1 f2 psz t0 t1 t2 tz hty hin hi1
  obtain ⟨p0, p1, p2, f0, f1, f2, psz⟩ := HR2.out
  go_wp2_with fail
  exact bodyPost_ret (v := .agg #[.int .i64 (F st n).1.k, .int .i64 (F st n).1.n, .slice a1 (F st n).1.ks.length k1]) (by simp [results, Try.results56, go_sem, p0, p1, p2]) rfl ⟨_, rfl, res_ty (HTY.out.wide (by omega) (Nat.le_refl _)) (Nat.le_succ _) _ _ _, in_res HF2.out (Nat.le_succ _) _ _ _, HS.out.res HI1.out (by omega) _ _ _⟩

/-- A type with its variables replaced by themselves is the same. -/
theorem rp_self : ∀ (d : Nat) (t : Ty) (st : List Int), shp d t = true → rp (fun st n => (.node 4 n [], st)) d t st = (t, st) := by
  intro d
  induction d with
  | zero => intro t st h; cases h
  | succ d ih =>
    intro t st h
    rcases shp_forms h with rfl | ⟨n, _, _, rfl⟩ | ⟨k, ta, tb, hk, rfl, ha, hb⟩
    · simp [rp]
    · simp [rp]
    · have hk4 : k ≠ 4 := by omega
      simp [rp, hk4, ih ta _ ha, ih tb _ hb]
theorem stays_all (lo : Nat) : Stays (fun _ w => lo ≤ w.heap.size) lo lo :=
  ⟨fun _ _ _ h hs _ => Nat.le_trans h hs, fun _ _ h => h⟩
theorem Inside.thin {lo : Nat} {w w' : World} (h : Inside lo lo w w') : Below w.heap.size w w' := ⟨h.os, h.tape, h.output, h.size, fun b hb => h.block b hb (by omega)⟩
end Go.Proofs.Ytndpoejohpmifaa
