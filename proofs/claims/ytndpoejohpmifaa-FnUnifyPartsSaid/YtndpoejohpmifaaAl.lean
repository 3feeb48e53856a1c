/-
  CanonType of the program.
-/
import Derived.Test.YtndpoejohpmifaaAjk
namespace Go.Proofs.Ytndpoejohpmifaa
open Go.RowKit
set_option linter.unusedVariables false
set_option linter.unusedSimpArgs false

@[local go_sem] theorem run_store_func (P : Program) (w : World) (a : Addr) (f : Fn) (x y : Array Value) (m : Mode) : (store a (.func f x y) m).run P w = stored P w a (.func f x y) m := run_store P w a _ m rfl
theorem canT_cnt (t : Ty) : ∃ c, Cnt (optT (cnT t)) c ∧ c ≤ 62 := by
  unfold cnT
  split
  · rename_i h
    have key : ∀ (vs : List Int) (d : Nat) (t : Ty) (c : Nat), shp d t = true → Cnt t c → Cnt (ren vs d t) c := by
      intro vs d
      induction d with
      | zero => intro t c h; cases h
      | succ d ih =>
        intro t c h hc
        rcases shp_forms h with rfl | ⟨n, h0, h1, rfl⟩ | ⟨k, ta, tb, hk, rfl, ha, hb⟩
        · have e : ren vs (d + 1) (.node 1 0 []) = .node 1 0 [] := by simp [ren]
          rw [e]; exact hc
        · have e : ren vs (d + 1) (.node 4 n []) = .node 4 (lx vs n vs.length) [] := by simp [ren]
          rw [e]
          cases hc with
          | node k n ks c h => exact .node _ _ [] c (fun i hi => absurd hi (Nat.not_lt_zero _))
        · have hk4 : k ≠ 4 := by omega
          have e : ren vs (d + 1) (.node k 0 [ta, tb]) = .node k 0 [ren vs d ta, ren vs d tb] := by simp [ren, hk4]
          rw [e]
          cases hc with
          | node k n ks c h =>
            refine Cnt.node k 0 [ren vs d ta, ren vs d tb] c (fun i hi => ?_)
            have hi : i < 2 := hi
            obtain rfl | rfl : i = 0 ∨ i = 1 := by omega
            · exact ih ta _ ha (h 0 (Nat.succ_pos _))
            · exact ih tb _ hb (h 1 (Nat.lt_succ_self _))
    obtain ⟨c, hc, h62⟩ := cnt_valid h
    exact ⟨c, key _ 16 t c (tvT_shp h) hc, h62⟩
  · exact ⟨0, .node 0 0 [] (fun _ => 0) (fun i hi => absurd hi (Nat.not_lt_zero _)), by omega⟩

set_option maxRecDepth 100000 in
set_option maxHeartbeats 4000000 in
theorem canonType_impl (t : Ty) (v : Value) (w : World) (hx : TyAt w t v) (r : Option Ty) (hr : cnT t = r) :
    Calls Try.prog 23 #[.agg #[.int .i64 t.k, .int .i64 t.n, v]] w (OptRet r w) := by
  have HX := Lib.hid hx
  obtain ⟨a, cap, rfl, _⟩ := hx.slice
  obtain ⟨y, hy⟩ : ∃ y, canT t = y := ⟨_, rfl⟩
  have HY := Lib.hid hy
  obtain ⟨W1, hW1⟩ : ∃ W1, (w.alloc (.cells #[.int .i64 t.k, .int .i64 t.n, .slice a t.ks.length cap] 25)).alloc (.cells #[.int .i64 0, .int .i64 0, .slice none 0 0] 25) = W1 := ⟨_, rfl⟩
  have hB1 : Below w.heap.size w W1 := by rw [← hW1]; exact ((Below.refl _ _).alloc (Nat.le_refl _) _).alloc (by simp) _
  have HB1 := Lib.hid hB1
  have HT1 : Hid (TBox W1 w.heap.size (.int .i64 t.k) (.int .i64 t.n) (.slice a t.ks.length cap)) := Lib.hid (by rw [← hW1]; exact (tbox_new w _ _ _ _).kept ((Below.refl _ _).alloc (Nat.le_refl _) _))
  have HR1 : Hid (RB W1 (w.heap.size + 1)) := Lib.hid (by have h := rb_new (w.alloc (.cells #[.int .i64 t.k, .int .i64 t.n, .slice a t.ks.length cap] 25)) 25; rw [sizeA, hW1] at h; exact h)
  have hz1 : W1.heap.size = w.heap.size + 2 := by rw [← hW1]; simp
  obtain ⟨t0, t1, t2, tz⟩ := HT1.out
  obtain ⟨vb, hvb⟩ : ∃ vb, tvT t = vb := ⟨_, rfl⟩
  have HVB := Lib.hid hvb
  clear hx hB1 hvb hy
  cases vb with
  | false =>
    have hrn : r = none := by rw [← hr]; unfold cnT; rw [if_neg (by rw [HVB.out]; decide)]
    subst hrn
    clear hr
    go_enter Try.func23, Try.ntmps23
    go_wp2_with fail
    clear hW1
    go_at_call 15
    refine (typeValid_impl_val HVB.out _ _ (HX.out.kept HB1.out)).mono ?_
    rintro e w2 ⟨rfl, hb2⟩
    have HR2 := Lib.hid (HR1.out.kept hb2)
    have HB2 := Lib.hid (HB1.out.trans (hb2.mono HB1.out.size))
    clear hb2 t0 t1 t2 tz
    obtain ⟨p0, p1, p2, f0, f1, f2, psz⟩ := HR2.out
    go_wp2_with fail
    exact bodyPost_ret (v := .tuple #[.agg #[.int .i64 0, .int .i64 0, .slice none 0 0], .bool false]) (by simp [results, Try.results23, go_sem, p0, p1, p2, psz]) rfl ⟨rfl, Inside.thin (in_res (lo := w.heap.size) (hi := w.heap.size) (Inside.of_below HB2.out) (Nat.le_succ _) _ _ _)⟩
  | true =>
    have hrn : r = some y := by rw [← hr]; unfold cnT; rw [if_pos HVB.out, HY.out]
    subst hrn
    clear hr
    go_enter Try.func23, Try.ntmps23
    go_wp2_with fail
    clear hW1
    go_at_call 15
    refine (typeValid_impl_val HVB.out _ _ (HX.out.kept HB1.out)).mono ?_
    rintro e w2 ⟨rfl, hb2⟩
    have HR2 := Lib.hid (HR1.out.kept hb2)
    have HT2 := Lib.hid (HT1.out.kept hb2)
    have HB2 := Lib.hid (HB1.out.trans (hb2.mono HB1.out.size))
    have hs2 : W1.heap.size ≤ w2.heap.size := hb2.size
    clear hb2 t0 t1 t2 tz
    go_wp2_with fail
    go_at_call 55
    refine (freshNames_any w2).mono ?_
    rintro e w3 ⟨rfl, hw3⟩
    obtain ⟨W4, hW4⟩ : ∃ W4, w3.alloc (.cells #[.func (.func 90) #[] #[.pointer (some ⟨w2.heap.size + 1, 0, none⟩)]] 77) = W4 := ⟨_, rfl⟩
    have hG4 : Gen w2.heap.size (w2.heap.size + 3) (w2.heap.size + 1) (w2.heap.size + 2) w2.heap.size [] W4 := by rw [← hW4, hw3]; exact gen_new w2 _
    have hz3 : w3.heap.size = w2.heap.size + 2 := by rw [hw3]; simp
    have hB4 : Below w2.heap.size w2 W4 := by rw [← hW4, hw3]; exact (((Below.refl _ _).alloc (Nat.le_refl _) _).alloc (by simp) _).alloc (by simp; omega) _
    have hz4 : W4.heap.size = w2.heap.size + 3 := by rw [← hW4]; simp [hz3]
    have HT4 := Lib.hid (HT2.out.kept hB4)
    have HR4 := Lib.hid (HR2.out.kept hB4)
    have HB4 := Lib.hid (HB2.out.trans (hB4.mono HB2.out.size))
    have HG4 := Lib.hid hG4
    have hqf : (⟨w3.heap.size, 0, none⟩ : Addr) = ⟨w2.heap.size + 2, 0, none⟩ := by rw [hz3]
    have HRV := Lib.hid (rv_any (.func (.func 57) #[] #[.pointer (some ⟨w2.heap.size + 2, 0, none⟩)]) fF (Gen w2.heap.size (w2.heap.size + 3) (w2.heap.size + 1) (w2.heap.size + 2) w2.heap.size) w2.heap.size (w2.heap.size + 3) (gen_stays _ _ _ _ _) w2 (Nat.le_refl _)
      (fun st n v w h0 h1 hx hb hst => rv_canon fF _ _ _ (gen_stays _ _ _ _ _) w2 (Nat.le_refl _) (w2.heap.size + 2) (fun st n w h0 h1 hb hst => canon1_any _ _ _ _ _ st n h0 h1 w hst) st n v w h0 h1 hx hb hst)
      16 t _ W4 [] (tvT_shp HVB.out) (HX.out.kept HB2.out) hB4 hG4)
    have HWe := Lib.hid hW4
    rw [← hqf] at HRV
    have hB3 : Below w2.heap.size w2 w3 := by rw [hw3]; exact ((Below.refl _ _).alloc (Nat.le_refl _) _).alloc (by simp) _
    have HT3 := Lib.hid (HT2.out.kept hB3)
    have HZ := Lib.hid (And.intro hz3 hz4)
    clear hG4 hB4 hW4 hw3 hqf hB3 hz3 hz4
    obtain ⟨t0, t1, t2, tz⟩ := HT3.out
    go_wp2_with fail
    go_at_call 56
    rw [HWe.out]
    refine HRV.out.mono ?_
    rintro e w5 ⟨v5, rfl, hty5, hin5, _⟩
    have ey : (rp fF 16 t []).1 = y := (rp_can (tvT_shp HVB.out)).trans HY.out
    rw [ey] at hty5 ⊢
    obtain ⟨a5, k5, rfl, _⟩ := hty5.at.slice
    have hs5 : W4.heap.size ≤ w5.heap.size := hin5.size
    have hz4 := HZ.out.2
    have HR5 := Lib.hid (HR4.out.keep hin5.size (hin5.block _ HR4.out.sz (.inl (by omega))))
    have HB5 := Lib.hid (hin5.below (by omega) HB4.out HB4.out.size)
    have HTY5 := Lib.hid (hty5.wide (lo' := w.heap.size + 1 + 1) (by omega) (Nat.le_refl _))
    clear hty5 hin5 t0 t1 t2 tz ey hz4
    obtain ⟨p0, p1, p2, f0, f1, f2, psz⟩ := HR5.out
    go_wp2_with fail
    exact bodyPost_ret (v := .tuple #[.agg #[.int .i64 y.k, .int .i64 y.n, .slice a5 y.ks.length k5], .bool true]) (by simp [results, Try.results23, go_sem, p0, p1, p2, psz]) rfl ⟨_, rfl, res_ty HTY5.out (Nat.le_succ _) _ _ _, Inside.thin (in_res (lo := w.heap.size) (hi := w.heap.size) (Inside.of_below HB5.out) (Nat.le_succ _) _ _ _)⟩

end Go.Proofs.Ytndpoejohpmifaa
