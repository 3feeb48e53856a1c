/-
  What TypeSame of the model returns: for every two types in memory, whether they are the same; what was in memory stays.
-/
import Derived.Test.YtndpoejohpmifaaProg
import Derived.Test.YtndpoejohpmifaaYa
import Derived.Deep.RegionHeld3
import Derived.Deep.RegionWith
namespace Go.Proofs.Ytndpoejohpmifaa
open Go.RowKit

theorem below_two2 {w wk : World} {o1 o2 : Obj} (h : Below (w.heap.size + 1 + 1) ((w.alloc o1).alloc o2) wk) : Below w.heap.size w wk :=
  (((Below.refl _ _).alloc (Nat.le_refl _) _).alloc (by simp) _).trans (h.mono (by omega))
theorem _root_.Go.RowKit.Below.size2 {w wk : World} {o1 o2 : Obj} (h : Below (w.heap.size + 1 + 1) ((w.alloc o1).alloc o2) wk) : w.heap.size + 1 + 1 ≤ wk.heap.size := by
  have := h.size; simpa using this
theorem six2 {w wk : World} {a1 a2 b1 b2 v1 v2 : Value} {T : TypeId} (h : Below (w.heap.size + 1 + 1) ((w.alloc (.cells #[a1, a2, v1] T)).alloc (.cells #[b1, b2, v2] T)) wk) :
    wk.cell? ⟨w.heap.size, 2, none⟩ = some v1 ∧ wk.cell? ⟨w.heap.size + 1, 2, none⟩ = some v2 := by
  have a0 : w.heap.size < w.heap.size + 1 + 1 := by omega
  have a1 : w.heap.size + 1 < w.heap.size + 1 + 1 := by omega
  constructor
  · rw [h.cell (p := ⟨w.heap.size, 2, none⟩) a0]; go_simp
  · rw [h.cell (p := ⟨w.heap.size + 1, 2, none⟩) a1]; go_simp
theorem ret_b {a b : Bool} (h : a = b) : Ending.returned (.bool a) = .returned (.bool b) := by rw [h]
set_option maxRecDepth 100000 in
set_option maxHeartbeats 4000000 in
theorem typeSame_spec (m : Nat) : ∀ (x y : Ty) (vx vy : Value) (w : World), SizeOf.sizeOf x < m → TyAt w x vx → TyAt w y vy →
    Calls Try.prog 89 #[.agg #[.int .i64 x.k, .int .i64 x.n, vx], .agg #[.int .i64 y.k, .int .i64 y.n, vy]] w fun e w' => e = .returned (.bool (sameB x y)) ∧ Below w.heap.size w w' := by
  induction m with
  | zero => intro x y vx vy w h _ _; exact absurd h (Nat.not_lt_zero _)
  | succ m ih =>
    intro x y vx vy w hm hx hy
    have HX := Lib.hid hx
    have HY := Lib.hid hy
    have HM := Lib.hid hm
    obtain ⟨ax, cx, rfl, lx⟩ := hx.slice
    obtain ⟨ay, cy, rfl, ly⟩ := hy.slice
    clear hx hy hm
    obtain ⟨k1, hk1⟩ : ∃ k, x.k = k := ⟨_, rfl⟩
    obtain ⟨k2, hk2⟩ : ∃ k, y.k = k := ⟨_, rfl⟩
    obtain ⟨n1, hn1⟩ : ∃ n, x.n = n := ⟨_, rfl⟩
    obtain ⟨n2, hn2⟩ : ∃ n, y.n = n := ⟨_, rfl⟩
    obtain ⟨L, hL⟩ : ∃ L, x.ks.length = L := ⟨_, rfl⟩
    obtain ⟨L2, hL2⟩ : ∃ L, y.ks.length = L := ⟨_, rfl⟩
    have HK1 := Lib.hid hk1
    have HK2 := Lib.hid hk2
    have HN1 := Lib.hid hn1
    have HN2 := Lib.hid hn2
    have HL := Lib.hid hL
    have HL2 := Lib.hid hL2
    rw [hk1, hk2, hn1, hn2, hL, hL2]
    rw [hL] at lx
    rw [hL2] at ly
    clear hk1 hk2 hn1 hn2 hL hL2
    by_cases hk : k1 = k2
    case neg =>
      have HS := Lib.hid (sameB_no (x := x) (y := y) (fun e => hk (by rw [← HK1.out, ← HK2.out, e])))
      have e1 : (k1 != k2) = true := by simpa using hk
      clear hk
      go_enter Try.func89, Try.ntmps89
      go_wp2_with fail
      go_ret
      exact ⟨ret_b HS.out.symm, ((Below.refl _ _).alloc (Nat.le_refl _) _).alloc (by simp) _⟩
    subst hk
    by_cases hn : n1 = n2
    case neg =>
      have HS := Lib.hid (sameB_no (x := x) (y := y) (fun e => hn (by rw [← HN1.out, ← HN2.out, e])))
      have e2 : (n1 != n2) = true := by simpa using hn
      clear hn
      go_enter Try.func89, Try.ntmps89
      go_wp2_with fail
      go_ret
      exact ⟨ret_b HS.out.symm, ((Below.refl _ _).alloc (Nat.le_refl _) _).alloc (by simp) _⟩
    subst hn
    by_cases hl : L = L2
    case neg =>
      have HS := Lib.hid (sameB_no (x := x) (y := y) (fun e => hl (by rw [← HL.out, ← HL2.out, e])))
      have e3 : ((L : Int) != (L2 : Int)) = true := by simp; omega
      clear hl
      go_enter Try.func89, Try.ntmps89
      go_wp2_with fail
      go_ret
      exact ⟨ret_b HS.out.symm, ((Below.refl _ _).alloc (Nat.le_refl _) _).alloc (by simp) _⟩
    subst hl
    go_enter Try.func89, Try.ntmps89
    go_wp2_with fail
    go_loopw [5] (fun i wr => ∃ k : Nat, k ≤ L ∧ i = .int .i64 k ∧ Below (w.heap.size + 1 + 1) ((w.alloc (.cells #[.int .i64 k1, .int .i64 n1, .slice ax L cx] 25)).alloc (.cells #[.int .i64 k1, .int .i64 n1, .slice ay L cy] 25)) wr ∧ Hid (∀ i, i < k → x.ks.getD i Ty.dummy = y.ks.getD i Ty.dummy)) (fun i _ => L - (intOf i).toNat)
    case atStart => exact ⟨0, Nat.zero_le _, rfl, Below.refl _ _, Lib.hid (fun i hi => absurd hi (Nat.not_lt_zero _))⟩
    case round =>
      obtain ⟨k, hk, rfl, hB, hpre⟩ := hrel
      have HB := Lib.hid hB
      have HW := Lib.hid (below_two2 hB)
      obtain ⟨q1, q2⟩ := six2 hB
      clear hB
      by_cases hlt : k < L
      · obtain ⟨bx, ox, capx, vi, ex, bxl, x0, x1, x2, hxk⟩ := (HX.out.kept HW.out).kid k (by rw [HL.out]; exact hlt)
        obtain ⟨b2, o2, cap2, vj, ey, b2l, y0, y1, y2, hyk⟩ := (HY.out.kept HW.out).kid k (by rw [HL2.out]; exact hlt)
        have ex1 : ax = some ⟨bx, ox, none⟩ := by injection ex
        have ey1 : ay = some ⟨b2, o2, none⟩ := by injection ey
        subst ex1
        subst ey1
        clear ex ey
        obtain ⟨xk, hxe⟩ : ∃ t, x.ks.getD k Ty.dummy = t := ⟨_, rfl⟩
        obtain ⟨yk, hye⟩ : ∃ t, y.ks.getD k Ty.dummy = t := ⟨_, rfl⟩
        have hsz : SizeOf.sizeOf xk < m := by
          have h1 := Ty.kid_lt x k (by rw [HL.out]; exact hlt)
          rw [hxe] at h1
          have h2 := HM.out
          omega
        rw [hxe] at x0 x1 hxk
        rw [hye] at y0 y1 hyk
        have HXE := Lib.hid hxe
        have HYE := Lib.hid hye
        have HXK := Lib.hid hxk
        have HYK := Lib.hid hyk
        clear hxe hye hxk hyk
        have hki : (k : Int) < (L : Int) := by omega
        go_wp2_with fail
        have hih := fun (W : World) (h1 : TyAt W xk vi) (h2 : TyAt W yk vj) => ih xk yk vi vj W hsz h1 h2
        rcases hs : sameB xk yk with _ | _
        all_goals
          have HIH := Lib.hid hih
          have HSB := Lib.hid hs
        all_goals
          simp only [hs] at hih
        · clear HIH
          have HIH := Lib.hid hih
          clear hih hs
          have HS := Lib.hid (sameB_no (x := x) (y := y) (same_not (i := k) (by rw [HXE.out, HYE.out]; intro e; have h1 := sameB_yes e; rw [HSB.out] at h1; cases h1)))
          go_region_held3 (fun w' => w'.cell? ⟨w.heap.size, 2, none⟩ = some (.slice (some ⟨bx, ox, none⟩) L cx) ∧ w'.cell? ⟨w.heap.size + 1, 2, none⟩ = some (.slice (some ⟨b2, o2, none⟩) L cy) ∧ w'.cell? ⟨bx, ox + k * 3, none⟩ = some (.int .i64 xk.k) ∧ w'.cell? ⟨bx, ox + k * 3 + 1, none⟩ = some (.int .i64 xk.n) ∧ w'.cell? ⟨bx, ox + k * 3 + 2, none⟩ = some vi ∧ w'.cell? ⟨b2, o2 + k * 3, none⟩ = some (.int .i64 yk.k) ∧ w'.cell? ⟨b2, o2 + k * 3 + 1, none⟩ = some (.int .i64 yk.n) ∧ w'.cell? ⟨b2, o2 + k * 3 + 2, none⟩ = some vj) (go_keep)
            (first | (go_at_call 89; refine (HIH.out _ (HXK.out.kept (Below.refl _ _).drew) (HYK.out.kept (Below.refl _ _).drew)).mono ?_; rintro e w5 ⟨rfl, hb5⟩; have HB5 := Lib.hid (HB.out.drew.trans (hb5.mono (HB.out.size2))); have HQ5 := Lib.hid (HW.out.drew.trans (hb5.mono HW.out.size)); obtain ⟨z1, z2⟩ := six2 HB5.out; have z3 := (hb5.cell (p := ⟨bx, ox + k * 3, none⟩) bxl).trans x0; have z4 := (hb5.cell (p := ⟨bx, ox + k * 3 + 1, none⟩) bxl).trans x1; have z5 := (hb5.cell (p := ⟨bx, ox + k * 3 + 2, none⟩) bxl).trans x2; have z6 := (hb5.cell (p := ⟨b2, o2 + k * 3, none⟩) b2l).trans y0; have z7 := (hb5.cell (p := ⟨b2, o2 + k * 3 + 1, none⟩) b2l).trans y1; have z8 := (hb5.cell (p := ⟨b2, o2 + k * 3 + 2, none⟩) b2l).trans y2; clear hb5))
          all_goals
            go_wp2_with fail
            go_ret
            exact ⟨ret_b HS.out.symm, HQ5.out⟩
        · clear HIH
          have HIH := Lib.hid hih
          clear hih hs
          have HE : Hid (xk = yk) := Lib.hid (by
            by_cases e : xk = yk
            · exact e
            · have h1 := sameB_no e; rw [HSB.out] at h1; cases h1)
          go_region_held3 (fun w' => w'.cell? ⟨w.heap.size, 2, none⟩ = some (.slice (some ⟨bx, ox, none⟩) L cx) ∧ w'.cell? ⟨w.heap.size + 1, 2, none⟩ = some (.slice (some ⟨b2, o2, none⟩) L cy) ∧ w'.cell? ⟨bx, ox + k * 3, none⟩ = some (.int .i64 xk.k) ∧ w'.cell? ⟨bx, ox + k * 3 + 1, none⟩ = some (.int .i64 xk.n) ∧ w'.cell? ⟨bx, ox + k * 3 + 2, none⟩ = some vi ∧ w'.cell? ⟨b2, o2 + k * 3, none⟩ = some (.int .i64 yk.k) ∧ w'.cell? ⟨b2, o2 + k * 3 + 1, none⟩ = some (.int .i64 yk.n) ∧ w'.cell? ⟨b2, o2 + k * 3 + 2, none⟩ = some vj) (go_keep)
            (first | (go_at_call 89; refine (HIH.out _ (HXK.out.kept (Below.refl _ _).drew) (HYK.out.kept (Below.refl _ _).drew)).mono ?_; rintro e w5 ⟨rfl, hb5⟩; have HB5 := Lib.hid (HB.out.drew.trans (hb5.mono (HB.out.size2))); have HQ5 := Lib.hid (HW.out.drew.trans (hb5.mono HW.out.size)); obtain ⟨z1, z2⟩ := six2 HB5.out; have z3 := (hb5.cell (p := ⟨bx, ox + k * 3, none⟩) bxl).trans x0; have z4 := (hb5.cell (p := ⟨bx, ox + k * 3 + 1, none⟩) bxl).trans x1; have z5 := (hb5.cell (p := ⟨bx, ox + k * 3 + 2, none⟩) bxl).trans x2; have z6 := (hb5.cell (p := ⟨b2, o2 + k * 3, none⟩) b2l).trans y0; have z7 := (hb5.cell (p := ⟨b2, o2 + k * 3 + 1, none⟩) b2l).trans y1; have z8 := (hb5.cell (p := ⟨b2, o2 + k * 3 + 2, none⟩) b2l).trans y2; clear hb5))
          all_goals
            go_wp2_with fail
            go_roundw
            case rel =>
              refine ⟨k + 1, by omega, by go_num, HB5.out, Lib.hid (fun i hi => ?_)⟩
              by_cases hik : i = k
              · subst hik; rw [HXE.out, HYE.out, HE.out]
              · exact hpre.out i (by omega)
            case measure => simp [intOf]; omega
      · have hle : k = L := by omega
        have HS := Lib.hid (sameB_yes (x := x) (y := y) (same_all (by rw [HK1.out, HK2.out]) (by rw [HN1.out, HN2.out]) (by rw [HL.out, HL2.out]) (fun i hi => hpre.out i (by rw [HL.out] at hi; omega))))
        have hd : ¬ (k : Int) < (L : Int) := by omega
        clear hlt hle
        go_wp2_with fail
        go_ret
        exact ⟨ret_b HS.out.symm, HW.out⟩

end Go.Proofs.Ytndpoejohpmifaa
