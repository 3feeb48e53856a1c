/-
  What TypeSame of the model returns: for every two types in memory, whether they are the same; what was in memory stays.
-/
import Derived.Test.YtncpakpamfocbaaProg
import Derived.Test.YtncpakpamfocbaaYb
import Derived.Test.YtncpakpamfocbaaEa
import Derived.Deep.RegionHeld3
import Derived.Deep.RegionWith
import Derived.MapKept
namespace Go.Proofs.Ytncpakpamfocbaa.Ox
open Go.Proofs.Ytncpakpamfocbaa
open Go.RowKit

theorem _root_.Go.Proofs.Ytncpakpamfocbaa.bytes_eq {a b : ByteArray} (h : a = b) : (a.toList == b.toList) = true := by
  subst h; simp
theorem _root_.Go.Proofs.Ytncpakpamfocbaa.bytes_ne {a b : ByteArray} (h : ¬ a = b) : (a.toList == b.toList) = false := by
  rw [beq_eq_false_iff_ne]
  intro h2
  rw [ByteArray.toList_eq, ByteArray.toList_eq] at h2
  cases a; cases b
  exact h (congrArg ByteArray.mk (Array.toList_inj.1 h2))
theorem ten2 {w wk : World} {a1 a2 a3 a4 b1 b2 b3 b4 v1 v2 : Value} {T : TypeId} (h : Below (w.heap.size + 1 + 1) ((w.alloc (.cells #[a1, a2, a3, a4, v1] T)).alloc (.cells #[b1, b2, b3, b4, v2] T)) wk) :
    wk.cell? ⟨w.heap.size, 4, none⟩ = some v1 ∧ wk.cell? ⟨w.heap.size + 1, 4, none⟩ = some v2 := by
  have a0 : w.heap.size < w.heap.size + 1 + 1 := by omega
  have a1 : w.heap.size + 1 < w.heap.size + 1 + 1 := by omega
  constructor
  · rw [h.cell (p := ⟨w.heap.size, 4, none⟩) a0]; go_simp
  · rw [h.cell (p := ⟨w.heap.size + 1, 4, none⟩) a1]; go_simp
set_option maxRecDepth 100000 in
set_option maxHeartbeats 4000000 in
theorem exprSame_spec (m : Nat) : ∀ (x y : Ex) (vx vy : Value) (w : World), SizeOf.sizeOf x < m → ExAt w x vx → ExAt w y vy →
    Calls Try.prog 13 #[.agg #[.int .i64 x.k, .int .i64 x.n, .string x.m, .string x.s, vx], .agg #[.int .i64 y.k, .int .i64 y.n, .string y.m, .string y.s, vy]] w fun e w' => e = .returned (.bool (sameX x y)) ∧ Below w.heap.size w w' := by
  induction m with
  | zero => intro x y vx vy w h _ _; exact absurd h (Nat.not_lt_zero _)
  | succ m ih =>
    intro x y vx vy w hm hx hy
    have HX := Lib.hid hx
    have HY := Lib.hid hy
    have HM := Lib.hid hm
    obtain ⟨ax, cx, rfl, lx⟩ := hx.slice
    obtain ⟨ay, cy, rfl, ly⟩ := hy.slice
    clear hx hy hm
    obtain ⟨k1, hk1⟩ : ∃ k, x.k = k := ⟨_, rfl⟩
    obtain ⟨k2, hk2⟩ : ∃ k, y.k = k := ⟨_, rfl⟩
    obtain ⟨n1, hn1⟩ : ∃ n, x.n = n := ⟨_, rfl⟩
    obtain ⟨n2, hn2⟩ : ∃ n, y.n = n := ⟨_, rfl⟩
    obtain ⟨m1, hm1⟩ : ∃ k, x.m = k := ⟨_, rfl⟩
    obtain ⟨m2, hm2⟩ : ∃ k, y.m = k := ⟨_, rfl⟩
    obtain ⟨s1, hs1⟩ : ∃ k, x.s = k := ⟨_, rfl⟩
    obtain ⟨s2, hs2⟩ : ∃ k, y.s = k := ⟨_, rfl⟩
    obtain ⟨L, hL⟩ : ∃ L, x.ks.length = L := ⟨_, rfl⟩
    obtain ⟨L2, hL2⟩ : ∃ L, y.ks.length = L := ⟨_, rfl⟩
    have HK1 := Lib.hid hk1
    have HK2 := Lib.hid hk2
    have HN1 := Lib.hid hn1
    have HN2 := Lib.hid hn2
    have HMM1 := Lib.hid hm1
    have HMM2 := Lib.hid hm2
    have HSS1 := Lib.hid hs1
    have HSS2 := Lib.hid hs2
    have HL := Lib.hid hL
    have HL2 := Lib.hid hL2
    rw [hk1, hk2, hn1, hn2, hm1, hm2, hs1, hs2, hL, hL2]
    rw [hL] at lx
    rw [hL2] at ly
    clear hk1 hk2 hn1 hn2 hm1 hm2 hs1 hs2 hL hL2
    by_cases hk : k1 = k2
    case neg =>
      have HS := Lib.hid (sameX_no (x := x) (y := y) (fun e => hk (by rw [← HK1.out, ← HK2.out, e])))
      have e1 : (k1 != k2) = true := by simpa using hk
      clear hk
      go_enter Try.func13, Try.ntmps13
      go_wp2_with fail
      go_ret
      exact ⟨ret_b HS.out.symm, ((Below.refl _ _).alloc (Nat.le_refl _) _).alloc (by simp) _⟩
    subst hk
    by_cases hn : n1 = n2
    case neg =>
      have HS := Lib.hid (sameX_no (x := x) (y := y) (fun e => hn (by rw [← HN1.out, ← HN2.out, e])))
      have e2 : (n1 != n2) = true := by simpa using hn
      clear hn
      go_enter Try.func13, Try.ntmps13
      go_wp2_with fail
      go_ret
      exact ⟨ret_b HS.out.symm, ((Below.refl _ _).alloc (Nat.le_refl _) _).alloc (by simp) _⟩
    subst hn
    by_cases hqm : m1 = m2
    case neg =>
      have HS := Lib.hid (sameX_no (x := x) (y := y) (fun e => hqm (by rw [← HMM1.out, ← HMM2.out, e])))
      have em : (m1.toList == m2.toList) = false := bytes_ne hqm
      clear hqm
      go_enter Try.func13, Try.ntmps13
      go_wp2_with fail
      go_ret
      exact ⟨ret_b HS.out.symm, ((Below.refl _ _).alloc (Nat.le_refl _) _).alloc (by simp) _⟩
    subst hqm
    by_cases hqs : s1 = s2
    case neg =>
      have HS := Lib.hid (sameX_no (x := x) (y := y) (fun e => hqs (by rw [← HSS1.out, ← HSS2.out, e])))
      have es : (s1.toList == s2.toList) = false := bytes_ne hqs
      clear hqs
      go_enter Try.func13, Try.ntmps13
      go_wp2_with fail
      go_ret
      exact ⟨ret_b HS.out.symm, ((Below.refl _ _).alloc (Nat.le_refl _) _).alloc (by simp) _⟩
    subst hqs
    by_cases hl : L = L2
    case neg =>
      have HS := Lib.hid (sameX_no (x := x) (y := y) (fun e => hl (by rw [← HL.out, ← HL2.out, e])))
      have e3 : ((L : Int) != (L2 : Int)) = true := by simp; omega
      clear hl
      go_enter Try.func13, Try.ntmps13
      go_wp2_with fail
      go_ret
      exact ⟨ret_b HS.out.symm, ((Below.refl _ _).alloc (Nat.le_refl _) _).alloc (by simp) _⟩
    subst hl
    go_enter Try.func13, Try.ntmps13
    go_wp2_with fail
    go_loopw [5] (fun i wr => ∃ k : Nat, k ≤ L ∧ i = .int .i64 k ∧ Below (w.heap.size + 1 + 1) ((w.alloc (.cells #[.int .i64 k1, .int .i64 n1, .string m1, .string s1, .slice ax L cx] 29)).alloc (.cells #[.int .i64 k1, .int .i64 n1, .string m1, .string s1, .slice ay L cy] 29)) wr ∧ Hid (∀ i, i < k → x.ks.getD i Ex.dummy = y.ks.getD i Ex.dummy)) (fun i _ => L - (intOf i).toNat)
    case atStart => exact ⟨0, Nat.zero_le _, rfl, Below.refl _ _, Lib.hid (fun i hi => absurd hi (Nat.not_lt_zero _))⟩
    case round =>
      obtain ⟨k, hk, rfl, hB, hpre⟩ := hrel
      have HB := Lib.hid hB
      have HW := Lib.hid (below_two2 hB)
      obtain ⟨q1, q2⟩ := ten2 hB
      clear hB
      by_cases hlt : k < L
      · obtain ⟨bx, ox, capx, vi, ex, bxl, ⟨x0, x1, x2, x3, x4⟩, hxk⟩ := (HX.out.kept HW.out).kid k (by rw [HL.out]; exact hlt)
        obtain ⟨b2, o2, cap2, vj, ey, b2l, ⟨y0, y1, y2, y3, y4⟩, hyk⟩ := (HY.out.kept HW.out).kid k (by rw [HL2.out]; exact hlt)
        have ex1 : ax = some ⟨bx, ox, none⟩ := by injection ex
        have ey1 : ay = some ⟨b2, o2, none⟩ := by injection ey
        subst ex1
        subst ey1
        clear ex ey
        obtain ⟨xk, hxe⟩ : ∃ t, x.ks.getD k Ex.dummy = t := ⟨_, rfl⟩
        obtain ⟨yk, hye⟩ : ∃ t, y.ks.getD k Ex.dummy = t := ⟨_, rfl⟩
        have hsz : SizeOf.sizeOf xk < m := by
          have h1 := Ex.kid_lt x k (by rw [HL.out]; exact hlt)
          rw [hxe] at h1
          have h2 := HM.out
          omega
        rw [hxe] at x0 x1 x2 x3 hxk
        rw [hye] at y0 y1 y2 y3 hyk
        have HXE := Lib.hid hxe
        have HYE := Lib.hid hye
        have HXK := Lib.hid hxk
        have HYK := Lib.hid hyk
        clear hxe hye hxk hyk
        have hki : (k : Int) < (L : Int) := by omega
        go_wp2_with fail
        have hih := fun (W : World) (h1 : ExAt W xk vi) (h2 : ExAt W yk vj) => ih xk yk vi vj W hsz h1 h2
        rcases hs : sameX xk yk with _ | _
        all_goals
          have HIH := Lib.hid hih
          have HSB := Lib.hid hs
        all_goals
          simp only [hs] at hih
        · clear HIH
          have HIH := Lib.hid hih
          clear hih hs
          have HS := Lib.hid (sameX_no (x := x) (y := y) (samex_not (i := k) (by rw [HXE.out, HYE.out]; intro e; have h1 := sameX_yes e; rw [HSB.out] at h1; cases h1)))
          go_region_held3 (fun w' => w'.cell? ⟨w.heap.size, 4, none⟩ = some (.slice (some ⟨bx, ox, none⟩) L cx) ∧ w'.cell? ⟨w.heap.size + 1, 4, none⟩ = some (.slice (some ⟨b2, o2, none⟩) L cy) ∧ w'.cell? ⟨bx, ox + k * 5, none⟩ = some (.int .i64 xk.k) ∧ w'.cell? ⟨bx, ox + k * 5 + 1, none⟩ = some (.int .i64 xk.n) ∧ w'.cell? ⟨bx, ox + k * 5 + 2, none⟩ = some (.string xk.m) ∧ w'.cell? ⟨bx, ox + k * 5 + 3, none⟩ = some (.string xk.s) ∧ w'.cell? ⟨bx, ox + k * 5 + 4, none⟩ = some vi ∧ w'.cell? ⟨b2, o2 + k * 5, none⟩ = some (.int .i64 yk.k) ∧ w'.cell? ⟨b2, o2 + k * 5 + 1, none⟩ = some (.int .i64 yk.n) ∧ w'.cell? ⟨b2, o2 + k * 5 + 2, none⟩ = some (.string yk.m) ∧ w'.cell? ⟨b2, o2 + k * 5 + 3, none⟩ = some (.string yk.s) ∧ w'.cell? ⟨b2, o2 + k * 5 + 4, none⟩ = some vj) (go_keep)
            (first | (go_at_call 13; refine (HIH.out _ (HXK.out.kept (Below.refl _ _).drew) (HYK.out.kept (Below.refl _ _).drew)).mono ?_; rintro e w5 ⟨rfl, hb5⟩; have HB5 := Lib.hid (HB.out.drew.trans (hb5.mono (HB.out.size2))); have HQ5 := Lib.hid (HW.out.drew.trans (hb5.mono HW.out.size)); obtain ⟨z1, z2⟩ := ten2 HB5.out; have zx0 := (hb5.cell (p := ⟨bx, ox + k * 5, none⟩) bxl).trans x0; have zx1 := (hb5.cell (p := ⟨bx, ox + k * 5 + 1, none⟩) bxl).trans x1; have zx2 := (hb5.cell (p := ⟨bx, ox + k * 5 + 2, none⟩) bxl).trans x2; have zx3 := (hb5.cell (p := ⟨bx, ox + k * 5 + 3, none⟩) bxl).trans x3; have zx4 := (hb5.cell (p := ⟨bx, ox + k * 5 + 4, none⟩) bxl).trans x4; have zy0 := (hb5.cell (p := ⟨b2, o2 + k * 5, none⟩) b2l).trans y0; have zy1 := (hb5.cell (p := ⟨b2, o2 + k * 5 + 1, none⟩) b2l).trans y1; have zy2 := (hb5.cell (p := ⟨b2, o2 + k * 5 + 2, none⟩) b2l).trans y2; have zy3 := (hb5.cell (p := ⟨b2, o2 + k * 5 + 3, none⟩) b2l).trans y3; have zy4 := (hb5.cell (p := ⟨b2, o2 + k * 5 + 4, none⟩) b2l).trans y4; clear hb5))
          all_goals
            go_wp2_with fail
            go_ret
            exact ⟨ret_b HS.out.symm, HQ5.out⟩
        · clear HIH
          have HIH := Lib.hid hih
          clear hih hs
          have HE : Hid (xk = yk) := Lib.hid (by
            by_cases e : xk = yk
            · exact e
            · have h1 := sameX_no e; rw [HSB.out] at h1; cases h1)
          go_region_held3 (fun w' => w'.cell? ⟨w.heap.size, 4, none⟩ = some (.slice (some ⟨bx, ox, none⟩) L cx) ∧ w'.cell? ⟨w.heap.size + 1, 4, none⟩ = some (.slice (some ⟨b2, o2, none⟩) L cy) ∧ w'.cell? ⟨bx, ox + k * 5, none⟩ = some (.int .i64 xk.k) ∧ w'.cell? ⟨bx, ox + k * 5 + 1, none⟩ = some (.int .i64 xk.n) ∧ w'.cell? ⟨bx, ox + k * 5 + 2, none⟩ = some (.string xk.m) ∧ w'.cell? ⟨bx, ox + k * 5 + 3, none⟩ = some (.string xk.s) ∧ w'.cell? ⟨bx, ox + k * 5 + 4, none⟩ = some vi ∧ w'.cell? ⟨b2, o2 + k * 5, none⟩ = some (.int .i64 yk.k) ∧ w'.cell? ⟨b2, o2 + k * 5 + 1, none⟩ = some (.int .i64 yk.n) ∧ w'.cell? ⟨b2, o2 + k * 5 + 2, none⟩ = some (.string yk.m) ∧ w'.cell? ⟨b2, o2 + k * 5 + 3, none⟩ = some (.string yk.s) ∧ w'.cell? ⟨b2, o2 + k * 5 + 4, none⟩ = some vj) (go_keep)
            (first | (go_at_call 13; refine (HIH.out _ (HXK.out.kept (Below.refl _ _).drew) (HYK.out.kept (Below.refl _ _).drew)).mono ?_; rintro e w5 ⟨rfl, hb5⟩; have HB5 := Lib.hid (HB.out.drew.trans (hb5.mono (HB.out.size2))); have HQ5 := Lib.hid (HW.out.drew.trans (hb5.mono HW.out.size)); obtain ⟨z1, z2⟩ := ten2 HB5.out; have zx0 := (hb5.cell (p := ⟨bx, ox + k * 5, none⟩) bxl).trans x0; have zx1 := (hb5.cell (p := ⟨bx, ox + k * 5 + 1, none⟩) bxl).trans x1; have zx2 := (hb5.cell (p := ⟨bx, ox + k * 5 + 2, none⟩) bxl).trans x2; have zx3 := (hb5.cell (p := ⟨bx, ox + k * 5 + 3, none⟩) bxl).trans x3; have zx4 := (hb5.cell (p := ⟨bx, ox + k * 5 + 4, none⟩) bxl).trans x4; have zy0 := (hb5.cell (p := ⟨b2, o2 + k * 5, none⟩) b2l).trans y0; have zy1 := (hb5.cell (p := ⟨b2, o2 + k * 5 + 1, none⟩) b2l).trans y1; have zy2 := (hb5.cell (p := ⟨b2, o2 + k * 5 + 2, none⟩) b2l).trans y2; have zy3 := (hb5.cell (p := ⟨b2, o2 + k * 5 + 3, none⟩) b2l).trans y3; have zy4 := (hb5.cell (p := ⟨b2, o2 + k * 5 + 4, none⟩) b2l).trans y4; clear hb5))
          all_goals
            go_wp2_with fail
            go_roundw
            case rel =>
              refine ⟨k + 1, by omega, by go_num, HB5.out, Lib.hid (fun i hi => ?_)⟩
              by_cases hik : i = k
              · subst hik; rw [HXE.out, HYE.out, HE.out]
              · exact hpre.out i (by omega)
            case measure => simp [intOf]; omega
      · have hle : k = L := by omega
        have HS := Lib.hid (sameX_yes (x := x) (y := y) (samex_all (by rw [HK1.out, HK2.out]) (by rw [HN1.out, HN2.out]) (by rw [HMM1.out, HMM2.out]) (by rw [HSS1.out, HSS2.out]) (by rw [HL.out, HL2.out]) (fun i hi => hpre.out i (by rw [HL.out] at hi; omega))))
        have hd : ¬ (k : Int) < (L : Int) := by omega
        clear hlt hle
        go_wp2_with fail
        go_ret
        exact ⟨ret_b HS.out.symm, HW.out⟩

end Go.Proofs.Ytncpakpamfocbaa.Ox
