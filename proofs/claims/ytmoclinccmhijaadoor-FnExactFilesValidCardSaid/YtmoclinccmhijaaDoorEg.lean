/-
  The exact laws' comparison of two types: it returns true for the same type; what was in memory stays.
-/
import Derived.Test.YtmoclinccmhijaaDoorProg
import Derived.Test.YtmoclinccmhijaaDoorZg
import Derived.Test.YtmoclinccmhijaaDoorEd
import Derived.Deep.Slices
import Derived.BigQuiet
import Derived.Deep.RegionHeld3
import Derived.Deep.DeepCutAuto
namespace Go.Proofs.YtmoclinccmhijaaDoor.Ox
open Go.Proofs.YtmoclinccmhijaaDoor
open Go.RowKit

set_option maxRecDepth 100000 in
set_option maxHeartbeats 4000000 in
theorem eqExprS_of (t : Ex) (v1 v2 : Value) (w : World) (h1 : ExAt w t v1) (h2 : ExAt w t v2) (hsz : t.ks.length ≤ 1048576)
    (H : ∀ i, i < t.ks.length → ∀ (vi vj : Value) (W : World), ExAt W (t.ks.getD i Ex.dummy) vi → ExAt W (t.ks.getD i Ex.dummy) vj →
      Calls Tryd.prog 10 #[.agg #[.int .i64 (t.ks.getD i Ex.dummy).k, .int .i64 (t.ks.getD i Ex.dummy).n, .string (t.ks.getD i Ex.dummy).m, .string (t.ks.getD i Ex.dummy).s, vi], .agg #[.int .i64 (t.ks.getD i Ex.dummy).k, .int .i64 (t.ks.getD i Ex.dummy).n, .string (t.ks.getD i Ex.dummy).m, .string (t.ks.getD i Ex.dummy).s, vj]] W (EqPost W)) :
    Calls Tryd.prog 28 #[v1, v2] w (EqPost w) := by
  have H1 := Lib.hid h1
  have H2 := Lib.hid h2
  have HH := Lib.hid H
  obtain ⟨a1, c1, rfl, hl1⟩ := h1.slice
  obtain ⟨a2, c2, rfl, hl2⟩ := h2.slice
  obtain ⟨L, hL⟩ : ∃ L, t.ks.length = L := ⟨_, rfl⟩
  have HL := Lib.hid hL
  rw [hL] at hsz ⊢
  clear h1 h2 H hl1 hl2 hL
  go_enter Tryd.func28, Tryd.ntmps28
  go_wp2_with fail
  go_loopw [5] (fun i wr => ∃ j : Nat, j ≤ L ∧ i = .int .i64 j ∧ Below w.heap.size w wr) (fun i _ => L - (intOf i).toNat)
  case atStart => exact ⟨0, Nat.zero_le _, rfl, Below.refl _ _⟩
  case round =>
    obtain ⟨j, hj, rfl, hB⟩ := hrel
    have HB := Lib.hid hB
    by_cases hlt : j < L
    · have hji : (j : Int) < (L : Int) := by omega
      obtain ⟨bx, ox, capx, vi, ex, bxl, ⟨x0, x1, x2, x3, x4⟩, hxk⟩ := (H1.out.kept hB).kid j (by rw [HL.out]; exact hlt)
      obtain ⟨b2, o2, cap2, vj, ey, b2l, ⟨y0, y1, y2, y3, y4⟩, hyk⟩ := (H2.out.kept hB).kid j (by rw [HL.out]; exact hlt)
      have ex1 : a1 = some ⟨bx, ox, none⟩ := by injection ex
      have ey1 : a2 = some ⟨b2, o2, none⟩ := by injection ey
      subst ex1
      subst ey1
      obtain ⟨xk, hxe⟩ : ∃ x, t.ks.getD j Ex.dummy = x := ⟨_, rfl⟩
      have HIH := Lib.hid (HH.out j (by rw [HL.out]; exact hlt))
      rw [hxe] at x0 x1 x2 x3 hxk y0 y1 y2 y3 hyk HIH
      have HXK := Lib.hid hxk
      have HYK := Lib.hid hyk
      clear ex ey hB hxe hxk hyk
      go_wp2_with fail
      go_region_held3 (fun w' => w'.cell? ⟨bx, ox + j * 5, none⟩ = some (.int .i64 xk.k) ∧ w'.cell? ⟨bx, ox + j * 5 + 1, none⟩ = some (.int .i64 xk.n) ∧ w'.cell? ⟨bx, ox + j * 5 + 2, none⟩ = some (.string xk.m) ∧ w'.cell? ⟨bx, ox + j * 5 + 3, none⟩ = some (.string xk.s) ∧ w'.cell? ⟨bx, ox + j * 5 + 4, none⟩ = some vi ∧ w'.cell? ⟨b2, o2 + j * 5, none⟩ = some (.int .i64 xk.k) ∧ w'.cell? ⟨b2, o2 + j * 5 + 1, none⟩ = some (.int .i64 xk.n) ∧ w'.cell? ⟨b2, o2 + j * 5 + 2, none⟩ = some (.string xk.m) ∧ w'.cell? ⟨b2, o2 + j * 5 + 3, none⟩ = some (.string xk.s) ∧ w'.cell? ⟨b2, o2 + j * 5 + 4, none⟩ = some vj) (go_keep)
        (first | (go_at_call 10; refine (HIH.out _ _ _ (HXK.out.kept (Below.refl _ _).drew) (HYK.out.kept (Below.refl _ _).drew)).mono ?_; rintro e w5 ⟨rfl, hb5⟩; have HB5 := Lib.hid (HB.out.drew.trans (hb5.mono HB.out.size)); have zx0 := (hb5.cell (p := ⟨bx, ox + j * 5, none⟩) bxl).trans x0; have zx1 := (hb5.cell (p := ⟨bx, ox + j * 5 + 1, none⟩) bxl).trans x1; have zx2 := (hb5.cell (p := ⟨bx, ox + j * 5 + 2, none⟩) bxl).trans x2; have zx3 := (hb5.cell (p := ⟨bx, ox + j * 5 + 3, none⟩) bxl).trans x3; have zx4 := (hb5.cell (p := ⟨bx, ox + j * 5 + 4, none⟩) bxl).trans x4; have zy0 := (hb5.cell (p := ⟨b2, o2 + j * 5, none⟩) b2l).trans y0; have zy1 := (hb5.cell (p := ⟨b2, o2 + j * 5 + 1, none⟩) b2l).trans y1; have zy2 := (hb5.cell (p := ⟨b2, o2 + j * 5 + 2, none⟩) b2l).trans y2; have zy3 := (hb5.cell (p := ⟨b2, o2 + j * 5 + 3, none⟩) b2l).trans y3; have zy4 := (hb5.cell (p := ⟨b2, o2 + j * 5 + 4, none⟩) b2l).trans y4; clear hb5))
      all_goals
        go_wp2_with fail
      all_goals exact ⟨⟨j + 1, by omega, by go_num, HB5.out⟩, by simp [intOf]; omega⟩
    · have hji : ¬ (j : Int) < (L : Int) := by omega
      clear hB hlt
      go_wp2_with fail
      go_ret
      exact ⟨rfl, HB.out⟩

set_option maxRecDepth 100000 in
set_option maxHeartbeats 2000000 in
theorem eqExpr_any (m : Nat) : ∀ (t : Ex) (c : Nat) (v1 v2 : Value) (w : World), SizeOf.sizeOf t < m → Cnt t c → c ≤ 1048576 → ExAt w t v1 → ExAt w t v2 →
    Calls Tryd.prog 10 #[.agg #[.int .i64 t.k, .int .i64 t.n, .string t.m, .string t.s, v1], .agg #[.int .i64 t.k, .int .i64 t.n, .string t.m, .string t.s, v2]] w (EqPost w) := by
  induction m with
  | zero => intro t c v1 v2 w h; exact absurd h (Nat.not_lt_zero _)
  | succ m ih =>
    intro t c v1 v2 w hm hc hcm hx hy
    obtain ⟨cf, hce, hcs⟩ : ∃ cf : Nat → Nat, c = t.m.size + t.s.size + (t.ks.length + ((List.range t.ks.length).map cf).sum) ∧ ∀ i, i < t.ks.length → Cnt (t.ks.getD i Ex.dummy) (cf i) := by
      cases hc with
      | node k n m s ks c hm hs h => exact ⟨c, rfl, h⟩
    have hls : t.ks.length ≤ 1048576 := by omega
    have HSUB : Hid (∀ (u1 u2 : Value) (W : World), ExAt W t u1 → ExAt W t u2 → Calls Tryd.prog 28 #[u1, u2] W (EqPost W)) := Lib.hid (fun u1 u2 W g1 g2 => eqExprS_of t u1 u2 W g1 g2 hls (fun i hi vi vj W' hk1 hk2 => ih _ (cf i) vi vj W' (by have := Ex.kid_lt t i hi; omega) (hcs i hi) (by
      have h1 := sum_mono cf (show i + 1 ≤ t.ks.length by omega)
      rw [sum_succ] at h1
      omega) hk1 hk2))
    have HX := Lib.hid hx
    have HY := Lib.hid hy
    obtain ⟨a1, c1, rfl, hlen⟩ := hx.slice
    obtain ⟨a2, c2, rfl, hlen2⟩ := hy.slice
    clear hx hy hc hcs hce hm ih
    have hbb : Below w.heap.size w ((w.alloc (.cells #[.int .i64 t.k, .int .i64 t.n, .string t.m, .string t.s, .slice a1 t.ks.length c1] 29)).alloc (.cells #[.int .i64 t.k, .int .i64 t.n, .string t.m, .string t.s, .slice a2 t.ks.length c2] 29)) := ((Below.refl _ _).alloc (Nat.le_refl _) _).alloc (by simp) _
    have HBB := Lib.hid hbb
    clear hbb
    go_enter Tryd.func10, Tryd.ntmps10
    go_wp2_with fail
    go_at_call 28
    refine (HSUB.out _ _ _ (HX.out.kept HBB.out) (HY.out.kept HBB.out)).mono ?_
    rintro e w1 ⟨rfl, hb1⟩
    have HB1 := Lib.hid (HBB.out.trans (hb1.mono HBB.out.size))
    clear hb1
    go_wp2_with fail
    go_ret
    exact ⟨rfl, HB1.out⟩

end Go.Proofs.YtmoclinccmhijaaDoor.Ox
