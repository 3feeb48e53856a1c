/-
  The exact laws' comparison of two types: it returns true for the same type; what was in memory stays.
-/
import Derived.Test.YtpihopmgckdigaaDoorProg
import Derived.Test.YtpihopmgckdigaaDoorYd
import Derived.Deep.Slices
import Derived.BigQuiet
import Derived.Deep.RegionHeld3
import Derived.Deep.DeepCutAuto
namespace Go.Proofs.YtpihopmgckdigaaDoor
open Go.RowKit

def EqPost (w : World) (e : Ending) (w' : World) : Prop := e = .returned (.bool true) ∧ Below w.heap.size w w'
set_option maxRecDepth 100000 in
set_option maxHeartbeats 4000000 in
theorem eqTypeS_of (t : Ty) (v1 v2 : Value) (w : World) (h1 : TyAt w t v1) (h2 : TyAt w t v2) (hsz : t.ks.length ≤ 1048576)
    (H : ∀ i, i < t.ks.length → ∀ (vi vj : Value) (W : World), TyAt W (t.ks.getD i Ty.dummy) vi → TyAt W (t.ks.getD i Ty.dummy) vj →
      Calls Tryd.prog 17 #[.agg #[.int .i64 (t.ks.getD i Ty.dummy).k, .int .i64 (t.ks.getD i Ty.dummy).n, vi], .agg #[.int .i64 (t.ks.getD i Ty.dummy).k, .int .i64 (t.ks.getD i Ty.dummy).n, vj]] W (EqPost W)) :
    Calls Tryd.prog 39 #[v1, v2] w (EqPost w) := by
  have H1 := Lib.hid h1
  have H2 := Lib.hid h2
  have HH := Lib.hid H
  obtain ⟨a1, c1, rfl, hl1⟩ := h1.slice
  obtain ⟨a2, c2, rfl, hl2⟩ := h2.slice
  obtain ⟨L, hL⟩ : ∃ L, t.ks.length = L := ⟨_, rfl⟩
  have HL := Lib.hid hL
  rw [hL] at hsz ⊢
  clear h1 h2 H hl1 hl2 hL
  go_enter Tryd.func39, Tryd.ntmps39
  go_wp2_with fail
  go_loopw [5] (fun i wr => ∃ j : Nat, j ≤ L ∧ i = .int .i64 j ∧ Below w.heap.size w wr) (fun i _ => L - (intOf i).toNat)
  case atStart => exact ⟨0, Nat.zero_le _, rfl, Below.refl _ _⟩
  case round =>
    obtain ⟨j, hj, rfl, hB⟩ := hrel
    have HB := Lib.hid hB
    by_cases hlt : j < L
    · have hji : (j : Int) < (L : Int) := by omega
      obtain ⟨bx, ox, capx, vi, ex, bxl, x0, x1, x2, hxk⟩ := (H1.out.kept hB).kid j (by rw [HL.out]; exact hlt)
      obtain ⟨b2, o2, cap2, vj, ey, b2l, y0, y1, y2, hyk⟩ := (H2.out.kept hB).kid j (by rw [HL.out]; exact hlt)
      have ex1 : a1 = some ⟨bx, ox, none⟩ := by injection ex
      have ey1 : a2 = some ⟨b2, o2, none⟩ := by injection ey
      subst ex1
      subst ey1
      obtain ⟨xk, hxe⟩ : ∃ x, t.ks.getD j Ty.dummy = x := ⟨_, rfl⟩
      have HIH := Lib.hid (HH.out j (by rw [HL.out]; exact hlt))
      rw [hxe] at x0 x1 hxk y0 y1 hyk HIH
      have HXK := Lib.hid hxk
      have HYK := Lib.hid hyk
      clear ex ey hB hxe hxk hyk
      go_wp2_with fail
      go_region_held3 (fun w' => w'.cell? ⟨bx, ox + j * 3, none⟩ = some (.int .i64 xk.k) ∧ w'.cell? ⟨bx, ox + j * 3 + 1, none⟩ = some (.int .i64 xk.n) ∧ w'.cell? ⟨bx, ox + j * 3 + 2, none⟩ = some vi ∧ w'.cell? ⟨b2, o2 + j * 3, none⟩ = some (.int .i64 xk.k) ∧ w'.cell? ⟨b2, o2 + j * 3 + 1, none⟩ = some (.int .i64 xk.n) ∧ w'.cell? ⟨b2, o2 + j * 3 + 2, none⟩ = some vj) (go_keep)
        (first | (go_at_call 17; refine (HIH.out _ _ _ (HXK.out.kept (Below.refl _ _).drew) (HYK.out.kept (Below.refl _ _).drew)).mono ?_; rintro e w5 ⟨rfl, hb5⟩; have HB5 := Lib.hid (HB.out.drew.trans (hb5.mono HB.out.size)); have z3 := (hb5.cell (p := ⟨bx, ox + j * 3, none⟩) bxl).trans x0; have z4 := (hb5.cell (p := ⟨bx, ox + j * 3 + 1, none⟩) bxl).trans x1; have z5 := (hb5.cell (p := ⟨bx, ox + j * 3 + 2, none⟩) bxl).trans x2; have z6 := (hb5.cell (p := ⟨b2, o2 + j * 3, none⟩) b2l).trans y0; have z7 := (hb5.cell (p := ⟨b2, o2 + j * 3 + 1, none⟩) b2l).trans y1; have z8 := (hb5.cell (p := ⟨b2, o2 + j * 3 + 2, none⟩) b2l).trans y2; clear hb5))
      all_goals
        go_wp2_with fail
      all_goals exact ⟨⟨j + 1, by omega, by go_num, HB5.out⟩, by simp [intOf]; omega⟩
    · have hji : ¬ (j : Int) < (L : Int) := by omega
      clear hB hlt
      go_wp2_with fail
      go_ret
      exact ⟨rfl, HB.out⟩

set_option maxRecDepth 100000 in
set_option maxHeartbeats 2000000 in
theorem eqType_any (m : Nat) : ∀ (t : Ty) (c : Nat) (v1 v2 : Value) (w : World), SizeOf.sizeOf t < m → Cnt t c → c ≤ 1048576 → TyAt w t v1 → TyAt w t v2 →
    Calls Tryd.prog 17 #[.agg #[.int .i64 t.k, .int .i64 t.n, v1], .agg #[.int .i64 t.k, .int .i64 t.n, v2]] w (EqPost w) := by
  induction m with
  | zero => intro t c v1 v2 w h; exact absurd h (Nat.not_lt_zero _)
  | succ m ih =>
    intro t c v1 v2 w hm hc hcm hx hy
    obtain ⟨cf, hce, hcs⟩ : ∃ cf : Nat → Nat, c = t.ks.length + ((List.range t.ks.length).map cf).sum ∧ ∀ i, i < t.ks.length → Cnt (t.ks.getD i Ty.dummy) (cf i) := by
      cases hc with
      | node k n ks c h => exact ⟨c, rfl, h⟩
    have hls : t.ks.length ≤ 1048576 := by omega
    have HSUB : Hid (∀ (u1 u2 : Value) (W : World), TyAt W t u1 → TyAt W t u2 → Calls Tryd.prog 39 #[u1, u2] W (EqPost W)) := Lib.hid (fun u1 u2 W g1 g2 => eqTypeS_of t u1 u2 W g1 g2 hls (fun i hi vi vj W' hk1 hk2 => ih _ (cf i) vi vj W' (by have := Ty.kid_lt t i hi; omega) (hcs i hi) (by
      have h1 := sum_mono cf (show i + 1 ≤ t.ks.length by omega)
      rw [sum_succ] at h1
      omega) hk1 hk2))
    have HX := Lib.hid hx
    have HY := Lib.hid hy
    obtain ⟨a1, c1, rfl, hlen⟩ := hx.slice
    obtain ⟨a2, c2, rfl, hlen2⟩ := hy.slice
    clear hx hy hc hcs hce hm ih
    have hbb : Below w.heap.size w ((w.alloc (.cells #[.int .i64 t.k, .int .i64 t.n, .slice a1 t.ks.length c1] 34)).alloc (.cells #[.int .i64 t.k, .int .i64 t.n, .slice a2 t.ks.length c2] 34)) := ((Below.refl _ _).alloc (Nat.le_refl _) _).alloc (by simp) _
    have HBB := Lib.hid hbb
    clear hbb
    go_enter Tryd.func17, Tryd.ntmps17
    go_wp2_with fail
    go_at_call 39
    refine (HSUB.out _ _ _ (HX.out.kept HBB.out) (HY.out.kept HBB.out)).mono ?_
    rintro e w1 ⟨rfl, hb1⟩
    have HB1 := Lib.hid (HBB.out.trans (hb1.mono HBB.out.size))
    clear hb1
    go_wp2_with fail
    go_ret
    exact ⟨rfl, HB1.out⟩

end Go.Proofs.YtpihopmgckdigaaDoor
