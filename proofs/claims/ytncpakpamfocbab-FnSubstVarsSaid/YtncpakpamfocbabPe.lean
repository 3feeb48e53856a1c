/-
  What the draws of the arguments of TypeSame and of one type return. Nothing that was in memory changes.
-/
import Derived.Test.YtncpakpamfocbabPd
namespace Go.Proofs.Ytncpakpamfocbab
open Go.RowKit
set_option linter.unusedVariables false
set_option linter.unusedSimpArgs false
theorem TyN.dw {w w' : World} {lo E B : Nat} {t : Ty} {v : Value} (h : TyN w lo E t v) (hB : B < lo) (hd : Dw B w w') : TyN w' lo E t v :=
  h.keep hd.size (fun b h1 _ h3 => hd.block b h3 (by simp; omega))
/-- Where the draw of an argument stands: its reader, its results' cells, still empty. -/
structure QS (w : World) (S B : Nat) (a : Option Addr) (len cap : Nat) (zs : List Int) (p : Nat) (W : World) : Prop where
  rd : Rd W B a len cap zs p
  bl : Below S w W
  r1 : RB W S
  lt : S + 2 ≤ B
  eq : w.heap.size = S
theorem QS.step {w : World} {S B : Nat} {a : Option Addr} {len cap : Nat} {zs : List Int} {p p' : Nat} {W W' : World} (h : QS w S B a len cap zs p W) (hd : Dw B W W') (hr : Rd W' B a len cap zs p') : QS w S B a len cap zs p' W' := by
  have hl := h.lt
  have hb := h.rd.big
  exact ⟨hr, h.bl.trans (hd.below (by omega) (by omega)), h.r1.keep hd.size (hd.block S h.r1.sz (by simp; omega)), h.lt, h.eq⟩
theorem QS.r1step {w : World} {S B : Nat} {a : Option Addr} {len cap : Nat} {zs : List Int} {p : Nat} {W0 W W' : World} (h : QS w S B a len cap zs p W0) {R : Nat} (hr : RB W R) (hR : R < B) (hd : Dw B W W') : RB W' R :=
  hr.keep hd.size (hd.block R hr.sz (by simp; omega))
theorem TBox.dw {w w' : World} {B T : Nat} {x y z : Value} (h : TBox w T x y z) (hB : B < T) (hd : Dw B w w') : TBox w' T x y z := by
  have e := hd.block T h.sz (by simp; omega)
  exact ⟨(cellEq e).trans h.c0, (cellEq e).trans h.c1, (cellEq e).trans h.c2, Nat.lt_of_lt_of_le h.sz hd.size⟩
theorem rest_ty {W : World} {t : Ty} {v : Value} {lo E S : Nat} (ht : TyN W lo E t v) (hlo : S < lo) (x y z : Value) : TyN (((W.setCell ⟨S, 0, none⟩ x).setCell ⟨S, 1, none⟩ y).setCell ⟨S, 2, none⟩ z) lo E t v :=
  ht.keep (by simp) (fun b h1 _ _ => heap_res (by omega))
theorem rest_bl {w W : World} {S R : Nat} (h : Below S w W) (hR : S ≤ R) (x y z : Value) : Below S w (((W.setCell ⟨R, 0, none⟩ x).setCell ⟨R, 1, none⟩ y).setCell ⟨R, 2, none⟩ z) :=
  ((h.setCell (p := ⟨R, 0, none⟩) hR x).setCell (p := ⟨R, 1, none⟩) hR y).setCell (p := ⟨R, 2, none⟩) hR z
theorem rest_rb {W : World} {R S : Nat} (h : RB W R) (hne : R ≠ S) (x y z : Value) : RB (((W.setCell ⟨S, 0, none⟩ x).setCell ⟨S, 1, none⟩ y).setCell ⟨S, 2, none⟩ z) R :=
  h.keep (by simp) (heap_res hne)
def TwoPost (w : World) (e : Ending) (w' : World) : Prop := ∃ (x y : Ty) (vx vy : Value), nodes x ≤ 300 ∧ nodes y ≤ 300 ∧ e = .returned (.tuple #[.agg #[.int .i64 x.k, .int .i64 x.n, vx], .agg #[.int .i64 y.k, .int .i64 y.n, vy]]) ∧ TyOk w' x vx ∧ TyOk w' y vy ∧ Below w.heap.size w w'
def OnePost (w : World) (e : Ending) (w' : World) : Prop := ∃ (x : Ty) (vx : Value), nodes x ≤ 300 ∧ e = .returned (.agg #[.int .i64 x.k, .int .i64 x.n, vx]) ∧ TyOk w' x vx ∧ Below w.heap.size w w'
def OneN (w : World) (e : Ending) (w' : World) : Prop := ∃ (x : Ty) (vx : Value), nodes x ≤ 300 ∧ e = .returned (.agg #[.int .i64 x.k, .int .i64 x.n, vx]) ∧ TyN w' w.heap.size 0 x vx ∧ Below w.heap.size w w'
theorem nodes5 {t : Ty} (h : shp 5 t = true) : nodes t ≤ 40 := by
  have := nodes_shp 5 t h
  have e : (2 : Nat) ^ 5 = 32 := by decide
  omega
set_option maxRecDepth 100000 in
set_option maxHeartbeats 8000000 in
theorem drawTypeSame_any (a : Option Addr) (len cap : Nat) (zs : List Int) (w : World) (h : IsRow w a len cap zs) :
    Calls Try.prog 24 #[.slice a len cap] w (TwoPost w) := by
  obtain ⟨W1, hW1⟩ : ∃ W, (w.alloc (.cells #[.int .i64 0, .int .i64 0, .slice none 0 0] 29)).alloc (.cells #[.int .i64 0, .int .i64 0, .slice none 0 0] 29) = W := ⟨_, rfl⟩
  obtain ⟨S, hS⟩ : ∃ S, w.heap.size = S := ⟨_, rfl⟩
  have hb1 : Below S w W1 := by rw [← hW1, ← hS]; exact ((Below.refl _ _).alloc (Nat.le_refl _) _).alloc (by simp) _
  have HB1 := Lib.hid hb1
  have HI : Hid (IsRow W1 a len cap zs) := Lib.hid (h.kept (by rw [hS]; exact hb1))
  have HR1 : Hid (RB W1 S) := Lib.hid (by rw [← hW1, ← hS]; exact (rb_new w _).kept ((Below.refl _ _).alloc (Nat.le_refl _) _))
  have HR2 : Hid (RB W1 (S + 1)) := Lib.hid (by have h := rb_new (w.alloc (.cells #[.int .i64 0, .int .i64 0, .slice none 0 0] 29)) 29; rw [hW1, sizeA, hS] at h; exact h)
  have hz1 : W1.heap.size = S + 2 := by rw [← hW1, ← hS]; simp
  have HZ1 := Lib.hid hz1
  have HW1 := Lib.hid hW1
  have HS := Lib.hid hS
  clear h hb1 hW1 hz1
  go_enter Try.func24, Try.ntmps24
  go_wp2_with fail
  rw [HW1.out]
  clear hS
  go_at_call 53
  refine (l16Open_any a len cap zs _ HI.out).mono ?_
  rintro e w1 ⟨ln, cp, rfl, hr, hb⟩
  obtain ⟨B, hB⟩ : ∃ B, W1.heap.size = B := ⟨_, rfl⟩
  rw [hB] at hr ⊢
  have hBS : S + 2 ≤ B := by rw [← hB, HZ1.out]; exact Nat.le_refl _
  have HQ1 : Hid (QS w S B a ln cp zs 0 w1) := Lib.hid ⟨hr, HB1.out.trans (hb.mono (by omega)), HR1.out.kept hb, by omega, HS.out⟩
  have HRB1 : Hid (RB w1 (S + 1)) := Lib.hid (HR2.out.kept hb)
  clear hr hb hB
  go_wp2_with fail
  go_at_call 54
  refine (l2Some_any B a ln cp zs 0 _ (fun t => nodes t ≤ 40) (fun t h => nodes5 h) 100 (Nat.le_refl _) HQ1.out.rd (by omega)).mono ?_
  rintro e w2 ⟨x, vx, r, hnx, hr, rfl, hty, hd, hrd⟩
  have HNX := Lib.hid hnx
  have HTX := Lib.hid (hty.toN (E := 0) (Nat.le_refl _) (.inr (by have := HQ1.out.rd.big; omega)))
  have HQ2 := Lib.hid (HQ1.out.step hd hrd)
  have HRB2 := Lib.hid (HQ1.out.r1step HRB1.out (by omega) hd)
  have hb1 : B < w1.heap.size := HQ1.out.rd.big
  obtain ⟨ax, cx, rfl, _⟩ := hty.at.slice
  have HZ := Lib.hid hd.size
  clear hty hd hrd hnx
  obtain ⟨W2, hW2⟩ : ∃ W, w2.alloc (.cells #[.int .i64 x.k, .int .i64 x.n, .slice ax x.ks.length cx] 29) = W := ⟨_, rfl⟩
  obtain ⟨T, hT⟩ : ∃ T, w2.heap.size = T := ⟨_, rfl⟩
  have hdW : Dw B w2 W2 := by rw [← hW2]; exact (Dw.refl B w2).alloc _
  have HTB : Hid (TBox W2 T (.int .i64 x.k) (.int .i64 x.n) (.slice ax x.ks.length cx)) := Lib.hid (by rw [← hW2, ← hT]; exact tbox_new w2 _ _ _ _)
  have HQ2 := Lib.hid (HQ2.out.step hdW (by rw [← hW2]; exact HQ2.out.rd.alloc _))
  have HRB2 := Lib.hid (HQ1.out.r1step (W := w2) HRB2.out (by omega) hdW)
  have HTX := Lib.hid (HTX.out.dw (B := B) (by omega) hdW)
  have HW2 := Lib.hid hW2
  have hBT : B < T := by rw [← hT]; have := HZ.out; omega
  clear hW2 hdW
  go_wp2_with fail
  rw [HW2.out]
  clear hT
  go_at_call 55
  refine (pick_any B a ln cp zs _ 2 _ HQ2.out.rd (by omega) (by omega) (by omega)).mono ?_
  rintro e w3 ⟨k, hk, rfl, kk, hkk⟩
  have HQ3 := Lib.hid (HQ2.out.step (Dw.pick hkk) (HQ2.out.rd.picked hkk))
  have HRB3 := Lib.hid (HQ2.out.r1step HRB2.out (by omega) (Dw.pick hkk))
  have HTX3 := Lib.hid (HTX.out.dw (B := B) (by omega) (Dw.pick hkk))
  have HTB3 := Lib.hid (HTB.out.dw hBT (Dw.pick hkk))
  obtain ⟨t0, t1, t2, tz⟩ := HTB3.out
  clear hkk
  have hST : S + 2 ≤ T := by omega
  have hSx : S < w1.heap.size := by omega
  have hSx1 : S + 1 < w1.heap.size := by omega
  have hn1 : ¬ T = S := by omega
  have hn2 : ¬ T = S + 1 := by omega
  have hn3 : ¬ S = T := by omega
  have hn4 : ¬ S + 1 = T := by omega
  by_cases hk0 : k = 0
  · subst hk0
    go_wp2_with fail
    go_region_held3 (fun w' => w'.cell? ⟨T, 0, none⟩ = some (.int .i64 x.k) ∧ w'.cell? ⟨T, 1, none⟩ = some (.int .i64 x.n) ∧ w'.cell? ⟨T, 2, none⟩ = some (.slice ax x.ks.length cx)) (go_keep)
      (first | (go_at_call 54; refine (l2Some_any B a ln cp zs _ _ (fun t => nodes t ≤ 40) (fun t h => nodes5 h) 100 (Nat.le_refl _) (by first | exact HQ3.out.rd | exact HQ3.out.rd.drew) (by omega)).mono ?_; rintro e w4 ⟨y, vy, r2, hny, hr2, rfl, hty, hd, hrd⟩; have hd' : Dw B w3 w4 := (Dw.trans (B := B) (a := w3) (by first | exact Dw.refl _ _ | exact (Dw.refl _ _).drew) hd); have hty' : TyIn w4 w3.heap.size w4.heap.size y vy := hty; have HNY := Lib.hid hny; have HTY := Lib.hid (hty'.toN (E := 0) (lo' := S + 2) (by have := HQ3.out.rd.big; omega) (.inr (by have := HQ3.out.rd.big; omega))); have HQ4 := Lib.hid (HQ3.out.step hd' hrd); have HRB4 := Lib.hid (HQ3.out.r1step HRB3.out (by omega) hd'); have HTX4 := Lib.hid (HTX3.out.dw (B := B) (by omega) hd'); have HTB4 := Lib.hid (HTB3.out.dw hBT hd'); obtain ⟨ay, cy, rfl, _⟩ := hty'.at.slice; obtain ⟨u0, u1, u2, uz⟩ := HTB4.out; obtain ⟨p0, p1, p2, f0, f1, f2, psz⟩ := HQ4.out.r1; obtain ⟨o0, o1, o2, of0, of1, of2, oz⟩ := HRB4.out; clear hty hty' hd hd' hrd hny))
    all_goals go_wp2_with fail
    all_goals refine bodyPost_ret (v := .tuple #[.agg #[.int .i64 x.k, .int .i64 x.n, .slice ax x.ks.length cx], .agg #[.int .i64 y.k, .int .i64 y.n, .slice ay y.ks.length cy]]) (by simp [results, Try.results24, go_sem, p0, p1, p2, o0, o1, o2]) rfl ⟨x, y, _, _, by have := HNX.out; omega, by have := HNY.out; omega, rfl, (rest_ty (rest_ty HTX4.out hSx _ _ _) hSx1 _ _ _).ok, (rest_ty (rest_ty HTY.out (by omega) _ _ _) (by omega) _ _ _).ok, ?_⟩
    all_goals rw [HS.out]
    all_goals exact rest_bl (rest_bl HQ4.out.bl (Nat.le_refl _) _ _ _) (Nat.le_succ _) _ _ _
  · have hkb : ((k : Int) == 0) = false := by rw [beq_eq_false_iff_ne]; omega
    go_wp2_with fail
    go_region_held3 (fun w' => w'.cell? ⟨T, 0, none⟩ = some (.int .i64 x.k) ∧ w'.cell? ⟨T, 1, none⟩ = some (.int .i64 x.n) ∧ w'.cell? ⟨T, 2, none⟩ = some (.slice ax x.ks.length cx)) (go_keep)
      (first
        | (go_at_call 56; have hgd := HTZ; clear hgd; refine (l2Mutate_any z _ B a ln cp zs _ _ (fun t => nodes t ≤ 120) (fun t h => by have := HNZ.out; omega) 2 (Nat.le_refl _) (by have := HNZ.out; omega) (by first | exact HTZ.out.ok.at | exact HTZ.out.ok.at.kept (Below.refl _ _).drew) (by first | exact HQ5.out.rd | exact HQ5.out.rd.drew) (by omega)).mono ?_; rintro e w4 ⟨y, vy, r2, hny, hr2, rfl, hty, hd, hrd⟩; have hd' : Dw B w5 w4 := (Dw.trans (B := B) (a := w5) (by first | exact Dw.refl _ _ | exact (Dw.refl _ _).drew) hd); have hty' : TyN w4 w5.heap.size 0 y vy := hty; have HNY := Lib.hid hny; have HTY := Lib.hid (hty'.low (lo' := S + 2) (by have := HQ5.out.rd.big; omega)); have HQ4 := Lib.hid (HQ5.out.step hd' hrd); have HRB4 := Lib.hid (HQ5.out.r1step HRB5.out (by omega) hd'); have HTX4 := Lib.hid (HTX5.out.dw (B := B) (by omega) hd'); have HTB4 := Lib.hid (HTB5.out.dw hBT hd'); obtain ⟨ay, cy, rfl, _⟩ := hty'.ok.at.slice; obtain ⟨u0, u1, u2, uz⟩ := HTB4.out; obtain ⟨p0, p1, p2, f0, f1, f2, psz⟩ := HQ4.out.r1; obtain ⟨o0, o1, o2, of0, of1, of2, oz⟩ := HRB4.out; clear hty hty' hd hd' hrd hny)
        | (go_at_call 56; refine (l2Mutate_any x _ B a ln cp zs _ _ (fun t => nodes t ≤ 80) (fun t h => by have := HNX.out; omega) 2 (Nat.le_refl _) (by have := HNX.out; omega) (by first | exact HTX3.out.ok.at | exact HTX3.out.ok.at.kept (Below.refl _ _).drew) (by first | exact HQ3.out.rd | exact HQ3.out.rd.drew) (by omega)).mono ?_; rintro e w5 ⟨z, vz, r3, hnz, hr3, rfl, htz, hd, hrd⟩; have hd' : Dw B w3 w5 := (Dw.trans (B := B) (a := w3) (by first | exact Dw.refl _ _ | exact (Dw.refl _ _).drew) hd); have HNZ := Lib.hid hnz; have HTZ := Lib.hid htz; have HQ5 := Lib.hid (HQ3.out.step hd' hrd); have HRB5 := Lib.hid (HQ3.out.r1step HRB3.out (by omega) hd'); have HTX5 := Lib.hid (HTX3.out.dw (B := B) (by omega) hd'); have HTB5 := Lib.hid (HTB3.out.dw hBT hd'); obtain ⟨v0, v1, v2, vz5⟩ := HTB5.out; obtain ⟨az, cz, rfl, _⟩ := htz.ok.at.slice; clear htz hd hd' hrd hnz))
    all_goals go_wp2_with fail
    all_goals refine bodyPost_ret (v := .tuple #[.agg #[.int .i64 x.k, .int .i64 x.n, .slice ax x.ks.length cx], .agg #[.int .i64 y.k, .int .i64 y.n, .slice ay y.ks.length cy]]) (by simp [results, Try.results24, go_sem, p0, p1, p2, o0, o1, o2]) rfl ⟨x, y, _, _, by have := HNX.out; omega, by have := HNY.out; omega, rfl, (rest_ty (rest_ty HTX4.out hSx _ _ _) hSx1 _ _ _).ok, (rest_ty (rest_ty HTY.out (by omega) _ _ _) (by omega) _ _ _).ok, ?_⟩
    all_goals rw [HS.out]
    all_goals exact rest_bl (rest_bl HQ4.out.bl (Nat.le_refl _) _ _ _) (Nat.le_succ _) _ _ _

set_option maxRecDepth 100000 in
set_option maxHeartbeats 8000000 in
theorem drawTypeValidN_any (a : Option Addr) (len cap : Nat) (zs : List Int) (w : World) (h : IsRow w a len cap zs) :
    Calls Try.prog 69 #[.slice a len cap] w (OneN w) := by
  obtain ⟨W1, hW1⟩ : ∃ W, w.alloc (.cells #[.int .i64 0, .int .i64 0, .slice none 0 0] 29) = W := ⟨_, rfl⟩
  obtain ⟨S, hS⟩ : ∃ S, w.heap.size = S := ⟨_, rfl⟩
  have hb1 : Below S w W1 := by rw [← hW1, ← hS]; exact (Below.refl _ _).alloc (Nat.le_refl _) _
  have HB1 := Lib.hid hb1
  have HI : Hid (IsRow W1 a len cap zs) := Lib.hid (h.kept (by rw [hS]; exact hb1))
  have HR1 : Hid (RB W1 S) := Lib.hid (by rw [← hW1, ← hS]; exact rb_new w _)
  have hz1 : W1.heap.size = S + 1 := by rw [← hW1, ← hS]; simp
  have HZ1 := Lib.hid hz1
  have HW1 := Lib.hid hW1
  have HS := Lib.hid hS
  clear h hb1 hW1 hz1
  go_enter Try.func69, Try.ntmps69
  go_wp2_with fail
  rw [HW1.out]
  clear hS
  go_at_call 53
  refine (l16Open_any a len cap zs _ HI.out).mono ?_
  rintro e w1 ⟨ln, cp, rfl, hr, hb⟩
  obtain ⟨B, hB⟩ : ∃ B, W1.heap.size = B := ⟨_, rfl⟩
  rw [hB] at hr ⊢
  have hBS : S + 1 ≤ B := by rw [← hB, HZ1.out]; exact Nat.le_refl _
  have HRD1 := Lib.hid hr
  have HBL1 : Hid (Below S w w1) := Lib.hid (HB1.out.trans (hb.mono (by omega)))
  have HRB1 : Hid (RB w1 S) := Lib.hid (HR1.out.kept hb)
  have hb1 : B < w1.heap.size := hr.big
  clear hr hb hB
  go_wp2_with fail
  go_at_call 54
  refine (l2Some_any B a ln cp zs 0 _ (fun t => nodes t ≤ 40) (fun t h => nodes5 h) 100 (Nat.le_refl _) HRD1.out (by omega)).mono ?_
  rintro e w2 ⟨x, vx, r, hnx, hr, rfl, hty, hd, hrd⟩
  have HNX := Lib.hid hnx
  have HTX := Lib.hid (hty.toN (E := 0) (Nat.le_refl _) (.inr (by omega)))
  have HRD2 := Lib.hid hrd
  have HBL2 : Hid (Below S w w2) := Lib.hid (HBL1.out.trans (hd.below (by omega) (by omega)))
  have HRB2 : Hid (RB w2 S) := Lib.hid (HRB1.out.keep hd.size (hd.block S HRB1.out.sz (by simp; omega)))
  obtain ⟨ax, cx, rfl, _⟩ := hty.at.slice
  have HZ2 := Lib.hid hd.size
  clear hty hd hrd hnx
  go_wp2_with fail
  go_at_call 56
  refine (l2Mutate_any x _ B a ln cp zs _ _ (fun t => nodes t ≤ 80) (fun t h => by have := HNX.out; omega) 2 (Nat.le_refl _) (by have := HNX.out; omega) HTX.out.ok.at HRD2.out (by omega)).mono ?_
  rintro e w5 ⟨z, vz, r3, hnz, hr3, rfl, htz, hd, hrd⟩
  have HNZ := Lib.hid hnz
  have HTZ := Lib.hid htz
  have HBL5 : Hid (Below S w w5) := Lib.hid (HBL2.out.trans (hd.below (by omega) (by have := HZ2.out; omega)))
  have HRB5 : Hid (RB w5 S) := Lib.hid (HRB2.out.keep hd.size (hd.block S HRB2.out.sz (by simp; omega)))
  obtain ⟨az, cz, rfl, _⟩ := htz.ok.at.slice
  clear htz hd hrd hnz
  obtain ⟨p0, p1, p2, f0, f1, f2, psz⟩ := HRB5.out
  have hSx : S < w2.heap.size := by have := HZ2.out; omega
  go_wp2_with fail
  refine bodyPost_ret (v := .agg #[.int .i64 z.k, .int .i64 z.n, .slice az z.ks.length cz]) (by simp [results, Try.results69, go_sem, p0, p1, p2]) rfl ⟨z, _, by have := HNZ.out; omega, rfl, ((rest_ty HTZ.out hSx _ _ _).low (by have := HBL2.out.size; omega)), ?_⟩
  rw [HS.out]
  exact rest_bl HBL5.out (Nat.le_refl _) _ _ _
set_option maxRecDepth 100000 in
set_option maxHeartbeats 4000000 in
theorem drawCanonType_any (a : Option Addr) (len cap : Nat) (zs : List Int) (w : World) (h : IsRow w a len cap zs) :
    Calls Try.prog 32 #[.slice a len cap] w (OnePost w) := by
  obtain ⟨W1, hW1⟩ : ∃ W, w.alloc (.cells #[.int .i64 0, .int .i64 0, .slice none 0 0] 29) = W := ⟨_, rfl⟩
  obtain ⟨S, hS⟩ : ∃ S, w.heap.size = S := ⟨_, rfl⟩
  have hb1 : Below S w W1 := by rw [← hW1, ← hS]; exact (Below.refl _ _).alloc (Nat.le_refl _) _
  have HB1 := Lib.hid hb1
  have HI : Hid (IsRow W1 a len cap zs) := Lib.hid (h.kept (by rw [hS]; exact hb1))
  have HR1 : Hid (RB W1 S) := Lib.hid (by rw [← hW1, ← hS]; exact rb_new w _)
  have HW1 := Lib.hid hW1
  have HS := Lib.hid hS
  clear h hb1 hW1
  go_enter Try.func32, Try.ntmps32
  go_wp2_with fail
  rw [HW1.out]
  clear hS
  go_at_call 69
  refine (drawTypeValidN_any a len cap zs _ HI.out).mono ?_
  rintro e w5 ⟨z, vz, hnz, rfl, htz, hb⟩
  have HNZ := Lib.hid hnz
  have HTZ := Lib.hid htz
  have hsW : S < W1.heap.size := HR1.out.sz
  have HBL5 : Hid (Below S w w5) := Lib.hid (HB1.out.trans (hb.mono (by omega)))
  have HRB5 : Hid (RB w5 S) := Lib.hid (HR1.out.kept hb)
  obtain ⟨az, cz, rfl, _⟩ := htz.ok.at.slice
  clear htz hb hnz
  obtain ⟨p0, p1, p2, f0, f1, f2, psz⟩ := HRB5.out
  go_wp2_with fail
  refine bodyPost_ret (v := .agg #[.int .i64 z.k, .int .i64 z.n, .slice az z.ks.length cz]) (by simp [results, Try.results32, go_sem, p0, p1, p2]) rfl ⟨z, _, by have := HNZ.out; omega, rfl, (rest_ty HTZ.out hsW _ _ _).ok, ?_⟩
  rw [HS.out]
  exact rest_bl HBL5.out (Nat.le_refl _) _ _ _

end Go.Proofs.Ytncpakpamfocbab
