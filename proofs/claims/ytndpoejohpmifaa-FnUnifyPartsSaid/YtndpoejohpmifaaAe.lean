/-
  l2Subst of the model.
-/
import Derived.Test.YtndpoejohpmifaaAd
namespace Go.Proofs.Ytndpoejohpmifaa
open Go.RowKit
set_option linter.unusedVariables false
set_option linter.unusedSimpArgs false

set_option maxRecDepth 100000 in
set_option maxHeartbeats 8000000 in
theorem l2Subst_no (t : Ty) (rs : List Ty) (v : Value) (la : Option Addr) (LL lc : Nat) (w : World) (hx : TyAt w t v) (hrs : rs.length = t.ks.length) (hsz : t.ks.length ≤ 1000000) (hk : (t.k == 4) = false)
    (H : ∀ i, i < t.ks.length → ∀ (vi : Value) (W : World), TyAt W (t.ks.getD i Ty.dummy) vi → Below w.heap.size w W → Calls Try.prog 88 #[.agg #[.int .i64 (t.ks.getD i Ty.dummy).k, .int .i64 (t.ks.getD i Ty.dummy).n, vi], .slice la LL lc] W (TyRet (rs.getD i Ty.dummy) W)) :
    Calls Try.prog 88 #[.agg #[.int .i64 t.k, .int .i64 t.n, v], .slice la LL lc] w (TyRet (.node t.k t.n rs) w) := by
  obtain ⟨i0, hi0, hz0, hz1, hz2⟩ := info_parts infoTy
  have HH := Lib.hid H
  have HX0 := Lib.hid hx
  obtain ⟨a, cap, rfl, hlen⟩ := hx.slice
  obtain ⟨L, hL⟩ : ∃ L, t.ks.length = L := ⟨_, rfl⟩
  have HL := Lib.hid hL
  have HRS := Lib.hid (hrs.trans hL)
  rw [hL] at hlen hsz ⊢
  obtain ⟨S, hS⟩ : ∃ S, w.heap.size = S := ⟨_, rfl⟩
  have HS := Lib.hid hS
  obtain ⟨W1, hW1⟩ : ∃ W1, ((w.alloc (.cells #[.int .i64 t.k, .int .i64 t.n, .slice a L cap] 25)).alloc (.cells #[.int .i64 0, .int .i64 0, .slice none 0 0] 25)).alloc (.cells #[.int .i64 t.k, .int .i64 t.n, .slice none 0 0] 25) = W1 := ⟨_, rfl⟩
  have HW1 := Lib.hid hW1
  have hB1 : Below w.heap.size w W1 := by rw [← hW1]; exact (((Below.refl _ _).alloc (Nat.le_refl _) _).alloc (by simp) _).alloc (by simp; omega) _
  have HB1S : Hid (Below S w W1) := Lib.hid (by rw [← hS]; exact hB1)
  have HT1 : Hid (TBox W1 S (.int .i64 t.k) (.int .i64 t.n) (.slice a L cap)) := Lib.hid (by rw [← hW1, ← hS]; exact ((tbox_new w _ _ _ _).kept ((Below.refl _ _).alloc (Nat.le_refl _) _)).kept ((Below.refl _ _).alloc (Nat.le_refl _) _))
  have HR1 : Hid (RB W1 (S + 1)) := Lib.hid (by have h := (rb_new (w.alloc (.cells #[.int .i64 t.k, .int .i64 t.n, .slice a L cap] 25)) 25).kept ((Below.refl _ _).alloc (Nat.le_refl _) (.cells #[.int .i64 t.k, .int .i64 t.n, .slice none 0 0] 25)); rw [sizeA, hW1, hS] at h; exact h)
  have HO1 : Hid (OB W1 (S + 1 + 1) t.k t.n (.slice none 0 0)) := Lib.hid (by
    have h := ob_new ((w.alloc (.cells #[.int .i64 t.k, .int .i64 t.n, .slice a L cap] 25)).alloc (.cells #[.int .i64 0, .int .i64 0, .slice none 0 0] 25)) t.k t.n (.slice none 0 0) 25
    rw [sizeA, sizeA, hW1, hS] at h
    exact h)
  have hz1' : W1.heap.size = S + 1 + 1 + 1 := by rw [← hW1, ← hS]; simp
  have HSW := Lib.hid (show S ≤ W1.heap.size by omega)
  clear hx hL hrs H hB1 hW1
  go_enter Try.func88, Try.ntmps88
  go_wp2_with fail
  rw [HW1.out]
  clear hS
  go_loopw [6] (fun i wr => ∃ (j : Nat) (cv : Value) (xs : List Value) (vs : Nat → Value) (l h : Nat → Nat), j ≤ L ∧ i = .int .i64 j ∧ Hid (Gr rs (S + 1 + 1 + 1) j wr cv xs vs l h) ∧ Hid (OB wr (S + 1 + 1) t.k t.n cv) ∧ Hid (Inside (S + 1 + 1) (S + 1 + 1 + 1) W1 wr)) (fun i _ => L - (intOf i).toNat)
  case atStart => exact ⟨0, _, [], _, _, _, Nat.zero_le _, rfl, Lib.hid (gr_nil rs (S + 1 + 1 + 1) W1), HO1, Lib.hid (Inside.refl _ _ _)⟩
  case round =>
    obtain ⟨j, cv, xs, vs, l, h, hj, rfl, hgr, hob, hin⟩ := hrel
    have HTw := Lib.hid (HT1.out.away hin.out (.inl (by omega)))
    have hszw : S + 1 + 1 + 1 ≤ wr.heap.size := by have := hin.out.size; omega
    by_cases hlt : j < L
    · have hji : (j : Int) < (L : Int) := by omega
      have hti := hin.out.below (B := S) (by omega) HB1S.out HSW.out
      obtain ⟨b, o, cap2, vi, ex, bl, y0, y1, y2, hkid⟩ := HX0.out.kid j (by rw [HL.out]; exact hlt)
      have ex1 : a = some ⟨b, o, none⟩ := by injection ex
      subst ex1
      rw [HS.out] at bl
      replace y0 := (hti.cell (p := ⟨b, o + j * 3, none⟩) bl).trans y0
      replace y1 := (hti.cell (p := ⟨b, o + j * 3 + 1, none⟩) bl).trans y1
      replace y2 := (hti.cell (p := ⟨b, o + j * 3 + 2, none⟩) bl).trans y2
      have HKID := Lib.hid (hkid.kept (by rw [HS.out]; exact hti))
      have HJ := Lib.hid (HH.out j (by rw [HL.out]; exact hlt) vi)
      obtain ⟨x, hx⟩ : ∃ x, t.ks.getD j Ty.dummy = x := ⟨_, rfl⟩
      obtain ⟨y, hy⟩ : ∃ y, rs.getD j Ty.dummy = y := ⟨_, rfl⟩
      rw [hx] at y0 y1 HKID HJ
      rw [hy] at HJ
      have HY := Lib.hid hy
      have hbw : b < wr.heap.size := by omega
      have h63 : j + 1 ≤ maxLen := by unfold maxLen; omega
      have hby : (j + 1) * 40 ≤ 140737488355328 := by omega
      obtain ⟨t0, t1, t2, tz⟩ := HTw.out
      obtain ⟨p0, p1, p2, pf2, pz⟩ := hob.out
      have hn0 : ¬ S = S + 1 + 1 := by omega
      have hn1 : ¬ b = S + 1 + 1 := by omega
      have HTI := Lib.hid hti
      have hszS : S ≤ wr.heap.size := by omega
      clear ex hkid hx hy hti t0 t1 tz
      go_wp2_with fail
      go_region_law (first
        | (refine step_append_lies _ (by rfl) _ _ _ (by rfl) (S + 1 + 1 + 1) 25 i0 _ 3 40 Try.underlying23 hi0 hz0 hz1 hz2 rfl (by omega) cv j xs (by rfl) (HOWN2.out.alloc _) ⟨w2.heap.size, 0, none⟩ 1 1 [.int .i64 y.k, .int .i64 y.n, .slice a2 y.ks.length k2] (by rfl) (by rfl) (World.news_of_block (cs := #[.int .i64 y.k, .int .i64 y.n, .slice a2 y.ks.length k2]) (t := 25) (fr := (0, 0)) (heap_alloc_new w2 _)) (by simp [Value.oneCell']) (by omega) h63 hby (hbase2 _) (w2.heap.size + 1) (by simp) ?_; intro g cap3 w3 hown3 hgrow hat hltg; obtain ⟨xs3, vs3, l3, h3, hg3⟩ := hgr.out.step (by omega) HY.out HB2.out HTY2.out hown3 hgrow hat; have hrow : ∀ q, cv.ownBlock = some q → S + 1 + 1 + 1 ≤ q := (fun q e => (own_low HOWN2.out e).1); have e0 := grow_old hgrow (q := S) (by omega) (fun q e => by have := hrow q e; omega); have e1 := grow_old hgrow (q := b) (by omega) (fun q e => by have := hrow q e; omega); have HO3 := Lib.hid (HO2.out.keep (by have := grow_size hgrow; omega) (grow_old hgrow (q := S + 1 + 1) (by omega) (fun q e => by have := hrow q e; omega))); have HI3 := Lib.hid (in_grow HI2.out hgrow (fun q e => by have := hrow q e; omega)); have HG3 := Lib.hid hg3; have f2 := (cellEq e0).trans c2; have g0 := (cellEq e1).trans d0; have g1 := (cellEq e1).trans d1; have g2 := (cellEq e1).trans d2; obtain ⟨o0, o1, o2, of2, oz⟩ := HO3.out; have hs3 := grow_size hgrow; clear hown3 hgrow hat hg3 e0 e1)
        | (go_simp; go_at_call 88; refine (HJ.out _ (HKID.out.kept (by first | exact Below.refl _ _ | exact (Below.refl _ _).drew)) (by rw [HS.out]; exact (HTI.out.trans (Below.mono (B := wr.heap.size) (by first | exact Below.refl _ _ | exact (Below.refl _ _).drew) hszS)))).mono ?_; rintro e w2 ⟨v2, rfl, hty2, hb2⟩; obtain ⟨a2, k2, rfl, _⟩ := hty2.at.slice; have hb2' : Below wr.heap.size wr w2 := Below.trans (B := wr.heap.size) (by first | exact Below.refl _ _ | exact (Below.refl _ _).drew) hb2; have hty2' : TyIn w2 wr.heap.size w2.heap.size y (.slice a2 y.ks.length k2) := hty2; have HTY2 := Lib.hid hty2'; have HB2 := Lib.hid hb2'; have HOWN2 := Lib.hid (own_below hgr.out.own hb2'); have HO2 := Lib.hid (hob.out.kept hb2'); have HT2 := Lib.hid (HTw.out.kept hb2'); have HI2 := Lib.hid (hin.out.trans (Inside.of_below hb2')); have hs2 : wr.heap.size ≤ w2.heap.size := hb2'.size; have hbase2 : ∀ o, S + 1 + 1 + 1 ≤ (w2.alloc o).heap.size := (fun o => by simp; omega); obtain ⟨c0, c1, c2, cz⟩ := HT2.out; obtain ⟨rp0, rp1, rp2, rpf, rpz⟩ := HO2.out; have d0 := (hb2'.cell (p := ⟨b, o + j * 3, none⟩) hbw).trans y0; have d1 := (hb2'.cell (p := ⟨b, o + j * 3 + 1, none⟩) hbw).trans y1; have d2 := (hb2'.cell (p := ⟨b, o + j * 3 + 2, none⟩) hbw).trans y2; clear hb2 hb2' hty2 hty2'))
      all_goals go_wp2_with fail
      all_goals go_roundw
      all_goals first
        | exact ⟨j + 1, _, _, _, _, _, by omega, by go_num, Lib.hid (HG3.out.keep (by simp) (fun q h1 _ => heap_setCell_other _ ⟨S + 1 + 1, 2, none⟩ q _ (by show q ≠ S + 1 + 1; omega))), Lib.hid (HO3.out.set _), Lib.hid (HI3.out.trans (Inside.set _ _ _ (Nat.le_refl _) (Nat.lt_succ_self _)))⟩
        | (simp [intOf]; omega)
    · have hji : ¬ (j : Int) < (L : Int) := by omega
      obtain rfl : j = L := by omega
      have hgd := hgr.out
      rw [← HRS.out] at hgd
      have HD := Lib.hid (hgd.done t.k t.n (by rw [HRS.out]; exact hlen))
      obtain ⟨ca, cc, rfl, _⟩ := HD.out.at.slice
      have HRw := Lib.hid (HR1.out.keep hin.out.size (hin.out.block _ HR1.out.sz (.inl (by omega))))
      have HBw := Lib.hid (hin.out.below (B := S) (by omega) HB1S.out HSW.out)
      obtain ⟨t0, t1, t2, tz⟩ := HTw.out
      obtain ⟨p0, p1, p2, pf2, pz⟩ := hob.out
      obtain ⟨q0, q1, q2, qf0, qf1, qf2, qz⟩ := HRw.out
      clear hgd
      go_wp2_with fail
      exact bodyPost_ret (v := .agg #[.int .i64 t.k, .int .i64 t.n, .slice ca (Ty.node t.k t.n rs).ks.length cc]) (by simp [results, Try.results88, go_sem, q0, q1, q2, Ty.ks, HRS.out]) rfl ⟨_, rfl, TyIn.wide (res_ty (B := S + 1) (w := w) (HD.out.wide (by omega) (Nat.le_refl _)) (by rw [HS.out]; omega) _ _ _) (Nat.le_refl _) (Nat.le_refl _), Inside.thin (in_res (lo := w.heap.size) (hi := w.heap.size) (Inside.of_below (by rw [HS.out]; exact HBw.out)) (by rw [HS.out]; omega) _ _ _)⟩

set_option maxRecDepth 100000 in
set_option maxHeartbeats 8000000 in
theorem l2Subst_out (t : Ty) (rs : List Ty) (v : Value) (la : Option Addr) (LL lc : Nat) (w : World) (hx : TyAt w t v) (hrs : rs.length = t.ks.length) (hsz : t.ks.length ≤ 1000000) (hk : (t.k == 4) = true) (hn : ¬ t.n < (LL : Int))
    (H : ∀ i, i < t.ks.length → ∀ (vi : Value) (W : World), TyAt W (t.ks.getD i Ty.dummy) vi → Below w.heap.size w W → Calls Try.prog 88 #[.agg #[.int .i64 (t.ks.getD i Ty.dummy).k, .int .i64 (t.ks.getD i Ty.dummy).n, vi], .slice la LL lc] W (TyRet (rs.getD i Ty.dummy) W)) :
    Calls Try.prog 88 #[.agg #[.int .i64 t.k, .int .i64 t.n, v], .slice la LL lc] w (TyRet (.node t.k t.n rs) w) := by
  obtain ⟨i0, hi0, hz0, hz1, hz2⟩ := info_parts infoTy
  have HH := Lib.hid H
  have HX0 := Lib.hid hx
  obtain ⟨a, cap, rfl, hlen⟩ := hx.slice
  obtain ⟨L, hL⟩ : ∃ L, t.ks.length = L := ⟨_, rfl⟩
  have HL := Lib.hid hL
  have HRS := Lib.hid (hrs.trans hL)
  rw [hL] at hlen hsz ⊢
  obtain ⟨S, hS⟩ : ∃ S, w.heap.size = S := ⟨_, rfl⟩
  have HS := Lib.hid hS
  obtain ⟨W1, hW1⟩ : ∃ W1, ((w.alloc (.cells #[.int .i64 t.k, .int .i64 t.n, .slice a L cap] 25)).alloc (.cells #[.int .i64 0, .int .i64 0, .slice none 0 0] 25)).alloc (.cells #[.int .i64 t.k, .int .i64 t.n, .slice none 0 0] 25) = W1 := ⟨_, rfl⟩
  have HW1 := Lib.hid hW1
  have hB1 : Below w.heap.size w W1 := by rw [← hW1]; exact (((Below.refl _ _).alloc (Nat.le_refl _) _).alloc (by simp) _).alloc (by simp; omega) _
  have HB1S : Hid (Below S w W1) := Lib.hid (by rw [← hS]; exact hB1)
  have HT1 : Hid (TBox W1 S (.int .i64 t.k) (.int .i64 t.n) (.slice a L cap)) := Lib.hid (by rw [← hW1, ← hS]; exact ((tbox_new w _ _ _ _).kept ((Below.refl _ _).alloc (Nat.le_refl _) _)).kept ((Below.refl _ _).alloc (Nat.le_refl _) _))
  have HR1 : Hid (RB W1 (S + 1)) := Lib.hid (by have h := (rb_new (w.alloc (.cells #[.int .i64 t.k, .int .i64 t.n, .slice a L cap] 25)) 25).kept ((Below.refl _ _).alloc (Nat.le_refl _) (.cells #[.int .i64 t.k, .int .i64 t.n, .slice none 0 0] 25)); rw [sizeA, hW1, hS] at h; exact h)
  have HO1 : Hid (OB W1 (S + 1 + 1) t.k t.n (.slice none 0 0)) := Lib.hid (by
    have h := ob_new ((w.alloc (.cells #[.int .i64 t.k, .int .i64 t.n, .slice a L cap] 25)).alloc (.cells #[.int .i64 0, .int .i64 0, .slice none 0 0] 25)) t.k t.n (.slice none 0 0) 25
    rw [sizeA, sizeA, hW1, hS] at h
    exact h)
  have hz1' : W1.heap.size = S + 1 + 1 + 1 := by rw [← hW1, ← hS]; simp
  have HSW := Lib.hid (show S ≤ W1.heap.size by omega)
  clear hx hL hrs H hB1 hW1
  go_enter Try.func88, Try.ntmps88
  go_wp2_with fail
  rw [HW1.out]
  clear hS
  go_loopw [6] (fun i wr => ∃ (j : Nat) (cv : Value) (xs : List Value) (vs : Nat → Value) (l h : Nat → Nat), j ≤ L ∧ i = .int .i64 j ∧ Hid (Gr rs (S + 1 + 1 + 1) j wr cv xs vs l h) ∧ Hid (OB wr (S + 1 + 1) t.k t.n cv) ∧ Hid (Inside (S + 1 + 1) (S + 1 + 1 + 1) W1 wr)) (fun i _ => L - (intOf i).toNat)
  case atStart => exact ⟨0, _, [], _, _, _, Nat.zero_le _, rfl, Lib.hid (gr_nil rs (S + 1 + 1 + 1) W1), HO1, Lib.hid (Inside.refl _ _ _)⟩
  case round =>
    obtain ⟨j, cv, xs, vs, l, h, hj, rfl, hgr, hob, hin⟩ := hrel
    have HTw := Lib.hid (HT1.out.away hin.out (.inl (by omega)))
    have hszw : S + 1 + 1 + 1 ≤ wr.heap.size := by have := hin.out.size; omega
    by_cases hlt : j < L
    · have hji : (j : Int) < (L : Int) := by omega
      have hti := hin.out.below (B := S) (by omega) HB1S.out HSW.out
      obtain ⟨b, o, cap2, vi, ex, bl, y0, y1, y2, hkid⟩ := HX0.out.kid j (by rw [HL.out]; exact hlt)
      have ex1 : a = some ⟨b, o, none⟩ := by injection ex
      subst ex1
      rw [HS.out] at bl
      replace y0 := (hti.cell (p := ⟨b, o + j * 3, none⟩) bl).trans y0
      replace y1 := (hti.cell (p := ⟨b, o + j * 3 + 1, none⟩) bl).trans y1
      replace y2 := (hti.cell (p := ⟨b, o + j * 3 + 2, none⟩) bl).trans y2
      have HKID := Lib.hid (hkid.kept (by rw [HS.out]; exact hti))
      have HJ := Lib.hid (HH.out j (by rw [HL.out]; exact hlt) vi)
      obtain ⟨x, hx⟩ : ∃ x, t.ks.getD j Ty.dummy = x := ⟨_, rfl⟩
      obtain ⟨y, hy⟩ : ∃ y, rs.getD j Ty.dummy = y := ⟨_, rfl⟩
      rw [hx] at y0 y1 HKID HJ
      rw [hy] at HJ
      have HY := Lib.hid hy
      have hbw : b < wr.heap.size := by omega
      have h63 : j + 1 ≤ maxLen := by unfold maxLen; omega
      have hby : (j + 1) * 40 ≤ 140737488355328 := by omega
      obtain ⟨t0, t1, t2, tz⟩ := HTw.out
      obtain ⟨p0, p1, p2, pf2, pz⟩ := hob.out
      have hn0 : ¬ S = S + 1 + 1 := by omega
      have hn1 : ¬ b = S + 1 + 1 := by omega
      have HTI := Lib.hid hti
      have hszS : S ≤ wr.heap.size := by omega
      clear ex hkid hx hy hti t0 t1 tz
      go_wp2_with fail
      go_region_law (first
        | (refine step_append_lies _ (by rfl) _ _ _ (by rfl) (S + 1 + 1 + 1) 25 i0 _ 3 40 Try.underlying23 hi0 hz0 hz1 hz2 rfl (by omega) cv j xs (by rfl) (HOWN2.out.alloc _) ⟨w2.heap.size, 0, none⟩ 1 1 [.int .i64 y.k, .int .i64 y.n, .slice a2 y.ks.length k2] (by rfl) (by rfl) (World.news_of_block (cs := #[.int .i64 y.k, .int .i64 y.n, .slice a2 y.ks.length k2]) (t := 25) (fr := (0, 0)) (heap_alloc_new w2 _)) (by simp [Value.oneCell']) (by omega) h63 hby (hbase2 _) (w2.heap.size + 1) (by simp) ?_; intro g cap3 w3 hown3 hgrow hat hltg; obtain ⟨xs3, vs3, l3, h3, hg3⟩ := hgr.out.step (by omega) HY.out HB2.out HTY2.out hown3 hgrow hat; have hrow : ∀ q, cv.ownBlock = some q → S + 1 + 1 + 1 ≤ q := (fun q e => (own_low HOWN2.out e).1); have e0 := grow_old hgrow (q := S) (by omega) (fun q e => by have := hrow q e; omega); have e1 := grow_old hgrow (q := b) (by omega) (fun q e => by have := hrow q e; omega); have HO3 := Lib.hid (HO2.out.keep (by have := grow_size hgrow; omega) (grow_old hgrow (q := S + 1 + 1) (by omega) (fun q e => by have := hrow q e; omega))); have HI3 := Lib.hid (in_grow HI2.out hgrow (fun q e => by have := hrow q e; omega)); have HG3 := Lib.hid hg3; have f2 := (cellEq e0).trans c2; have g0 := (cellEq e1).trans d0; have g1 := (cellEq e1).trans d1; have g2 := (cellEq e1).trans d2; obtain ⟨o0, o1, o2, of2, oz⟩ := HO3.out; have hs3 := grow_size hgrow; clear hown3 hgrow hat hg3 e0 e1)
        | (go_simp; go_at_call 88; refine (HJ.out _ (HKID.out.kept (by first | exact Below.refl _ _ | exact (Below.refl _ _).drew)) (by rw [HS.out]; exact (HTI.out.trans (Below.mono (B := wr.heap.size) (by first | exact Below.refl _ _ | exact (Below.refl _ _).drew) hszS)))).mono ?_; rintro e w2 ⟨v2, rfl, hty2, hb2⟩; obtain ⟨a2, k2, rfl, _⟩ := hty2.at.slice; have hb2' : Below wr.heap.size wr w2 := Below.trans (B := wr.heap.size) (by first | exact Below.refl _ _ | exact (Below.refl _ _).drew) hb2; have hty2' : TyIn w2 wr.heap.size w2.heap.size y (.slice a2 y.ks.length k2) := hty2; have HTY2 := Lib.hid hty2'; have HB2 := Lib.hid hb2'; have HOWN2 := Lib.hid (own_below hgr.out.own hb2'); have HO2 := Lib.hid (hob.out.kept hb2'); have HT2 := Lib.hid (HTw.out.kept hb2'); have HI2 := Lib.hid (hin.out.trans (Inside.of_below hb2')); have hs2 : wr.heap.size ≤ w2.heap.size := hb2'.size; have hbase2 : ∀ o, S + 1 + 1 + 1 ≤ (w2.alloc o).heap.size := (fun o => by simp; omega); obtain ⟨c0, c1, c2, cz⟩ := HT2.out; obtain ⟨rp0, rp1, rp2, rpf, rpz⟩ := HO2.out; have d0 := (hb2'.cell (p := ⟨b, o + j * 3, none⟩) hbw).trans y0; have d1 := (hb2'.cell (p := ⟨b, o + j * 3 + 1, none⟩) hbw).trans y1; have d2 := (hb2'.cell (p := ⟨b, o + j * 3 + 2, none⟩) hbw).trans y2; clear hb2 hb2' hty2 hty2'))
      all_goals go_wp2_with fail
      all_goals go_roundw
      all_goals first
        | exact ⟨j + 1, _, _, _, _, _, by omega, by go_num, Lib.hid (HG3.out.keep (by simp) (fun q h1 _ => heap_setCell_other _ ⟨S + 1 + 1, 2, none⟩ q _ (by show q ≠ S + 1 + 1; omega))), Lib.hid (HO3.out.set _), Lib.hid (HI3.out.trans (Inside.set _ _ _ (Nat.le_refl _) (Nat.lt_succ_self _)))⟩
        | (simp [intOf]; omega)
    · have hji : ¬ (j : Int) < (L : Int) := by omega
      obtain rfl : j = L := by omega
      have hgd := hgr.out
      rw [← HRS.out] at hgd
      have HD := Lib.hid (hgd.done t.k t.n (by rw [HRS.out]; exact hlen))
      obtain ⟨ca, cc, rfl, _⟩ := HD.out.at.slice
      have HRw := Lib.hid (HR1.out.keep hin.out.size (hin.out.block _ HR1.out.sz (.inl (by omega))))
      have HBw := Lib.hid (hin.out.below (B := S) (by omega) HB1S.out HSW.out)
      obtain ⟨t0, t1, t2, tz⟩ := HTw.out
      obtain ⟨p0, p1, p2, pf2, pz⟩ := hob.out
      obtain ⟨q0, q1, q2, qf0, qf1, qf2, qz⟩ := HRw.out
      clear hgd
      go_wp2_with fail
      exact bodyPost_ret (v := .agg #[.int .i64 t.k, .int .i64 t.n, .slice ca (Ty.node t.k t.n rs).ks.length cc]) (by simp [results, Try.results88, go_sem, q0, q1, q2, Ty.ks, HRS.out]) rfl ⟨_, rfl, TyIn.wide (res_ty (B := S + 1) (w := w) (HD.out.wide (by omega) (Nat.le_refl _)) (by rw [HS.out]; omega) _ _ _) (Nat.le_refl _) (Nat.le_refl _), Inside.thin (in_res (lo := w.heap.size) (hi := w.heap.size) (Inside.of_below (by rw [HS.out]; exact HBw.out)) (by rw [HS.out]; omega) _ _ _)⟩

end Go.Proofs.Ytndpoejohpmifaa
