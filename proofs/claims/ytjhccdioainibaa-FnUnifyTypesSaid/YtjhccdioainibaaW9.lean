/-
l2Copy of the model: any tree of at most a million nodes a row.
l2Subst of the model.
l2Subst of the model at every well-formed type; the function that SubstVars of the program gives replaceVars.
-/
import Derived.Test.YtjhccdioainibaaW8
import Derived.Deep.RegionLaw
namespace Go.Proofs.Ytjhccdioainibaa
open Go.RowKit
set_option linter.unusedVariables false
set_option linter.unusedSimpArgs false

set_option maxRecDepth 100000 in
set_option maxHeartbeats 8000000 in
theorem l2Copy_of (t : Ty) (rs : List Ty) (v : Value) (w : World) (hx : TyAt w t v) (hrs : rs.length = t.ks.length) (hsz : t.ks.length ≤ 1000000)
    (H : ∀ i, i < t.ks.length → ∀ (vi : Value) (W : World), TyAt W (t.ks.getD i Ty.dummy) vi → Calls Try.prog 69 #[.agg #[.int .i64 (t.ks.getD i Ty.dummy).k, .int .i64 (t.ks.getD i Ty.dummy).n, vi]] W (TyRet (rs.getD i Ty.dummy) W)) :
    Calls Try.prog 69 #[.agg #[.int .i64 t.k, .int .i64 t.n, v]] w (TyRet (.node t.k t.n rs) w) := by
  obtain ⟨i0, hi0, hz0, hz1, hz2⟩ := info_parts infoTy
  have HH := Lib.hid H
  have HX0 := Lib.hid hx
  obtain ⟨a, cap, rfl, hlen⟩ := hx.slice
  obtain ⟨L, hL⟩ : ∃ L, t.ks.length = L := ⟨_, rfl⟩
  have HL := Lib.hid hL
  have HRS := Lib.hid (hrs.trans hL)
  rw [hL] at hlen hsz ⊢
  obtain ⟨S, hS⟩ : ∃ S, w.heap.size = S := ⟨_, rfl⟩
  have HS := Lib.hid hS
  obtain ⟨W1, hW1⟩ : ∃ W1, ((w.alloc (.cells #[.int .i64 t.k, .int .i64 t.n, .slice a L cap] 28)).alloc (.cells #[.int .i64 0, .int .i64 0, .slice none 0 0] 28)).alloc (.cells #[.int .i64 t.k, .int .i64 t.n, .slice none 0 0] 28) = W1 := ⟨_, rfl⟩
  have HW1 := Lib.hid hW1
  have hB1 : Below w.heap.size w W1 := by rw [← hW1]; exact (((Below.refl _ _).alloc (Nat.le_refl _) _).alloc (by simp) _).alloc (by simp; omega) _
  have HB1S : Hid (Below S w W1) := Lib.hid (by rw [← hS]; exact hB1)
  have HT1 : Hid (TBox W1 S (.int .i64 t.k) (.int .i64 t.n) (.slice a L cap)) := Lib.hid (by rw [← hW1, ← hS]; exact ((tbox_new w _ _ _ _).kept ((Below.refl _ _).alloc (Nat.le_refl _) _)).kept ((Below.refl _ _).alloc (Nat.le_refl _) _))
  have HR1 : Hid (RB W1 (S + 1)) := Lib.hid (by have h := (rb_new (w.alloc (.cells #[.int .i64 t.k, .int .i64 t.n, .slice a L cap] 28)) 28).kept ((Below.refl _ _).alloc (Nat.le_refl _) (.cells #[.int .i64 t.k, .int .i64 t.n, .slice none 0 0] 28)); rw [sizeA, hW1, hS] at h; exact h)
  have HO1 : Hid (OB W1 (S + 1 + 1) t.k t.n (.slice none 0 0)) := Lib.hid (by
    have h := ob_new ((w.alloc (.cells #[.int .i64 t.k, .int .i64 t.n, .slice a L cap] 28)).alloc (.cells #[.int .i64 0, .int .i64 0, .slice none 0 0] 28)) t.k t.n (.slice none 0 0) 28
    rw [sizeA, sizeA, hW1, hS] at h
    exact h)
  have hz1' : W1.heap.size = S + 1 + 1 + 1 := by rw [← hW1, ← hS]; simp
  have HSW := Lib.hid (show S ≤ W1.heap.size by omega)
  clear hx hL hrs H hB1 hW1
  go_enter Try.func69, Try.ntmps69
  go_wp2_with fail
  rw [HW1.out]
  clear hS
  go_loopw [4] (fun i wr => ∃ (j : Nat) (cv : Value) (xs : List Value) (vs : Nat → Value) (l h : Nat → Nat), j ≤ L ∧ i = .int .i64 j ∧ Hid (Gr rs (S + 1 + 1 + 1) j wr cv xs vs l h) ∧ Hid (OB wr (S + 1 + 1) t.k t.n cv) ∧ Hid (Inside (S + 1 + 1) (S + 1 + 1 + 1) W1 wr)) (fun i _ => L - (intOf i).toNat)
  case atStart => exact ⟨0, _, [], _, _, _, Nat.zero_le _, rfl, Lib.hid (gr_nil rs (S + 1 + 1 + 1) W1), HO1, Lib.hid (Inside.refl _ _ _)⟩
  case round =>
    obtain ⟨j, cv, xs, vs, l, h, hj, rfl, hgr, hob, hin⟩ := hrel
    have HTw := Lib.hid (HT1.out.away hin.out (.inl (by omega)))
    have hszw : S + 1 + 1 + 1 ≤ wr.heap.size := by have := hin.out.size; omega
    by_cases hlt : j < L
    · have hji : (j : Int) < (L : Int) := by omega
      have hti := hin.out.below (B := S) (by omega) HB1S.out HSW.out
      obtain ⟨b, o, cap2, vi, ex, bl, y0, y1, y2, hkid⟩ := HX0.out.kid j (by rw [HL.out]; exact hlt)
      have ex1 : a = some ⟨b, o, none⟩ := by injection ex
      subst ex1
      rw [HS.out] at bl
      replace y0 := (hti.cell (p := ⟨b, o + j * 3, none⟩) bl).trans y0
      replace y1 := (hti.cell (p := ⟨b, o + j * 3 + 1, none⟩) bl).trans y1
      replace y2 := (hti.cell (p := ⟨b, o + j * 3 + 2, none⟩) bl).trans y2
      have HKID := Lib.hid (hkid.kept (by rw [HS.out]; exact hti))
      have HJ := Lib.hid (HH.out j (by rw [HL.out]; exact hlt) vi)
      obtain ⟨x, hx⟩ : ∃ x, t.ks.getD j Ty.dummy = x := ⟨_, rfl⟩
      obtain ⟨y, hy⟩ : ∃ y, rs.getD j Ty.dummy = y := ⟨_, rfl⟩
      rw [hx] at y0 y1 HKID HJ
      rw [hy] at HJ
      have HY := Lib.hid hy
      have hbw : b < wr.heap.size := by omega
      have h63 : j + 1 ≤ maxLen := by unfold maxLen; omega
      have hby : (j + 1) * 40 ≤ 140737488355328 := by omega
      obtain ⟨t0, t1, t2, tz⟩ := HTw.out
      obtain ⟨p0, p1, p2, pf2, pz⟩ := hob.out
      have hn0 : ¬ S = S + 1 + 1 := by omega
      have hn1 : ¬ b = S + 1 + 1 := by omega
      have HTI := Lib.hid hti
      have hszS : S ≤ wr.heap.size := by omega
      clear ex hkid hx hy hti t0 t1 tz
      go_wp2_with fail
      go_region_law (first
        | (refine step_append_lies _ (by rfl) _ _ _ (by rfl) (S + 1 + 1 + 1) 28 i0 _ 3 40 Try.underlying26 hi0 hz0 hz1 hz2 rfl (by omega) cv j xs (by rfl) (HOWN2.out.alloc _) ⟨w2.heap.size, 0, none⟩ 1 1 [.int .i64 y.k, .int .i64 y.n, .slice a2 y.ks.length k2] (by rfl) (by rfl) (World.news_of_block (cs := #[.int .i64 y.k, .int .i64 y.n, .slice a2 y.ks.length k2]) (t := 28) (fr := (0, 0)) (heap_alloc_new w2 _)) (by simp [Value.oneCell']) (by omega) h63 hby (hbase2 _) (w2.heap.size + 1) (by simp) ?_; intro g cap3 w3 hown3 hgrow hat hltg; obtain ⟨xs3, vs3, l3, h3, hg3⟩ := hgr.out.step (by omega) HY.out HB2.out HTY2.out hown3 hgrow hat; have hrow : ∀ q, cv.ownBlock = some q → S + 1 + 1 + 1 ≤ q := (fun q e => (own_low HOWN2.out e).1); have e0 := grow_old hgrow (q := S) (by omega) (fun q e => by have := hrow q e; omega); have e1 := grow_old hgrow (q := b) (by omega) (fun q e => by have := hrow q e; omega); have HO3 := Lib.hid (HO2.out.keep (by have := grow_size hgrow; omega) (grow_old hgrow (q := S + 1 + 1) (by omega) (fun q e => by have := hrow q e; omega))); have HI3 := Lib.hid (in_grow HI2.out hgrow (fun q e => by have := hrow q e; omega)); have HG3 := Lib.hid hg3; have f2 := (cellEq e0).trans c2; have g0 := (cellEq e1).trans d0; have g1 := (cellEq e1).trans d1; have g2 := (cellEq e1).trans d2; obtain ⟨o0, o1, o2, of2, oz⟩ := HO3.out; have hs3 := grow_size hgrow; clear hown3 hgrow hat hg3 e0 e1)
        | (go_simp; go_at_call 69; refine (HJ.out _ (HKID.out.kept (by first | exact Below.refl _ _ | exact (Below.refl _ _).drew))).mono ?_; rintro e w2 ⟨v2, rfl, hty2, hb2⟩; obtain ⟨a2, k2, rfl, _⟩ := hty2.at.slice; have hb2' : Below wr.heap.size wr w2 := Below.trans (B := wr.heap.size) (by first | exact Below.refl _ _ | exact (Below.refl _ _).drew) hb2; have hty2' : TyIn w2 wr.heap.size w2.heap.size y (.slice a2 y.ks.length k2) := hty2; have HTY2 := Lib.hid hty2'; have HB2 := Lib.hid hb2'; have HOWN2 := Lib.hid (own_below hgr.out.own hb2'); have HO2 := Lib.hid (hob.out.kept hb2'); have HT2 := Lib.hid (HTw.out.kept hb2'); have HI2 := Lib.hid (hin.out.trans (Inside.of_below hb2')); have hs2 : wr.heap.size ≤ w2.heap.size := hb2'.size; have hbase2 : ∀ o, S + 1 + 1 + 1 ≤ (w2.alloc o).heap.size := (fun o => by simp; omega); obtain ⟨c0, c1, c2, cz⟩ := HT2.out; obtain ⟨rp0, rp1, rp2, rpf, rpz⟩ := HO2.out; have d0 := (hb2'.cell (p := ⟨b, o + j * 3, none⟩) hbw).trans y0; have d1 := (hb2'.cell (p := ⟨b, o + j * 3 + 1, none⟩) hbw).trans y1; have d2 := (hb2'.cell (p := ⟨b, o + j * 3 + 2, none⟩) hbw).trans y2; clear hb2 hb2' hty2 hty2'))
      all_goals go_wp2_with fail
      all_goals go_roundw
      all_goals first
        | exact ⟨j + 1, _, _, _, _, _, by omega, by go_num, Lib.hid (HG3.out.keep (by simp) (fun q h1 _ => heap_setCell_other _ ⟨S + 1 + 1, 2, none⟩ q _ (by show q ≠ S + 1 + 1; omega))), Lib.hid (HO3.out.set _), Lib.hid (HI3.out.trans (Inside.set _ _ _ (Nat.le_refl _) (Nat.lt_succ_self _)))⟩
        | (simp [intOf]; omega)
    · have hji : ¬ (j : Int) < (L : Int) := by omega
      obtain rfl : j = L := by omega
      have hgd := hgr.out
      rw [← HRS.out] at hgd
      have HD := Lib.hid (hgd.done t.k t.n (by rw [HRS.out]; exact hlen))
      obtain ⟨ca, cc, rfl, _⟩ := HD.out.at.slice
      have HRw := Lib.hid (HR1.out.keep hin.out.size (hin.out.block _ HR1.out.sz (.inl (by omega))))
      have HBw := Lib.hid (hin.out.below (B := S) (by omega) HB1S.out HSW.out)
      obtain ⟨t0, t1, t2, tz⟩ := HTw.out
      obtain ⟨p0, p1, p2, pf2, pz⟩ := hob.out
      obtain ⟨q0, q1, q2, qf0, qf1, qf2, qz⟩ := HRw.out
      clear hgd
      go_wp2_with fail
      exact bodyPost_ret (v := .agg #[.int .i64 t.k, .int .i64 t.n, .slice ca (Ty.node t.k t.n rs).ks.length cc]) (by simp [results, Try.results69, go_sem, q0, q1, q2, Ty.ks, HRS.out]) rfl ⟨_, rfl, TyIn.wide (res_ty (B := S + 1) (w := w) (HD.out.wide (by omega) (Nat.le_refl _)) (by rw [HS.out]; omega) _ _ _) (Nat.le_refl _) (Nat.le_refl _), Inside.thin (in_res (lo := w.heap.size) (hi := w.heap.size) (Inside.of_below (by rw [HS.out]; exact HBw.out)) (by rw [HS.out]; omega) _ _ _)⟩

/-- l2Copy copies every well-formed type. -/
theorem l2Copy_any : ∀ (d : Nat) (t : Ty) (v : Value) (w : World), shp d t = true → TyAt w t v → Calls Try.prog 69 #[.agg #[.int .i64 t.k, .int .i64 t.n, v]] w (TyRet t w) := by
  intro d
  induction d with
  | zero => intro t v w h; cases h
  | succ d ih =>
    intro t v w h hx
    obtain ⟨hf, hk⟩ := shp_iff.1 h
    have hl := fieldsB_len hf
    have h1 := l2Copy_of t t.ks v w hx rfl (by omega) (fun i hi vi W hki => ih _ vi W (hk i hi) hki)
    cases t with
    | node k n ks => exact h1

end Go.Proofs.Ytjhccdioainibaa

namespace Go.Proofs.Ytjhccdioainibaa
open Go.RowKit
set_option linter.unusedVariables false
set_option linter.unusedSimpArgs false

set_option maxRecDepth 100000 in
set_option maxHeartbeats 8000000 in
theorem l2Subst_no (t : Ty) (rs : List Ty) (v : Value) (la : Option Addr) (LL lc : Nat) (w : World) (hx : TyAt w t v) (hrs : rs.length = t.ks.length) (hsz : t.ks.length ≤ 1000000) (hk : (t.k == 4) = false)
    (H : ∀ i, i < t.ks.length → ∀ (vi : Value) (W : World), TyAt W (t.ks.getD i Ty.dummy) vi → Below w.heap.size w W → Calls Try.prog 66 #[.agg #[.int .i64 (t.ks.getD i Ty.dummy).k, .int .i64 (t.ks.getD i Ty.dummy).n, vi], .slice la LL lc] W (TyRet (rs.getD i Ty.dummy) W)) :
    Calls Try.prog 66 #[.agg #[.int .i64 t.k, .int .i64 t.n, v], .slice la LL lc] w (TyRet (.node t.k t.n rs) w) := by
  obtain ⟨i0, hi0, hz0, hz1, hz2⟩ := info_parts infoTy
  have HH := Lib.hid H
  have HX0 := Lib.hid hx
  obtain ⟨a, cap, rfl, hlen⟩ := hx.slice
  obtain ⟨L, hL⟩ : ∃ L, t.ks.length = L := ⟨_, rfl⟩
  have HL := Lib.hid hL
  have HRS := Lib.hid (hrs.trans hL)
  rw [hL] at hlen hsz ⊢
  obtain ⟨S, hS⟩ : ∃ S, w.heap.size = S := ⟨_, rfl⟩
  have HS := Lib.hid hS
  obtain ⟨W1, hW1⟩ : ∃ W1, ((w.alloc (.cells #[.int .i64 t.k, .int .i64 t.n, .slice a L cap] 28)).alloc (.cells #[.int .i64 0, .int .i64 0, .slice none 0 0] 28)).alloc (.cells #[.int .i64 t.k, .int .i64 t.n, .slice none 0 0] 28) = W1 := ⟨_, rfl⟩
  have HW1 := Lib.hid hW1
  have hB1 : Below w.heap.size w W1 := by rw [← hW1]; exact (((Below.refl _ _).alloc (Nat.le_refl _) _).alloc (by simp) _).alloc (by simp; omega) _
  have HB1S : Hid (Below S w W1) := Lib.hid (by rw [← hS]; exact hB1)
  have HT1 : Hid (TBox W1 S (.int .i64 t.k) (.int .i64 t.n) (.slice a L cap)) := Lib.hid (by rw [← hW1, ← hS]; exact ((tbox_new w _ _ _ _).kept ((Below.refl _ _).alloc (Nat.le_refl _) _)).kept ((Below.refl _ _).alloc (Nat.le_refl _) _))
  have HR1 : Hid (RB W1 (S + 1)) := Lib.hid (by have h := (rb_new (w.alloc (.cells #[.int .i64 t.k, .int .i64 t.n, .slice a L cap] 28)) 28).kept ((Below.refl _ _).alloc (Nat.le_refl _) (.cells #[.int .i64 t.k, .int .i64 t.n, .slice none 0 0] 28)); rw [sizeA, hW1, hS] at h; exact h)
  have HO1 : Hid (OB W1 (S + 1 + 1) t.k t.n (.slice none 0 0)) := Lib.hid (by
    have h := ob_new ((w.alloc (.cells #[.int .i64 t.k, .int .i64 t.n, .slice a L cap] 28)).alloc (.cells #[.int .i64 0, .int .i64 0, .slice none 0 0] 28)) t.k t.n (.slice none 0 0) 28
    rw [sizeA, sizeA, hW1, hS] at h
    exact h)
  have hz1' : W1.heap.size = S + 1 + 1 + 1 := by rw [← hW1, ← hS]; simp
  have HSW := Lib.hid (show S ≤ W1.heap.size by omega)
  clear hx hL hrs H hB1 hW1
  go_enter Try.func66, Try.ntmps66
  go_wp2_with fail
  rw [HW1.out]
  clear hS
  go_loopw [6] (fun i wr => ∃ (j : Nat) (cv : Value) (xs : List Value) (vs : Nat → Value) (l h : Nat → Nat), j ≤ L ∧ i = .int .i64 j ∧ Hid (Gr rs (S + 1 + 1 + 1) j wr cv xs vs l h) ∧ Hid (OB wr (S + 1 + 1) t.k t.n cv) ∧ Hid (Inside (S + 1 + 1) (S + 1 + 1 + 1) W1 wr)) (fun i _ => L - (intOf i).toNat)
  case atStart => exact ⟨0, _, [], _, _, _, Nat.zero_le _, rfl, Lib.hid (gr_nil rs (S + 1 + 1 + 1) W1), HO1, Lib.hid (Inside.refl _ _ _)⟩
  case round =>
    obtain ⟨j, cv, xs, vs, l, h, hj, rfl, hgr, hob, hin⟩ := hrel
    have HTw := Lib.hid (HT1.out.away hin.out (.inl (by omega)))
    have hszw : S + 1 + 1 + 1 ≤ wr.heap.size := by have := hin.out.size; omega
    by_cases hlt : j < L
    · have hji : (j : Int) < (L : Int) := by omega
      have hti := hin.out.below (B := S) (by omega) HB1S.out HSW.out
      obtain ⟨b, o, cap2, vi, ex, bl, y0, y1, y2, hkid⟩ := HX0.out.kid j (by rw [HL.out]; exact hlt)
      have ex1 : a = some ⟨b, o, none⟩ := by injection ex
      subst ex1
      rw [HS.out] at bl
      replace y0 := (hti.cell (p := ⟨b, o + j * 3, none⟩) bl).trans y0
      replace y1 := (hti.cell (p := ⟨b, o + j * 3 + 1, none⟩) bl).trans y1
      replace y2 := (hti.cell (p := ⟨b, o + j * 3 + 2, none⟩) bl).trans y2
      have HKID := Lib.hid (hkid.kept (by rw [HS.out]; exact hti))
      have HJ := Lib.hid (HH.out j (by rw [HL.out]; exact hlt) vi)
      obtain ⟨x, hx⟩ : ∃ x, t.ks.getD j Ty.dummy = x := ⟨_, rfl⟩
      obtain ⟨y, hy⟩ : ∃ y, rs.getD j Ty.dummy = y := ⟨_, rfl⟩
      rw [hx] at y0 y1 HKID HJ
      rw [hy] at HJ
      have HY := Lib.hid hy
      have hbw : b < wr.heap.size := by omega
      have h63 : j + 1 ≤ maxLen := by unfold maxLen; omega
      have hby : (j + 1) * 40 ≤ 140737488355328 := by omega
      obtain ⟨t0, t1, t2, tz⟩ := HTw.out
      obtain ⟨p0, p1, p2, pf2, pz⟩ := hob.out
      have hn0 : ¬ S = S + 1 + 1 := by omega
      have hn1 : ¬ b = S + 1 + 1 := by omega
      have HTI := Lib.hid hti
      have hszS : S ≤ wr.heap.size := by omega
      clear ex hkid hx hy hti t0 t1 tz
      go_wp2_with fail
      go_region_law (first
        | (refine step_append_lies _ (by rfl) _ _ _ (by rfl) (S + 1 + 1 + 1) 28 i0 _ 3 40 Try.underlying26 hi0 hz0 hz1 hz2 rfl (by omega) cv j xs (by rfl) (HOWN2.out.alloc _) ⟨w2.heap.size, 0, none⟩ 1 1 [.int .i64 y.k, .int .i64 y.n, .slice a2 y.ks.length k2] (by rfl) (by rfl) (World.news_of_block (cs := #[.int .i64 y.k, .int .i64 y.n, .slice a2 y.ks.length k2]) (t := 28) (fr := (0, 0)) (heap_alloc_new w2 _)) (by simp [Value.oneCell']) (by omega) h63 hby (hbase2 _) (w2.heap.size + 1) (by simp) ?_; intro g cap3 w3 hown3 hgrow hat hltg; obtain ⟨xs3, vs3, l3, h3, hg3⟩ := hgr.out.step (by omega) HY.out HB2.out HTY2.out hown3 hgrow hat; have hrow : ∀ q, cv.ownBlock = some q → S + 1 + 1 + 1 ≤ q := (fun q e => (own_low HOWN2.out e).1); have e0 := grow_old hgrow (q := S) (by omega) (fun q e => by have := hrow q e; omega); have e1 := grow_old hgrow (q := b) (by omega) (fun q e => by have := hrow q e; omega); have HO3 := Lib.hid (HO2.out.keep (by have := grow_size hgrow; omega) (grow_old hgrow (q := S + 1 + 1) (by omega) (fun q e => by have := hrow q e; omega))); have HI3 := Lib.hid (in_grow HI2.out hgrow (fun q e => by have := hrow q e; omega)); have HG3 := Lib.hid hg3; have f2 := (cellEq e0).trans c2; have g0 := (cellEq e1).trans d0; have g1 := (cellEq e1).trans d1; have g2 := (cellEq e1).trans d2; obtain ⟨o0, o1, o2, of2, oz⟩ := HO3.out; have hs3 := grow_size hgrow; clear hown3 hgrow hat hg3 e0 e1)
        | (go_simp; go_at_call 66; refine (HJ.out _ (HKID.out.kept (by first | exact Below.refl _ _ | exact (Below.refl _ _).drew)) (by rw [HS.out]; exact (HTI.out.trans (Below.mono (B := wr.heap.size) (by first | exact Below.refl _ _ | exact (Below.refl _ _).drew) hszS)))).mono ?_; rintro e w2 ⟨v2, rfl, hty2, hb2⟩; obtain ⟨a2, k2, rfl, _⟩ := hty2.at.slice; have hb2' : Below wr.heap.size wr w2 := Below.trans (B := wr.heap.size) (by first | exact Below.refl _ _ | exact (Below.refl _ _).drew) hb2; have hty2' : TyIn w2 wr.heap.size w2.heap.size y (.slice a2 y.ks.length k2) := hty2; have HTY2 := Lib.hid hty2'; have HB2 := Lib.hid hb2'; have HOWN2 := Lib.hid (own_below hgr.out.own hb2'); have HO2 := Lib.hid (hob.out.kept hb2'); have HT2 := Lib.hid (HTw.out.kept hb2'); have HI2 := Lib.hid (hin.out.trans (Inside.of_below hb2')); have hs2 : wr.heap.size ≤ w2.heap.size := hb2'.size; have hbase2 : ∀ o, S + 1 + 1 + 1 ≤ (w2.alloc o).heap.size := (fun o => by simp; omega); obtain ⟨c0, c1, c2, cz⟩ := HT2.out; obtain ⟨rp0, rp1, rp2, rpf, rpz⟩ := HO2.out; have d0 := (hb2'.cell (p := ⟨b, o + j * 3, none⟩) hbw).trans y0; have d1 := (hb2'.cell (p := ⟨b, o + j * 3 + 1, none⟩) hbw).trans y1; have d2 := (hb2'.cell (p := ⟨b, o + j * 3 + 2, none⟩) hbw).trans y2; clear hb2 hb2' hty2 hty2'))
      all_goals go_wp2_with fail
      all_goals go_roundw
      all_goals first
        | exact ⟨j + 1, _, _, _, _, _, by omega, by go_num, Lib.hid (HG3.out.keep (by simp) (fun q h1 _ => heap_setCell_other _ ⟨S + 1 + 1, 2, none⟩ q _ (by show q ≠ S + 1 + 1; omega))), Lib.hid (HO3.out.set _), Lib.hid (HI3.out.trans (Inside.set _ _ _ (Nat.le_refl _) (Nat.lt_succ_self _)))⟩
        | (simp [intOf]; omega)
    · have hji : ¬ (j : Int) < (L : Int) := by omega
      obtain rfl : j = L := by omega
      have hgd := hgr.out
      rw [← HRS.out] at hgd
      have HD := Lib.hid (hgd.done t.k t.n (by rw [HRS.out]; exact hlen))
      obtain ⟨ca, cc, rfl, _⟩ := HD.out.at.slice
      have HRw := Lib.hid (HR1.out.keep hin.out.size (hin.out.block _ HR1.out.sz (.inl (by omega))))
      have HBw := Lib.hid (hin.out.below (B := S) (by omega) HB1S.out HSW.out)
      obtain ⟨t0, t1, t2, tz⟩ := HTw.out
      obtain ⟨p0, p1, p2, pf2, pz⟩ := hob.out
      obtain ⟨q0, q1, q2, qf0, qf1, qf2, qz⟩ := HRw.out
      clear hgd
      go_wp2_with fail
      exact bodyPost_ret (v := .agg #[.int .i64 t.k, .int .i64 t.n, .slice ca (Ty.node t.k t.n rs).ks.length cc]) (by simp [results, Try.results66, go_sem, q0, q1, q2, Ty.ks, HRS.out]) rfl ⟨_, rfl, TyIn.wide (res_ty (B := S + 1) (w := w) (HD.out.wide (by omega) (Nat.le_refl _)) (by rw [HS.out]; omega) _ _ _) (Nat.le_refl _) (Nat.le_refl _), Inside.thin (in_res (lo := w.heap.size) (hi := w.heap.size) (Inside.of_below (by rw [HS.out]; exact HBw.out)) (by rw [HS.out]; omega) _ _ _)⟩

set_option maxRecDepth 100000 in
set_option maxHeartbeats 8000000 in
theorem l2Subst_out (t : Ty) (rs : List Ty) (v : Value) (la : Option Addr) (LL lc : Nat) (w : World) (hx : TyAt w t v) (hrs : rs.length = t.ks.length) (hsz : t.ks.length ≤ 1000000) (hk : (t.k == 4) = true) (hn : ¬ t.n < (LL : Int))
    (H : ∀ i, i < t.ks.length → ∀ (vi : Value) (W : World), TyAt W (t.ks.getD i Ty.dummy) vi → Below w.heap.size w W → Calls Try.prog 66 #[.agg #[.int .i64 (t.ks.getD i Ty.dummy).k, .int .i64 (t.ks.getD i Ty.dummy).n, vi], .slice la LL lc] W (TyRet (rs.getD i Ty.dummy) W)) :
    Calls Try.prog 66 #[.agg #[.int .i64 t.k, .int .i64 t.n, v], .slice la LL lc] w (TyRet (.node t.k t.n rs) w) := by
  obtain ⟨i0, hi0, hz0, hz1, hz2⟩ := info_parts infoTy
  have HH := Lib.hid H
  have HX0 := Lib.hid hx
  obtain ⟨a, cap, rfl, hlen⟩ := hx.slice
  obtain ⟨L, hL⟩ : ∃ L, t.ks.length = L := ⟨_, rfl⟩
  have HL := Lib.hid hL
  have HRS := Lib.hid (hrs.trans hL)
  rw [hL] at hlen hsz ⊢
  obtain ⟨S, hS⟩ : ∃ S, w.heap.size = S := ⟨_, rfl⟩
  have HS := Lib.hid hS
  obtain ⟨W1, hW1⟩ : ∃ W1, ((w.alloc (.cells #[.int .i64 t.k, .int .i64 t.n, .slice a L cap] 28)).alloc (.cells #[.int .i64 0, .int .i64 0, .slice none 0 0] 28)).alloc (.cells #[.int .i64 t.k, .int .i64 t.n, .slice none 0 0] 28) = W1 := ⟨_, rfl⟩
  have HW1 := Lib.hid hW1
  have hB1 : Below w.heap.size w W1 := by rw [← hW1]; exact (((Below.refl _ _).alloc (Nat.le_refl _) _).alloc (by simp) _).alloc (by simp; omega) _
  have HB1S : Hid (Below S w W1) := Lib.hid (by rw [← hS]; exact hB1)
  have HT1 : Hid (TBox W1 S (.int .i64 t.k) (.int .i64 t.n) (.slice a L cap)) := Lib.hid (by rw [← hW1, ← hS]; exact ((tbox_new w _ _ _ _).kept ((Below.refl _ _).alloc (Nat.le_refl _) _)).kept ((Below.refl _ _).alloc (Nat.le_refl _) _))
  have HR1 : Hid (RB W1 (S + 1)) := Lib.hid (by have h := (rb_new (w.alloc (.cells #[.int .i64 t.k, .int .i64 t.n, .slice a L cap] 28)) 28).kept ((Below.refl _ _).alloc (Nat.le_refl _) (.cells #[.int .i64 t.k, .int .i64 t.n, .slice none 0 0] 28)); rw [sizeA, hW1, hS] at h; exact h)
  have HO1 : Hid (OB W1 (S + 1 + 1) t.k t.n (.slice none 0 0)) := Lib.hid (by
    have h := ob_new ((w.alloc (.cells #[.int .i64 t.k, .int .i64 t.n, .slice a L cap] 28)).alloc (.cells #[.int .i64 0, .int .i64 0, .slice none 0 0] 28)) t.k t.n (.slice none 0 0) 28
    rw [sizeA, sizeA, hW1, hS] at h
    exact h)
  have hz1' : W1.heap.size = S + 1 + 1 + 1 := by rw [← hW1, ← hS]; simp
  have HSW := Lib.hid (show S ≤ W1.heap.size by omega)
  clear hx hL hrs H hB1 hW1
  go_enter Try.func66, Try.ntmps66
  go_wp2_with fail
  rw [HW1.out]
  clear hS
  go_loopw [6] (fun i wr => ∃ (j : Nat) (cv : Value) (xs : List Value) (vs : Nat → Value) (l h : Nat → Nat), j ≤ L ∧ i = .int .i64 j ∧ Hid (Gr rs (S + 1 + 1 + 1) j wr cv xs vs l h) ∧ Hid (OB wr (S + 1 + 1) t.k t.n cv) ∧ Hid (Inside (S + 1 + 1) (S + 1 + 1 + 1) W1 wr)) (fun i _ => L - (intOf i).toNat)
  case atStart => exact ⟨0, _, [], _, _, _, Nat.zero_le _, rfl, Lib.hid (gr_nil rs (S + 1 + 1 + 1) W1), HO1, Lib.hid (Inside.refl _ _ _)⟩
  case round =>
    obtain ⟨j, cv, xs, vs, l, h, hj, rfl, hgr, hob, hin⟩ := hrel
    have HTw := Lib.hid (HT1.out.away hin.out (.inl (by omega)))
    have hszw : S + 1 + 1 + 1 ≤ wr.heap.size := by have := hin.out.size; omega
    by_cases hlt : j < L
    · have hji : (j : Int) < (L : Int) := by omega
      have hti := hin.out.below (B := S) (by omega) HB1S.out HSW.out
      obtain ⟨b, o, cap2, vi, ex, bl, y0, y1, y2, hkid⟩ := HX0.out.kid j (by rw [HL.out]; exact hlt)
      have ex1 : a = some ⟨b, o, none⟩ := by injection ex
      subst ex1
      rw [HS.out] at bl
      replace y0 := (hti.cell (p := ⟨b, o + j * 3, none⟩) bl).trans y0
      replace y1 := (hti.cell (p := ⟨b, o + j * 3 + 1, none⟩) bl).trans y1
      replace y2 := (hti.cell (p := ⟨b, o + j * 3 + 2, none⟩) bl).trans y2
      have HKID := Lib.hid (hkid.kept (by rw [HS.out]; exact hti))
      have HJ := Lib.hid (HH.out j (by rw [HL.out]; exact hlt) vi)
      obtain ⟨x, hx⟩ : ∃ x, t.ks.getD j Ty.dummy = x := ⟨_, rfl⟩
      obtain ⟨y, hy⟩ : ∃ y, rs.getD j Ty.dummy = y := ⟨_, rfl⟩
      rw [hx] at y0 y1 HKID HJ
      rw [hy] at HJ
      have HY := Lib.hid hy
      have hbw : b < wr.heap.size := by omega
      have h63 : j + 1 ≤ maxLen := by unfold maxLen; omega
      have hby : (j + 1) * 40 ≤ 140737488355328 := by omega
      obtain ⟨t0, t1, t2, tz⟩ := HTw.out
      obtain ⟨p0, p1, p2, pf2, pz⟩ := hob.out
      have hn0 : ¬ S = S + 1 + 1 := by omega
      have hn1 : ¬ b = S + 1 + 1 := by omega
      have HTI := Lib.hid hti
      have hszS : S ≤ wr.heap.size := by omega
      clear ex hkid hx hy hti t0 t1 tz
      go_wp2_with fail
      go_region_law (first
        | (refine step_append_lies _ (by rfl) _ _ _ (by rfl) (S + 1 + 1 + 1) 28 i0 _ 3 40 Try.underlying26 hi0 hz0 hz1 hz2 rfl (by omega) cv j xs (by rfl) (HOWN2.out.alloc _) ⟨w2.heap.size, 0, none⟩ 1 1 [.int .i64 y.k, .int .i64 y.n, .slice a2 y.ks.length k2] (by rfl) (by rfl) (World.news_of_block (cs := #[.int .i64 y.k, .int .i64 y.n, .slice a2 y.ks.length k2]) (t := 28) (fr := (0, 0)) (heap_alloc_new w2 _)) (by simp [Value.oneCell']) (by omega) h63 hby (hbase2 _) (w2.heap.size + 1) (by simp) ?_; intro g cap3 w3 hown3 hgrow hat hltg; obtain ⟨xs3, vs3, l3, h3, hg3⟩ := hgr.out.step (by omega) HY.out HB2.out HTY2.out hown3 hgrow hat; have hrow : ∀ q, cv.ownBlock = some q → S + 1 + 1 + 1 ≤ q := (fun q e => (own_low HOWN2.out e).1); have e0 := grow_old hgrow (q := S) (by omega) (fun q e => by have := hrow q e; omega); have e1 := grow_old hgrow (q := b) (by omega) (fun q e => by have := hrow q e; omega); have HO3 := Lib.hid (HO2.out.keep (by have := grow_size hgrow; omega) (grow_old hgrow (q := S + 1 + 1) (by omega) (fun q e => by have := hrow q e; omega))); have HI3 := Lib.hid (in_grow HI2.out hgrow (fun q e => by have := hrow q e; omega)); have HG3 := Lib.hid hg3; have f2 := (cellEq e0).trans c2; have g0 := (cellEq e1).trans d0; have g1 := (cellEq e1).trans d1; have g2 := (cellEq e1).trans d2; obtain ⟨o0, o1, o2, of2, oz⟩ := HO3.out; have hs3 := grow_size hgrow; clear hown3 hgrow hat hg3 e0 e1)
        | (go_simp; go_at_call 66; refine (HJ.out _ (HKID.out.kept (by first | exact Below.refl _ _ | exact (Below.refl _ _).drew)) (by rw [HS.out]; exact (HTI.out.trans (Below.mono (B := wr.heap.size) (by first | exact Below.refl _ _ | exact (Below.refl _ _).drew) hszS)))).mono ?_; rintro e w2 ⟨v2, rfl, hty2, hb2⟩; obtain ⟨a2, k2, rfl, _⟩ := hty2.at.slice; have hb2' : Below wr.heap.size wr w2 := Below.trans (B := wr.heap.size) (by first | exact Below.refl _ _ | exact (Below.refl _ _).drew) hb2; have hty2' : TyIn w2 wr.heap.size w2.heap.size y (.slice a2 y.ks.length k2) := hty2; have HTY2 := Lib.hid hty2'; have HB2 := Lib.hid hb2'; have HOWN2 := Lib.hid (own_below hgr.out.own hb2'); have HO2 := Lib.hid (hob.out.kept hb2'); have HT2 := Lib.hid (HTw.out.kept hb2'); have HI2 := Lib.hid (hin.out.trans (Inside.of_below hb2')); have hs2 : wr.heap.size ≤ w2.heap.size := hb2'.size; have hbase2 : ∀ o, S + 1 + 1 + 1 ≤ (w2.alloc o).heap.size := (fun o => by simp; omega); obtain ⟨c0, c1, c2, cz⟩ := HT2.out; obtain ⟨rp0, rp1, rp2, rpf, rpz⟩ := HO2.out; have d0 := (hb2'.cell (p := ⟨b, o + j * 3, none⟩) hbw).trans y0; have d1 := (hb2'.cell (p := ⟨b, o + j * 3 + 1, none⟩) hbw).trans y1; have d2 := (hb2'.cell (p := ⟨b, o + j * 3 + 2, none⟩) hbw).trans y2; clear hb2 hb2' hty2 hty2'))
      all_goals go_wp2_with fail
      all_goals go_roundw
      all_goals first
        | exact ⟨j + 1, _, _, _, _, _, by omega, by go_num, Lib.hid (HG3.out.keep (by simp) (fun q h1 _ => heap_setCell_other _ ⟨S + 1 + 1, 2, none⟩ q _ (by show q ≠ S + 1 + 1; omega))), Lib.hid (HO3.out.set _), Lib.hid (HI3.out.trans (Inside.set _ _ _ (Nat.le_refl _) (Nat.lt_succ_self _)))⟩
        | (simp [intOf]; omega)
    · have hji : ¬ (j : Int) < (L : Int) := by omega
      obtain rfl : j = L := by omega
      have hgd := hgr.out
      rw [← HRS.out] at hgd
      have HD := Lib.hid (hgd.done t.k t.n (by rw [HRS.out]; exact hlen))
      obtain ⟨ca, cc, rfl, _⟩ := HD.out.at.slice
      have HRw := Lib.hid (HR1.out.keep hin.out.size (hin.out.block _ HR1.out.sz (.inl (by omega))))
      have HBw := Lib.hid (hin.out.below (B := S) (by omega) HB1S.out HSW.out)
      obtain ⟨t0, t1, t2, tz⟩ := HTw.out
      obtain ⟨p0, p1, p2, pf2, pz⟩ := hob.out
      obtain ⟨q0, q1, q2, qf0, qf1, qf2, qz⟩ := HRw.out
      clear hgd
      go_wp2_with fail
      exact bodyPost_ret (v := .agg #[.int .i64 t.k, .int .i64 t.n, .slice ca (Ty.node t.k t.n rs).ks.length cc]) (by simp [results, Try.results66, go_sem, q0, q1, q2, Ty.ks, HRS.out]) rfl ⟨_, rfl, TyIn.wide (res_ty (B := S + 1) (w := w) (HD.out.wide (by omega) (Nat.le_refl _)) (by rw [HS.out]; omega) _ _ _) (Nat.le_refl _) (Nat.le_refl _), Inside.thin (in_res (lo := w.heap.size) (hi := w.heap.size) (Inside.of_below (by rw [HS.out]; exact HBw.out)) (by rw [HS.out]; omega) _ _ _)⟩

end Go.Proofs.Ytjhccdioainibaa

namespace Go.Proofs.Ytjhccdioainibaa
open Go.RowKit
set_option linter.unusedVariables false
set_option linter.unusedSimpArgs false

/-- What a variable is replaced by. -/
def sF (ls : List Ty) : List Int → Int → Ty × List Int := fun st n => if n < ls.length then (ls.getD n.toNat Ty.dummy, st) else (.node 4 n [], st)
theorem sF_in {ls : List Ty} {st : List Int} {i : Nat} (h : i < ls.length) : sF ls st (i : Int) = (ls.getD i Ty.dummy, st) := by
  unfold sF; rw [if_pos (by omega)]; simp
theorem sF_out {ls : List Ty} {st : List Int} {n : Int} (h : ¬ n < ls.length) : sF ls st n = (.node 4 n [], st) := by unfold sF; rw [if_neg h]
/-- The type with its variables replaced. -/
def sbT (ls : List Ty) (d : Nat) (t : Ty) : Ty := (rp (sF ls) d t []).1
theorem sF_st (ls : List Ty) (st : List Int) (n : Int) : (sF ls st n).2 = st := by unfold sF; split <;> rfl
theorem rp_st (ls : List Ty) : ∀ (d : Nat) (t : Ty) (st : List Int), (rp (sF ls) d t st).2 = st ∧ (rp (sF ls) d t st).1 = (rp (sF ls) d t []).1 := by
  intro d
  induction d with
  | zero => intro t st; exact ⟨rfl, rfl⟩
  | succ d ih =>
    intro t st
    cases t with
    | node k n ks =>
      by_cases h4 : k = 4
      · subst h4
        simp only [rp, if_true]
        refine ⟨sF_st _ _ _, ?_⟩
        unfold sF; split <;> rfl
      · match ks with
        | [] => simp [rp, h4]
        | [a] => simp [rp, h4]
        | [a, b] =>
          have h1 := ih a st; have h2 := ih a []; have h3 := ih b st; have h5 := ih b []
          simp only [rp, if_neg h4]
          rw [h1.1, h2.1, h3.1, h3.2, h1.2]
          exact ⟨rfl, rfl⟩
        | a :: b :: c :: r => simp [rp, h4]
theorem sbT_join {ls : List Ty} {d : Nat} {k : Int} {ta tb : Ty} (h4 : k ≠ 4) : sbT ls (d + 1) (.node k 0 [ta, tb]) = .node k 0 [sbT ls d ta, sbT ls d tb] := by
  unfold sbT
  rw [rp]
  · rw [if_neg h4, (rp_st ls d ta []).1]

set_option maxRecDepth 100000 in
set_option maxHeartbeats 2000000 in
theorem l2Subst_in (ls : List Ty) (i : Nat) (v : Value) (la : Option Addr) (lc : Nat) (w : World) (hx : TyAt w (.node 4 (i : Int) []) v) (hi : i < ls.length) (hl : TyAt w (.node 0 0 ls) (.slice la ls.length lc)) (hs : shp 16 (ls.getD i Ty.dummy) = true) :
    Calls Try.prog 66 #[.agg #[.int .i64 4, .int .i64 (i : Int), v], .slice la ls.length lc] w (TyRet (ls.getD i Ty.dummy) w) := by
  obtain ⟨a, cap, rfl, _⟩ := hx.slice
  have e0 : (Ty.node 4 (i : Int) []).ks.length = 0 := rfl
  rw [e0]
  obtain ⟨b, o, cap2, vi, ex, bl, y0, y1, y2, hkid⟩ := hl.kid i hi
  have hlen : ls.length ≤ 9223372036854775807 := by
    obtain ⟨_, _, he, h9⟩ := hl.slice
    exact h9
  have ex1 : la = some ⟨b, o, none⟩ := by injection ex
  subst ex1
  obtain ⟨x, hxx⟩ : ∃ x, ls.getD i Ty.dummy = x := ⟨_, rfl⟩
  have hxx' : (Ty.node 0 0 ls).ks.getD i Ty.dummy = x := hxx
  rw [hxx'] at y0 y1 hkid
  rw [hxx] at hs ⊢
  obtain ⟨LL, hLL⟩ : ∃ LL, ls.length = LL := ⟨_, rfl⟩
  rw [hLL] at hi hlen ⊢
  obtain ⟨W1, hW1⟩ : ∃ W1, (w.alloc (.cells #[.int .i64 4, .int .i64 (i : Int), .slice a 0 cap] 28)).alloc (.cells #[.int .i64 0, .int .i64 0, .slice none 0 0] 28) = W1 := ⟨_, rfl⟩
  have hB1 : Below w.heap.size w W1 := by rw [← hW1]; exact ((Below.refl _ _).alloc (Nat.le_refl _) _).alloc (by simp) _
  have HT1 : Hid (TBox W1 w.heap.size (.int .i64 4) (.int .i64 (i : Int)) (.slice a 0 cap)) := Lib.hid (by rw [← hW1]; exact (tbox_new w _ _ _ _).kept ((Below.refl _ _).alloc (Nat.le_refl _) _))
  have HR1 : Hid (RB W1 (w.heap.size + 1)) := Lib.hid (by have h := rb_new (w.alloc (.cells #[.int .i64 4, .int .i64 (i : Int), .slice a 0 cap] 28)) 28; rw [sizeA, hW1] at h; exact h)
  have hz1 : W1.heap.size = w.heap.size + 2 := by rw [← hW1]; simp
  replace y0 := (hB1.cell (p := ⟨b, o + i * 3, none⟩) bl).trans y0
  replace y1 := (hB1.cell (p := ⟨b, o + i * 3 + 1, none⟩) bl).trans y1
  replace y2 := (hB1.cell (p := ⟨b, o + i * 3 + 2, none⟩) bl).trans y2
  have HC := Lib.hid (l2Copy_any 16 x vi W1 hs (hkid.kept hB1))
  have HB1 := Lib.hid hB1
  have hi1 : (i : Int) < (LL : Int) := by omega
  obtain ⟨t0, t1, t2, tz⟩ := HT1.out
  clear hx hl hs hkid hB1 ex hxx hxx' hLL
  go_enter Try.func66, Try.ntmps66
  go_wp2_with fail
  go_at_call 69
  refine HC.out.mono ?_
  rintro e w1 ⟨v1, rfl, hty, hb⟩
  obtain ⟨a1, k1, rfl, _⟩ := hty.at.slice
  have HR2 := Lib.hid (HR1.out.kept hb)
  have HB2 := Lib.hid (HB1.out.trans (hb.mono HB1.out.size))
  have HTY := Lib.hid hty
  clear hW1 t0 t1 t2 tz hty hb y0 y1 y2
  obtain ⟨p0, p1, p2, f0, f1, f2, psz⟩ := HR2.out
  go_wp2_with fail
  exact bodyPost_ret (v := .agg #[.int .i64 x.k, .int .i64 x.n, .slice a1 x.ks.length k1]) (by simp [results, Try.results66, go_sem, p0, p1, p2]) rfl ⟨_, rfl, res_ty (HTY.out.wide (by omega) (Nat.le_refl _)) (Nat.le_succ _) _ _ _, Inside.thin (in_res (lo := w.heap.size) (hi := w.heap.size) (Inside.of_below HB2.out) (Nat.le_succ _) _ _ _)⟩

theorem l2Subst_any (ls : List Ty) (la : Option Addr) (lc : Nat) (w0 : World) (hl : TyAt w0 (.node 0 0 ls) (.slice la ls.length lc)) (hv : ∀ i, i < ls.length → shp 16 (ls.getD i Ty.dummy) = true) :
    ∀ (d : Nat) (t : Ty) (v : Value) (w : World), shp d t = true → TyAt w t v → Below w0.heap.size w0 w → Calls Try.prog 66 #[.agg #[.int .i64 t.k, .int .i64 t.n, v], .slice la ls.length lc] w (TyRet (sbT ls d t) w) := by
  intro d
  induction d with
  | zero => intro t v w h; cases h
  | succ d ih =>
    intro t v w h hx hb
    rcases shp_forms h with rfl | ⟨n, h0, h1, rfl⟩ | ⟨k, ta, tb, hk, rfl, ha, hbb⟩
    · have e : sbT ls (d + 1) (.node 1 0 []) = .node 1 0 [] := by simp [sbT, rp]
      rw [e]
      exact l2Subst_no (.node 1 0 []) [] v la ls.length lc w hx rfl (by decide) (by decide) (fun i hi => absurd hi (Nat.not_lt_zero _))
    · have e : sbT ls (d + 1) (.node 4 n []) = (sF ls [] n).1 := by simp [sbT, rp]
      rw [e]
      by_cases hn : n < ls.length
      · obtain ⟨i, rfl⟩ : ∃ i : Nat, n = i := ⟨n.toNat, by omega⟩
        have hi : i < ls.length := by omega
        rw [sF_in hi]
        exact l2Subst_in ls i v la lc w hx hi (hl.kept hb) (hv i hi)
      · rw [sF_out hn]
        exact l2Subst_out (.node 4 n []) [] v la ls.length lc w hx rfl (Nat.zero_le _) rfl hn (fun i hi => absurd hi (Nat.not_lt_zero _))
    · have hk4 : k ≠ 4 := by omega
      rw [sbT_join hk4]
      refine l2Subst_no (.node k 0 [ta, tb]) [sbT ls d ta, sbT ls d tb] v la ls.length lc w hx rfl (show (2 : Nat) ≤ 1000000 by decide) (show (k == 4) = false by simpa using hk4) ?_
      intro i hi vi W hki hbw
      have hi : i < 2 := hi
      have hbW := hb.trans (hbw.mono hb.size)
      obtain rfl | rfl : i = 0 ∨ i = 1 := by omega
      · exact ih ta vi W ha hki hbW
      · exact ih tb vi W hbb hki hbW

/-- The list that the function holds lies in the block q. -/
def HoldsQ (q : Nat) (lv : Value) : List Int → World → Prop := fun _ w => q < w.heap.size ∧ w.cell? ⟨q, 0, none⟩ = some lv
theorem holdsQ_stays (q : Nat) (lv : Value) : Stays (HoldsQ q lv) q (q + 1) :=
  ⟨fun _ _ _ h hs hk => ⟨Nat.lt_of_lt_of_le h.1 hs, (cellEq (hk q (Nat.le_refl _) (Nat.lt_succ_self _))).trans h.2⟩, fun _ _ h => h.1⟩
theorem RvPost.of {r : Ty} {st : List Int} {I : List Int → World → Prop} {lo hi : Nat} (S : Stays I lo hi) {w0 w : World} {e : Ending} {w' : World} (h : TyRet r w e w') (hst : I st w) : RvPost (r, st) I lo hi w e w' := by
  obtain ⟨v, he, ht, hb⟩ := h
  exact ⟨v, he, ht, Inside.of_below hb, S.below hst hb⟩

set_option maxRecDepth 100000 in
set_option maxHeartbeats 2000000 in
theorem sv1_in (ls : List Ty) (i : Nat) (q : Nat) (la : Option Addr) (lc : Nat) (w : World) (hi : i < ls.length) (hl : TyAt w (.node 0 0 ls) (.slice la ls.length lc)) (hs : shp 16 (ls.getD i Ty.dummy) = true) (hq : HoldsQ q (.slice la ls.length lc) [] w) :
    Calls Try.prog 47 #[.int .i64 (i : Int), .pointer (some ⟨q, 0, none⟩)] w (TyRet (ls.getD i Ty.dummy) w) := by
  obtain ⟨b, o, cap2, vi, ex, bl, y0, y1, y2, hkid⟩ := hl.kid i hi
  have hlen : ls.length ≤ 9223372036854775807 := by
    obtain ⟨_, _, he, h9⟩ := hl.slice
    exact h9
  have ex1 : la = some ⟨b, o, none⟩ := by injection ex
  subst ex1
  obtain ⟨x, hxx⟩ : ∃ x, ls.getD i Ty.dummy = x := ⟨_, rfl⟩
  have hxx' : (Ty.node 0 0 ls).ks.getD i Ty.dummy = x := hxx
  rw [hxx'] at y0 y1 hkid
  rw [hxx] at hs ⊢
  obtain ⟨LL, hLL⟩ : ∃ LL, ls.length = LL := ⟨_, rfl⟩
  rw [hLL] at hi hlen hq
  obtain ⟨W1, hW1⟩ : ∃ W1, w.alloc (.cells #[.int .i64 0, .int .i64 0, .slice none 0 0] 28) = W1 := ⟨_, rfl⟩
  have hB1 : Below w.heap.size w W1 := by rw [← hW1]; exact (Below.refl _ _).alloc (Nat.le_refl _) _
  have HR1 : Hid (RB W1 w.heap.size) := Lib.hid (by rw [← hW1]; exact rb_new w _)
  have hz1 : W1.heap.size = w.heap.size + 1 := by rw [← hW1]; simp
  replace y0 := (hB1.cell (p := ⟨b, o + i * 3, none⟩) bl).trans y0
  replace y1 := (hB1.cell (p := ⟨b, o + i * 3 + 1, none⟩) bl).trans y1
  replace y2 := (hB1.cell (p := ⟨b, o + i * 3 + 2, none⟩) bl).trans y2
  have yq := (hB1.cell (p := ⟨q, 0, none⟩) hq.1).trans hq.2
  have HC := Lib.hid (copyType_any x 16 vi W1 hs (hkid.kept hB1))
  have HB1 := Lib.hid hB1
  have hi1 : (i : Int) < (LL : Int) := by omega
  clear hl hs hkid hB1 ex hxx hxx' hLL hq
  go_enter Try.func47, Try.ntmps47
  go_wp2_with fail
  go_at_call 48
  refine HC.out.mono ?_
  rintro e w1 ⟨v1, rfl, hty, hb⟩
  obtain ⟨a1, k1, rfl, _⟩ := hty.at.slice
  have HR2 := Lib.hid (HR1.out.kept hb)
  have HB2 := Lib.hid (HB1.out.trans (hb.mono HB1.out.size))
  have HTY := Lib.hid hty
  clear hW1 hty hb y0 y1 y2 yq
  obtain ⟨p0, p1, p2, f0, f1, f2, psz⟩ := HR2.out
  go_wp2_with fail
  exact bodyPost_ret (v := .agg #[.int .i64 x.k, .int .i64 x.n, .slice a1 x.ks.length k1]) (by simp [results, Try.results47, go_sem, p0, p1, p2]) rfl ⟨_, rfl, res_ty (HTY.out.wide (by omega) (Nat.le_refl _)) (Nat.le_refl _) _ _ _, Inside.thin (in_res (lo := w.heap.size) (hi := w.heap.size) (Inside.of_below HB2.out) (Nat.le_refl _) _ _ _)⟩

set_option maxRecDepth 100000 in
set_option maxHeartbeats 2000000 in
theorem sv1_out (n : Int) (h0 : 0 ≤ n) (h1 : n ≤ 25) (q : Nat) (la : Option Addr) (LL lc : Nat) (w : World) (hn : ¬ n < (LL : Int)) (hq : HoldsQ q (.slice la LL lc) [] w) :
    Calls Try.prog 47 #[.int .i64 n, .pointer (some ⟨q, 0, none⟩)] w (TyRet (.node 4 n []) w) := by
  obtain ⟨W1, hW1⟩ : ∃ W1, w.alloc (.cells #[.int .i64 0, .int .i64 0, .slice none 0 0] 28) = W1 := ⟨_, rfl⟩
  have hB1 : Below w.heap.size w W1 := by rw [← hW1]; exact (Below.refl _ _).alloc (Nat.le_refl _) _
  have HR1 : Hid (RB W1 w.heap.size) := Lib.hid (by rw [← hW1]; exact rb_new w _)
  have hz1 : W1.heap.size = w.heap.size + 1 := by rw [← hW1]; simp
  have yq := (hB1.cell (p := ⟨q, 0, none⟩) hq.1).trans hq.2
  have HB1 := Lib.hid hB1
  clear hB1 hq
  go_enter Try.func47, Try.ntmps47
  go_wp2_with fail
  go_at_call 49
  refine (varType_any _ _).mono ?_
  rintro e w1 ⟨v1, rfl, hty, hb⟩
  obtain ⟨a1, k1, rfl, _⟩ := hty.at.slice
  have HR2 := Lib.hid (HR1.out.kept hb)
  have HB2 := Lib.hid (HB1.out.trans (hb.mono HB1.out.size))
  have HTY := Lib.hid hty
  clear hW1 hty hb yq
  obtain ⟨p0, p1, p2, f0, f1, f2, psz⟩ := HR2.out
  go_wp2_with fail
  exact bodyPost_ret (v := .agg #[.int .i64 4, .int .i64 n, .slice a1 0 k1]) (by simp [results, Try.results47, go_sem, p0, p1, p2, Ty.k, Ty.n, Ty.ks]) rfl ⟨_, rfl, res_ty (HTY.out.wide (by omega) (Nat.le_refl _)) (Nat.le_refl _) _ _ _, Inside.thin (in_res (lo := w.heap.size) (hi := w.heap.size) (Inside.of_below HB2.out) (Nat.le_refl _) _ _ _)⟩

/-- What SubstVars gives replaceVars replaces a variable as the list says. -/
theorem sv1_any (ls : List Ty) (q : Nat) (la : Option Addr) (lc : Nat) (w0 : World) (hl : TyAt w0 (.node 0 0 ls) (.slice la ls.length lc)) (hv : ∀ i, i < ls.length → shp 16 (ls.getD i Ty.dummy) = true)
    (st : List Int) (n : Int) (w : World) (h0 : 0 ≤ n) (h1 : n ≤ 25) (hb : Below w0.heap.size w0 w) (hq : HoldsQ q (.slice la ls.length lc) st w) :
    Calls Try.prog 47 #[.int .i64 n, .pointer (some ⟨q, 0, none⟩)] w (RvPost (sF ls st n) (HoldsQ q (.slice la ls.length lc)) q (q + 1) w) := by
  by_cases hn : n < ls.length
  · obtain ⟨i, rfl⟩ : ∃ i : Nat, n = i := ⟨n.toNat, by omega⟩
    have hi : i < ls.length := by omega
    rw [sF_in hi]
    exact (sv1_in ls i q la lc w hi (hl.kept hb) (hv i hi) hq).mono (fun e w' h => RvPost.of (w0 := w) (holdsQ_stays _ _) h hq)
  · rw [sF_out hn]
    exact (sv1_out n h0 h1 q la ls.length lc w hn hq).mono (fun e w' h => RvPost.of (w0 := w) (holdsQ_stays _ _) h hq)
/-- replaceVars as SubstVars calls it. -/
theorem rv_sv1 (ls : List Ty) (q : Nat) (la : Option Addr) (lc : Nat) (w0 : World) (hq0 : w0.heap.size ≤ q) (hl : TyAt w0 (.node 0 0 ls) (.slice la ls.length lc)) (hv : ∀ i, i < ls.length → shp 16 (ls.getD i Ty.dummy) = true)
    (d : Nat) (t : Ty) (v : Value) (w : World) (hs : shp d t = true) (hx : TyAt w0 t v) (hb : Below w0.heap.size w0 w) (hq : HoldsQ q (.slice la ls.length lc) [] w) :
    Calls Try.prog 46 #[.agg #[.int .i64 t.k, .int .i64 t.n, v], .func (.func 47) #[] #[.pointer (some ⟨q, 0, none⟩)]] w (RvPost (rp (sF ls) d t []) (HoldsQ q (.slice la ls.length lc)) q (q + 1) w) :=
  rv_any _ (sF ls) _ q (q + 1) (holdsQ_stays _ _) w0 hq0 (fun st n v w h0 h1 hx hb hst => rv_subst (sF ls) _ _ _ (holdsQ_stays _ _) w0 hq0 q (fun st n w h0 h1 hb hst => sv1_any ls q la lc w0 hl hv st n w h0 h1 hb hst) st n v w h0 h1 hx hb hst) d t v w [] hs hx hb hq

end Go.Proofs.Ytjhccdioainibaa
