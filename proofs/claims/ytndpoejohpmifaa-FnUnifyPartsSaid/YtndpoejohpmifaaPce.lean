/-
  Draws of types: a well-formed type; a copy whose row may still grow.
  Draws of types: a copy that is sometimes made invalid.
  What the draws of the arguments of TypeSame and of one type return. Nothing that was in memory changes.
-/
import Derived.Test.YtndpoejohpmifaaPb
import Derived.Test.YtndpoejohpmifaaBf
import Derived.Deep.RegionLaw
namespace Go.Proofs.Ytndpoejohpmifaa
open Go.RowKit
set_option linter.unusedVariables false
set_option linter.unusedSimpArgs false
theorem sum_mem_le : ∀ (l : List Nat) (x : Nat), x ∈ l → x ≤ l.sum
  | [], x, h => by cases h
  | y :: l, x, h => by
    rcases List.mem_cons.1 h with h | h
    · subst h; simp
    · have := sum_mem_le l x h; simp; omega
theorem nodes_kid (t : Ty) (i : Nat) (hi : i < t.ks.length) : nodes (t.ks.getD i Ty.dummy) < nodes t := by
  cases t with
  | node k n ks =>
    rw [nodes_kids]
    have hi' : i < ks.length := hi
    have := sum_mem_le ((List.range ks.length).map fun i => nodes (ks.getD i Ty.dummy)) (nodes (ks.getD i Ty.dummy)) (List.mem_map.2 ⟨i, List.mem_range.2 hi', rfl⟩)
    show nodes (ks.getD i Ty.dummy) < _
    omega
theorem sum_len : ∀ (f : Nat → Nat) (n : Nat), (∀ i, 0 < f i) → n ≤ ((List.range n).map f).sum
  | f, 0, _ => Nat.zero_le _
  | f, n + 1, h => by
    have h1 := sum_len f n h
    have h2 := h n
    simp only [List.range_succ, List.map_append, List.sum_append, List.map_cons, List.map_nil, List.sum_cons, List.sum_nil]
    omega
theorem nodes_len (t : Ty) : t.ks.length < nodes t := by
  cases t with
  | node k n ks =>
    rw [nodes_kids]
    have := sum_len (fun i => nodes (ks.getD i Ty.dummy)) ks.length (fun i => nodes_pos _)
    show ks.length < _
    omega
/-- l2Copy copies every type of at most a million nodes. -/
theorem l2Copy_all : ∀ (m : Nat) (t : Ty) (v : Value) (w : World), nodes t < m → m ≤ 1000001 → TyAt w t v → Calls Try.prog 114 #[.agg #[.int .i64 t.k, .int .i64 t.n, v]] w (TyRet t w) := by
  intro m
  induction m with
  | zero => intro t v w h; exact absurd h (Nat.not_lt_zero _)
  | succ m ih =>
    intro t v w h hm hx
    have hl := nodes_len t
    have h1 := l2Copy_of t t.ks v w hx rfl (by omega) (fun i hi vi W hki => ih _ vi W (by have := nodes_kid t i hi; omega) (by omega) hki)
    cases t with
    | node k n ks => exact h1
theorem own_under {w : World} {B B' n sz : Nat} {e : TypeId} {v : Value} {xs : List Value} (h : w.ownsRow B e sz v n xs) (hb : B' ≤ B) : w.ownsRow B' e sz v n xs := by
  obtain ⟨hl, h | ⟨g, cap, cur, rfl, hb', hg, h1, h2, h3, h4⟩⟩ := h
  · exact ⟨hl, .inl h⟩
  · exact ⟨hl, .inr ⟨g, cap, cur, rfl, Nat.le_trans hb hb', hg, h1, h2, h3, h4⟩⟩
theorem Gr.under {rs : List Ty} {B B' j : Nat} {w : World} {cv : Value} {xs : List Value} {vs : Nat → Value} {l h : Nat → Nat} (f : Gr rs B j w cv xs vs l h) (hb : B' ≤ B) : Gr rs B' j w cv xs vs l h :=
  ⟨own_under f.own hb, f.x0, f.x1, f.x2, fun i hi => ⟨Nat.le_trans hb (f.lo i hi).1, (f.lo i hi).2⟩, f.di, f.ty, f.ap⟩
theorem Gr.res {rs : List Ty} {R B j : Nat} {w : World} {cv : Value} {xs : List Value} {vs : Nat → Value} {l h : Nat → Nat} (f : Gr rs B j w cv xs vs l h) (hR : R < B) (x y z : Value) : Gr rs B j (((w.setCell ⟨R, 0, none⟩ x).setCell ⟨R, 1, none⟩ y).setCell ⟨R, 2, none⟩ z) cv xs vs l h :=
  f.keep (by simp) (fun b hb _ => heap_res (by omega))
/-- What l2Copy leaves, its row one that may grow. -/
def GrRet (t : Ty) (w : World) (e : Ending) (w' : World) : Prop := ∃ (cv : Value) (xs : List Value) (vs : Nat → Value) (l h : Nat → Nat), e = .returned (.agg #[.int .i64 t.k, .int .i64 t.n, cv]) ∧ Gr t.ks w.heap.size t.ks.length w' cv xs vs l h ∧ Below w.heap.size w w'
set_option maxRecDepth 100000 in
set_option maxHeartbeats 8000000 in
theorem l2Copy_own (t : Ty) (rs : List Ty) (v : Value) (w : World) (hx : TyAt w t v) (hrs : rs.length = t.ks.length) (hsz : t.ks.length ≤ 1000000)
    (H : ∀ i, i < t.ks.length → ∀ (vi : Value) (W : World), TyAt W (t.ks.getD i Ty.dummy) vi → Calls Try.prog 114 #[.agg #[.int .i64 (t.ks.getD i Ty.dummy).k, .int .i64 (t.ks.getD i Ty.dummy).n, vi]] W (TyRet (rs.getD i Ty.dummy) W)) :
    Calls Try.prog 114 #[.agg #[.int .i64 t.k, .int .i64 t.n, v]] w (GrRet (.node t.k t.n rs) w) := by
  obtain ⟨i0, hi0, hz0, hz1, hz2⟩ := info_parts infoTy
  have HH := Lib.hid H
  have HX0 := Lib.hid hx
  obtain ⟨a, cap, rfl, hlen⟩ := hx.slice
  obtain ⟨L, hL⟩ : ∃ L, t.ks.length = L := ⟨_, rfl⟩
  have HL := Lib.hid hL
  have HRS := Lib.hid (hrs.trans hL)
  rw [hL] at hlen hsz ⊢
  obtain ⟨S, hS⟩ : ∃ S, w.heap.size = S := ⟨_, rfl⟩
  have HS := Lib.hid hS
  obtain ⟨W1, hW1⟩ : ∃ W1, ((w.alloc (.cells #[.int .i64 t.k, .int .i64 t.n, .slice a L cap] 25)).alloc (.cells #[.int .i64 0, .int .i64 0, .slice none 0 0] 25)).alloc (.cells #[.int .i64 t.k, .int .i64 t.n, .slice none 0 0] 25) = W1 := ⟨_, rfl⟩
  have HW1 := Lib.hid hW1
  have hB1 : Below w.heap.size w W1 := by rw [← hW1]; exact (((Below.refl _ _).alloc (Nat.le_refl _) _).alloc (by simp) _).alloc (by simp; omega) _
  have HB1S : Hid (Below S w W1) := Lib.hid (by rw [← hS]; exact hB1)
  have HT1 : Hid (TBox W1 S (.int .i64 t.k) (.int .i64 t.n) (.slice a L cap)) := Lib.hid (by rw [← hW1, ← hS]; exact ((tbox_new w _ _ _ _).kept ((Below.refl _ _).alloc (Nat.le_refl _) _)).kept ((Below.refl _ _).alloc (Nat.le_refl _) _))
  have HR1 : Hid (RB W1 (S + 1)) := Lib.hid (by have h := (rb_new (w.alloc (.cells #[.int .i64 t.k, .int .i64 t.n, .slice a L cap] 25)) 25).kept ((Below.refl _ _).alloc (Nat.le_refl _) (.cells #[.int .i64 t.k, .int .i64 t.n, .slice none 0 0] 25)); rw [sizeA, hW1, hS] at h; exact h)
  have HO1 : Hid (OB W1 (S + 1 + 1) t.k t.n (.slice none 0 0)) := Lib.hid (by
    have h := ob_new ((w.alloc (.cells #[.int .i64 t.k, .int .i64 t.n, .slice a L cap] 25)).alloc (.cells #[.int .i64 0, .int .i64 0, .slice none 0 0] 25)) t.k t.n (.slice none 0 0) 25
    rw [sizeA, sizeA, hW1, hS] at h
    exact h)
  have hz1' : W1.heap.size = S + 1 + 1 + 1 := by rw [← hW1, ← hS]; simp
  have HSW := Lib.hid (show S ≤ W1.heap.size by omega)
  clear hx hL hrs H hB1 hW1
  go_enter Try.func114, Try.ntmps114
  go_wp2_with fail
  rw [HW1.out]
  clear hS
  go_loopw [4] (fun i wr => ∃ (j : Nat) (cv : Value) (xs : List Value) (vs : Nat → Value) (l h : Nat → Nat), j ≤ L ∧ i = .int .i64 j ∧ Hid (Gr rs (S + 1 + 1 + 1) j wr cv xs vs l h) ∧ Hid (OB wr (S + 1 + 1) t.k t.n cv) ∧ Hid (Inside (S + 1 + 1) (S + 1 + 1 + 1) W1 wr)) (fun i _ => L - (intOf i).toNat)
  case atStart => exact ⟨0, _, [], _, _, _, Nat.zero_le _, rfl, Lib.hid (gr_nil rs (S + 1 + 1 + 1) W1), HO1, Lib.hid (Inside.refl _ _ _)⟩
  case round =>
    obtain ⟨j, cv, xs, vs, l, h, hj, rfl, hgr, hob, hin⟩ := hrel
    have HTw := Lib.hid (HT1.out.away hin.out (.inl (by omega)))
    have hszw : S + 1 + 1 + 1 ≤ wr.heap.size := by have := hin.out.size; omega
    by_cases hlt : j < L
    · have hji : (j : Int) < (L : Int) := by omega
      have hti := hin.out.below (B := S) (by omega) HB1S.out HSW.out
      obtain ⟨b, o, cap2, vi, ex, bl, y0, y1, y2, hkid⟩ := HX0.out.kid j (by rw [HL.out]; exact hlt)
      have ex1 : a = some ⟨b, o, none⟩ := by injection ex
      subst ex1
      rw [HS.out] at bl
      replace y0 := (hti.cell (p := ⟨b, o + j * 3, none⟩) bl).trans y0
      replace y1 := (hti.cell (p := ⟨b, o + j * 3 + 1, none⟩) bl).trans y1
      replace y2 := (hti.cell (p := ⟨b, o + j * 3 + 2, none⟩) bl).trans y2
      have HKID := Lib.hid (hkid.kept (by rw [HS.out]; exact hti))
      have HJ := Lib.hid (HH.out j (by rw [HL.out]; exact hlt) vi)
      obtain ⟨x, hx⟩ : ∃ x, t.ks.getD j Ty.dummy = x := ⟨_, rfl⟩
      obtain ⟨y, hy⟩ : ∃ y, rs.getD j Ty.dummy = y := ⟨_, rfl⟩
      rw [hx] at y0 y1 HKID HJ
      rw [hy] at HJ
      have HY := Lib.hid hy
      have hbw : b < wr.heap.size := by omega
      have h63 : j + 1 ≤ maxLen := by unfold maxLen; omega
      have hby : (j + 1) * 40 ≤ 140737488355328 := by omega
      obtain ⟨t0, t1, t2, tz⟩ := HTw.out
      obtain ⟨p0, p1, p2, pf2, pz⟩ := hob.out
      have hn0 : ¬ S = S + 1 + 1 := by omega
      have hn1 : ¬ b = S + 1 + 1 := by omega
      have HTI := Lib.hid hti
      have hszS : S ≤ wr.heap.size := by omega
      clear ex hkid hx hy hti t0 t1 tz
      go_wp2_with fail
      go_region_law (first
        | (refine step_append_lies _ (by rfl) _ _ _ (by rfl) (S + 1 + 1 + 1) 25 i0 _ 3 40 Try.underlying23 hi0 hz0 hz1 hz2 rfl (by omega) cv j xs (by rfl) (HOWN2.out.alloc _) ⟨w2.heap.size, 0, none⟩ 1 1 [.int .i64 y.k, .int .i64 y.n, .slice a2 y.ks.length k2] (by rfl) (by rfl) (World.news_of_block (cs := #[.int .i64 y.k, .int .i64 y.n, .slice a2 y.ks.length k2]) (t := 25) (fr := (0, 0)) (heap_alloc_new w2 _)) (by simp [Value.oneCell']) (by omega) h63 hby (hbase2 _) (w2.heap.size + 1) (by simp) ?_; intro g cap3 w3 hown3 hgrow hat hltg; obtain ⟨xs3, vs3, l3, h3, hg3⟩ := hgr.out.step (by omega) HY.out HB2.out HTY2.out hown3 hgrow hat; have hrow : ∀ q, cv.ownBlock = some q → S + 1 + 1 + 1 ≤ q := (fun q e => (own_low HOWN2.out e).1); have e0 := grow_old hgrow (q := S) (by omega) (fun q e => by have := hrow q e; omega); have e1 := grow_old hgrow (q := b) (by omega) (fun q e => by have := hrow q e; omega); have HO3 := Lib.hid (HO2.out.keep (by have := grow_size hgrow; omega) (grow_old hgrow (q := S + 1 + 1) (by omega) (fun q e => by have := hrow q e; omega))); have HI3 := Lib.hid (in_grow HI2.out hgrow (fun q e => by have := hrow q e; omega)); have HG3 := Lib.hid hg3; have f2 := (cellEq e0).trans c2; have g0 := (cellEq e1).trans d0; have g1 := (cellEq e1).trans d1; have g2 := (cellEq e1).trans d2; obtain ⟨o0, o1, o2, of2, oz⟩ := HO3.out; have hs3 := grow_size hgrow; clear hown3 hgrow hat hg3 e0 e1)
        | (go_simp; go_at_call 114; refine (HJ.out _ (HKID.out.kept (by first | exact Below.refl _ _ | exact (Below.refl _ _).drew))).mono ?_; rintro e w2 ⟨v2, rfl, hty2, hb2⟩; obtain ⟨a2, k2, rfl, _⟩ := hty2.at.slice; have hb2' : Below wr.heap.size wr w2 := Below.trans (B := wr.heap.size) (by first | exact Below.refl _ _ | exact (Below.refl _ _).drew) hb2; have hty2' : TyIn w2 wr.heap.size w2.heap.size y (.slice a2 y.ks.length k2) := hty2; have HTY2 := Lib.hid hty2'; have HB2 := Lib.hid hb2'; have HOWN2 := Lib.hid (own_below hgr.out.own hb2'); have HO2 := Lib.hid (hob.out.kept hb2'); have HT2 := Lib.hid (HTw.out.kept hb2'); have HI2 := Lib.hid (hin.out.trans (Inside.of_below hb2')); have hs2 : wr.heap.size ≤ w2.heap.size := hb2'.size; have hbase2 : ∀ o, S + 1 + 1 + 1 ≤ (w2.alloc o).heap.size := (fun o => by simp; omega); obtain ⟨c0, c1, c2, cz⟩ := HT2.out; obtain ⟨rp0, rp1, rp2, rpf, rpz⟩ := HO2.out; have d0 := (hb2'.cell (p := ⟨b, o + j * 3, none⟩) hbw).trans y0; have d1 := (hb2'.cell (p := ⟨b, o + j * 3 + 1, none⟩) hbw).trans y1; have d2 := (hb2'.cell (p := ⟨b, o + j * 3 + 2, none⟩) hbw).trans y2; clear hb2 hb2' hty2 hty2'))
      all_goals go_wp2_with fail
      all_goals go_roundw
      all_goals first
        | exact ⟨j + 1, _, _, _, _, _, by omega, by go_num, Lib.hid (HG3.out.keep (by simp) (fun q h1 _ => heap_setCell_other _ ⟨S + 1 + 1, 2, none⟩ q _ (by show q ≠ S + 1 + 1; omega))), Lib.hid (HO3.out.set _), Lib.hid (HI3.out.trans (Inside.set _ _ _ (Nat.le_refl _) (Nat.lt_succ_self _)))⟩
        | (simp [intOf]; omega)
    · have hji : ¬ (j : Int) < (L : Int) := by omega
      obtain rfl : j = L := by omega
      have hgd := hgr.out
      rw [← HRS.out] at hgd
      have HD := Lib.hid (hgd.done t.k t.n (by rw [HRS.out]; exact hlen))
      obtain ⟨ca, cc, rfl, _⟩ := HD.out.at.slice
      have HRw := Lib.hid (HR1.out.keep hin.out.size (hin.out.block _ HR1.out.sz (.inl (by omega))))
      have HBw := Lib.hid (hin.out.below (B := S) (by omega) HB1S.out HSW.out)
      obtain ⟨t0, t1, t2, tz⟩ := HTw.out
      obtain ⟨p0, p1, p2, pf2, pz⟩ := hob.out
      obtain ⟨q0, q1, q2, qf0, qf1, qf2, qz⟩ := HRw.out
      clear hgd
      go_wp2_with fail
      exact bodyPost_ret (v := .agg #[.int .i64 t.k, .int .i64 t.n, .slice ca (Ty.node t.k t.n rs).ks.length cc]) (by simp [results, Try.results114, go_sem, q0, q1, q2, Ty.ks, HRS.out]) rfl ⟨_, _, _, _, _, rfl, by have h := (hgr.out.under (Nat.le_succ_of_le (Nat.le_refl _))).res (R := S + 1) (by omega) (.int .i64 t.k) (.int .i64 t.n) (.slice ca (Ty.node t.k t.n rs).ks.length cc); have h2 := h.under (show w.heap.size ≤ S + 1 + 1 by rw [HS.out]; omega); rw [← HRS.out] at h2; exact h2, Inside.thin (in_res (lo := w.heap.size) (hi := w.heap.size) (Inside.of_below (by rw [HS.out]; exact HBw.out)) (by rw [HS.out]; omega) _ _ _)⟩

/-- A copy whose row may grow. -/
theorem l2Copy_gr (t : Ty) (v : Value) (w : World) (hn : nodes t ≤ 1000000) (hx : TyAt w t v) : Calls Try.prog 114 #[.agg #[.int .i64 t.k, .int .i64 t.n, v]] w (GrRet t w) := by
  have hl := nodes_len t
  have h1 := l2Copy_own t t.ks v w hx rfl (by omega) (fun i hi vi W hki => l2Copy_all _ _ vi W (Nat.lt_succ_self _) (by have := nodes_kid t i hi; omega) hki)
  cases t with
  | node k n ks => exact h1
theorem shp_up : ∀ (d : Nat) (t : Ty), shp d t = true → shp (d + 1) t = true := by
  intro d
  induction d with
  | zero => intro t h; cases h
  | succ d ih =>
    intro t h
    obtain ⟨h1, h2⟩ := shp_iff.1 h
    exact shp_iff.2 ⟨h1, fun i hi => ih _ (h2 i hi)⟩
theorem shp_add {d : Nat} {t : Ty} (h : shp d t = true) : ∀ m, shp (d + m) t = true
  | 0 => h
  | m + 1 => shp_up _ _ (shp_add h m)
theorem shp_le {d d' : Nat} {t : Ty} (h : shp d t = true) (hd : d ≤ d') : shp d' t = true := by
  have := shp_add h (d' - d); rwa [show d + (d' - d) = d' by omega] at this
theorem nodes_shp : ∀ (d : Nat) (t : Ty), shp d t = true → nodes t + 1 ≤ 2 ^ d := by
  intro d
  induction d with
  | zero => intro t h; cases h
  | succ d ih =>
    intro t h
    obtain ⟨h1, h2⟩ := shp_iff.1 h
    have hl := fieldsB_len h1
    cases t with
    | node k n ks =>
      rw [nodes_kids]
      have hp : 1 ≤ 2 ^ d := Nat.one_le_two_pow
      have e2 : 2 ^ (d + 1) = 2 ^ d + 2 ^ d := by rw [Nat.pow_succ]; omega
      match ks, hl, h2 with
      | [], _, _ => simp; omega
      | [x], _, h2 => have a := ih x (h2 0 (by simp [Ty.ks])); simp [List.range_succ]; omega
      | [x, y], _, h2 => have a := ih x (h2 0 (by simp [Ty.ks])); have b := ih y (h2 1 (by simp [Ty.ks])); simp [List.range_succ, List.getD]; omega
      | _ :: _ :: _ :: _, hl, _ => simp [Ty.ks] at hl
set_option maxRecDepth 100000 in
set_option maxHeartbeats 4000000 in
theorem l2Some_any (B : Nat) (a : Option Addr) (len cap : Nat) (zs : List Int) (p : Nat) (w : World) (P : Ty → Prop) (hP : ∀ t, shp 5 t = true → P t) (q : Nat) (hqq : 100 ≤ q) (hr : Rd w B a len cap zs p) (hp : p + q ≤ 1000000) :
    Calls Try.prog 50 #[.pointer (some ⟨B, 0, none⟩)] w (DrPost P w B a len cap zs p q) := by
  have HP := Lib.hid hP
  clear hP
  obtain ⟨W1, hW1⟩ : ∃ W, w.alloc (.cells #[.int .i64 0, .int .i64 0, .slice none 0 0] 25) = W := ⟨_, rfl⟩
  obtain ⟨S, hS⟩ : ∃ S, w.heap.size = S := ⟨_, rfl⟩
  have HD0 : Hid (DS w S B a len cap zs p W1) := Lib.hid (by rw [← hW1, ← hS]; exact ds_new hr _)
  have HW1 := Lib.hid hW1
  have HS := Lib.hid hS
  clear hr hW1
  go_enter Try.func50, Try.ntmps50
  go_wp2_with fail
  rw [HW1.out]
  clear hS
  have hb1 := HD0.out.rd.big
  have HDc := Lib.hid (HD0.out.alloc (.cells #[.int .i64 3, .int .i64 2, .int .i64 4, .int .i64 1] 3))
  have HIR : Hid (IntRow (W1.alloc (.cells #[.int .i64 3, .int .i64 2, .int .i64 4, .int .i64 1] 3)) (S + 1) 4 1 4) := Lib.hid (by
    have h := intRow_new W1 #[.int .i64 3, .int .i64 2, .int .i64 4, .int .i64 1] 3 4 1 4 rfl (by decide +kernel)
    have e : W1.heap.size = S + 1 := by rw [← HW1.out, ← HS.out]; simp
    rw [e] at h
    exact h)
  have hbs : ¬ S + 1 = B := by have := HD0.out.lt; omega
  go_at_call 83
  refine (num_any B a len cap zs _ _ HDc.out.rd (by omega) _ 4 4 1 4 (by omega) (by omega) hbs HIR.out).mono ?_
  rintro e w2 ⟨n, hn, rfl, k2, hk2⟩
  have HN := Lib.hid hn
  have HD2 := Lib.hid (HDc.out.pick hk2)
  clear hk2 hn
  obtain ⟨d, hd⟩ : ∃ d : Nat, n = d := ⟨n.toNat, by have := HN.out; omega⟩
  have hd4 : d ≤ 4 := by have := HN.out; omega
  have HDD := Lib.hid hd
  have hq : qd d ≤ 93 := by
    have : d = 0 ∨ d = 1 ∨ d = 2 ∨ d = 3 ∨ d = 4 := by omega
    rcases this with rfl | rfl | rfl | rfl | rfl <;> decide
  clear hd
  go_wp2_with fail
  go_at_call 82
  refine (l2Draw_any d B a len cap zs _ n _ HDD.out (by omega) HD2.out.rd (by omega)).mono ?_
  rintro e w3 ⟨t, v, r, hs, hr, rfl, hty, hdw, hrd⟩
  have HT := Lib.hid hty
  have HS1 := Lib.hid (HP.out t (shp_le (d' := 5) hs (by omega)))
  have HD3 := Lib.hid (HD2.out.step hdw hrd)
  obtain ⟨av, cv, rfl, _⟩ := hty.at.slice
  clear hty hs hdw hrd
  obtain ⟨p0, p1, p2, f0, f1, f2, psz⟩ := HD3.out.rb
  go_wp2_with fail
  exact bodyPost_ret (v := .agg #[.int .i64 t.k, .int .i64 t.n, .slice av t.ks.length cv]) (by simp [results, Try.results50, go_sem, p0, p1, p2, Ty.ks, Ty.k, Ty.n]) rfl ⟨_, _, 1 + r, HS1.out, by omega, rfl, (HD3.out.done HT.out HD2.out.sz _ _ _).1, (HD3.out.done HT.out HD2.out.sz _ _ _).2.1, by have h := (HD3.out.done HT.out HD2.out.sz (.int .i64 t.k) (.int .i64 t.n) (.slice av t.ks.length cv)).2.2; rw [show p + 1 + r = p + (1 + r) by omega] at h; exact h⟩

end Go.Proofs.Ytndpoejohpmifaa

namespace Go.Proofs.Ytndpoejohpmifaa
open Go.RowKit
set_option linter.unusedVariables false
set_option linter.unusedSimpArgs false
/-- A box of three cells that may be written. -/
structure OC (w : World) (E : Nat) (k n : Int) (v : Value) : Prop where
  c0 : w.cell? ⟨E, 0, none⟩ = some (.int .i64 k)
  c1 : w.cell? ⟨E, 1, none⟩ = some (.int .i64 n)
  c2 : w.cell? ⟨E, 2, none⟩ = some v
  f0 : w.frozen? ⟨E, 0, none⟩ = false
  f1 : w.frozen? ⟨E, 1, none⟩ = false
  f2 : w.frozen? ⟨E, 2, none⟩ = false
  sz : E < w.heap.size
theorem OC.keep {w w' : World} {E : Nat} {k n : Int} {v : Value} (h : OC w E k n v) (hs : w.heap.size ≤ w'.heap.size) (e : w'.heap[E]? = w.heap[E]?) : OC w' E k n v :=
  ⟨(cellEq e).trans h.c0, (cellEq e).trans h.c1, (cellEq e).trans h.c2, (frozenEq e).trans h.f0, (frozenEq e).trans h.f1, (frozenEq e).trans h.f2, Nat.lt_of_lt_of_le h.sz hs⟩
theorem OC.dw {w w' : World} {B E : Nat} {k n : Int} {v : Value} (h : OC w E k n v) (hB : B < E) (hd : Dw B w w') : OC w' E k n v := h.keep hd.size (hd.block E h.sz (by simp; omega))
theorem OC.kept {w w' : World} {E : Nat} {k n : Int} {v : Value} (h : OC w E k n v) (hb : Below w.heap.size w w') : OC w' E k n v := h.keep hb.size (hb.block E h.sz)
theorem oc_new (w : World) (k n : Int) (v : Value) (T : TypeId) : OC (w.alloc (.cells #[.int .i64 k, .int .i64 n, v] T)) w.heap.size k n v := ⟨by go_simp, by go_simp, by go_simp, by go_simp, by go_simp, by go_simp, by simp⟩
theorem OC.set0 {w : World} {E : Nat} {k n : Int} {v : Value} (h : OC w E k n v) (u : Int) : OC (w.setCell ⟨E, 0, none⟩ (.int .i64 u)) E u n v := by
  obtain ⟨a0, a1, a2, b0, b1, b2, sz⟩ := h
  exact ⟨by go_simp, by go_simp, by go_simp, by go_simp, by go_simp, by go_simp, by simpa using sz⟩
theorem OC.set1 {w : World} {E : Nat} {k n : Int} {v : Value} (h : OC w E k n v) (u : Int) : OC (w.setCell ⟨E, 1, none⟩ (.int .i64 u)) E k u v := by
  obtain ⟨a0, a1, a2, b0, b1, b2, sz⟩ := h
  exact ⟨by go_simp, by go_simp, by go_simp, by go_simp, by go_simp, by go_simp, by simpa using sz⟩
theorem OC.set2 {w : World} {E : Nat} {k n : Int} {v : Value} (h : OC w E k n v) (u : Value) : OC (w.setCell ⟨E, 2, none⟩ u) E k n u := by
  obtain ⟨a0, a1, a2, b0, b1, b2, sz⟩ := h
  exact ⟨by go_simp, by go_simp, by go_simp, by go_simp, by go_simp, by go_simp, by simpa using sz⟩
theorem Gr.dw {rs : List Ty} {B B0 j : Nat} {w w' : World} {cv : Value} {xs : List Value} {vs : Nat → Value} {l h : Nat → Nat} (f : Gr rs B j w cv xs vs l h) (hB : B0 < B) (hd : Dw B0 w w') : Gr rs B j w' cv xs vs l h :=
  f.keep hd.size (fun b h1 h2 => hd.block b h2 (by simp; omega))
theorem DS.setNew {w : World} {S B : Nat} {a : Option Addr} {len cap : Nat} {zs : List Int} {p : Nat} {W : World} (h : DS w S B a len cap zs p W) {E : Nat} (hE : S < E) (o : Nat) (x : Value) : DS w S B a len cap zs p (W.setCell ⟨E, o, none⟩ x) :=
  ⟨h.rd.setNew (by have := h.lt; omega) o x, h.dw.setNew (by have := h.eq; omega) o x, h.rb.keep (by simp) (heap_setCell_other _ ⟨E, o, none⟩ S _ (by show S ≠ E; omega)), h.lt, h.eq⟩
theorem nodes_same (t : Ty) (k n : Int) : nodes (.node k n t.ks) = nodes t := by cases t; simp [nodes_kids, Ty.ks]
theorem nodes_more (t : Ty) (k n : Int) : nodes (.node k n (t.ks ++ [.node 1 0 []])) = nodes t + 1 := by
  cases t with
  | node k' n' ks =>
    simp only [Ty.ks]
    simp only [nodes]
    have : ∀ l : List Ty, nodesL (l ++ [.node 1 0 []]) = nodesL l + 1 := fun l => by
      induction l with
      | nil => simp [nodesL, nodes]
      | cons x l ih => simp [nodesL, ih]; omega
    rw [this]
theorem nodes_two (k n : Int) (x y : Ty) : nodes (.node k n [x, y]) = nodes x + nodes y + 1 := by simp [nodes, nodesL]

/-- The type's rows lie from block lo on, none in block E. -/
inductive TyN (w : World) (lo E : Nat) : Ty → Value → Prop where
  | bare (k n : Int) (a : Option Addr) (cap : Nat) : TyN w lo E (.node k n []) (.slice a 0 cap)
  | row (k n : Int) (ks : List Ty) (b o cap : Nat) (vs : Nat → Value) (hb : lo ≤ b) (he : b ≠ E) (hr : Row w b) (hl : ks.length ≤ 9223372036854775807)
      (h0 : ∀ i, i < ks.length → w.cell? ⟨b, o + i * 3, none⟩ = some (.int .i64 (ks.getD i Ty.dummy).k))
      (h1 : ∀ i, i < ks.length → w.cell? ⟨b, o + i * 3 + 1, none⟩ = some (.int .i64 (ks.getD i Ty.dummy).n))
      (h2 : ∀ i, i < ks.length → w.cell? ⟨b, o + i * 3 + 2, none⟩ = some (vs i))
      (h3 : ∀ i, i < ks.length → TyN w lo E (ks.getD i Ty.dummy) (vs i)) : TyN w lo E (.node k n ks) (.slice (some ⟨b, o, none⟩) ks.length cap)
theorem TyN.ok {w : World} {lo E : Nat} {t : Ty} {v : Value} (h : TyN w lo E t v) : TyOk w t v := by
  induction h with
  | bare k n a cap => exact .bare k n a cap
  | row k n ks b o cap vs hb he hr hl h0 h1 h2 _ ih => exact .row k n ks b o cap vs hr hl h0 h1 h2 ih
theorem TyN.keep {w w' : World} {lo E : Nat} {t : Ty} {v : Value} (h : TyN w lo E t v) (hs : w.heap.size ≤ w'.heap.size) (hk : ∀ b, lo ≤ b → b ≠ E → b < w.heap.size → w'.heap[b]? = w.heap[b]?) : TyN w' lo E t v := by
  induction h with
  | bare k n a cap => exact .bare k n a cap
  | row k n ks b o cap vs hb he hr hl h0 h1 h2 _ ih =>
    have e := hk b hb he hr.lt
    exact .row k n ks b o cap vs hb he (hr.keep hs e) hl (fun i hi => (cellEq e).trans (h0 i hi)) (fun i hi => (cellEq e).trans (h1 i hi)) (fun i hi => (cellEq e).trans (h2 i hi)) ih
theorem TyN.low {w : World} {lo lo' E : Nat} {t : Ty} {v : Value} (h : TyN w lo E t v) (hl' : lo' ≤ lo) : TyN w lo' E t v := by
  induction h with
  | bare k n a cap => exact .bare k n a cap
  | row k n ks b o cap vs hb he hr hl h0 h1 h2 _ ih => exact .row k n ks b o cap vs (Nat.le_trans hl' hb) he hr hl h0 h1 h2 ih
theorem TyN.no0 {w : World} {lo E : Nat} {t : Ty} {v : Value} (h : TyN w lo E t v) (hl' : 0 < lo) : TyN w lo 0 t v := by
  induction h with
  | bare k n a cap => exact .bare k n a cap
  | row k n ks b o cap vs hb he hr hl h0 h1 h2 _ ih => exact .row k n ks b o cap vs hb (by omega) hr hl h0 h1 h2 ih
theorem TyN.kept {w w' : World} {lo E : Nat} {t : Ty} {v : Value} (h : TyN w lo E t v) (hb : Below w.heap.size w w') : TyN w' lo E t v := h.keep hb.size (fun b _ _ h => hb.block b h)
theorem TyIn.toN {w : World} {lo lo' hi E : Nat} {t : Ty} {v : Value} (h : TyIn w lo hi t v) (h1 : lo' ≤ lo) (h2 : hi ≤ E ∨ E < lo) : TyN w lo' E t v := by
  induction h with
  | bare lo hi k n a cap => exact .bare k n a cap
  | row lo hi k n ks b cap vs l h hb1 hb2 hw hl h0 h1' h2' hf hin hd _ ih =>
    refine .row k n ks b 0 cap vs (by omega) (by omega) hw hl (fun i hi => by rw [Nat.zero_add]; exact h0 i hi) (fun i hi => by rw [Nat.zero_add]; exact h1' i hi) (fun i hi => by rw [Nat.zero_add]; exact h2' i hi) (fun i hi => ?_)
    have := hin i hi
    exact ih i hi (by omega) (by omega)
theorem TyN.pair {w : World} {lo E b cap : Nat} {k n : Int} {x y : Ty} {vx vy : Value} (hx : TyN w lo E x vx) (hy : TyN w lo E y vy) (hb : lo ≤ b) (he : b ≠ E) (hw : Row w b)
    (c0 : w.cell? ⟨b, 0, none⟩ = some (.int .i64 x.k)) (c1 : w.cell? ⟨b, 1, none⟩ = some (.int .i64 x.n)) (c2 : w.cell? ⟨b, 2, none⟩ = some vx)
    (c3 : w.cell? ⟨b, 3, none⟩ = some (.int .i64 y.k)) (c4 : w.cell? ⟨b, 4, none⟩ = some (.int .i64 y.n)) (c5 : w.cell? ⟨b, 5, none⟩ = some vy) :
    TyN w lo E (.node k n [x, y]) (.slice (some ⟨b, 0, none⟩) 2 cap) := by
  have two : ∀ i, i < [x, y].length → i = 0 ∨ i = 1 := fun i hi => by have hi : i < 2 := hi; omega
  refine .row k n [x, y] b 0 cap (fun i => if i = 0 then vx else vy) hb he hw (by simp) ?_ ?_ ?_ ?_
  · intro i hi
    rcases two i hi with rfl | rfl
    · exact c0
    · exact c3
  · intro i hi
    rcases two i hi with rfl | rfl
    · exact c1
    · exact c4
  · intro i hi
    rcases two i hi with rfl | rfl
    · exact c2
    · exact c5
  · intro i hi
    rcases two i hi with rfl | rfl
    · exact hx
    · exact hy
set_option maxRecDepth 100000 in
set_option maxHeartbeats 1000000 in
theorem l2Node_n (k : Int) (x y : Ty) (vx vy : Value) (lo E : Nat) (w : World) (hx : TyN w lo E x vx) (hy : TyN w lo E y vy) (hE : E < w.heap.size) (hlo : lo ≤ w.heap.size) :
    Calls Try.prog 87 #[.int .i64 k, .agg #[.int .i64 x.k, .int .i64 x.n, vx], .agg #[.int .i64 y.k, .int .i64 y.n, vy]] w fun e w' => ∃ c, e = .returned (.agg #[.int .i64 k, .int .i64 0, .slice c 2 2]) ∧ TyN w' lo E (.node k 0 [x, y]) (.slice c 2 2) ∧ Below w.heap.size w w' := by
  have HX := Lib.hid hx
  have HY := Lib.hid hy
  obtain ⟨ax, cx, rfl, _⟩ := hx.ok.at.slice
  obtain ⟨ay, cy, rfl, _⟩ := hy.ok.at.slice
  obtain ⟨nx, hnx⟩ : ∃ n, x.ks.length = n := ⟨_, rfl⟩
  obtain ⟨ny, hny⟩ : ∃ n, y.ks.length = n := ⟨_, rfl⟩
  obtain ⟨kx, hkx⟩ : ∃ n, x.k = n := ⟨_, rfl⟩
  obtain ⟨ky, hky⟩ : ∃ n, y.k = n := ⟨_, rfl⟩
  obtain ⟨mx, hmx⟩ : ∃ n, x.n = n := ⟨_, rfl⟩
  obtain ⟨my, hmy⟩ : ∃ n, y.n = n := ⟨_, rfl⟩
  have HE := Lib.hid (And.intro hkx (And.intro hky (And.intro hmx hmy)))
  rw [hnx] at HX ⊢
  rw [hny] at HY ⊢
  rw [hkx, hky, hmx, hmy]
  have HLO := Lib.hid (And.intro hE hlo)
  clear hx hy hkx hky hmx hmy hnx hny hE hlo
  go_enter Try.func87, Try.ntmps87
  go_wp2_with fail
  refine bodyPost_ret (v := .agg #[.int .i64 k, .int .i64 0, .slice (some ⟨w.heap.size + 1 + 1 + 1, 0, none⟩) 2 2]) (by simp [results, Try.results87, go_sem]) rfl ⟨_, rfl, ?_, ?_⟩
  · obtain ⟨e1, e2, e3, e4⟩ := HE.out
    obtain ⟨h1, h2⟩ := HLO.out
    refine TyN.pair (b := w.heap.size + 1 + 1 + 1) (vx := .slice ax nx cx) (vy := .slice ay ny cy) (HX.out.kept ?_) (HY.out.kept ?_) (by omega) (by omega) (row_at (by simp)) (by rw [e1]; go_simp) (by rw [e3]; go_simp) (by go_simp) (by rw [e2]; go_simp) (by rw [e4]; go_simp) (by go_simp)
    · exact ((((Below.refl _ _).alloc (Nat.le_refl _) _).alloc (by simp) _).alloc (by simp; omega) _).alloc (by simp; omega) _
    · exact ((((Below.refl _ _).alloc (Nat.le_refl _) _).alloc (by simp) _).alloc (by simp; omega) _).alloc (by simp; omega) _
  · exact ((((Below.refl _ _).alloc (Nat.le_refl _) _).alloc (by simp) _).alloc (by simp; omega) _).alloc (by simp; omega) _
theorem l2Num_flat (w : World) : Calls Try.prog 84 #[] w fun e w' => ∃ a c, e = .returned (.agg #[.int .i64 1, .int .i64 0, .slice a 0 c]) ∧ Below w.heap.size w w' :=
  (l2Num_any w).mono (by
    rintro e w' ⟨v, rfl, ht, hb⟩
    obtain ⟨a, c, rfl, _⟩ := ht.at.slice
    exact ⟨a, c, rfl, hb⟩)
/-- What the draw of a type leaves that may be no valid type. -/
def DkPost (P : Ty → Prop) (w : World) (B : Nat) (a : Option Addr) (len cap : Nat) (zs : List Int) (p q : Nat) (e : Ending) (w' : World) : Prop :=
  ∃ (t : Ty) (v : Value) (r : Nat), P t ∧ r ≤ q ∧ e = .returned (.agg #[.int .i64 t.k, .int .i64 t.n, v]) ∧ TyN w' w.heap.size 0 t v ∧ Dw B w w' ∧ Rd w' B a len cap zs (p + r)
theorem DkPost.low {P : Ty → Prop} {w : World} {o : Obj} {B : Nat} {a : Option Addr} {len cap : Nat} {zs : List Int} {p q : Nat} {e : Ending} {w' : World} (h : DkPost P (w.alloc o) B a len cap zs p q e w') : DkPost P w B a len cap zs p q e w' := by
  obtain ⟨t, v, r, h1, h2, h3, h4, h5, h6⟩ := h
  exact ⟨t, v, r, h1, h2, h3, h4.low (by simp), ((Dw.refl B w).alloc o).trans h5, h6⟩
/-- The result goes into its cells. -/
theorem DS.doneN {w : World} {S B : Nat} {a : Option Addr} {len cap : Nat} {zs : List Int} {p : Nat} {W : World} (h : DS w S B a len cap zs p W) {t : Ty} {v : Value} {lo E : Nat} (ht : TyN W lo E t v) (hlo : S + 1 ≤ lo) (x y z : Value) :
    TyN (((W.setCell ⟨S, 0, none⟩ x).setCell ⟨S, 1, none⟩ y).setCell ⟨S, 2, none⟩ z) w.heap.size 0 t v ∧ Dw B w (((W.setCell ⟨S, 0, none⟩ x).setCell ⟨S, 1, none⟩ y).setCell ⟨S, 2, none⟩ z) ∧ Rd (((W.setCell ⟨S, 0, none⟩ x).setCell ⟨S, 1, none⟩ y).setCell ⟨S, 2, none⟩ z) B a len cap zs p := by
  have e := h.eq
  have hl := h.lt
  exact ⟨((ht.keep (by simp) (fun b h1 _ _ => heap_res (by omega))).low (show w.heap.size ≤ lo by omega)).no0 (by omega), ((h.dw.setNew (by omega) 0 x).setNew (by omega) 1 y).setNew (by omega) 2 z, ((h.rd.setNew h.lt 0 x).setNew h.lt 1 y).setNew h.lt 2 z⟩
theorem DS.grow {w : World} {S B : Nat} {a : Option Addr} {len cap : Nat} {zs : List Int} {p : Nat} {W W' : World} {o : Obj} {row : Option Nat} (h : DS w S B a len cap zs p W) (hg : (W.alloc o).grownBy W' row) (hr : ∀ g, row = some g → S + 1 ≤ g) : DS w S B a len cap zs p W' := by
  have ha := (Below.refl W.heap.size W).alloc (Nat.le_refl _) o
  have hs := grow_size hg
  have hl := h.lt
  have hz := h.sz
  have he := h.eq
  have hb : ∀ q, q ≤ S → W'.heap[q]? = W.heap[q]? := fun q hq => grow_old hg (by omega) (fun g e => by have := hr g e; omega)
  refine ⟨h.rd.kept ⟨hg.os.trans ha.os, hg.tape.trans ha.tape, hg.output.trans ha.output, by omega, fun q hq => hb q (by omega)⟩, ⟨hg.os.trans (ha.os.trans h.dw.os), hg.tape.trans (ha.tape.trans h.dw.tape), hg.output.trans (ha.output.trans h.dw.output), by have := h.dw.size; omega, fun q hq hne => (hb q (by omega)).trans (h.dw.block q hq hne)⟩, h.rb.keep (by omega) (hb S (Nat.le_refl _)), h.lt, h.eq⟩
theorem Gr.keepE {rs : List Ty} {B j : Nat} {w w' : World} {cv : Value} {xs : List Value} {vs : Nat → Value} {l h : Nat → Nat} (f : Gr rs B j w cv xs vs l h) {E : Nat} (hE : ∀ i, i < j → E < l i ∨ h i ≤ E) (hg : ∀ g, cv.ownBlock = some g → g ≠ E) (hs : w.heap.size ≤ w'.heap.size) (hk : ∀ b, b ≠ E → b < w.heap.size → w'.heap[b]? = w.heap[b]?) : Gr rs B j w' cv xs vs l h := by
  refine ⟨?_, f.x0, f.x1, f.x2, fun i hi => ⟨(f.lo i hi).1, Nat.le_trans (f.lo i hi).2 hs⟩, f.di, fun i hi => (f.ty i hi).keep hs (fun b h1 h2 h3 => hk b (by have := hE i hi; omega) h3), f.ap⟩
  obtain ⟨hl, h | ⟨g, cap, cur, rfl, hb', ho, h1, h2, h3, h4⟩⟩ := f.own
  · exact ⟨hl, .inl h⟩
  · exact ⟨hl, .inr ⟨g, cap, cur, rfl, hb', (hk g (hg g rfl) (Array.getElem?_eq_some_iff.1 ho).1).trans ho, h1, h2, h3, h4⟩⟩
theorem Gr.more {rs : List Ty} {B j : Nat} {w : World} {cv : Value} {xs : List Value} {vs : Nat → Value} {l h : Nat → Nat} (f : Gr rs B j w cv xs vs l h) (hj : j ≤ rs.length) (x : Ty) : Gr (rs ++ [x]) B j w cv xs vs l h := by
  have e : ∀ i, i < j → (rs ++ [x]).getD i Ty.dummy = rs.getD i Ty.dummy := fun i hi => by
    simp only [List.getD]; rw [List.getElem?_append_left (by omega)]
  exact ⟨f.own, fun i hi => by rw [e i hi]; exact f.x0 i hi, fun i hi => by rw [e i hi]; exact f.x1 i hi, f.x2, f.lo, f.di, fun i hi => by rw [e i hi]; exact f.ty i hi, f.ap⟩
theorem oc_all {w : World} {E : Nat} {k n : Int} {v : Value} (h : OC w E k n v) (k' n' : Int) (v' : Value) : OC (((w.setCell ⟨E, 0, none⟩ (.int .i64 k')).setCell ⟨E, 1, none⟩ (.int .i64 n')).setCell ⟨E, 2, none⟩ v') E k' n' v' := ((h.set0 k').set1 n').set2 v'
theorem undrew2 {w w' : World} {r : Option Nat} (h : w.drew.grownBy w' r) : w.grownBy w' r := ⟨h.os, h.tape, h.output, h.size, h.block⟩
theorem Gr.stepE {rs : List Ty} {B j : Nat} {w w1 w3 : World} {cv : Value} {xs : List Value} {vs : Nat → Value} {l h : Nat → Nat} (f : Gr rs B j w cv xs vs l h) (hB : B ≤ w.heap.size) {t : Ty} (ht : rs.getD j Ty.dummy = t) {v : Value} (hb : Below w.heap.size w w1) (hty : TyIn w1 w.heap.size w1.heap.size t v) {o : Obj} {g cap E : Nat} (hE : ∀ i, i < j → E < l i ∨ h i ≤ E) (hEw : E < w.heap.size)
    (hown : w3.ownsRow B 25 3 (.slice (some ⟨g, 0, none⟩) (j + 1) cap) (j + 1) (xs ++ [.int .i64 t.k, .int .i64 t.n, v])) (hgrow : (w1.alloc o).grownBy w3 cv.ownBlock) (hat : cv.ownBlock = some g ∨ g = w1.heap.size + 1) :
    ∃ xs' vs' l' h', Gr rs B (j + 1) w3 (.slice (some ⟨g, 0, none⟩) (j + 1) cap) xs' vs' l' h' ∧ ∀ i, i < j + 1 → E < l' i ∨ h' i ≤ E := by
  have hs1 := hb.size
  have hsA : (w1.alloc o).heap.size = w1.heap.size + 1 := by simp
  have hs3 : w1.heap.size + 1 ≤ w3.heap.size := by have := hgrow.size; omega
  have hlen := f.own.1
  have hold : ∀ b, b < w1.heap.size → some b ≠ cv.ownBlock → w3.heap[b]? = w1.heap[b]? := fun b h1 h2 =>
    (hgrow.block b (by omega) h2).trans (((Below.refl w1.heap.size w1).alloc (Nat.le_refl _) o).block b h1)
  refine ⟨xs ++ [.int .i64 t.k, .int .i64 t.n, v], fun i => if i = j then v else vs i, fun i => if i = j then w.heap.size else l i, fun i => if i = j then w1.heap.size else h i, ⟨hown, ?_, ?_, ?_, ?_, ?_, ?_, ?_⟩, ?_⟩
  · intro i hi
    by_cases hij : i = j
    · subst hij; rw [List.getElem?_append_right (by omega), ht, hlen]; simp
    · exact get_old (f.x0 i (by omega))
  · intro i hi
    by_cases hij : i = j
    · subst hij; rw [List.getElem?_append_right (by omega), ht, hlen]; simp
    · exact get_old (f.x1 i (by omega))
  · intro i hi
    by_cases hij : i = j
    · subst hij; rw [List.getElem?_append_right (by omega), hlen]; simp
    · simp only [hij, if_false]; exact get_old (f.x2 i (by omega))
  · intro i hi
    by_cases hij : i = j
    · simp only [hij, if_true]; omega
    · have := f.lo i (by omega); simp only [hij, if_false]; omega
  · intro i k hik hk
    have hij : i ≠ j := by omega
    by_cases hkj : k = j
    · have := f.lo i (by omega); simp only [hij, hkj, if_false, if_true]; omega
    · simp only [hij, hkj, if_false]; exact f.di i k hik (by omega)
  · intro i hi
    by_cases hij : i = j
    · subst hij
      simp only [if_true]
      rw [ht]
      exact hty.keep (by omega) (fun b h1 h2 h3 => hold b h3 (fun e => by have := (own_low f.own e.symm).2; omega))
    · simp only [hij, if_false]
      have hlo := f.lo i (by omega)
      exact (f.ty i (by omega)).keep (by omega) (fun b h1 h2 h3 => (hold b (by omega) (fun e => by have := f.ap b e.symm i (by omega); omega)).trans (hb.block b h3))
  · intro g' hg' i hi
    have e : g = g' := by simpa [Value.ownBlock] using hg'
    subst e
    rcases hat with hat | hat
    · have hgl := (own_low f.own hat).2
      by_cases hij : i = j
      · simp only [hij, if_true]; omega
      · simp only [hij, if_false]; exact f.ap g hat i (by omega)
    · by_cases hij : i = j
      · simp only [hij, if_true]; omega
      · have := f.lo i (by omega); simp only [hij, if_false]; omega
  · intro i hi
    by_cases hij : i = j
    · simp only [hij, if_true]; omega
    · have := hE i (by omega); simp only [hij, if_false]; exact this

set_option maxRecDepth 100000 in
set_option maxHeartbeats 8000000 in
theorem l2Mutate_any (t : Ty) (v : Value) (B : Nat) (a : Option Addr) (len cap : Nat) (zs : List Int) (p : Nat) (w : World) (P : Ty → Prop) (hP : ∀ t', nodes t' ≤ nodes t + 40 → P t') (q : Nat) (hqq : 2 ≤ q) (hn : nodes t ≤ 900000) (hx : TyAt w t v) (hr : Rd w B a len cap zs p) (hp : p + q ≤ 1000000) :
    Calls Try.prog 73 #[.pointer (some ⟨B, 0, none⟩), .agg #[.int .i64 t.k, .int .i64 t.n, v]] w (DkPost P w B a len cap zs p q) := by
  obtain ⟨av, cv, rfl, lv⟩ := hx.slice
  have HP := Lib.hid hP
  obtain ⟨BX, hBX⟩ : ∃ o, (.cells #[.int .i64 t.k, .int .i64 t.n, .slice av t.ks.length cv] 25 : Obj) = o := ⟨_, rfl⟩
  obtain ⟨w0, hw0⟩ : ∃ W, w.alloc BX = W := ⟨_, rfl⟩
  have HB0 : Hid (Below w.heap.size w w0) := Lib.hid (by rw [← hw0]; exact (Below.refl _ _).alloc (Nat.le_refl _) _)
  have hr0 : Rd w0 B a len cap zs p := by rw [← hw0]; exact hr.alloc _
  have hx0 := hx.kept HB0.out
  have hwz : w.heap.size + 1 = w0.heap.size := by rw [← hw0]; simp
  obtain ⟨W1, hW1⟩ : ∃ W, w0.alloc (.cells #[.int .i64 0, .int .i64 0, .slice none 0 0] 25) = W := ⟨_, rfl⟩
  obtain ⟨S, hS⟩ : ∃ S, w0.heap.size = S := ⟨_, rfl⟩
  have HD0 : Hid (DS w0 S B a len cap zs p W1) := Lib.hid (by rw [← hW1, ← hS]; exact ds_new hr0 _)
  have HX : Hid (TyAt W1 t (.slice av t.ks.length cv)) := Lib.hid (hx0.kept (by rw [← hW1]; exact (Below.refl _ _).alloc (Nat.le_refl _) _))
  rw [hS] at hwz
  have HW0 : Hid (w.alloc (.cells #[.int .i64 t.k, .int .i64 t.n, .slice av t.ks.length cv] 25) = w0) := Lib.hid (by rw [hBX]; exact hw0)
  have HW00 := Lib.hid hw0
  have HW1 := Lib.hid hW1
  have HS := Lib.hid hS
  have HN := Lib.hid hn
  obtain ⟨N, hN⟩ : ∃ N, nodes t = N := ⟨_, rfl⟩
  have HNN := Lib.hid hN
  rw [hN] at hn
  clear hr hx hW1 hP hr0 hx0 hw0 hBX hN
  have hLN : t.ks.length < N := by rw [← HNN.out]; exact nodes_len t
  go_enter Try.func73, Try.ntmps73
  go_wp2_with fail
  rw [HW0.out, HW1.out]
  clear hS
  go_at_call 114
  refine (l2Copy_gr t _ _ (by have := HN.out; omega) HX.out).mono ?_
  rintro e w1 ⟨cw, xs, vs, l, h, rfl, hgr, hb⟩
  have HD1 := Lib.hid (HD0.out.below hb)
  have HG1 := Lib.hid (hgr.under (show S + 1 ≤ W1.heap.size from HD0.out.sz))
  have hz1 := HD1.out.sz
  clear hgr hb
  obtain ⟨ca, cc, rfl⟩ : ∃ ca cc, cw = .slice ca t.ks.length cc := by
    obtain ⟨_, ⟨h1, h2⟩ | ⟨g, cap2, cur, h1, _⟩⟩ := HG1.out.own
    · exact ⟨none, 0, by rw [h1, h2]⟩
    · exact ⟨_, _, h1⟩
  obtain ⟨W2, hW2⟩ : ∃ W, w1.alloc (.cells #[.int .i64 t.k, .int .i64 t.n, .slice ca t.ks.length cc] 25) = W := ⟨_, rfl⟩
  obtain ⟨E, hE⟩ : ∃ E, w1.heap.size = E := ⟨_, rfl⟩
  have HEE := Lib.hid hE
  have HO2 : Hid (OC W2 E t.k t.n (.slice ca t.ks.length cc)) := Lib.hid (by rw [← hW2, ← hE]; exact oc_new _ _ _ _ _)
  have HD2 : Hid (DS w0 S B a len cap zs p W2) := Lib.hid (by rw [← hW2]; exact HD1.out.alloc _)
  have HG2 : Hid (Gr t.ks (S + 1) t.ks.length W2 (.slice ca t.ks.length cc) xs vs l h) := Lib.hid (by rw [← hW2]; exact HG1.out.kept ((Below.refl _ _).alloc (Nat.le_refl _) _))
  have hSE : S < E := by omega
  have hBE : B < E := by have := HD2.out.lt; omega
  have hBS : B < S := HD2.out.lt
  have HW2 := Lib.hid hW2
  have hrow : ∀ g, (Value.slice ca t.ks.length cc).ownBlock = some g → S + 1 ≤ g ∧ g < E := fun g e => by have := own_low HG1.out.own e; omega
  have HROW := Lib.hid hrow
  have HU : Hid (∀ i, i < t.ks.length → E < l i ∨ h i ≤ E) := Lib.hid (fun i hi => .inr (by have := (HG1.out.lo i hi).2; omega))
  clear hW2 hrow
  go_wp2_with fail
  rw [HW2.out]
  clear hE
  go_at_call 80
  refine (pick_any B a len cap zs p 50 _ HD2.out.rd (by omega) (by omega) (by omega)).mono ?_
  rintro e w3 ⟨x, hx, rfl, k3, hk3⟩
  have HD3 := Lib.hid (HD2.out.pick hk3)
  have HPK := Lib.hid (Dw.pick (B := B) hk3)
  have HO3 := Lib.hid (HO2.out.dw hBE (Dw.pick (B := B) hk3))
  have HG3 := Lib.hid (HG2.out.dw (B0 := B) (by omega) (Dw.pick hk3))
  clear hk3
  have HG3T := Lib.hid (fun k n => HG3.out.done k n (by omega))
  by_cases h0 : x = 0
  · subst h0
    go_wp2_with fail
    have hb3 := HD3.out.rd.big
    have HDc := Lib.hid (HD3.out.alloc (.cells #[.int .i64 0, .int .i64 5, .int .i64 1, .int .i64 4] 3))
    have HOc := Lib.hid (HO3.out.kept ((Below.refl _ _).alloc (Nat.le_refl _) (.cells #[.int .i64 0, .int .i64 5, .int .i64 1, .int .i64 4] 3)))
    have HGc := Lib.hid (HG3.out.kept ((Below.refl _ _).alloc (Nat.le_refl _) (.cells #[.int .i64 0, .int .i64 5, .int .i64 1, .int .i64 4] 3)))
    go_at_call 83
    refine (num_any B a len cap zs _ _ HDc.out.rd (by omega) _ 4 4 (0) 5 (by omega) (by omega) (by omega) (intRow_new _ _ _ 4 (0) 5 rfl (by decide +kernel))).mono ?_
    rintro e w4 ⟨u, hu, rfl, k4, hk4⟩
    have HD4 := Lib.hid (HDc.out.pick hk4)
    have HO4 := Lib.hid (HOc.out.dw hBE (Dw.pick (B := B) hk4))
    have HG4 := Lib.hid (HGc.out.dw (B0 := B) (by omega) (Dw.pick hk4))
    clear hk4 hu
    have HD5 := Lib.hid (HD4.out.setNew hSE 0 (.int .i64 u))
    have HO5 := Lib.hid (HO4.out.set0 u)
    have HG5 := Lib.hid (HG4.out.keepE (w' := w4.setCell ⟨E, 0, none⟩ (.int .i64 u)) HU.out (fun g e => by have := (HROW.out g e).2; omega) (by simp) (fun b hb _ => heap_setCell_other _ ⟨E, 0, none⟩ b _ hb))
    have HGT := Lib.hid (HG5.out.done u t.n (by omega))
    have HPT := Lib.hid (HP.out (.node u t.n t.ks) (by rw [nodes_same, HNN.out]; omega))
    obtain ⟨q0, q1, q2, qf0, qf1, qf2, qz⟩ := HO4.out
    obtain ⟨p0, p1, p2, f0, f1, f2, psz⟩ := HD5.out.rb
    obtain ⟨o0, o1, o2, of0, of1, of2, oz⟩ := HO5.out
    go_wp2_with fail
    exact bodyPost_ret (v := .agg #[.int .i64 u, .int .i64 t.n, .slice ca t.ks.length cc]) (by simp [results, Try.results73, go_sem, p0, p1, p2]) rfl (DkPost.low (o := BX) (by rw [HW00.out]; exact ⟨_, _, 2, HPT.out, by omega, rfl, (HD5.out.doneN ((HGT.out).toN (E := 0) (Nat.le_refl _) (.inr (Nat.succ_pos _))) (Nat.le_refl _) _ _ _).1, (HD5.out.doneN ((HGT.out).toN (E := 0) (Nat.le_refl _) (.inr (Nat.succ_pos _))) (Nat.le_refl _) _ _ _).2.1, (HD5.out.doneN ((HGT.out).toN (E := 0) (Nat.le_refl _) (.inr (Nat.succ_pos _))) (Nat.le_refl _) _ _ _).2.2⟩))
  by_cases h1 : x = 1
  · subst h1
    go_wp2_with fail
    have hb3 := HD3.out.rd.big
    have HDc := Lib.hid (HD3.out.alloc (.cells #[.int .i64 26, .int .i64 (-1), .int .i64 1] 3))
    have HOc := Lib.hid (HO3.out.kept ((Below.refl _ _).alloc (Nat.le_refl _) (.cells #[.int .i64 26, .int .i64 (-1), .int .i64 1] 3)))
    have HGc := Lib.hid (HG3.out.kept ((Below.refl _ _).alloc (Nat.le_refl _) (.cells #[.int .i64 26, .int .i64 (-1), .int .i64 1] 3)))
    go_at_call 83
    refine (num_any B a len cap zs _ _ HDc.out.rd (by omega) _ 3 3 (-1) 26 (by omega) (by omega) (by omega) (intRow_new _ _ _ 3 (-1) 26 rfl (by decide +kernel))).mono ?_
    rintro e w4 ⟨u, hu, rfl, k4, hk4⟩
    have HD4 := Lib.hid (HDc.out.pick hk4)
    have HO4 := Lib.hid (HOc.out.dw hBE (Dw.pick (B := B) hk4))
    have HG4 := Lib.hid (HGc.out.dw (B0 := B) (by omega) (Dw.pick hk4))
    clear hk4 hu
    have HD5 := Lib.hid (HD4.out.setNew hSE 1 (.int .i64 u))
    have HO5 := Lib.hid (HO4.out.set1 u)
    have HG5 := Lib.hid (HG4.out.keepE (w' := w4.setCell ⟨E, 1, none⟩ (.int .i64 u)) HU.out (fun g e => by have := (HROW.out g e).2; omega) (by simp) (fun b hb _ => heap_setCell_other _ ⟨E, 1, none⟩ b _ hb))
    have HGT := Lib.hid (HG5.out.done t.k u (by omega))
    have HPT := Lib.hid (HP.out (.node t.k u t.ks) (by rw [nodes_same, HNN.out]; omega))
    obtain ⟨q0, q1, q2, qf0, qf1, qf2, qz⟩ := HO4.out
    obtain ⟨p0, p1, p2, f0, f1, f2, psz⟩ := HD5.out.rb
    obtain ⟨o0, o1, o2, of0, of1, of2, oz⟩ := HO5.out
    go_wp2_with fail
    exact bodyPost_ret (v := .agg #[.int .i64 t.k, .int .i64 u, .slice ca t.ks.length cc]) (by simp [results, Try.results73, go_sem, p0, p1, p2]) rfl (DkPost.low (o := BX) (by rw [HW00.out]; exact ⟨_, _, 2, HPT.out, by omega, rfl, (HD5.out.doneN ((HGT.out).toN (E := 0) (Nat.le_refl _) (.inr (Nat.succ_pos _))) (Nat.le_refl _) _ _ _).1, (HD5.out.doneN ((HGT.out).toN (E := 0) (Nat.le_refl _) (.inr (Nat.succ_pos _))) (Nat.le_refl _) _ _ _).2.1, (HD5.out.doneN ((HGT.out).toN (E := 0) (Nat.le_refl _) (.inr (Nat.succ_pos _))) (Nat.le_refl _) _ _ _).2.2⟩))
  by_cases h2 : x = 2
  · subst h2
    obtain ⟨i0, hi0, hz0, hz1, hz2⟩ := info_parts infoTy
    have h63 : t.ks.length + 1 ≤ maxLen := by unfold maxLen; omega
    have hby : (t.ks.length + 1) * 40 ≤ 140737488355328 := by omega
    have hw3 : E < w3.heap.size := HO3.out.sz
    obtain ⟨q0, q1, q2, qf0, qf1, qf2, qz⟩ := HO3.out
    have hnE : ∀ g, (Value.slice ca t.ks.length cc).ownBlock = some g → E ≠ g := fun g e => by have := (HROW.out g e).2; omega
    have HNE := Lib.hid hnE
    clear hnE
    go_wp2_with fail
    go_region_law (first
      | (refine step_append_lies _ (by rfl) _ _ _ (by rfl) (S + 1) 25 i0 _ 3 40 Try.underlying23 hi0 hz0 hz1 hz2 rfl (by omega) (.slice ca t.ks.length cc) t.ks.length xs (by rfl) (by first | exact HOWN4.out.alloc _ | exact (HOWN4.out.alloc _).drew) ⟨w4.heap.size, 0, none⟩ 1 1 [.int .i64 1, .int .i64 0, .slice a4 0 k4] (by rfl) (by rfl) (World.news_of_block (cs := #[.int .i64 1, .int .i64 0, .slice a4 0 k4]) (t := 25) (fr := (0, 0)) (heap_alloc_new w4 _)) (by simp [Value.oneCell']) (by omega) h63 hby (by first | exact hbase4 _ | exact hbase5 _) (w4.heap.size + 1) (by simp) ?_; intro g6 cap6 w6 hown6 hgrow6 hat6 hltg6; have hgr6 := (by first | exact hgrow6 | exact undrew2 hgrow6 : (w4.alloc (.cells #[.int .i64 1, .int .i64 0, .slice a4 0 k4] 25)).grownBy w6 (Value.slice ca t.ks.length cc).ownBlock); obtain ⟨xs6, vs6, l6, h6, hG6, hE6⟩ := (HG3.out.more (Nat.le_refl _) (.node 1 0 [])).stepE (by omega) (t := .node 1 0 []) (by simp [List.getD]) HB4.out (v := .slice a4 0 k4) (.bare _ _ _ _ _ _) HU.out hw3 hown6 hgr6 hat6; have HG6 := Lib.hid hG6; have HE6 := Lib.hid hE6; have HD6 := Lib.hid (HD4.out.grow hgr6 (fun g e => (HROW.out g e).1)); have HO6 := Lib.hid (HO4.out.keep (by have := grow_size hgr6; omega) (grow_old hgr6 (q := E) (by omega) HNE.out)); have HA6 : Hid (g6 ≠ E) := Lib.hid (by rcases hat6 with h | h; exact fun e => HNE.out g6 h e.symm; omega); obtain ⟨s0, s1, s2, sf0, sf1, sf2, sz⟩ := HO6.out; clear hown6 hgrow6 hat6 hG6 hE6 hgr6)
      | (go_simp; go_at_call 84; refine (l2Num_flat _).mono ?_; rintro e w4 ⟨a4, k4, rfl, hb4⟩; have hb4' : Below w3.heap.size w3 w4 := Below.trans (B := w3.heap.size) (by first | exact Below.refl _ _ | exact (Below.refl _ _).drew) hb4; have HB4 := Lib.hid hb4'; have HOWN4 := Lib.hid (own_below HG3.out.own hb4'); have HD4 := Lib.hid (HD3.out.below hb4'); have HO4 := Lib.hid (HO3.out.kept hb4'); have hs4 : w3.heap.size ≤ w4.heap.size := hb4'.size; have hbase4 : ∀ o, S + 1 ≤ (w4.alloc o).heap.size := (fun o => by simp; omega); have hbase5 : ∀ o, S + 1 ≤ (w4.alloc o).drew.heap.size := (fun o => by simp; omega); obtain ⟨r0, r1, r2, rf0, rf1, rf2, rz⟩ := HO4.out; clear hb4 hb4'))
    all_goals
      have HD7 := Lib.hid (HD6.out.setNew hSE 2 (.slice (some ⟨g6, 0, none⟩) (t.ks.length + 1) cap6))
      have HO7 := Lib.hid (HO6.out.set2 (.slice (some ⟨g6, 0, none⟩) (t.ks.length + 1) cap6))
      have HG7 := Lib.hid (HG6.out.keepE (w' := w6.setCell ⟨E, 2, none⟩ (.slice (some ⟨g6, 0, none⟩) (t.ks.length + 1) cap6)) HE6.out (fun g e => by have e2 : g6 = g := (by simpa [Value.ownBlock] using e); have := HA6.out; omega) (by simp) (fun b hb _ => heap_setCell_other _ ⟨E, 2, none⟩ b _ hb))
      have hlen : t.ks.length + 1 = (t.ks ++ [Ty.node 1 0 []]).length := by simp
      have HGT : Hid (TyIn (w6.setCell ⟨E, 2, none⟩ (.slice (some ⟨g6, 0, none⟩) (t.ks.length + 1) cap6)) (S + 1) (w6.setCell ⟨E, 2, none⟩ (.slice (some ⟨g6, 0, none⟩) (t.ks.length + 1) cap6)).heap.size (.node t.k t.n (t.ks ++ [Ty.node 1 0 []])) (.slice (some ⟨g6, 0, none⟩) (t.ks.length + 1) cap6)) := Lib.hid (by
        have h := HG7.out
        obtain ⟨V, hV⟩ : ∃ V, (.slice (some ⟨g6, 0, none⟩) (t.ks.length + 1) cap6 : Value) = V := ⟨_, rfl⟩
        rw [hV] at h ⊢
        rw [hlen] at h
        exact h.done t.k t.n (by simp; omega))
      clear hlen
      have HPT := Lib.hid (HP.out (.node t.k t.n (t.ks ++ [.node 1 0 []])) (by rw [nodes_more, HNN.out]; omega))
      obtain ⟨p0, p1, p2, f0, f1, f2, psz⟩ := HD7.out.rb
      obtain ⟨o0, o1, o2, of0, of1, of2, oz⟩ := HO7.out
      go_wp2_with fail
      exact bodyPost_ret (v := .agg #[.int .i64 t.k, .int .i64 t.n, .slice (some ⟨g6, 0, none⟩) (t.ks.length + 1) cap6]) (by simp [results, Try.results73, go_sem, p0, p1, p2]) rfl (DkPost.low (o := BX) (by rw [HW00.out]; exact ⟨_, _, 1, HPT.out, by omega, rfl, (HD7.out.doneN ((HGT.out).toN (E := 0) (Nat.le_refl _) (.inr (Nat.succ_pos _))) (Nat.le_refl _) _ _ _).1, (HD7.out.doneN ((HGT.out).toN (E := 0) (Nat.le_refl _) (.inr (Nat.succ_pos _))) (Nat.le_refl _) _ _ _).2.1, (HD7.out.doneN ((HGT.out).toN (E := 0) (Nat.le_refl _) (.inr (Nat.succ_pos _))) (Nat.le_refl _) _ _ _).2.2⟩))
  by_cases h3 : x = 3
  · subst h3
    have HTT : Hid (TyN W2 (S + 1) E (.node t.k t.n t.ks) (.slice ca t.ks.length cc)) := Lib.hid (by
      rw [← HW2.out]
      exact ((HG1.out.done t.k t.n (by omega)).toN (E := E) (Nat.le_refl _) (.inl (by rw [HEE.out]; exact Nat.le_refl _))).kept ((Below.refl _ _).alloc (Nat.le_refl _) _))
    have HT3 : Hid (TyN w3 (S + 1) E (.node t.k t.n t.ks) (.slice ca t.ks.length cc)) := Lib.hid (HTT.out.keep HPK.out.size (fun b h1 _ h3 => HPK.out.block b h3 (by simp; omega)))
    obtain ⟨q0, q1, q2, qf0, qf1, qf2, qz⟩ := HO3.out
    go_wp2_with fail
    go_loopw [6] (fun i wr => ∃ (j : Nat) (T : Ty) (ar : Option Addr) (c : Nat), j ≤ 16 ∧ i = .int .i64 j ∧ Hid (nodes T ≤ N + 2 * j) ∧ Hid (OC wr E T.k T.n (.slice ar T.ks.length c)) ∧ Hid (TyN wr (S + 1) E T (.slice ar T.ks.length c)) ∧ Hid (DS w0 S B a len cap zs (p + 1) wr)) (fun i _ => 16 - (intOf i).toNat)
    case atStart => exact ⟨0, .node t.k t.n t.ks, ca, cc, by omega, rfl, Lib.hid (by rw [nodes_same, HNN.out]; omega), HO3, HT3, HD3⟩
    case round =>
      obtain ⟨j, T, ar, c, hj, rfl, HM, HO5, HT5, HD5⟩ := hrel
      by_cases hlt : j < 16
      · have hji : (j : Int) < 16 := by omega
        have hwE := HO5.out.sz
        have hwS := HD5.out.sz
        obtain ⟨s0, s1, s2, sf0, sf1, sf2, sz⟩ := HO5.out
        go_wp2_with fail
        go_region_law (first
          | (go_simp; go_at_call 87; have hgd := HN6; clear hgd; refine (l2Node_n 3 T (.node 1 0 []) (.slice ar T.ks.length c) (.slice a6 0 k6) (S + 1) E _ (by first | exact HT6.out | exact HT6.out.kept (by first | exact Below.refl _ _ | exact (Below.refl _ _).drew)) (.bare _ _ _ _) (by first | exact hE6 | simpa using hE6) (by first | exact hS6 | simpa using hS6)).mono ?_; rintro e w7 ⟨a7, rfl, hT7, hb7⟩; have hb7' : Below w6.heap.size w6 w7 := Below.trans (B := w6.heap.size) (by first | exact Below.refl _ _ | exact (Below.refl _ _).drew) hb7; have HT7 := Lib.hid hT7; have HD7 := Lib.hid (HD6.out.below hb7'); have HO7 := Lib.hid (HO6.out.kept hb7'); obtain ⟨u0, u1, u2, uf0, uf1, uf2, uz⟩ := HO7.out; clear hb7 hb7' hT7)
          | (go_simp; go_at_call 84; refine (l2Num_flat _).mono ?_; rintro e w6 ⟨a6, k6, rfl, hb6⟩; have hb6' : Below wr.heap.size wr w6 := Below.trans (B := wr.heap.size) (by first | exact Below.refl _ _ | exact (Below.refl _ _).drew) hb6; have HN6 := Lib.hid trivial; have HT6 := Lib.hid (HT5.out.kept hb6'); have HD6 := Lib.hid (HD5.out.below hb6'); have HO6 := Lib.hid (HO5.out.kept hb6'); have hE6 : E < w6.heap.size := HO6.out.sz; have hS6 : S + 1 ≤ w6.heap.size := HD6.out.sz; obtain ⟨r0, r1, r2, rf0, rf1, rf2, rz⟩ := HO6.out; clear hb6 hb6'))
        all_goals go_wp2_with fail
        all_goals go_roundw
        all_goals first
          | exact ⟨j + 1, .node 3 0 [T, .node 1 0 []], a7, 2, by omega, by go_num, Lib.hid (by rw [nodes_two]; have := HM.out; simp [nodes, nodesL]; omega), Lib.hid (oc_all HO7.out _ _ _), Lib.hid (HT7.out.keep (by simp) (fun b _ h2 _ => heap_res h2)), Lib.hid (((HD7.out.setNew hSE 0 _).setNew hSE 1 _).setNew hSE 2 _)⟩
          | (simp [intOf]; omega)
      · obtain rfl : j = 16 := by omega
        have hji : ¬ ((16 : Nat) : Int) < 16 := by omega
        have HPT := Lib.hid (HP.out T (by have := HM.out; rw [HNN.out]; omega))
        obtain ⟨p0, p1, p2, f0, f1, f2, psz⟩ := HD5.out.rb
        obtain ⟨o0, o1, o2, of0, of1, of2, oz⟩ := HO5.out
        go_wp2_with fail
        exact bodyPost_ret (v := .agg #[.int .i64 T.k, .int .i64 T.n, .slice ar T.ks.length c]) (by simp [results, Try.results73, go_sem, p0, p1, p2]) rfl (DkPost.low (o := BX) (by rw [HW00.out]; exact ⟨_, _, 1, HPT.out, by omega, rfl, (HD5.out.doneN HT5.out (Nat.le_refl _) _ _ _).1, (HD5.out.doneN HT5.out (Nat.le_refl _) _ _ _).2.1, (HD5.out.doneN HT5.out (Nat.le_refl _) _ _ _).2.2⟩))
  · have e0 : ((x : Int) == 0) = false := by rw [beq_eq_false_iff_ne]; omega
    have e1 : ((x : Int) == 1) = false := by rw [beq_eq_false_iff_ne]; omega
    have e2 : ((x : Int) == 2) = false := by rw [beq_eq_false_iff_ne]; omega
    have e3 : ((x : Int) == 3) = false := by rw [beq_eq_false_iff_ne]; omega
    have HPT := Lib.hid (HP.out (.node t.k t.n t.ks) (by rw [nodes_same, HNN.out]; omega))
    obtain ⟨p0, p1, p2, f0, f1, f2, psz⟩ := HD3.out.rb
    obtain ⟨o0, o1, o2, of0, of1, of2, oz⟩ := HO3.out
    go_wp2_with fail
    exact bodyPost_ret (v := .agg #[.int .i64 t.k, .int .i64 t.n, .slice ca t.ks.length cc]) (by simp [results, Try.results73, go_sem, p0, p1, p2]) rfl (DkPost.low (o := BX) (by rw [HW00.out]; exact ⟨_, _, 1, HPT.out, by omega, rfl, (HD3.out.doneN ((HG3T.out t.k t.n).toN (E := 0) (Nat.le_refl _) (.inr (Nat.succ_pos _))) (Nat.le_refl _) _ _ _).1, (HD3.out.doneN ((HG3T.out t.k t.n).toN (E := 0) (Nat.le_refl _) (.inr (Nat.succ_pos _))) (Nat.le_refl _) _ _ _).2.1, (HD3.out.doneN ((HG3T.out t.k t.n).toN (E := 0) (Nat.le_refl _) (.inr (Nat.succ_pos _))) (Nat.le_refl _) _ _ _).2.2⟩))

end Go.Proofs.Ytndpoejohpmifaa

namespace Go.Proofs.Ytndpoejohpmifaa
open Go.RowKit
set_option linter.unusedVariables false
set_option linter.unusedSimpArgs false
theorem TyN.dw {w w' : World} {lo E B : Nat} {t : Ty} {v : Value} (h : TyN w lo E t v) (hB : B < lo) (hd : Dw B w w') : TyN w' lo E t v :=
  h.keep hd.size (fun b h1 _ h3 => hd.block b h3 (by simp; omega))
/-- Where the draw of an argument stands: its reader, its results' cells, still empty. -/
structure QS (w : World) (S B : Nat) (a : Option Addr) (len cap : Nat) (zs : List Int) (p : Nat) (W : World) : Prop where
  rd : Rd W B a len cap zs p
  bl : Below S w W
  r1 : RB W S
  lt : S + 2 ≤ B
  eq : w.heap.size = S
theorem QS.step {w : World} {S B : Nat} {a : Option Addr} {len cap : Nat} {zs : List Int} {p p' : Nat} {W W' : World} (h : QS w S B a len cap zs p W) (hd : Dw B W W') (hr : Rd W' B a len cap zs p') : QS w S B a len cap zs p' W' := by
  have hl := h.lt
  have hb := h.rd.big
  exact ⟨hr, h.bl.trans (hd.below (by omega) (by omega)), h.r1.keep hd.size (hd.block S h.r1.sz (by simp; omega)), h.lt, h.eq⟩
theorem QS.r1step {w : World} {S B : Nat} {a : Option Addr} {len cap : Nat} {zs : List Int} {p : Nat} {W0 W W' : World} (h : QS w S B a len cap zs p W0) {R : Nat} (hr : RB W R) (hR : R < B) (hd : Dw B W W') : RB W' R :=
  hr.keep hd.size (hd.block R hr.sz (by simp; omega))
theorem TBox.dw {w w' : World} {B T : Nat} {x y z : Value} (h : TBox w T x y z) (hB : B < T) (hd : Dw B w w') : TBox w' T x y z := by
  have e := hd.block T h.sz (by simp; omega)
  exact ⟨(cellEq e).trans h.c0, (cellEq e).trans h.c1, (cellEq e).trans h.c2, Nat.lt_of_lt_of_le h.sz hd.size⟩
theorem rest_ty {W : World} {t : Ty} {v : Value} {lo E S : Nat} (ht : TyN W lo E t v) (hlo : S < lo) (x y z : Value) : TyN (((W.setCell ⟨S, 0, none⟩ x).setCell ⟨S, 1, none⟩ y).setCell ⟨S, 2, none⟩ z) lo E t v :=
  ht.keep (by simp) (fun b h1 _ _ => heap_res (by omega))
theorem rest_bl {w W : World} {S R : Nat} (h : Below S w W) (hR : S ≤ R) (x y z : Value) : Below S w (((W.setCell ⟨R, 0, none⟩ x).setCell ⟨R, 1, none⟩ y).setCell ⟨R, 2, none⟩ z) :=
  ((h.setCell (p := ⟨R, 0, none⟩) hR x).setCell (p := ⟨R, 1, none⟩) hR y).setCell (p := ⟨R, 2, none⟩) hR z
theorem rest_rb {W : World} {R S : Nat} (h : RB W R) (hne : R ≠ S) (x y z : Value) : RB (((W.setCell ⟨S, 0, none⟩ x).setCell ⟨S, 1, none⟩ y).setCell ⟨S, 2, none⟩ z) R :=
  h.keep (by simp) (heap_res hne)
def TwoPost (w : World) (e : Ending) (w' : World) : Prop := ∃ (x y : Ty) (vx vy : Value), nodes x ≤ 300 ∧ nodes y ≤ 300 ∧ e = .returned (.tuple #[.agg #[.int .i64 x.k, .int .i64 x.n, vx], .agg #[.int .i64 y.k, .int .i64 y.n, vy]]) ∧ TyOk w' x vx ∧ TyOk w' y vy ∧ Below w.heap.size w w'
def OnePost (w : World) (e : Ending) (w' : World) : Prop := ∃ (x : Ty) (vx : Value), nodes x ≤ 300 ∧ e = .returned (.agg #[.int .i64 x.k, .int .i64 x.n, vx]) ∧ TyOk w' x vx ∧ Below w.heap.size w w'
def OneN (w : World) (e : Ending) (w' : World) : Prop := ∃ (x : Ty) (vx : Value), nodes x ≤ 300 ∧ e = .returned (.agg #[.int .i64 x.k, .int .i64 x.n, vx]) ∧ TyN w' w.heap.size 0 x vx ∧ Below w.heap.size w w'
theorem nodes5 {t : Ty} (h : shp 5 t = true) : nodes t ≤ 40 := by
  have := nodes_shp 5 t h
  have e : (2 : Nat) ^ 5 = 32 := by decide
  omega
set_option maxRecDepth 100000 in
set_option maxHeartbeats 8000000 in
theorem drawTypeValidN_any (a : Option Addr) (len cap : Nat) (zs : List Int) (w : World) (h : IsRow w a len cap zs) :
    Calls Try.prog 38 #[.slice a len cap] w (OneN w) := by
  obtain ⟨W1, hW1⟩ : ∃ W, w.alloc (.cells #[.int .i64 0, .int .i64 0, .slice none 0 0] 25) = W := ⟨_, rfl⟩
  obtain ⟨S, hS⟩ : ∃ S, w.heap.size = S := ⟨_, rfl⟩
  have hb1 : Below S w W1 := by rw [← hW1, ← hS]; exact (Below.refl _ _).alloc (Nat.le_refl _) _
  have HB1 := Lib.hid hb1
  have HI : Hid (IsRow W1 a len cap zs) := Lib.hid (h.kept (by rw [hS]; exact hb1))
  have HR1 : Hid (RB W1 S) := Lib.hid (by rw [← hW1, ← hS]; exact rb_new w _)
  have hz1 : W1.heap.size = S + 1 := by rw [← hW1, ← hS]; simp
  have HZ1 := Lib.hid hz1
  have HW1 := Lib.hid hW1
  have HS := Lib.hid hS
  clear h hb1 hW1 hz1
  go_enter Try.func38, Try.ntmps38
  go_wp2_with fail
  rw [HW1.out]
  clear hS
  go_at_call 48
  refine (l16Open_any a len cap zs _ HI.out).mono ?_
  rintro e w1 ⟨ln, cp, rfl, hr, hb⟩
  obtain ⟨B, hB⟩ : ∃ B, W1.heap.size = B := ⟨_, rfl⟩
  rw [hB] at hr ⊢
  have hBS : S + 1 ≤ B := by rw [← hB, HZ1.out]; exact Nat.le_refl _
  have HRD1 := Lib.hid hr
  have HBL1 : Hid (Below S w w1) := Lib.hid (HB1.out.trans (hb.mono (by omega)))
  have HRB1 : Hid (RB w1 S) := Lib.hid (HR1.out.kept hb)
  have hb1 : B < w1.heap.size := hr.big
  clear hr hb hB
  go_wp2_with fail
  go_at_call 50
  refine (l2Some_any B a ln cp zs 0 _ (fun t => nodes t ≤ 40) (fun t h => nodes5 h) 100 (Nat.le_refl _) HRD1.out (by omega)).mono ?_
  rintro e w2 ⟨x, vx, r, hnx, hr, rfl, hty, hd, hrd⟩
  have HNX := Lib.hid hnx
  have HTX := Lib.hid (hty.toN (E := 0) (Nat.le_refl _) (.inr (by omega)))
  have HRD2 := Lib.hid hrd
  have HBL2 : Hid (Below S w w2) := Lib.hid (HBL1.out.trans (hd.below (by omega) (by omega)))
  have HRB2 : Hid (RB w2 S) := Lib.hid (HRB1.out.keep hd.size (hd.block S HRB1.out.sz (by simp; omega)))
  obtain ⟨ax, cx, rfl, _⟩ := hty.at.slice
  have HZ2 := Lib.hid hd.size
  clear hty hd hrd hnx
  go_wp2_with fail
  go_at_call 73
  refine (l2Mutate_any x _ B a ln cp zs _ _ (fun t => nodes t ≤ 80) (fun t h => by have := HNX.out; omega) 2 (Nat.le_refl _) (by have := HNX.out; omega) HTX.out.ok.at HRD2.out (by omega)).mono ?_
  rintro e w5 ⟨z, vz, r3, hnz, hr3, rfl, htz, hd, hrd⟩
  have HNZ := Lib.hid hnz
  have HTZ := Lib.hid htz
  have HBL5 : Hid (Below S w w5) := Lib.hid (HBL2.out.trans (hd.below (by omega) (by have := HZ2.out; omega)))
  have HRB5 : Hid (RB w5 S) := Lib.hid (HRB2.out.keep hd.size (hd.block S HRB2.out.sz (by simp; omega)))
  obtain ⟨az, cz, rfl, _⟩ := htz.ok.at.slice
  clear htz hd hrd hnz
  obtain ⟨p0, p1, p2, f0, f1, f2, psz⟩ := HRB5.out
  have hSx : S < w2.heap.size := by have := HZ2.out; omega
  go_wp2_with fail
  refine bodyPost_ret (v := .agg #[.int .i64 z.k, .int .i64 z.n, .slice az z.ks.length cz]) (by simp [results, Try.results38, go_sem, p0, p1, p2]) rfl ⟨z, _, by have := HNZ.out; omega, rfl, ((rest_ty HTZ.out hSx _ _ _).low (by have := HBL2.out.size; omega)), ?_⟩
  rw [HS.out]
  exact rest_bl HBL5.out (Nat.le_refl _) _ _ _
set_option maxRecDepth 100000 in
set_option maxHeartbeats 4000000 in
theorem drawCanonType_any (a : Option Addr) (len cap : Nat) (zs : List Int) (w : World) (h : IsRow w a len cap zs) :
    Calls Try.prog 24 #[.slice a len cap] w (OnePost w) := by
  obtain ⟨W1, hW1⟩ : ∃ W, w.alloc (.cells #[.int .i64 0, .int .i64 0, .slice none 0 0] 25) = W := ⟨_, rfl⟩
  obtain ⟨S, hS⟩ : ∃ S, w.heap.size = S := ⟨_, rfl⟩
  have hb1 : Below S w W1 := by rw [← hW1, ← hS]; exact (Below.refl _ _).alloc (Nat.le_refl _) _
  have HB1 := Lib.hid hb1
  have HI : Hid (IsRow W1 a len cap zs) := Lib.hid (h.kept (by rw [hS]; exact hb1))
  have HR1 : Hid (RB W1 S) := Lib.hid (by rw [← hW1, ← hS]; exact rb_new w _)
  have HW1 := Lib.hid hW1
  have HS := Lib.hid hS
  clear h hb1 hW1
  go_enter Try.func24, Try.ntmps24
  go_wp2_with fail
  rw [HW1.out]
  clear hS
  go_at_call 38
  refine (drawTypeValidN_any a len cap zs _ HI.out).mono ?_
  rintro e w5 ⟨z, vz, hnz, rfl, htz, hb⟩
  have HNZ := Lib.hid hnz
  have HTZ := Lib.hid htz
  have hsW : S < W1.heap.size := HR1.out.sz
  have HBL5 : Hid (Below S w w5) := Lib.hid (HB1.out.trans (hb.mono (by omega)))
  have HRB5 : Hid (RB w5 S) := Lib.hid (HR1.out.kept hb)
  obtain ⟨az, cz, rfl, _⟩ := htz.ok.at.slice
  clear htz hb hnz
  obtain ⟨p0, p1, p2, f0, f1, f2, psz⟩ := HRB5.out
  go_wp2_with fail
  refine bodyPost_ret (v := .agg #[.int .i64 z.k, .int .i64 z.n, .slice az z.ks.length cz]) (by simp [results, Try.results24, go_sem, p0, p1, p2]) rfl ⟨z, _, by have := HNZ.out; omega, rfl, (rest_ty HTZ.out hsW _ _ _).ok, ?_⟩
  rw [HS.out]
  exact rest_bl HBL5.out (Nat.le_refl _) _ _ _

end Go.Proofs.Ytndpoejohpmifaa

