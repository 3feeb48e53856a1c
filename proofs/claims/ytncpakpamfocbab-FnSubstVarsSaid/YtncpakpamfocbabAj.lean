/-
  l2Renamed of the model at a variable, and so at every well-formed type.
-/
import Derived.Test.YtncpakpamfocbabAi
import Derived.Test.YtncpakpamfocbabZk
import Derived.Test.YtncpakpamfocbabZn
namespace Go.Proofs.Ytncpakpamfocbab
open Go.RowKit
set_option linter.unusedVariables false
set_option linter.unusedSimpArgs false

/-- The last place of a number among the first j of a list, or 0. -/
def lx (vs : List Int) (n : Int) : Nat → Int
  | 0 => 0
  | j + 1 => if vs.getD j 0 = n then (j : Int) else lx vs n j
theorem lx_yes {vs : List Int} {n : Int} {j : Nat} (h : vs.getD j 0 = n) : lx vs n (j + 1) = j := by rw [lx, if_pos h]
theorem lx_no {vs : List Int} {n : Int} {j : Nat} (h : vs.getD j 0 ≠ n) : lx vs n (j + 1) = lx vs n j := by rw [lx, if_neg h]
theorem lx_le (vs : List Int) (n : Int) : ∀ j, 0 ≤ lx vs n j ∧ lx vs n j ≤ j
  | 0 => by simp [lx]
  | j + 1 => by
    have := lx_le vs n j
    rw [lx]; split <;> omega
/-- The box of a type whose number turns. -/
structure ON (w : World) (B : Nat) (k n : Int) : Prop where
  c0 : w.cell? ⟨B, 0, none⟩ = some (.int .i64 k)
  c1 : w.cell? ⟨B, 1, none⟩ = some (.int .i64 n)
  c2 : w.cell? ⟨B, 2, none⟩ = some (.slice none 0 0)
  f1 : w.frozen? ⟨B, 1, none⟩ = false
  sz : B < w.heap.size
theorem ON.set {w : World} {B : Nat} {k n : Int} (h : ON w B k n) (u : Int) : ON (w.setCell ⟨B, 1, none⟩ (.int .i64 u)) B k u :=
  ⟨(World.cell?_setCell_other _ _ _ _ (fun e => by injection e with _ e2 _; omega)).trans h.c0, World.cell?_setCell_same' _ _ _ (by rw [h.c1]; rfl), (World.cell?_setCell_other _ _ _ _ (fun e => by injection e with _ e2 _; omega)).trans h.c2, by rw [World.frozen?_setCell]; exact h.f1, by simpa using h.sz⟩
theorem ON.kept {w w' : World} {B : Nat} {k n : Int} (h : ON w B k n) (hb : Below w.heap.size w w') : ON w' B k n := by
  have e := hb.block B h.sz
  exact ⟨(cellEq e).trans h.c0, (cellEq e).trans h.c1, (cellEq e).trans h.c2, (frozenEq e).trans h.f1, Nat.lt_of_lt_of_le h.sz hb.size⟩
theorem on_new (w : World) (k n : Int) (T : TypeId) : ON (w.alloc (.cells #[.int .i64 k, .int .i64 n, .slice none 0 0] T)) w.heap.size k n := ⟨by go_simp, by go_simp, by go_simp, by go_simp, by simp⟩

set_option maxRecDepth 100000 in
set_option maxHeartbeats 4000000 in
theorem l2Renamed_var (n : Int) (v : Value) (vs : List Int) (B0 : Nat) (vv : Value) (w : World) (hx : TyAt w (.node 4 n []) v) (hv : IntsAt w B0 vv vs) (hvl : vs.length ≤ 1000000) :
    Calls Try.prog 76 #[.agg #[.int .i64 4, .int .i64 n, v], vv] w (TyRet (.node 4 (lx vs n vs.length) []) w) := by
  have HV := Lib.hid hv
  obtain ⟨a, cap, rfl, _⟩ := hx.slice
  obtain ⟨va, vc, rfl⟩ := ints_slice hv
  obtain ⟨L, hL⟩ : ∃ L, vs.length = L := ⟨_, rfl⟩
  have HL := Lib.hid hL
  rw [hL] at hvl ⊢
  have e0 : (Ty.node 4 n []).ks.length = 0 := rfl
  rw [e0]
  obtain ⟨S, hS⟩ : ∃ S, w.heap.size = S := ⟨_, rfl⟩
  have HS := Lib.hid hS
  obtain ⟨W1, hW1⟩ : ∃ W1, ((w.alloc (.cells #[.int .i64 4, .int .i64 n, .slice a 0 cap] 29)).alloc (.cells #[.int .i64 0, .int .i64 0, .slice none 0 0] 29)).alloc (.cells #[.int .i64 4, .int .i64 0, .slice none 0 0] 29) = W1 := ⟨_, rfl⟩
  have HW1 := Lib.hid hW1
  have hB1 : Below w.heap.size w W1 := by rw [← hW1]; exact (((Below.refl _ _).alloc (Nat.le_refl _) _).alloc (by simp) _).alloc (by simp; omega) _
  have HB1S : Hid (Below S w W1) := Lib.hid (by rw [← hS]; exact hB1)
  have HT1 : Hid (TBox W1 S (.int .i64 4) (.int .i64 n) (.slice a 0 cap)) := Lib.hid (by rw [← hW1, ← hS]; exact ((tbox_new w _ _ _ _).kept ((Below.refl _ _).alloc (Nat.le_refl _) _)).kept ((Below.refl _ _).alloc (Nat.le_refl _) _))
  have HR1 : Hid (RB W1 (S + 1)) := Lib.hid (by have h := (rb_new (w.alloc (.cells #[.int .i64 4, .int .i64 n, .slice a 0 cap] 29)) 29).kept ((Below.refl _ _).alloc (Nat.le_refl _) (.cells #[.int .i64 4, .int .i64 0, .slice none 0 0] 29)); rw [sizeA, hW1, hS] at h; exact h)
  have HO1 : Hid (ON W1 (S + 1 + 1) 4 0) := Lib.hid (by
    have h := on_new ((w.alloc (.cells #[.int .i64 4, .int .i64 n, .slice a 0 cap] 29)).alloc (.cells #[.int .i64 0, .int .i64 0, .slice none 0 0] 29)) 4 0 29
    rw [sizeA, sizeA, hW1, hS] at h
    exact h)
  have hz1' : W1.heap.size = S + 1 + 1 + 1 := by rw [← hW1, ← hS]; simp
  have HSW := Lib.hid (show S ≤ W1.heap.size by omega)
  clear hx hL hB1 hW1 hv e0
  go_enter Try.func76, Try.ntmps76
  go_wp2_with fail
  rw [HW1.out]
  clear hS
  go_loopw [6] (fun i wr => ∃ j : Nat, j ≤ L ∧ i = .int .i64 j ∧ Hid (ON wr (S + 1 + 1) 4 (lx vs n j)) ∧ Hid (Inside (S + 1 + 1) (S + 1 + 1 + 1) W1 wr)) (fun i _ => L - (intOf i).toNat)
  case atStart => exact ⟨0, Nat.zero_le _, rfl, HO1, Lib.hid (Inside.refl _ _ _)⟩
  case round =>
    obtain ⟨j, hj, rfl, hob, hin⟩ := hrel
    have HTw := Lib.hid (HT1.out.away hin.out (.inl (by omega)))
    have HBw := Lib.hid (hin.out.below (B := S) (by omega) HB1S.out HSW.out)
    obtain ⟨t0, t1, t2, tz⟩ := HTw.out
    obtain ⟨p0, p1, p2, pf1, pz⟩ := hob.out
    by_cases hlt : j < L
    · have hji : (j : Int) < (L : Int) := by omega
      obtain ⟨b, cap2, ex, hb1, hb2, y0⟩ := ints_at HV.out j (by rw [HL.out]; exact hlt)
      have ex1 : va = some ⟨b, 0, none⟩ := by injection ex
      subst ex1
      rw [HS.out] at hb2
      replace y0 := (HBw.out.cell (p := ⟨b, j, none⟩) hb2).trans y0
      obtain ⟨x, hx⟩ : ∃ x, vs.getD j 0 = x := ⟨_, rfl⟩
      rw [hx] at y0
      have HX := Lib.hid hx
      clear ex hx
      by_cases hxn : x = n
      · have hxb : (x == n) = true := by simpa using hxn
        have HLX := Lib.hid (lx_yes (HX.out.trans hxn))
        clear hxn
        go_wp2_with fail
        go_quiet (fail)
        all_goals go_wp2_with fail
        all_goals go_roundw
        all_goals first
          | exact ⟨j + 1, by omega, by go_num, Lib.hid (by rw [HLX.out]; exact (hob.out.kept (by first | exact Below.refl _ _ | exact (Below.refl _ _).drew | exact below_drewN (Below.refl _ _) _)).set _), Lib.hid ((hin.out.trans (Inside.of_below (by first | exact Below.refl _ _ | exact (Below.refl _ _).drew | exact below_drewN (Below.refl _ _) _))).trans (Inside.set _ _ _ (Nat.le_refl _) (Nat.lt_succ_self _)))⟩
          | (simp [intOf]; omega)
      · have hxb : (x == n) = false := by simpa using hxn
        have HLX := Lib.hid (lx_no (j := j) (fun e => hxn (HX.out.symm.trans e)))
        clear hxn
        go_wp2_with fail
        go_quiet (fail)
        all_goals go_wp2_with fail
        all_goals go_roundw
        all_goals first
          | exact ⟨j + 1, by omega, by go_num, Lib.hid (by rw [HLX.out]; exact hob.out.kept (by first | exact Below.refl _ _ | exact (Below.refl _ _).drew | exact below_drewN (Below.refl _ _) _)), Lib.hid (hin.out.trans (Inside.of_below (by first | exact Below.refl _ _ | exact (Below.refl _ _).drew | exact below_drewN (Below.refl _ _) _)))⟩
          | (simp [intOf]; omega)
    · have hji : ¬ (j : Int) < (L : Int) := by omega
      obtain rfl : j = L := by omega
      have HRw := Lib.hid (HR1.out.keep hin.out.size (hin.out.block _ HR1.out.sz (.inl (by omega))))
      obtain ⟨q0, q1, q2, qf0, qf1, qf2, qz⟩ := HRw.out
      go_wp2_with fail
      refine wp_loop_rounds 1 ?_
      rw [rounds_succ]
      go_wp2_with fail
      exact bodyPost_ret (v := .agg #[.int .i64 4, .int .i64 (lx vs n j), .slice none 0 0]) (by simp [results, Try.results76, go_sem, q0, q1, q2]) rfl ⟨_, rfl, .bare _ _ _ _ _ _, Inside.thin (in_res (lo := w.heap.size) (hi := w.heap.size) (Inside.of_below (by rw [HS.out]; exact HBw.out)) (by rw [HS.out]; omega) _ _ _)⟩

/-- A type with its variables numbered by a list. -/
def ren (vs : List Int) : Nat → Ty → Ty
  | 0, t => t
  | d + 1, .node k n ks =>
    if k = 4 then .node 4 (lx vs n vs.length) [] else
    match ks with
    | [a, b] => .node k 0 [ren vs d a, ren vs d b]
    | _ => .node 1 0 []
theorem l2Renamed_any (vs : List Int) (B0 : Nat) (vv : Value) (w0 : World) (hv : IntsAt w0 B0 vv vs) (hvl : vs.length ≤ 1000000) :
    ∀ (d : Nat) (t : Ty) (v : Value) (w : World), shp d t = true → TyAt w t v → Below w0.heap.size w0 w → Calls Try.prog 76 #[.agg #[.int .i64 t.k, .int .i64 t.n, v], vv] w (TyRet (ren vs d t) w) := by
  obtain ⟨la, lc, rfl⟩ := ints_slice hv
  intro d
  induction d with
  | zero => intro t v w h; cases h
  | succ d ih =>
    intro t v w h hx hb
    have both : ∀ (t : Ty) (rs : List Ty) (v : Value) (w : World), TyAt w t v → rs.length = t.ks.length → t.ks.length ≤ 1000000 → (t.k == 4) = false →
        (∀ i, i < t.ks.length → ∀ (vi : Value) (W : World), TyAt W (t.ks.getD i Ty.dummy) vi → Below w.heap.size w W → Calls Try.prog 76 #[.agg #[.int .i64 (t.ks.getD i Ty.dummy).k, .int .i64 (t.ks.getD i Ty.dummy).n, vi], .slice la vs.length lc] W (TyRet (rs.getD i Ty.dummy) W)) →
        Calls Try.prog 76 #[.agg #[.int .i64 t.k, .int .i64 t.n, v], .slice la vs.length lc] w (TyRet (.node t.k 0 rs) w) := by
      intro t rs v w hx hrs hsz hk H
      by_cases h0 : vs.length = 0
      · rw [h0] at H ⊢
        exact l2Renamed_nil t rs v la 0 lc w hx hrs hsz (by omega) hk H
      · exact l2Renamed_no t rs v la vs.length lc w hx hrs hsz hvl (by omega) hk H
    rcases shp_forms h with rfl | ⟨n, h0, h1, rfl⟩ | ⟨k, ta, tb, hk, rfl, ha, hbb⟩
    · have e : ren vs (d + 1) (.node 1 0 []) = .node 1 0 [] := by simp [ren]
      rw [e]
      exact both (.node 1 0 []) [] v w hx rfl (by decide) (by decide) (fun i hi => absurd hi (Nat.not_lt_zero _))
    · have e : ren vs (d + 1) (.node 4 n []) = .node 4 (lx vs n vs.length) [] := by simp [ren]
      rw [e]
      exact l2Renamed_var n v vs B0 _ w hx (ints_low hv (fun g hg => (own_low hv hg).2) hb) hvl
    · have hk4 : k ≠ 4 := by omega
      have e : ren vs (d + 1) (.node k 0 [ta, tb]) = .node k 0 [ren vs d ta, ren vs d tb] := by simp [ren, hk4]
      rw [e]
      refine both (.node k 0 [ta, tb]) [ren vs d ta, ren vs d tb] v w hx rfl (show (2 : Nat) ≤ 1000000 by decide) (show (k == 4) = false by simpa using hk4) ?_
      intro i hi vi W hki hbw
      have hi : i < 2 := hi
      have hbW := hb.trans (hbw.mono hb.size)
      obtain rfl | rfl : i = 0 ∨ i = 1 := by omega
      · exact ih ta vi W ha hki hbW
      · exact ih tb vi W hbb hki hbW
theorem ints_nil (w : World) (B : Nat) : IntsAt w B (.slice none 0 0) [] := World.ownsRow_nil _ _ _ _
/-- The type with its variables numbered anew. -/
def canT (t : Ty) : Ty := ren (vars 16 t []) 16 t

set_option maxRecDepth 100000 in
set_option maxHeartbeats 4000000 in
theorem l2Canon_any (t : Ty) (v : Value) (w : World) (hs : shp 16 t = true) (hx : TyAt w t v) (y : Ty) (hy : canT t = y) :
    Calls Try.prog 46 #[.agg #[.int .i64 t.k, .int .i64 t.n, v]] w (TyRet y w) := by
  obtain ⟨vs, hvs⟩ : ∃ vs, vars 16 t [] = vs := ⟨_, rfl⟩
  have hvl : vs.length ≤ 65536 := by
    rw [← hvs]
    have h1 := vars_len 16 t []
    have h2 := nd_le (by omega) hs
    simp at h1
    omega
  have HVS := Lib.hid hvs
  have HS := Lib.hid hs
  have HX := Lib.hid hx
  have HY : Hid (ren vs 16 t = y) := Lib.hid (by rw [← hvs]; exact hy)
  obtain ⟨a, cap, rfl, _⟩ := hx.slice
  obtain ⟨L, hL⟩ : ∃ L, vs.length = L := ⟨_, rfl⟩
  have HL := Lib.hid hL
  rw [hL] at hvl
  obtain ⟨W1, hW1⟩ : ∃ W1, (w.alloc (.cells #[.int .i64 t.k, .int .i64 t.n, .slice a t.ks.length cap] 29)).alloc (.cells #[.int .i64 0, .int .i64 0, .slice none 0 0] 29) = W1 := ⟨_, rfl⟩
  have hB1 : Below w.heap.size w W1 := by rw [← hW1]; exact ((Below.refl _ _).alloc (Nat.le_refl _) _).alloc (by simp) _
  have HB1 := Lib.hid hB1
  have HT1 : Hid (TBox W1 w.heap.size (.int .i64 t.k) (.int .i64 t.n) (.slice a t.ks.length cap)) := Lib.hid (by rw [← hW1]; exact (tbox_new w _ _ _ _).kept ((Below.refl _ _).alloc (Nat.le_refl _) _))
  have HR1 : Hid (RB W1 (w.heap.size + 1)) := Lib.hid (by have h := rb_new (w.alloc (.cells #[.int .i64 t.k, .int .i64 t.n, .slice a t.ks.length cap] 29)) 29; rw [sizeA, hW1] at h; exact h)
  have hz1 : W1.heap.size = w.heap.size + 2 := by rw [← hW1]; simp
  obtain ⟨t0, t1, t2, tz⟩ := HT1.out
  clear hx hs hvs hy hL hB1
  go_enter Try.func46, Try.ntmps46
  go_wp2_with fail
  clear hW1
  have hvl' : vs.length ≤ 1000000 := by rw [HL.out]; omega
  have HVL := Lib.hid hvl'
  have hn0 : ¬ w.heap.size = w.heap.size + 1 := by omega
  clear hvl'
  go_region_held3 (fun w' => w'.cell? ⟨w.heap.size, 0, none⟩ = some (.int .i64 t.k) ∧ w'.cell? ⟨w.heap.size, 1, none⟩ = some (.int .i64 t.n) ∧ w'.cell? ⟨w.heap.size, 2, none⟩ = some (.slice a t.ks.length cap)) (first | exact ⟨(cell_res hn0).trans g0, (cell_res hn0).trans g1, (cell_res hn0).trans g2⟩ | go_keep)
    (first
      | (go_at_call 76; refine (l2Renamed_any vs W1.heap.size _ w2 HI2.out HVL.out 16 t _ _ HS.out (HX2.out.kept (by first | exact Below.refl _ _ | exact (Below.refl _ _).drew)) (by first | exact Below.refl _ _ | exact (Below.refl _ _).drew)).mono ?_; rw [HY.out]; rintro e w3 ⟨v3, rfl, hty3, hb3⟩; obtain ⟨a3, k3, rfl, _⟩ := hty3.at.slice; have hb3' : Below w2.heap.size w2 w3 := Below.trans (B := w2.heap.size) (by first | exact Below.refl _ _ | exact (Below.refl _ _).drew) hb3; have hty3' : TyIn w3 w2.heap.size w3.heap.size y (.slice a3 y.ks.length k3) := hty3; have HTY3 := Lib.hid hty3'; have HB3 := Lib.hid (HB2.out.trans (hb3'.mono HB2.out.size)); have HR3 := Lib.hid (HR2.out.kept hb3'); have HT3 := Lib.hid (HT2.out.kept hb3'); obtain ⟨g0, g1, g2, gz⟩ := HT3.out; obtain ⟨p0, p1, p2, f0, f1, f2, psz⟩ := HR3.out; clear hb3 hb3' hty3 hty3')
      | (go_at_call 77; refine (l2Vars_val HS.out HVS.out _ _ W1 _ (HX.out.kept HB1.out) (by first | exact Below.refl _ _ | exact (Below.refl _ _).drew) (ints_nil _ _)).mono ?_; rintro e w2 ⟨lv, rfl, hi2, hb2, _⟩; obtain ⟨va, vc, rfl⟩ := ints_slice hi2; have HI2 := Lib.hid hi2; have HB2 := Lib.hid (HB1.out.trans (hb2.mono HB1.out.size)); have HX2 := Lib.hid (HX.out.kept HB2.out); have HR2 := Lib.hid (HR1.out.kept hb2); have HT2 := Lib.hid (HT1.out.kept hb2); have hs2 : W1.heap.size ≤ w2.heap.size := hb2.size; obtain ⟨e0, e1, e2, ez⟩ := HT2.out; clear hb2 hi2))
  go_wp2_with fail
  exact bodyPost_ret (v := .agg #[.int .i64 y.k, .int .i64 y.n, .slice a3 y.ks.length k3]) (by simp [results, Try.results46, go_sem, p0, p1, p2]) rfl ⟨_, rfl, res_ty (HTY3.out.wide (by omega) (Nat.le_refl _)) (Nat.le_succ _) _ _ _, Inside.thin (in_res (lo := w.heap.size) (hi := w.heap.size) (Inside.of_below HB3.out) (Nat.le_succ _) _ _ _)⟩

/-- What CanonType returns. -/
def cnT (t : Ty) : Option Ty := if tvT t = true then some (canT t) else none

set_option maxRecDepth 100000 in
set_option maxHeartbeats 4000000 in
theorem canonType_spec (t : Ty) (v : Value) (w : World) (hx : TyAt w t v) (r : Option Ty) (hr : cnT t = r) :
    Calls Try.prog 33 #[.agg #[.int .i64 t.k, .int .i64 t.n, v]] w (OptRet r w) := by
  have HX := Lib.hid hx
  obtain ⟨a, cap, rfl, _⟩ := hx.slice
  obtain ⟨y, hy⟩ : ∃ y, canT t = y := ⟨_, rfl⟩
  have HY := Lib.hid hy
  obtain ⟨W1, hW1⟩ : ∃ W1, (w.alloc (.cells #[.int .i64 t.k, .int .i64 t.n, .slice a t.ks.length cap] 29)).alloc (.cells #[.int .i64 0, .int .i64 0, .slice none 0 0] 29) = W1 := ⟨_, rfl⟩
  have hB1 : Below w.heap.size w W1 := by rw [← hW1]; exact ((Below.refl _ _).alloc (Nat.le_refl _) _).alloc (by simp) _
  have HB1 := Lib.hid hB1
  have HT1 : Hid (TBox W1 w.heap.size (.int .i64 t.k) (.int .i64 t.n) (.slice a t.ks.length cap)) := Lib.hid (by rw [← hW1]; exact (tbox_new w _ _ _ _).kept ((Below.refl _ _).alloc (Nat.le_refl _) _))
  have HR1 : Hid (RB W1 (w.heap.size + 1)) := Lib.hid (by have h := rb_new (w.alloc (.cells #[.int .i64 t.k, .int .i64 t.n, .slice a t.ks.length cap] 29)) 29; rw [sizeA, hW1] at h; exact h)
  have hz1 : W1.heap.size = w.heap.size + 2 := by rw [← hW1]; simp
  obtain ⟨t0, t1, t2, tz⟩ := HT1.out
  obtain ⟨vb, hvb⟩ : ∃ vb, tvT t = vb := ⟨_, rfl⟩
  have HVB := Lib.hid hvb
  clear hx hB1 hvb hy
  cases vb with
  | false =>
    have hrn : r = none := by rw [← hr]; unfold cnT; rw [if_neg (by rw [HVB.out]; decide)]
    subst hrn
    clear hr
    go_enter Try.func33, Try.ntmps33
    go_wp2_with fail
    clear hW1
    go_at_call 40
    refine (typeValid_spec_val HVB.out _ _ (HX.out.kept HB1.out)).mono ?_
    rintro e w2 ⟨rfl, hb2⟩
    have HR2 := Lib.hid (HR1.out.kept hb2)
    have HB2 := Lib.hid (HB1.out.trans (hb2.mono HB1.out.size))
    clear hb2 t0 t1 t2 tz
    obtain ⟨p0, p1, p2, f0, f1, f2, psz⟩ := HR2.out
    go_wp2_with fail
    exact bodyPost_ret (v := .tuple #[.agg #[.int .i64 0, .int .i64 0, .slice none 0 0], .bool false]) (by simp [results, Try.results33, go_sem, p0, p1, p2, psz]) rfl ⟨rfl, Inside.thin (in_res (lo := w.heap.size) (hi := w.heap.size) (Inside.of_below HB2.out) (Nat.le_succ _) _ _ _)⟩
  | true =>
    have hrn : r = some y := by rw [← hr]; unfold cnT; rw [if_pos HVB.out, HY.out]
    subst hrn
    clear hr
    go_enter Try.func33, Try.ntmps33
    go_wp2_with fail
    clear hW1
    go_at_call 40
    refine (typeValid_spec_val HVB.out _ _ (HX.out.kept HB1.out)).mono ?_
    rintro e w2 ⟨rfl, hb2⟩
    have HR2 := Lib.hid (HR1.out.kept hb2)
    have HT2 := Lib.hid (HT1.out.kept hb2)
    have HB2 := Lib.hid (HB1.out.trans (hb2.mono HB1.out.size))
    have hs2 : W1.heap.size ≤ w2.heap.size := hb2.size
    clear hb2 t0 t1 t2 tz
    obtain ⟨t0, t1, t2, tz⟩ := HT2.out
    obtain ⟨p0, p1, p2, f0, f1, f2, psz⟩ := HR2.out
    go_wp2_with fail
    go_at_call 46
    refine (l2Canon_any t _ _ (tvT_shp HVB.out) (HX.out.kept HB2.out) y HY.out).mono ?_
    rintro e w3 ⟨v3, rfl, hty3, hb3⟩
    obtain ⟨a3, k3, rfl, _⟩ := hty3.at.slice
    have HTY3 := Lib.hid hty3
    have HB3 := Lib.hid (HB2.out.trans (hb3.mono HB2.out.size))
    have HR3 := Lib.hid (HR2.out.kept hb3)
    clear hb3 hty3 t0 t1 t2 tz p0 p1 p2 f0 f1 f2 psz
    obtain ⟨p0, p1, p2, f0, f1, f2, psz⟩ := HR3.out
    go_wp2_with fail
    exact bodyPost_ret (v := .tuple #[.agg #[.int .i64 y.k, .int .i64 y.n, .slice a3 y.ks.length k3], .bool true]) (by simp [results, Try.results33, go_sem, p0, p1, p2, psz]) rfl ⟨_, rfl, res_ty (HTY3.out.wide (by omega) (Nat.le_refl _)) (Nat.le_succ _) _ _ _, Inside.thin (in_res (lo := w.heap.size) (hi := w.heap.size) (Inside.of_below HB3.out) (Nat.le_succ _) _ _ _)⟩

end Go.Proofs.Ytncpakpamfocbab
