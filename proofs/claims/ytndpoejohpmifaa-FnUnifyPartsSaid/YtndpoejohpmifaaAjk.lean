/-
  l2Renamed of the model at a variable, and so at every well-formed type.
  freshNames of the program at numbers: a generator that numbers what it meets, its names in a map of its own.
-/
import Derived.Test.YtndpoejohpmifaaAi
import Derived.Test.YtndpoejohpmifaaZk
import Derived.Test.YtndpoejohpmifaaZln
import Derived.Maps.OwnSet
import Derived.Maps.Views
namespace Go.Proofs.Ytndpoejohpmifaa
open Go.RowKit
set_option linter.unusedVariables false
set_option linter.unusedSimpArgs false

/-- The last place of a number among the first j of a list, or 0. -/
def lx (vs : List Int) (n : Int) : Nat → Int
  | 0 => 0
  | j + 1 => if vs.getD j 0 = n then (j : Int) else lx vs n j
theorem lx_yes {vs : List Int} {n : Int} {j : Nat} (h : vs.getD j 0 = n) : lx vs n (j + 1) = j := by rw [lx, if_pos h]
theorem lx_no {vs : List Int} {n : Int} {j : Nat} (h : vs.getD j 0 ≠ n) : lx vs n (j + 1) = lx vs n j := by rw [lx, if_neg h]
theorem lx_le (vs : List Int) (n : Int) : ∀ j, 0 ≤ lx vs n j ∧ lx vs n j ≤ j
  | 0 => by simp [lx]
  | j + 1 => by
    have := lx_le vs n j
    rw [lx]; split <;> omega
/-- The box of a type whose number turns. -/
structure ON (w : World) (B : Nat) (k n : Int) : Prop where
  c0 : w.cell? ⟨B, 0, none⟩ = some (.int .i64 k)
  c1 : w.cell? ⟨B, 1, none⟩ = some (.int .i64 n)
  c2 : w.cell? ⟨B, 2, none⟩ = some (.slice none 0 0)
  f1 : w.frozen? ⟨B, 1, none⟩ = false
  sz : B < w.heap.size
theorem ON.set {w : World} {B : Nat} {k n : Int} (h : ON w B k n) (u : Int) : ON (w.setCell ⟨B, 1, none⟩ (.int .i64 u)) B k u :=
  ⟨(World.cell?_setCell_other _ _ _ _ (fun e => by injection e with _ e2 _; omega)).trans h.c0, World.cell?_setCell_same' _ _ _ (by rw [h.c1]; rfl), (World.cell?_setCell_other _ _ _ _ (fun e => by injection e with _ e2 _; omega)).trans h.c2, by rw [World.frozen?_setCell]; exact h.f1, by simpa using h.sz⟩
theorem ON.kept {w w' : World} {B : Nat} {k n : Int} (h : ON w B k n) (hb : Below w.heap.size w w') : ON w' B k n := by
  have e := hb.block B h.sz
  exact ⟨(cellEq e).trans h.c0, (cellEq e).trans h.c1, (cellEq e).trans h.c2, (frozenEq e).trans h.f1, Nat.lt_of_lt_of_le h.sz hb.size⟩
theorem on_new (w : World) (k n : Int) (T : TypeId) : ON (w.alloc (.cells #[.int .i64 k, .int .i64 n, .slice none 0 0] T)) w.heap.size k n := ⟨by go_simp, by go_simp, by go_simp, by go_simp, by simp⟩

set_option maxRecDepth 100000 in
set_option maxHeartbeats 4000000 in
theorem l2Renamed_var (n : Int) (v : Value) (vs : List Int) (B0 : Nat) (vv : Value) (w : World) (hx : TyAt w (.node 4 n []) v) (hv : IntsAt w B0 vv vs) (hvl : vs.length ≤ 1000000) :
    Calls Try.prog 92 #[.agg #[.int .i64 4, .int .i64 n, v], vv] w (TyRet (.node 4 (lx vs n vs.length) []) w) := by
  have HV := Lib.hid hv
  obtain ⟨a, cap, rfl, _⟩ := hx.slice
  obtain ⟨va, vc, rfl⟩ := ints_slice hv
  obtain ⟨L, hL⟩ : ∃ L, vs.length = L := ⟨_, rfl⟩
  have HL := Lib.hid hL
  rw [hL] at hvl ⊢
  have e0 : (Ty.node 4 n []).ks.length = 0 := rfl
  rw [e0]
  obtain ⟨S, hS⟩ : ∃ S, w.heap.size = S := ⟨_, rfl⟩
  have HS := Lib.hid hS
  obtain ⟨W1, hW1⟩ : ∃ W1, ((w.alloc (.cells #[.int .i64 4, .int .i64 n, .slice a 0 cap] 25)).alloc (.cells #[.int .i64 0, .int .i64 0, .slice none 0 0] 25)).alloc (.cells #[.int .i64 4, .int .i64 0, .slice none 0 0] 25) = W1 := ⟨_, rfl⟩
  have HW1 := Lib.hid hW1
  have hB1 : Below w.heap.size w W1 := by rw [← hW1]; exact (((Below.refl _ _).alloc (Nat.le_refl _) _).alloc (by simp) _).alloc (by simp; omega) _
  have HB1S : Hid (Below S w W1) := Lib.hid (by rw [← hS]; exact hB1)
  have HT1 : Hid (TBox W1 S (.int .i64 4) (.int .i64 n) (.slice a 0 cap)) := Lib.hid (by rw [← hW1, ← hS]; exact ((tbox_new w _ _ _ _).kept ((Below.refl _ _).alloc (Nat.le_refl _) _)).kept ((Below.refl _ _).alloc (Nat.le_refl _) _))
  have HR1 : Hid (RB W1 (S + 1)) := Lib.hid (by have h := (rb_new (w.alloc (.cells #[.int .i64 4, .int .i64 n, .slice a 0 cap] 25)) 25).kept ((Below.refl _ _).alloc (Nat.le_refl _) (.cells #[.int .i64 4, .int .i64 0, .slice none 0 0] 25)); rw [sizeA, hW1, hS] at h; exact h)
  have HO1 : Hid (ON W1 (S + 1 + 1) 4 0) := Lib.hid (by
    have h := on_new ((w.alloc (.cells #[.int .i64 4, .int .i64 n, .slice a 0 cap] 25)).alloc (.cells #[.int .i64 0, .int .i64 0, .slice none 0 0] 25)) 4 0 25
    rw [sizeA, sizeA, hW1, hS] at h
    exact h)
  have hz1' : W1.heap.size = S + 1 + 1 + 1 := by rw [← hW1, ← hS]; simp
  have HSW := Lib.hid (show S ≤ W1.heap.size by omega)
  clear hx hL hB1 hW1 hv e0
  go_enter Try.func92, Try.ntmps92
  go_wp2_with fail
  rw [HW1.out]
  clear hS
  go_loopw [6] (fun i wr => ∃ j : Nat, j ≤ L ∧ i = .int .i64 j ∧ Hid (ON wr (S + 1 + 1) 4 (lx vs n j)) ∧ Hid (Inside (S + 1 + 1) (S + 1 + 1 + 1) W1 wr)) (fun i _ => L - (intOf i).toNat)
  case atStart => exact ⟨0, Nat.zero_le _, rfl, HO1, Lib.hid (Inside.refl _ _ _)⟩
  case round =>
    obtain ⟨j, hj, rfl, hob, hin⟩ := hrel
    have HTw := Lib.hid (HT1.out.away hin.out (.inl (by omega)))
    have HBw := Lib.hid (hin.out.below (B := S) (by omega) HB1S.out HSW.out)
    obtain ⟨t0, t1, t2, tz⟩ := HTw.out
    obtain ⟨p0, p1, p2, pf1, pz⟩ := hob.out
    by_cases hlt : j < L
    · have hji : (j : Int) < (L : Int) := by omega
      obtain ⟨b, cap2, ex, hb1, hb2, y0⟩ := ints_at HV.out j (by rw [HL.out]; exact hlt)
      have ex1 : va = some ⟨b, 0, none⟩ := by injection ex
      subst ex1
      rw [HS.out] at hb2
      replace y0 := (HBw.out.cell (p := ⟨b, j, none⟩) hb2).trans y0
      obtain ⟨x, hx⟩ : ∃ x, vs.getD j 0 = x := ⟨_, rfl⟩
      rw [hx] at y0
      have HX := Lib.hid hx
      clear ex hx
      by_cases hxn : x = n
      · have hxb : (x == n) = true := by simpa using hxn
        have HLX := Lib.hid (lx_yes (HX.out.trans hxn))
        clear hxn
        go_wp2_with fail
        go_quiet (fail)
        all_goals go_wp2_with fail
        all_goals go_roundw
        all_goals first
          | exact ⟨j + 1, by omega, by go_num, Lib.hid (by rw [HLX.out]; exact (hob.out.kept (by first | exact Below.refl _ _ | exact (Below.refl _ _).drew | exact below_drewN (Below.refl _ _) _)).set _), Lib.hid ((hin.out.trans (Inside.of_below (by first | exact Below.refl _ _ | exact (Below.refl _ _).drew | exact below_drewN (Below.refl _ _) _))).trans (Inside.set _ _ _ (Nat.le_refl _) (Nat.lt_succ_self _)))⟩
          | (simp [intOf]; omega)
      · have hxb : (x == n) = false := by simpa using hxn
        have HLX := Lib.hid (lx_no (j := j) (fun e => hxn (HX.out.symm.trans e)))
        clear hxn
        go_wp2_with fail
        go_quiet (fail)
        all_goals go_wp2_with fail
        all_goals go_roundw
        all_goals first
          | exact ⟨j + 1, by omega, by go_num, Lib.hid (by rw [HLX.out]; exact hob.out.kept (by first | exact Below.refl _ _ | exact (Below.refl _ _).drew | exact below_drewN (Below.refl _ _) _)), Lib.hid (hin.out.trans (Inside.of_below (by first | exact Below.refl _ _ | exact (Below.refl _ _).drew | exact below_drewN (Below.refl _ _) _)))⟩
          | (simp [intOf]; omega)
    · have hji : ¬ (j : Int) < (L : Int) := by omega
      obtain rfl : j = L := by omega
      have HRw := Lib.hid (HR1.out.keep hin.out.size (hin.out.block _ HR1.out.sz (.inl (by omega))))
      obtain ⟨q0, q1, q2, qf0, qf1, qf2, qz⟩ := HRw.out
      go_wp2_with fail
      refine wp_loop_rounds 1 ?_
      rw [rounds_succ]
      go_wp2_with fail
      exact bodyPost_ret (v := .agg #[.int .i64 4, .int .i64 (lx vs n j), .slice none 0 0]) (by simp [results, Try.results92, go_sem, q0, q1, q2]) rfl ⟨_, rfl, .bare _ _ _ _ _ _, Inside.thin (in_res (lo := w.heap.size) (hi := w.heap.size) (Inside.of_below (by rw [HS.out]; exact HBw.out)) (by rw [HS.out]; omega) _ _ _)⟩

/-- A type with its variables numbered by a list. -/
def ren (vs : List Int) : Nat → Ty → Ty
  | 0, t => t
  | d + 1, .node k n ks =>
    if k = 4 then .node 4 (lx vs n vs.length) [] else
    match ks with
    | [a, b] => .node k 0 [ren vs d a, ren vs d b]
    | _ => .node 1 0 []
theorem l2Renamed_any (vs : List Int) (B0 : Nat) (vv : Value) (w0 : World) (hv : IntsAt w0 B0 vv vs) (hvl : vs.length ≤ 1000000) :
    ∀ (d : Nat) (t : Ty) (v : Value) (w : World), shp d t = true → TyAt w t v → Below w0.heap.size w0 w → Calls Try.prog 92 #[.agg #[.int .i64 t.k, .int .i64 t.n, v], vv] w (TyRet (ren vs d t) w) := by
  obtain ⟨la, lc, rfl⟩ := ints_slice hv
  intro d
  induction d with
  | zero => intro t v w h; cases h
  | succ d ih =>
    intro t v w h hx hb
    have both : ∀ (t : Ty) (rs : List Ty) (v : Value) (w : World), TyAt w t v → rs.length = t.ks.length → t.ks.length ≤ 1000000 → (t.k == 4) = false →
        (∀ i, i < t.ks.length → ∀ (vi : Value) (W : World), TyAt W (t.ks.getD i Ty.dummy) vi → Below w.heap.size w W → Calls Try.prog 92 #[.agg #[.int .i64 (t.ks.getD i Ty.dummy).k, .int .i64 (t.ks.getD i Ty.dummy).n, vi], .slice la vs.length lc] W (TyRet (rs.getD i Ty.dummy) W)) →
        Calls Try.prog 92 #[.agg #[.int .i64 t.k, .int .i64 t.n, v], .slice la vs.length lc] w (TyRet (.node t.k 0 rs) w) := by
      intro t rs v w hx hrs hsz hk H
      by_cases h0 : vs.length = 0
      · rw [h0] at H ⊢
        exact l2Renamed_nil t rs v la 0 lc w hx hrs hsz (by omega) hk H
      · exact l2Renamed_no t rs v la vs.length lc w hx hrs hsz hvl (by omega) hk H
    rcases shp_forms h with rfl | ⟨n, h0, h1, rfl⟩ | ⟨k, ta, tb, hk, rfl, ha, hbb⟩
    · have e : ren vs (d + 1) (.node 1 0 []) = .node 1 0 [] := by simp [ren]
      rw [e]
      exact both (.node 1 0 []) [] v w hx rfl (by decide) (by decide) (fun i hi => absurd hi (Nat.not_lt_zero _))
    · have e : ren vs (d + 1) (.node 4 n []) = .node 4 (lx vs n vs.length) [] := by simp [ren]
      rw [e]
      exact l2Renamed_var n v vs B0 _ w hx (ints_low hv (fun g hg => (own_low hv hg).2) hb) hvl
    · have hk4 : k ≠ 4 := by omega
      have e : ren vs (d + 1) (.node k 0 [ta, tb]) = .node k 0 [ren vs d ta, ren vs d tb] := by simp [ren, hk4]
      rw [e]
      refine both (.node k 0 [ta, tb]) [ren vs d ta, ren vs d tb] v w hx rfl (show (2 : Nat) ≤ 1000000 by decide) (show (k == 4) = false by simpa using hk4) ?_
      intro i hi vi W hki hbw
      have hi : i < 2 := hi
      have hbW := hb.trans (hbw.mono hb.size)
      obtain rfl | rfl : i = 0 ∨ i = 1 := by omega
      · exact ih ta vi W ha hki hbW
      · exact ih tb vi W hbb hki hbW
theorem ints_nil (w : World) (B : Nat) : IntsAt w B (.slice none 0 0) [] := World.ownsRow_nil _ _ _ _
/-- The type with its variables numbered anew. -/
def canT (t : Ty) : Ty := ren (vars 16 t []) 16 t

set_option maxRecDepth 100000 in
set_option maxHeartbeats 4000000 in
theorem l2Canon_any (t : Ty) (v : Value) (w : World) (hs : shp 16 t = true) (hx : TyAt w t v) (y : Ty) (hy : canT t = y) :
    Calls Try.prog 59 #[.agg #[.int .i64 t.k, .int .i64 t.n, v]] w (TyRet y w) := by
  obtain ⟨vs, hvs⟩ : ∃ vs, vars 16 t [] = vs := ⟨_, rfl⟩
  have hvl : vs.length ≤ 65536 := by
    rw [← hvs]
    have h1 := vars_len 16 t []
    have h2 := nd_le (by omega) hs
    simp at h1
    omega
  have HVS := Lib.hid hvs
  have HS := Lib.hid hs
  have HX := Lib.hid hx
  have HY : Hid (ren vs 16 t = y) := Lib.hid (by rw [← hvs]; exact hy)
  obtain ⟨a, cap, rfl, _⟩ := hx.slice
  obtain ⟨L, hL⟩ : ∃ L, vs.length = L := ⟨_, rfl⟩
  have HL := Lib.hid hL
  rw [hL] at hvl
  obtain ⟨W1, hW1⟩ : ∃ W1, (w.alloc (.cells #[.int .i64 t.k, .int .i64 t.n, .slice a t.ks.length cap] 25)).alloc (.cells #[.int .i64 0, .int .i64 0, .slice none 0 0] 25) = W1 := ⟨_, rfl⟩
  have hB1 : Below w.heap.size w W1 := by rw [← hW1]; exact ((Below.refl _ _).alloc (Nat.le_refl _) _).alloc (by simp) _
  have HB1 := Lib.hid hB1
  have HT1 : Hid (TBox W1 w.heap.size (.int .i64 t.k) (.int .i64 t.n) (.slice a t.ks.length cap)) := Lib.hid (by rw [← hW1]; exact (tbox_new w _ _ _ _).kept ((Below.refl _ _).alloc (Nat.le_refl _) _))
  have HR1 : Hid (RB W1 (w.heap.size + 1)) := Lib.hid (by have h := rb_new (w.alloc (.cells #[.int .i64 t.k, .int .i64 t.n, .slice a t.ks.length cap] 25)) 25; rw [sizeA, hW1] at h; exact h)
  have hz1 : W1.heap.size = w.heap.size + 2 := by rw [← hW1]; simp
  obtain ⟨t0, t1, t2, tz⟩ := HT1.out
  clear hx hs hvs hy hL hB1
  go_enter Try.func59, Try.ntmps59
  go_wp2_with fail
  clear hW1
  have hvl' : vs.length ≤ 1000000 := by rw [HL.out]; omega
  have HVL := Lib.hid hvl'
  have hn0 : ¬ w.heap.size = w.heap.size + 1 := by omega
  clear hvl'
  go_region_held3 (fun w' => w'.cell? ⟨w.heap.size, 0, none⟩ = some (.int .i64 t.k) ∧ w'.cell? ⟨w.heap.size, 1, none⟩ = some (.int .i64 t.n) ∧ w'.cell? ⟨w.heap.size, 2, none⟩ = some (.slice a t.ks.length cap)) (first | exact ⟨(cell_res hn0).trans g0, (cell_res hn0).trans g1, (cell_res hn0).trans g2⟩ | go_keep)
    (first
      | (go_at_call 92; refine (l2Renamed_any vs W1.heap.size _ w2 HI2.out HVL.out 16 t _ _ HS.out (HX2.out.kept (by first | exact Below.refl _ _ | exact (Below.refl _ _).drew)) (by first | exact Below.refl _ _ | exact (Below.refl _ _).drew)).mono ?_; rw [HY.out]; rintro e w3 ⟨v3, rfl, hty3, hb3⟩; obtain ⟨a3, k3, rfl, _⟩ := hty3.at.slice; have hb3' : Below w2.heap.size w2 w3 := Below.trans (B := w2.heap.size) (by first | exact Below.refl _ _ | exact (Below.refl _ _).drew) hb3; have hty3' : TyIn w3 w2.heap.size w3.heap.size y (.slice a3 y.ks.length k3) := hty3; have HTY3 := Lib.hid hty3'; have HB3 := Lib.hid (HB2.out.trans (hb3'.mono HB2.out.size)); have HR3 := Lib.hid (HR2.out.kept hb3'); have HT3 := Lib.hid (HT2.out.kept hb3'); obtain ⟨g0, g1, g2, gz⟩ := HT3.out; obtain ⟨p0, p1, p2, f0, f1, f2, psz⟩ := HR3.out; clear hb3 hb3' hty3 hty3')
      | (go_at_call 67; refine (l2Vars_val HS.out HVS.out _ _ W1 _ (HX.out.kept HB1.out) (by first | exact Below.refl _ _ | exact (Below.refl _ _).drew) (ints_nil _ _)).mono ?_; rintro e w2 ⟨lv, rfl, hi2, hb2, _⟩; obtain ⟨va, vc, rfl⟩ := ints_slice hi2; have HI2 := Lib.hid hi2; have HB2 := Lib.hid (HB1.out.trans (hb2.mono HB1.out.size)); have HX2 := Lib.hid (HX.out.kept HB2.out); have HR2 := Lib.hid (HR1.out.kept hb2); have HT2 := Lib.hid (HT1.out.kept hb2); have hs2 : W1.heap.size ≤ w2.heap.size := hb2.size; obtain ⟨e0, e1, e2, ez⟩ := HT2.out; clear hb2 hi2))
  go_wp2_with fail
  exact bodyPost_ret (v := .agg #[.int .i64 y.k, .int .i64 y.n, .slice a3 y.ks.length k3]) (by simp [results, Try.results59, go_sem, p0, p1, p2]) rfl ⟨_, rfl, res_ty (HTY3.out.wide (by omega) (Nat.le_refl _)) (Nat.le_succ _) _ _ _, Inside.thin (in_res (lo := w.heap.size) (hi := w.heap.size) (Inside.of_below HB3.out) (Nat.le_succ _) _ _ _)⟩

/-- What CanonType returns. -/
def cnT (t : Ty) : Option Ty := if tvT t = true then some (canT t) else none

set_option maxRecDepth 100000 in
set_option maxHeartbeats 4000000 in
theorem canonType_spec (t : Ty) (v : Value) (w : World) (hx : TyAt w t v) (r : Option Ty) (hr : cnT t = r) :
    Calls Try.prog 25 #[.agg #[.int .i64 t.k, .int .i64 t.n, v]] w (OptRet r w) := by
  have HX := Lib.hid hx
  obtain ⟨a, cap, rfl, _⟩ := hx.slice
  obtain ⟨y, hy⟩ : ∃ y, canT t = y := ⟨_, rfl⟩
  have HY := Lib.hid hy
  obtain ⟨W1, hW1⟩ : ∃ W1, (w.alloc (.cells #[.int .i64 t.k, .int .i64 t.n, .slice a t.ks.length cap] 25)).alloc (.cells #[.int .i64 0, .int .i64 0, .slice none 0 0] 25) = W1 := ⟨_, rfl⟩
  have hB1 : Below w.heap.size w W1 := by rw [← hW1]; exact ((Below.refl _ _).alloc (Nat.le_refl _) _).alloc (by simp) _
  have HB1 := Lib.hid hB1
  have HT1 : Hid (TBox W1 w.heap.size (.int .i64 t.k) (.int .i64 t.n) (.slice a t.ks.length cap)) := Lib.hid (by rw [← hW1]; exact (tbox_new w _ _ _ _).kept ((Below.refl _ _).alloc (Nat.le_refl _) _))
  have HR1 : Hid (RB W1 (w.heap.size + 1)) := Lib.hid (by have h := rb_new (w.alloc (.cells #[.int .i64 t.k, .int .i64 t.n, .slice a t.ks.length cap] 25)) 25; rw [sizeA, hW1] at h; exact h)
  have hz1 : W1.heap.size = w.heap.size + 2 := by rw [← hW1]; simp
  obtain ⟨t0, t1, t2, tz⟩ := HT1.out
  obtain ⟨vb, hvb⟩ : ∃ vb, tvT t = vb := ⟨_, rfl⟩
  have HVB := Lib.hid hvb
  clear hx hB1 hvb hy
  cases vb with
  | false =>
    have hrn : r = none := by rw [← hr]; unfold cnT; rw [if_neg (by rw [HVB.out]; decide)]
    subst hrn
    clear hr
    go_enter Try.func25, Try.ntmps25
    go_wp2_with fail
    clear hW1
    go_at_call 16
    refine (typeValid_spec_val HVB.out _ _ (HX.out.kept HB1.out)).mono ?_
    rintro e w2 ⟨rfl, hb2⟩
    have HR2 := Lib.hid (HR1.out.kept hb2)
    have HB2 := Lib.hid (HB1.out.trans (hb2.mono HB1.out.size))
    clear hb2 t0 t1 t2 tz
    obtain ⟨p0, p1, p2, f0, f1, f2, psz⟩ := HR2.out
    go_wp2_with fail
    exact bodyPost_ret (v := .tuple #[.agg #[.int .i64 0, .int .i64 0, .slice none 0 0], .bool false]) (by simp [results, Try.results25, go_sem, p0, p1, p2, psz]) rfl ⟨rfl, Inside.thin (in_res (lo := w.heap.size) (hi := w.heap.size) (Inside.of_below HB2.out) (Nat.le_succ _) _ _ _)⟩
  | true =>
    have hrn : r = some y := by rw [← hr]; unfold cnT; rw [if_pos HVB.out, HY.out]
    subst hrn
    clear hr
    go_enter Try.func25, Try.ntmps25
    go_wp2_with fail
    clear hW1
    go_at_call 16
    refine (typeValid_spec_val HVB.out _ _ (HX.out.kept HB1.out)).mono ?_
    rintro e w2 ⟨rfl, hb2⟩
    have HR2 := Lib.hid (HR1.out.kept hb2)
    have HT2 := Lib.hid (HT1.out.kept hb2)
    have HB2 := Lib.hid (HB1.out.trans (hb2.mono HB1.out.size))
    have hs2 : W1.heap.size ≤ w2.heap.size := hb2.size
    clear hb2 t0 t1 t2 tz
    obtain ⟨t0, t1, t2, tz⟩ := HT2.out
    obtain ⟨p0, p1, p2, f0, f1, f2, psz⟩ := HR2.out
    go_wp2_with fail
    go_at_call 59
    refine (l2Canon_any t _ _ (tvT_shp HVB.out) (HX.out.kept HB2.out) y HY.out).mono ?_
    rintro e w3 ⟨v3, rfl, hty3, hb3⟩
    obtain ⟨a3, k3, rfl, _⟩ := hty3.at.slice
    have HTY3 := Lib.hid hty3
    have HB3 := Lib.hid (HB2.out.trans (hb3.mono HB2.out.size))
    have HR3 := Lib.hid (HR2.out.kept hb3)
    clear hb3 hty3 t0 t1 t2 tz p0 p1 p2 f0 f1 f2 psz
    obtain ⟨p0, p1, p2, f0, f1, f2, psz⟩ := HR3.out
    go_wp2_with fail
    exact bodyPost_ret (v := .tuple #[.agg #[.int .i64 y.k, .int .i64 y.n, .slice a3 y.ks.length k3], .bool true]) (by simp [results, Try.results25, go_sem, p0, p1, p2, psz]) rfl ⟨_, rfl, res_ty (HTY3.out.wide (by omega) (Nat.le_refl _)) (Nat.le_succ _) _ _ _, Inside.thin (in_res (lo := w.heap.size) (hi := w.heap.size) (Inside.of_below HB3.out) (Nat.le_succ _) _ _ _)⟩

end Go.Proofs.Ytndpoejohpmifaa

namespace Go.Proofs.Ytndpoejohpmifaa
open Go.RowKit Go.Maps
set_option linter.unusedVariables false
set_option linter.unusedSimpArgs false

theorem lawI : Keyed Try.prog 3 := int_keyed Try.underlying3
theorem zeroI (w : World) : (zeroValue 3).run Try.prog w = .ok (.int .i64 0) w := by kernel_rfl
/-- The key n. -/
abbrev kI (n : Int) : Lit := .int .i64 n
theorem kI_ne {a b : Int} (h : a ≠ b) : kI a ≠ kI b := fun e => by injection e with _ e; exact h e
/-- The map numbers the elements of st by their places. -/
structure MapIs (D : DataW Unit) (st : List Int) : Prop where
  tidy : Tidy D
  size : Maps.size D = st.length
  has : ∀ n, Maps.has D (kI n) = decide (n ∈ st)
  at' : ∀ (i : Nat) (n : Int), st[i]? = some n → D.atKey (kI n) (.lit (.int .i64 0)) = .lit (.int .i64 (i : Int))
  nd : st.Nodup
  rg : ∀ n, n ∈ st → 0 ≤ n ∧ n ≤ 25
theorem mapIs_nil : MapIs (.map []) [] := ⟨tidy_empty, rfl, fun n => by simp [Maps.has], fun i n h => by simp at h, List.nodup_nil, fun n h => by simp at h⟩
theorem key_lit (n : Int) : WideAt.IsKeyLit (kI n) := trivial
theorem MapIs.put {D : DataW Unit} {st : List Int} (h : MapIs D st) {n : Int} (hn : n ∉ st) (h0 : 0 ≤ n) (h1 : n ≤ 25) : MapIs (D.put (kI n) (.lit (.int .i64 (st.length : Int)))) (st ++ [n]) := by
  refine ⟨h.tidy.put (key_lit n) _, ?_, ?_, ?_, ?_, ?_⟩
  · rw [size_put h.tidy, h.has, h.size]; simp [hn]
  · intro m
    by_cases hm : m = n
    · subst hm; rw [has_put_same h.tidy.isMap (key_lit _)]; simp
    · rw [has_put_other (kI_ne hm), h.has]; simp [hm]
  · intro i m hi
    by_cases hm : m = n
    · subst hm
      rw [atKey_put_same h.tidy.isMap (key_lit _)]
      by_cases hl : i < st.length
      · rw [List.getElem?_append_left hl] at hi
        exact absurd (List.mem_of_getElem? hi) hn
      · have hi' := (List.getElem?_eq_some_iff.1 hi).1
        simp at hi'
        obtain rfl : i = st.length := by omega
        rfl
    · rw [atKey_put_other (kI_ne hm)]
      by_cases hl : i < st.length
      · rw [List.getElem?_append_left hl] at hi; exact h.at' i m hi
      · rw [List.getElem?_append_right (by omega)] at hi
        have := (List.getElem?_eq_some_iff.1 hi)
        obtain ⟨hlt, he⟩ := this
        simp at he
        exact absurd he.symm hm
  · rw [List.nodup_append]
    refine ⟨h.nd, by simp, fun a ha b hb e => ?_⟩
    simp at hb
    subst hb; subst e
    exact hn ha
  · intro m hm
    rcases List.mem_append.1 hm with hm | hm
    · exact h.rg m hm
    · simp at hm; subst hm; exact ⟨h0, h1⟩
theorem nodup_len : ∀ (m : Nat) (l : List Int), l.Nodup → (∀ n, n ∈ l → 0 ≤ n ∧ n < m) → l.length ≤ m := by
  intro m
  induction m with
  | zero =>
    intro l _ h
    cases l with
    | nil => simp
    | cons a l => have := h a (List.mem_cons_self ..); omega
  | succ m ih =>
    intro l hn h
    have h1 := ih (l.erase (m : Int)) (hn.erase _) (fun n hm => by
      have h2 := (hn.mem_erase_iff.1 hm)
      have := h n h2.2
      have h3 := h2.1
      omega)
    by_cases hm : (m : Int) ∈ l
    · rw [List.length_erase_of_mem hm] at h1; omega
    · rw [List.erase_of_not_mem hm] at h1; omega
theorem MapIs.len {D : DataW Unit} {st : List Int} (h : MapIs D st) : st.length ≤ 26 := nodup_len 26 st h.nd (fun n hn => by have := h.rg n hn; omega)
/-- The number of n behind st. -/
def ixA (st : List Int) (n : Int) : Int := ((addV st n).idxOf n : Nat)
theorem ixA_in {st : List Int} {n : Int} (h : n ∈ st) : ixA st n = (st.idxOf n : Nat) := by unfold ixA addV; rw [if_pos h]
theorem ixA_out {st : List Int} {n : Int} (h : n ∉ st) : ixA st n = st.length := by unfold ixA addV; rw [if_neg h, List.idxOf_append, if_neg h]; simp
/-- The generator's memory: its map in block bm behind the variable q, the generator itself in the variable qf. -/
structure Gen (lo hi q qf bm : Nat) (st : List Int) (w : World) : Prop where
  d : ∃ D : DataW Unit, w.ownsMap Try.prog 3 (plainElem Try.prog 3) bm st.length D ∧ MapIs D st
  cq : w.cell? ⟨q, 0, none⟩ = some (.map (some bm))
  cf : w.cell? ⟨qf, 0, none⟩ = some (.func (.func 90) #[] #[.pointer (some ⟨q, 0, none⟩)])
  sq : lo ≤ q ∧ q < hi
  sf : lo ≤ qf ∧ qf < hi
  sm : lo ≤ bm ∧ bm < hi
  ne : q ≠ bm ∧ qf ≠ bm
  sz : hi ≤ w.heap.size
theorem ownsMap_block {w w' : World} {b n : Nat} {D : DataW Unit} (h : w.ownsMap Try.prog 3 (plainElem Try.prog 3) b n D) (e : w'.heap[b]? = w.heap[b]?) : w'.ownsMap Try.prog 3 (plainElem Try.prog 3) b n D := by
  obtain ⟨es, clock, hb, F, hs, hD⟩ := h
  exact ⟨es, clock, e.trans hb, F, hs, hD⟩
theorem gen_stays (lo hi q qf bm : Nat) : Stays (Gen lo hi q qf bm) lo hi :=
  ⟨fun st w w' h hs hk => ⟨by obtain ⟨D, h1, h2⟩ := h.d; exact ⟨D, ownsMap_block h1 (hk bm h.sm.1 h.sm.2), h2⟩, (cellEq (hk q h.sq.1 h.sq.2)).trans h.cq, (cellEq (hk qf h.sf.1 h.sf.2)).trans h.cf, h.sq, h.sf, h.sm, h.ne, Nat.le_trans h.sz hs⟩, fun st w h => h.sz⟩
/-- What a call of the generator leaves. -/
def GenPost (lo hi q qf bm : Nat) (st : List Int) (n : Int) (w : World) (e : Ending) (w' : World) : Prop :=
  e = .returned (.int .i64 (ixA st n)) ∧ Inside lo hi w w' ∧ Gen lo hi q qf bm (addV st n) w'

set_option maxRecDepth 100000 in
set_option maxHeartbeats 2000000 in
theorem fresh_yes (lo hi q qf bm : Nat) (st : List Int) (n : Int) (h0 : 0 ≤ n) (h1 : n ≤ 25) (w : World) (hg : Gen lo hi q qf bm st w) (hn : n ∈ st) :
    Calls Try.prog 90 #[.int .i64 n, .pointer (some ⟨q, 0, none⟩)] w (GenPost lo hi q qf bm st n w) := by
  have HG := Lib.hid hg
  obtain ⟨D, hown, hD⟩ := hg.d
  have hq := hg.cq
  have hkey : keyOf Try.prog 3 (.int .i64 n) = some (kI n) := keyOf_int_mk Try.underlying3 (WalkArith.wf_i64 (by omega))
  have HH : Hid (Maps.has D (kI n) = true) := Lib.hid (by rw [hD.has]; simpa using hn)
  have HAT : Hid (D.atKey (kI n) (.lit (.int .i64 0)) = .lit (.int .i64 ((st.idxOf n : Nat) : Int))) := Lib.hid (hD.at' _ _ (by rw [List.getElem?_eq_getElem (List.idxOf_lt_length_of_mem hn)]; simp))
  have HIX := Lib.hid (ixA_in hn)
  have HADD : Hid (addV st n = st) := Lib.hid (by unfold addV; rw [if_pos hn])
  clear hg hD hn
  go_enter Try.func90, Try.ntmps90
  go_wp2_with (first | (at_lookup; refine wpList_lookup_own_ok_int _ rfl _ _ 109 rfl 3 3 .i64 lawI Try.underlying109 Try.underlying3 (zeroI _) bm _ D rfl hown _ _ rfl hkey ?_; intro c hat hwc; rw [HH.out]) | fail)
  have hc : c = ((st.idxOf n : Nat) : Int) := by
    have h := hat.symm.trans HAT.out
    injection h with h
    injection h
  exact bodyPost_ret (v := .int .i64 c) (by simp [results, Try.results90, go_sem]) rfl ⟨by rw [HIX.out, hc], Inside.refl _ _ _, by rw [HADD.out]; exact HG.out⟩

set_option maxRecDepth 100000 in
set_option maxHeartbeats 2000000 in
theorem fresh_no (lo hi q qf bm : Nat) (st : List Int) (n : Int) (h0 : 0 ≤ n) (h1 : n ≤ 25) (w : World) (hg : Gen lo hi q qf bm st w) (hn : n ∉ st) :
    Calls Try.prog 90 #[.int .i64 n, .pointer (some ⟨q, 0, none⟩)] w (GenPost lo hi q qf bm st n w) := by
  have HG := Lib.hid hg
  obtain ⟨D, hown, hD⟩ := hg.d
  have hq := hg.cq
  have hkey : keyOf Try.prog 3 (.int .i64 n) = some (kI n) := keyOf_int_mk Try.underlying3 (WalkArith.wf_i64 (by omega))
  have HH : Hid (Maps.has D (kI n) = false) := Lib.hid (by rw [hD.has]; simpa using hn)
  obtain ⟨L, hL⟩ : ∃ L, st.length = L := ⟨_, rfl⟩
  have hLl : L ≤ 26 := by rw [← hL]; exact hD.len
  have HSZ : Hid (Maps.size D = L) := Lib.hid (hD.size.trans hL)
  have HIX : Hid (ixA st n = (L : Int)) := Lib.hid (by rw [ixA_out hn, hL])
  have HADD : Hid (addV st n = st ++ [n]) := Lib.hid (by unfold addV; rw [if_neg hn])
  have HPUT : Hid (MapIs (D.put (kI n) (.lit (.int .i64 (L : Int)))) (st ++ [n])) := Lib.hid (by rw [← hL]; exact hD.put hn h0 h1)
  have HL := Lib.hid hL
  have hwf : (Lit.int .i64 (L : Int)).wf = true := WalkArith.wf_i64 (by omega)
  rw [hL] at hown
  clear hg hD hn hL
  go_enter Try.func90, Try.ntmps90
  go_wp2_with (first | (at_lookup; refine wpList_lookup_own_ok_int _ rfl _ _ 109 rfl 3 3 .i64 lawI Try.underlying109 Try.underlying3 (zeroI _) bm _ D rfl hown _ _ rfl hkey ?_; intro c hat hwc; rw [HH.out]) | (at_len; refine wpList_len_own _ rfl _ 109 rfl 3 3 Try.underlying109 _ bm _ D rfl hown ?_; rw [HSZ.out]) | (at_mapUpdate; refine wpList_mapUpdate_own _ rfl _ _ _ 109 rfl 3 3 lawI Try.underlying109 _ bm _ D rfl hown (by unfold maxLen; omega) _ _ _ rfl rfl hkey _ [] (plainElem_int Try.underlying3 hwf) ?_; intro w1 hown1 hgrow1) | fail)
  obtain ⟨gd, gq, gf, gsq, gsf, gsm, gne, gsz⟩ := HG.out
  have hne : ∀ b, b ≠ bm → some b ≠ some bm := fun b h e => h (by injection e)
  have hb1 : ∀ b, b < w.heap.size → b ≠ bm → w1.heap[b]? = w.heap[b]? := fun b h1 h2 => hgrow1.block b h1 (hne b h2)
  have hin : Inside lo hi w w1 := ⟨hgrow1.os, hgrow1.tape, hgrow1.output, hgrow1.size, fun b hb hx => hb1 b hb (by omega)⟩
  have hgen : Gen lo hi q qf bm (st ++ [n]) w1 := ⟨⟨_, by rw [List.length_append, HL.out]; exact hown1, HPUT.out⟩, (cellEq (hb1 q (by omega) gne.1)).trans gq, (cellEq (hb1 qf (by omega) gne.2)).trans gf, gsq, gsf, gsm, gne, Nat.le_trans gsz hgrow1.size⟩
  exact bodyPost_ret (v := .int .i64 (L : Int)) (by simp [results, Try.results90, go_sem]) rfl ⟨by rw [HIX.out], hin, by rw [HADD.out]; exact hgen⟩
theorem fresh_any (lo hi q qf bm : Nat) (st : List Int) (n : Int) (h0 : 0 ≤ n) (h1 : n ≤ 25) (w : World) (hg : Gen lo hi q qf bm st w) :
    Calls Try.prog 90 #[.int .i64 n, .pointer (some ⟨q, 0, none⟩)] w (GenPost lo hi q qf bm st n w) := by
  by_cases hn : n ∈ st
  · exact fresh_yes lo hi q qf bm st n h0 h1 w hg hn
  · exact fresh_no lo hi q qf bm st n h0 h1 w hg hn

/-- A variable by the generator. -/
def fF : List Int → Int → Ty × List Int := fun st n => (.node 4 (ixA st n) [], addV st n)
set_option maxRecDepth 100000 in
set_option maxHeartbeats 2000000 in
theorem canon1_any (lo hi q qf bm : Nat) (st : List Int) (n : Int) (h0 : 0 ≤ n) (h1 : n ≤ 25) (w : World) (hg : Gen lo hi q qf bm st w) :
    Calls Try.prog 57 #[.int .i64 n, .pointer (some ⟨qf, 0, none⟩)] w (RvPost (fF st n) (Gen lo hi q qf bm) lo hi w) := by
  obtain ⟨W1, hW1⟩ : ∃ W1, w.alloc (.cells #[.int .i64 0, .int .i64 0, .slice none 0 0] 25) = W1 := ⟨_, rfl⟩
  have hB1 : Below w.heap.size w W1 := by rw [← hW1]; exact (Below.refl _ _).alloc (Nat.le_refl _) _
  have HR1 : Hid (RB W1 w.heap.size) := Lib.hid (by rw [← hW1]; exact rb_new w _)
  have hz1 : W1.heap.size = w.heap.size + 1 := by rw [← hW1]; simp
  have HG1 := Lib.hid ((gen_stays lo hi q qf bm).below hg hB1)
  have HB1 := Lib.hid hB1
  have hf := HG1.out.cf
  have hzz := hg.sz
  obtain ⟨ix, hix⟩ : ∃ ix, ixA st n = ix := ⟨_, rfl⟩
  have HIX := Lib.hid hix
  clear hg hB1 hix
  go_enter Try.func57, Try.ntmps57
  go_wp2_with fail
  clear hW1
  go_at_call 90
  refine (fresh_any lo hi q qf bm st n h0 h1 _ HG1.out).mono ?_
  rintro e w1 ⟨rfl, hin, hg1⟩
  rw [HIX.out]
  have hs1 : W1.heap.size ≤ w1.heap.size := hin.size
  have HR2 := Lib.hid (HR1.out.keep hin.size (hin.block _ HR1.out.sz (.inr hzz)))
  have HI2 : Hid (Inside lo hi w w1) := Lib.hid ((Inside.of_below HB1.out).trans hin)
  have HG2 := Lib.hid hg1
  clear hin hg1 hf
  go_wp2_with fail
  go_at_call 58
  refine (varType_any _ _).mono ?_
  rintro e w2 ⟨v2, rfl, hty, hb⟩
  obtain ⟨a2, k2, rfl, _⟩ := hty.at.slice
  have HR3 := Lib.hid (HR2.out.kept hb)
  have HI3 := Lib.hid (HI2.out.trans (Inside.of_below hb))
  have HG3 := Lib.hid ((gen_stays lo hi q qf bm).below HG2.out hb)
  have HTY := Lib.hid hty
  clear hty hb
  obtain ⟨p0, p1, p2, f0, f1, f2, psz⟩ := HR3.out
  go_wp2_with fail
  refine bodyPost_ret (v := .agg #[.int .i64 4, .int .i64 ix, .slice a2 0 k2]) (by simp [results, Try.results57, go_sem, p0, p1, p2, Ty.k, Ty.n, Ty.ks]) rfl ⟨_, by unfold fF; rw [HIX.out]; rfl, ?_, in_res HI3.out (Nat.le_refl _) _ _ _, (gen_stays lo hi q qf bm).res HG3.out (by omega) _ _ _⟩
  have h := res_ty (HTY.out.wide (lo' := w.heap.size + 1) (by omega) (Nat.le_refl _)) (Nat.le_refl w.heap.size) (.int .i64 4) (.int .i64 ix) (.slice a2 0 k2)
  unfold fF
  rw [HIX.out]
  exact h

theorem freshNames_any (w : World) : Calls Try.prog 55 #[] w fun e w' => e = .returned (.func (.func 90) #[] #[.pointer (some ⟨w.heap.size + 1, 0, none⟩)]) ∧ w' = (w.alloc (.map #[] 0)).alloc (.cells #[.map (some w.heap.size)] 109) := by
  have hmm := @run_makeMap Try.prog
  go_enter Try.func55, Try.ntmps55
  go_wp2_with fail
  exact bodyPost_ret (v := .func (.func 90) #[] #[.pointer (some ⟨w.heap.size + 1, 0, none⟩)]) (by simp [results, Try.results55, go_sem]) rfl ⟨rfl, rfl⟩
theorem cell_fresh (w : World) (v : Value) (T : TypeId) : (w.alloc (.cells #[v] T)).cell? ⟨w.heap.size, 0, none⟩ = some v := by go_simp
theorem gen_new (w : World) (T : TypeId) : Gen w.heap.size (w.heap.size + 3) (w.heap.size + 1) (w.heap.size + 2) w.heap.size [] (((w.alloc (.map #[] 0)).alloc (.cells #[.map (some w.heap.size)] 109)).alloc (.cells #[.func (.func 90) #[] #[.pointer (some ⟨w.heap.size + 1, 0, none⟩)]] T)) := by
  obtain ⟨W1, hW1⟩ : ∃ W1, w.alloc (.map #[] 0) = W1 := ⟨_, rfl⟩
  have hz1 : W1.heap.size = w.heap.size + 1 := by rw [← hW1]; simp
  have hm : W1.ownsMap Try.prog 3 (plainElem (H := Unit) Try.prog 3) w.heap.size 0 (.map []) := by rw [← hW1]; exact World.ownsMap_made _ _ _ _
  rw [hW1, ← hz1]
  obtain ⟨W2, hW2⟩ : ∃ W2, W1.alloc (.cells #[.map (some w.heap.size)] 109) = W2 := ⟨_, rfl⟩
  have hz2 : W2.heap.size = W1.heap.size + 1 := by rw [← hW2]; simp
  have hb2 : Below W1.heap.size W1 W2 := by rw [← hW2]; exact (Below.refl _ _).alloc (Nat.le_refl _) _
  have c2 : W2.cell? ⟨W1.heap.size, 0, none⟩ = some (.map (some w.heap.size)) := by rw [← hW2]; exact cell_fresh _ _ _
  rw [hW2]
  have hb3 : Below W2.heap.size W2 (W2.alloc (.cells #[.func (.func 90) #[] #[.pointer (some ⟨W1.heap.size, 0, none⟩)]] T)) := (Below.refl _ _).alloc (Nat.le_refl _) _
  have e3 : w.heap.size + 2 = W2.heap.size := by omega
  rw [e3]
  refine ⟨⟨.map [], ?_, mapIs_nil⟩, ?_, ?_, by omega, by omega, by omega, by omega, by simp; omega⟩
  · exact ownsMap_block (ownsMap_block hm (hb2.block _ (by omega))) (hb3.block _ (by omega))
  · exact (hb3.cell (p := ⟨W1.heap.size, 0, none⟩) (by show W1.heap.size < _; omega)).trans c2
  · exact cell_fresh _ _ _

/-- The variables are numbered by their first occurrences. -/
theorem vars_join {d : Nat} {k : Int} {ta tb : Ty} {acc : List Int} (h : k ≠ 4) : vars (d + 1) (.node k 0 [ta, tb]) acc = vars d tb (vars d ta acc) := by
  rw [vars_kids (t := .node k 0 [ta, tb]) h]; rfl
theorem addV_pre (st : List Int) (n : Int) : st <+: addV st n := by
  unfold addV; split
  · exact List.prefix_refl _
  · exact List.prefix_append _ _
theorem addV_nodup {st : List Int} (n : Int) (h : st.Nodup) : (addV st n).Nodup := by
  unfold addV; split
  · exact h
  · rename_i hn
    rw [List.nodup_append]
    refine ⟨h, by simp, fun a ha b hb e => ?_⟩
    simp at hb
    subst hb; subst e
    exact hn ha
theorem addV_mem (st : List Int) (n : Int) : n ∈ addV st n := by
  unfold addV; split
  · assumption
  · simp
theorem lx_idx {vs : List Int} (hn : vs.Nodup) {n : Int} (h : n ∈ vs) : lx vs n vs.length = (vs.idxOf n : Nat) := by
  have hi := List.idxOf_lt_length_of_mem h
  have key : ∀ j, j ≤ vs.length → lx vs n j = if vs.idxOf n < j then ((vs.idxOf n : Nat) : Int) else 0 := by
    intro j
    induction j with
    | zero => intro _; simp [lx]
    | succ j ih =>
      intro hj
      have hjl : j < vs.length := by omega
      by_cases hv : vs.getD j 0 = n
      · rw [lx_yes hv]
        have e1 : vs[j] = n := by simpa [List.getD, hjl] using hv
        have e2 : vs.idxOf n = j := by rw [← e1]; exact hn.idxOf_getElem j hjl
        rw [e2, if_pos (by omega)]
      · rw [lx_no hv, ih (by omega)]
        have e2 : vs.idxOf n ≠ j := fun e => hv (by subst e; simp [List.getD, hi])
        by_cases hlt : vs.idxOf n < j
        · rw [if_pos hlt, if_pos (by omega)]
        · rw [if_neg hlt, if_neg (by omega)]
  rw [key _ (Nat.le_refl _), if_pos hi]
theorem rp_ren : ∀ (d : Nat) (t : Ty) (st : List Int), shp d t = true → st.Nodup → (rp fF d t st).2 = vars d t st ∧ st <+: vars d t st ∧ (vars d t st).Nodup ∧ ∀ vs, vars d t st <+: vs → vs.Nodup → (rp fF d t st).1 = ren vs d t := by
  intro d
  induction d with
  | zero => intro t st h; cases h
  | succ d ih =>
    intro t st h hst
    rcases shp_forms h with rfl | ⟨n, h0, h1, rfl⟩ | ⟨k, ta, tb, hk, rfl, ha, hb⟩
    · have e : vars (d + 1) (.node 1 0 []) st = st := by rw [vars_kids (t := .node 1 0 []) (by decide)]; rfl
      rw [e]
      exact ⟨by simp [rp], List.prefix_refl _, hst, fun vs _ _ => by simp [rp, ren]⟩
    · have e : vars (d + 1) (.node 4 n []) st = addV st n := vars_var rfl rfl
      rw [e]
      refine ⟨by simp [rp, fF], addV_pre st n, addV_nodup n hst, fun vs hp hn => ?_⟩
      have e1 : (rp fF (d + 1) (.node 4 n []) st).1 = .node 4 (ixA st n) [] := by simp [rp, fF]
      have e2 : ren vs (d + 1) (.node 4 n []) = .node 4 (lx vs n vs.length) [] := by simp [ren]
      obtain ⟨r, rfl⟩ := hp
      have hm : n ∈ addV st n ++ r := List.mem_append_left _ (addV_mem st n)
      rw [e1, e2, lx_idx hn hm, List.idxOf_append, if_pos (addV_mem st n)]
      rfl
    · have hk4 : k ≠ 4 := by omega
      obtain ⟨a1, a2, a3, a4⟩ := ih ta st ha hst
      obtain ⟨b1, b2, b3, b4⟩ := ih tb (vars d ta st) hb a3
      rw [vars_join hk4]
      have er : rp fF (d + 1) (.node k 0 [ta, tb]) st = (.node k 0 [(rp fF d ta st).1, (rp fF d tb (rp fF d ta st).2).1], (rp fF d tb (rp fF d ta st).2).2) := by simp [rp, hk4]
      rw [er, a1]
      refine ⟨b1, a2.trans b2, b3, fun vs hp hn => ?_⟩
      have e2 : ren vs (d + 1) (.node k 0 [ta, tb]) = .node k 0 [ren vs d ta, ren vs d tb] := by simp [ren, hk4]
      rw [e2, a4 vs (b2.trans hp) hn, b4 vs hp hn]
theorem rp_can {t : Ty} (h : shp 16 t = true) : (rp fF 16 t []).1 = canT t := by
  obtain ⟨_, _, h3, h4⟩ := rp_ren 16 t [] h List.nodup_nil
  exact h4 _ (List.prefix_refl _) h3

set_option maxRecDepth 100000 in
set_option maxHeartbeats 1000000 in
theorem rv_canon (F : List Int → Int → Ty × List Int) (I : List Int → World → Prop) (lo hi : Nat) (S : Stays I lo hi) (w0 : World) (hlo : w0.heap.size ≤ lo) (q : Nat)
    (hcl : ∀ (st : List Int) (n : Int) (w : World), 0 ≤ n → n ≤ 25 → Below w0.heap.size w0 w → I st w → Calls Try.prog 57 #[.int .i64 n, .pointer (some ⟨q, 0, none⟩)] w (RvPost (F st n) I lo hi w))
    (st : List Int) (n : Int) (v : Value) (w : World) (h0 : 0 ≤ n) (h1 : n ≤ 25) (hx : TyAt w0 (.node 4 n []) v) (hb : Below w0.heap.size w0 w) (hst : I st w) :
    Calls Try.prog 56 #[.agg #[.int .i64 4, .int .i64 n, v], .func (.func 57) #[] #[.pointer (some ⟨q, 0, none⟩)]] w (RvPost (F st n) I lo hi w) := by
  obtain ⟨a, cap, rfl, _⟩ := hx.slice
  have e0 : (Ty.node 4 n []).ks.length = 0 := rfl
  rw [e0]
  obtain ⟨W1, hW1⟩ : ∃ W1, (w.alloc (.cells #[.int .i64 4, .int .i64 n, .slice a 0 cap] 25)).alloc (.cells #[.int .i64 0, .int .i64 0, .slice none 0 0] 25) = W1 := ⟨_, rfl⟩
  have hB1 : Below w.heap.size w W1 := by rw [← hW1]; exact ((Below.refl _ _).alloc (Nat.le_refl _) _).alloc (by simp) _
  have HT1 : Hid (TBox W1 w.heap.size (.int .i64 4) (.int .i64 n) (.slice a 0 cap)) := Lib.hid (by rw [← hW1]; exact (tbox_new w _ _ _ _).kept ((Below.refl _ _).alloc (Nat.le_refl _) _))
  have HR1 : Hid (RB W1 (w.heap.size + 1)) := Lib.hid (by have h := rb_new (w.alloc (.cells #[.int .i64 4, .int .i64 n, .slice a 0 cap] 25)) 25; rw [sizeA, hW1] at h; exact h)
  have hz1 : W1.heap.size = w.heap.size + 2 := by rw [← hW1]; simp
  have HC := Lib.hid (hcl st n W1 h0 h1 (hb.trans (hB1.mono hb.size)) (S.below hst hB1))
  have HF1 : Hid (Inside lo hi w W1) := Lib.hid (Inside.of_below hB1)
  have hzz := S.size _ _ hst
  have HS := Lib.hid S
  obtain ⟨t0, t1, t2, tz⟩ := HT1.out
  obtain ⟨p0, p1, p2, f0, f1, f2, psz⟩ := HR1.out
  clear hcl hst hx hb hB1 S
  go_enter Try.func56, Try.ntmps56
  go_wp2_with fail
  go_at_call 57
  refine HC.out.mono ?_
  rintro e w1 ⟨v1, rfl, hty, hin, hi1⟩
  obtain ⟨a1, k1, rfl, _⟩ := hty.at.slice
  have HR2 := Lib.hid (HR1.out.keep hin.size (hin.block _ HR1.out.sz (.inr (by omega))))
  have HF2 := Lib.hid (HF1.out.trans hin)
  have HTY := Lib.hid hty
  have HI1 := Lib.hid hi1
  have hz2 : W1.heap.size ≤ w1.heap.size := hin.size
  clear hW1 p0 p1 p2 f0 f1 f2 psz t0 t1 t2 tz hty hin hi1
  obtain ⟨p0, p1, p2, f0, f1, f2, psz⟩ := HR2.out
  go_wp2_with fail
  exact bodyPost_ret (v := .agg #[.int .i64 (F st n).1.k, .int .i64 (F st n).1.n, .slice a1 (F st n).1.ks.length k1]) (by simp [results, Try.results56, go_sem, p0, p1, p2]) rfl ⟨_, rfl, res_ty (HTY.out.wide (by omega) (Nat.le_refl _)) (Nat.le_succ _) _ _ _, in_res HF2.out (Nat.le_succ _) _ _ _, HS.out.res HI1.out (by omega) _ _ _⟩

end Go.Proofs.Ytndpoejohpmifaa

