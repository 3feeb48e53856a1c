/-
UnifyTypes of the model: the most general type that two types become, its variables numbered anew.
canonAt of the program's graph: the type at a node, if it is one.
UnifyTypes of the program.
What the draws of the arguments of TypeSame and of one type return. Nothing that was in memory changes.
-/
import Derived.Test.YtjhccdioainibaaW25
import Derived.Test.YtjhccdioainibaaW26
import Derived.Test.YtjhccdioainibaaW20
import Derived.Test.YtjhccdioainibaaW17
namespace Go.Proofs.Ytjhccdioainibaa
open Go.RowKit
set_option linter.unusedVariables false
set_option linter.unusedSimpArgs false

/-- The result of UnifyTypes. -/
noncomputable def unT (a b : Ty) : Option Ty := if tvT a = true ∧ tvT b = true then uniT a b else none
theorem unT_a {a b : Ty} (h : tvT a = false) : unT a b = none := by unfold unT; rw [if_neg (fun e => by rw [h] at e; cases e.1)]
theorem unT_b {a b : Ty} (h : tvT b = false) : unT a b = none := by unfold unT; rw [if_neg (fun e => by rw [h] at e; cases e.2)]
theorem unT_ab {a b : Ty} (h1 : tvT a = true) (h2 : tvT b = true) : unT a b = uniT a b := by unfold unT; rw [if_pos ⟨h1, h2⟩]
theorem can_canT {t : Ty} (h : shp 16 t = true) : can t = canT t := rp_can h
theorem vars_small {t : Ty} (h : shp 16 t = true) : (vars 16 t []).length ≤ 26 := by
  refine nodup_len2 26 _ (vars_nodup 16 t [] h List.nodup_nil) (fun x hx => ?_)
  rcases (vars_occ 16 t [] x h).1 hx with h1 | h1
  · exact absurd h1 List.not_mem_nil
  · have := occ_range 16 t x h h1
    exact ⟨this.1, by omega⟩
theorem canT_nd {t : Ty} (h : shp 16 t = true) : shp 16 (canT t) = true ∧ nd 16 (canT t) = nd 16 t := ren_ok (vars 16 t []) (vars_small h) 16 t h
/-- A most general type with the model's variables decides. -/
theorem uni_res {a b u : Ty} (h : Prin a b u) (hu : Wt 26 u) : uniT a b = if tvT u = true then some (canT u) else none := by
  by_cases hv : tvT u = true
  · have hs := tvT_shp hv
    rw [if_pos hv, ← can_canT hs]
    exact uniT_yes h (dp_of_shp 16 u hs) (by rw [can_canT hs]; exact canT_valid hv)
  · rw [if_neg hv]
    refine uniT_no (fun t ht hd hc => hv ?_)
    obtain ⟨r, s, hr⟩ := ht.rn h
    have hs := shp_of_wt hu 16 (hr.dp 16 hd)
    rw [← can_rn hr hd, can_canT hs] at hc
    have h2 := canT_nd hs
    unfold tvT at hc ⊢
    rw [h2.1, h2.2] at hc
    rw [hs]
    exact hc
theorem uni_none {a b : Ty} (h : ∀ t, Prin a b t → False) : uniT a b = none := uniT_no (fun t ht _ _ => h t ht)
theorem TyOk.n {w : World} {t : Ty} {v : Value} (h : TyOk w t v) {E : Nat} (hE : w.heap.size ≤ E) : TyN w 0 E t v := by
  induction h with
  | bare k n a cap => exact .bare k n a cap
  | row k n ks b o cap vs hr hl h0 h1 h2 _ ih => exact .row k n ks b o cap vs (Nat.zero_le _) (by have := hr.lt; omega) hr hl h0 h1 h2 ih
/-- The row of 26 types that are not bound. -/
theorem bat_new (w : World) (kb : Nat) (h : w.heap.size = kb) : BAt w (w.alloc (.cells Mx.rowZ 28)) kb 26 (fun _ => none) Mx.rowZ.toList :=
  ⟨Mx.kr_new w kb h, fun i hi _ => Mx.rowZ_at i hi, fun i hi t e => by cases e⟩
theorem nodes_nd {t : Ty} : ∀ {d : Nat}, shp d t = true → nodes t = nd d t := by
  intro d h
  induction d generalizing t with
  | zero => cases h
  | succ d ih =>
    rcases shp_forms h with rfl | ⟨n, n0, n1, rfl⟩ | ⟨k, a, b, hk, rfl, ha, hb⟩
    · rw [nd_leaf]; rfl
    · rw [nd_leaf]; rfl
    · rw [nd_two, nodes_two, ih ha, ih hb]; omega
theorem tvT_nodes {t : Ty} (h : 63 < nodes t) : tvT t = false := by
  rcases e : tvT t with _ | _
  · rfl
  · have hs := tvT_shp e
    unfold tvT at e
    rw [hs, ← nodes_nd hs] at e
    simp at e
    omega

set_option maxRecDepth 100000 in
set_option maxHeartbeats 8000000 in
theorem unifyTypes_spec (a b : Ty) (va vb : Value) (w : World) (ha : TyOk w a va) (hb : TyOk w b vb) (r : Option Ty) (hr : unT a b = r) :
    Calls Try.prog 9 #[.agg #[.int .i64 a.k, .int .i64 a.n, va], .agg #[.int .i64 b.k, .int .i64 b.n, vb]] w (OptRet r w) := by
  have HVA := Lib.hid ha
  have HVB := Lib.hid hb
  obtain ⟨av, ac, rfl, _⟩ := ha.at.slice
  obtain ⟨bv, bc, rfl, _⟩ := hb.at.slice
  obtain ⟨S, hS⟩ : ∃ S, w.heap.size = S := ⟨_, rfl⟩
  have HRR := Lib.hid hr
  clear ha hb hr
  obtain ⟨W1, hW1⟩ : ∃ W, ((w.alloc (.cells #[.int .i64 a.k, .int .i64 a.n, .slice av a.ks.length ac] 28)).alloc (.cells #[.int .i64 b.k, .int .i64 b.n, .slice bv b.ks.length bc] 28)).alloc (.cells #[.int .i64 0, .int .i64 0, .slice none 0 0] 28) = W := ⟨_, rfl⟩
  have HB1 : Hid (Below w.heap.size w W1) := Lib.hid (by rw [← hW1]; exact (((Below.refl _ _).alloc (Nat.le_refl _) _).alloc (by simp) _).alloc (by simp; omega) _)
  have HX1 : Hid (OC W1 S a.k a.n (.slice av a.ks.length ac)) := Lib.hid (by
    rw [← hW1, ← hS]; exact ((oc_new w _ _ _ _).kept ((Below.refl _ _).alloc (Nat.le_refl _) _)).kept ((Below.refl _ _).alloc (Nat.le_refl _) _))
  have HY1 : Hid (OC W1 (S + 1) b.k b.n (.slice bv b.ks.length bc)) := Lib.hid (by
    have h := (oc_new (w.alloc (.cells #[.int .i64 a.k, .int .i64 a.n, .slice av a.ks.length ac] 28)) b.k b.n (.slice bv b.ks.length bc) 28).kept ((Below.refl _ _).alloc (Nat.le_refl _) (.cells #[.int .i64 0, .int .i64 0, .slice none 0 0] 28))
    rw [hW1, sizeA', hS] at h; exact h)
  have HZ1 : Hid (OC W1 (S + 1 + 1) 0 0 (.slice none 0 0)) := Lib.hid (by
    have h := oc_new ((w.alloc (.cells #[.int .i64 a.k, .int .i64 a.n, .slice av a.ks.length ac] 28)).alloc (.cells #[.int .i64 b.k, .int .i64 b.n, .slice bv b.ks.length bc] 28)) 0 0 (.slice none 0 0) 28
    rw [hW1, sizeA', sizeA', hS] at h; exact h)
  have HW1 := Lib.hid hW1
  have HS := Lib.hid hS
  clear hW1
  obtain ⟨x0, x1, x2, xf0, xf1, xf2, xz⟩ := HX1.out
  rcases h1 : tvT a with _ | _
  · have H1 := Lib.hid h1
    have HN : Hid (r = none) := Lib.hid (by rw [← HRR.out]; exact unT_a h1)
    clear h1
    go_enter Try.func9, Try.ntmps9
    go_wp2_with fail
    rw [HW1.out]
    try rw [hS]
    clear hS
    go_wp2_with fail
    go_at_call 23
    refine (typeValid_spec a _ W1 (HVA.out.at.kept HB1.out)).mono ?_
    rintro e w2 ⟨rfl, hb2⟩
    rw [H1.out]
    have HB2 := Lib.hid (HB1.out.trans (hb2.mono HB1.out.size))
    have HZ2 := Lib.hid (HZ1.out.kept hb2)
    clear hb2 x0 x1 x2 xf0 xf1 xf2 xz
    obtain ⟨z0, z1, z2, zf0, zf1, zf2, zz⟩ := HZ2.out
    go_wp2_with fail
    rw [HN.out]
    refine bodyPost_ret (v := .tuple #[.agg #[.int .i64 0, .int .i64 0, .slice none 0 0], .bool false]) (by simp [results, Try.results9, go_sem, z0, z1, z2]) rfl ⟨rfl, below_set3 HB2.out (S := S + 1 + 1) (by rw [HS.out]; omega) _ _ _⟩
  have H1 := Lib.hid h1
  rcases h2 : tvT b with _ | _
  · have H2 := Lib.hid h2
    have HN : Hid (r = none) := Lib.hid (by rw [← HRR.out]; exact unT_b h2)
    clear h1 h2
    go_enter Try.func9, Try.ntmps9
    go_wp2_with fail
    rw [HW1.out]
    try rw [hS]
    clear hS
    go_wp2_with fail
    go_at_call 23
    refine (typeValid_spec a _ W1 (HVA.out.at.kept HB1.out)).mono ?_
    rintro e w2 ⟨rfl, hb2⟩
    rw [H1.out]
    have HB2 := Lib.hid (HB1.out.trans (hb2.mono HB1.out.size))
    have HY2 := Lib.hid (HY1.out.kept hb2)
    have HZ2 := Lib.hid (HZ1.out.kept hb2)
    clear hb2 x0 x1 x2 xf0 xf1 xf2 xz
    obtain ⟨y0, y1, y2, yf0, yf1, yf2, yz⟩ := HY2.out
    go_wp2_with fail
    go_at_call 23
    refine (typeValid_spec b _ w2 (HVB.out.at.kept HB2.out)).mono ?_
    rintro e w3 ⟨rfl, hb3⟩
    rw [H2.out]
    have HB3 := Lib.hid (HB2.out.trans (hb3.mono HB2.out.size))
    have HZ3 := Lib.hid (HZ2.out.kept hb3)
    clear hb3 y0 y1 y2 yf0 yf1 yf2 yz
    obtain ⟨z0, z1, z2, zf0, zf1, zf2, zz⟩ := HZ3.out
    go_wp2_with fail
    rw [HN.out]
    refine bodyPost_ret (v := .tuple #[.agg #[.int .i64 0, .int .i64 0, .slice none 0 0], .bool false]) (by simp [results, Try.results9, go_sem, z0, z1, z2]) rfl ⟨rfl, below_set3 HB3.out (S := S + 1 + 1) (by rw [HS.out]; omega) _ _ _⟩
  have H2 := Lib.hid h2
  have HUN : Hid (r = uniT a b) := Lib.hid (by rw [← HRR.out]; exact unT_ab h1 h2)
  have HWA := Lib.hid (wt_of_shp 16 a (tvT_shp h1))
  have HWB := Lib.hid (wt_of_shp 16 b (tvT_shp h2))
  clear h1 h2
  go_enter Try.func9, Try.ntmps9
  go_wp2_with fail
  rw [HW1.out]
  try rw [hS]
  clear hS
  go_wp2_with fail
  go_at_call 23
  refine (typeValid_spec a _ W1 (HVA.out.at.kept HB1.out)).mono ?_
  rintro e w2 ⟨rfl, hb2⟩
  rw [H1.out]
  have HB2 := Lib.hid (HB1.out.trans (hb2.mono HB1.out.size))
  have HX2 := Lib.hid (HX1.out.kept hb2)
  have HY2 := Lib.hid (HY1.out.kept hb2)
  have HZ2 := Lib.hid (HZ1.out.kept hb2)
  clear hb2 x0 x1 x2 xf0 xf1 xf2 xz
  obtain ⟨y0, y1, y2, yf0, yf1, yf2, yz⟩ := HY2.out
  go_wp2_with fail
  go_at_call 23
  refine (typeValid_spec b _ w2 (HVB.out.at.kept HB2.out)).mono ?_
  rintro e w3 ⟨rfl, hb3⟩
  rw [H2.out]
  have HB3 := Lib.hid (HB2.out.trans (hb3.mono HB2.out.size))
  have HX3 := Lib.hid (HX2.out.kept hb3)
  have HY3 := Lib.hid (HY2.out.kept hb3)
  have HZ3 := Lib.hid (HZ2.out.kept hb3)
  clear hb3 y0 y1 y2 yf0 yf1 yf2 yz
  obtain ⟨kb, hkb⟩ : ∃ kb, w3.heap.size = kb := ⟨_, rfl⟩
  obtain ⟨W4, hW4⟩ : ∃ W, w3.alloc (.cells Mx.rowZ 28) = W := ⟨_, rfl⟩
  have hb4 : Below w3.heap.size w3 W4 := by rw [← hW4]; exact (Below.refl _ _).alloc (Nat.le_refl _) _
  have HX4 := Lib.hid (HX3.out.kept hb4)
  have HY4 := Lib.hid (HY3.out.kept hb4)
  have HZ4 := Lib.hid (HZ3.out.kept hb4)
  have HB4 := Lib.hid (HB3.out.trans (hb4.mono HB3.out.size))
  have HA4 : Hid (BAt w3 W4 kb 26 (fun _ => none) Mx.rowZ.toList) := Lib.hid (by rw [← hW4]; exact bat_new w3 kb hkb)
  have HI4 : Hid (Inside kb (kb + 1) w3 W4) := Lib.hid (in_below hb4)
  have HNA : Hid (TyN w3 0 kb a (.slice av a.ks.length ac)) := Lib.hid ((HVA.out.kept HB3.out).n (Nat.le_of_eq hkb))
  have HNB : Hid (TyN w3 0 kb b (.slice bv b.ks.length bc)) := Lib.hid ((HVB.out.kept HB3.out).n (Nat.le_of_eq hkb))
  have HKB := Lib.hid hkb
  have hkS : S + 1 + 1 < kb := by rw [← hkb]; exact HZ3.out.sz
  have HW4 := Lib.hid hW4
  obtain ⟨ua, hua⟩ := ful_exists (bok_none 26) HWA.out
  have HUA := Lib.hid hua
  obtain ⟨x0, x1, x2, xf0, xf1, xf2, xz⟩ := HX4.out
  obtain ⟨y0, y1, y2, yf0, yf1, yf2, yz⟩ := HY4.out
  have hmk := Mx.make_run
  clear hb4 hua
  go_wp2_with fail
  clear hW4 hkb hmk
  go_at_call 24
  refine (l2Unify_any w3 kb 26 (by omega) _ _ (fun _ => none) _ a b ua _ _ W4 (Nat.lt_succ_self _) (Nat.lt_succ_self _) HUA.out (bok_none 26) HWA.out HWB.out HNA.out HNB.out HI4.out HA4.out).mono ?_
  rintro e w5 ⟨z, B', xs', rfl, hu5, hb5, hi5⟩
  have HU5 := Lib.hid hu5
  have HA5 := Lib.hid hb5
  have HX5 := Lib.hid (HX4.out.keep hi5.size (hi5.block _ HX4.out.sz (.inl (by omega))))
  have HZ5 := Lib.hid (HZ4.out.keep hi5.size (hi5.block _ HZ4.out.sz (.inl (by omega))))
  have HI5 := Lib.hid (HI4.out.trans hi5)
  have HB5 : Hid (Below w.heap.size w w5) := Lib.hid (hi5.below (by have := HB3.out.size; have := HKB.out; omega) HB4.out HB4.out.size)
  clear hu5 hb5 hi5 x0 x1 x2 xf0 xf1 xf2 xz y0 y1 y2 yf0 yf1 yf2 yz
  obtain ⟨x0, x1, x2, xf0, xf1, xf2, xz⟩ := HX5.out
  obtain ⟨z0, z1, z2, zf0, zf1, zf2, zz⟩ := HZ5.out
  rcases hz : z with _ | _
  · have HN : Hid (r = none) := Lib.hid (by rw [HUN.out]; exact uni_none (fun t ht => by rw [hz] at HU5; exact prin_no HU5.out ht))
    subst hz
    go_wp2_with fail
    rw [HN.out]
    refine bodyPost_ret (v := .tuple #[.agg #[.int .i64 0, .int .i64 0, .slice none 0 0], .bool false]) (by simp [results, Try.results9, go_sem, z0, z1, z2]) rfl ⟨rfl, below_set3 HB5.out (S := S + 1 + 1) (by rw [HS.out]; omega) _ _ _⟩
  subst hz
  obtain ⟨u, hu⟩ := ful_exists HU5.out.ok HWA.out
  have HU := Lib.hid hu
  have HPR := Lib.hid (prin_model HWA.out HU5.out hu)
  have HWU := Lib.hid (ful_wt HU5.out.ok hu HWA.out).1
  have HRES : Hid (r = if tvT u = true then some (canT u) else none) := Lib.hid (by rw [HUN.out]; exact uni_res HPR.out HWU.out)
  clear hu
  go_wp2_with fail
  go_at_call 25
  refine (l2Full_any w3 kb 26 B' xs' HU5.out.ok (by omega) _ a u _ 63 w5 (Nat.lt_succ_self _) (by omega) HU.out HWA.out HNA.out HI5.out HA5.out).mono ?_
  rintro e w6 ⟨y, v6, left, rfl, hty6, hb6, hf6, hn6⟩
  obtain ⟨a6, k6, rfl, _⟩ := hty6.at.slice
  have HB6 := Lib.hid (HB5.out.trans (hb6.mono HB5.out.size))
  have HZ6 := Lib.hid (HZ5.out.kept hb6)
  have HF6 := Lib.hid hf6
  have HN6 := Lib.hid hn6
  have HTY6 := Lib.hid (hty6.wide (lo' := w.heap.size) (by have := HB5.out.size; omega) (Nat.le_refl _))
  clear hty6 hb6 hf6 hn6 x0 x1 x2 xf0 xf1 xf2 xz z0 z1 z2 zf0 zf1 zf2 zz
  obtain ⟨q0, hq0⟩ : ∃ q, w6.heap.size = q := ⟨_, rfl⟩
  obtain ⟨W7, hW7⟩ : ∃ W, w6.alloc (.cells #[.int .i64 y.k, .int .i64 y.n, .slice a6 y.ks.length k6] 28) = W := ⟨_, rfl⟩
  have hb7 : Below w6.heap.size w6 W7 := by rw [← hW7]; exact (Below.refl _ _).alloc (Nat.le_refl _) _
  have HO7 : Hid (OC W7 w6.heap.size y.k y.n (.slice a6 y.ks.length k6)) := Lib.hid (by rw [← hW7]; exact oc_new w6 _ _ _ _)
  have HZ7 := Lib.hid (HZ6.out.kept hb7)
  have HB7 := Lib.hid (HB6.out.trans (hb7.mono HB6.out.size))
  have HTY7 := Lib.hid ((HTY6.out.kept hb7).wide (Nat.le_refl _) hb7.size)
  obtain ⟨o0, o1, o2, of0, of1, of2, oz⟩ := HO7.out
  obtain ⟨z0, z1, z2, zf0, zf1, zf2, zz⟩ := HZ7.out
  clear hb7 hq0 q0
  by_cases hn : nodes u ≤ 63
  case neg =>
    have HN : Hid (r = none) := Lib.hid (by rw [HRES.out, tvT_nodes (by omega), if_neg (by decide)])
    have hl := HN6.out (by omega)
    subst hl
    clear hn
    go_wp2_with fail
    rw [HN.out]
    refine bodyPost_ret (v := .tuple #[.agg #[.int .i64 0, .int .i64 0, .slice none 0 0], .bool false]) (by simp [results, Try.results9, go_sem, z0, z1, z2]) rfl ⟨rfl, below_set3 HB7.out (S := S + 1 + 1) (by rw [HS.out]; omega) _ _ _⟩
  obtain ⟨hl1, hl2⟩ := HF6.out hn
  have hl3 : ¬ left < 0 := by omega
  subst hl2
  clear hl1 hn
  rcases hv : tvT y with _ | _
  · have HV := Lib.hid hv
    have HN : Hid (r = none) := Lib.hid (by rw [HRES.out, hv, if_neg (by decide)])
    clear hv
    go_wp2_with fail
    go_at_call 23
    refine (typeValid_spec y _ W7 HTY7.out.at).mono ?_
    rintro e w8 ⟨rfl, hb8⟩
    rw [HV.out]
    have HB8 := Lib.hid (HB7.out.trans (hb8.mono HB7.out.size))
    have HZ8 := Lib.hid (HZ7.out.kept hb8)
    clear hb8 hW7 o0 o1 o2 of0 of1 of2 oz z0 z1 z2 zf0 zf1 zf2 zz
    obtain ⟨z0, z1, z2, zf0, zf1, zf2, zz⟩ := HZ8.out
    go_wp2_with fail
    rw [HN.out]
    refine bodyPost_ret (v := .tuple #[.agg #[.int .i64 0, .int .i64 0, .slice none 0 0], .bool false]) (by simp [results, Try.results9, go_sem, z0, z1, z2]) rfl ⟨rfl, below_set3 HB8.out (S := S + 1 + 1) (by rw [HS.out]; omega) _ _ _⟩
  have HV := Lib.hid hv
  have HSH := Lib.hid (tvT_shp hv)
  obtain ⟨T, hT⟩ : ∃ T, canT y = T := ⟨_, rfl⟩
  have HT := Lib.hid hT
  have HN : Hid (r = some T) := Lib.hid (by rw [HRES.out, hv, if_pos rfl, hT])
  clear hv hT
  go_wp2_with fail
  go_at_call 23
  refine (typeValid_spec y _ W7 HTY7.out.at).mono ?_
  rintro e w8 ⟨rfl, hb8⟩
  rw [HV.out]
  have HB8 := Lib.hid (HB7.out.trans (hb8.mono HB7.out.size))
  have HZ8 := Lib.hid (HZ7.out.kept hb8)
  have HO8 := Lib.hid (HO7.out.kept hb8)
  have HTY8 := Lib.hid (HTY7.out.kept hb8)
  clear hb8 hW7 o0 o1 o2 of0 of1 of2 oz z0 z1 z2 zf0 zf1 zf2 zz
  obtain ⟨o0, o1, o2, of0, of1, of2, oz⟩ := HO8.out
  go_wp2_with fail
  go_at_call 26
  refine (l2Canon_any y _ w8 HSH.out HTY8.out.at T HT.out).mono ?_
  rintro e w9 ⟨v9, rfl, hty9, hb9⟩
  obtain ⟨a9, k9, rfl, _⟩ := hty9.at.slice
  have HB9 := Lib.hid (HB8.out.trans (hb9.mono HB8.out.size))
  have HZ9 := Lib.hid (HZ8.out.kept hb9)
  have HTY9 := Lib.hid hty9
  have hs8 : S + 1 + 1 < w8.heap.size := HZ8.out.sz
  have hs8w : w.heap.size ≤ w8.heap.size := HB8.out.size
  clear hty9 hb9 o0 o1 o2 of0 of1 of2 oz
  obtain ⟨z0, z1, z2, zf0, zf1, zf2, zz⟩ := HZ9.out
  obtain ⟨TL, hTL⟩ : ∃ n, T.ks.length = n := ⟨_, rfl⟩
  have HTL := Lib.hid hTL
  rw [hTL] at HTY9 ⊢
  clear hTL
  go_wp2_with fail
  rw [HN.out]
  refine bodyPost_ret (v := .tuple #[.agg #[.int .i64 T.k, .int .i64 T.n, .slice a9 TL k9], .bool true]) (by simp [results, Try.results9, go_sem, z0, z1, z2]) rfl ⟨_, rfl, ?_, below_set3 HB9.out (S := S + 1 + 1) (by rw [HS.out]; omega) _ _ _⟩
  refine (HTY9.out.keep (by simp) (fun q h1 _ _ => ?_)).wide (by omega) (by simp)
  rw [heap_setCell_other _ ⟨S + 1 + 1, 2, none⟩ q _ (by show q ≠ S + 1 + 1; omega), heap_setCell_other _ ⟨S + 1 + 1, 1, none⟩ q _ (by show q ≠ S + 1 + 1; omega), heap_setCell_other _ ⟨S + 1 + 1, 0, none⟩ q _ (by show q ≠ S + 1 + 1; omega)]

end Go.Proofs.Ytjhccdioainibaa

namespace Go.Proofs.Ytjhccdioainibaa.Nx
open Go.Proofs.Ytjhccdioainibaa Go.Proofs.Ytjhccdioainibaa.Mx
open Go.RowKit
set_option linter.unusedVariables false
set_option linter.unusedSimpArgs false

/-- The type at the node n. -/
def caR (sh : Nat → Sh) (rep : Nat → Nat) (n : Nat) : Option Ty := match rt sh rep 16 n with
  | none => none
  | some u => if tvT (can u) = true then some (can u) else none
theorem caR_none {sh : Nat → Sh} {rep : Nat → Nat} {n : Nat} (h : rt sh rep 16 n = none) : caR sh rep n = none := by unfold caR; rw [h]
theorem caR_yes {sh : Nat → Sh} {rep : Nat → Nat} {n : Nat} {u : Ty} (h : rt sh rep 16 n = some u) (h2 : tvT (can u) = true) : caR sh rep n = some (can u) := by unfold caR; rw [h]; exact if_pos h2
theorem caR_no {sh : Nat → Sh} {rep : Nat → Nat} {n : Nat} {u : Ty} (h : rt sh rep 16 n = some u) (h2 : tvT (can u) = false) : caR sh rep n = none := by unfold caR; rw [h]; exact if_neg (by rw [h2]; decide)
/-- The program's way to the most general type. -/
theorem canon_res {M : Nat} {sh : Nat → Sh} {vm : Int → Option Nat} {rep : Nat → Nat} {ra rb : Nat} {a b : Ty} (hg : GAdd M sh vm) (hna : Nd sh vm M ra a) (hnb : Nd sh vm M rb b) (h : GUni M sh id rep ra rb true) : uniT a b = caR sh rep ra := by
  obtain ⟨p1, p2⟩ := prin_graph hg hna hnb h 16
  rcases hr : rt sh rep 16 ra with _ | u
  · rw [caR_none hr]
    exact uniT_no (fun t ht hd _ => p2 hr t ht hd)
  · obtain ⟨hp, hd⟩ := p1 u hr
    rcases hv : tvT (can u) with _ | _
    · rw [caR_no hr hv]
      refine uniT_no (fun t ht hdt hc => ?_)
      obtain ⟨r, s, hrn⟩ := ht.rn hp
      rw [← can_rn hrn hdt, hv] at hc
      cases hc
    · rw [caR_yes hr hv]
      exact uniT_yes hp hd hv
/-- What canonAt leaves. -/
def CaPost (n0 : Nat) (r : Option Ty) (w : World) (e : Ending) (w' : World) : Prop :=
  Below n0 w w' ∧ ∃ v, e = .returned (.tuple #[.agg #[.int .i64 (optT r).k, .int .i64 (optT r).n, v], .bool r.isSome]) ∧ TyIn w' w.heap.size w'.heap.size (optT r) v ∧ (r = none → v = .slice none 0 0)
theorem Kp.low {am lo hi n0 : Nat} {w w' : World} (h : Kp am lo hi w w') (h1 : n0 ≤ am) (h2 : n0 ≤ lo) (h3 : n0 ≤ w.heap.size) : Below n0 w w' := ⟨h.os, h.tape, h.output, h.size, fun b hb => h.block b (by omega) (by omega) (.inl (by omega))⟩
theorem low_res {n0 R : Nat} {w W : World} (h : Below n0 w W) (hR : n0 ≤ R) (x y z : Value) : Below n0 w (((W.setCell ⟨R, 0, none⟩ x).setCell ⟨R, 1, none⟩ y).setCell ⟨R, 2, none⟩ z) :=
  ⟨h.os, h.tape, h.output, by simpa using h.size, fun b hb => (heap_res (by omega)).trans (h.block b hb)⟩

set_option maxRecDepth 100000 in
set_option maxHeartbeats 8000000 in
theorem canonAt_any (n0 gb am vb M : Nat) (sh : Nat → Sh) (rep dp : Nat → Nat) (vm : Int → Option Nat) (sv : Value) (MA MV : List IV) (hok : GOk M sh rep) (hMM : M ≤ 1000000) (n : Nat) (hn : n < M) (w : World) (hg : GM w n0 gb am vb M sh rep dp vm sv MA MV) (r : Option Ty) (hr : caR sh rep n = r) :
    Calls Try.prog 32 #[.pointer (some ⟨gb, 0, none⟩), .int .i64 (n : Int)] w (CaPost n0 r w) := by
  obtain ⟨g, cap, rfl⟩ := hg.row (by omega)
  have HRR := Lib.hid hr
  have HOK := Lib.hid hok
  have hgl := hg.gl
  have hal := hg.ma.lt
  have hvl := hg.mv.lt
  have hrl : g < w.heap.size := (own_low hg.own rfl).2
  obtain ⟨m1, m2, m3⟩ := hg.lo
  obtain ⟨R, hR⟩ : ∃ R, w.heap.size = R := ⟨_, rfl⟩
  obtain ⟨W1, hW1⟩ : ∃ W1, w.alloc (.cells #[.int .i64 0, .int .i64 0, .slice none 0 0] 28) = W1 := ⟨_, rfl⟩
  have hB1 : Below w.heap.size w W1 := by rw [← hW1]; exact (Below.refl _ _).alloc (Nat.le_refl _) _
  have HR1 : Hid (RB W1 R) := Lib.hid (by rw [← hW1, ← hR]; exact rb_new w _)
  have hz1 : W1.heap.size = R + 1 := by rw [← hW1, ← hR]; simp
  have HG1 := Lib.hid (hg.kept hB1)
  have HB1 : Hid (Below n0 w W1) := Lib.hid (hB1.mono (by omega))
  have HRz := Lib.hid hR
  rw [hR] at hgl hal hvl hrl
  clear hg hok hr hB1
  go_enter Try.func32, Try.ntmps32
  go_wp2_with fail
  try rw [hR]
  clear hW1 hR
  go_at_call 65
  refine (freshNames_any W1).mono ?_
  rintro e w2 ⟨rfl, hw2⟩
  have hgn2 : Gen W1.heap.size (W1.heap.size + 2) (W1.heap.size + 1) W1.heap.size [] w2 := by rw [hw2]; exact gen_new W1
  have hB2 : Below W1.heap.size W1 w2 := by rw [hw2]; exact ((Below.refl _ _).alloc (Nat.le_refl _) _).alloc (by simp) _
  have hz2 : w2.heap.size = W1.heap.size + 2 := by rw [hw2]; simp
  have HGN2 := Lib.hid hgn2
  have HGG2 : Hid (GG w2 W1.heap.size (W1.heap.size + 2) (W1.heap.size + 1) W1.heap.size n0 gb am vb M sh rep vm g cap MV) := Lib.hid ⟨⟨dp, MA, HG1.out.kept hB2⟩, by omega, by omega, by omega, by omega, by omega, by omega⟩
  have HR2 := Lib.hid (HR1.out.kept hB2)
  have HB2 := Lib.hid (HB1.out.trans (hB2.mono (by omega)))
  have HTA := Lib.hid (typeAt_any W1.heap.size (W1.heap.size + 2) (W1.heap.size + 1) W1.heap.size n0 gb am vb M sh rep vm g cap MV HOK.out hMM 16 n [] w2 (by omega) hn HGG2.out HGN2.out)
  rw [show ((16 : Nat) : Int) = 16 from rfl] at HTA
  have HZ1 := Lib.hid hz1
  have HZ2 := Lib.hid hz2
  clear hgn2 hB2 hw2 hz1 hz2
  go_wp2_with fail
  go_at_call 64
  refine HTA.out.mono ?_
  rintro e w4 hp
  have hz1 := HZ1.out
  have hz2 := HZ2.out
  have HR4 := Lib.hid (HR2.out.keep hp.kp.size (hp.kp.block R HR2.out.sz (by omega) (.inl (by omega))))
  have HB4 : Hid (Below n0 w w4) := Lib.hid (HB2.out.trans (hp.kp.low (by omega) (by omega) (by omega)))
  have hz4 : w2.heap.size ≤ w4.heap.size := hp.kp.size
  rcases h1 : rt sh rep 16 n with _ | u
  · obtain rfl := hp.no h1
    have HN : Hid (r = none) := Lib.hid (by rw [← HRR.out]; exact caR_none h1)
    have hbz : Below w4.heap.size w4 (w4.alloc (.cells #[.int .i64 0, .int .i64 0, .slice none 0 0] 28)) := (Below.refl _ _).alloc (Nat.le_refl _) _
    have HB5 := Lib.hid (HB4.out.trans (hbz.mono (by omega)))
    obtain ⟨p0, p1, p2, f0, f1, f2, psz⟩ := HR4.out.kept hbz
    clear hp h1 hbz
    go_wp2_with fail
    rw [HN.out]
    exact bodyPost_ret (v := .tuple #[.agg #[.int .i64 0, .int .i64 0, .slice none 0 0], .bool false]) (by simp [results, Try.results32, go_sem, p0, p1, p2, psz]) rfl ⟨low_res HB5.out (by omega) _ _ _, _, rfl, .bare _ _ _ _ _ _, fun _ => rfl⟩
  · obtain ⟨v4, rfl, hty, hgn⟩ := hp.yes u h1
    obtain ⟨x, hx⟩ : ∃ x, can u = x := ⟨_, rfl⟩
    have hx' : (rp fF 16 u []).1 = x := hx
    rw [hx'] at hty ⊢
    obtain ⟨a4, k4, rfl, _⟩ := hty.at.slice
    have HTY := Lib.hid hty
    obtain ⟨T5, hT5⟩ : ∃ T, w4.heap.size = T := ⟨_, rfl⟩
    obtain ⟨W5, hW5⟩ : ∃ W, w4.alloc (.cells #[.int .i64 x.k, .int .i64 x.n, .slice a4 x.ks.length k4] 28) = W := ⟨_, rfl⟩
    have hB5 : Below w4.heap.size w4 W5 := by rw [← hW5]; exact (Below.refl _ _).alloc (Nat.le_refl _) _
    have HX5 : Hid (TBox W5 T5 (.int .i64 x.k) (.int .i64 x.n) (.slice a4 x.ks.length k4)) := Lib.hid (by rw [← hT5, ← hW5]; exact tbox_new w4 _ _ _ _)
    have HR5 := Lib.hid (HR4.out.kept hB5)
    have HB5 := Lib.hid (HB4.out.trans (hB5.mono (by omega)))
    have HTY5 := Lib.hid (HTY.out.kept hB5)
    have hz5 : W5.heap.size = T5 + 1 := by rw [← hW5, ← hT5]; simp
    obtain ⟨y0, y1, y2, yz⟩ := HX5.out
    rcases hv : tvT x with _ | _
    · have HN : Hid (r = none) := Lib.hid (by rw [← HRR.out]; exact caR_no h1 (by rw [hx]; exact hv))
      have HV := Lib.hid hv
      clear hp h1 hx hx' hty hgn hB5 hv
      go_wp2_with fail
      go_at_call 28
      refine (typeValid_impl_val HV.out _ _ HTY5.out.at).mono ?_
      rintro e w6 ⟨rfl, hb6⟩
      have HB6 := Lib.hid (HB5.out.trans (hb6.mono (by omega)))
      obtain ⟨p0, p1, p2, f0, f1, f2, psz⟩ := HR5.out.kept hb6
      clear hb6 y0 y1 y2 hW5
      go_wp2_with fail
      rw [HN.out]
      exact bodyPost_ret (v := .tuple #[.agg #[.int .i64 0, .int .i64 0, .slice none 0 0], .bool false]) (by simp [results, Try.results32, go_sem, p0, p1, p2, psz]) rfl ⟨low_res HB6.out (by omega) _ _ _, _, rfl, .bare _ _ _ _ _ _, fun _ => rfl⟩
    · have HN : Hid (r = some x) := Lib.hid (by rw [← HRR.out, caR_yes h1 (by rw [hx]; exact hv), hx])
      have HV := Lib.hid hv
      clear hp h1 hx hx' hty hgn hB5 hv
      go_wp2_with fail
      go_at_call 28
      refine (typeValid_impl_val HV.out _ _ HTY5.out.at).mono ?_
      rintro e w6 ⟨rfl, hb6⟩
      have HB6 := Lib.hid (HB5.out.trans (hb6.mono (by omega)))
      have HTY6 := Lib.hid ((HTY5.out.kept hb6).wide (lo' := R + 1) (by omega) (Nat.le_refl _ : w4.heap.size ≤ w4.heap.size))
      have hs6 : W5.heap.size ≤ w6.heap.size := hb6.size
      obtain ⟨y0', y1', y2', yz'⟩ := HX5.out.kept hb6
      obtain ⟨p0, p1, p2, f0, f1, f2, psz⟩ := HR5.out.kept hb6
      clear hb6 y0 y1 y2 hW5
      go_wp2_with fail
      rw [HN.out]
      refine bodyPost_ret (v := .tuple #[.agg #[.int .i64 x.k, .int .i64 x.n, .slice a4 x.ks.length k4], .bool true]) (by simp [results, Try.results32, go_sem, p0, p1, p2, psz]) rfl ⟨low_res HB6.out (by omega) _ _ _, _, rfl, ?_, fun e => by cases e⟩
      have h := res_ty (w := w) (B := R) (HTY6.out.wide (Nat.le_refl _) (show w4.heap.size ≤ w6.heap.size by omega)) (by rw [HRz.out]; exact Nat.le_refl _) (.int .i64 x.k) (.int .i64 x.n) (.slice a4 x.ks.length k4)
      exact h

end Go.Proofs.Ytjhccdioainibaa.Nx

namespace Go.Proofs.Ytjhccdioainibaa.Nx
open Go.Proofs.Ytjhccdioainibaa
open Go.RowKit
set_option linter.unusedVariables false
set_option linter.unusedSimpArgs false

theorem UnPost2 {r : Option Ty} {w w7 w8 : World} {R : Nat} {v : Value} {x y z : Value} (hb : Below w.heap.size w w8) (ht : TyIn w8 w7.heap.size w8.heap.size (optT r) v) (hv : r = none → v = .slice none 0 0) (hR : w.heap.size ≤ R) (h7 : R < w7.heap.size) :
    OptRet r w (.returned (.tuple #[.agg #[.int .i64 (optT r).k, .int .i64 (optT r).n, v], .bool r.isSome])) (((w8.setCell ⟨R, 0, none⟩ x).setCell ⟨R, 1, none⟩ y).setCell ⟨R, 2, none⟩ z) := by
  have h1 := res_ty (w := w) (B := R) (ht.wide (lo' := R + 1) (by omega) (Nat.le_refl _)) hR x y z
  have h2 := below_set3 hb hR x y z
  cases r with
  | none => rw [hv rfl]; exact ⟨rfl, h2⟩
  | some t => exact ⟨v, rfl, h1, h2⟩

set_option maxRecDepth 100000 in
set_option maxHeartbeats 8000000 in
theorem unifyTypes_impl (a b : Ty) (va vb : Value) (w : World) (ha : TyOk w a va) (hb : TyOk w b vb) (r : Option Ty) (hr : unT a b = r) :
    Calls Try.prog 11 #[.agg #[.int .i64 a.k, .int .i64 a.n, va], .agg #[.int .i64 b.k, .int .i64 b.n, vb]] w (OptRet r w) := by
  have HVA := Lib.hid ha
  have HVB := Lib.hid hb
  obtain ⟨av, ac, rfl, _⟩ := ha.at.slice
  obtain ⟨bv, bc, rfl, _⟩ := hb.at.slice
  obtain ⟨S, hS⟩ : ∃ S, w.heap.size = S := ⟨_, rfl⟩
  have HRR := Lib.hid hr
  clear ha hb hr
  obtain ⟨W1, hW1⟩ : ∃ W, ((w.alloc (.cells #[.int .i64 a.k, .int .i64 a.n, .slice av a.ks.length ac] 28)).alloc (.cells #[.int .i64 b.k, .int .i64 b.n, .slice bv b.ks.length bc] 28)).alloc (.cells #[.int .i64 0, .int .i64 0, .slice none 0 0] 28) = W := ⟨_, rfl⟩
  have HB1 : Hid (Below w.heap.size w W1) := Lib.hid (by rw [← hW1]; exact (((Below.refl _ _).alloc (Nat.le_refl _) _).alloc (by simp) _).alloc (by simp; omega) _)
  have HX1 : Hid (OC W1 S a.k a.n (.slice av a.ks.length ac)) := Lib.hid (by
    rw [← hW1, ← hS]; exact ((oc_new w _ _ _ _).kept ((Below.refl _ _).alloc (Nat.le_refl _) _)).kept ((Below.refl _ _).alloc (Nat.le_refl _) _))
  have HY1 : Hid (OC W1 (S + 1) b.k b.n (.slice bv b.ks.length bc)) := Lib.hid (by
    have h := (oc_new (w.alloc (.cells #[.int .i64 a.k, .int .i64 a.n, .slice av a.ks.length ac] 28)) b.k b.n (.slice bv b.ks.length bc) 28).kept ((Below.refl _ _).alloc (Nat.le_refl _) (.cells #[.int .i64 0, .int .i64 0, .slice none 0 0] 28))
    rw [hW1, sizeA', hS] at h; exact h)
  have HZ1 : Hid (OC W1 (S + 1 + 1) 0 0 (.slice none 0 0)) := Lib.hid (by
    have h := oc_new ((w.alloc (.cells #[.int .i64 a.k, .int .i64 a.n, .slice av a.ks.length ac] 28)).alloc (.cells #[.int .i64 b.k, .int .i64 b.n, .slice bv b.ks.length bc] 28)) 0 0 (.slice none 0 0) 28
    rw [hW1, sizeA', sizeA', hS] at h; exact h)
  have HW1 := Lib.hid hW1
  have HS := Lib.hid hS
  clear hW1
  obtain ⟨x0, x1, x2, xf0, xf1, xf2, xz⟩ := HX1.out
  rcases h1 : tvT a with _ | _
  · have H1 := Lib.hid h1
    have HN : Hid (r = none) := Lib.hid (by rw [← HRR.out]; exact unT_a h1)
    clear h1
    go_enter Try.func11, Try.ntmps11
    go_wp2_with fail
    rw [HW1.out]
    try rw [hS]
    clear hS
    go_wp2_with fail
    go_at_call 28
    refine (typeValid_impl_val H1.out _ W1 (HVA.out.at.kept HB1.out)).mono ?_
    rintro e w2 ⟨rfl, hb2⟩
    have HB2 := Lib.hid (HB1.out.trans (hb2.mono HB1.out.size))
    have HX2 := Lib.hid (HX1.out.kept hb2)
    have HY2 := Lib.hid (HY1.out.kept hb2)
    have HZ2 := Lib.hid (HZ1.out.kept hb2)
    clear hb2 x0 x1 x2 xf0 xf1 xf2 xz
    obtain ⟨z0, z1, z2, zf0, zf1, zf2, zz⟩ := HZ2.out
    go_wp2_with fail
    rw [HN.out]
    refine bodyPost_ret (v := .tuple #[.agg #[.int .i64 0, .int .i64 0, .slice none 0 0], .bool false]) (by simp [results, Try.results11, go_sem, z0, z1, z2]) rfl ⟨rfl, below_set3 HB2.out (S := S + 1 + 1) (by rw [HS.out]; omega) _ _ _⟩
  have H1 := Lib.hid h1
  rcases h2 : tvT b with _ | _
  · have H2 := Lib.hid h2
    have HN : Hid (r = none) := Lib.hid (by rw [← HRR.out]; exact unT_b h2)
    clear h1 h2
    go_enter Try.func11, Try.ntmps11
    go_wp2_with fail
    rw [HW1.out]
    try rw [hS]
    clear hS
    go_wp2_with fail
    go_at_call 28
    refine (typeValid_impl_val H1.out _ W1 (HVA.out.at.kept HB1.out)).mono ?_
    rintro e w2 ⟨rfl, hb2⟩
    have HB2 := Lib.hid (HB1.out.trans (hb2.mono HB1.out.size))
    have HX2 := Lib.hid (HX1.out.kept hb2)
    have HY2 := Lib.hid (HY1.out.kept hb2)
    have HZ2 := Lib.hid (HZ1.out.kept hb2)
    clear hb2 x0 x1 x2 xf0 xf1 xf2 xz
    obtain ⟨y0, y1, y2, yf0, yf1, yf2, yz⟩ := HY2.out
    go_wp2_with fail
    go_at_call 28
    refine (typeValid_impl_val H2.out _ w2 (HVB.out.at.kept HB2.out)).mono ?_
    rintro e w3 ⟨rfl, hb3⟩
    have HB3 := Lib.hid (HB2.out.trans (hb3.mono HB2.out.size))
    have HX3 := Lib.hid (HX2.out.kept hb3)
    have HY3 := Lib.hid (HY2.out.kept hb3)
    have HZ3 := Lib.hid (HZ2.out.kept hb3)
    clear hb3 y0 y1 y2 yf0 yf1 yf2 yz
    obtain ⟨z0, z1, z2, zf0, zf1, zf2, zz⟩ := HZ3.out
    go_wp2_with fail
    rw [HN.out]
    refine bodyPost_ret (v := .tuple #[.agg #[.int .i64 0, .int .i64 0, .slice none 0 0], .bool false]) (by simp [results, Try.results11, go_sem, z0, z1, z2]) rfl ⟨rfl, below_set3 HB3.out (S := S + 1 + 1) (by rw [HS.out]; omega) _ _ _⟩
  have H2 := Lib.hid h2
  have HUN : Hid (r = uniT a b) := Lib.hid (by rw [← HRR.out]; exact unT_ab h1 h2)
  have HSA := Lib.hid (tvT_shp h1)
  have HSB := Lib.hid (tvT_shp h2)
  have HNA : Hid (nodes a ≤ 63) := Lib.hid (Nat.le_of_not_lt (fun h => by rw [tvT_nodes h] at h1; cases h1))
  have HNB : Hid (nodes b ≤ 63) := Lib.hid (Nat.le_of_not_lt (fun h => by rw [tvT_nodes h] at h2; cases h2))
  have HG0 : Hid (GAdd 0 (fun _ => Sh.num) (fun _ => none)) := Lib.hid ⟨fun n k l r hn => absurd hn (Nat.not_lt_zero _), fun v m e => (by cases e), fun v v' m e => (by cases e)⟩
  clear h1 h2
  go_enter Try.func11, Try.ntmps11
  go_wp2_with fail
  rw [HW1.out]
  try rw [hS]
  clear hS
  go_wp2_with fail
  go_at_call 28
  refine (typeValid_impl_val H1.out _ W1 (HVA.out.at.kept HB1.out)).mono ?_
  rintro e w2 ⟨rfl, hb2⟩
  have HB2 := Lib.hid (HB1.out.trans (hb2.mono HB1.out.size))
  have HX2 := Lib.hid (HX1.out.kept hb2)
  have HY2 := Lib.hid (HY1.out.kept hb2)
  have HZ2 := Lib.hid (HZ1.out.kept hb2)
  clear hb2 x0 x1 x2 xf0 xf1 xf2 xz
  obtain ⟨y0, y1, y2, yf0, yf1, yf2, yz⟩ := HY2.out
  go_wp2_with fail
  go_at_call 28
  refine (typeValid_impl_val H2.out _ w2 (HVB.out.at.kept HB2.out)).mono ?_
  rintro e w3 ⟨rfl, hb3⟩
  have HB3 := Lib.hid (HB2.out.trans (hb3.mono HB2.out.size))
  have HX3 := Lib.hid (HX2.out.kept hb3)
  have HY3 := Lib.hid (HY2.out.kept hb3)
  have HZ3 := Lib.hid (HZ2.out.kept hb3)
  clear hb3 y0 y1 y2 yf0 yf1 yf2 yz
  go_wp2_with fail
  go_at_call 29
  refine (Mx.newGraph_any w3).mono ?_
  rintro e w4 ⟨gb, am, vb, rfl, hg4, hb4⟩
  have HG4 := Lib.hid hg4
  have HK4 := Lib.hid hb4
  obtain ⟨x0, x1, x2, xf0, xf1, xf2, xz⟩ := HX3.out.kept hb4
  clear hg4 hb4
  go_wp2_with fail
  go_at_call 30
  refine (Mx.add_any w3 gb am vb id (fun _ => 0) [] 16 a _ w4 0 (fun _ => .num) (fun _ => none) (.slice none 0 0) [] HSA.out ((HVA.out.kept HB3.out).at) HK4.out HG4.out HG0.out (by have := HNA.out; omega)).mono ?_
  rintro e w5 ⟨ra, M5, sh5, vm5, sv5, MV5, rfl, hg5, hk5, ha5, hm5, hm5', hs5, hv5, hd5⟩
  have HG5 := Lib.hid hg5
  have HK5 := Lib.hid (HK4.out.trans (Mx.GK.low HG4.out hk5 HK4.out.size))
  have HA5 := Lib.hid ha5
  have HD5 := Lib.hid hd5
  have hM5 : M5 ≤ 63 := by have := HNA.out; omega
  obtain ⟨y0, y1, y2, yf0, yf1, yf2, yz⟩ := HY3.out.kept HK5.out
  clear hg5 hk5 ha5 hm5 hm5' hs5 hv5 hd5 x0 x1 x2 xf0 xf1 xf2 xz
  go_wp2_with fail
  go_at_call 30
  refine (Mx.add_any w3 gb am vb id (fun _ => 0) [] 16 b _ w5 M5 sh5 vm5 sv5 MV5 HSB.out ((HVB.out.kept HB3.out).at) HK5.out HG5.out HA5.out (by have := HNB.out; omega)).mono ?_
  rintro e w6 ⟨rb, M6, sh6, vm6, sv6, MV6, rfl, hg6, hk6, ha6, hm6, hm6', hs6, hv6, hd6⟩
  have HG6 := Lib.hid hg6
  have HK6 := Lib.hid (HK5.out.trans (Mx.GK.low HG5.out hk6 HK5.out.size))
  have HA6 := Lib.hid ha6
  have HDB := Lib.hid hd6
  have HDA := Lib.hid (HD5.out.up hm6 hs6 hv6)
  have hM6 : M6 ≤ 1000000 := by have := HNB.out; omega
  clear hg6 hk6 ha6 hm6 hm6' hs6 hv6 hd6 y0 y1 y2 yf0 yf1 yf2 yz
  go_wp2_with fail
  go_at_call 31
  refine (Mx.unify_any w3.heap.size gb am vb M6 sh6 vm6 sv6 MV6 hM6 (cls M6 id + 1) ra rb id (fun _ => 0) [] w6 (Nat.lt_succ_self _) HDA.out.lt HDB.out.lt HA6.out.ok HG6.out).mono ?_
  rintro e w7 ⟨r7, rep', dp', MA', rfl, hg7, hi7, hu7⟩
  have HG7 := Lib.hid hg7
  have HK7 := Lib.hid (Inside.below hi7 HG6.out.lo.2.1 HK6.out HK6.out.size)
  have HU7 := Lib.hid hu7
  clear hg7 hi7 hu7
  rcases r7 with _ | _
  · have HN : Hid (r = none) := Lib.hid (by rw [HUN.out]; exact uniT_no (fun t ht _ _ => prin_graph_no HA6.out HDA.out HDB.out HU7.out ht))
    obtain ⟨z0, z1, z2, zf0, zf1, zf2, zz⟩ := HZ3.out.kept HK7.out
    go_wp2_with fail
    rw [HN.out]
    refine bodyPost_ret (v := .tuple #[.agg #[.int .i64 0, .int .i64 0, .slice none 0 0], .bool false]) (by simp [results, Try.results11, go_sem, z0, z1, z2]) rfl ⟨rfl, below_set3 (HB3.out.trans (HK7.out.mono HB3.out.size)) (S := S + 1 + 1) (by rw [HS.out]; omega) _ _ _⟩
  · have HN : Hid (r = caR sh6 rep' ra) := Lib.hid (by rw [HUN.out]; exact canon_res HA6.out HDA.out HDB.out HU7.out)
    go_wp2_with fail
    go_at_call 32
    refine (canonAt_any w3.heap.size gb am vb M6 sh6 rep' dp' vm6 sv6 MA' MV6 HU7.out.ok hM6 ra HDA.out.lt w7 HG7.out r HN.out.symm).mono ?_
    rintro e w8 ⟨hb8, v8, rfl, hty8, hv8⟩
    obtain ⟨a8, k8, rfl, _⟩ := hty8.at.slice
    have HK8 := Lib.hid (HK7.out.trans hb8)
    have HB8 : Hid (Below w.heap.size w w8) := Lib.hid (HB3.out.trans (HK8.out.mono HB3.out.size))
    have HTY := Lib.hid hty8
    have HV8 := Lib.hid hv8
    have hz7 : w3.heap.size ≤ w7.heap.size := HK7.out.size
    have hz3 : S + 1 + 1 < w3.heap.size := HZ3.out.sz
    obtain ⟨z0, z1, z2, zf0, zf1, zf2, zz⟩ := HZ3.out.kept HK8.out
    clear hb8 hty8 hv8
    go_wp2_with fail
    refine bodyPost_ret (v := .tuple #[.agg #[.int .i64 (optT r).k, .int .i64 (optT r).n, .slice a8 (optT r).ks.length k8], .bool r.isSome]) (by simp [results, Try.results11, go_sem, z0, z1, z2]) rfl (UnPost2 HB8.out HTY.out HV8.out (by rw [HS.out]; omega) (by omega))

end Go.Proofs.Ytjhccdioainibaa.Nx

namespace Go.Proofs.Ytjhccdioainibaa
open Go.RowKit
set_option linter.unusedVariables false
set_option linter.unusedSimpArgs false
theorem TyN.dw {w w' : World} {lo E B : Nat} {t : Ty} {v : Value} (h : TyN w lo E t v) (hB : B < lo) (hd : Dw B w w') : TyN w' lo E t v :=
  h.keep hd.size (fun b h1 _ h3 => hd.block b h3 (by simp; omega))
/-- Where the draw of an argument stands: its reader, its results' cells, still empty. -/
structure QS (w : World) (S B : Nat) (a : Option Addr) (len cap : Nat) (zs : List Int) (p : Nat) (W : World) : Prop where
  rd : Rd W B a len cap zs p
  bl : Below S w W
  r1 : RB W S
  lt : S + 2 ≤ B
  eq : w.heap.size = S
theorem QS.step {w : World} {S B : Nat} {a : Option Addr} {len cap : Nat} {zs : List Int} {p p' : Nat} {W W' : World} (h : QS w S B a len cap zs p W) (hd : Dw B W W') (hr : Rd W' B a len cap zs p') : QS w S B a len cap zs p' W' := by
  have hl := h.lt
  have hb := h.rd.big
  exact ⟨hr, h.bl.trans (hd.below (by omega) (by omega)), h.r1.keep hd.size (hd.block S h.r1.sz (by simp; omega)), h.lt, h.eq⟩
theorem QS.r1step {w : World} {S B : Nat} {a : Option Addr} {len cap : Nat} {zs : List Int} {p : Nat} {W0 W W' : World} (h : QS w S B a len cap zs p W0) {R : Nat} (hr : RB W R) (hR : R < B) (hd : Dw B W W') : RB W' R :=
  hr.keep hd.size (hd.block R hr.sz (by simp; omega))
theorem TBox.dw {w w' : World} {B T : Nat} {x y z : Value} (h : TBox w T x y z) (hB : B < T) (hd : Dw B w w') : TBox w' T x y z := by
  have e := hd.block T h.sz (by simp; omega)
  exact ⟨(cellEq e).trans h.c0, (cellEq e).trans h.c1, (cellEq e).trans h.c2, Nat.lt_of_lt_of_le h.sz hd.size⟩
theorem rest_ty {W : World} {t : Ty} {v : Value} {lo E S : Nat} (ht : TyN W lo E t v) (hlo : S < lo) (x y z : Value) : TyN (((W.setCell ⟨S, 0, none⟩ x).setCell ⟨S, 1, none⟩ y).setCell ⟨S, 2, none⟩ z) lo E t v :=
  ht.keep (by simp) (fun b h1 _ _ => heap_res (by omega))
theorem rest_bl {w W : World} {S R : Nat} (h : Below S w W) (hR : S ≤ R) (x y z : Value) : Below S w (((W.setCell ⟨R, 0, none⟩ x).setCell ⟨R, 1, none⟩ y).setCell ⟨R, 2, none⟩ z) :=
  ((h.setCell (p := ⟨R, 0, none⟩) hR x).setCell (p := ⟨R, 1, none⟩) hR y).setCell (p := ⟨R, 2, none⟩) hR z
theorem rest_rb {W : World} {R S : Nat} (h : RB W R) (hne : R ≠ S) (x y z : Value) : RB (((W.setCell ⟨S, 0, none⟩ x).setCell ⟨S, 1, none⟩ y).setCell ⟨S, 2, none⟩ z) R :=
  h.keep (by simp) (heap_res hne)
def TwoPost (w : World) (e : Ending) (w' : World) : Prop := ∃ (x y : Ty) (vx vy : Value), nodes x ≤ 300 ∧ nodes y ≤ 300 ∧ e = .returned (.tuple #[.agg #[.int .i64 x.k, .int .i64 x.n, vx], .agg #[.int .i64 y.k, .int .i64 y.n, vy]]) ∧ TyOk w' x vx ∧ TyOk w' y vy ∧ Below w.heap.size w w'
def OnePost (w : World) (e : Ending) (w' : World) : Prop := ∃ (x : Ty) (vx : Value), nodes x ≤ 300 ∧ e = .returned (.agg #[.int .i64 x.k, .int .i64 x.n, vx]) ∧ TyOk w' x vx ∧ Below w.heap.size w w'
def OneN (w : World) (e : Ending) (w' : World) : Prop := ∃ (x : Ty) (vx : Value), nodes x ≤ 300 ∧ e = .returned (.agg #[.int .i64 x.k, .int .i64 x.n, vx]) ∧ TyN w' w.heap.size 0 x vx ∧ Below w.heap.size w w'
theorem nodes5 {t : Ty} (h : shp 5 t = true) : nodes t ≤ 40 := by
  have := nodes_shp 5 t h
  have e : (2 : Nat) ^ 5 = 32 := by decide
  omega
end Go.Proofs.Ytjhccdioainibaa
