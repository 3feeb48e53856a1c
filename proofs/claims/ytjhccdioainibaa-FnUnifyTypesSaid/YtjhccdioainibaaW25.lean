/-
l2Full of the model: a type with all bound variables replaced, if it has at most so many nodes.
CanonType of the program.
-/
import Derived.Test.YtjhccdioainibaaW24
import Derived.Test.YtjhccdioainibaaW9
import Derived.Deep.AppendLies
import Derived.Test.YtjhccdioainibaaW12
namespace Go.Proofs.Ytjhccdioainibaa
open Go.RowKit
set_option linter.unusedVariables false
set_option linter.unusedSimpArgs false

/-- The nodes of the first j of some types. -/
def ndsL (us : List Ty) (j : Nat) : Nat := ((List.range j).map fun i => nodes (us.getD i Ty.dummy)).sum
theorem ndsL_zero (us : List Ty) : ndsL us 0 = 0 := rfl
theorem ndsL_succ (us : List Ty) (j : Nat) : ndsL us (j + 1) = ndsL us j + nodes (us.getD j Ty.dummy) := by unfold ndsL; rw [List.range_succ, List.map_append, List.sum_append]; simp
theorem ndsL_mono (us : List Ty) {i j : Nat} (h : i ≤ j) : ndsL us i ≤ ndsL us j := by
  induction h with
  | refl => exact Nat.le_refl _
  | step _ ih => rw [ndsL_succ]; omega
theorem nodes_ndsL (t : Ty) : nodes t = ndsL t.ks t.ks.length + 1 := by cases t; exact nodes_kids _ _ _
/-- Where the copying of the operands stands. -/
def FlS (us : List Ty) (room j : Nat) (left : Int) (rs : List Ty) : Prop := rs.length = j ∧ ((1 + ndsL us j ≤ room ∧ left = (room : Int) - (1 + ndsL us j : Nat) ∧ rs = us.take j) ∨ (room < 1 + ndsL us j ∧ left = -1))
def FlPost (u : Ty) (room : Nat) (w : World) (e : Ending) (w' : World) : Prop :=
  ∃ (y : Ty) (v : Value) (left : Int), e = .returned (.tuple #[.agg #[.int .i64 y.k, .int .i64 y.n, v], .int .i64 left]) ∧ TyIn w' w.heap.size w'.heap.size y v ∧ Below w.heap.size w w' ∧ (nodes u ≤ room → left = (room : Int) - nodes u ∧ y = u) ∧ (room < nodes u → left = -1)
theorem FlS.start (us : List Ty) {room : Nat} (h : 1 ≤ room) : FlS us room 0 ((room : Int) - 1) [] := ⟨rfl, .inl ⟨by rw [ndsL_zero]; omega, by rw [ndsL_zero]; omega, rfl⟩⟩
theorem FlS.step {us rs : List Ty} {room j m : Nat} (h : FlS us room j (m : Int) rs) (hj : j < us.length) {y : Ty} {left : Int} (h1 : nodes (us.getD j Ty.dummy) ≤ m → left = (m : Int) - nodes (us.getD j Ty.dummy) ∧ y = us.getD j Ty.dummy) (h2 : m < nodes (us.getD j Ty.dummy) → left = -1) : FlS us room (j + 1) left (rs ++ [y]) := by
  obtain ⟨hl, ⟨p1, p2, p3⟩ | ⟨p1, p2⟩⟩ := h
  · refine ⟨by simp [hl], ?_⟩
    rw [ndsL_succ]
    by_cases hc : nodes (us.getD j Ty.dummy) ≤ m
    · obtain ⟨q1, q2⟩ := h1 hc
      refine .inl ⟨by omega, by omega, ?_⟩
      rw [p3, q2, List.take_add_one]
      simp [List.getD, hj]
    · exact .inr ⟨by omega, h2 (by omega)⟩
  · omega
theorem FlS.bound {us rs : List Ty} {room j : Nat} {left : Int} (h : FlS us room j left rs) : -1 ≤ left ∧ left ≤ room := by
  obtain ⟨_, ⟨p1, p2, _⟩ | ⟨p1, p2⟩⟩ := h <;> omega
/-- The end: all operands, or too few nodes left. -/
theorem FlS.done {u : Ty} {rs : List Ty} {room j : Nat} {left : Int} (h : FlS u.ks room j left rs) (hj : j ≤ u.ks.length) (he : j = u.ks.length ∨ left < 0) :
    (nodes u ≤ room → left = (room : Int) - nodes u ∧ rs = u.ks) ∧ (room < nodes u → left = -1) := by
  have hn := nodes_ndsL u
  have hm := ndsL_mono u.ks hj
  obtain ⟨hl, ⟨p1, p2, p3⟩ | ⟨p1, p2⟩⟩ := h
  · rcases he with rfl | he
    · exact ⟨fun _ => ⟨by omega, by rw [p3, List.take_length]⟩, fun h => by omega⟩
    · omega
  · exact ⟨fun h => by omega, fun _ => p2⟩
theorem Gr.plus {rs : List Ty} {B : Nat} {w : World} {cv : Value} {xs : List Value} {vs : Nat → Value} {l h : Nat → Nat} (f : Gr rs B rs.length w cv xs vs l h) (y : Ty) : Gr (rs ++ [y]) B rs.length w cv xs vs l h := by
  have e : ∀ i, i < rs.length → (rs ++ [y]).getD i Ty.dummy = rs.getD i Ty.dummy := fun i hi => by
    have h2 : i < (rs ++ [y]).length := by rw [List.length_append]; omega
    simp only [List.getD, List.getElem?_append_left hi]
  exact ⟨f.own, fun i hi => by rw [e i hi]; exact f.x0 i hi, fun i hi => by rw [e i hi]; exact f.x1 i hi, f.x2, f.lo, f.di, fun i hi => by rw [e i hi]; exact f.ty i hi, f.ap⟩
theorem ty_eta {u : Ty} {k n : Int} {rs : List Ty} (hk : u.k = k) (hn : u.n = n) (hr : rs = u.ks) : Ty.node k n rs = u := by
  cases u; subst hk hn hr; rfl
theorem BAt.same {w0 w w' : World} {kb N : Nat} {B : Bn} {xs : List Value} (h : BAt w0 w kb N B xs) (e : w'.heap[kb]? = w.heap[kb]?) : BAt w0 w' kb N B xs := by
  refine ⟨?_, h.no, h.yes⟩
  obtain ⟨hl, h' | ⟨g, cap, cur, hg, hb', ho, h1, h2, h3, h4⟩⟩ := h.own
  · exact ⟨hl, .inl h'⟩
  · have hg2 := hg
    injection hg2 with hg2 _ _
    injection hg2 with hg2
    injection hg2 with hg2 _ _
    subst hg2
    exact ⟨hl, .inr ⟨kb, cap, cur, hg, hb', e.trans ho, h1, h2, h3, h4⟩⟩
set_option maxRecDepth 100000 in
set_option maxHeartbeats 8000000 in
theorem l2Full_any (w0 : World) (kb N : Nat) (B : Bn) (xs : List Value) (hB : BOK N B) (hN : N ≤ 100000) (m : Nat) : ∀ (t u : Ty) (v : Value) (room : Nat) (w : World), SizeOf.sizeOf u < m → room ≤ 100000 → Ful B t u → Wt N t → TyN w0 0 kb t v → Inside kb (kb + 1) w0 w → BAt w0 w kb N B xs →
    Calls Try.prog 25 #[.agg #[.int .i64 t.k, .int .i64 t.n, v], .slice (some ⟨kb, 0, none⟩) N N, .int .i64 (room : Int)] w (FlPost u room w) := by
  have HBK := Lib.hid hB
  clear hB
  obtain ⟨i0, hi0, hz0, hz1, hz2⟩ := info_parts infoTy
  induction m with
  | zero => intro t u v room w h; exact absurd h (Nat.not_lt_zero _)
  | succ m ih =>
    intro t u v room w hm hroom hf ht hx hi hb
    have HIH := Lib.hid ih
    have HM := Lib.hid hm
    have HF := Lib.hid hf
    have HT := Lib.hid ht
    have HX := Lib.hid hx
    have HI := Lib.hid hi
    have HA0 := Lib.hid hb
    obtain ⟨S, hS⟩ : ∃ S, w.heap.size = S := ⟨_, rfl⟩
    have hkS : kb < S := by rw [← hS]; exact hb.lt
    obtain ⟨va, vc, hv⟩ := hx.slice
    clear ih hm hf ht hx hi hb
    subst hv
    obtain ⟨W1, hW1⟩ : ∃ W, (w.alloc (.cells #[.int .i64 t.k, .int .i64 t.n, .slice va t.ks.length vc] 28)).alloc (.cells #[.int .i64 0, .int .i64 0, .slice none 0 0] 28) = W := ⟨_, rfl⟩
    have HB1 : Hid (Below w.heap.size w W1) := Lib.hid (by rw [← hW1]; exact ((Below.refl _ _).alloc (Nat.le_refl _) _).alloc (by simp) _)
    have HO1 : Hid (OC W1 S t.k t.n (.slice va t.ks.length vc)) := Lib.hid (by rw [← hW1, ← hS]; exact (oc_new w _ _ _ _).kept ((Below.refl _ _).alloc (Nat.le_refl _) _))
    have HR1 : Hid (OC W1 (S + 1) 0 0 (.slice none 0 0)) := Lib.hid (by
      have h := oc_new (w.alloc (.cells #[.int .i64 t.k, .int .i64 t.n, .slice va t.ks.length vc] 28)) 0 0 (.slice none 0 0) 28
      rw [hW1, sizeA', hS] at h; exact h)
    have HA1 := Lib.hid (HA0.out.kept HB1.out)
    have HW1 := Lib.hid hW1
    have HS := Lib.hid hS
    clear hW1
    by_cases h0 : room = 0
    · subst h0
      have hr1 : ((0 : Nat) : Int) < 1 := by omega
      have HNP := Lib.hid (nodes_pos u)
      go_enter Try.func25, Try.ntmps25
      go_wp2_with fail
      rw [HW1.out]
      clear hS
      try rw [HS.out]
      obtain ⟨x0, x1, x2, f0, f1, f2, xz⟩ := HO1.out
      obtain ⟨r0, r1, r2, g0, g1, g2, rz⟩ := HR1.out
      go_wp2_with fail
      refine bodyPost_ret (v := .tuple #[.agg #[.int .i64 0, .int .i64 0, .slice none 0 0], .int .i64 (-1)]) (by simp [results, Try.results25, go_sem, r0, r1, r2]) rfl ⟨Ty.dummy, .slice none 0 0, -1, rfl, .bare _ _ _ _ _ _, by first | exact HB1.out | exact below_set3 HB1.out (S := S + 1) (by rw [HS.out]; omega) _ _ _, fun h => ?_, fun _ => rfl⟩
      have := HNP.out; omega
    have hr1 : ¬ ((room : Nat) : Int) < 1 := by omega
    have HROOM : Hid (1 ≤ room) := Lib.hid (by omega)
    clear h0
    go_enter Try.func25, Try.ntmps25
    go_wp2_with fail
    rw [HW1.out]
    clear hS
    try rw [HS.out]
    obtain ⟨x0, x1, x2, f0, f1, f2, xz⟩ := HO1.out
    go_wp2_with fail
    go_at_call 55
    refine (l2Walk_any w0 kb N B xs HBK.out hN t _ _ HT.out HX.out HA1.out).mono ?_
    rintro e w2 ⟨t', v', rfl, hwk, htr, hx', hb2⟩
    have HF2 := Lib.hid (hwk.ful HF.out)
    have HT2 := Lib.hid (hwk.wt HBK.out HT.out)
    have HTR := Lib.hid htr
    have HX2 := Lib.hid hx'
    obtain ⟨a', c', rfl⟩ := hx'.slice
    have HO2 := Lib.hid (HO1.out.kept hb2)
    have HR2 := Lib.hid (HR1.out.kept hb2)
    have HB2 := Lib.hid (HB1.out.trans (hb2.mono HB1.out.size))
    have HA2 := Lib.hid (HA1.out.kept hb2)
    clear hwk htr hx' hb2 x0 x1 x2 f0 f1 f2 xz
    obtain ⟨x0, x1, x2, f0, f1, f2, xz⟩ := HO2.out
    obtain ⟨kk, hkk⟩ : ∃ n, t'.k = n := ⟨_, rfl⟩
    obtain ⟨nn, hnn⟩ : ∃ n, t'.n = n := ⟨_, rfl⟩
    obtain ⟨L, hL⟩ : ∃ n, t'.ks.length = n := ⟨_, rfl⟩
    have HKK := Lib.hid hkk
    have HNN := Lib.hid hnn
    have HL := Lib.hid hL
    rw [hkk, hnn, hL]
    rw [hL] at HX2
    have hL2 : L ≤ 2 := by rw [← hL]; exact wt_len HT2.out
    clear hkk hnn hL
    have HU : Hid (u.k = kk ∧ u.n = nn ∧ u.ks.length = L ∧ ∀ i, i < t'.ks.length → Ful B (t'.ks.getD i Ty.dummy) (u.ks.getD i Ty.dummy)) := Lib.hid (by
      by_cases h4 : t'.k = 4
      · rcases ful_shape HF2.out HTR.out with ⟨e, _⟩ | ⟨q, e, eu, _⟩ | ⟨k, x, y, x', y', hk, e, _⟩
        · rw [e] at h4; have h4 : (1 : Int) = 4 := h4; omega
        · rw [← HKK.out, ← HNN.out, ← HL.out, e, eu]; exact ⟨rfl, rfl, rfl, fun i hi => absurd hi (Nat.not_lt_zero _)⟩
        · rw [e] at h4; have h4 : k = 4 := h4; omega
      · obtain ⟨p1, p2, p3, p4, p5⟩ := ful_kids HF2.out HTR.out h4
        exact ⟨by rw [p1, HKK.out], by rw [p3, ← HNN.out, p2], by rw [p4, HL.out], p5⟩)
    obtain ⟨W3, hW3⟩ : ∃ W, ((w2.setCell ⟨S, 0, none⟩ (.int .i64 kk)).setCell ⟨S, 1, none⟩ (.int .i64 nn)).setCell ⟨S, 2, none⟩ (.slice a' L c') = W := ⟨_, rfl⟩
    have HO3 : Hid (OC W3 S kk nn (.slice a' L c')) := Lib.hid (by rw [← hW3]; exact oc_set3 HO2.out _ _ _)
    have HR3 : Hid (OC W3 (S + 1) 0 0 (.slice none 0 0)) := Lib.hid (by rw [← hW3]; exact oc_other3 HR2.out (by omega) _ _ _)
    have HB3 : Hid (Below w.heap.size w W3) := Lib.hid (by rw [← hW3]; exact below_set3 HB2.out (by rw [HS.out]; omega) _ _ _)
    have HA3 : Hid (BAt w0 W3 kb N B xs) := Lib.hid (by rw [← hW3]; exact HA2.out.set3 (by omega) _ _ _)
    obtain ⟨y0, y1, y2, g0, g1, g2, yz⟩ := HO3.out
    obtain ⟨O, hO⟩ : ∃ O, W3.heap.size = O := ⟨_, rfl⟩
    have hSO : S + 2 ≤ O := by rw [← hO]; exact HR3.out.sz
    obtain ⟨W4, hW4⟩ : ∃ W, W3.alloc (.cells #[.int .i64 kk, .int .i64 nn, .slice none 0 0] 28) = W := ⟨_, rfl⟩
    have hb4 : Below W3.heap.size W3 W4 := by rw [← hW4]; exact (Below.refl _ _).alloc (Nat.le_refl _) _
    have HO4 := Lib.hid (HO3.out.kept hb4)
    have HR4 := Lib.hid (HR3.out.kept hb4)
    have HB4 := Lib.hid (HB3.out.trans (hb4.mono HB3.out.size))
    have HA4 := Lib.hid (HA3.out.kept hb4)
    have HQ4 : Hid (OB W4 O kk nn (.slice none 0 0)) := Lib.hid (by rw [← hW4, ← hO]; exact ob_new W3 _ _ _ _)
    have hz4 : W4.heap.size = O + 1 := by rw [← hW4, ← hO]; simp
    have HO := Lib.hid hO
    have HW4 := Lib.hid hW4
    clear hb4 hW4 hO
    go_wp2_with fail
    rw [HW4.out]
    try rw [HO.out]
    clear hW3 y0 y1 y2 g0 g1 g2 yz x0 x1 x2 f0 f1 f2 xz
    go_loopw [9, 10] (fun lv i wr => ∃ (j : Nat) (left : Int) (rs : List Ty) (cv : Value) (ys : List Value) (vs : Nat → Value) (l h : Nat → Nat), j ≤ L ∧ i = .int .i64 j ∧ lv = .int .i64 left ∧ Hid (FlS u.ks room j left rs) ∧ Hid (Gr rs (O + 1) rs.length wr cv ys vs l h) ∧ Hid (OB wr O kk nn cv) ∧ Hid (OC wr S kk nn (.slice a' L c')) ∧ Hid (OC wr (S + 1) 0 0 (.slice none 0 0)) ∧ Hid (Below w.heap.size w wr) ∧ Hid (BAt w0 wr kb N B xs) ∧ O + 1 ≤ wr.heap.size) (fun _ i _ => L - (intOf i).toNat)
    case atStart => exact ⟨0, (room : Int) - 1, [], _, [], _, _, _, Nat.zero_le _, rfl, rfl, Lib.hid (FlS.start _ HROOM.out), Lib.hid (gr_nil [] (O + 1) W4), HQ4, HO4, HR4, HB4, HA4, by omega⟩
    case round =>
      obtain ⟨j, left, rs, cv, ys, vs, l, h, hj, rfl, rfl, hfl, hgr, hob, hoc, hrb, hbe, hba, hsz⟩ := hrel
      obtain ⟨y0, y1, y2, g0, g1, g2, yz⟩ := hoc.out
      obtain ⟨o0, o1, o2, of2, oz⟩ := hob.out
      obtain ⟨hlo, hhi⟩ := hfl.out.bound
      by_cases hgo : j < L ∧ 0 ≤ left
      · obtain ⟨hlt, hl0⟩ := hgo
        obtain ⟨mm, hmm⟩ : ∃ mm : Nat, left = (mm : Int) := ⟨left.toNat, by omega⟩
        subst hmm
        have hji : (j : Int) < (L : Int) := by omega
        have hjt : j < t'.ks.length := by rw [HL.out]; exact hlt
        have hju : j < u.ks.length := by rw [HU.out.2.2.1]; exact hlt
        have hxl := HX2.out
        rw [← HL.out] at hxl
        obtain ⟨sb, so, cap1, vi, ex, bl1, bk1, z0, z1, z2, hka⟩ := hxl.kid j hjt
        have ex1 : a' = some ⟨sb, so, none⟩ := by injection ex
        subst ex1
        have HIR := Lib.hid (HI.out.trans (in_below (lo := kb) (hi := kb + 1) hbe.out))
        have hs1 := HIR.out.block sb bl1 (by omega)
        replace z0 := (cellEq hs1).trans z0
        replace z1 := (cellEq hs1).trans z1
        replace z2 := (cellEq hs1).trans z2
        have HFJ := Lib.hid (HU.out.2.2.2 j hjt)
        have HWJ := Lib.hid (wt_kid HT2.out j hjt)
        have HSZ : Hid (SizeOf.sizeOf (u.ks.getD j Ty.dummy) < m) := Lib.hid (by have := Ty.kid_lt u j hju; have := HM.out; omega)
        have HST := Lib.hid (fun (y : Ty) (left : Int) h1 h2 => hfl.out.step (y := y) (left := left) hju h1 h2)
        have hrl := hfl.out.1
        obtain ⟨x, hxx⟩ : ∃ x, t'.ks.getD j Ty.dummy = x := ⟨_, rfl⟩
        obtain ⟨z, hzz⟩ : ∃ z, u.ks.getD j Ty.dummy = z := ⟨_, rfl⟩
        rw [hxx] at z0 z1 hka HFJ HWJ
        rw [hzz] at HFJ HSZ HST
        have HKA := Lib.hid hka
        obtain ⟨ai, ci, rfl⟩ := hka.slice
        have HRL := Lib.hid hrl
        have hcvs : rs.length ≤ 2 := by omega
        clear hxl ex bl1 bk1 hka hxx hzz hjt hju hs1 hrl
        go_wp2_with fail
        go_at_call 25
        refine (HIH.out x z _ mm _ HSZ.out (by omega) HFJ.out HWJ.out HKA.out HIR.out hba.out).mono ?_
        rintro e w5 ⟨y, v5, left5, rfl, hty5, hb5, hf5, hn5⟩
        obtain ⟨a5, k5, rfl, _⟩ := hty5.at.slice
        obtain ⟨W6, hW6⟩ : ∃ W, w5.alloc (.cells #[.int .i64 y.k, .int .i64 y.n, .slice a5 y.ks.length k5] 28) = W := ⟨_, rfl⟩
        have hbx : Below w5.heap.size w5 W6 := by rw [← hW6]; exact (Below.refl _ _).alloc (Nat.le_refl _) _
        have hb6 : Below wr.heap.size wr W6 := hb5.trans (hbx.mono hb5.size)
        have hb6s := hb6.size
        have HTY6 : Hid (TyIn W6 wr.heap.size W6.heap.size y (.slice a5 y.ks.length k5)) := Lib.hid ((hty5.kept hbx).wide (Nat.le_refl _) hbx.size)
        have HKB6 : Hid (OC W6 w5.heap.size y.k y.n (.slice a5 y.ks.length k5)) := Lib.hid (by rw [← hW6]; exact oc_new w5 _ _ _ _)
        have HB6 := Lib.hid hb6
        have HOB6 := Lib.hid (hob.out.kept hb6)
        have HOC6 := Lib.hid (hoc.out.kept hb6)
        have HRB6 := Lib.hid (hrb.out.kept hb6)
        have HBE6 := Lib.hid (hbe.out.trans (hb6.mono hbe.out.size))
        have HBA6 := Lib.hid (hba.out.kept hb6)
        have HFS := Lib.hid (HST.out y left5 hf5 hn5)
        have HOWN6 := Lib.hid (own_below hgr.out.own hb6)
        have HGP := Lib.hid (hgr.out.plus y)
        have HYG : Hid ((rs ++ [y]).getD rs.length Ty.dummy = y) := Lib.hid (by simp [List.getD])
        clear hty5 hb5 hf5 hn5 hbx hb6 o0 o1 o2 of2 oz
        obtain ⟨o0, o1, o2, of2, oz⟩ := HOB6.out
        obtain ⟨q0, q1, q2, qf0, qf1, qf2, qz⟩ := HKB6.out
        have h63 : rs.length + 1 ≤ maxLen := by unfold maxLen; omega
        have hby : (rs.length + 1) * 40 ≤ 140737488355328 := by omega
        have hbase : ∀ o, O + 1 ≤ (W6.alloc o).heap.size := fun o => by simp; omega
        go_wp2_with (first | (at_builtin; refine wpList_append_lies _ rfl _ _ 26 rfl (O + 1) 28 i0 _ 3 40 Try.underlying26 hi0 hz0 hz1 hz2 rfl (by omega) cv rs.length ys rfl (HOWN6.out.alloc _) ⟨W6.heap.size, 0, none⟩ 1 1 [.int .i64 y.k, .int .i64 y.n, .slice a5 y.ks.length k5] rfl (by rfl) (World.news_of_block (cs := #[.int .i64 y.k, .int .i64 y.n, .slice a5 y.ks.length k5]) (t := 28) (fr := (0, 0)) (heap_alloc_new W6 _)) (by simp [Value.oneCell']) (by omega) h63 hby (hbase _) (W6.heap.size + 1) (by simp) ?_; intro g cap3 w7 hown7 hgrow hat hltg; have hrow : ∀ q, cv.ownBlock = some q → O + 1 ≤ q := (fun q e => (own_low HOWN6.out e).1); have hs7 := grow_size hgrow; have hOW : O < W6.heap.size := oz; have hO7 := grow_old hgrow (q := O) hOW (fun q e => by have := hrow q e; omega); have HOB7 := Lib.hid (HOB6.out.keep (by omega) hO7); obtain ⟨ys7, vs7, l7, h7, hg7⟩ := HGP.out.step (t := y) (v := .slice a5 y.ks.length k5) (by omega) HYG.out HB6.out HTY6.out hown7 hgrow hat; have HG7 := Lib.hid hg7; have HGROW := Lib.hid hgrow; clear hown7 hgrow hat hltg hg7 hO7 o0 o1 o2 of2 oz; obtain ⟨o0, o1, o2, of2, oz⟩ := HOB7.out) | fail)
        refine ⟨⟨j + 1, left5, rs ++ [y], _, ys7, vs7, l7, h7, by omega, by go_num, rfl, HFS, Lib.hid ?_, Lib.hid (HOB7.out.set _), Lib.hid ?_, Lib.hid ?_, Lib.hid ?_, Lib.hid ?_, ?_⟩, by simp [intOf]; omega⟩
        · rw [List.length_append]
          exact HG7.out.keep (by simp) (fun q h1 _ => heap_setCell_other _ ⟨O, 2, none⟩ q _ (by show q ≠ O; omega))
        · exact (HOC6.out.keep (by omega) (grow_old HGROW.out HOC6.out.sz (fun q e => by have := hrow q e; omega))).keep (by simp) (heap_setCell_other _ ⟨O, 2, none⟩ S _ (by show S ≠ O; omega))
        · exact (HRB6.out.keep (by omega) (grow_old HGROW.out HRB6.out.sz (fun q e => by have := hrow q e; omega))).keep (by simp) (heap_setCell_other _ ⟨O, 2, none⟩ (S + 1) _ (by show S + 1 ≠ O; omega))
        · have hSw : w.heap.size = S := HS.out
          exact ((HBE6.out.alloc HBE6.out.size _).grown HGROW.out (by have := HBE6.out.size; simp; omega) (fun q e => by have := hrow q e; omega)).setCell (p := ⟨O, 2, none⟩) (by show w.heap.size ≤ O; omega) _
        · refine HBA6.out.same ?_
          rw [heap_setCell_other _ ⟨O, 2, none⟩ kb _ (by show kb ≠ O; omega)]
          exact grow_old HGROW.out HBA6.out.lt (fun q e => by have := hrow q e; omega)
        · simp; omega
      · have hend : j = u.ks.length ∨ left < 0 := by rw [HU.out.2.2.1]; omega
        obtain ⟨d1, d2⟩ := hfl.out.done (by rw [HU.out.2.2.1]; omega) hend
        have HD := Lib.hid (hgr.out.done kk nn (by have := hfl.out.1; omega))
        obtain ⟨ca, cc, rfl, _⟩ := HD.out.at.slice
        have HRES : Hid ((nodes u ≤ room → left = (room : Int) - nodes u ∧ Ty.node kk nn rs = u) ∧ (room < nodes u → left = -1)) := Lib.hid ⟨fun h => ⟨(d1 h).1, ty_eta HU.out.1 HU.out.2.1 (d1 h).2⟩, d2⟩
        obtain ⟨RL, hRL⟩ : ∃ RL, (Ty.node kk nn rs).ks.length = RL := ⟨_, rfl⟩
        have HRL := Lib.hid hRL
        rw [hRL] at o2
        obtain ⟨q0, q1, q2, qf0, qf1, qf2, qz⟩ := hrb.out
        clear d1 d2 hend hRL
        by_cases hlt : j < L
        · have hji : (j : Int) < (L : Int) := by omega
          have hl0 : ¬ 0 ≤ left := fun h => hgo ⟨hlt, h⟩
          clear hgo hlt
          go_wp2_with fail
          refine bodyPost_ret (v := .tuple #[.agg #[.int .i64 kk, .int .i64 nn, .slice ca RL cc], .int .i64 left]) (by simp [results, Try.results25, go_sem, q0, q1, q2]) rfl ⟨.node kk nn rs, .slice ca RL cc, left, rfl, ?_, below_set3 hbe.out (S := S + 1) (by rw [HS.out]; omega) _ _ _, HRES.out.1, HRES.out.2⟩
          refine (TyIn.keep (w := wr) (by rw [← HRL.out]; exact HD.out) (by simp) (fun q h1 _ _ => ?_)).wide (by rw [HS.out]; omega) (by simp)
          rw [heap_setCell_other _ ⟨S + 1, 2, none⟩ q _ (by show q ≠ S + 1; omega), heap_setCell_other _ ⟨S + 1, 1, none⟩ q _ (by show q ≠ S + 1; omega), heap_setCell_other _ ⟨S + 1, 0, none⟩ q _ (by show q ≠ S + 1; omega)]
        · have hji : ¬ (j : Int) < (L : Int) := by omega
          clear hgo hlt
          go_wp2_with fail
          refine bodyPost_ret (v := .tuple #[.agg #[.int .i64 kk, .int .i64 nn, .slice ca RL cc], .int .i64 left]) (by simp [results, Try.results25, go_sem, q0, q1, q2]) rfl ⟨.node kk nn rs, .slice ca RL cc, left, rfl, ?_, below_set3 hbe.out (S := S + 1) (by rw [HS.out]; omega) _ _ _, HRES.out.1, HRES.out.2⟩
          refine (TyIn.keep (w := wr) (by rw [← HRL.out]; exact HD.out) (by simp) (fun q h1 _ _ => ?_)).wide (by rw [HS.out]; omega) (by simp)
          rw [heap_setCell_other _ ⟨S + 1, 2, none⟩ q _ (by show q ≠ S + 1; omega), heap_setCell_other _ ⟨S + 1, 1, none⟩ q _ (by show q ≠ S + 1; omega), heap_setCell_other _ ⟨S + 1, 0, none⟩ q _ (by show q ≠ S + 1; omega)]

end Go.Proofs.Ytjhccdioainibaa

namespace Go.Proofs.Ytjhccdioainibaa
open Go.RowKit
set_option linter.unusedVariables false
set_option linter.unusedSimpArgs false

@[local go_sem] theorem run_store_func (P : Program) (w : World) (a : Addr) (f : Fn) (x y : Array Value) (m : Mode) : (store a (.func f x y) m).run P w = stored P w a (.func f x y) m := run_store P w a _ m rfl
theorem canT_cnt (t : Ty) : ∃ c, Cnt (optT (cnT t)) c ∧ c ≤ 62 := by
  unfold cnT
  split
  · rename_i h
    have key : ∀ (vs : List Int) (d : Nat) (t : Ty) (c : Nat), shp d t = true → Cnt t c → Cnt (ren vs d t) c := by
      intro vs d
      induction d with
      | zero => intro t c h; cases h
      | succ d ih =>
        intro t c h hc
        rcases shp_forms h with rfl | ⟨n, h0, h1, rfl⟩ | ⟨k, ta, tb, hk, rfl, ha, hb⟩
        · have e : ren vs (d + 1) (.node 1 0 []) = .node 1 0 [] := by simp [ren]
          rw [e]; exact hc
        · have e : ren vs (d + 1) (.node 4 n []) = .node 4 (lx vs n vs.length) [] := by simp [ren]
          rw [e]
          cases hc with
          | node k n ks c h => exact .node _ _ [] c (fun i hi => absurd hi (Nat.not_lt_zero _))
        · have hk4 : k ≠ 4 := by omega
          have e : ren vs (d + 1) (.node k 0 [ta, tb]) = .node k 0 [ren vs d ta, ren vs d tb] := by simp [ren, hk4]
          rw [e]
          cases hc with
          | node k n ks c h =>
            refine Cnt.node k 0 [ren vs d ta, ren vs d tb] c (fun i hi => ?_)
            have hi : i < 2 := hi
            obtain rfl | rfl : i = 0 ∨ i = 1 := by omega
            · exact ih ta _ ha (h 0 (Nat.succ_pos _))
            · exact ih tb _ hb (h 1 (Nat.lt_succ_self _))
    obtain ⟨c, hc, h62⟩ := cnt_valid h
    exact ⟨c, key _ 16 t c (tvT_shp h) hc, h62⟩
  · exact ⟨0, .node 0 0 [] (fun _ => 0) (fun i hi => absurd hi (Nat.not_lt_zero _)), by omega⟩

set_option maxRecDepth 100000 in
set_option maxHeartbeats 4000000 in
theorem canonType_impl (t : Ty) (v : Value) (w : World) (hx : TyAt w t v) (r : Option Ty) (hr : cnT t = r) :
    Calls Try.prog 20 #[.agg #[.int .i64 t.k, .int .i64 t.n, v]] w (OptRet r w) := by
  have HX := Lib.hid hx
  obtain ⟨a, cap, rfl, _⟩ := hx.slice
  obtain ⟨y, hy⟩ : ∃ y, canT t = y := ⟨_, rfl⟩
  have HY := Lib.hid hy
  obtain ⟨W1, hW1⟩ : ∃ W1, (w.alloc (.cells #[.int .i64 t.k, .int .i64 t.n, .slice a t.ks.length cap] 28)).alloc (.cells #[.int .i64 0, .int .i64 0, .slice none 0 0] 28) = W1 := ⟨_, rfl⟩
  have hB1 : Below w.heap.size w W1 := by rw [← hW1]; exact ((Below.refl _ _).alloc (Nat.le_refl _) _).alloc (by simp) _
  have HB1 := Lib.hid hB1
  have HT1 : Hid (TBox W1 w.heap.size (.int .i64 t.k) (.int .i64 t.n) (.slice a t.ks.length cap)) := Lib.hid (by rw [← hW1]; exact (tbox_new w _ _ _ _).kept ((Below.refl _ _).alloc (Nat.le_refl _) _))
  have HR1 : Hid (RB W1 (w.heap.size + 1)) := Lib.hid (by have h := rb_new (w.alloc (.cells #[.int .i64 t.k, .int .i64 t.n, .slice a t.ks.length cap] 28)) 28; rw [sizeA, hW1] at h; exact h)
  have hz1 : W1.heap.size = w.heap.size + 2 := by rw [← hW1]; simp
  obtain ⟨t0, t1, t2, tz⟩ := HT1.out
  obtain ⟨vb, hvb⟩ : ∃ vb, tvT t = vb := ⟨_, rfl⟩
  have HVB := Lib.hid hvb
  clear hx hB1 hvb hy
  cases vb with
  | false =>
    have hrn : r = none := by rw [← hr]; unfold cnT; rw [if_neg (by rw [HVB.out]; decide)]
    subst hrn
    clear hr
    go_enter Try.func20, Try.ntmps20
    go_wp2_with fail
    clear hW1
    go_at_call 28
    refine (typeValid_impl_val HVB.out _ _ (HX.out.kept HB1.out)).mono ?_
    rintro e w2 ⟨rfl, hb2⟩
    have HR2 := Lib.hid (HR1.out.kept hb2)
    have HB2 := Lib.hid (HB1.out.trans (hb2.mono HB1.out.size))
    clear hb2 t0 t1 t2 tz
    obtain ⟨p0, p1, p2, f0, f1, f2, psz⟩ := HR2.out
    go_wp2_with fail
    exact bodyPost_ret (v := .tuple #[.agg #[.int .i64 0, .int .i64 0, .slice none 0 0], .bool false]) (by simp [results, Try.results20, go_sem, p0, p1, p2, psz]) rfl ⟨rfl, Inside.thin (in_res (lo := w.heap.size) (hi := w.heap.size) (Inside.of_below HB2.out) (Nat.le_succ _) _ _ _)⟩
  | true =>
    have hrn : r = some y := by rw [← hr]; unfold cnT; rw [if_pos HVB.out, HY.out]
    subst hrn
    clear hr
    go_enter Try.func20, Try.ntmps20
    go_wp2_with fail
    clear hW1
    go_at_call 28
    refine (typeValid_impl_val HVB.out _ _ (HX.out.kept HB1.out)).mono ?_
    rintro e w2 ⟨rfl, hb2⟩
    have HR2 := Lib.hid (HR1.out.kept hb2)
    have HT2 := Lib.hid (HT1.out.kept hb2)
    have HB2 := Lib.hid (HB1.out.trans (hb2.mono HB1.out.size))
    have hs2 : W1.heap.size ≤ w2.heap.size := hb2.size
    clear hb2 t0 t1 t2 tz
    go_wp2_with fail
    go_at_call 50
    refine (freshNames_any w2).mono ?_
    rintro e w3 ⟨rfl, hw3⟩
    obtain ⟨W4, hW4⟩ : ∃ W4, w3.alloc (.cells #[.func (.func 74) #[] #[.pointer (some ⟨w2.heap.size + 1, 0, none⟩)]] 82) = W4 := ⟨_, rfl⟩
    have hG4 : Gen w2.heap.size (w2.heap.size + 3) (w2.heap.size + 1) (w2.heap.size + 2) w2.heap.size [] W4 := by rw [← hW4, hw3]; exact gen_new w2 _
    have hz3 : w3.heap.size = w2.heap.size + 2 := by rw [hw3]; simp
    have hB4 : Below w2.heap.size w2 W4 := by rw [← hW4, hw3]; exact (((Below.refl _ _).alloc (Nat.le_refl _) _).alloc (by simp) _).alloc (by simp; omega) _
    have hz4 : W4.heap.size = w2.heap.size + 3 := by rw [← hW4]; simp [hz3]
    have HT4 := Lib.hid (HT2.out.kept hB4)
    have HR4 := Lib.hid (HR2.out.kept hB4)
    have HB4 := Lib.hid (HB2.out.trans (hB4.mono HB2.out.size))
    have HG4 := Lib.hid hG4
    have hqf : (⟨w3.heap.size, 0, none⟩ : Addr) = ⟨w2.heap.size + 2, 0, none⟩ := by rw [hz3]
    have HRV := Lib.hid (rv_any (.func (.func 51) #[] #[.pointer (some ⟨w2.heap.size + 2, 0, none⟩)]) fF (Gen w2.heap.size (w2.heap.size + 3) (w2.heap.size + 1) (w2.heap.size + 2) w2.heap.size) w2.heap.size (w2.heap.size + 3) (gen_stays _ _ _ _ _) w2 (Nat.le_refl _)
      (fun st n v w h0 h1 hx hb hst => rv_canon fF _ _ _ (gen_stays _ _ _ _ _) w2 (Nat.le_refl _) (w2.heap.size + 2) (fun st n w h0 h1 hb hst => canon1_any _ _ _ _ _ st n h0 h1 w hst) st n v w h0 h1 hx hb hst)
      16 t _ W4 [] (tvT_shp HVB.out) (HX.out.kept HB2.out) hB4 hG4)
    have HWe := Lib.hid hW4
    rw [← hqf] at HRV
    have hB3 : Below w2.heap.size w2 w3 := by rw [hw3]; exact ((Below.refl _ _).alloc (Nat.le_refl _) _).alloc (by simp) _
    have HT3 := Lib.hid (HT2.out.kept hB3)
    have HZ := Lib.hid (And.intro hz3 hz4)
    clear hG4 hB4 hW4 hw3 hqf hB3 hz3 hz4
    obtain ⟨t0, t1, t2, tz⟩ := HT3.out
    go_wp2_with fail
    go_at_call 46
    rw [HWe.out]
    refine HRV.out.mono ?_
    rintro e w5 ⟨v5, rfl, hty5, hin5, _⟩
    have ey : (rp fF 16 t []).1 = y := (rp_can (tvT_shp HVB.out)).trans HY.out
    rw [ey] at hty5 ⊢
    obtain ⟨a5, k5, rfl, _⟩ := hty5.at.slice
    have hs5 : W4.heap.size ≤ w5.heap.size := hin5.size
    have hz4 := HZ.out.2
    have HR5 := Lib.hid (HR4.out.keep hin5.size (hin5.block _ HR4.out.sz (.inl (by omega))))
    have HB5 := Lib.hid (hin5.below (by omega) HB4.out HB4.out.size)
    have HTY5 := Lib.hid (hty5.wide (lo' := w.heap.size + 1 + 1) (by omega) (Nat.le_refl _))
    clear hty5 hin5 t0 t1 t2 tz ey hz4
    obtain ⟨p0, p1, p2, f0, f1, f2, psz⟩ := HR5.out
    go_wp2_with fail
    exact bodyPost_ret (v := .tuple #[.agg #[.int .i64 y.k, .int .i64 y.n, .slice a5 y.ks.length k5], .bool true]) (by simp [results, Try.results20, go_sem, p0, p1, p2, psz]) rfl ⟨_, rfl, res_ty HTY5.out (Nat.le_succ _) _ _ _, Inside.thin (in_res (lo := w.heap.size) (hi := w.heap.size) (Inside.of_below HB5.out) (Nat.le_succ _) _ _ _)⟩

end Go.Proofs.Ytjhccdioainibaa
