/-
  TypeVars of the program and of the model: for every type in memory, its variables in a new slice; the exact laws' functions on slices of numbers.
-/
import Derived.Test.YtiaoopikmkakbaaZm
import Derived.Test.YtiaoopikmkakbaaZj
namespace Go.Proofs.Ytiaoopikmkakbaa
open Go.RowKit

theorem ints_base {w : World} {B C : Nat} {v : Value} {l : List Int} (h : IntsAt w B v l) (hb : C ≤ B) : IntsAt w C v l := by
  obtain ⟨hl, h | ⟨g, cap, cur, rfl, hb', ho, h1, h2, h3, h4⟩⟩ := h
  · exact ⟨hl, .inl h⟩
  · exact ⟨hl, .inr ⟨g, cap, cur, rfl, by omega, ho, h1, h2, h3, h4⟩⟩
/-- The numbers that TypeVars returns. -/
def varsT (t : Ty) : List Int := if tvT t = true then vars 16 t [] else []
theorem varsT_no {t : Ty} (h : tvT t = false) : varsT t = [] := by unfold varsT; rw [if_neg (by rw [h]; decide)]
theorem varsT_yes {t : Ty} (h : tvT t = true) : varsT t = vars 16 t [] := by unfold varsT; rw [if_pos h]
theorem varsT_len (t : Ty) : (varsT t).length ≤ 65536 := by
  rcases h : tvT t with _ | _
  · rw [varsT_no h]; simp
  · rw [varsT_yes h]
    have h1 := vars_len 16 t []
    have h2 := nd_le (by omega) (tvT_shp h)
    simp at h1
    omega
def IntsPost (l : List Int) (w : World) (e : Ending) (w' : World) : Prop := ∃ v, e = .returned v ∧ IntsAt w' w.heap.size v l ∧ Below w.heap.size w w'
theorem addVars_val {t : Ty} {l : List Int} (hs : shp 16 t = true) (hl : vars 16 t [] = l) (v lv : Value) (w0 w : World) (hx : TyAt w0 t v) (hb : Below w0.heap.size w0 w) (hi : IntsAt w w0.heap.size lv []) :
    Calls Try.prog 42 #[lv, .agg #[.int .i64 t.k, .int .i64 t.n, v]] w (VarsPost w0 w l) := by
  subst hl; exact addVars_any w0 16 t v lv [] w (by omega) hs hx hb hi (by have := nd_le (by omega) hs; simp; omega)
theorem l2Vars_val {t : Ty} {l : List Int} (hs : shp 16 t = true) (hl : vars 16 t [] = l) (v lv : Value) (w0 w : World) (hx : TyAt w0 t v) (hb : Below w0.heap.size w0 w) (hi : IntsAt w w0.heap.size lv []) :
    Calls Try.prog 41 #[lv, .agg #[.int .i64 t.k, .int .i64 t.n, v]] w (VarsPost w0 w l) := by
  subst hl; exact l2Vars_any w0 16 t v lv [] w (by omega) hs hx hb hi (by have := nd_le (by omega) hs; simp; omega)

set_option maxHeartbeats 1000000 in
theorem typeVars_impl {t : Ty} {l : List Int} (ht : varsT t = l) (v : Value) (w : World) (hx : TyAt w t v) :
    Calls Try.prog 21 #[.agg #[.int .i64 t.k, .int .i64 t.n, v]] w (IntsPost l w) := by
  obtain ⟨a, cap, rfl, hlen⟩ := hx.slice
  have HX := Lib.hid hx
  clear hx
  have HP0 := Lib.hid (tbox_new w (.int .i64 t.k) (.int .i64 t.n) (.slice a t.ks.length cap) 29)
  have HA0 : Hid (Below w.heap.size w (w.alloc (.cells #[.int .i64 t.k, .int .i64 t.n, .slice a t.ks.length cap] 29))) := Lib.hid ((Below.refl _ _).alloc (Nat.le_refl _) _)
  rcases hv : tvT t with _ | _
  · have HV := Lib.hid hv
    have HS : Hid (l = []) := Lib.hid (by rw [← ht, varsT_no hv])
    clear hv ht
    go_enter Try.func21, Try.ntmps21
    go_wp2_with fail
    go_at_call 12
    refine (typeValid_impl_val HV.out _ _ (HX.out.kept HA0.out)).mono ?_
    rintro e w1 ⟨rfl, hb1⟩
    have H1 := Lib.hid (HA0.out.trans (hb1.mono HA0.out.size))
    clear hb1
    go_wp2_with fail
    go_ret
    exact ⟨_, rfl, by rw [HS.out]; exact World.ownsRow_nil _ _ _ _, H1.out⟩
  · have HV := Lib.hid hv
    have HS : Hid (vars 16 t [] = l) := Lib.hid (by rw [← ht, varsT_yes hv])
    have HSH := Lib.hid (tvT_shp hv)
    clear hv ht
    go_enter Try.func21, Try.ntmps21
    go_wp2_with fail
    go_at_call 12
    refine (typeValid_impl_val HV.out _ _ (HX.out.kept HA0.out)).mono ?_
    rintro e w1 ⟨rfl, hb1⟩
    have HP1 := Lib.hid (HP0.out.kept hb1)
    have H1 := Lib.hid (HA0.out.trans (hb1.mono HA0.out.size))
    clear hb1
    obtain ⟨p0, p1, p2, pz⟩ := HP1.out
    go_wp2_with fail
    go_at_call 42
    refine (addVars_val HSH.out HS.out _ _ w1 w1 (HX.out.kept H1.out) (Below.refl _ _) (World.ownsRow_nil _ _ _ _)).mono ?_
    rintro e w2 ⟨lv, rfl, hi2, hb2, _⟩
    have H2 := Lib.hid (H1.out.trans (hb2.mono H1.out.size))
    have HI2 := Lib.hid (ints_base hi2 H1.out.size)
    clear hb2 hi2
    go_wp2_with fail
    go_ret
    exact ⟨_, rfl, HI2.out, H2.out⟩

set_option maxHeartbeats 1000000 in
theorem typeVars_spec {t : Ty} {l : List Int} (ht : varsT t = l) (v : Value) (w : World) (hx : TyAt w t v) :
    Calls Try.prog 20 #[.agg #[.int .i64 t.k, .int .i64 t.n, v]] w (IntsPost l w) := by
  obtain ⟨a, cap, rfl, hlen⟩ := hx.slice
  have HX := Lib.hid hx
  clear hx
  have HP0 := Lib.hid (tbox_new w (.int .i64 t.k) (.int .i64 t.n) (.slice a t.ks.length cap) 29)
  have HA0 : Hid (Below w.heap.size w (w.alloc (.cells #[.int .i64 t.k, .int .i64 t.n, .slice a t.ks.length cap] 29))) := Lib.hid ((Below.refl _ _).alloc (Nat.le_refl _) _)
  rcases hv : tvT t with _ | _
  · have HV := Lib.hid hv
    have HS : Hid (l = []) := Lib.hid (by rw [← ht, varsT_no hv])
    clear hv ht
    go_enter Try.func20, Try.ntmps20
    go_wp2_with fail
    go_at_call 10
    refine (typeValid_spec_val HV.out _ _ (HX.out.kept HA0.out)).mono ?_
    rintro e w1 ⟨rfl, hb1⟩
    have H1 := Lib.hid (HA0.out.trans (hb1.mono HA0.out.size))
    clear hb1
    go_wp2_with fail
    go_ret
    exact ⟨_, rfl, by rw [HS.out]; exact World.ownsRow_made w1 #[] 0 H1.out.size (Nat.zero_le _) rfl, H1.out.alloc H1.out.size _⟩
  · have HV := Lib.hid hv
    have HS : Hid (vars 16 t [] = l) := Lib.hid (by rw [← ht, varsT_yes hv])
    have HSH := Lib.hid (tvT_shp hv)
    clear hv ht
    go_enter Try.func20, Try.ntmps20
    go_wp2_with fail
    go_at_call 10
    refine (typeValid_spec_val HV.out _ _ (HX.out.kept HA0.out)).mono ?_
    rintro e w1 ⟨rfl, hb1⟩
    have HP1 := Lib.hid (HP0.out.kept hb1)
    have H1 := Lib.hid (HA0.out.trans (hb1.mono HA0.out.size))
    clear hb1
    obtain ⟨p0, p1, p2, pz⟩ := HP1.out
    have HPZ := Lib.hid (HP1.out.kept ((Below.refl _ _).alloc (Nat.le_refl _) (.cells #[] 3)))
    clear p0 p1 p2 pz
    obtain ⟨p0, p1, p2, pz⟩ := HPZ.out
    go_wp2_with fail
    go_at_call 41
    refine (l2Vars_val HSH.out HS.out _ _ w1 _ (HX.out.kept H1.out) ((Below.refl _ _).alloc (Nat.le_refl _) _) (World.ownsRow_made w1 #[] 0 (Nat.le_refl _) (Nat.zero_le _) rfl)).mono ?_
    rintro e w2 ⟨lv, rfl, hi2, hb2, _⟩
    have H2 := Lib.hid (H1.out.trans (hb2.mono H1.out.size))
    have HI2 := Lib.hid (ints_base hi2 H1.out.size)
    clear hb2 hi2
    go_wp2_with fail
    go_ret
    exact ⟨_, rfl, HI2.out, H2.out⟩

set_option maxHeartbeats 1000000 in
theorem eqIntS_same (n1 n2 : Nat) (l : List Int) (hl : l.length ≤ 1000000) (v1 v2 : Value) (w : World) (h1 : IntsAt w n1 v1 l) (h2 : IntsAt w n2 v2 l) :
    Calls Try.prog 22 #[v1, v2] w fun e w' => e = .returned (.bool true) ∧ Below w.heap.size w w' := by
  have H1 := Lib.hid h1
  have H2 := Lib.hid h2
  obtain ⟨a1, c1, rfl⟩ := ints_slice h1
  obtain ⟨a2, c2, rfl⟩ := ints_slice h2
  clear h1 h2
  obtain ⟨L, hL⟩ : ∃ L, l.length = L := ⟨_, rfl⟩
  have HL := Lib.hid hL
  rw [hL] at hl ⊢
  clear hL
  go_enter Try.func22, Try.ntmps22
  go_wp2
  go_loopw [5] (fun i wr => ∃ k : Nat, k ≤ L ∧ i = .int .i64 k ∧ Below w.heap.size w wr) (fun i _ => L - (intOf i).toNat)
  case atStart => exact ⟨0, Nat.zero_le _, rfl, Below.refl _ _⟩
  case round =>
    obtain ⟨k, hk, rfl, hB⟩ := hrel
    by_cases hlt : k < L
    · obtain ⟨b1, d1, e1, _, l1, x1⟩ := ints_at H1.out k (by rw [HL.out]; exact hlt)
      obtain ⟨b2, d2, e2, _, l2, x2⟩ := ints_at H2.out k (by rw [HL.out]; exact hlt)
      have f1 : a1 = some ⟨b1, 0, none⟩ := by injection e1
      have f2 : a2 = some ⟨b2, 0, none⟩ := by injection e2
      subst f1 f2
      clear e1 e2
      have y1 := (hB.cell (p := ⟨b1, k, none⟩) l1).trans x1
      have y2 := (hB.cell (p := ⟨b2, k, none⟩) l2).trans x2
      have HB := Lib.hid hB
      have hki : (k : Int) < (L : Int) := by omega
      clear x1 x2 hB
      go_wp2_with fail
      go_quiet (fail)
      go_wp2_with fail
      refine ⟨⟨k + 1, by omega, by go_num, ?_⟩, by simp [intOf]; omega⟩
      exact below_drewN HB.out _
    · have hki : ¬ (k : Int) < (L : Int) := by omega
      go_wp2_with fail
      go_ret
      exact ⟨rfl, hB⟩

/-- The marks from K on. -/
def marksI (K L : Nat) : List Int := (List.range L).map fun i => ((K + i : Nat) : Int)
theorem marksI_len (K L : Nat) : (marksI K L).length = L := by unfold marksI; simp

set_option maxHeartbeats 1000000 in
theorem markIntS_any (n0 K : Nat) (l : List Int) (hl : l.length ≤ 1000000) (hK : K ≤ 1000000) (v : Value) (w : World) (h : IntsAt w n0 v l) :
    Calls Try.prog 23 #[v, .int .i64 K] w fun e w' => e = .returned (.int .i64 ((K + l.length : Nat) : Int)) ∧ IntsAt w' n0 v (marksI K l.length) ∧ Below n0 w w' := by
  have H := Lib.hid h
  obtain ⟨a, c, rfl⟩ := ints_slice h
  clear h
  obtain ⟨L, hL⟩ : ∃ L, l.length = L := ⟨_, rfl⟩
  have HL := Lib.hid hL
  rw [hL] at hl ⊢
  clear hL
  go_enter Try.func23, Try.ntmps23
  go_wp2
  go_loopw [1, 5] (fun m i wr => ∃ (k : Nat) (l' : List Int), k ≤ L ∧ i = .int .i64 k ∧ m = .int .i64 ((K + k : Nat) : Int) ∧ l'.length = L ∧ Hid (∀ i, i < k → l'.getD i 0 = ((K + i : Nat) : Int)) ∧ Hid (IntsAt wr n0 (.slice a L c) l') ∧ Below n0 w wr) (fun _ i _ => L - (intOf i).toNat)
  case atStart => exact ⟨0, l, Nat.zero_le _, rfl, rfl, HL.out, Lib.hid (fun i hi => absurd hi (Nat.not_lt_zero _)), Lib.hid (by have := H.out; rw [HL.out] at this; exact this), Below.refl _ _⟩
  case round =>
    obtain ⟨k, l', hk, rfl, rfl, hl', hm, hown, hB⟩ := hrel
    have HB := Lib.hid hB
    have HLL := Lib.hid hl'
    by_cases hlt : k < L
    · obtain ⟨b1, d1, e1, n1, l1, x1⟩ := ints_at hown.out k (by rw [hl']; exact hlt)
      have f1 : a = some ⟨b1, 0, none⟩ := by injection e1
      subst f1
      have hki : (k : Int) < (L : Int) := by omega
      have h2 := hown.out
      unfold IntsAt at h2
      rw [hl'] at h2
      have hfz := h2.frozenAt k
      have h3 := (h2.stored k (.int .i64 ((K + k : Nat) : Int))).1
      have H3 := Lib.hid h3
      clear e1 hB hl' h2 h3
      go_wp2_with fail
      refine ⟨⟨k + 1, l'.set k ((K + k : Nat) : Int), by omega, by go_num, by push_cast; rw [Int.add_assoc], by rw [List.length_set]; exact HLL.out, Lib.hid ?_, Lib.hid ?_, HB.out.setCell (p := ⟨b1, k, none⟩) n1 _⟩, by simp [intOf]; omega⟩
      · intro i hi
        by_cases hik : i = k
        · subst hik; simp [List.getD, HLL.out, hlt]
        · have := hm.out i (by omega)
          simp only [List.getD] at this ⊢
          rw [List.getElem?_set_ne (by omega)]
          exact this
      · unfold IntsAt
        rw [List.length_set, HLL.out, List.map_set]
        have h4 := H3.out
        push_cast at h4 ⊢
        exact h4
    · have hki : ¬ (k : Int) < (L : Int) := by omega
      have hkl : k = L := by omega
      clear hB hlt hl'
      subst hkl
      go_wp2_with fail
      go_ret
      refine ⟨rfl, ?_, HB.out⟩
      have e : l' = marksI K k := by
        apply List.ext_getElem (by rw [HLL.out, marksI_len])
        intro i h1 h3
        have := hm.out i (by rw [HLL.out] at h1; omega)
        simpa [List.getD, h1, marksI] using this
      rw [← e]; exact hown.out

set_option maxHeartbeats 1000000 in
theorem heldIntS_any (n0 K : Nat) (L : Nat) (hl : L ≤ 1000000) (hK : K ≤ 1000000) (v : Value) (w : World) (h : IntsAt w n0 v (marksI K L)) :
    Calls Try.prog 24 #[v, .int .i64 K] w fun e w' => e = .returned (.int .i64 ((K + L : Nat) : Int)) ∧ Below w.heap.size w w' := by
  have H := Lib.hid h
  obtain ⟨a, c, hv⟩ := ints_slice h
  rw [marksI_len] at hv
  subst hv
  clear h
  go_enter Try.func24, Try.ntmps24
  go_wp2
  go_loopw [1, 5] (fun m i wr => ∃ (k : Nat), k ≤ L ∧ i = .int .i64 k ∧ m = .int .i64 ((K + k : Nat) : Int) ∧ Below w.heap.size w wr) (fun _ i _ => L - (intOf i).toNat)
  case atStart => exact ⟨0, Nat.zero_le _, rfl, rfl, Below.refl _ _⟩
  case round =>
    obtain ⟨k, hk, rfl, rfl, hB⟩ := hrel
    have HB := Lib.hid hB
    by_cases hlt : k < L
    · obtain ⟨b1, d1, e1, n1, l1, x1⟩ := ints_at H.out k (by rw [marksI_len]; exact hlt)
      have f1 : a = some ⟨b1, 0, none⟩ := by injection e1
      subst f1
      have hki : (k : Int) < (L : Int) := by omega
      have hx1 : wr.cell? ⟨b1, k, none⟩ = some (.int .i64 ((K : Int) + (k : Int))) := by
        refine (hB.cell (p := ⟨b1, k, none⟩) l1).trans (x1.trans ?_)
        simp [List.getD, hlt, marksI]
      clear e1 hB x1
      go_wp2_with fail
      exact ⟨⟨k + 1, by omega, by go_num, by push_cast; rw [Int.add_assoc], HB.out⟩, by simp [intOf]; omega⟩
    · have hki : ¬ (k : Int) < (L : Int) := by omega
      have hkl : k = L := by omega
      subst hkl
      clear hB hlt
      go_wp2_with fail
      go_ret
      exact ⟨rfl, HB.out⟩

end Go.Proofs.Ytiaoopikmkakbaa
