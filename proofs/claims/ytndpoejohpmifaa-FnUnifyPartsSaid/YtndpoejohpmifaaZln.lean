/-
  The variables of a type, put behind a list of the program's own: addVars of the program, l2Vars of the model.
  The variables of a type, put behind a list: l2Vars of the model.
  TypeVars of the program and of the model: for every type in memory, its variables in a new slice; the exact laws' functions on slices of numbers.
-/
import Derived.Test.YtndpoejohpmifaaZk
import Derived.BigQuiet
import Derived.Test.YtndpoejohpmifaaZij
namespace Go.Proofs.Ytndpoejohpmifaa
open Go.RowKit

/-- Cells of types stay as they are. -/
def TyKeep (w w' : World) : Prop := ∀ (b : Nat) (C : Array Value) (m : Nat × Nat), w.heap[b]? = some (Obj.cells C 25 m) → w'.heap[b]? = some (Obj.cells C 25 m)
theorem TyKeep.refl (w : World) : TyKeep w w := fun _ _ _ h => h
theorem TyKeep.trans {w1 w2 w3 : World} (h : TyKeep w1 w2) (k : TyKeep w2 w3) : TyKeep w1 w3 := fun b C m e => k b C m (h b C m e)
theorem TyKeep.below {w w' : World} (h : Below w.heap.size w w') : TyKeep w w' := fun b _ _ e => (h.block b (Array.getElem?_eq_some_iff.1 e).1).trans e
theorem TyKeep.grown {w w' : World} {B : Nat} {v : Value} {l : List Int} (h : IntsAt w B v l) (hg : w.grownBy w' v.ownBlock) : TyKeep w w' := by
  intro b C m e
  refine (hg.block b (Array.getElem?_eq_some_iff.1 e).1 (fun e2 => ?_)).trans e
  obtain ⟨hl, ⟨rfl, _⟩ | ⟨g, cap, cur, rfl, hb', ho, _⟩⟩ := h
  · cases e2
  · have : b = g := by injection e2
    subst this
    rw [e] at ho
    injection ho with ho
    injection ho with _ h2 _
    exact absurd h2 (by decide)
theorem TyKeep.box {w w' : World} {B : Nat} {x y z : Value} (h : TyKeep w w') (hb : w.heap[B]? = some (.cells #[x, y, z] 25)) : TBox w' B x y z := by
  have e := h B _ _ hb
  have hs := (Array.getElem?_eq_some_iff.1 e).1
  exact ⟨by simp only [World.cell?, e]; rfl, by simp only [World.cell?, e]; rfl, by simp only [World.cell?, e]; rfl, hs⟩
/-- What both leave: the longer list; what lay below B stays, and so do all cells of types. -/
def VarsPost (w0 w : World) (l : List Int) (e : Ending) (w' : World) : Prop := ∃ lv, e = .returned lv ∧ IntsAt w' w0.heap.size lv l ∧ Below w0.heap.size w0 w' ∧ TyKeep w w'
theorem c1_new (w : World) (o : Obj) (v : Value) (T : TypeId) : ∀ (j : Nat) (u : Value), ([v] : List Value)[j]? = some u → ((w.alloc o).alloc (.cells #[v] T)).cell? ((⟨w.heap.size + 1, 0, none⟩ : Addr).add j) = some u := by
  have h := cell_one_new (w.alloc o) v T
  rw [World.size_alloc] at h
  exact h
theorem vars_le {d : Nat} {t : Ty} {acc : List Int} {N : Nat} (h : acc.length + nd d t ≤ N) : (vars d t acc).length ≤ N := Nat.le_trans (vars_len d t acc) h
theorem varsK_le {d : Nat} {t : Ty} {acc : List Int} (j : Nat) : (varsK d t acc j).length ≤ acc.length + ndk d t j := by
  induction j with
  | zero => simp [varsK, ndk_zero]
  | succ j ih =>
    rw [varsK_succ, ndk_succ]
    have := vars_len d (t.ks.getD j Ty.dummy) (varsK d t acc j)
    omega

set_option maxRecDepth 100000 in
set_option maxHeartbeats 4000000 in
theorem addVars_any (w0 : World) : ∀ (d : Nat) (t : Ty) (v lv : Value) (acc : List Int) (w : World), d ≤ 16 → shp d t = true → TyAt w0 t v → Below w0.heap.size w0 w → IntsAt w w0.heap.size lv acc → acc.length + nd d t ≤ 100000 →
    Calls Try.prog 60 #[lv, .agg #[.int .i64 t.k, .int .i64 t.n, v]] w (VarsPost w0 w (vars d t acc)) := by
  intro d
  induction d with
  | zero => intro t v lv acc w _ hs; cases hs
  | succ d ih =>
    intro t v lv acc w hd hs hx hb hacc hlen2
    obtain ⟨hf, hkids⟩ := shp_iff.1 hs
    have HX := Lib.hid hx
    have HB := Lib.hid hb
    have HACC := Lib.hid hacc
    have HIH := Lib.hid ih
    have HKIDS := Lib.hid hkids
    have HND := Lib.hid hlen2
    obtain ⟨la, lc, rfl⟩ := ints_slice hacc
    obtain ⟨a, cap, rfl, hlen⟩ := hx.slice
    have hBw := hb.size
    have hal : acc.length ≤ 100000 := by omega
    obtain ⟨i0, hi, hz0, hz1, hz2⟩ := info_parts Try.infoInt
    obtain ⟨k, hk⟩ : ∃ k, t.k = k := ⟨_, rfl⟩
    obtain ⟨n, hn⟩ : ∃ n, t.n = n := ⟨_, rfl⟩
    obtain ⟨L, hL⟩ : ∃ L, t.ks.length = L := ⟨_, rfl⟩
    have HK := Lib.hid hk
    have HN := Lib.hid hn
    have HL := Lib.hid hL
    rw [hk, hn, hL] at hf
    rw [hk, hn, hL]
    rw [hL] at hlen
    clear hx hb hacc ih hkids hs hk hn hL hlen2
    by_cases h4 : k = 4
    · obtain ⟨rfl⟩ := h4
      have hL0 : L = 0 := by rcases fieldsB_iff.1 hf with ⟨h, _⟩ | ⟨h, _⟩ | ⟨_, _, _, h⟩ <;> omega
      subst hL0
      have HV : Hid (vars (d + 1) t acc = addV acc n) := Lib.hid (by rw [vars_var HK.out HL.out, HN.out])
      clear hf
      have HA0 := Lib.hid (HB.out.alloc HB.out.size (.cells #[.int .i64 4, .int .i64 n, .slice a 0 cap] 25))
      by_cases hm : n ∈ acc
      · have HM := Lib.hid hm
        have HE : Hid (addV acc n = acc) := Lib.hid (by unfold addV; rw [if_pos hm])
        clear hm
        go_enter Try.func60, Try.ntmps60
        go_wp2_with fail
        go_at_call 93
        refine (contains_any w0.heap.size acc n _ _ (HACC.out.alloc _) (by omega) true (decide_eq_true HM.out)).mono ?_
        rintro e w1 ⟨rfl, rfl⟩
        go_wp2_with fail
        go_loopw [0, 25] (fun lv i wr => i = .int .i64 0 ∧ lv = .slice la acc.length lc ∧ wr = w.alloc (.cells #[.int .i64 4, .int .i64 n, .slice a 0 cap] 25)) (fun _ _ _ => 0)
        case atStart => exact ⟨rfl, rfl, rfl⟩
        case round =>
          obtain ⟨rfl, rfl, rfl⟩ := hrel
          go_wp2_with fail
          go_ret
          exact ⟨_, rfl, by rw [HV.out, HE.out]; exact HACC.out.alloc _, HA0.out, TyKeep.below ((Below.refl _ _).alloc (Nat.le_refl _) _)⟩
      · have HM := Lib.hid hm
        have HE : Hid (addV acc n = acc ++ [n]) := Lib.hid (by unfold addV; rw [if_neg hm])
        clear hm
        go_enter Try.func60, Try.ntmps60
        go_wp2_with fail
        go_at_call 93
        refine (contains_any w0.heap.size acc n _ _ (HACC.out.alloc _) (by omega) false (decide_eq_false HM.out)).mono ?_
        rintro e w1 ⟨rfl, rfl⟩
        have HBX : Hid (((w.alloc (.cells #[.int .i64 4, .int .i64 n, .slice a 0 cap] 25)).alloc (.cells #[.int .i64 n] 3)).heap[w.heap.size]? = some (.cells #[.int .i64 4, .int .i64 n, .slice a 0 cap] 25)) := Lib.hid (((World.grownBy_alloc (w.alloc (.cells #[.int .i64 4, .int .i64 n, .slice a 0 cap] 25)) (.cells #[.int .i64 n] 3) none).block w.heap.size (by simp) (by simp)).trans (heap_alloc_new w (.cells #[.int .i64 4, .int .i64 n, .slice a 0 cap] 25)))
        have HC1 := Lib.hid (c1_new w (.cells #[.int .i64 4, .int .i64 n, .slice a 0 cap] 25) (.int .i64 n) 3)
        go_wp2_with (first | (at_builtin; refine wpList_append_own _ rfl _ _ 37 rfl w0.heap.size 3 i0 (.int .i64 0) 1 8 Try.underlying37 hi hz0 hz1 hz2 rfl (by decide) _ _ _ rfl ((HACC.out.alloc _).alloc _) ⟨w.heap.size + 1, 0, none⟩ 1 1 [.int .i64 n] rfl rfl HC1.out (fun x hx => by simp at hx; subst hx; rfl) (by unfold maxLen; omega) (by omega) (by simp; omega) ?_; intro v3 w3 hown3 hgrow3 hnil3; obtain ⟨bx0, bx1, bx2, bxz⟩ := (TyKeep.grown ((HACC.out.alloc (.cells #[.int .i64 4, .int .i64 n, .slice a 0 cap] 25)).alloc (.cells #[.int .i64 n] 3)) hgrow3).box HBX.out))
        have hI3 : IntsAt w3 w0.heap.size v3 (acc ++ [n]) := by unfold IntsAt; simpa using hown3
        have HI3 := Lib.hid hI3
        have hK3 : TyKeep w w3 := (TyKeep.below (((Below.refl _ _).alloc (Nat.le_refl _) _).alloc (by simp) _)).trans (TyKeep.grown ((HACC.out.alloc (.cells #[.int .i64 4, .int .i64 n, .slice a 0 cap] 25)).alloc (.cells #[.int .i64 n] 3)) hgrow3)
        have HK3 := Lib.hid hK3
        have hB3 : Below w0.heap.size w0 w3 := ((HA0.out.alloc (by have := HA0.out.size; simpa using this) (.cells #[.int .i64 n] 3)).grown hgrow3 (by simp; omega) (fun q hq => (HACC.out.lt q hq).1))
        have HB3 := Lib.hid hB3
        clear hown3 hgrow3 hnil3 hI3 hK3 hB3
        go_loopw [0, 25] (fun lv i wr => i = .int .i64 0 ∧ lv = v3 ∧ wr = w3) (fun _ _ _ => 0)
        case atStart => exact ⟨rfl, rfl, rfl⟩
        case round =>
          obtain ⟨rfl, rfl, rfl⟩ := hrel
          go_wp2_with fail
          go_ret
          exact ⟨_, rfl, by rw [HV.out, HE.out]; exact HI3.out, HB3.out, HK3.out⟩
    · have e4 : (k == 4) = false := by simpa using h4
      have HV : Hid (vars (d + 1) t acc = varsK d t acc L) := Lib.hid (by rw [vars_kids (by rw [HK.out]; exact h4), HL.out])
      have hL2 := fieldsB_len hf
      have HA0 := Lib.hid (HB.out.alloc HB.out.size (.cells #[.int .i64 k, .int .i64 n, .slice a L cap] 25))
      clear hf h4
      go_enter Try.func60, Try.ntmps60
      go_wp2_with fail
      go_loopw [0, 25] (fun lv i wr => ∃ (j : Nat), j ≤ L ∧ i = .int .i64 j ∧ Hid (IntsAt wr w0.heap.size lv (varsK d t acc j)) ∧ Below w0.heap.size w0 wr ∧ Hid (TyKeep w wr)) (fun _ i _ => L - (intOf i).toNat)
      case atStart => exact ⟨0, Nat.zero_le _, rfl, Lib.hid (HACC.out.alloc _), HA0.out, Lib.hid (TyKeep.below ((Below.refl _ _).alloc (Nat.le_refl _) _))⟩
      case round =>
        obtain ⟨j, hj, rfl, hacc, hBw2, hkeep⟩ := hrel
        obtain ⟨zl, zc, hzl⟩ := ints_slice hacc.out
        subst hzl
        have HBW := Lib.hid hBw2
        have hBs := hBw2.size
        by_cases hlt : j < L
        · have hji : (j : Int) < (L : Int) := by omega
          obtain ⟨b, o, cap2, vi, ex, bl, y0, y1, y2, hkid⟩ := HX.out.kid j (by rw [HL.out]; exact hlt)
          have ex1 : a = some ⟨b, o, none⟩ := by injection ex
          subst ex1
          clear ex
          obtain ⟨x, hxx⟩ : ∃ x, t.ks.getD j Ty.dummy = x := ⟨_, rfl⟩
          rw [hxx] at y0 y1 hkid
          obtain ⟨ai, ci, rfl, hli⟩ := hkid.slice
          have q0 := (hBw2.cell (p := ⟨b, o + j * 3, none⟩) bl).trans y0
          have q1 := (hBw2.cell (p := ⟨b, o + j * 3 + 1, none⟩) bl).trans y1
          have q2 := (hBw2.cell (p := ⟨b, o + j * 3 + 2, none⟩) bl).trans y2
          have HXS : Hid (shp d x = true) := Lib.hid (by rw [← hxx]; exact HKIDS.out j (by rw [HL.out]; exact hlt))
          have HKID := Lib.hid hkid
          have HVS : Hid (vars d x (varsK d t acc j) = varsK d t acc (j + 1)) := Lib.hid (by rw [varsK_succ, hxx])
          have hbig : (varsK d t acc j).length + nd d x ≤ 100000 := by
            have h1 := varsK_le (d := d) (t := t) (acc := acc) j
            have h2 := HND.out
            rw [nd_succ, HL.out] at h2
            have h3 := ndk_mono d t (show j + 1 ≤ L by omega)
            rw [ndk_succ, hxx] at h3
            omega
          obtain ⟨A, hA⟩ : ∃ A, varsK d t acc j = A := ⟨_, rfl⟩
          rw [hA] at hacc HVS hbig
          rw [hA]
          have hd16 : d ≤ 16 := by omega
          have HA1 := Lib.hid (HBW.out.alloc HBW.out.size (.cells #[.int .i64 x.k, .int .i64 x.n, .slice ai x.ks.length ci] 25))
          clear hxx hkid hBw2 hA
          go_wp2_with fail
          go_at_call 60
          refine (HIH.out x _ _ A _ hd16 HXS.out HKID.out HA1.out (hacc.out.alloc _) hbig).mono ?_
          rintro e w2 ⟨lv2, rfl, hacc2, hB2, hk2⟩
          rw [HVS.out] at hacc2
          have HACC2 := Lib.hid hacc2
          have HB2 := Lib.hid hB2
          have HK2 := Lib.hid ((hkeep.out.trans (TyKeep.below ((Below.refl _ _).alloc (Nat.le_refl _) _))).trans hk2)
          clear hacc2 hB2 hk2
          go_wp2_with fail
          exact ⟨⟨j + 1, by omega, by go_num, HACC2, HB2.out, HK2⟩, by simp [intOf]; omega⟩
        · have hji : ¬ (j : Int) < (L : Int) := by omega
          have hjl : j = L := by omega
          subst hjl
          clear hlt hBw2
          go_wp2_with fail
          go_ret
          exact ⟨_, rfl, by rw [HV.out]; exact hacc.out, HBW.out, hkeep.out⟩

end Go.Proofs.Ytndpoejohpmifaa

namespace Go.Proofs.Ytndpoejohpmifaa
open Go.RowKit

set_option maxRecDepth 100000 in
set_option maxHeartbeats 4000000 in
theorem l2Vars_any (w0 : World) : ∀ (d : Nat) (t : Ty) (v lv : Value) (acc : List Int) (w : World), d ≤ 16 → shp d t = true → TyAt w0 t v → Below w0.heap.size w0 w → IntsAt w w0.heap.size lv acc → acc.length + nd d t ≤ 100000 →
    Calls Try.prog 67 #[lv, .agg #[.int .i64 t.k, .int .i64 t.n, v]] w (VarsPost w0 w (vars d t acc)) := by
  intro d
  induction d with
  | zero => intro t v lv acc w _ hs; cases hs
  | succ d ih =>
    intro t v lv acc w hd hs hx hb hacc hlen2
    obtain ⟨hf, hkids⟩ := shp_iff.1 hs
    have HX := Lib.hid hx
    have HB := Lib.hid hb
    have HACC := Lib.hid hacc
    have HIH := Lib.hid ih
    have HKIDS := Lib.hid hkids
    have HND := Lib.hid hlen2
    obtain ⟨la, lc, rfl⟩ := ints_slice hacc
    obtain ⟨a, cap, rfl, hlen⟩ := hx.slice
    have hBw := hb.size
    have hal : acc.length ≤ 100000 := by omega
    obtain ⟨i0, hi, hz0, hz1, hz2⟩ := info_parts Try.infoInt
    obtain ⟨k, hk⟩ : ∃ k, t.k = k := ⟨_, rfl⟩
    obtain ⟨n, hn⟩ : ∃ n, t.n = n := ⟨_, rfl⟩
    obtain ⟨L, hL⟩ : ∃ L, t.ks.length = L := ⟨_, rfl⟩
    have HK := Lib.hid hk
    have HN := Lib.hid hn
    have HL := Lib.hid hL
    rw [hk, hn, hL] at hf
    rw [hk, hn, hL]
    rw [hL] at hlen
    clear hx hb hacc ih hkids hs hk hn hL hlen2
    by_cases h4 : k = 4
    · obtain ⟨rfl⟩ := h4
      have hL0 : L = 0 := by rcases fieldsB_iff.1 hf with ⟨h, _⟩ | ⟨h, _⟩ | ⟨_, _, _, h⟩ <;> omega
      subst hL0
      have HV : Hid (vars (d + 1) t acc = addV acc n) := Lib.hid (by rw [vars_var HK.out HL.out, HN.out])
      clear hf
      have HA0 := Lib.hid (HB.out.alloc HB.out.size (.cells #[.int .i64 4, .int .i64 n, .slice a 0 cap] 25))
      go_enter Try.func67, Try.ntmps67
      go_wp2_with fail
      go_loopw [5] (fun i wr => ∃ (j : Nat), j ≤ acc.length ∧ i = .int .i64 j ∧ Hid (∀ q, q < j → acc.getD q 0 ≠ n) ∧ Below (w.heap.size + 1) (w.alloc (.cells #[.int .i64 4, .int .i64 n, .slice a 0 cap] 25)) wr) (fun i _ => acc.length - (intOf i).toNat)
      case atStart => exact ⟨0, Nat.zero_le _, rfl, Lib.hid (fun q hq => absurd hq (Nat.not_lt_zero _)), Below.refl _ _⟩
      case round =>
        obtain ⟨j, hj, rfl, hno, hbw⟩ := hrel
        obtain ⟨x0, x1, x2, xz⟩ := box_kept hbw
        have HBW := Lib.hid hbw
        have hI := ints_below (HACC.out.alloc (.cells #[.int .i64 4, .int .i64 n, .slice a 0 cap] 25)) (by rw [World.size_alloc]; exact hbw)
        have HI := Lib.hid hI
        have hkp : TyKeep w wr := TyKeep.below (((Below.refl _ _).alloc (Nat.le_refl _) _).trans (hbw.mono (by omega)))
        have HKP := Lib.hid hkp
        have hB1 : Below w0.heap.size w0 wr := HA0.out.trans (hbw.mono (by omega))
        have HB1 := Lib.hid hB1
        have hBs1 := hB1.size
        clear hkp hB1
        by_cases hlt : j < acc.length
        · have hji : (j : Int) < (acc.length : Int) := by omega
          obtain ⟨b, cp, ex, _, bl, y0⟩ := ints_at hI j hlt
          have ex1 : la = some ⟨b, 0, none⟩ := by injection ex
          subst ex1
          clear ex hI
          obtain ⟨y, hy⟩ : ∃ y, acc.getD j 0 = y := ⟨_, rfl⟩
          rw [hy] at y0
          by_cases hn : y = n
          · have hm : n ∈ acc := by rw [← hn, ← hy]; simp [List.getD, hlt]
            have HE : Hid (addV acc n = acc) := Lib.hid (by unfold addV; rw [if_pos hm])
            have e1 : (y == n) = true := by simpa using hn
            clear hn hy hno hm hbw
            go_wp2_with fail
            go_quiet (fail)
            go_wp2_with fail
            go_ret
            exact ⟨_, rfl, by rw [HV.out, HE.out]; exact HI.out, below_drewN HB1.out _, HKP.out⟩
          · have e1 : (y == n) = false := by simpa using hn
            have HNO : Hid (∀ q, q < j + 1 → acc.getD q 0 ≠ n) := Lib.hid (fun q hq => by
              rcases Nat.lt_or_ge q j with h | h
              · exact hno.out q h
              · have : q = j := by omega
                rw [this, hy]; exact hn)
            clear hn hy hno hbw
            go_wp2_with fail
            go_quiet (fail)
            go_wp2_with fail
            exact ⟨⟨j + 1, by omega, by go_num, HNO, below_drewN HBW.out _⟩, by simp [intOf]; omega⟩
        · have hji : ¬ (j : Int) < (acc.length : Int) := by omega
          have hm : ¬ n ∈ acc := fun hmem => by
            obtain ⟨q, hq, hqe⟩ := List.getElem_of_mem hmem
            refine hno.out q (by omega) ?_
            simp [List.getD, hq, hqe]
          have HE : Hid (addV acc n = acc ++ [n]) := Lib.hid (by unfold addV; rw [if_neg hm])
          clear hno hlt hm hI hbw
          go_wp2_with (first | (at_builtin; refine wpList_append_own _ rfl _ _ 37 rfl w0.heap.size 3 i0 (.int .i64 0) 1 8 Try.underlying37 hi hz0 hz1 hz2 rfl (by decide) _ _ _ rfl (HI.out.alloc _) ⟨wr.heap.size, 0, none⟩ 1 1 [.int .i64 n] rfl rfl (cell_one_new _ _ _) (fun x hx => by simp at hx; subst hx; rfl) (by unfold maxLen; omega) (by omega) (by simp; omega) ?_; intro v3 w3 hown3 hgrow3 hnil3))
          have hI3 : IntsAt w3 w0.heap.size v3 (acc ++ [n]) := by unfold IntsAt; simpa using hown3
          go_ret
          exact ⟨_, rfl, by rw [HV.out, HE.out]; exact hI3, (HB1.out.alloc HB1.out.size _).grown hgrow3 (by simp; omega) (fun q hq => (HI.out.lt q hq).1),
            (HKP.out.trans (TyKeep.below ((Below.refl _ _).alloc (Nat.le_refl _) _))).trans (TyKeep.grown (HI.out.alloc (.cells #[.int .i64 n] 3)) hgrow3)⟩
    · have e4 : (k == 4) = false := by simpa using h4
      have HV : Hid (vars (d + 1) t acc = varsK d t acc L) := Lib.hid (by rw [vars_kids (by rw [HK.out]; exact h4), HL.out])
      have hL2 := fieldsB_len hf
      have HA0 := Lib.hid (HB.out.alloc HB.out.size (.cells #[.int .i64 k, .int .i64 n, .slice a L cap] 25))
      have HBX : Hid ((w.alloc (.cells #[.int .i64 k, .int .i64 n, .slice a L cap] 25)).heap[w.heap.size]? = some (.cells #[.int .i64 k, .int .i64 n, .slice a L cap] 25)) := Lib.hid (heap_alloc_new w _)
      clear hf h4
      go_enter Try.func67, Try.ntmps67
      go_wp2_with fail
      go_loopw [0, 6] (fun lv i wr => ∃ (j : Nat), j ≤ L ∧ i = .int .i64 j ∧ Hid (IntsAt wr w0.heap.size lv (varsK d t acc j)) ∧ Below w0.heap.size w0 wr ∧ Hid (TyKeep (w.alloc (.cells #[.int .i64 k, .int .i64 n, .slice a L cap] 25)) wr)) (fun _ i _ => L - (intOf i).toNat)
      case atStart => exact ⟨0, Nat.zero_le _, rfl, Lib.hid (HACC.out.alloc _), HA0.out, Lib.hid (TyKeep.refl _)⟩
      case round =>
        obtain ⟨j, hj, rfl, hacc, hBw2, hkeep⟩ := hrel
        obtain ⟨zl, zc, hzl⟩ := ints_slice hacc.out
        subst hzl
        obtain ⟨bx0, bx1, bx2, bxz⟩ := hkeep.out.box HBX.out
        have HBW := Lib.hid hBw2
        by_cases hlt : j < L
        · have hji : (j : Int) < (L : Int) := by omega
          obtain ⟨b, o, cap2, vi, ex, bl, y0, y1, y2, hkid⟩ := HX.out.kid j (by rw [HL.out]; exact hlt)
          have ex1 : a = some ⟨b, o, none⟩ := by injection ex
          subst ex1
          clear ex
          obtain ⟨x, hxx⟩ : ∃ x, t.ks.getD j Ty.dummy = x := ⟨_, rfl⟩
          rw [hxx] at y0 y1 hkid
          obtain ⟨ai, ci, rfl, hli⟩ := hkid.slice
          have q0 := (hBw2.cell (p := ⟨b, o + j * 3, none⟩) bl).trans y0
          have q1 := (hBw2.cell (p := ⟨b, o + j * 3 + 1, none⟩) bl).trans y1
          have q2 := (hBw2.cell (p := ⟨b, o + j * 3 + 2, none⟩) bl).trans y2
          have HXS : Hid (shp d x = true) := Lib.hid (by rw [← hxx]; exact HKIDS.out j (by rw [HL.out]; exact hlt))
          have HKID := Lib.hid hkid
          have HVS : Hid (vars d x (varsK d t acc j) = varsK d t acc (j + 1)) := Lib.hid (by rw [varsK_succ, hxx])
          have hbig : (varsK d t acc j).length + nd d x ≤ 100000 := by
            have h1 := varsK_le (d := d) (t := t) (acc := acc) j
            have h2 := HND.out
            rw [nd_succ, HL.out] at h2
            have h3 := ndk_mono d t (show j + 1 ≤ L by omega)
            rw [ndk_succ, hxx] at h3
            omega
          obtain ⟨A, hA⟩ : ∃ A, varsK d t acc j = A := ⟨_, rfl⟩
          rw [hA] at hacc HVS hbig
          rw [hA]
          have hd16 : d ≤ 16 := by omega
          clear hxx hkid hBw2 hA
          go_wp2_with fail
          go_at_call 67
          refine (HIH.out x _ _ A _ hd16 HXS.out HKID.out HBW.out hacc.out hbig).mono ?_
          rintro e w2 ⟨lv2, rfl, hacc2, hB2, hk2⟩
          rw [HVS.out] at hacc2
          have HACC2 := Lib.hid hacc2
          have HB2 := Lib.hid hB2
          have HK2 := Lib.hid (hkeep.out.trans hk2)
          clear hacc2 hB2 hk2
          go_wp2_with fail
          exact ⟨⟨j + 1, by omega, by go_num, HACC2, HB2.out, HK2⟩, by simp [intOf]; omega⟩
        · have hji : ¬ (j : Int) < (L : Int) := by omega
          have hjl : j = L := by omega
          subst hjl
          clear hlt hBw2
          go_wp2_with fail
          go_ret
          exact ⟨_, rfl, by rw [HV.out]; exact hacc.out, HBW.out, (TyKeep.below ((Below.refl _ _).alloc (Nat.le_refl _) _)).trans hkeep.out⟩


end Go.Proofs.Ytndpoejohpmifaa

namespace Go.Proofs.Ytndpoejohpmifaa
open Go.RowKit

theorem ints_base {w : World} {B C : Nat} {v : Value} {l : List Int} (h : IntsAt w B v l) (hb : C ≤ B) : IntsAt w C v l := by
  obtain ⟨hl, h | ⟨g, cap, cur, rfl, hb', ho, h1, h2, h3, h4⟩⟩ := h
  · exact ⟨hl, .inl h⟩
  · exact ⟨hl, .inr ⟨g, cap, cur, rfl, by omega, ho, h1, h2, h3, h4⟩⟩
/-- The numbers that TypeVars returns. -/
def varsT (t : Ty) : List Int := if tvT t = true then vars 16 t [] else []
theorem varsT_no {t : Ty} (h : tvT t = false) : varsT t = [] := by unfold varsT; rw [if_neg (by rw [h]; decide)]
theorem varsT_yes {t : Ty} (h : tvT t = true) : varsT t = vars 16 t [] := by unfold varsT; rw [if_pos h]
theorem varsT_len (t : Ty) : (varsT t).length ≤ 65536 := by
  rcases h : tvT t with _ | _
  · rw [varsT_no h]; simp
  · rw [varsT_yes h]
    have h1 := vars_len 16 t []
    have h2 := nd_le (by omega) (tvT_shp h)
    simp at h1
    omega
def IntsPost (l : List Int) (w : World) (e : Ending) (w' : World) : Prop := ∃ v, e = .returned v ∧ IntsAt w' w.heap.size v l ∧ Below w.heap.size w w'
theorem addVars_val {t : Ty} {l : List Int} (hs : shp 16 t = true) (hl : vars 16 t [] = l) (v lv : Value) (w0 w : World) (hx : TyAt w0 t v) (hb : Below w0.heap.size w0 w) (hi : IntsAt w w0.heap.size lv []) :
    Calls Try.prog 60 #[lv, .agg #[.int .i64 t.k, .int .i64 t.n, v]] w (VarsPost w0 w l) := by
  subst hl; exact addVars_any w0 16 t v lv [] w (by omega) hs hx hb hi (by have := nd_le (by omega) hs; simp; omega)
theorem l2Vars_val {t : Ty} {l : List Int} (hs : shp 16 t = true) (hl : vars 16 t [] = l) (v lv : Value) (w0 w : World) (hx : TyAt w0 t v) (hb : Below w0.heap.size w0 w) (hi : IntsAt w w0.heap.size lv []) :
    Calls Try.prog 67 #[lv, .agg #[.int .i64 t.k, .int .i64 t.n, v]] w (VarsPost w0 w l) := by
  subst hl; exact l2Vars_any w0 16 t v lv [] w (by omega) hs hx hb hi (by have := nd_le (by omega) hs; simp; omega)

set_option maxRecDepth 100000 in
set_option maxHeartbeats 1000000 in
theorem typeVars_impl {t : Ty} {l : List Int} (ht : varsT t = l) (v : Value) (w : World) (hx : TyAt w t v) :
    Calls Try.prog 26 #[.agg #[.int .i64 t.k, .int .i64 t.n, v]] w (IntsPost l w) := by
  obtain ⟨a, cap, rfl, hlen⟩ := hx.slice
  have HX := Lib.hid hx
  clear hx
  have HP0 := Lib.hid (tbox_new w (.int .i64 t.k) (.int .i64 t.n) (.slice a t.ks.length cap) 25)
  have HA0 : Hid (Below w.heap.size w (w.alloc (.cells #[.int .i64 t.k, .int .i64 t.n, .slice a t.ks.length cap] 25))) := Lib.hid ((Below.refl _ _).alloc (Nat.le_refl _) _)
  rcases hv : tvT t with _ | _
  · have HV := Lib.hid hv
    have HS : Hid (l = []) := Lib.hid (by rw [← ht, varsT_no hv])
    clear hv ht
    go_enter Try.func26, Try.ntmps26
    go_wp2_with fail
    go_at_call 15
    refine (typeValid_impl_val HV.out _ _ (HX.out.kept HA0.out)).mono ?_
    rintro e w1 ⟨rfl, hb1⟩
    have H1 := Lib.hid (HA0.out.trans (hb1.mono HA0.out.size))
    clear hb1
    go_wp2_with fail
    go_ret
    exact ⟨_, rfl, by rw [HS.out]; exact World.ownsRow_nil _ _ _ _, H1.out⟩
  · have HV := Lib.hid hv
    have HS : Hid (vars 16 t [] = l) := Lib.hid (by rw [← ht, varsT_yes hv])
    have HSH := Lib.hid (tvT_shp hv)
    clear hv ht
    go_enter Try.func26, Try.ntmps26
    go_wp2_with fail
    go_at_call 15
    refine (typeValid_impl_val HV.out _ _ (HX.out.kept HA0.out)).mono ?_
    rintro e w1 ⟨rfl, hb1⟩
    have HP1 := Lib.hid (HP0.out.kept hb1)
    have H1 := Lib.hid (HA0.out.trans (hb1.mono HA0.out.size))
    clear hb1
    obtain ⟨p0, p1, p2, pz⟩ := HP1.out
    go_wp2_with fail
    go_at_call 60
    refine (addVars_val HSH.out HS.out _ _ w1 w1 (HX.out.kept H1.out) (Below.refl _ _) (World.ownsRow_nil _ _ _ _)).mono ?_
    rintro e w2 ⟨lv, rfl, hi2, hb2, _⟩
    have H2 := Lib.hid (H1.out.trans (hb2.mono H1.out.size))
    have HI2 := Lib.hid (ints_base hi2 H1.out.size)
    clear hb2 hi2
    go_wp2_with fail
    go_ret
    exact ⟨_, rfl, HI2.out, H2.out⟩

set_option maxRecDepth 100000 in
set_option maxHeartbeats 1000000 in
theorem typeVars_spec {t : Ty} {l : List Int} (ht : varsT t = l) (v : Value) (w : World) (hx : TyAt w t v) :
    Calls Try.prog 31 #[.agg #[.int .i64 t.k, .int .i64 t.n, v]] w (IntsPost l w) := by
  obtain ⟨a, cap, rfl, hlen⟩ := hx.slice
  have HX := Lib.hid hx
  clear hx
  have HP0 := Lib.hid (tbox_new w (.int .i64 t.k) (.int .i64 t.n) (.slice a t.ks.length cap) 25)
  have HA0 : Hid (Below w.heap.size w (w.alloc (.cells #[.int .i64 t.k, .int .i64 t.n, .slice a t.ks.length cap] 25))) := Lib.hid ((Below.refl _ _).alloc (Nat.le_refl _) _)
  rcases hv : tvT t with _ | _
  · have HV := Lib.hid hv
    have HS : Hid (l = []) := Lib.hid (by rw [← ht, varsT_no hv])
    clear hv ht
    go_enter Try.func31, Try.ntmps31
    go_wp2_with fail
    go_at_call 16
    refine (typeValid_spec_val HV.out _ _ (HX.out.kept HA0.out)).mono ?_
    rintro e w1 ⟨rfl, hb1⟩
    have H1 := Lib.hid (HA0.out.trans (hb1.mono HA0.out.size))
    clear hb1
    go_wp2_with fail
    go_ret
    exact ⟨_, rfl, by rw [HS.out]; exact World.ownsRow_made w1 #[] 0 H1.out.size (Nat.zero_le _) rfl, H1.out.alloc H1.out.size _⟩
  · have HV := Lib.hid hv
    have HS : Hid (vars 16 t [] = l) := Lib.hid (by rw [← ht, varsT_yes hv])
    have HSH := Lib.hid (tvT_shp hv)
    clear hv ht
    go_enter Try.func31, Try.ntmps31
    go_wp2_with fail
    go_at_call 16
    refine (typeValid_spec_val HV.out _ _ (HX.out.kept HA0.out)).mono ?_
    rintro e w1 ⟨rfl, hb1⟩
    have HP1 := Lib.hid (HP0.out.kept hb1)
    have H1 := Lib.hid (HA0.out.trans (hb1.mono HA0.out.size))
    clear hb1
    obtain ⟨p0, p1, p2, pz⟩ := HP1.out
    have HPZ := Lib.hid (HP1.out.kept ((Below.refl _ _).alloc (Nat.le_refl _) (.cells #[] 3)))
    clear p0 p1 p2 pz
    obtain ⟨p0, p1, p2, pz⟩ := HPZ.out
    go_wp2_with fail
    go_at_call 67
    refine (l2Vars_val HSH.out HS.out _ _ w1 _ (HX.out.kept H1.out) ((Below.refl _ _).alloc (Nat.le_refl _) _) (World.ownsRow_made w1 #[] 0 (Nat.le_refl _) (Nat.zero_le _) rfl)).mono ?_
    rintro e w2 ⟨lv, rfl, hi2, hb2, _⟩
    have H2 := Lib.hid (H1.out.trans (hb2.mono H1.out.size))
    have HI2 := Lib.hid (ints_base hi2 H1.out.size)
    clear hb2 hi2
    go_wp2_with fail
    go_ret
    exact ⟨_, rfl, HI2.out, H2.out⟩

/-- The marks from K on. -/
def marksI (K L : Nat) : List Int := (List.range L).map fun i => ((K + i : Nat) : Int)
theorem marksI_len (K L : Nat) : (marksI K L).length = L := by unfold marksI; simp

end Go.Proofs.Ytndpoejohpmifaa

