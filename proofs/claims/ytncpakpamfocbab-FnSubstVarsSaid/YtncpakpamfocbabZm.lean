/-
  The variables of a type, put behind a list: l2Vars of the model.
-/
import Derived.Test.YtncpakpamfocbabZl
import Derived.BigQuiet
namespace Go.Proofs.Ytncpakpamfocbab
open Go.RowKit

set_option maxRecDepth 100000 in
set_option maxHeartbeats 4000000 in
theorem l2Vars_any (w0 : World) : ∀ (d : Nat) (t : Ty) (v lv : Value) (acc : List Int) (w : World), d ≤ 16 → shp d t = true → TyAt w0 t v → Below w0.heap.size w0 w → IntsAt w w0.heap.size lv acc → acc.length + nd d t ≤ 100000 →
    Calls Try.prog 77 #[lv, .agg #[.int .i64 t.k, .int .i64 t.n, v]] w (VarsPost w0 w (vars d t acc)) := by
  intro d
  induction d with
  | zero => intro t v lv acc w _ hs; cases hs
  | succ d ih =>
    intro t v lv acc w hd hs hx hb hacc hlen2
    obtain ⟨hf, hkids⟩ := shp_iff.1 hs
    have HX := Lib.hid hx
    have HB := Lib.hid hb
    have HACC := Lib.hid hacc
    have HIH := Lib.hid ih
    have HKIDS := Lib.hid hkids
    have HND := Lib.hid hlen2
    obtain ⟨la, lc, rfl⟩ := ints_slice hacc
    obtain ⟨a, cap, rfl, hlen⟩ := hx.slice
    have hBw := hb.size
    have hal : acc.length ≤ 100000 := by omega
    obtain ⟨i0, hi, hz0, hz1, hz2⟩ := info_parts Try.infoInt
    obtain ⟨k, hk⟩ : ∃ k, t.k = k := ⟨_, rfl⟩
    obtain ⟨n, hn⟩ : ∃ n, t.n = n := ⟨_, rfl⟩
    obtain ⟨L, hL⟩ : ∃ L, t.ks.length = L := ⟨_, rfl⟩
    have HK := Lib.hid hk
    have HN := Lib.hid hn
    have HL := Lib.hid hL
    rw [hk, hn, hL] at hf
    rw [hk, hn, hL]
    rw [hL] at hlen
    clear hx hb hacc ih hkids hs hk hn hL hlen2
    by_cases h4 : k = 4
    · obtain ⟨rfl⟩ := h4
      have hL0 : L = 0 := by rcases fieldsB_iff.1 hf with ⟨h, _⟩ | ⟨h, _⟩ | ⟨_, _, _, h⟩ <;> omega
      subst hL0
      have HV : Hid (vars (d + 1) t acc = addV acc n) := Lib.hid (by rw [vars_var HK.out HL.out, HN.out])
      clear hf
      have HA0 := Lib.hid (HB.out.alloc HB.out.size (.cells #[.int .i64 4, .int .i64 n, .slice a 0 cap] 29))
      go_enter Try.func77, Try.ntmps77
      go_wp2_with fail
      go_loopw [5] (fun i wr => ∃ (j : Nat), j ≤ acc.length ∧ i = .int .i64 j ∧ Hid (∀ q, q < j → acc.getD q 0 ≠ n) ∧ Below (w.heap.size + 1) (w.alloc (.cells #[.int .i64 4, .int .i64 n, .slice a 0 cap] 29)) wr) (fun i _ => acc.length - (intOf i).toNat)
      case atStart => exact ⟨0, Nat.zero_le _, rfl, Lib.hid (fun q hq => absurd hq (Nat.not_lt_zero _)), Below.refl _ _⟩
      case round =>
        obtain ⟨j, hj, rfl, hno, hbw⟩ := hrel
        obtain ⟨x0, x1, x2, xz⟩ := box_kept hbw
        have HBW := Lib.hid hbw
        have hI := ints_below (HACC.out.alloc (.cells #[.int .i64 4, .int .i64 n, .slice a 0 cap] 29)) (by rw [World.size_alloc]; exact hbw)
        have HI := Lib.hid hI
        have hkp : TyKeep w wr := TyKeep.below (((Below.refl _ _).alloc (Nat.le_refl _) _).trans (hbw.mono (by omega)))
        have HKP := Lib.hid hkp
        have hB1 : Below w0.heap.size w0 wr := HA0.out.trans (hbw.mono (by omega))
        have HB1 := Lib.hid hB1
        have hBs1 := hB1.size
        clear hkp hB1
        by_cases hlt : j < acc.length
        · have hji : (j : Int) < (acc.length : Int) := by omega
          obtain ⟨b, cp, ex, _, bl, y0⟩ := ints_at hI j hlt
          have ex1 : la = some ⟨b, 0, none⟩ := by injection ex
          subst ex1
          clear ex hI
          obtain ⟨y, hy⟩ : ∃ y, acc.getD j 0 = y := ⟨_, rfl⟩
          rw [hy] at y0
          by_cases hn : y = n
          · have hm : n ∈ acc := by rw [← hn, ← hy]; simp [List.getD, hlt]
            have HE : Hid (addV acc n = acc) := Lib.hid (by unfold addV; rw [if_pos hm])
            have e1 : (y == n) = true := by simpa using hn
            clear hn hy hno hm hbw
            go_wp2_with fail
            go_quiet (fail)
            go_wp2_with fail
            go_ret
            exact ⟨_, rfl, by rw [HV.out, HE.out]; exact HI.out, below_drewN HB1.out _, HKP.out⟩
          · have e1 : (y == n) = false := by simpa using hn
            have HNO : Hid (∀ q, q < j + 1 → acc.getD q 0 ≠ n) := Lib.hid (fun q hq => by
              rcases Nat.lt_or_ge q j with h | h
              · exact hno.out q h
              · have : q = j := by omega
                rw [this, hy]; exact hn)
            clear hn hy hno hbw
            go_wp2_with fail
            go_quiet (fail)
            go_wp2_with fail
            exact ⟨⟨j + 1, by omega, by go_num, HNO, below_drewN HBW.out _⟩, by simp [intOf]; omega⟩
        · have hji : ¬ (j : Int) < (acc.length : Int) := by omega
          have hm : ¬ n ∈ acc := fun hmem => by
            obtain ⟨q, hq, hqe⟩ := List.getElem_of_mem hmem
            refine hno.out q (by omega) ?_
            simp [List.getD, hq, hqe]
          have HE : Hid (addV acc n = acc ++ [n]) := Lib.hid (by unfold addV; rw [if_neg hm])
          clear hno hlt hm hI hbw
          go_wp2_with (first | (at_builtin; refine wpList_append_own _ rfl _ _ 45 rfl w0.heap.size 3 i0 (.int .i64 0) 1 8 Try.underlying45 hi hz0 hz1 hz2 rfl (by decide) _ _ _ rfl (HI.out.alloc _) ⟨wr.heap.size, 0, none⟩ 1 1 [.int .i64 n] rfl rfl (cell_one_new _ _ _) (fun x hx => by simp at hx; subst hx; rfl) (by unfold maxLen; omega) (by omega) (by simp; omega) ?_; intro v3 w3 hown3 hgrow3 hnil3))
          have hI3 : IntsAt w3 w0.heap.size v3 (acc ++ [n]) := by unfold IntsAt; simpa using hown3
          go_ret
          exact ⟨_, rfl, by rw [HV.out, HE.out]; exact hI3, (HB1.out.alloc HB1.out.size _).grown hgrow3 (by simp; omega) (fun q hq => (HI.out.lt q hq).1),
            (HKP.out.trans (TyKeep.below ((Below.refl _ _).alloc (Nat.le_refl _) _))).trans (TyKeep.grown (HI.out.alloc (.cells #[.int .i64 n] 3)) hgrow3)⟩
    · have e4 : (k == 4) = false := by simpa using h4
      have HV : Hid (vars (d + 1) t acc = varsK d t acc L) := Lib.hid (by rw [vars_kids (by rw [HK.out]; exact h4), HL.out])
      have hL2 := fieldsB_len hf
      have HA0 := Lib.hid (HB.out.alloc HB.out.size (.cells #[.int .i64 k, .int .i64 n, .slice a L cap] 29))
      have HBX : Hid ((w.alloc (.cells #[.int .i64 k, .int .i64 n, .slice a L cap] 29)).heap[w.heap.size]? = some (.cells #[.int .i64 k, .int .i64 n, .slice a L cap] 29)) := Lib.hid (heap_alloc_new w _)
      clear hf h4
      go_enter Try.func77, Try.ntmps77
      go_wp2_with fail
      go_loopw [0, 6] (fun lv i wr => ∃ (j : Nat), j ≤ L ∧ i = .int .i64 j ∧ Hid (IntsAt wr w0.heap.size lv (varsK d t acc j)) ∧ Below w0.heap.size w0 wr ∧ Hid (TyKeep (w.alloc (.cells #[.int .i64 k, .int .i64 n, .slice a L cap] 29)) wr)) (fun _ i _ => L - (intOf i).toNat)
      case atStart => exact ⟨0, Nat.zero_le _, rfl, Lib.hid (HACC.out.alloc _), HA0.out, Lib.hid (TyKeep.refl _)⟩
      case round =>
        obtain ⟨j, hj, rfl, hacc, hBw2, hkeep⟩ := hrel
        obtain ⟨zl, zc, hzl⟩ := ints_slice hacc.out
        subst hzl
        obtain ⟨bx0, bx1, bx2, bxz⟩ := hkeep.out.box HBX.out
        have HBW := Lib.hid hBw2
        by_cases hlt : j < L
        · have hji : (j : Int) < (L : Int) := by omega
          obtain ⟨b, o, cap2, vi, ex, bl, y0, y1, y2, hkid⟩ := HX.out.kid j (by rw [HL.out]; exact hlt)
          have ex1 : a = some ⟨b, o, none⟩ := by injection ex
          subst ex1
          clear ex
          obtain ⟨x, hxx⟩ : ∃ x, t.ks.getD j Ty.dummy = x := ⟨_, rfl⟩
          rw [hxx] at y0 y1 hkid
          obtain ⟨ai, ci, rfl, hli⟩ := hkid.slice
          have q0 := (hBw2.cell (p := ⟨b, o + j * 3, none⟩) bl).trans y0
          have q1 := (hBw2.cell (p := ⟨b, o + j * 3 + 1, none⟩) bl).trans y1
          have q2 := (hBw2.cell (p := ⟨b, o + j * 3 + 2, none⟩) bl).trans y2
          have HXS : Hid (shp d x = true) := Lib.hid (by rw [← hxx]; exact HKIDS.out j (by rw [HL.out]; exact hlt))
          have HKID := Lib.hid hkid
          have HVS : Hid (vars d x (varsK d t acc j) = varsK d t acc (j + 1)) := Lib.hid (by rw [varsK_succ, hxx])
          have hbig : (varsK d t acc j).length + nd d x ≤ 100000 := by
            have h1 := varsK_le (d := d) (t := t) (acc := acc) j
            have h2 := HND.out
            rw [nd_succ, HL.out] at h2
            have h3 := ndk_mono d t (show j + 1 ≤ L by omega)
            rw [ndk_succ, hxx] at h3
            omega
          obtain ⟨A, hA⟩ : ∃ A, varsK d t acc j = A := ⟨_, rfl⟩
          rw [hA] at hacc HVS hbig
          rw [hA]
          have hd16 : d ≤ 16 := by omega
          clear hxx hkid hBw2 hA
          go_wp2_with fail
          go_at_call 77
          refine (HIH.out x _ _ A _ hd16 HXS.out HKID.out HBW.out hacc.out hbig).mono ?_
          rintro e w2 ⟨lv2, rfl, hacc2, hB2, hk2⟩
          rw [HVS.out] at hacc2
          have HACC2 := Lib.hid hacc2
          have HB2 := Lib.hid hB2
          have HK2 := Lib.hid (hkeep.out.trans hk2)
          clear hacc2 hB2 hk2
          go_wp2_with fail
          exact ⟨⟨j + 1, by omega, by go_num, HACC2, HB2.out, HK2⟩, by simp [intOf]; omega⟩
        · have hji : ¬ (j : Int) < (L : Int) := by omega
          have hjl : j = L := by omega
          subst hjl
          clear hlt hBw2
          go_wp2_with fail
          go_ret
          exact ⟨_, rfl, by rw [HV.out]; exact hacc.out, HBW.out, (TyKeep.below ((Below.refl _ _).alloc (Nat.le_refl _) _)).trans hkeep.out⟩


end Go.Proofs.Ytncpakpamfocbab
