/-
  matchType: it finds the replacements of the variables of a type that yield another one, in a map; types lie in plain blocks.
-/
import Derived.Test.YtncpakpamfocbabGab
import Derived.Test.YtncpakpamfocbabBh
namespace Go.Proofs.Ytncpakpamfocbab.Mx
open Go.Proofs.Ytncpakpamfocbab
open Go.RowKit
set_option linter.unusedVariables false
set_option linter.unusedSimpArgs false

theorem grown_in {w w' : World} {bm : Nat} (h : w.grownBy w' (some bm)) : Inside bm (bm + 1) w w' :=
  ⟨h.os, h.tape, h.output, h.size, fun b hb hx => h.block b hb (fun e => by injection e; omega)⟩
/-- Where the loop of matchType stands. -/
structure MS (w0 w : World) (S bm : Nat) (s g : Ty) (vs vg : Value) (d j : Nat) (M : Asn) (wr : World) (N : Asn) (L : List IV) : Prop where
  it : iter (fun i N => mtf d (g.ks.getD i Ty.dummy) (s.ks.getD i Ty.dummy) N) j M = some N
  im : IMap wr bm L
  rl : RelI w0 N L
  hin : Inside bm (bm + 1) w wr
  b0 : Below w0.heap.size w0 wr
  bx : TBox wr S (.int .i64 s.k) (.int .i64 s.n) vs
  by_ : TBox wr (S + 1) (.int .i64 g.k) (.int .i64 g.n) vg
theorem MS.next {w0 w : World} {S bm : Nat} {s g : Ty} {vs vg : Value} {d j : Nat} {M : Asn} {wr : World} {N : Asn} {L : List IV} (h : MS w0 w S bm s g vs vg d j M wr N L) {o : Obj} {w' : World} {N' : Asn} {L' : List IV} (hbm : bm < S) (h0 : w0.heap.size ≤ bm) (hi : Inside bm (bm + 1) (wr.alloc o) w') (hm : mtf d (g.ks.getD j Ty.dummy) (s.ks.getD j Ty.dummy) N = some N') (him : IMap w' bm L') (hr : RelI w0 N' L') : MS w0 w S bm s g vs vg d (j + 1) M w' N' L' := by
  have hA : Inside bm (bm + 1) wr (wr.alloc o) := in_below ((Below.refl _ _).alloc (Nat.le_refl _) _)
  have hI := hA.trans hi
  exact ⟨iter_next h.it hm, him, hr, h.hin.trans hI, hI.below h0 h.b0 h.b0.size, h.bx.aside hI.size (hI.block _ h.bx.sz (.inr (by omega))), h.by_.aside hI.size (hI.block _ h.by_.sz (.inr (by omega)))⟩

set_option maxRecDepth 100000 in
set_option maxHeartbeats 4000000 in
theorem matchType_any (w0 : World) (bm : Nat) (hbm : w0.heap.size ≤ bm) : ∀ (d : Nat) (s g : Ty) (vs vg : Value) (M : Asn) (L : List IV) (w : World), shp d s = true → shp d g = true → nodes s ≤ 1048577 → TyOk w0 s vs → TyOk w0 g vg → Below w0.heap.size w0 w → IMap w bm L → RelI w0 M L →
    Calls Try.prog 43 #[.agg #[.int .i64 s.k, .int .i64 s.n, vs], .agg #[.int .i64 g.k, .int .i64 g.n, vg], .map (some bm)] w fun e w' => e = .returned (.bool (mtf d g s M).isSome) ∧ Inside bm (bm + 1) w w' ∧ ∀ M', mtf d g s M = some M' → ∃ L', IMap w' bm L' ∧ RelI w0 M' L' := by
  intro d
  induction d with
  | zero => intro s g vs vg M L w hs; exact (shp_zero hs).elim
  | succ d ih =>
    intro s g vs vg M L w hs hg hn hvs hvg hb hm hr
    have IH := Lib.hid ih
    obtain ⟨fs, ks⟩ := shp_parts hs
    obtain ⟨fg, kg⟩ := shp_parts hg
    have FS := Lib.hid fs
    have FG := Lib.hid fg
    have KS := Lib.hid ks
    have KG := Lib.hid kg
    have HN := Lib.hid hn
    have HR := Lib.hid hr
    have HVS := Lib.hid hvs
    have HVG := Lib.hid hvg
    obtain ⟨sa, sc, rfl, _⟩ := hvs.at.slice
    obtain ⟨ga, gc, rfl, _⟩ := hvg.at.slice
    have hbw := hm.lt
    obtain ⟨S, hS⟩ : ∃ S, w.heap.size = S := ⟨_, rfl⟩
    rw [hS] at hbw
    obtain ⟨W1, hW1⟩ : ∃ W, (w.alloc (.cells #[.int .i64 s.k, .int .i64 s.n, .slice sa s.ks.length sc] 29)).alloc (.cells #[.int .i64 g.k, .int .i64 g.n, .slice ga g.ks.length gc] 29) = W := ⟨_, rfl⟩
    have hB1 : Below w.heap.size w W1 := by rw [← hW1]; exact ((Below.refl _ _).alloc (Nat.le_refl _) _).alloc (by simp) _
    have HX1 : Hid (TBox W1 S (.int .i64 s.k) (.int .i64 s.n) (.slice sa s.ks.length sc)) := Lib.hid (by
      rw [← hW1, ← hS]; exact (tbox_new w _ _ _ _).kept ((Below.refl _ _).alloc (Nat.le_refl _) _))
    have HY1 : Hid (TBox W1 (S + 1) (.int .i64 g.k) (.int .i64 g.n) (.slice ga g.ks.length gc)) := Lib.hid (by
      have h := tbox_new (w.alloc (.cells #[.int .i64 s.k, .int .i64 s.n, .slice sa s.ks.length sc] 29)) (.int .i64 g.k) (.int .i64 g.n) (.slice ga g.ks.length gc) 29
      rw [hW1, sizeA', hS] at h; exact h)
    have HM1 := Lib.hid (hm.inside hB1)
    have HB1 := Lib.hid hB1
    have HI1 : Hid (Inside bm (bm + 1) w W1) := Lib.hid (in_below hB1)
    have HB0 := Lib.hid (hb.trans (hB1.mono hb.size))
    have HW1 := Lib.hid hW1
    have HS := Lib.hid hS
    clear ih hs hg fs fg ks kg hn hr hvs hvg hb hm hB1 hW1
    by_cases h4 : g.k = 4
    · have H4 := Lib.hid h4
      have e4 : (g.k == 4) = true := by simpa using h4
      have HV := Lib.hid (fields_var FG.out h4)
      clear h4
      rcases ha : alook g.n M with _ | b
      · have hl := HR.out.no _ ha
        have L1 := lookup_run W1 bm L g.n HM1.out
        rw [hl] at L1
        have L1 : (Instr.lookup 65 (.map (some bm)) (.int .i64 g.n) true).run Try.prog ((w.alloc (.cells #[.int .i64 s.k, .int .i64 s.n, .slice sa s.ks.length sc] 29)).alloc (.cells #[.int .i64 g.k, .int .i64 g.n, .slice ga g.ks.length gc] 29)) = .ok (.tuple #[.agg #[.int .i64 0, .int .i64 0, .slice none 0 0], .bool false]) ((w.alloc (.cells #[.int .i64 s.k, .int .i64 s.n, .slice sa s.ks.length sc] 29)).alloc (.cells #[.int .i64 g.k, .int .i64 g.n, .slice ga g.ks.length gc] 29)) := by rw [HW1.out]; exact L1
        have hAz : Below W1.heap.size W1 (W1.alloc (.cells #[.int .i64 0, .int .i64 0, .slice none 0 0] 29)) := (Below.refl _ _).alloc (Nat.le_refl _) _
        obtain ⟨w3, L3, him, hgr⟩ := update_run (W1.alloc (.cells #[.int .i64 0, .int .i64 0, .slice none 0 0] 29)) bm L g.n (.agg #[.int .i64 s.k, .int .i64 s.n, .slice sa s.ks.length sc]) (HM1.out.inside hAz)
        have L3 : (Instr.mapUpdate 65 (.map (some bm)) (.int .i64 g.n) (.agg #[.int .i64 s.k, .int .i64 s.n, .slice sa s.ks.length sc])).run Try.prog (((w.alloc (.cells #[.int .i64 s.k, .int .i64 s.n, .slice sa s.ks.length sc] 29)).alloc (.cells #[.int .i64 g.k, .int .i64 g.n, .slice ga g.ks.length gc] 29)).alloc (.cells #[.int .i64 0, .int .i64 0, .slice none 0 0] 29)) = .ok () w3 := by rw [HW1.out]; exact L3
        have HP : Hid (.returned (.bool true) = Ending.returned (.bool (mtf (d + 1) g s M).isSome) ∧ Inside bm (bm + 1) w w3 ∧ ∀ M', mtf (d + 1) g s M = some M' → ∃ L', IMap w3 bm L' ∧ RelI w0 M' L') := Lib.hid ⟨by rw [mtf_new H4.out ha]; rfl, HI1.out.trans ((in_below hAz).trans (grown_in hgr)), fun M' e => by
          rw [mtf_new H4.out ha] at e
          injection e with e
          subst e
          exact ⟨_, him, HR.out.put ha HVS.out HN.out⟩⟩
        obtain ⟨x0, x1, x2, xz⟩ := HX1.out
        obtain ⟨y0, y1, y2, yz⟩ := HY1.out
        clear hl ha him hgr hAz
        go_enter Try.func43, Try.ntmps43
        go_wp2_with fail
        go_ret
        exact HP.out
      · obtain ⟨vb, hl, hok, hnb⟩ := HR.out.yes _ _ ha
        have L1 := lookup_run W1 bm L g.n HM1.out
        rw [hl] at L1
        have L1 : (Instr.lookup 65 (.map (some bm)) (.int .i64 g.n) true).run Try.prog ((w.alloc (.cells #[.int .i64 s.k, .int .i64 s.n, .slice sa s.ks.length sc] 29)).alloc (.cells #[.int .i64 g.k, .int .i64 g.n, .slice ga g.ks.length gc] 29)) = .ok (.tuple #[.agg #[.int .i64 b.k, .int .i64 b.n, vb], .bool true]) ((w.alloc (.cells #[.int .i64 s.k, .int .i64 s.n, .slice sa s.ks.length sc] 29)).alloc (.cells #[.int .i64 g.k, .int .i64 g.n, .slice ga g.ks.length gc] 29)) := by rw [HW1.out]; exact L1
        obtain ⟨ba, bc, rfl, _⟩ := hok.at.slice
        have HOK := Lib.hid hok
        have hAz : Below W1.heap.size W1 (W1.alloc (.cells #[.int .i64 b.k, .int .i64 b.n, .slice ba b.ks.length bc] 29)) := (Below.refl _ _).alloc (Nat.le_refl _) _
        have HB2 := Lib.hid (HB0.out.trans (hAz.mono HB0.out.size))
        have HM2 := Lib.hid (HM1.out.inside hAz)
        have HI2 : Hid (Inside bm (bm + 1) w _) := Lib.hid (HI1.out.trans (in_below hAz))
        have HMT : Hid (mtf (d + 1) g s M = if sameB b s = true then some M else none) := Lib.hid (mtf_old H4.out ha)
        obtain ⟨x0, x1, x2, xz⟩ := HX1.out
        obtain ⟨y0, y1, y2, yz⟩ := HY1.out
        clear hl hok ha hAz
        rcases hs : sameB b s with _ | _
        · have HSB := Lib.hid hs
          clear hs
          go_enter Try.func43, Try.ntmps43
          go_wp2_with fail
          rw [HW1.out]
          go_at_call 16
          refine (typeSame_impl b s 0 _ _ _ hnb (HOK.out.kept HB2.out) (HVS.out.kept HB2.out)).mono ?_
          rintro e w2 ⟨rfl, hb2⟩
          rw [HSB.out]
          have HI3 := Lib.hid (HI2.out.trans (in_below hb2))
          clear hb2
          go_wp2_with fail
          go_ret
          refine ⟨by rw [HMT.out, HSB.out]; rfl, HI3.out, fun M' e => ?_⟩
          rw [HMT.out, HSB.out] at e
          cases e
        · have HSB := Lib.hid hs
          clear hs
          go_enter Try.func43, Try.ntmps43
          go_wp2_with fail
          rw [HW1.out]
          go_at_call 16
          refine (typeSame_impl b s 0 _ _ _ hnb (HOK.out.kept HB2.out) (HVS.out.kept HB2.out)).mono ?_
          rintro e w2 ⟨rfl, hb2⟩
          rw [HSB.out]
          have HI3 := Lib.hid (HI2.out.trans (in_below hb2))
          have HM3 := Lib.hid (HM2.out.inside hb2)
          clear hb2
          go_wp2_with fail
          go_ret
          refine ⟨by rw [HMT.out, HSB.out]; rfl, HI3.out, fun M' e => ?_⟩
          rw [HMT.out, HSB.out] at e
          injection e with e
          subst e
          exact ⟨L, HM3.out, HR.out⟩
    · have H4 := Lib.hid h4
      have e4 : (g.k == 4) = false := by simpa using h4
      clear h4
      by_cases hk : s.k = g.k
      case neg =>
        have ek : (s.k != g.k) = true := by simpa using hk
        have HP : Hid (mtf (d + 1) g s M = none) := Lib.hid (mtf_kind H4.out hk)
        clear hk
        obtain ⟨x0, x1, x2, xz⟩ := HX1.out
        obtain ⟨y0, y1, y2, yz⟩ := HY1.out
        go_enter Try.func43, Try.ntmps43
        go_wp2_with fail
        rw [HW1.out]
        go_ret
        refine ⟨by rw [HP.out]; rfl, HI1.out, fun M' e => ?_⟩
        rw [HP.out] at e
        cases e
      have HK := Lib.hid hk
      have ek : (s.k != g.k) = false := by simpa using hk
      have HLL : Hid (s.ks.length = g.ks.length) := Lib.hid (fields_len FS.out (by rw [hk]; exact FG.out))
      have HMI : Hid (mtf (d + 1) g s M = iter (fun i N => mtf d (g.ks.getD i Ty.dummy) (s.ks.getD i Ty.dummy) N) g.ks.length M) := Lib.hid (mtf_iter H4.out hk)
      clear hk
      obtain ⟨x0, x1, x2, xz⟩ := HX1.out
      obtain ⟨y0, y1, y2, yz⟩ := HY1.out
      have HMS : Hid (MS w0 w S bm s g (.slice sa s.ks.length sc) (.slice ga g.ks.length gc) d 0 M W1 M L) := Lib.hid ⟨rfl, HM1.out, HR.out, HI1.out, HB0.out, HX1.out, HY1.out⟩
      go_enter Try.func43, Try.ntmps43
      go_wp2_with fail
      rw [HW1.out]
      clear hS
      go_loopw [37] (fun i wr => ∃ (j : Nat) (N : Asn) (LL : List IV), j ≤ g.ks.length ∧ i = .int .i64 j ∧ Hid (MS w0 w S bm s g (.slice sa s.ks.length sc) (.slice ga g.ks.length gc) d j M wr N LL)) (fun i _ => g.ks.length - (intOf i).toNat)
      case atStart => exact ⟨0, M, L, Nat.zero_le _, rfl, HMS⟩
      case round =>
        obtain ⟨j, N, LL, hj, rfl, hms⟩ := hrel
        clear x0 x1 x2 xz y0 y1 y2 yz
        obtain ⟨x0, x1, x2, xz⟩ := hms.out.bx
        obtain ⟨y0, y1, y2, yz⟩ := hms.out.by_
        by_cases hlt : j < g.ks.length
        · have hji : (j : Int) < (g.ks.length : Int) := by omega
          have hlts : j < s.ks.length := by rw [HLL.out]; exact hlt
          have hji2 : (j : Int) < (s.ks.length : Int) := by omega
          obtain ⟨sb, so, rfl, hrs⟩ := HVS.out.row_of (by omega)
          obtain ⟨gb, go', rfl, hrt⟩ := HVG.out.row_of (by omega)
          obtain ⟨b1, g0, g1, g2, go1⟩ := HVS.out.cells j hlts
          obtain ⟨b2, g3, g4, g5, go2⟩ := HVG.out.cells j hlt
          replace g0 := (hms.out.b0.cell (p := ⟨sb, so + j * 3, none⟩) b1).trans g0
          replace g1 := (hms.out.b0.cell (p := ⟨sb, so + j * 3 + 1, none⟩) b1).trans g1
          replace g2 := (hms.out.b0.cell (p := ⟨sb, so + j * 3 + 2, none⟩) b1).trans g2
          replace g3 := (hms.out.b0.cell (p := ⟨gb, go' + j * 3, none⟩) b2).trans g3
          replace g4 := (hms.out.b0.cell (p := ⟨gb, go' + j * 3 + 1, none⟩) b2).trans g4
          replace g5 := (hms.out.b0.cell (p := ⟨gb, go' + j * 3 + 2, none⟩) b2).trans g5
          have HKA : Hid (TyOk w0 (s.ks.getD j Ty.dummy) (kidV w0 (.slice (some ⟨sb, so, none⟩) s.ks.length sc) j)) := Lib.hid (OkR.kid (r := (s, .slice (some ⟨sb, so, none⟩) s.ks.length sc)) HVS.out hlts)
          have HKB : Hid (TyOk w0 (g.ks.getD j Ty.dummy) (kidV w0 (.slice (some ⟨gb, go', none⟩) g.ks.length gc) j)) := Lib.hid (OkR.kid (r := (g, .slice (some ⟨gb, go', none⟩) g.ks.length gc)) HVG.out hlt)
          have HSA := Lib.hid (KS.out j hlts)
          have HSB := Lib.hid (KG.out j hlt)
          have HNA := Lib.hid (Nat.le_trans (nodes_kid hlts) HN.out)
          obtain ⟨A, hA⟩ : ∃ A, s.ks.getD j Ty.dummy = A := ⟨_, rfl⟩
          obtain ⟨B, hB⟩ : ∃ B, g.ks.getD j Ty.dummy = B := ⟨_, rfl⟩
          obtain ⟨va, hva⟩ : ∃ v, kidV w0 (Value.slice (some ⟨sb, so, none⟩) s.ks.length sc) j = v := ⟨_, rfl⟩
          obtain ⟨vb, hvb⟩ : ∃ v, kidV w0 (Value.slice (some ⟨gb, go', none⟩) g.ks.length gc) j = v := ⟨_, rfl⟩
          have HA := Lib.hid hA
          have HB := Lib.hid hB
          rw [hA] at g0 g1 HKA HSA HNA
          rw [hB] at g3 g4 HKB HSB
          rw [hva] at g2 go1 HKA
          rw [hvb] at g5 go2 HKB
          obtain ⟨ua, uc, rfl, _⟩ := HKA.out.at.slice
          obtain ⟨ub, ud, rfl, _⟩ := HKB.out.at.slice
          clear hA hB hva hvb hrs hrt
          have hAl : Below wr.heap.size wr (wr.alloc (.cells #[.int .i64 B.k, .int .i64 B.n, .slice ub B.ks.length ud] 29)) := (Below.refl _ _).alloc (Nat.le_refl _) _
          have HXA := Lib.hid (hms.out.bx.kept hAl)
          have HKB2 : Hid (TBox (wr.alloc (.cells #[.int .i64 B.k, .int .i64 B.n, .slice ub B.ks.length ud] 29)) wr.heap.size (.int .i64 B.k) (.int .i64 B.n) (.slice ub B.ks.length ud)) := Lib.hid (tbox_new wr _ _ _ _)
          have HBA := Lib.hid (hms.out.b0.trans (hAl.mono hms.out.b0.size))
          have HMA := Lib.hid (hms.out.im.inside hAl)
          have HRL := Lib.hid hms.out.rl
          have hsl : sb < (wr.alloc (.cells #[.int .i64 B.k, .int .i64 B.n, .slice ub B.ks.length ud] 29)).heap.size := by
            have := hms.out.b0.size; rw [sizeA']; omega
          have G0 := Lib.hid ((hAl.cell (p := ⟨sb, so + j * 3, none⟩) (by have := hms.out.b0.size; show sb < _; omega)).trans g0)
          have G1 := Lib.hid ((hAl.cell (p := ⟨sb, so + j * 3 + 1, none⟩) (by have := hms.out.b0.size; show sb < _; omega)).trans g1)
          have G2 := Lib.hid ((hAl.cell (p := ⟨sb, so + j * 3 + 2, none⟩) (by have := hms.out.b0.size; show sb < _; omega)).trans g2)
          have hsbm : sb ≠ bm := by omega
          have hwbm : bm + 1 ≤ wr.heap.size := hms.out.im.lt
          have HIA : Hid (Inside bm (bm + 1) wr (wr.alloc (.cells #[.int .i64 B.k, .int .i64 B.n, .slice ub B.ks.length ud] 29))) := Lib.hid (in_below hAl)
          rcases hmt : mtf d B A N with _ | N'
          · have HP : Hid (mtf (d + 1) g s M = none) := Lib.hid (by
              rw [HMI.out]
              exact iter_stop hms.out.it (by show mtf d (g.ks.getD j Ty.dummy) (s.ks.getD j Ty.dummy) N = none; rw [HA.out, HB.out]; exact hmt) hlt)
            have HMT := Lib.hid hmt
            clear hmt hAl
            go_wp2_with fail
            go_region_held3 (fun w' => w'.cell? ⟨S, 2, none⟩ = some (.slice (some ⟨sb, so, none⟩) s.ks.length sc) ∧ w'.cell? ⟨sb, so + j * 3, none⟩ = some (.int .i64 A.k) ∧ w'.cell? ⟨sb, so + j * 3 + 1, none⟩ = some (.int .i64 A.n) ∧ w'.cell? ⟨sb, so + j * 3 + 2, none⟩ = some (.slice ua A.ks.length uc) ∧ w'.cell? ⟨wr.heap.size, 0, none⟩ = some (.int .i64 B.k) ∧ w'.cell? ⟨wr.heap.size, 1, none⟩ = some (.int .i64 B.n) ∧ w'.cell? ⟨wr.heap.size, 2, none⟩ = some (.slice ub B.ks.length ud)) (go_keep)
              (first | (go_at_call 43; refine (IH.out A B _ _ N LL _ HSA.out HSB.out HNA.out HKA.out HKB.out (by first | exact HBA.out | exact HBA.out.drew) (by first | exact HMA.out | exact HMA.out.inside (Below.refl _ _).drew) HRL.out).mono ?_; rintro e w2 ⟨rfl, hi2, hm2⟩; rw [HMT.out]; have hi3 : Inside bm (bm + 1) (wr.alloc (.cells #[.int .i64 B.k, .int .i64 B.n, .slice ub B.ks.length ud] 29)) w2 := (in_below (by first | exact Below.refl _ _ | exact (Below.refl _ _).drew)).trans hi2; have HI2 := Lib.hid hi3; have HII := Lib.hid (hms.out.hin.trans (HIA.out.trans hi3)); have HM2 := Lib.hid hm2; have zx2 := (cellEq (hi3.block S HXA.out.sz (.inr (by omega)))).trans HXA.out.c2; have zg0 := (cellEq (hi3.block sb hsl (by omega))).trans G0.out; have zg1 := (cellEq (hi3.block sb hsl (by omega))).trans G1.out; have zg2 := (cellEq (hi3.block sb hsl (by omega))).trans G2.out; have zk0 := (cellEq (hi3.block wr.heap.size HKB2.out.sz (.inr (by omega)))).trans HKB2.out.c0; have zk1 := (cellEq (hi3.block wr.heap.size HKB2.out.sz (.inr (by omega)))).trans HKB2.out.c1; have zk2 := (cellEq (hi3.block wr.heap.size HKB2.out.sz (.inr (by omega)))).trans HKB2.out.c2; clear hi2 hi3 hm2))
            all_goals go_wp2_with fail
            all_goals go_ret
            all_goals
              refine ⟨by rw [HP.out]; rfl, HII.out, fun M' e => ?_⟩
              rw [HP.out] at e
              cases e
          · have HMT := Lib.hid hmt
            clear hmt hAl
            go_wp2_with fail
            go_region_held3 (fun w' => w'.cell? ⟨S, 2, none⟩ = some (.slice (some ⟨sb, so, none⟩) s.ks.length sc) ∧ w'.cell? ⟨sb, so + j * 3, none⟩ = some (.int .i64 A.k) ∧ w'.cell? ⟨sb, so + j * 3 + 1, none⟩ = some (.int .i64 A.n) ∧ w'.cell? ⟨sb, so + j * 3 + 2, none⟩ = some (.slice ua A.ks.length uc) ∧ w'.cell? ⟨wr.heap.size, 0, none⟩ = some (.int .i64 B.k) ∧ w'.cell? ⟨wr.heap.size, 1, none⟩ = some (.int .i64 B.n) ∧ w'.cell? ⟨wr.heap.size, 2, none⟩ = some (.slice ub B.ks.length ud)) (go_keep)
              (first | (go_at_call 43; refine (IH.out A B _ _ N LL _ HSA.out HSB.out HNA.out HKA.out HKB.out (by first | exact HBA.out | exact HBA.out.drew) (by first | exact HMA.out | exact HMA.out.inside (Below.refl _ _).drew) HRL.out).mono ?_; rintro e w2 ⟨rfl, hi2, hm2⟩; rw [HMT.out]; have hi3 : Inside bm (bm + 1) (wr.alloc (.cells #[.int .i64 B.k, .int .i64 B.n, .slice ub B.ks.length ud] 29)) w2 := (in_below (by first | exact Below.refl _ _ | exact (Below.refl _ _).drew)).trans hi2; have HI2 := Lib.hid hi3; have HII := Lib.hid (hms.out.hin.trans (HIA.out.trans hi3)); have HM2 := Lib.hid hm2; have zx2 := (cellEq (hi3.block S HXA.out.sz (.inr (by omega)))).trans HXA.out.c2; have zg0 := (cellEq (hi3.block sb hsl (by omega))).trans G0.out; have zg1 := (cellEq (hi3.block sb hsl (by omega))).trans G1.out; have zg2 := (cellEq (hi3.block sb hsl (by omega))).trans G2.out; have zk0 := (cellEq (hi3.block wr.heap.size HKB2.out.sz (.inr (by omega)))).trans HKB2.out.c0; have zk1 := (cellEq (hi3.block wr.heap.size HKB2.out.sz (.inr (by omega)))).trans HKB2.out.c1; have zk2 := (cellEq (hi3.block wr.heap.size HKB2.out.sz (.inr (by omega)))).trans HKB2.out.c2; clear hi2 hi3 hm2))
            all_goals obtain ⟨L2, him2, hr2⟩ := HM2.out N' HMT.out
            all_goals have HMS2 := Lib.hid (hms.out.next hbw hbm HI2.out (by rw [HA.out, HB.out]; exact HMT.out) him2 hr2)
            all_goals clear him2 hr2
            all_goals go_wp2_with fail
            all_goals exact ⟨⟨j + 1, N', L2, by omega, by go_num, HMS2⟩, by simp [intOf]; omega⟩
        · obtain rfl : j = g.ks.length := by omega
          have hji : ¬ (g.ks.length : Int) < (g.ks.length : Int) := by omega
          have HP : Hid (mtf (d + 1) g s M = some N) := Lib.hid (by rw [HMI.out]; exact hms.out.it)
          go_wp2_with fail
          go_ret
          refine ⟨by rw [HP.out]; rfl, hms.out.hin, fun M' e => ?_⟩
          rw [HP.out] at e
          injection e with e
          subst e
          exact ⟨LL, hms.out.im, hms.out.rl⟩

end Go.Proofs.Ytncpakpamfocbab.Mx
