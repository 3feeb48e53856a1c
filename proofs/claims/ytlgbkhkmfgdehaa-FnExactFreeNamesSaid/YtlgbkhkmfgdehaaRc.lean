/-
  The exact laws' marks on an expression: every field of its nodes is written anew; what lies elsewhere stays.
-/
import Derived.Test.YtlgbkhkmfgdehaaRa
import Derived.Test.YtlgbkhkmfgdehaaZo
namespace Go.Proofs.Ytlgbkhkmfgdehaa.Ox
open Go.Proofs.Ytlgbkhkmfgdehaa
open Go.RowKit
set_option linter.unusedVariables false
set_option linter.unusedSimpArgs false

theorem _root_.Go.Proofs.Ytlgbkhkmfgdehaa.ExIn.parts {w : World} {lo hi : Nat} {t : Ex} {v : Value} (h : ExIn w lo hi t v) (h0 : 0 < t.ks.length) :
    ∃ (b cap : Nat) (vs : Nat → Value) (l g : Nat → Nat), v = .slice (some ⟨b, 0, none⟩) t.ks.length cap ∧ lo ≤ b ∧ b < hi ∧ b < w.heap.size ∧
      (∀ i, i < t.ks.length → Fd w b (i * 5) (t.ks.getD i Ex.dummy) (vs i)) ∧ (∀ i, i < t.ks.length * 5 → w.frozen? ⟨b, i, none⟩ = false) ∧
      (∀ i, i < t.ks.length → lo ≤ l i ∧ g i ≤ hi ∧ (b < l i ∨ g i ≤ b)) ∧ (∀ i j, i < j → j < t.ks.length → g i ≤ l j) ∧ (∀ i, i < t.ks.length → ExIn w (l i) (g i) (t.ks.getD i Ex.dummy) (vs i)) := by
  cases h with
  | bare lo hi k n m s a cap => exact absurd h0 (Nat.lt_irrefl _)
  | row lo hi k n m s ks b cap vs l h hb1 hb2 hw hl g0 hf hin hd h3 => exact ⟨b, cap, vs, l, h, rfl, hb1, hb2, hw.lt, g0, hf, hin, hd, h3⟩
/-- Only the first four cells of the j-th place of block b may have changed. -/
structure Asd (b j : Nat) (w w' : World) : Prop where
  os : w'.os = w.os
  tape : w'.tape = w.tape
  output : w'.output = w.output
  size : w.heap.size ≤ w'.heap.size
  blk : ∀ x, x ≠ b → x < w.heap.size → w'.heap[x]? = w.heap[x]?
  cel : ∀ q, (q < j * 5 ∨ j * 5 + 4 ≤ q) → w'.cell? ⟨b, q, none⟩ = w.cell? ⟨b, q, none⟩
  fz : ∀ q, w'.frozen? ⟨b, q, none⟩ = w.frozen? ⟨b, q, none⟩
theorem Asd.refl (b j : Nat) (w : World) : Asd b j w w := ⟨rfl, rfl, rfl, Nat.le_refl _, fun _ _ _ => rfl, fun _ _ => rfl, fun _ => rfl⟩
theorem Asd.set {b j : Nat} {w W : World} (h : Asd b j w W) (q : Nat) (u : Value) (h1 : j * 5 ≤ q) (h2 : q < j * 5 + 4) : Asd b j w (W.setCell ⟨b, q, none⟩ u) := by
  refine ⟨h.os, h.tape, h.output, by simpa using h.size, fun x hx hl => (heap_setCell_other W ⟨b, q, none⟩ x u hx).trans (h.blk x hx hl), fun p hp => ?_, fun p => ?_⟩
  · rw [World.cell?_setCell_other _ _ _ _ (fun e => by injection e with _ e2 _; omega)]; exact h.cel p hp
  · rw [World.frozen?_setCell]; exact h.fz p
theorem Asd.below {b j : Nat} {w W W' : World} (h : Asd b j w W) (hb : b < w.heap.size) (hB : Below W.heap.size W W') : Asd b j w W' := by
  have hs := h.size
  refine ⟨hB.os.trans h.os, hB.tape.trans h.tape, hB.output.trans h.output, Nat.le_trans hs hB.size, fun x hx hl => (hB.block x (by omega)).trans (h.blk x hx hl), fun p hp => ?_, fun p => ?_⟩
  · exact (cellEq (hB.block b (by omega))).trans (h.cel p hp)
  · exact (frozenEq (hB.block b (by omega))).trans (h.fz p)
theorem Asd.inside {b j lo hi : Nat} {w W : World} (h : Asd b j w W) (h1 : lo ≤ b) (h2 : b < hi) : Inside lo hi w W :=
  ⟨h.os, h.tape, h.output, h.size, fun x hx ho => h.blk x (by omega) hx⟩
/-- What is left to mark. -/
structure RemX (t : Ex) (b j : Nat) (vs : Nat → Value) (l g : Nat → Nat) (w : World) : Prop where
  bs : b < w.heap.size
  cs : ∀ i, j ≤ i → i < t.ks.length → Fd w b (i * 5) (t.ks.getD i Ex.dummy) (vs i)
  fz : ∀ i, i < t.ks.length * 5 → w.frozen? ⟨b, i, none⟩ = false
  ty : ∀ i, j ≤ i → i < t.ks.length → ExIn w (l i) (g i) (t.ks.getD i Ex.dummy) (vs i)
theorem RemX.step {t : Ex} {b j : Nat} {vs : Nat → Value} {l g : Nat → Nat} {w W w2 : World} (r : RemX t b j vs l g w) (hj : j < t.ks.length) (hin : ∀ i, i < t.ks.length → b < l i ∨ g i ≤ b) (hd : ∀ i j, i < j → j < t.ks.length → g i ≤ l j)
    (hA : Asd b j w W) (hI : Inside (l j) (g j) W w2) : RemX t b (j + 1) vs l g w2 := by
  have hbW : b < W.heap.size := Nat.lt_of_lt_of_le r.bs hA.size
  have hb2 := hI.block b hbW (by rcases hin j hj with h | h <;> omega)
  have hs2 := hI.size
  have hsA := hA.size
  have hk : ∀ x, x ≠ b → x < w.heap.size → (x < l j ∨ g j ≤ x) → w2.heap[x]? = w.heap[x]? := fun x h1 h2 h3 => (hI.block x (by omega) h3).trans (hA.blk x h1 h2)
  have hc : ∀ q, j * 5 + 4 ≤ q → w2.cell? ⟨b, q, none⟩ = w.cell? ⟨b, q, none⟩ := fun q h => (cellEq hb2).trans (hA.cel q (.inr h))
  refine ⟨Nat.lt_of_lt_of_le hbW hs2, fun i h1 h2 => ?_, fun i h1 => ?_, fun i h1 h2 => ?_⟩
  · have f := r.cs i (by omega) h2
    exact ⟨(hc _ (by omega)).trans f.c0, (hc _ (by omega)).trans f.c1, (hc _ (by omega)).trans f.c2, (hc _ (by omega)).trans f.c3, (hc _ (by omega)).trans f.c4⟩
  · rw [frozenEq hb2, hA.fz]; exact r.fz i h1
  · refine (r.ty i (by omega) h2).keep (by omega) (fun x g1 g2 g3 => hk x ?_ g3 ?_)
    · rcases hin i h2 with h | h <;> omega
    · exact .inr (Nat.le_trans (hd j i (by omega) h2) g1)
theorem Asd.kid {t : Ex} {b j lo hi : Nat} {v : Value} {w W : World} (hA : Asd b j w W) (h : ExIn w lo hi t v) (hb : b < lo ∨ hi ≤ b) : ExIn W lo hi t v :=
  h.keep hA.size (fun x h1 h2 h3 => hA.blk x (by omega) h3)
def MkPost (K c : Nat) (lo hi : Nat) (w : World) (e : Ending) (w' : World) : Prop := ∃ q : Nat, e = .returned (.int .i64 (q : Int)) ∧ K ≤ q ∧ q ≤ K + 4 * c ∧ Inside lo hi w w'

set_option maxRecDepth 100000 in
set_option maxHeartbeats 8000000 in
theorem markExprS_any (m : Nat) : ∀ (t : Ex) (c : Nat) (v : Value) (lo hi : Nat) (K : Nat) (w : World), SizeOf.sizeOf t < m → Cnt t c → ExIn w lo hi t v → 0 < K → K + 4 * c ≤ 9000000 →
    Calls Try.prog 43 #[v, .int .i64 K] w (MkPost K c lo hi w) := by
  induction m with
  | zero => intro t c v lo hi K w h; exact absurd h (Nat.not_lt_zero _)
  | succ m ih =>
    intro t c v lo hi K w hm hc hx hK0 hK
    obtain ⟨cf, hce, hcs⟩ : ∃ cf : Nat → Nat, t.ks.length + ((List.range t.ks.length).map cf).sum ≤ c ∧ ∀ i, i < t.ks.length → Cnt (t.ks.getD i Ex.dummy) (cf i) := by
      cases hc with
      | node k n m s ks c hm hs h => exact ⟨c, by show ks.length + ((List.range ks.length).map c).sum ≤ _; omega, h⟩
    by_cases h0 : t.ks.length = 0
    · obtain ⟨a, cap, rfl, _⟩ := hx.at.slice
      rw [h0]
      clear ih hce hcs hx hm hc h0
      go_enter Try.func43, Try.ntmps43
      go_wp2_with fail
      go_loopw [1, 5] (fun kv i wr => i = .int .i64 0 ∧ kv = .int .i64 K ∧ wr = w) (fun _ _ _ => 0)
      case atStart => exact ⟨rfl, rfl, rfl⟩
      case round =>
        obtain ⟨rfl, rfl, rfl⟩ := hrel
        go_wp2_with fail
        go_ret
        exact ⟨K, rfl, Nat.le_refl _, by omega, Inside.refl _ _ _⟩
    · obtain ⟨b, cap, vs, l, g, rfl, hb1, hb2h, hb3, g0, hf, hin, hd, h3⟩ := hx.parts (by omega)
      have HR : Hid (RemX t b 0 vs l g w) := Lib.hid ⟨hb3, fun i _ h => g0 i h, hf, fun i _ h => h3 i h⟩
      have HIN := Lib.hid hin
      have HD := Lib.hid hd
      have HCS := Lib.hid hcs
      have HIH := Lib.hid ih
      have HM := Lib.hid hm
      obtain ⟨L, hL⟩ : ∃ L, t.ks.length = L := ⟨_, rfl⟩
      have HL := Lib.hid hL
      rw [hL]
      rw [hL] at hce
      have hLc : L ≤ c := by omega
      have hmono : ∀ j, j ≤ L → ((List.range j).map cf).sum ≤ ((List.range L).map cf).sum := fun j h => sum_mono cf h
      have HMONO := Lib.hid hmono
      have HCE2 := Lib.hid hce
      clear ih hcs hx hm hc g0 hf hin hd h3 hL hce hmono
      go_enter Try.func43, Try.ntmps43
      go_wp2_with fail
      go_loopw [1, 5] (fun kv i wr => ∃ (j q : Nat), j ≤ L ∧ i = .int .i64 j ∧ kv = .int .i64 q ∧ K ≤ q ∧ q ≤ 9000000 ∧ Hid (q ≤ K + 4 * (j + ((List.range j).map cf).sum)) ∧ Hid (RemX t b j vs l g wr) ∧ Inside lo hi w wr) (fun _ i _ => L - (intOf i).toNat)
      case atStart => exact ⟨0, K, Nat.zero_le _, rfl, rfl, Nat.le_refl _, by omega, Lib.hid (by simp), HR, Inside.refl _ _ _⟩
      case round =>
        obtain ⟨j, q, hj, rfl, rfl, hKq, hq, hqe, hrem, hI⟩ := hrel
        have HI := Lib.hid hI
        by_cases hlt : j < L
        · have hji : (j : Int) < (L : Int) := by omega
          have hjt : j < t.ks.length := by rw [HL.out]; exact hlt
          have HJT := Lib.hid hjt
          obtain ⟨y0, y1, y2, y3, y4⟩ := hrem.out.cs j (Nat.le_refl _) hjt
          have z0 := hrem.out.fz (j * 5) (by omega)
          have z1 := hrem.out.fz (j * 5 + 1) (by omega)
          have hkid := hrem.out.ty j (Nat.le_refl _) hjt
          obtain ⟨ai, ci, hvs, _⟩ := hkid.at.slice
          rw [hvs] at y4
          have hqn : q + 4 + 4 * cf j ≤ K + 4 * (j + 1 + ((List.range (j + 1)).map cf).sum) := by rw [sum_succ]; have := hqe.out; omega
          have hqb : q + 4 + 4 * cf j ≤ 9000000 := by
            have h1 := HMONO.out (j + 1) (by omega)
            have h2 := HCE2.out
            omega
          have hsm : SizeOf.sizeOf (t.ks.getD j Ex.dummy) < m := by have h1 := Ex.kid_lt t j hjt; have h2 := HM.out; omega
          have HKID := Lib.hid hkid
          rw [hvs] at HKID
          have HCALL := Lib.hid (fun (W : World) (hW : ExIn W (l j) (g j) (t.ks.getD j Ex.dummy) (.slice ai (t.ks.getD j Ex.dummy).ks.length ci)) => HIH.out _ (cf j) _ (l j) (g j) (q + 4) W hsm (HCS.out j hjt) hW (by omega) (by omega))
          obtain ⟨x, hxx⟩ : ∃ x, t.ks.getD j Ex.dummy = x := ⟨_, rfl⟩
          rw [hxx] at y0 y1 y2 y3 y4 HKID HCALL
          have HQN := Lib.hid hqn
          have Y4 := Lib.hid y4
          have hb2' := hb2h
          have hbs := hrem.out.bs
          clear hkid hvs hsm hxx hqn hqe hjt hI
          go_wp2_with fail
          rw [show ((q : Int) + 1 + 1) = ((q + 2 : Nat) : Int) by push_cast; omega]
          go_at_call 50
          refine (markText_any (q + 2) (by omega) (by omega) _).mono ?_
          rintro e w2 ⟨rfl, hb2⟩
          have hA1 : Asd b j wr ((wr.setCell ⟨b, j * 5, none⟩ (.int .i64 q)).setCell ⟨b, j * 5 + 1, none⟩ (.int .i64 ((q : Int) + 1))) := ((Asd.refl b j wr).set (j * 5) _ (Nat.le_refl _) (by omega)).set (j * 5 + 1) _ (by omega) (by omega)
          have hsb : b < ((wr.setCell ⟨b, j * 5, none⟩ (.int .i64 q)).setCell ⟨b, j * 5 + 1, none⟩ (.int .i64 ((q : Int) + 1))).heap.size := by simp; exact hbs
          have HA2 := Lib.hid (hA1.below hbs hb2)
          have hbs2 : b < w2.heap.size := Nat.lt_of_lt_of_le hsb hb2.size
          have u2 : w2.cell? ⟨b, j * 5 + 2, none⟩ = some (.string x.m) := (hb2.cell (p := ⟨b, j * 5 + 2, none⟩) hsb).trans (by
            rw [World.cell?_setCell_other _ _ _ _ (fun e => by injection e with _ e2 _; omega), World.cell?_setCell_other _ _ _ _ (fun e => by injection e with _ e2 _; omega)]; exact y2)
          have u3 : w2.cell? ⟨b, j * 5 + 3, none⟩ = some (.string x.s) := (hb2.cell (p := ⟨b, j * 5 + 3, none⟩) hsb).trans (by
            rw [World.cell?_setCell_other _ _ _ _ (fun e => by injection e with _ e2 _; omega), World.cell?_setCell_other _ _ _ _ (fun e => by injection e with _ e2 _; omega)]; exact y3)
          have v2 : w2.frozen? ⟨b, j * 5 + 2, none⟩ = false := (HA2.out.fz _).trans (hrem.out.fz _ (by have := HJT.out; omega))
          have v3 : w2.frozen? ⟨b, j * 5 + 3, none⟩ = false := (HA2.out.fz _).trans (hrem.out.fz _ (by have := HJT.out; omega))
          obtain ⟨T2, hT2⟩ : ∃ T, mkT (q + 2) = T := ⟨_, rfl⟩
          rw [hT2]
          clear hA1 hb2 hT2 y0 y1 y2 y3 y4 z0 z1 hsb
          go_wp2_with fail
          first | rw [show (((q + 2 : Nat) : Int) + 1) = ((q + 3 : Nat) : Int) by push_cast; omega] | rw [show ((q : Int) + 2 + 1) = ((q + 3 : Nat) : Int) by push_cast; omega]
          go_at_call 50
          refine (markText_any (q + 3) (by omega) (by omega) _).mono ?_
          rintro e w3 ⟨rfl, hb3⟩
          have hsb3 : b < (w2.setCell ⟨b, j * 5 + 2, none⟩ (.string T2)).heap.size := by simp; exact hbs2
          have HA3 := Lib.hid ((HA2.out.set (j * 5 + 2) (.string T2) (by omega) (by omega)).below hbs hb3)
          have hbs3 : b < w3.heap.size := Nat.lt_of_lt_of_le hsb3 hb3.size
          have u3' : w3.cell? ⟨b, j * 5 + 3, none⟩ = some (.string x.s) := (hb3.cell (p := ⟨b, j * 5 + 3, none⟩) hsb3).trans (by
            rw [World.cell?_setCell_other _ _ _ _ (fun e => by injection e with _ e2 _; omega)]; exact u3)
          have v3' : w3.frozen? ⟨b, j * 5 + 3, none⟩ = false := (HA3.out.fz _).trans (hrem.out.fz _ (by have := HJT.out; omega))
          have u4 : w3.cell? ⟨b, j * 5 + 4, none⟩ = some (.slice ai x.ks.length ci) := (HA3.out.cel _ (.inr (Nat.le_refl _))).trans Y4.out
          obtain ⟨T3, hT3⟩ : ∃ T, mkT (q + 3) = T := ⟨_, rfl⟩
          rw [hT3]
          clear hb3 hT3 u2 u3 v2 v3 hsb3
          have HA4 := Lib.hid (HA3.out.set (j * 5 + 3) (.string T3) (by omega) (by omega))
          go_wp2_with fail
          first | rw [show (((q + 3 : Nat) : Int) + 1) = ((q + 4 : Nat) : Int) by push_cast; omega] | rw [show ((q : Int) + 3 + 1) = ((q + 4 : Nat) : Int) by push_cast; omega]
          go_at_call 43
          refine (HCALL.out _ (HA4.out.kid HKID.out (by have := (HIN.out j HJT.out).2.2; omega))).mono ?_
          rintro e w4 ⟨q', rfl, hq1, hq2, hI4⟩
          have HQ' : Hid (q' ≤ K + 4 * (j + 1 + ((List.range (j + 1)).map cf).sum)) := Lib.hid (by have := HQN.out; omega)
          have HREM := Lib.hid (hrem.out.step HJT.out (fun i hi => (HIN.out i hi).2.2) HD.out HA4.out hI4)
          have HI5 := Lib.hid (HI.out.trans ((HA4.out.inside hb1 hb2').trans (hI4.wide (HIN.out j HJT.out).1 (HIN.out j HJT.out).2.1)))
          have hq9 : q' ≤ 9000000 := by omega
          have hKq' : K ≤ q' := by omega
          clear hq1 hq2 hI4
          go_wp2_with fail
          exact ⟨⟨j + 1, q', by omega, by go_num, rfl, hKq', hq9, HQ', HREM, HI5.out⟩, by simp [intOf]; omega⟩
        · have hji : ¬ (j : Int) < (L : Int) := by omega
          have hjl : j = L := by omega
          have HQ : Hid (q ≤ K + 4 * c) := Lib.hid (by have := hqe.out; have := HCE2.out; rw [hjl] at *; omega)
          clear hlt hjl hI
          go_wp2_with fail
          go_ret
          exact ⟨q, rfl, hKq, HQ.out, HI.out⟩

end Go.Proofs.Ytlgbkhkmfgdehaa.Ox
