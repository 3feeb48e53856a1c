/-
  The exact laws' marks on an expression: every field of its nodes is written anew; what lies elsewhere stays.
  The exact laws' marks in an expression that lies in blocks of its own: they are written (every node has four fields), and they are found again.
  The exact laws' marks of an expression: heldExpr finds what markExpr wrote.
-/
import Derived.Test.YtpaefcdchaemfaaRa
import Derived.Test.YtpaefcdchaemfaaZo
import Derived.Test.YtpaefcdchaemfaaWxz
import Derived.Deep.RegionHeld3
namespace Go.Proofs.Ytpaefcdchaemfaa.Ox
open Go.Proofs.Ytpaefcdchaemfaa
open Go.RowKit
set_option linter.unusedVariables false
set_option linter.unusedSimpArgs false

theorem _root_.Go.Proofs.Ytpaefcdchaemfaa.ExIn.parts {w : World} {lo hi : Nat} {t : Ex} {v : Value} (h : ExIn w lo hi t v) (h0 : 0 < t.ks.length) :
    ∃ (b cap : Nat) (vs : Nat → Value) (l g : Nat → Nat), v = .slice (some ⟨b, 0, none⟩) t.ks.length cap ∧ lo ≤ b ∧ b < hi ∧ b < w.heap.size ∧
      (∀ i, i < t.ks.length → Fd w b (i * 5) (t.ks.getD i Ex.dummy) (vs i)) ∧ (∀ i, i < t.ks.length * 5 → w.frozen? ⟨b, i, none⟩ = false) ∧
      (∀ i, i < t.ks.length → lo ≤ l i ∧ g i ≤ hi ∧ (b < l i ∨ g i ≤ b)) ∧ (∀ i j, i < j → j < t.ks.length → g i ≤ l j) ∧ (∀ i, i < t.ks.length → ExIn w (l i) (g i) (t.ks.getD i Ex.dummy) (vs i)) := by
  cases h with
  | bare lo hi k n m s a cap => exact absurd h0 (Nat.lt_irrefl _)
  | row lo hi k n m s ks b cap vs l h hb1 hb2 hw hl g0 hf hin hd h3 => exact ⟨b, cap, vs, l, h, rfl, hb1, hb2, hw.lt, g0, hf, hin, hd, h3⟩
/-- Only the first four cells of the j-th place of block b may have changed. -/
structure Asd (b j : Nat) (w w' : World) : Prop where
  os : w'.os = w.os
  tape : w'.tape = w.tape
  output : w'.output = w.output
  size : w.heap.size ≤ w'.heap.size
  blk : ∀ x, x ≠ b → x < w.heap.size → w'.heap[x]? = w.heap[x]?
  cel : ∀ q, (q < j * 5 ∨ j * 5 + 4 ≤ q) → w'.cell? ⟨b, q, none⟩ = w.cell? ⟨b, q, none⟩
  fz : ∀ q, w'.frozen? ⟨b, q, none⟩ = w.frozen? ⟨b, q, none⟩
theorem Asd.refl (b j : Nat) (w : World) : Asd b j w w := ⟨rfl, rfl, rfl, Nat.le_refl _, fun _ _ _ => rfl, fun _ _ => rfl, fun _ => rfl⟩
theorem Asd.set {b j : Nat} {w W : World} (h : Asd b j w W) (q : Nat) (u : Value) (h1 : j * 5 ≤ q) (h2 : q < j * 5 + 4) : Asd b j w (W.setCell ⟨b, q, none⟩ u) := by
  refine ⟨h.os, h.tape, h.output, by simpa using h.size, fun x hx hl => (heap_setCell_other W ⟨b, q, none⟩ x u hx).trans (h.blk x hx hl), fun p hp => ?_, fun p => ?_⟩
  · rw [World.cell?_setCell_other _ _ _ _ (fun e => by injection e with _ e2 _; omega)]; exact h.cel p hp
  · rw [World.frozen?_setCell]; exact h.fz p
theorem Asd.below {b j : Nat} {w W W' : World} (h : Asd b j w W) (hb : b < w.heap.size) (hB : Below W.heap.size W W') : Asd b j w W' := by
  have hs := h.size
  refine ⟨hB.os.trans h.os, hB.tape.trans h.tape, hB.output.trans h.output, Nat.le_trans hs hB.size, fun x hx hl => (hB.block x (by omega)).trans (h.blk x hx hl), fun p hp => ?_, fun p => ?_⟩
  · exact (cellEq (hB.block b (by omega))).trans (h.cel p hp)
  · exact (frozenEq (hB.block b (by omega))).trans (h.fz p)
theorem Asd.inside {b j lo hi : Nat} {w W : World} (h : Asd b j w W) (h1 : lo ≤ b) (h2 : b < hi) : Inside lo hi w W :=
  ⟨h.os, h.tape, h.output, h.size, fun x hx ho => h.blk x (by omega) hx⟩
/-- What is left to mark. -/
structure RemX (t : Ex) (b j : Nat) (vs : Nat → Value) (l g : Nat → Nat) (w : World) : Prop where
  bs : b < w.heap.size
  cs : ∀ i, j ≤ i → i < t.ks.length → Fd w b (i * 5) (t.ks.getD i Ex.dummy) (vs i)
  fz : ∀ i, i < t.ks.length * 5 → w.frozen? ⟨b, i, none⟩ = false
  ty : ∀ i, j ≤ i → i < t.ks.length → ExIn w (l i) (g i) (t.ks.getD i Ex.dummy) (vs i)
theorem RemX.step {t : Ex} {b j : Nat} {vs : Nat → Value} {l g : Nat → Nat} {w W w2 : World} (r : RemX t b j vs l g w) (hj : j < t.ks.length) (hin : ∀ i, i < t.ks.length → b < l i ∨ g i ≤ b) (hd : ∀ i j, i < j → j < t.ks.length → g i ≤ l j)
    (hA : Asd b j w W) (hI : Inside (l j) (g j) W w2) : RemX t b (j + 1) vs l g w2 := by
  have hbW : b < W.heap.size := Nat.lt_of_lt_of_le r.bs hA.size
  have hb2 := hI.block b hbW (by rcases hin j hj with h | h <;> omega)
  have hs2 := hI.size
  have hsA := hA.size
  have hk : ∀ x, x ≠ b → x < w.heap.size → (x < l j ∨ g j ≤ x) → w2.heap[x]? = w.heap[x]? := fun x h1 h2 h3 => (hI.block x (by omega) h3).trans (hA.blk x h1 h2)
  have hc : ∀ q, j * 5 + 4 ≤ q → w2.cell? ⟨b, q, none⟩ = w.cell? ⟨b, q, none⟩ := fun q h => (cellEq hb2).trans (hA.cel q (.inr h))
  refine ⟨Nat.lt_of_lt_of_le hbW hs2, fun i h1 h2 => ?_, fun i h1 => ?_, fun i h1 h2 => ?_⟩
  · have f := r.cs i (by omega) h2
    exact ⟨(hc _ (by omega)).trans f.c0, (hc _ (by omega)).trans f.c1, (hc _ (by omega)).trans f.c2, (hc _ (by omega)).trans f.c3, (hc _ (by omega)).trans f.c4⟩
  · rw [frozenEq hb2, hA.fz]; exact r.fz i h1
  · refine (r.ty i (by omega) h2).keep (by omega) (fun x g1 g2 g3 => hk x ?_ g3 ?_)
    · rcases hin i h2 with h | h <;> omega
    · exact .inr (Nat.le_trans (hd j i (by omega) h2) g1)
theorem Asd.kid {t : Ex} {b j lo hi : Nat} {v : Value} {w W : World} (hA : Asd b j w W) (h : ExIn w lo hi t v) (hb : b < lo ∨ hi ≤ b) : ExIn W lo hi t v :=
  h.keep hA.size (fun x h1 h2 h3 => hA.blk x (by omega) h3)
def MkPost (K c : Nat) (lo hi : Nat) (w : World) (e : Ending) (w' : World) : Prop := ∃ q : Nat, e = .returned (.int .i64 (q : Int)) ∧ K ≤ q ∧ q ≤ K + 4 * c ∧ Inside lo hi w w'

set_option maxRecDepth 100000 in
set_option maxHeartbeats 8000000 in
theorem markExprS_any (m : Nat) : ∀ (t : Ex) (c : Nat) (v : Value) (lo hi : Nat) (K : Nat) (w : World), SizeOf.sizeOf t < m → Cnt t c → ExIn w lo hi t v → 0 < K → K + 4 * c ≤ 9000000 →
    Calls Try.prog 13 #[v, .int .i64 K] w (MkPost K c lo hi w) := by
  induction m with
  | zero => intro t c v lo hi K w h; exact absurd h (Nat.not_lt_zero _)
  | succ m ih =>
    intro t c v lo hi K w hm hc hx hK0 hK
    obtain ⟨cf, hce, hcs⟩ : ∃ cf : Nat → Nat, t.ks.length + ((List.range t.ks.length).map cf).sum ≤ c ∧ ∀ i, i < t.ks.length → Cnt (t.ks.getD i Ex.dummy) (cf i) := by
      cases hc with
      | node k n m s ks c hm hs h => exact ⟨c, by show ks.length + ((List.range ks.length).map c).sum ≤ _; omega, h⟩
    by_cases h0 : t.ks.length = 0
    · obtain ⟨a, cap, rfl, _⟩ := hx.at.slice
      rw [h0]
      clear ih hce hcs hx hm hc h0
      go_enter Try.func13, Try.ntmps13
      go_wp2_with fail
      go_loopw [1, 5] (fun kv i wr => i = .int .i64 0 ∧ kv = .int .i64 K ∧ wr = w) (fun _ _ _ => 0)
      case atStart => exact ⟨rfl, rfl, rfl⟩
      case round =>
        obtain ⟨rfl, rfl, rfl⟩ := hrel
        go_wp2_with fail
        go_ret
        exact ⟨K, rfl, Nat.le_refl _, by omega, Inside.refl _ _ _⟩
    · obtain ⟨b, cap, vs, l, g, rfl, hb1, hb2h, hb3, g0, hf, hin, hd, h3⟩ := hx.parts (by omega)
      have HR : Hid (RemX t b 0 vs l g w) := Lib.hid ⟨hb3, fun i _ h => g0 i h, hf, fun i _ h => h3 i h⟩
      have HIN := Lib.hid hin
      have HD := Lib.hid hd
      have HCS := Lib.hid hcs
      have HIH := Lib.hid ih
      have HM := Lib.hid hm
      obtain ⟨L, hL⟩ : ∃ L, t.ks.length = L := ⟨_, rfl⟩
      have HL := Lib.hid hL
      rw [hL]
      rw [hL] at hce
      have hLc : L ≤ c := by omega
      have hmono : ∀ j, j ≤ L → ((List.range j).map cf).sum ≤ ((List.range L).map cf).sum := fun j h => sum_mono cf h
      have HMONO := Lib.hid hmono
      have HCE2 := Lib.hid hce
      clear ih hcs hx hm hc g0 hf hin hd h3 hL hce hmono
      go_enter Try.func13, Try.ntmps13
      go_wp2_with fail
      go_loopw [1, 5] (fun kv i wr => ∃ (j q : Nat), j ≤ L ∧ i = .int .i64 j ∧ kv = .int .i64 q ∧ K ≤ q ∧ q ≤ 9000000 ∧ Hid (q ≤ K + 4 * (j + ((List.range j).map cf).sum)) ∧ Hid (RemX t b j vs l g wr) ∧ Inside lo hi w wr) (fun _ i _ => L - (intOf i).toNat)
      case atStart => exact ⟨0, K, Nat.zero_le _, rfl, rfl, Nat.le_refl _, by omega, Lib.hid (by simp), HR, Inside.refl _ _ _⟩
      case round =>
        obtain ⟨j, q, hj, rfl, rfl, hKq, hq, hqe, hrem, hI⟩ := hrel
        have HI := Lib.hid hI
        by_cases hlt : j < L
        · have hji : (j : Int) < (L : Int) := by omega
          have hjt : j < t.ks.length := by rw [HL.out]; exact hlt
          have HJT := Lib.hid hjt
          obtain ⟨y0, y1, y2, y3, y4⟩ := hrem.out.cs j (Nat.le_refl _) hjt
          have z0 := hrem.out.fz (j * 5) (by omega)
          have z1 := hrem.out.fz (j * 5 + 1) (by omega)
          have hkid := hrem.out.ty j (Nat.le_refl _) hjt
          obtain ⟨ai, ci, hvs, _⟩ := hkid.at.slice
          rw [hvs] at y4
          have hqn : q + 4 + 4 * cf j ≤ K + 4 * (j + 1 + ((List.range (j + 1)).map cf).sum) := by rw [sum_succ]; have := hqe.out; omega
          have hqb : q + 4 + 4 * cf j ≤ 9000000 := by
            have h1 := HMONO.out (j + 1) (by omega)
            have h2 := HCE2.out
            omega
          have hsm : SizeOf.sizeOf (t.ks.getD j Ex.dummy) < m := by have h1 := Ex.kid_lt t j hjt; have h2 := HM.out; omega
          have HKID := Lib.hid hkid
          rw [hvs] at HKID
          have HCALL := Lib.hid (fun (W : World) (hW : ExIn W (l j) (g j) (t.ks.getD j Ex.dummy) (.slice ai (t.ks.getD j Ex.dummy).ks.length ci)) => HIH.out _ (cf j) _ (l j) (g j) (q + 4) W hsm (HCS.out j hjt) hW (by omega) (by omega))
          obtain ⟨x, hxx⟩ : ∃ x, t.ks.getD j Ex.dummy = x := ⟨_, rfl⟩
          rw [hxx] at y0 y1 y2 y3 y4 HKID HCALL
          have HQN := Lib.hid hqn
          have Y4 := Lib.hid y4
          have hb2' := hb2h
          have hbs := hrem.out.bs
          clear hkid hvs hsm hxx hqn hqe hjt hI
          go_wp2_with fail
          rw [show ((q : Int) + 1 + 1) = ((q + 2 : Nat) : Int) by push_cast; omega]
          go_at_call 31
          refine (markText_any (q + 2) (by omega) (by omega) _).mono ?_
          rintro e w2 ⟨rfl, hb2⟩
          have hA1 : Asd b j wr ((wr.setCell ⟨b, j * 5, none⟩ (.int .i64 q)).setCell ⟨b, j * 5 + 1, none⟩ (.int .i64 ((q : Int) + 1))) := ((Asd.refl b j wr).set (j * 5) _ (Nat.le_refl _) (by omega)).set (j * 5 + 1) _ (by omega) (by omega)
          have hsb : b < ((wr.setCell ⟨b, j * 5, none⟩ (.int .i64 q)).setCell ⟨b, j * 5 + 1, none⟩ (.int .i64 ((q : Int) + 1))).heap.size := by simp; exact hbs
          have HA2 := Lib.hid (hA1.below hbs hb2)
          have hbs2 : b < w2.heap.size := Nat.lt_of_lt_of_le hsb hb2.size
          have u2 : w2.cell? ⟨b, j * 5 + 2, none⟩ = some (.string x.m) := (hb2.cell (p := ⟨b, j * 5 + 2, none⟩) hsb).trans (by
            rw [World.cell?_setCell_other _ _ _ _ (fun e => by injection e with _ e2 _; omega), World.cell?_setCell_other _ _ _ _ (fun e => by injection e with _ e2 _; omega)]; exact y2)
          have u3 : w2.cell? ⟨b, j * 5 + 3, none⟩ = some (.string x.s) := (hb2.cell (p := ⟨b, j * 5 + 3, none⟩) hsb).trans (by
            rw [World.cell?_setCell_other _ _ _ _ (fun e => by injection e with _ e2 _; omega), World.cell?_setCell_other _ _ _ _ (fun e => by injection e with _ e2 _; omega)]; exact y3)
          have v2 : w2.frozen? ⟨b, j * 5 + 2, none⟩ = false := (HA2.out.fz _).trans (hrem.out.fz _ (by have := HJT.out; omega))
          have v3 : w2.frozen? ⟨b, j * 5 + 3, none⟩ = false := (HA2.out.fz _).trans (hrem.out.fz _ (by have := HJT.out; omega))
          obtain ⟨T2, hT2⟩ : ∃ T, mkT (q + 2) = T := ⟨_, rfl⟩
          rw [hT2]
          clear hA1 hb2 hT2 y0 y1 y2 y3 y4 z0 z1 hsb
          go_wp2_with fail
          first | rw [show (((q + 2 : Nat) : Int) + 1) = ((q + 3 : Nat) : Int) by push_cast; omega] | rw [show ((q : Int) + 2 + 1) = ((q + 3 : Nat) : Int) by push_cast; omega]
          go_at_call 31
          refine (markText_any (q + 3) (by omega) (by omega) _).mono ?_
          rintro e w3 ⟨rfl, hb3⟩
          have hsb3 : b < (w2.setCell ⟨b, j * 5 + 2, none⟩ (.string T2)).heap.size := by simp; exact hbs2
          have HA3 := Lib.hid ((HA2.out.set (j * 5 + 2) (.string T2) (by omega) (by omega)).below hbs hb3)
          have hbs3 : b < w3.heap.size := Nat.lt_of_lt_of_le hsb3 hb3.size
          have u3' : w3.cell? ⟨b, j * 5 + 3, none⟩ = some (.string x.s) := (hb3.cell (p := ⟨b, j * 5 + 3, none⟩) hsb3).trans (by
            rw [World.cell?_setCell_other _ _ _ _ (fun e => by injection e with _ e2 _; omega)]; exact u3)
          have v3' : w3.frozen? ⟨b, j * 5 + 3, none⟩ = false := (HA3.out.fz _).trans (hrem.out.fz _ (by have := HJT.out; omega))
          have u4 : w3.cell? ⟨b, j * 5 + 4, none⟩ = some (.slice ai x.ks.length ci) := (HA3.out.cel _ (.inr (Nat.le_refl _))).trans Y4.out
          obtain ⟨T3, hT3⟩ : ∃ T, mkT (q + 3) = T := ⟨_, rfl⟩
          rw [hT3]
          clear hb3 hT3 u2 u3 v2 v3 hsb3
          have HA4 := Lib.hid (HA3.out.set (j * 5 + 3) (.string T3) (by omega) (by omega))
          go_wp2_with fail
          first | rw [show (((q + 3 : Nat) : Int) + 1) = ((q + 4 : Nat) : Int) by push_cast; omega] | rw [show ((q : Int) + 3 + 1) = ((q + 4 : Nat) : Int) by push_cast; omega]
          go_at_call 13
          refine (HCALL.out _ (HA4.out.kid HKID.out (by have := (HIN.out j HJT.out).2.2; omega))).mono ?_
          rintro e w4 ⟨q', rfl, hq1, hq2, hI4⟩
          have HQ' : Hid (q' ≤ K + 4 * (j + 1 + ((List.range (j + 1)).map cf).sum)) := Lib.hid (by have := HQN.out; omega)
          have HREM := Lib.hid (hrem.out.step HJT.out (fun i hi => (HIN.out i hi).2.2) HD.out HA4.out hI4)
          have HI5 := Lib.hid (HI.out.trans ((HA4.out.inside hb1 hb2').trans (hI4.wide (HIN.out j HJT.out).1 (HIN.out j HJT.out).2.1)))
          have hq9 : q' ≤ 9000000 := by omega
          have hKq' : K ≤ q' := by omega
          clear hq1 hq2 hI4
          go_wp2_with fail
          exact ⟨⟨j + 1, q', by omega, by go_num, rfl, hKq', hq9, HQ', HREM, HI5.out⟩, by simp [intOf]; omega⟩
        · have hji : ¬ (j : Int) < (L : Int) := by omega
          have hjl : j = L := by omega
          have HQ : Hid (q ≤ K + 4 * c) := Lib.hid (by have := hqe.out; have := HCE2.out; rw [hjl] at *; omega)
          clear hlt hjl hI
          go_wp2_with fail
          go_ret
          exact ⟨q, rfl, hKq, HQ.out, HI.out⟩

end Go.Proofs.Ytpaefcdchaemfaa.Ox

namespace Go.Proofs.Ytpaefcdchaemfaa.Ox
open Go.Proofs.Ytpaefcdchaemfaa
open Go.RowKit
set_option linter.unusedVariables false
set_option linter.unusedSimpArgs false

/-- The nodes below the root. -/
inductive Nc : Ex → Nat → Prop where
  | node (k n : Int) (m s : ByteArray) (ks : List Ex) (c : Nat → Nat) (h : ∀ i, i < ks.length → Nc (ks.getD i Ex.dummy) (c i)) : Nc (.node k n m s ks) (ks.length + ((List.range ks.length).map c).sum)
/-- The marks from q on in the four fields of a node; its row. -/
structure Fm (w : World) (b o q : Nat) (v : Value) : Prop where
  c0 : w.cell? ⟨b, o, none⟩ = some (.int .i64 (q : Int))
  c1 : w.cell? ⟨b, o + 1, none⟩ = some (.int .i64 ((q + 1 : Nat) : Int))
  c2 : w.cell? ⟨b, o + 2, none⟩ = some (.string (mkT (q + 2)))
  c3 : w.cell? ⟨b, o + 3, none⟩ = some (.string (mkT (q + 3)))
  c4 : w.cell? ⟨b, o + 4, none⟩ = some v
theorem Fm.keep {w w' : World} {b o q : Nat} {v : Value} (h : Fm w b o q v) (e : w'.heap[b]? = w.heap[b]?) : Fm w' b o q v :=
  ⟨(cellEq e).trans h.c0, (cellEq e).trans h.c1, (cellEq e).trans h.c2, (cellEq e).trans h.c3, (cellEq e).trans h.c4⟩
/-- An expression's rows hold the marks from K on; c nodes lie below the root. -/
inductive HeldX (w : World) : Nat → Nat → Nat → Ex → Nat → Value → Prop where
  | bare (lo hi K : Nat) (k n : Int) (m s : ByteArray) (a : Option Addr) (cap : Nat) : HeldX w lo hi K (.node k n m s []) 0 (.slice a 0 cap)
  | row (lo hi K : Nat) (k n : Int) (m s : ByteArray) (ks : List Ex) (cf : Nat → Nat) (b cap : Nat) (vs : Nat → Value) (l g : Nat → Nat) (hb1 : lo ≤ b) (hb2 : b < hi) (hw : b < w.heap.size)
      (h0 : ∀ i, i < ks.length → Fm w b (i * 5) (K + 4 * (i + ((List.range i).map cf).sum)) (vs i))
      (hin : ∀ i, i < ks.length → lo ≤ l i ∧ g i ≤ hi)
      (h3 : ∀ i, i < ks.length → HeldX w (l i) (g i) (K + 4 * (i + ((List.range i).map cf).sum) + 4) (ks.getD i Ex.dummy) (cf i) (vs i)) :
      HeldX w lo hi K (.node k n m s ks) (ks.length + ((List.range ks.length).map cf).sum) (.slice (some ⟨b, 0, none⟩) ks.length cap)
theorem HeldX.empty {w : World} {lo hi K : Nat} {t : Ex} {a : Option Addr} {cap : Nat} (h : t.ks.length = 0) : HeldX w lo hi K t 0 (.slice a 0 cap) := by
  cases t with
  | node k n m s ks =>
    have : ks = [] := List.eq_nil_of_length_eq_zero h
    subst this
    exact .bare lo hi K k n m s a cap
theorem HeldX.keep {w w' : World} {lo hi K c : Nat} {t : Ex} {v : Value} (h : HeldX w lo hi K t c v) (hs : w.heap.size ≤ w'.heap.size) (hk : ∀ b, lo ≤ b → b < hi → b < w.heap.size → w'.heap[b]? = w.heap[b]?) : HeldX w' lo hi K t c v := by
  induction h with
  | bare lo hi K k n m s a cap => exact .bare lo hi K k n m s a cap
  | row lo hi K k n m s ks cf b cap vs l g hb1 hb2 hw h0 hin _ ih =>
    have e := hk b hb1 hb2 hw
    refine .row lo hi K k n m s ks cf b cap vs l g hb1 hb2 (by omega) (fun i hi => (h0 i hi).keep e) hin ?_
    intro i hi
    obtain ⟨a1, a2⟩ := hin i hi
    exact ih i hi (fun b h1 h2 h3 => hk b (by omega) (by omega) h3)
theorem HeldX.kept {w w' : World} {lo hi K c : Nat} {t : Ex} {v : Value} (h : HeldX w lo hi K t c v) (hb : Below w.heap.size w w') : HeldX w' lo hi K t c v :=
  h.keep hb.size (fun b _ _ h3 => hb.block b h3)
theorem HeldX.slice {w : World} {lo hi K c : Nat} {t : Ex} {v : Value} (h : HeldX w lo hi K t c v) : ∃ a cap, v = .slice a t.ks.length cap := by
  cases h with
  | bare lo hi K k n m s a cap => exact ⟨a, cap, rfl⟩
  | row lo hi K k n m s ks cf b cap => exact ⟨_, cap, rfl⟩
theorem HeldX.parts {w : World} {lo hi K c : Nat} {t : Ex} {v : Value} (h : HeldX w lo hi K t c v) (h0 : 0 < t.ks.length) :
    ∃ (cf : Nat → Nat) (b cap : Nat) (vs : Nat → Value) (l g : Nat → Nat), v = .slice (some ⟨b, 0, none⟩) t.ks.length cap ∧ b < w.heap.size ∧ c = t.ks.length + ((List.range t.ks.length).map cf).sum ∧
      (∀ i, i < t.ks.length → Fm w b (i * 5) (K + 4 * (i + ((List.range i).map cf).sum)) (vs i)) ∧
      (∀ i, i < t.ks.length → HeldX w (l i) (g i) (K + 4 * (i + ((List.range i).map cf).sum) + 4) (t.ks.getD i Ex.dummy) (cf i) (vs i)) := by
  cases h with
  | bare lo hi K k n m s a cap => exact absurd h0 (Nat.lt_irrefl _)
  | row lo hi K k n m s ks cf b cap vs l g hb1 hb2 hw g0 hin h3 => exact ⟨cf, b, cap, vs, l, g, rfl, hw, rfl, g0, h3⟩
theorem HeldX.none {w : World} {lo hi K c : Nat} {t : Ex} {v : Value} (h : HeldX w lo hi K t c v) (h0 : t.ks.length = 0) : c = 0 := by
  cases h with
  | bare lo hi K k n m s a cap => rfl
  | row lo hi K k n m s ks cf b cap vs l g hb1 hb2 hw g0 hin h3 =>
    have h1 : ks.length = 0 := h0
    rw [h1]; rfl
/-- What has been marked. -/
structure DnX (t : Ex) (b j K : Nat) (cf : Nat → Nat) (vs : Nat → Value) (l g : Nat → Nat) (w : World) : Prop where
  f : ∀ i, i < j → Fm w b (i * 5) (K + 4 * (i + ((List.range i).map cf).sum)) (vs i)
  ty : ∀ i, i < j → HeldX w (l i) (g i) (K + 4 * (i + ((List.range i).map cf).sum) + 4) (t.ks.getD i Ex.dummy) (cf i) (vs i)
theorem DnX.zero {t : Ex} {b K : Nat} {cf : Nat → Nat} {vs : Nat → Value} {l g : Nat → Nat} {w : World} : DnX t b 0 K cf vs l g w := ⟨fun _ h => absurd h (Nat.not_lt_zero _), fun _ h => absurd h (Nat.not_lt_zero _)⟩
theorem DnX.step {t : Ex} {b j K q : Nat} {cf : Nat → Nat} {vs : Nat → Value} {l g : Nat → Nat} {w W w2 : World} (r : DnX t b j K cf vs l g w) (hbs : b < w.heap.size) (hj : j < t.ks.length)
    (hin : ∀ i, i < t.ks.length → b < l i ∨ g i ≤ b) (hd : ∀ i j, i < j → j < t.ks.length → g i ≤ l j) (hq : q = K + 4 * (j + ((List.range j).map cf).sum))
    (hA : Asd b j w W) (hF : Fm W b (j * 5) q (vs j)) (hI : Inside (l j) (g j) W w2)
    (hH : HeldX w2 (l j) (g j) (q + 4) (t.ks.getD j Ex.dummy) (cf j) (vs j)) : DnX t b (j + 1) K cf vs l g w2 := by
  have hbW : b < W.heap.size := Nat.lt_of_lt_of_le hbs hA.size
  have hb2 := hI.block b hbW (by rcases hin j hj with h | h <;> omega)
  have hs2 := hI.size
  have hsA := hA.size
  have hk : ∀ x, x ≠ b → x < w.heap.size → (x < l j ∨ g j ≤ x) → w2.heap[x]? = w.heap[x]? := fun x h1 h2 h3 => (hI.block x (by omega) h3).trans (hA.blk x h1 h2)
  refine ⟨fun i hi => ?_, fun i hi => ?_⟩
  · by_cases hij : i = j
    · subst hij; rw [← hq]; exact hF.keep hb2
    · have f := r.f i (by omega)
      have hc : ∀ z, z < j * 5 → w2.cell? ⟨b, z, none⟩ = w.cell? ⟨b, z, none⟩ := fun z h => (cellEq hb2).trans (hA.cel z (.inl h))
      exact ⟨(hc _ (by omega)).trans f.c0, (hc _ (by omega)).trans f.c1, (hc _ (by omega)).trans f.c2, (hc _ (by omega)).trans f.c3, (hc _ (by omega)).trans f.c4⟩
  · by_cases hij : i = j
    · subst hij; rw [← hq]; exact hH
    · have hil : i < t.ks.length := by omega
      refine (r.ty i (by omega)).keep (by omega) (fun z g1 g2 g3 => hk z ?_ g3 ?_)
      · rcases hin i hil with h | h <;> omega
      · exact .inl (Nat.lt_of_lt_of_le g2 (hd i j (by omega) hj))
theorem DnX.done {t : Ex} {b K lo hi : Nat} {cf : Nat → Nat} {vs : Nat → Value} {l g : Nat → Nat} {w : World} (r : DnX t b t.ks.length K cf vs l g w) (hin : ∀ i, i < t.ks.length → lo ≤ l i ∧ g i ≤ hi ∧ (b < l i ∨ g i ≤ b))
    (hb1 : lo ≤ b) (hb2 : b < hi) (hw : b < w.heap.size) (cap : Nat) : HeldX w lo hi K t (t.ks.length + ((List.range t.ks.length).map cf).sum) (.slice (some ⟨b, 0, none⟩) t.ks.length cap) := by
  cases t with
  | node k n m s ks => exact .row lo hi K k n m s ks cf b cap vs l g hb1 hb2 hw r.f (fun i hi => ⟨(hin i hi).1, (hin i hi).2.1⟩) r.ty

set_option maxHeartbeats 8000000 in
theorem markHeld_any (m : Nat) : ∀ (t : Ex) (c : Nat) (v : Value) (lo hi : Nat) (K : Nat) (w : World), SizeOf.sizeOf t < m → Nc t c → ExIn w lo hi t v → 0 < K → K + 4 * c ≤ 9000000 →
    Calls Try.prog 13 #[v, .int .i64 K] w fun e w' => e = .returned (.int .i64 ((K + 4 * c : Nat) : Int)) ∧ Inside lo hi w w' ∧ HeldX w' lo hi K t c v := by
  induction m with
  | zero => intro t c v lo hi K w h; exact absurd h (Nat.not_lt_zero _)
  | succ m ih =>
    intro t c v lo hi K w hm hc hx hK0 hK
    obtain ⟨cf, hce, hcs⟩ : ∃ cf : Nat → Nat, c = t.ks.length + ((List.range t.ks.length).map cf).sum ∧ ∀ i, i < t.ks.length → Nc (t.ks.getD i Ex.dummy) (cf i) := by
      cases hc with
      | node k n m s ks c h => exact ⟨c, rfl, h⟩
    by_cases h0 : t.ks.length = 0
    · obtain ⟨a, cap, rfl, _⟩ := hx.at.slice
      have hc0 : c = 0 := by rw [hce, h0]; rfl
      subst hc0
      have HT0 := Lib.hid h0
      rw [h0]
      clear ih hce hcs hx hm hc h0
      go_enter Try.func13, Try.ntmps13
      go_wp2_with fail
      go_loopw [1, 5] (fun kv i wr => i = .int .i64 0 ∧ kv = .int .i64 K ∧ wr = w) (fun _ _ _ => 0)
      case atStart => exact ⟨rfl, rfl, rfl⟩
      case round =>
        obtain ⟨rfl, rfl, rfl⟩ := hrel
        go_wp2_with fail
        go_ret
        exact ⟨by first | rfl | simp, Inside.refl _ _ _, HeldX.empty HT0.out⟩
    · obtain ⟨b, cap, vs, l, g, rfl, hb1, hb2h, hb3, g0, hf, hin, hd, h3⟩ := hx.parts (by omega)
      have HR : Hid (RemX t b 0 vs l g w) := Lib.hid ⟨hb3, fun i _ h => g0 i h, hf, fun i _ h => h3 i h⟩
      have HIN := Lib.hid hin
      have HD := Lib.hid hd
      have HCS := Lib.hid hcs
      have HIH := Lib.hid ih
      have HM := Lib.hid hm
      have HCE := Lib.hid hce
      obtain ⟨L, hL⟩ : ∃ L, t.ks.length = L := ⟨_, rfl⟩
      have HL := Lib.hid hL
      rw [hL]
      rw [hL] at hce
      have hLc : L ≤ c := by omega
      have hmono : ∀ j, j ≤ L → ((List.range j).map cf).sum ≤ ((List.range L).map cf).sum := fun j h => sum_mono cf h
      have HMONO := Lib.hid hmono
      have HCE2 := Lib.hid hce
      clear ih hcs hx hm hc g0 hf hin hd h3 hL hce hmono
      go_enter Try.func13, Try.ntmps13
      go_wp2_with fail
      go_loopw [1, 5] (fun kv i wr => ∃ (j q : Nat), j ≤ L ∧ i = .int .i64 j ∧ kv = .int .i64 q ∧ K ≤ q ∧ q ≤ 9000000 ∧ Hid (q = K + 4 * (j + ((List.range j).map cf).sum)) ∧ Hid (RemX t b j vs l g wr) ∧ Hid (DnX t b j K cf vs l g wr) ∧ Inside lo hi w wr) (fun _ i _ => L - (intOf i).toNat)
      case atStart => exact ⟨0, K, Nat.zero_le _, rfl, rfl, Nat.le_refl _, by omega, Lib.hid (by simp), HR, Lib.hid DnX.zero, Inside.refl _ _ _⟩
      case round =>
        obtain ⟨j, q, hj, rfl, rfl, hKq, hq, hqe, hrem, HDN, hI⟩ := hrel
        have HI := Lib.hid hI
        by_cases hlt : j < L
        · have hji : (j : Int) < (L : Int) := by omega
          have hjt : j < t.ks.length := by rw [HL.out]; exact hlt
          have HJT := Lib.hid hjt
          obtain ⟨y0, y1, y2, y3, y4⟩ := hrem.out.cs j (Nat.le_refl _) hjt
          have z0 := hrem.out.fz (j * 5) (by omega)
          have z1 := hrem.out.fz (j * 5 + 1) (by omega)
          have hkid := hrem.out.ty j (Nat.le_refl _) hjt
          obtain ⟨ai, ci, hvs, _⟩ := hkid.at.slice
          rw [hvs] at y4
          have HQE := Lib.hid hqe.out
          have HVS := Lib.hid hvs
          have hqn : q + 4 + 4 * cf j = K + 4 * (j + 1 + ((List.range (j + 1)).map cf).sum) := by rw [sum_succ]; have := hqe.out; omega
          have hqb : q + 4 + 4 * cf j ≤ 9000000 := by
            have h1 := HMONO.out (j + 1) (by omega)
            have h2 := HCE2.out
            omega
          have hsm : SizeOf.sizeOf (t.ks.getD j Ex.dummy) < m := by have h1 := Ex.kid_lt t j hjt; have h2 := HM.out; omega
          have HKID := Lib.hid hkid
          rw [hvs] at HKID
          have HCALL := Lib.hid (fun (W : World) (hW : ExIn W (l j) (g j) (t.ks.getD j Ex.dummy) (.slice ai (t.ks.getD j Ex.dummy).ks.length ci)) => HIH.out _ (cf j) _ (l j) (g j) (q + 4) W hsm (HCS.out j hjt) hW (by omega) (by omega))
          obtain ⟨x, hxx⟩ : ∃ x, t.ks.getD j Ex.dummy = x := ⟨_, rfl⟩
          have HXX := Lib.hid hxx
          rw [hxx] at y0 y1 y2 y3 y4 HKID HCALL HVS
          have HQN := Lib.hid hqn
          have Y4 := Lib.hid y4
          have hb2' := hb2h
          have hbs := hrem.out.bs
          clear hkid hvs hsm hxx hqn hqe hjt hI
          go_wp2_with fail
          rw [show ((q : Int) + 1 + 1) = ((q + 2 : Nat) : Int) by push_cast; omega]
          go_at_call 31
          refine (markText_any (q + 2) (by omega) (by omega) _).mono ?_
          rintro e w2 ⟨rfl, hb2⟩
          have hA1 : Asd b j wr ((wr.setCell ⟨b, j * 5, none⟩ (.int .i64 q)).setCell ⟨b, j * 5 + 1, none⟩ (.int .i64 ((q : Int) + 1))) := ((Asd.refl b j wr).set (j * 5) _ (Nat.le_refl _) (by omega)).set (j * 5 + 1) _ (by omega) (by omega)
          have hsb : b < ((wr.setCell ⟨b, j * 5, none⟩ (.int .i64 q)).setCell ⟨b, j * 5 + 1, none⟩ (.int .i64 ((q : Int) + 1))).heap.size := by simp; exact hbs
          have HA2 := Lib.hid (hA1.below hbs hb2)
          have hbs2 : b < w2.heap.size := Nat.lt_of_lt_of_le hsb hb2.size
          have t0 : w2.cell? ⟨b, j * 5, none⟩ = some (.int .i64 q) := (hb2.cell (p := ⟨b, j * 5, none⟩) hsb).trans (by
            rw [World.cell?_setCell_other _ _ _ _ (fun e => by injection e with _ e2 _; omega)]; exact World.cell?_setCell_same' _ _ _ (by rw [y0]; rfl))
          have t1 : w2.cell? ⟨b, j * 5 + 1, none⟩ = some (.int .i64 ((q + 1 : Nat) : Int)) := (hb2.cell (p := ⟨b, j * 5 + 1, none⟩) hsb).trans (by
            refine (World.cell?_setCell_same' _ _ _ ?_).trans (by push_cast; rfl)
            rw [World.cell?_setCell_other _ _ _ _ (fun e => by injection e with _ e2 _; omega), y1]; rfl)
          have u2 : w2.cell? ⟨b, j * 5 + 2, none⟩ = some (.string x.m) := (hb2.cell (p := ⟨b, j * 5 + 2, none⟩) hsb).trans (by
            rw [World.cell?_setCell_other _ _ _ _ (fun e => by injection e with _ e2 _; omega), World.cell?_setCell_other _ _ _ _ (fun e => by injection e with _ e2 _; omega)]; exact y2)
          have u3 : w2.cell? ⟨b, j * 5 + 3, none⟩ = some (.string x.s) := (hb2.cell (p := ⟨b, j * 5 + 3, none⟩) hsb).trans (by
            rw [World.cell?_setCell_other _ _ _ _ (fun e => by injection e with _ e2 _; omega), World.cell?_setCell_other _ _ _ _ (fun e => by injection e with _ e2 _; omega)]; exact y3)
          have v2 : w2.frozen? ⟨b, j * 5 + 2, none⟩ = false := (HA2.out.fz _).trans (hrem.out.fz _ (by have := HJT.out; omega))
          have v3 : w2.frozen? ⟨b, j * 5 + 3, none⟩ = false := (HA2.out.fz _).trans (hrem.out.fz _ (by have := HJT.out; omega))
          obtain ⟨T2, hT2⟩ : ∃ T, mkT (q + 2) = T := ⟨_, rfl⟩
          have HT2 := Lib.hid hT2
          have T0 := Lib.hid t0
          have T1 := Lib.hid t1
          have U2 := Lib.hid u2
          rw [hT2]
          clear t0 t1
          clear hA1 hb2 hT2 y0 y1 y2 y3 y4 z0 z1 hsb
          go_wp2_with fail
          first | rw [show (((q + 2 : Nat) : Int) + 1) = ((q + 3 : Nat) : Int) by push_cast; omega] | rw [show ((q : Int) + 2 + 1) = ((q + 3 : Nat) : Int) by push_cast; omega]
          go_at_call 31
          refine (markText_any (q + 3) (by omega) (by omega) _).mono ?_
          rintro e w3 ⟨rfl, hb3⟩
          have hsb3 : b < (w2.setCell ⟨b, j * 5 + 2, none⟩ (.string T2)).heap.size := by simp; exact hbs2
          have HA3 := Lib.hid ((HA2.out.set (j * 5 + 2) (.string T2) (by omega) (by omega)).below hbs hb3)
          have hbs3 : b < w3.heap.size := Nat.lt_of_lt_of_le hsb3 hb3.size
          have T0' : Hid (w3.cell? ⟨b, j * 5, none⟩ = some (.int .i64 q)) := Lib.hid ((hb3.cell (p := ⟨b, j * 5, none⟩) hsb3).trans (by
            rw [World.cell?_setCell_other _ _ _ _ (fun e => by injection e with _ e2 _; omega)]; exact T0.out))
          have T1' : Hid (w3.cell? ⟨b, j * 5 + 1, none⟩ = some (.int .i64 ((q + 1 : Nat) : Int))) := Lib.hid ((hb3.cell (p := ⟨b, j * 5 + 1, none⟩) hsb3).trans (by
            rw [World.cell?_setCell_other _ _ _ _ (fun e => by injection e with _ e2 _; omega)]; exact T1.out))
          have T2' : Hid (w3.cell? ⟨b, j * 5 + 2, none⟩ = some (.string (mkT (q + 2)))) := Lib.hid ((hb3.cell (p := ⟨b, j * 5 + 2, none⟩) hsb3).trans ((World.cell?_setCell_same' _ _ _ (by rw [U2.out]; rfl)).trans (by rw [HT2.out])))
          have u3' : w3.cell? ⟨b, j * 5 + 3, none⟩ = some (.string x.s) := (hb3.cell (p := ⟨b, j * 5 + 3, none⟩) hsb3).trans (by
            rw [World.cell?_setCell_other _ _ _ _ (fun e => by injection e with _ e2 _; omega)]; exact u3)
          have v3' : w3.frozen? ⟨b, j * 5 + 3, none⟩ = false := (HA3.out.fz _).trans (hrem.out.fz _ (by have := HJT.out; omega))
          have u4 : w3.cell? ⟨b, j * 5 + 4, none⟩ = some (.slice ai x.ks.length ci) := (HA3.out.cel _ (.inr (Nat.le_refl _))).trans Y4.out
          obtain ⟨T3, hT3⟩ : ∃ T, mkT (q + 3) = T := ⟨_, rfl⟩
          have HT3 := Lib.hid hT3
          have U3 := Lib.hid u3'
          have U4 := Lib.hid u4
          rw [hT3]
          clear hb3 hT3 u2 u3 v2 v3 hsb3
          have HA4 := Lib.hid (HA3.out.set (j * 5 + 3) (.string T3) (by omega) (by omega))
          have HF4 : Hid (Fm (w3.setCell ⟨b, j * 5 + 3, none⟩ (.string T3)) b (j * 5) q (vs j)) := Lib.hid ⟨
            (World.cell?_setCell_other _ _ _ _ (fun e => by injection e with _ e2 _; omega)).trans T0'.out,
            (World.cell?_setCell_other _ _ _ _ (fun e => by injection e with _ e2 _; omega)).trans T1'.out,
            (World.cell?_setCell_other _ _ _ _ (fun e => by injection e with _ e2 _; omega)).trans T2'.out,
            (World.cell?_setCell_same' _ _ _ (by rw [U3.out]; rfl)).trans (by rw [HT3.out]),
            (World.cell?_setCell_other _ _ _ _ (fun e => by injection e with _ e2 _; omega)).trans (by rw [HVS.out]; exact U4.out)⟩
          go_wp2_with fail
          first | rw [show (((q + 3 : Nat) : Int) + 1) = ((q + 4 : Nat) : Int) by push_cast; omega] | rw [show ((q : Int) + 3 + 1) = ((q + 4 : Nat) : Int) by push_cast; omega]
          go_at_call 13
          refine (HCALL.out _ (HA4.out.kid HKID.out (by have := (HIN.out j HJT.out).2.2; omega))).mono ?_
          rintro e w4 ⟨rfl, hI4, hH4⟩
          obtain ⟨q', hq'⟩ : ∃ q', q + 4 + 4 * cf j = q' := ⟨_, rfl⟩
          rw [hq']
          have HQ' : Hid (q' = K + 4 * (j + 1 + ((List.range (j + 1)).map cf).sum)) := Lib.hid (by have := HQN.out; omega)
          rw [← HVS.out] at hH4
          have HDN2 := Lib.hid (HDN.out.step hrem.out.bs HJT.out (fun i hi => (HIN.out i hi).2.2) HD.out HQE.out HA4.out HF4.out hI4 (by rw [HXX.out]; exact hH4))
          have HREM := Lib.hid (hrem.out.step HJT.out (fun i hi => (HIN.out i hi).2.2) HD.out HA4.out hI4)
          have HI5 := Lib.hid (HI.out.trans ((HA4.out.inside hb1 hb2').trans (hI4.wide (HIN.out j HJT.out).1 (HIN.out j HJT.out).2.1)))
          have hq9 : q' ≤ 9000000 := by omega
          have hKq' : K ≤ q' := by omega
          clear hI4 hH4 hq'
          go_wp2_with fail
          exact ⟨⟨j + 1, q', by omega, by go_num, rfl, hKq', hq9, HQ', HREM, HDN2, HI5.out⟩, by simp [intOf]; omega⟩
        · have hji : ¬ (j : Int) < (L : Int) := by omega
          have hjl : j = L := by omega
          have hqf : q = K + 4 * c := by have h1 := hqe.out; have h2 := HCE2.out; rw [hjl] at h1; omega
          have HHELD : Hid (HeldX wr lo hi K t c (.slice (some ⟨b, 0, none⟩) L cap)) := Lib.hid (by
            have h1 := HDN.out
            rw [hjl, ← HL.out] at h1
            have h2 := h1.done HIN.out hb1 hb2h hrem.out.bs cap
            rw [← HCE.out, HL.out] at h2
            exact h2)
          clear hlt hjl hI hqe
          subst hqf
          go_wp2_with fail
          go_ret
          exact ⟨rfl, HI.out, HHELD.out⟩

end Go.Proofs.Ytpaefcdchaemfaa.Ox

namespace Go.Proofs.Ytpaefcdchaemfaa.Ox
open Go.Proofs.Ytpaefcdchaemfaa
open Go.RowKit
set_option linter.unusedVariables false
set_option linter.unusedSimpArgs false

set_option maxRecDepth 100000 in
set_option maxHeartbeats 8000000 in
theorem heldExprS_any (m : Nat) : ∀ (t : Ex) (c : Nat) (v : Value) (lo hi : Nat) (K : Nat) (w : World), SizeOf.sizeOf t < m → HeldX w lo hi K t c v → 0 < K → K + 4 * c ≤ 9000000 →
    Calls Try.prog 14 #[v, .int .i64 K] w fun e w' => e = .returned (.int .i64 ((K + 4 * c : Nat) : Int)) ∧ Below w.heap.size w w' := by
  induction m with
  | zero => intro t c v lo hi K w h; exact absurd h (Nat.not_lt_zero _)
  | succ m ih =>
    intro t c v lo hi K w hm hx hK0 hK
    by_cases h0 : t.ks.length = 0
    · obtain ⟨a, cap, rfl⟩ := hx.slice
      have hc0 : c = 0 := hx.none h0
      subst hc0
      rw [h0]
      clear ih hx hm h0
      go_enter Try.func14, Try.ntmps14
      go_wp2_with fail
      go_loopw [1, 5] (fun kv i wr => i = .int .i64 0 ∧ kv = .int .i64 K ∧ wr = w) (fun _ _ _ => 0)
      case atStart => exact ⟨rfl, rfl, rfl⟩
      case round =>
        obtain ⟨rfl, rfl, rfl⟩ := hrel
        go_wp2_with fail
        go_ret
        exact ⟨by first | rfl | simp, Below.refl _ _⟩
    · obtain ⟨cf, b, cap, vs, l, g, rfl, hb, hce, g0, h3⟩ := hx.parts (by omega)
      have HG0 := Lib.hid g0
      have H3 := Lib.hid h3
      have HIH := Lib.hid ih
      have HM := Lib.hid hm
      obtain ⟨L, hL⟩ : ∃ L, t.ks.length = L := ⟨_, rfl⟩
      have HL := Lib.hid hL
      rw [hL]
      rw [hL] at hce
      have hLc : L ≤ c := by omega
      have hmono : ∀ j, j ≤ L → ((List.range j).map cf).sum ≤ ((List.range L).map cf).sum := fun j h => sum_mono cf h
      have HMONO := Lib.hid hmono
      have HCE2 := Lib.hid hce
      clear ih hx hm g0 h3 hL hce hmono
      go_enter Try.func14, Try.ntmps14
      go_wp2_with fail
      go_loopw [1, 5] (fun kv i wr => ∃ (j q : Nat), j ≤ L ∧ i = .int .i64 j ∧ kv = .int .i64 q ∧ 0 < q ∧ q ≤ 9000000 ∧ Hid (q = K + 4 * (j + ((List.range j).map cf).sum)) ∧ Below w.heap.size w wr) (fun _ i _ => L - (intOf i).toNat)
      case atStart => exact ⟨0, K, Nat.zero_le _, rfl, rfl, hK0, by omega, Lib.hid (by simp), Below.refl _ _⟩
      case round =>
        obtain ⟨j, q, hj, rfl, rfl, hq0, hq, hqe, hB⟩ := hrel
        have HB := Lib.hid hB
        by_cases hlt : j < L
        · have hji : (j : Int) < (L : Int) := by omega
          have hjt : j < t.ks.length := by rw [HL.out]; exact hlt
          have hfm := HG0.out j hjt
          rw [← hqe.out] at hfm
          have hbw : b < wr.heap.size := Nat.lt_of_lt_of_le hb hB.size
          have y0 := (hB.cell (p := ⟨b, j * 5, none⟩) hb).trans hfm.c0
          have y1 := (hB.cell (p := ⟨b, j * 5 + 1, none⟩) hb).trans (hfm.c1.trans (by push_cast; rfl : _ = some (Value.int .i64 ((q : Int) + 1))))
          have y2 := (hB.cell (p := ⟨b, j * 5 + 2, none⟩) hb).trans hfm.c2
          have y3 := (hB.cell (p := ⟨b, j * 5 + 3, none⟩) hb).trans hfm.c3
          have y4 := (hB.cell (p := ⟨b, j * 5 + 4, none⟩) hb).trans hfm.c4
          have hkid := (H3.out j hjt).kept hB
          rw [← hqe.out] at hkid
          obtain ⟨ai, ci, hvs⟩ := hkid.slice
          rw [hvs] at y4 hkid
          have hqn : q + 4 + 4 * cf j = K + 4 * (j + 1 + ((List.range (j + 1)).map cf).sum) := by rw [sum_succ]; have := hqe.out; omega
          have hqb : q + 4 + 4 * cf j ≤ 9000000 := by
            have h1 := HMONO.out (j + 1) (by omega)
            have h2 := HCE2.out
            omega
          have hsm : SizeOf.sizeOf (t.ks.getD j Ex.dummy) < m := by have h1 := Ex.kid_lt t j hjt; have h2 := HM.out; omega
          obtain ⟨T2, hT2⟩ : ∃ T, mkT (q + 2) = T := ⟨_, rfl⟩
          obtain ⟨T3, hT3⟩ : ∃ T, mkT (q + 3) = T := ⟨_, rfl⟩
          have HT2 := Lib.hid hT2
          have HT3 := Lib.hid hT3
          rw [hT2] at y2
          rw [hT3] at y3
          have HCALL := Lib.hid (fun (W : World) (hW : Below wr.heap.size wr W) => HIH.out _ (cf j) _ (l j) (g j) (q + 4) W hsm (hkid.kept hW) (by omega) (by omega))
          obtain ⟨x, hxx⟩ : ∃ x, t.ks.getD j Ex.dummy = x := ⟨_, rfl⟩
          rw [hxx] at y4 HCALL
          have hneg : ¬ ((q + 4 + 4 * cf j : Nat) : Int) < 0 := by omega
          have HQN := Lib.hid hqn
          have HY3 := Lib.hid y3
          have HY4 := Lib.hid y4
          clear hkid hvs hsm hxx hqn hqe hjt hB hfm hT2 hT3 y3 y4
          go_wp2_with fail
          rw [show ((q : Int) + 1 + 1) = ((q + 2 : Nat) : Int) by push_cast; omega]
          go_cut [37] (fun pv wx => pv = .bool false ∧ Hid (Below wr.heap.size wr wx))
          case first =>
            go_region_held3 (fun w' => w'.cell? ⟨b, j * 5 + 2, none⟩ = some (.string T2)) (go_keep)
              (first | (go_at_call 31; refine (markText_any (q + 2) (by omega) (by omega) _).mono ?_; rintro e w5 ⟨rfl, hb5⟩; rw [HT2.out]; have HB5 : Hid (Below wr.heap.size wr w5) := Lib.hid ((Below.refl _ _).drew.trans (hb5.mono (by exact Nat.le_refl _))); have z1 := (hb5.cell (p := ⟨b, j * 5 + 2, none⟩) hbw).trans y2; clear hb5))
            all_goals (try go_wp2_with fail)
            all_goals go_meet
            all_goals exact ⟨by first | rfl | simp, HB5⟩
          case rest =>
            obtain ⟨rfl, HB5⟩ := hcut
            have y3 := (HB5.out.cell (p := ⟨b, j * 5 + 3, none⟩) hbw).trans HY3.out
            clear y0 y1 y2
            go_wp2_with fail
            first | rw [show (((q + 2 : Nat) : Int) + 1) = ((q + 3 : Nat) : Int) by push_cast; omega] | rw [show ((q : Int) + 2 + 1) = ((q + 3 : Nat) : Int) by push_cast; omega]
            go_cut [47] (fun pv wx => pv = .bool false ∧ Hid (Below wr.heap.size wr wx))
            case first =>
              have hbx := Nat.lt_of_lt_of_le hbw HB5.out.size
              go_region_held3 (fun w' => w'.cell? ⟨b, j * 5 + 3, none⟩ = some (.string T3)) (go_keep)
                (first | (go_at_call 31; refine (markText_any (q + 3) (by omega) (by omega) _).mono ?_; rintro e w6 ⟨rfl, hb6⟩; rw [HT3.out]; have HB6 : Hid (Below wr.heap.size wr w6) := Lib.hid (HB5.out.drew.trans (hb6.mono (by exact HB5.out.size))); have z2 := (hb6.cell (p := ⟨b, j * 5 + 3, none⟩) hbx).trans y3; clear hb6))
              all_goals (try go_wp2_with fail)
              all_goals go_meet
              all_goals exact ⟨by first | rfl | simp, HB6⟩
            case rest =>
              obtain ⟨rfl, HB6⟩ := hcut
              have y4 := (HB6.out.cell (p := ⟨b, j * 5 + 4, none⟩) hbw).trans HY4.out
              clear y3
              go_wp2_with fail
              first | rw [show (((q + 3 : Nat) : Int) + 1) = ((q + 4 : Nat) : Int) by push_cast; omega] | rw [show ((q : Int) + 3 + 1) = ((q + 4 : Nat) : Int) by push_cast; omega]
              go_at_call 14
              refine (HCALL.out _ HB6.out).mono ?_
              rintro e w2 ⟨rfl, hB2⟩
              have HB2 := Lib.hid (HB.out.trans ((HB6.out.trans (hB2.mono HB6.out.size)).mono HB.out.size))
              clear hB2
              go_wp2_with fail
              exact ⟨⟨j + 1, _, by omega, by go_num, rfl, by omega, hqb, HQN, HB2.out⟩, by simp [intOf]; omega⟩
        · have hji : ¬ (j : Int) < (L : Int) := by omega
          have hjl : j = L := by omega
          have hqf : q = K + 4 * c := by have h1 := hqe.out; have h2 := HCE2.out; rw [hjl] at h1; omega
          clear hlt hB hqe
          subst hjl
          subst hqf
          go_wp2_with fail
          go_ret
          exact ⟨rfl, HB.out⟩

/-- heldExpr on a root that holds its marks. -/
theorem heldExpr_any (t : Ex) (c : Nat) (k n : Int) (mm ss : ByteArray) (v : Value) (lo hi : Nat) (K : Nat) (w : World) (hx : HeldX w lo hi K t c v) (hK0 : 0 < K) (hK : K + 4 * c ≤ 9000000) :
    Calls Try.prog 8 #[.agg #[.int .i64 k, .int .i64 n, .string mm, .string ss, v], .int .i64 K] w fun e w' => e = .returned (.int .i64 ((K + 4 * c : Nat) : Int)) ∧ Below w.heap.size w w' := by
  obtain ⟨a, cap, hv⟩ := hx.slice
  have HX := Lib.hid hx
  subst hv
  have HA0 : Hid (Below w.heap.size w (w.alloc (.cells #[.int .i64 k, .int .i64 n, .string mm, .string ss, .slice a t.ks.length cap] 24))) := Lib.hid ((Below.refl w.heap.size w).alloc (Nat.le_refl _) _)
  have hneg : ¬ ((K + 4 * c : Nat) : Int) < 0 := by omega
  clear hx
  go_enter Try.func8, Try.ntmps8
  go_wp2_with fail
  go_at_call 14
  refine (heldExprS_any _ t c _ lo hi K _ (Nat.lt_succ_self _) (HX.out.kept ((Below.refl _ _).alloc (Nat.le_refl _) _)) hK0 hK).mono ?_
  rintro e w1 ⟨rfl, hI⟩
  have HI := Lib.hid (HA0.out.trans (hI.mono HA0.out.size))
  clear hI
  go_wp2_with fail
  go_ret
  exact ⟨rfl, HI.out⟩

/-- markExpr: the root's value goes by, its rows are marked. -/
theorem markExprFull_any (t : Ex) (c : Nat) (v : Value) (lo hi : Nat) (K : Nat) (w : World) (hc : Nc t c) (hx : ExIn w lo hi t v) (hK0 : 0 < K) (hK : K + 4 * c ≤ 9000000) :
    Calls Try.prog 7 #[.agg #[.int .i64 t.k, .int .i64 t.n, .string t.m, .string t.s, v], .int .i64 K] w fun e w' => e = .returned (.int .i64 ((K + 4 * c : Nat) : Int)) ∧ Inside lo hi w w' ∧ HeldX w' lo hi K t c v := by
  obtain ⟨a, cap, rfl, hlen⟩ := hx.at.slice
  have HX := Lib.hid hx
  have HC := Lib.hid hc
  have HA0 : Hid (Inside lo hi w (w.alloc (.cells #[.int .i64 t.k, .int .i64 t.n, .string t.m, .string t.s, .slice a t.ks.length cap] 24))) := Lib.hid (by
    have hb := (Below.refl w.heap.size w).alloc (Nat.le_refl _) (.cells #[.int .i64 t.k, .int .i64 t.n, .string t.m, .string t.s, .slice a t.ks.length cap] 24)
    exact ⟨hb.os, hb.tape, hb.output, hb.size, fun x hx _ => hb.block x hx⟩)
  clear hx hc
  go_enter Try.func7, Try.ntmps7
  go_wp2_with fail
  go_at_call 13
  refine (markHeld_any _ t c _ lo hi K _ (Nat.lt_succ_self _) HC.out (HX.out.kept ((Below.refl _ _).alloc (Nat.le_refl _) _)) hK0 hK).mono ?_
  rintro e w1 ⟨rfl, hI, hH⟩
  have HI := Lib.hid (HA0.out.trans hI)
  have HH := Lib.hid hH
  clear hI hH
  go_wp2_with fail
  go_ret
  exact ⟨rfl, HI.out, HH.out⟩
/-- The nodes of a right tree. -/
theorem nc_of : ∀ (d : Nat) (x : Ex), shpX d x = true → Nc x (ndX d x - 1) := by
  intro d
  induction d with
  | zero => intro x h; cases h
  | succ d ih =>
    intro x h
    obtain ⟨_, hk⟩ := shpX_iff.1 h
    cases x with
    | node k n m s ks =>
      have hk' : ∀ i, i < ks.length → shpX d (ks.getD i Ex.dummy) = true := hk
      have h1 : ∀ i, i < ks.length → Nc (ks.getD i Ex.dummy) (ndX d (ks.getD i Ex.dummy) - 1) := fun i hi => ih _ (hk' i hi)
      have h2 := Nc.node k n m s ks (fun i => ndX d (ks.getD i Ex.dummy) - 1) h1
      have pos : ∀ i, i < ks.length → 1 ≤ ndX d (ks.getD i Ex.dummy) := by
        intro i _
        cases d with
        | zero => exact Nat.le_refl _
        | succ d => cases hxx : ks.getD i Ex.dummy; rw [nd_sum]; omega
      have e : ∀ j, j ≤ ks.length → j + ((List.range j).map fun i => ndX d (ks.getD i Ex.dummy) - 1).sum = ((List.range j).map fun i => ndX d (ks.getD i Ex.dummy)).sum := by
        intro j
        induction j with
        | zero => intro _; rfl
        | succ j ihj =>
          intro hj
          have a1 := ihj (by omega)
          have a2 := pos j (by omega)
          rw [List.range_succ, List.map_append, List.map_append, List.sum_append, List.sum_append]
          simp only [List.map_cons, List.map_nil, List.sum_cons, List.sum_nil]
          omega
      have e2 : ndX (d + 1) (.node k n m s ks) - 1 = ks.length + ((List.range ks.length).map fun i => ndX d (ks.getD i Ex.dummy) - 1).sum := by
        rw [e _ (Nat.le_refl _)]
        exact Nat.add_sub_cancel_left 1 _
      rw [e2]
      exact h2

theorem emp_small {s : ByteArray} (h : s.toList.isEmpty = true) : s.size ≤ 1 := by
  have h1 := List.isEmpty_iff.1 h
  have h2 : s.data.toList = [] := by first | (rw [← Lib.toList_data]; exact h1) | (rw [Lib.toList_data] at h1; exact h1)
  have h3 : s.data.toList.length = s.size := by simp
  rw [h2] at h3
  simp at h3
  omega
theorem one_small {lo hi : Int} {s : ByteArray} (h : oneB lo hi s = true) : s.size ≤ 1 := by
  by_cases e : s.size = 1
  · omega
  · rw [oneB_no e] at h; cases h
theorem name_small {b : Bool} {s : ByteArray} (h : nameOk b s = true) : s.size ≤ 1 := by
  unfold nameOk at h
  split at h
  · exact one_small h
  · exact emp_small h
theorem fields_small {k n : Int} {m s : ByteArray} {l : Nat} (h : fieldsX k n m s l = true) : m.size ≤ 1 ∧ s.size ≤ 1 := by
  have hb : ∀ (bx : Bool) (c : Nat), fitB bx c n m s l = true → m.size ≤ 1 ∧ s.size ≤ 1 := by
    intro bx c h
    unfold fitB at h
    simp only [Bool.and_eq_true] at h
    exact ⟨emp_small h.2.1, name_small h.2.2.1⟩
  unfold fieldsX at h
  repeat' split at h
  all_goals first
    | exact hb _ _ h
    | (unfold fit1 at h; simp only [Bool.and_eq_true] at h; exact ⟨emp_small h.2.1, emp_small h.2.2.1⟩)
    | (unfold fit2 at h; simp only [Bool.and_eq_true, Bool.or_eq_true] at h; exact ⟨h.2.1.elim emp_small one_small, one_small h.2.2.1⟩)
    | cases h
theorem cnt_of : ∀ (d : Nat) (x : Ex), shpX d x = true → ∃ c, Cnt x c ∧ c + 1 ≤ 3 * ndX d x := by
  intro d
  induction d with
  | zero => intro x h; cases h
  | succ d ih =>
    intro x h
    obtain ⟨hf, hk⟩ := shpX_iff.1 h
    cases x with
    | node k n m s ks =>
      have hk' : ∀ i, i < ks.length → shpX d (ks.getD i Ex.dummy) = true := hk
      obtain ⟨hm, hs⟩ := fields_small hf
      have hm' : m.size ≤ 1 := hm
      have hs' : s.size ≤ 1 := hs
      have ex : ∀ i, ∃ c, i < ks.length → Cnt (ks.getD i Ex.dummy) c ∧ c + 1 ≤ 3 * ndX d (ks.getD i Ex.dummy) := by
        intro i
        by_cases hi : i < ks.length
        · obtain ⟨c, h1⟩ := ih _ (hk' i hi); exact ⟨c, fun _ => h1⟩
        · exact ⟨0, fun h => absurd h hi⟩
      obtain ⟨cf, hcf⟩ := Classical.axiomOfChoice ex
      refine ⟨_, .node k n m s ks cf (by unfold maxLen; omega) (by unfold maxLen; omega) (fun i hi => (hcf i hi).1), ?_⟩
      have e : ∀ j, j ≤ ks.length → j + ((List.range j).map cf).sum ≤ 3 * ((List.range j).map fun i => ndX d (ks.getD i Ex.dummy)).sum := by
        intro j
        induction j with
        | zero => intro _; simp
        | succ j ihj =>
          intro hj
          have a1 := ihj (by omega)
          have a2 := (hcf j (by omega)).2
          rw [List.range_succ, List.map_append, List.map_append, List.sum_append, List.sum_append]
          simp only [List.map_cons, List.map_nil, List.sum_cons, List.sum_nil]
          omega
      have e1 := e _ (Nat.le_refl _)
      have e2 : ndX (d + 1) (.node k n m s ks) = 1 + ((List.range ks.length).map fun i => ndX d (ks.getD i Ex.dummy)).sum := rfl
      rw [e2]
      omega
/-- What ParseExpr answers, in one form: a tree and whether it is one. -/
def zX : Ex := .node 0 0 e0 e0 []
def optX : Option Ex → Ex
  | some x => x
  | none => zX
theorem zX_nc : Nc zX 0 := .node 0 0 e0 e0 [] (fun _ => 0) (fun i hi => absurd hi (Nat.not_lt_zero _))
theorem zX_cnt : Cnt zX 0 := .node 0 0 e0 e0 [] (fun _ => 0) (by decide) (by decide) (fun i hi => absurd hi (Nat.not_lt_zero _))
theorem pxE_some {s : ByteArray} {x : Ex} (h : pxE s = some x) : okX 12 x = true := by
  unfold pxE at h
  split at h
  · split at h
    · next h2 => injection h with h; subst h; exact h2.2
    · cases h
  · cases h
theorem pxE_facts (s : ByteArray) : (∃ c, Nc (optX (pxE s)) c ∧ c ≤ 60) ∧ ∃ c, Cnt (optX (pxE s)) c ∧ c ≤ 1000 := by
  cases h : pxE s with
  | none => exact ⟨⟨0, zX_nc, by omega⟩, 0, zX_cnt, by omega⟩
  | some x =>
    obtain ⟨h1, h2⟩ := okX_iff.1 (pxE_some h)
    obtain ⟨c, h3, h4⟩ := cnt_of 12 x h1
    exact ⟨⟨_, nc_of 12 x h1, by omega⟩, c, h3, by omega⟩
theorem PeRet.flat {r : Option Ex} {w : World} {e : Ending} {w' : World} (h : PeRet w e w' r) : ∃ v, e = .returned (.tuple #[.agg #[.int .i64 (optX r).k, .int .i64 (optX r).n, .string (optX r).m, .string (optX r).s, v], .bool r.isSome]) ∧ ExIn w' w.heap.size w'.heap.size (optX r) v ∧ Below w.heap.size w w' := by
  cases r with
  | some x =>
    obtain ⟨v, rfl, hx, hb⟩ := h
    exact ⟨v, rfl, hx, hb⟩
  | none =>
    obtain ⟨rfl, hb⟩ := h
    exact ⟨.slice none 0 0, rfl, .bare _ _ _ _ _ _ _ _, hb⟩

end Go.Proofs.Ytpaefcdchaemfaa.Ox

