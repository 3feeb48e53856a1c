/-
  The exact laws' comparison of names with types, and the marks on them.
-/
import Derived.Test.YtjciindcdcgclaaKb
import Derived.Test.YtjciindcdcgclaaZo
import Derived.Test.YtjciindcdcgclaaRa
namespace Go.Proofs.Ytjciindcdcgclaa
open Go.RowKit
set_option linter.unusedVariables false
set_option linter.unusedSimpArgs false

set_option maxRecDepth 100000 in
set_option maxHeartbeats 4000000 in
theorem eqKnown_any (l : Kn) (ct : Nat) (vt ut : Value) (w : World) (hct : Cnt l.t ct) (hc1 : ct ≤ 1048576) (hx : TyAt w l.t vt) (hy : TyAt w l.t ut) :
    Calls Try.prog 62 #[.agg #[.string l.s, .int .i64 l.t.k, .int .i64 l.t.n, vt], .agg #[.string l.s, .int .i64 l.t.k, .int .i64 l.t.n, ut]] w (EqPost w) := by
  have HX := Lib.hid hx
  have HY := Lib.hid hy
  have HCT := Lib.hid hct
  clear hct
  obtain ⟨ta, tc, rfl, _⟩ := hx.slice
  obtain ⟨tb, td, rfl, _⟩ := hy.slice
  clear hx hy
  obtain ⟨W1, hW1⟩ : ∃ W, (w.alloc (.cells #[.string l.s, .int .i64 l.t.k, .int .i64 l.t.n, .slice ta l.t.ks.length tc] 34)).alloc (.cells #[.string l.s, .int .i64 l.t.k, .int .i64 l.t.n, .slice tb l.t.ks.length td] 34) = W := ⟨_, rfl⟩
  have HBA : Hid (Below w.heap.size w W1) := Lib.hid (by rw [← hW1]; exact ((Below.refl _ _).alloc (Nat.le_refl _) _).alloc (by simp) _)
  have HX0 : Hid (KBox W1 w.heap.size (.string l.s) (.int .i64 l.t.k) (.int .i64 l.t.n) (.slice ta l.t.ks.length tc)) := Lib.hid (by rw [← hW1]; exact (kbox_new w _ _ _ _ _).kept ((Below.refl _ _).alloc (Nat.le_refl _) _))
  have HY0 : Hid (KBox W1 (w.heap.size + 1) (.string l.s) (.int .i64 l.t.k) (.int .i64 l.t.n) (.slice tb l.t.ks.length td)) := Lib.hid (by
    have h := kbox_new (w.alloc (.cells #[.string l.s, .int .i64 l.t.k, .int .i64 l.t.n, .slice ta l.t.ks.length tc] 34)) (.string l.s) (.int .i64 l.t.k) (.int .i64 l.t.n) (.slice tb l.t.ks.length td) 34
    rw [hW1, sizeK2] at h; exact h)
  have HW1 := Lib.hid hW1
  clear hW1
  go_enter Try.func62, Try.ntmps62
  go_wp2_with fail
  rw [HW1.out]
  obtain ⟨p0, p1, p2, p3, pz⟩ := HX0.out
  obtain ⟨q0, q1, q2, q3, qz⟩ := HY0.out
  go_wp2_with fail
  go_at_call 27
  refine (eqType_any _ l.t ct _ _ _ (Nat.lt_succ_self _) HCT.out hc1 (HX.out.kept HBA.out) (HY.out.kept HBA.out)).mono ?_
  rintro e w2 ⟨rfl, hb2⟩
  have HB2 := Lib.hid (HBA.out.trans (hb2.mono HBA.out.size))
  clear hb2 p0 p1 p2 p3 pz q0 q1 q2 q3 qz
  go_wp2_with fail
  go_ret
  exact ⟨rfl, HB2.out⟩

set_option maxRecDepth 100000 in
set_option maxHeartbeats 4000000 in
theorem eqKnownS_any (ls : List Kn) (cf : Nat → Nat) (v1 v2 : Value) (w : World) (hcf : KnCnt ls cf) (hcm : ls.length + ((List.range ls.length).map cf).sum ≤ 1048576) (h1 : KnAt w ls v1) (h2 : KnAt w ls v2) :
    Calls Try.prog 28 #[v1, v2] w (EqPost w) := by
  have H1 := Lib.hid h1
  have H2 := Lib.hid h2
  have HH : Hid (∀ i, i < ls.length → ∀ (vi vj : Value) (W : World), TyAt W (ls.getD i Kn.dummy).t vi → TyAt W (ls.getD i Kn.dummy).t vj →
      Calls Try.prog 62 #[.agg #[.string (ls.getD i Kn.dummy).s, .int .i64 (ls.getD i Kn.dummy).t.k, .int .i64 (ls.getD i Kn.dummy).t.n, vi], .agg #[.string (ls.getD i Kn.dummy).s, .int .i64 (ls.getD i Kn.dummy).t.k, .int .i64 (ls.getD i Kn.dummy).t.n, vj]] W (EqPost W)) := Lib.hid (fun i hi vi vj W g1 g2 => by
    obtain ⟨ct, c1, c2⟩ := hcf.ty hcm hi
    exact eqKnown_any _ ct vi vj W c1 c2 g1 g2)
  obtain ⟨a1, c1, rfl, hl1⟩ := h1.slice
  obtain ⟨a2, c2, rfl, hl2⟩ := h2.slice
  obtain ⟨L, hL⟩ : ∃ L, ls.length = L := ⟨_, rfl⟩
  have HL := Lib.hid hL
  have hsz : L ≤ 1048576 := by omega
  rw [hL]
  clear h1 h2 hl1 hl2 hL hcf hcm
  go_enter Try.func28, Try.ntmps28
  go_wp2_with fail
  go_loopw [5] (fun i wr => ∃ j : Nat, j ≤ L ∧ i = .int .i64 j ∧ Below w.heap.size w wr) (fun i _ => L - (intOf i).toNat)
  case atStart => exact ⟨0, Nat.zero_le _, rfl, Below.refl _ _⟩
  case round =>
    obtain ⟨j, hj, rfl, hB⟩ := hrel
    have HB := Lib.hid hB
    by_cases hlt : j < L
    · have hji : (j : Int) < (L : Int) := by omega
      obtain ⟨bx, ox, capx, vi, ex, bxl, ⟨x0, x1, x2, x3⟩, hxk⟩ := (H1.out.kept hB).kid j (by rw [HL.out]; exact hlt)
      obtain ⟨b2, o2, cap2, vj, ey, b2l, ⟨y0, y1, y2, y3⟩, hyk⟩ := (H2.out.kept hB).kid j (by rw [HL.out]; exact hlt)
      have ex1 : a1 = some ⟨bx, ox, none⟩ := by injection ex
      have ey1 : a2 = some ⟨b2, o2, none⟩ := by injection ey
      subst ex1
      subst ey1
      obtain ⟨xk, hxe⟩ : ∃ x, ls.getD j Kn.dummy = x := ⟨_, rfl⟩
      have HIH := Lib.hid (HH.out j (by rw [HL.out]; exact hlt))
      rw [hxe] at x0 x1 x2 hxk y0 y1 y2 hyk HIH
      have HXK := Lib.hid hxk
      have HYK := Lib.hid hyk
      clear ex ey hB hxe hxk hyk
      go_wp2_with fail
      go_region_held3 (fun w' => w'.cell? ⟨bx, ox + j * 4, none⟩ = some (.string xk.s) ∧ w'.cell? ⟨bx, ox + j * 4 + 1, none⟩ = some (.int .i64 xk.t.k) ∧ w'.cell? ⟨bx, ox + j * 4 + 2, none⟩ = some (.int .i64 xk.t.n) ∧ w'.cell? ⟨bx, ox + j * 4 + 3, none⟩ = some (vi) ∧ w'.cell? ⟨b2, o2 + j * 4, none⟩ = some (.string xk.s) ∧ w'.cell? ⟨b2, o2 + j * 4 + 1, none⟩ = some (.int .i64 xk.t.k) ∧ w'.cell? ⟨b2, o2 + j * 4 + 2, none⟩ = some (.int .i64 xk.t.n) ∧ w'.cell? ⟨b2, o2 + j * 4 + 3, none⟩ = some (vj)) (go_keep)
        (first | (go_at_call 62; refine (HIH.out _ _ _ (HXK.out.kept (Below.refl _ _).drew) (HYK.out.kept (Below.refl _ _).drew)).mono ?_; rintro e w5 ⟨rfl, hb5⟩; have HB5 := Lib.hid (HB.out.drew.trans (hb5.mono HB.out.size)); have z0 := (hb5.cell (p := ⟨bx, ox + j * 4, none⟩) bxl).trans x0; have z1 := (hb5.cell (p := ⟨bx, ox + j * 4 + 1, none⟩) bxl).trans x1; have z2 := (hb5.cell (p := ⟨bx, ox + j * 4 + 2, none⟩) bxl).trans x2; have z3 := (hb5.cell (p := ⟨bx, ox + j * 4 + 3, none⟩) bxl).trans x3; have z4 := (hb5.cell (p := ⟨b2, o2 + j * 4, none⟩) b2l).trans y0; have z5 := (hb5.cell (p := ⟨b2, o2 + j * 4 + 1, none⟩) b2l).trans y1; have z6 := (hb5.cell (p := ⟨b2, o2 + j * 4 + 2, none⟩) b2l).trans y2; have z7 := (hb5.cell (p := ⟨b2, o2 + j * 4 + 3, none⟩) b2l).trans y3; clear hb5))
      all_goals
        go_wp2_with fail
      all_goals exact ⟨⟨j + 1, by omega, by go_num, HB5.out⟩, by simp [intOf]; omega⟩
    · have hji : ¬ (j : Int) < (L : Int) := by omega
      clear hB hlt
      go_wp2_with fail
      go_ret
      exact ⟨rfl, HB.out⟩

theorem KnIn.parts {w : World} {lo hi : Nat} {t : List Kn} {v : Value} (h : KnIn w lo hi t v) (h0 : 0 < t.length) :
    ∃ (b cap : Nat) (vs : Nat → Value) (l g : Nat → Nat), v = .slice (some ⟨b, 0, none⟩) t.length cap ∧ lo ≤ b ∧ b < hi ∧ b < w.heap.size ∧
      (∀ i, i < t.length → KFd w b (i * 4) (t.getD i Kn.dummy) (vs i)) ∧ (∀ i, i < t.length * 4 → w.frozen? ⟨b, i, none⟩ = false) ∧
      (∀ i, i < t.length → lo ≤ l i ∧ g i ≤ hi ∧ (b < l i ∨ g i ≤ b)) ∧ (∀ i j, i < j → j < t.length → g i ≤ l j) ∧ (∀ i, i < t.length → TyIn w (l i) (g i) (t.getD i Kn.dummy).t (vs i)) := by
  cases h with
  | bare a cap => exact absurd h0 (Nat.lt_irrefl _)
  | row ls b cap vs l h hb1 hb2 hw hl g0 hf hin hd h3 => exact ⟨b, cap, vs, l, h, rfl, hb1, hb2, hw.lt, g0, hf, hin, hd, h3⟩
/-- Only the first three cells of the j-th place of block b may have changed. -/
structure KAsd (b j : Nat) (w w' : World) : Prop where
  os : w'.os = w.os
  tape : w'.tape = w.tape
  output : w'.output = w.output
  size : w.heap.size ≤ w'.heap.size
  blk : ∀ x, x ≠ b → x < w.heap.size → w'.heap[x]? = w.heap[x]?
  cel : ∀ q, (q < j * 4 ∨ j * 4 + 3 ≤ q) → w'.cell? ⟨b, q, none⟩ = w.cell? ⟨b, q, none⟩
  fz : ∀ q, w'.frozen? ⟨b, q, none⟩ = w.frozen? ⟨b, q, none⟩
theorem KAsd.refl (b j : Nat) (w : World) : KAsd b j w w := ⟨rfl, rfl, rfl, Nat.le_refl _, fun _ _ _ => rfl, fun _ _ => rfl, fun _ => rfl⟩
theorem KAsd.set {b j : Nat} {w W : World} (h : KAsd b j w W) (q : Nat) (u : Value) (h1 : j * 4 ≤ q) (h2 : q < j * 4 + 3) : KAsd b j w (W.setCell ⟨b, q, none⟩ u) := by
  refine ⟨h.os, h.tape, h.output, by simpa using h.size, fun x hx hl => (heap_setCell_other W ⟨b, q, none⟩ x u hx).trans (h.blk x hx hl), fun p hp => ?_, fun p => ?_⟩
  · rw [World.cell?_setCell_other _ _ _ _ (fun e => by injection e with _ e2 _; omega)]; exact h.cel p hp
  · rw [World.frozen?_setCell]; exact h.fz p
theorem KAsd.below {b j : Nat} {w W W' : World} (h : KAsd b j w W) (hb : b < w.heap.size) (hB : Below W.heap.size W W') : KAsd b j w W' := by
  have hs := h.size
  refine ⟨hB.os.trans h.os, hB.tape.trans h.tape, hB.output.trans h.output, Nat.le_trans hs hB.size, fun x hx hl => (hB.block x (by omega)).trans (h.blk x hx hl), fun p hp => ?_, fun p => ?_⟩
  · exact (cellEq (hB.block b (by omega))).trans (h.cel p hp)
  · exact (frozenEq (hB.block b (by omega))).trans (h.fz p)
theorem KAsd.inside {b j lo hi : Nat} {w W : World} (h : KAsd b j w W) (h1 : lo ≤ b) (h2 : b < hi) : Inside lo hi w W :=
  ⟨h.os, h.tape, h.output, h.size, fun x hx ho => h.blk x (by omega) hx⟩
/-- What is left to mark. -/
structure RemK (t : List Kn) (b j : Nat) (vs : Nat → Value) (l g : Nat → Nat) (w : World) : Prop where
  bs : b < w.heap.size
  cs : ∀ i, j ≤ i → i < t.length → KFd w b (i * 4) (t.getD i Kn.dummy) (vs i)
  fz : ∀ i, i < t.length * 4 → w.frozen? ⟨b, i, none⟩ = false
  ty : ∀ i, j ≤ i → i < t.length → TyIn w (l i) (g i) (t.getD i Kn.dummy).t (vs i)
theorem RemK.step {t : List Kn} {b j : Nat} {vs : Nat → Value} {l g : Nat → Nat} {w W w2 : World} (r : RemK t b j vs l g w) (hj : j < t.length) (hin : ∀ i, i < t.length → b < l i ∨ g i ≤ b) (hd : ∀ i j, i < j → j < t.length → g i ≤ l j)
    (hA : KAsd b j w W) (hI : Inside (l j) (g j) W w2) : RemK t b (j + 1) vs l g w2 := by
  have hbW : b < W.heap.size := Nat.lt_of_lt_of_le r.bs hA.size
  have hb2 := hI.block b hbW (by rcases hin j hj with h | h <;> omega)
  have hs2 := hI.size
  have hsA := hA.size
  have hk : ∀ x, x ≠ b → x < w.heap.size → (x < l j ∨ g j ≤ x) → w2.heap[x]? = w.heap[x]? := fun x h1 h2 h3 => (hI.block x (by omega) h3).trans (hA.blk x h1 h2)
  have hc : ∀ q, j * 4 + 3 ≤ q → w2.cell? ⟨b, q, none⟩ = w.cell? ⟨b, q, none⟩ := fun q h => (cellEq hb2).trans (hA.cel q (.inr h))
  refine ⟨Nat.lt_of_lt_of_le hbW hs2, fun i h1 h2 => ?_, fun i h1 => ?_, fun i h1 h2 => ?_⟩
  · have f := r.cs i (by omega) h2
    exact ⟨(hc _ (by omega)).trans f.c0, (hc _ (by omega)).trans f.c1, (hc _ (by omega)).trans f.c2, (hc _ (by omega)).trans f.c3⟩
  · rw [frozenEq hb2, hA.fz]; exact r.fz i h1
  · refine (r.ty i (by omega) h2).keep (by omega) (fun x g1 g2 g3 => hk x ?_ g3 ?_)
    · rcases hin i h2 with h | h <;> omega
    · exact .inr (Nat.le_trans (hd j i (by omega) h2) g1)
theorem KAsd.kid {t : Ty} {b j lo hi : Nat} {v : Value} {w W : World} (hA : KAsd b j w W) (h : TyIn w lo hi t v) (hb : b < lo ∨ hi ≤ b) : TyIn W lo hi t v :=
  h.keep hA.size (fun x h1 h2 h3 => hA.blk x (by omega) h3)
def MkKPost (K : Nat) (lo hi : Nat) (w : World) (e : Ending) (w' : World) : Prop := ∃ q : Nat, e = .returned (.int .i64 (q : Int)) ∧ K ≤ q ∧ q ≤ 9000000 ∧ Inside lo hi w w'

set_option maxRecDepth 100000 in
set_option maxHeartbeats 8000000 in
theorem markKnownS_any (t : List Kn) (cg : Nat → Nat) (v : Value) (lo hi : Nat) (K : Nat) (w : World) (hcg : KnCnt t cg) (hcm : t.length + ((List.range t.length).map cg).sum ≤ 1048576) (hx : KnIn w lo hi t v) (hK0 : 0 < K) (hK : K ≤ 1000) :
    Calls Try.prog 29 #[v, .int .i64 K] w (MkKPost K lo hi w) := by
  obtain ⟨cf, hcf⟩ : ∃ cf : Nat → Nat, ∀ i, i < t.length → Cnt (t.getD i Kn.dummy).t (cf i) ∧ cf i ≤ cg i := Go.Deep.choose_lt (p := fun i c => Cnt (t.getD i Kn.dummy).t c ∧ c ≤ cg i) (fun i hi => by
    obtain ⟨_, ct, h1, h2⟩ := hcg i hi
    exact ⟨ct, h1, by omega⟩)
  have hsum : ∀ j, j ≤ t.length → ((List.range j).map cf).sum ≤ ((List.range j).map cg).sum := by
    intro j
    induction j with
    | zero => intro _; simp
    | succ j ih => intro h; rw [sum_succ, sum_succ]; have h1 := ih (by omega); have h2 := (hcf j (by omega)).2; omega
  obtain ⟨c, hce⟩ : ∃ c, t.length + ((List.range t.length).map cf).sum = c := ⟨_, rfl⟩
  have hc1 : c ≤ 1048576 := by have := hsum _ (Nat.le_refl _); omega
  have hcs : ∀ i, i < t.length → Cnt (t.getD i Kn.dummy).t (cf i) := fun i hi => (hcf i hi).1
  clear hcg hcm hsum hcf
  by_cases h0 : t.length = 0
  · obtain ⟨a, cap, rfl, _⟩ := hx.at.slice
    rw [h0]
    clear hce hcs hx hc1 h0
    go_enter Try.func29, Try.ntmps29
    go_wp2_with fail
    go_loopw [1, 5] (fun kv i wr => i = .int .i64 0 ∧ kv = .int .i64 K ∧ wr = w) (fun _ _ _ => 0)
    case atStart => exact ⟨rfl, rfl, rfl⟩
    case round =>
      obtain ⟨rfl, rfl, rfl⟩ := hrel
      go_wp2_with fail
      go_ret
      exact ⟨K, rfl, Nat.le_refl _, by omega, Inside.refl _ _ _⟩
  · obtain ⟨b, cap, vs, l, g, rfl, hb1, hb2h, hb3, g0, hf, hin, hd, h3⟩ := hx.parts (by omega)
    have HR : Hid (RemK t b 0 vs l g w) := Lib.hid ⟨hb3, fun i _ h => g0 i h, hf, fun i _ h => h3 i h⟩
    have HIN := Lib.hid hin
    have HD := Lib.hid hd
    have HCS := Lib.hid hcs
    obtain ⟨L, hL⟩ : ∃ L, t.length = L := ⟨_, rfl⟩
    have HL := Lib.hid hL
    rw [hL]
    rw [hL] at hce
    have hLc : L ≤ c := by omega
    have hmono : ∀ j, j ≤ L → ((List.range j).map cf).sum ≤ ((List.range L).map cf).sum := fun j h => sum_mono cf h
    have HMONO := Lib.hid hmono
    have HCE2 := Lib.hid hce
    clear hcs hx g0 hf hin hd h3 hL hce hmono
    go_enter Try.func29, Try.ntmps29
    go_wp2_with fail
    go_loopw [1, 5] (fun kv i wr => ∃ (j q : Nat), j ≤ L ∧ i = .int .i64 j ∧ kv = .int .i64 q ∧ K ≤ q ∧ q ≤ 9000000 ∧ Hid (q = K + 3 * j + 2 * ((List.range j).map cf).sum) ∧ Hid (RemK t b j vs l g wr) ∧ Inside lo hi w wr) (fun _ i _ => L - (intOf i).toNat)
    case atStart => exact ⟨0, K, Nat.zero_le _, rfl, rfl, Nat.le_refl _, by omega, Lib.hid (by simp), HR, Inside.refl _ _ _⟩
    case round =>
      obtain ⟨j, q, hj, rfl, rfl, hKq, hq, hqe, hrem, hI⟩ := hrel
      have HI := Lib.hid hI
      by_cases hlt : j < L
      · have hji : (j : Int) < (L : Int) := by omega
        have hjt : j < t.length := by rw [HL.out]; exact hlt
        have HJT := Lib.hid hjt
        obtain ⟨y0, y1, y2, y3⟩ := hrem.out.cs j (Nat.le_refl _) hjt
        have z0 := hrem.out.fz (j * 4) (by omega)
        have z1 := hrem.out.fz (j * 4 + 1) (by omega)
        have z2 := hrem.out.fz (j * 4 + 2) (by omega)
        have hkid := hrem.out.ty j (Nat.le_refl _) hjt
        obtain ⟨ai, ci, hvs, _⟩ := hkid.at.slice
        rw [hvs] at y3
        have hqn : q + 3 + 2 * cf j = K + 3 * (j + 1) + 2 * ((List.range (j + 1)).map cf).sum := by rw [sum_succ, hqe.out]; omega
        have hqb : q + 3 + 2 * cf j ≤ 9000000 := by
          have h1 := HMONO.out (j + 1) (by omega)
          have h2 := HCE2.out
          omega
        have HKID := Lib.hid hkid
        rw [hvs] at HKID
        have HCALL := Lib.hid (fun (W : World) (hW : TyIn W (l j) (g j) (t.getD j Kn.dummy).t (.slice ai (t.getD j Kn.dummy).t.ks.length ci)) => markTypeS_any _ (t.getD j Kn.dummy).t (cf j) _ (l j) (g j) (q + 3) W (Nat.lt_succ_self _) (HCS.out j hjt) hW (by omega))
        obtain ⟨x, hxx⟩ : ∃ x, t.getD j Kn.dummy = x := ⟨_, rfl⟩
        rw [hxx] at y0 y1 y2 y3 HKID HCALL
        have HQN := Lib.hid hqn
        have Y1 := Lib.hid y1
        have Y2 := Lib.hid y2
        have Y3 := Lib.hid y3
        have hb2' := hb2h
        have hbs := hrem.out.bs
        clear hkid hvs hxx hqn hqe hjt hI y1 y2 y3
        go_wp2_with fail
        go_at_call 58
        refine (markText_any q (by omega) (by omega) _).mono ?_
        rintro e w2 ⟨rfl, hb2⟩
        have HA2 := Lib.hid ((KAsd.refl b j wr).below hbs hb2)
        have hbs2 : b < w2.heap.size := Nat.lt_of_lt_of_le hbs hb2.size
        have u0 : w2.cell? ⟨b, j * 4, none⟩ = some (.string x.s) := (hb2.cell (p := ⟨b, j * 4, none⟩) hbs).trans y0
        have u1 : w2.cell? ⟨b, j * 4 + 1, none⟩ = some (.int .i64 x.t.k) := (hb2.cell (p := ⟨b, j * 4 + 1, none⟩) hbs).trans Y1.out
        have u2 : w2.cell? ⟨b, j * 4 + 2, none⟩ = some (.int .i64 x.t.n) := (hb2.cell (p := ⟨b, j * 4 + 2, none⟩) hbs).trans Y2.out
        have u3 : w2.cell? ⟨b, j * 4 + 3, none⟩ = some (.slice ai x.t.ks.length ci) := (hb2.cell (p := ⟨b, j * 4 + 3, none⟩) hbs).trans Y3.out
        replace z0 := (hb2.frozen (p := ⟨b, j * 4, none⟩) hbs).trans z0
        replace z1 := (hb2.frozen (p := ⟨b, j * 4 + 1, none⟩) hbs).trans z1
        replace z2 := (hb2.frozen (p := ⟨b, j * 4 + 2, none⟩) hbs).trans z2
        obtain ⟨T2, hT2⟩ : ∃ T, mkT q = T := ⟨_, rfl⟩
        rw [hT2]
        clear hb2 hT2 y0
        go_wp2_with fail
        rw [show ((q : Int) + 1 + 1 + 1) = ((q + 3 : Nat) : Int) by push_cast; omega]
        go_at_call 63
        have HA4 := Lib.hid (((HA2.out.set (j * 4) (.string T2) (by omega) (by omega)).set (j * 4 + 1) (.int .i64 ((q : Int) + 1)) (by omega) (by omega)).set (j * 4 + 2) (.int .i64 ((q : Int) + 1 + 1)) (by omega) (by omega))
        refine (HCALL.out _ (HA4.out.kid HKID.out (by have := (HIN.out j HJT.out).2.2; omega))).mono ?_
        rintro e w4 ⟨rfl, hI4⟩
        have HREM := Lib.hid (hrem.out.step HJT.out (fun i hi => (HIN.out i hi).2.2) HD.out HA4.out hI4)
        have HI5 := Lib.hid (HI.out.trans ((HA4.out.inside hb1 hb2').trans (hI4.wide (HIN.out j HJT.out).1 (HIN.out j HJT.out).2.1)))
        have hKq' : K ≤ q + 3 + 2 * cf j := by omega
        clear hI4
        go_wp2_with fail
        exact ⟨⟨j + 1, _, by omega, by go_num, rfl, hKq', hqb, HQN, HREM, HI5.out⟩, by simp [intOf]; omega⟩
      · have hji : ¬ (j : Int) < (L : Int) := by omega
        have hjl : j = L := by omega
        clear hlt hjl hI
        go_wp2_with fail
        go_ret
        exact ⟨q, rfl, hKq, hq, HI.out⟩

end Go.Proofs.Ytjciindcdcgclaa
