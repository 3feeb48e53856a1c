/-
  The exact laws' marks in a type that lies in blocks of its own, and that they are held.
-/
import Derived.Test.YtjciindcdcgclaaZo
namespace Go.Proofs.Ytjciindcdcgclaa
open Go.RowKit

/-- A type's rows hold the marks from K on; c nodes lie below the root. -/
inductive HeldIn (w : World) : Nat → Nat → Nat → Ty → Nat → Value → Prop where
  | bare (lo hi K : Nat) (k n : Int) (a : Option Addr) (cap : Nat) : HeldIn w lo hi K (.node k n []) 0 (.slice a 0 cap)
  | row (lo hi K : Nat) (k n : Int) (ks : List Ty) (cf : Nat → Nat) (b cap : Nat) (vs : Nat → Value) (l g : Nat → Nat) (hb1 : lo ≤ b) (hb2 : b < hi) (hw : b < w.heap.size)
      (h0 : ∀ i, i < ks.length → w.cell? ⟨b, i * 3, none⟩ = some (.int .i64 ((K + 2 * (i + ((List.range i).map cf).sum) : Nat) : Int)))
      (h1 : ∀ i, i < ks.length → w.cell? ⟨b, i * 3 + 1, none⟩ = some (.int .i64 ((K + 2 * (i + ((List.range i).map cf).sum) + 1 : Nat) : Int)))
      (h2 : ∀ i, i < ks.length → w.cell? ⟨b, i * 3 + 2, none⟩ = some (vs i))
      (hin : ∀ i, i < ks.length → lo ≤ l i ∧ g i ≤ hi)
      (h3 : ∀ i, i < ks.length → HeldIn w (l i) (g i) (K + 2 * (i + ((List.range i).map cf).sum) + 2) (ks.getD i Ty.dummy) (cf i) (vs i)) :
      HeldIn w lo hi K (.node k n ks) (ks.length + ((List.range ks.length).map cf).sum) (.slice (some ⟨b, 0, none⟩) ks.length cap)
theorem HeldIn.empty {w : World} {lo hi K : Nat} {t : Ty} {a : Option Addr} {cap : Nat} (h : t.ks.length = 0) : HeldIn w lo hi K t 0 (.slice a 0 cap) := by
  cases t with
  | node k n ks =>
    have : ks = [] := List.eq_nil_of_length_eq_zero h
    subst this
    exact .bare lo hi K k n a cap
theorem HeldIn.keep {w w' : World} {lo hi K c : Nat} {t : Ty} {v : Value} (h : HeldIn w lo hi K t c v) (hs : w.heap.size ≤ w'.heap.size) (hk : ∀ b, lo ≤ b → b < hi → b < w.heap.size → w'.heap[b]? = w.heap[b]?) : HeldIn w' lo hi K t c v := by
  induction h with
  | bare lo hi K k n a cap => exact .bare lo hi K k n a cap
  | row lo hi K k n ks cf b cap vs l g hb1 hb2 hw h0 h1 h2 hin _ ih =>
    have e := hk b hb1 hb2 hw
    refine .row lo hi K k n ks cf b cap vs l g hb1 hb2 (by omega) (fun i hi => (cellEq e).trans (h0 i hi)) (fun i hi => (cellEq e).trans (h1 i hi)) (fun i hi => (cellEq e).trans (h2 i hi)) hin ?_
    intro i hi
    obtain ⟨a1, a2⟩ := hin i hi
    exact ih i hi (fun b h1 h2 h3 => hk b (by omega) (by omega) h3)
theorem HeldIn.kept {w w' : World} {lo hi K c : Nat} {t : Ty} {v : Value} (h : HeldIn w lo hi K t c v) (hb : Below w.heap.size w w') : HeldIn w' lo hi K t c v :=
  h.keep hb.size (fun b _ _ h3 => hb.block b h3)
/-- What has been marked. -/
structure Dn (t : Ty) (b j K : Nat) (cf : Nat → Nat) (vs : Nat → Value) (l g : Nat → Nat) (w : World) : Prop where
  c0 : ∀ i, i < j → w.cell? ⟨b, i * 3, none⟩ = some (.int .i64 ((K + 2 * (i + ((List.range i).map cf).sum) : Nat) : Int))
  c1 : ∀ i, i < j → w.cell? ⟨b, i * 3 + 1, none⟩ = some (.int .i64 ((K + 2 * (i + ((List.range i).map cf).sum) + 1 : Nat) : Int))
  c2 : ∀ i, i < j → w.cell? ⟨b, i * 3 + 2, none⟩ = some (vs i)
  ty : ∀ i, i < j → HeldIn w (l i) (g i) (K + 2 * (i + ((List.range i).map cf).sum) + 2) (t.ks.getD i Ty.dummy) (cf i) (vs i)
theorem Dn.zero {t : Ty} {b K : Nat} {cf : Nat → Nat} {vs : Nat → Value} {l g : Nat → Nat} {w : World} : Dn t b 0 K cf vs l g w :=
  ⟨fun _ h => absurd h (Nat.not_lt_zero _), fun _ h => absurd h (Nat.not_lt_zero _), fun _ h => absurd h (Nat.not_lt_zero _), fun _ h => absurd h (Nat.not_lt_zero _)⟩
theorem Dn.step {t : Ty} {b j K q : Nat} {cf : Nat → Nat} {vs : Nat → Value} {l g : Nat → Nat} {w w2 : World} {x y : Value} (r : Dn t b j K cf vs l g w) (hbs : b < w.heap.size) (hj : j < t.ks.length)
    (e0 : w.cell? ⟨b, j * 3, none⟩ = some x) (e1 : w.cell? ⟨b, j * 3 + 1, none⟩ = some y) (e2 : w.cell? ⟨b, j * 3 + 2, none⟩ = some (vs j))
    (hin : ∀ i, i < t.ks.length → b < l i ∨ g i ≤ b) (hd : ∀ i j, i < j → j < t.ks.length → g i ≤ l j) (hq : q = K + 2 * (j + ((List.range j).map cf).sum))
    (hI : Inside (l j) (g j) ((w.setCell ⟨b, j * 3, none⟩ (.int .i64 (q : Int))).setCell ⟨b, j * 3 + 1, none⟩ (.int .i64 ((q : Int) + 1))) w2)
    (hH : HeldIn w2 (l j) (g j) (q + 2) (t.ks.getD j Ty.dummy) (cf j) (vs j)) : Dn t b (j + 1) K cf vs l g w2 := by
  have hs : ((w.setCell ⟨b, j * 3, none⟩ (.int .i64 (q : Int))).setCell ⟨b, j * 3 + 1, none⟩ (.int .i64 ((q : Int) + 1))).heap.size = w.heap.size := by simp
  have hb2 := hI.block b (by rw [hs]; exact hbs) (by rcases hin j hj with h | h <;> omega)
  have hc : ∀ z, z ≠ j * 3 → z ≠ j * 3 + 1 → w2.cell? ⟨b, z, none⟩ = w.cell? ⟨b, z, none⟩ := by
    intro z h1 h2
    have e1 : ((w.setCell ⟨b, j * 3, none⟩ (.int .i64 (q : Int))).setCell ⟨b, j * 3 + 1, none⟩ (.int .i64 ((q : Int) + 1))).cell? ⟨b, z, none⟩ = (w.setCell ⟨b, j * 3, none⟩ (.int .i64 (q : Int))).cell? ⟨b, z, none⟩ := World.cell?_setCell_other _ _ _ _ (fun e => h2 (by injection e with _ e2 _; exact e2.symm))
    have e2 : (w.setCell ⟨b, j * 3, none⟩ (.int .i64 (q : Int))).cell? ⟨b, z, none⟩ = w.cell? ⟨b, z, none⟩ := World.cell?_setCell_other _ _ _ _ (fun e => h1 (by injection e with _ e2 _; exact e2.symm))
    exact (cellEq hb2).trans (e1.trans e2)
  have d0 : w2.cell? ⟨b, j * 3, none⟩ = some (.int .i64 (q : Int)) := by
    have e1' : ((w.setCell ⟨b, j * 3, none⟩ (.int .i64 (q : Int))).setCell ⟨b, j * 3 + 1, none⟩ (.int .i64 ((q : Int) + 1))).cell? ⟨b, j * 3, none⟩ = (w.setCell ⟨b, j * 3, none⟩ (.int .i64 (q : Int))).cell? ⟨b, j * 3, none⟩ := World.cell?_setCell_other _ _ _ _ (fun e => by injection e with _ e2 _; omega)
    exact (cellEq hb2).trans (e1'.trans (World.cell?_setCell_same' _ _ _ (by rw [e0]; rfl)))
  have d1 : w2.cell? ⟨b, j * 3 + 1, none⟩ = some (.int .i64 ((q : Int) + 1)) := by
    have e2' : (w.setCell ⟨b, j * 3, none⟩ (.int .i64 (q : Int))).cell? ⟨b, j * 3 + 1, none⟩ = w.cell? ⟨b, j * 3 + 1, none⟩ := World.cell?_setCell_other _ _ _ _ (fun e => by injection e with _ e2 _; omega)
    exact (cellEq hb2).trans (World.cell?_setCell_same' _ _ _ (by rw [e2', e1]; rfl))
  have hk : ∀ z, z ≠ b → z < w.heap.size → (z < l j ∨ g j ≤ z) → w2.heap[z]? = w.heap[z]? := by
    intro z h1 h2 h3
    rw [hI.block z (by rw [hs]; exact h2) h3, heap_setCell_other _ ⟨b, j * 3 + 1, none⟩ z _ h1, heap_setCell_other _ ⟨b, j * 3, none⟩ z _ h1]
  have hsz := hI.size
  rw [hs] at hsz
  refine ⟨fun i hi => ?_, fun i hi => ?_, fun i hi => ?_, fun i hi => ?_⟩
  · by_cases hij : i = j
    · subst hij; rw [d0, hq]
    · rw [hc _ (by omega) (by omega)]; exact r.c0 i (by omega)
  · by_cases hij : i = j
    · subst hij; rw [d1, hq]; push_cast; rfl
    · rw [hc _ (by omega) (by omega)]; exact r.c1 i (by omega)
  · by_cases hij : i = j
    · subst hij; rw [hc _ (by omega) (by omega)]; exact e2
    · rw [hc _ (by omega) (by omega)]; exact r.c2 i (by omega)
  · by_cases hij : i = j
    · subst hij; rw [← hq]; exact hH
    · have hil : i < t.ks.length := by omega
      refine (r.ty i (by omega)).keep hsz (fun z g1 g2 g3 => hk z ?_ g3 ?_)
      · rcases hin i hil with h | h <;> omega
      · exact .inl (Nat.lt_of_lt_of_le g2 (hd i j (by omega) hj))
theorem Dn.done {t : Ty} {b K lo hi : Nat} {cf : Nat → Nat} {vs : Nat → Value} {l g : Nat → Nat} {w : World} (r : Dn t b t.ks.length K cf vs l g w) (hin : ∀ i, i < t.ks.length → lo ≤ l i ∧ g i ≤ hi ∧ (b < l i ∨ g i ≤ b)) (_hd : ∀ i j, i < j → j < t.ks.length → g i ≤ l j)
    (hb1 : lo ≤ b) (hb2 : b < hi) (hw : b < w.heap.size) (cap : Nat) : HeldIn w lo hi K t (t.ks.length + ((List.range t.ks.length).map cf).sum) (.slice (some ⟨b, 0, none⟩) t.ks.length cap) := by
  cases t with
  | node k n ks => exact .row lo hi K k n ks cf b cap vs l g hb1 hb2 hw r.c0 r.c1 r.c2 (fun i hi => ⟨(hin i hi).1, (hin i hi).2.1⟩) r.ty

set_option maxRecDepth 100000 in
set_option maxHeartbeats 4000000 in
theorem markFull_any (m : Nat) : ∀ (t : Ty) (c : Nat) (v : Value) (lo hi : Nat) (K : Nat) (w : World), SizeOf.sizeOf t < m → Cnt t c → TyIn w lo hi t v → K + 2 * c ≤ 100000000 →
    Calls Try.prog 63 #[v, .int .i64 K] w fun e w' => e = .returned (.int .i64 ((K + 2 * c : Nat) : Int)) ∧ Inside lo hi w w' ∧ HeldIn w' lo hi K t c v := by
  induction m with
  | zero => intro t c v lo hi K w h; exact absurd h (Nat.not_lt_zero _)
  | succ m ih =>
    intro t c v lo hi K w hm hc hx hK
    obtain ⟨cf, hce, hcs⟩ : ∃ cf : Nat → Nat, c = t.ks.length + ((List.range t.ks.length).map cf).sum ∧ ∀ i, i < t.ks.length → Cnt (t.ks.getD i Ty.dummy) (cf i) := by
      cases hc with
      | node k n ks c h => exact ⟨c, rfl, h⟩
    by_cases h0 : t.ks.length = 0
    · obtain ⟨a, cap, rfl, _⟩ := hx.at.slice
      have hc0 : c = 0 := by rw [hce, h0]; rfl
      subst hc0
      have HT0 := Lib.hid h0
      rw [h0]
      clear ih hce hcs hx hm hc h0
      go_enter Try.func63, Try.ntmps63
      go_wp2_with fail
      go_loopw [1, 5] (fun kv i wr => i = .int .i64 0 ∧ kv = .int .i64 K ∧ wr = w) (fun _ _ _ => 0)
      case atStart => exact ⟨rfl, rfl, rfl⟩
      case round =>
        obtain ⟨rfl, rfl, rfl⟩ := hrel
        go_wp2_with fail
        go_ret
        exact ⟨by first | rfl | simp, Inside.refl _ _ _, HeldIn.empty HT0.out⟩
    · obtain ⟨b, cap, vs, l, g, rfl, hb1, hb2, hb3, g0, g1, g2, hf, hin, hd, h3⟩ := hx.parts (by omega)
      have HR : Hid (Rem t b 0 vs l g w) := Lib.hid ⟨hb3, fun i _ h => g0 i h, fun i _ h => g1 i h, fun i _ h => g2 i h, hf, fun i _ h => h3 i h⟩
      have HIN := Lib.hid hin
      have HD := Lib.hid hd
      have HCS := Lib.hid hcs
      have HIH := Lib.hid ih
      have HM := Lib.hid hm
      have HCE := Lib.hid hce
      obtain ⟨L, hL⟩ : ∃ L, t.ks.length = L := ⟨_, rfl⟩
      have HL := Lib.hid hL
      rw [hL]
      rw [hL] at hce
      have hLc : L ≤ c := by omega
      have hmono : ∀ j, j ≤ L → ((List.range j).map cf).sum ≤ ((List.range L).map cf).sum := fun j h => sum_mono cf h
      have HMONO := Lib.hid hmono
      have HCE2 := Lib.hid hce
      clear ih hcs hx hm hc g0 g1 g2 hf hin hd h3 hL hce hmono
      go_enter Try.func63, Try.ntmps63
      go_wp2_with fail
      go_loopw [1, 5] (fun kv i wr => ∃ (j q : Nat), j ≤ L ∧ i = .int .i64 j ∧ kv = .int .i64 q ∧ q ≤ 100000000 ∧ Hid (q = K + 2 * (j + ((List.range j).map cf).sum)) ∧ Hid (Rem t b j vs l g wr ∧ Dn t b j K cf vs l g wr) ∧ Inside lo hi w wr) (fun _ i _ => L - (intOf i).toNat)
      case atStart => exact ⟨0, K, Nat.zero_le _, rfl, rfl, by omega, Lib.hid (by simp), Lib.hid ⟨HR.out, Dn.zero⟩, Inside.refl _ _ _⟩
      case round =>
        obtain ⟨j, q, hj, rfl, rfl, hq, hqe, hrem, hI⟩ := hrel
        have HI := Lib.hid hI
        by_cases hlt : j < L
        · have hji : (j : Int) < (L : Int) := by omega
          have hjt : j < t.ks.length := by rw [HL.out]; exact hlt
          have HJT := Lib.hid hjt
          have y0 := hrem.out.1.c0 j (Nat.le_refl _) hjt
          have y1 := hrem.out.1.c1 j (Nat.le_refl _) hjt
          have y2 := hrem.out.1.c2 j (Nat.le_refl _) hjt
          have z0 := hrem.out.1.fz (j * 3) (by omega)
          have z1 := hrem.out.1.fz (j * 3 + 1) (by omega)
          have hkid := hrem.out.1.ty j (Nat.le_refl _) hjt
          obtain ⟨ai, ci, hvs, _⟩ := hkid.at.slice
          have HVS := Lib.hid hvs
          rw [hvs] at y2
          have hqn : q + 2 + 2 * cf j = K + 2 * (j + 1 + ((List.range (j + 1)).map cf).sum) := by rw [sum_succ, hqe.out]; omega
          have hqb : q + 2 + 2 * cf j ≤ 100000000 := by
            have h1 := HMONO.out (j + 1) (by omega)
            have h2 := HCE2.out
            omega
          have hs2 : ∀ u0 u1 : Value, TyIn ((wr.setCell ⟨b, j * 3, none⟩ u0).setCell ⟨b, j * 3 + 1, none⟩ u1) (l j) (g j) (t.ks.getD j Ty.dummy) (vs j) := fun u0 u1 => hkid.keep (by simp) (fun x h1 h2 _ => by
            have hxb : x ≠ b := by rcases (HIN.out j hjt).2.2 with h | h <;> omega
            rw [heap_setCell_other _ ⟨b, j * 3 + 1, none⟩ x _ hxb, heap_setCell_other _ ⟨b, j * 3, none⟩ x _ hxb])
          have HS2 := Lib.hid hs2
          rw [hvs] at HS2
          have hsm : SizeOf.sizeOf (t.ks.getD j Ty.dummy) < m := by have h1 := Ty.kid_lt t j hjt; have h2 := HM.out; omega
          have HCALL := Lib.hid (fun (W : World) (hW : TyIn W (l j) (g j) (t.ks.getD j Ty.dummy) (.slice ai (t.ks.getD j Ty.dummy).ks.length ci)) => HIH.out _ (cf j) _ (l j) (g j) (q + 2) W hsm (HCS.out j hjt) hW (by omega))
          obtain ⟨x, hxx⟩ : ∃ x, t.ks.getD j Ty.dummy = x := ⟨_, rfl⟩
          rw [hxx] at y0 y1 y2 HS2 HCALL HVS
          have HQN := Lib.hid hqn
          have HQE := Lib.hid hqe.out
          have HXX := Lib.hid hxx
          clear hkid hvs hs2 hsm hxx hqn hqe hjt hI
          go_wp2_with fail
          go_at_call 63
          refine (HCALL.out _ (HS2.out _ _)).mono ?_
          rintro e w2 ⟨rfl, hI2, hH2⟩
          rw [← HVS.out] at hH2
          have hrem2 := hrem.out.1.step HJT.out (fun i h => (HIN.out i h).2.2) HD.out hI2
          have HREM2 := Lib.hid (And.intro hrem2 (Dn.step hrem.out.2 hrem.out.1.bs HJT.out (hrem.out.1.c0 j (Nat.le_refl _) HJT.out) (hrem.out.1.c1 j (Nat.le_refl _) HJT.out) (hrem.out.1.c2 j (Nat.le_refl _) HJT.out) (fun i h => (HIN.out i h).2.2) HD.out HQE.out hI2 (by rw [HXX.out]; exact hH2)))
          have hI3 := (HI.out.trans ((Inside.set wr (j * 3) _ hb1 hb2).trans (Inside.set _ (j * 3 + 1) _ hb1 hb2))).trans (hI2.wide (HIN.out j HJT.out).1 (HIN.out j HJT.out).2.1)
          have HI3 := Lib.hid hI3
          clear hrem2 hI3 hI2
          go_wp2_with fail
          exact ⟨⟨j + 1, _, by omega, by go_num, rfl, hqb, HQN, HREM2, HI3.out⟩, by simp [intOf]; omega⟩
        · have hji : ¬ (j : Int) < (L : Int) := by omega
          have hjl : j = L := by omega
          have hqf : q = K + 2 * c := by rw [hqe.out, hjl, HCE2.out]
          have HHELD : Hid (HeldIn wr lo hi K t c (.slice (some ⟨b, 0, none⟩) L cap)) := Lib.hid (by
            have h1 := hrem.out.2
            rw [hjl, ← HL.out] at h1
            have h2 := h1.done HIN.out HD.out hb1 hb2 hrem.out.1.bs cap
            rw [← HCE.out, HL.out] at h2
            exact h2)
          clear hlt hI hqe hrem
          subst hjl
          subst hqf
          go_wp2_with fail
          go_ret
          exact ⟨rfl, HI.out, HHELD.out⟩



end Go.Proofs.Ytjciindcdcgclaa
