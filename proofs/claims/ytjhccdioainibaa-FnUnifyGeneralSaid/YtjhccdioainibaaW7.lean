/-
The exact laws' marks in a type that lies in blocks of its own, and that they are held.
The exact laws' marks: heldTypeS finds them.
Leaves and joins of types, results in boxes: what the texts behind need where no parser of types is translated.
-/
import Derived.Test.YtjhccdioainibaaW4
import Derived.Test.YtjhccdioainibaaW6
import Derived.Deep.RegionHeld3
import Derived.Deep.RegionWith
import Derived.Deep.DeepCutAuto
import Derived.BigQuiet
namespace Go.Proofs.Ytjhccdioainibaa
open Go.RowKit

/-- A type's rows hold the marks from K on; c nodes lie below the root. -/
inductive HeldIn (w : World) : Nat → Nat → Nat → Ty → Nat → Value → Prop where
  | bare (lo hi K : Nat) (k n : Int) (a : Option Addr) (cap : Nat) : HeldIn w lo hi K (.node k n []) 0 (.slice a 0 cap)
  | row (lo hi K : Nat) (k n : Int) (ks : List Ty) (cf : Nat → Nat) (b cap : Nat) (vs : Nat → Value) (l g : Nat → Nat) (hb1 : lo ≤ b) (hb2 : b < hi) (hw : b < w.heap.size)
      (h0 : ∀ i, i < ks.length → w.cell? ⟨b, i * 3, none⟩ = some (.int .i64 ((K + 2 * (i + ((List.range i).map cf).sum) : Nat) : Int)))
      (h1 : ∀ i, i < ks.length → w.cell? ⟨b, i * 3 + 1, none⟩ = some (.int .i64 ((K + 2 * (i + ((List.range i).map cf).sum) + 1 : Nat) : Int)))
      (h2 : ∀ i, i < ks.length → w.cell? ⟨b, i * 3 + 2, none⟩ = some (vs i))
      (hin : ∀ i, i < ks.length → lo ≤ l i ∧ g i ≤ hi)
      (h3 : ∀ i, i < ks.length → HeldIn w (l i) (g i) (K + 2 * (i + ((List.range i).map cf).sum) + 2) (ks.getD i Ty.dummy) (cf i) (vs i)) :
      HeldIn w lo hi K (.node k n ks) (ks.length + ((List.range ks.length).map cf).sum) (.slice (some ⟨b, 0, none⟩) ks.length cap)
theorem HeldIn.empty {w : World} {lo hi K : Nat} {t : Ty} {a : Option Addr} {cap : Nat} (h : t.ks.length = 0) : HeldIn w lo hi K t 0 (.slice a 0 cap) := by
  cases t with
  | node k n ks =>
    have : ks = [] := List.eq_nil_of_length_eq_zero h
    subst this
    exact .bare lo hi K k n a cap
theorem HeldIn.keep {w w' : World} {lo hi K c : Nat} {t : Ty} {v : Value} (h : HeldIn w lo hi K t c v) (hs : w.heap.size ≤ w'.heap.size) (hk : ∀ b, lo ≤ b → b < hi → b < w.heap.size → w'.heap[b]? = w.heap[b]?) : HeldIn w' lo hi K t c v := by
  induction h with
  | bare lo hi K k n a cap => exact .bare lo hi K k n a cap
  | row lo hi K k n ks cf b cap vs l g hb1 hb2 hw h0 h1 h2 hin _ ih =>
    have e := hk b hb1 hb2 hw
    refine .row lo hi K k n ks cf b cap vs l g hb1 hb2 (by omega) (fun i hi => (cellEq e).trans (h0 i hi)) (fun i hi => (cellEq e).trans (h1 i hi)) (fun i hi => (cellEq e).trans (h2 i hi)) hin ?_
    intro i hi
    obtain ⟨a1, a2⟩ := hin i hi
    exact ih i hi (fun b h1 h2 h3 => hk b (by omega) (by omega) h3)
theorem HeldIn.kept {w w' : World} {lo hi K c : Nat} {t : Ty} {v : Value} (h : HeldIn w lo hi K t c v) (hb : Below w.heap.size w w') : HeldIn w' lo hi K t c v :=
  h.keep hb.size (fun b _ _ h3 => hb.block b h3)
/-- What has been marked. -/
structure Dn (t : Ty) (b j K : Nat) (cf : Nat → Nat) (vs : Nat → Value) (l g : Nat → Nat) (w : World) : Prop where
  c0 : ∀ i, i < j → w.cell? ⟨b, i * 3, none⟩ = some (.int .i64 ((K + 2 * (i + ((List.range i).map cf).sum) : Nat) : Int))
  c1 : ∀ i, i < j → w.cell? ⟨b, i * 3 + 1, none⟩ = some (.int .i64 ((K + 2 * (i + ((List.range i).map cf).sum) + 1 : Nat) : Int))
  c2 : ∀ i, i < j → w.cell? ⟨b, i * 3 + 2, none⟩ = some (vs i)
  ty : ∀ i, i < j → HeldIn w (l i) (g i) (K + 2 * (i + ((List.range i).map cf).sum) + 2) (t.ks.getD i Ty.dummy) (cf i) (vs i)
theorem Dn.zero {t : Ty} {b K : Nat} {cf : Nat → Nat} {vs : Nat → Value} {l g : Nat → Nat} {w : World} : Dn t b 0 K cf vs l g w :=
  ⟨fun _ h => absurd h (Nat.not_lt_zero _), fun _ h => absurd h (Nat.not_lt_zero _), fun _ h => absurd h (Nat.not_lt_zero _), fun _ h => absurd h (Nat.not_lt_zero _)⟩
theorem Dn.step {t : Ty} {b j K q : Nat} {cf : Nat → Nat} {vs : Nat → Value} {l g : Nat → Nat} {w w2 : World} {x y : Value} (r : Dn t b j K cf vs l g w) (hbs : b < w.heap.size) (hj : j < t.ks.length)
    (e0 : w.cell? ⟨b, j * 3, none⟩ = some x) (e1 : w.cell? ⟨b, j * 3 + 1, none⟩ = some y) (e2 : w.cell? ⟨b, j * 3 + 2, none⟩ = some (vs j))
    (hin : ∀ i, i < t.ks.length → b < l i ∨ g i ≤ b) (hd : ∀ i j, i < j → j < t.ks.length → g i ≤ l j) (hq : q = K + 2 * (j + ((List.range j).map cf).sum))
    (hI : Inside (l j) (g j) ((w.setCell ⟨b, j * 3, none⟩ (.int .i64 (q : Int))).setCell ⟨b, j * 3 + 1, none⟩ (.int .i64 ((q : Int) + 1))) w2)
    (hH : HeldIn w2 (l j) (g j) (q + 2) (t.ks.getD j Ty.dummy) (cf j) (vs j)) : Dn t b (j + 1) K cf vs l g w2 := by
  have hs : ((w.setCell ⟨b, j * 3, none⟩ (.int .i64 (q : Int))).setCell ⟨b, j * 3 + 1, none⟩ (.int .i64 ((q : Int) + 1))).heap.size = w.heap.size := by simp
  have hb2 := hI.block b (by rw [hs]; exact hbs) (by rcases hin j hj with h | h <;> omega)
  have hc : ∀ z, z ≠ j * 3 → z ≠ j * 3 + 1 → w2.cell? ⟨b, z, none⟩ = w.cell? ⟨b, z, none⟩ := by
    intro z h1 h2
    have e1 : ((w.setCell ⟨b, j * 3, none⟩ (.int .i64 (q : Int))).setCell ⟨b, j * 3 + 1, none⟩ (.int .i64 ((q : Int) + 1))).cell? ⟨b, z, none⟩ = (w.setCell ⟨b, j * 3, none⟩ (.int .i64 (q : Int))).cell? ⟨b, z, none⟩ := World.cell?_setCell_other _ _ _ _ (fun e => h2 (by injection e with _ e2 _; exact e2.symm))
    have e2 : (w.setCell ⟨b, j * 3, none⟩ (.int .i64 (q : Int))).cell? ⟨b, z, none⟩ = w.cell? ⟨b, z, none⟩ := World.cell?_setCell_other _ _ _ _ (fun e => h1 (by injection e with _ e2 _; exact e2.symm))
    exact (cellEq hb2).trans (e1.trans e2)
  have d0 : w2.cell? ⟨b, j * 3, none⟩ = some (.int .i64 (q : Int)) := by
    have e1' : ((w.setCell ⟨b, j * 3, none⟩ (.int .i64 (q : Int))).setCell ⟨b, j * 3 + 1, none⟩ (.int .i64 ((q : Int) + 1))).cell? ⟨b, j * 3, none⟩ = (w.setCell ⟨b, j * 3, none⟩ (.int .i64 (q : Int))).cell? ⟨b, j * 3, none⟩ := World.cell?_setCell_other _ _ _ _ (fun e => by injection e with _ e2 _; omega)
    exact (cellEq hb2).trans (e1'.trans (World.cell?_setCell_same' _ _ _ (by rw [e0]; rfl)))
  have d1 : w2.cell? ⟨b, j * 3 + 1, none⟩ = some (.int .i64 ((q : Int) + 1)) := by
    have e2' : (w.setCell ⟨b, j * 3, none⟩ (.int .i64 (q : Int))).cell? ⟨b, j * 3 + 1, none⟩ = w.cell? ⟨b, j * 3 + 1, none⟩ := World.cell?_setCell_other _ _ _ _ (fun e => by injection e with _ e2 _; omega)
    exact (cellEq hb2).trans (World.cell?_setCell_same' _ _ _ (by rw [e2', e1]; rfl))
  have hk : ∀ z, z ≠ b → z < w.heap.size → (z < l j ∨ g j ≤ z) → w2.heap[z]? = w.heap[z]? := by
    intro z h1 h2 h3
    rw [hI.block z (by rw [hs]; exact h2) h3, heap_setCell_other _ ⟨b, j * 3 + 1, none⟩ z _ h1, heap_setCell_other _ ⟨b, j * 3, none⟩ z _ h1]
  have hsz := hI.size
  rw [hs] at hsz
  refine ⟨fun i hi => ?_, fun i hi => ?_, fun i hi => ?_, fun i hi => ?_⟩
  · by_cases hij : i = j
    · subst hij; rw [d0, hq]
    · rw [hc _ (by omega) (by omega)]; exact r.c0 i (by omega)
  · by_cases hij : i = j
    · subst hij; rw [d1, hq]; push_cast; rfl
    · rw [hc _ (by omega) (by omega)]; exact r.c1 i (by omega)
  · by_cases hij : i = j
    · subst hij; rw [hc _ (by omega) (by omega)]; exact e2
    · rw [hc _ (by omega) (by omega)]; exact r.c2 i (by omega)
  · by_cases hij : i = j
    · subst hij; rw [← hq]; exact hH
    · have hil : i < t.ks.length := by omega
      refine (r.ty i (by omega)).keep hsz (fun z g1 g2 g3 => hk z ?_ g3 ?_)
      · rcases hin i hil with h | h <;> omega
      · exact .inl (Nat.lt_of_lt_of_le g2 (hd i j (by omega) hj))
theorem Dn.done {t : Ty} {b K lo hi : Nat} {cf : Nat → Nat} {vs : Nat → Value} {l g : Nat → Nat} {w : World} (r : Dn t b t.ks.length K cf vs l g w) (hin : ∀ i, i < t.ks.length → lo ≤ l i ∧ g i ≤ hi ∧ (b < l i ∨ g i ≤ b)) (_hd : ∀ i j, i < j → j < t.ks.length → g i ≤ l j)
    (hb1 : lo ≤ b) (hb2 : b < hi) (hw : b < w.heap.size) (cap : Nat) : HeldIn w lo hi K t (t.ks.length + ((List.range t.ks.length).map cf).sum) (.slice (some ⟨b, 0, none⟩) t.ks.length cap) := by
  cases t with
  | node k n ks => exact .row lo hi K k n ks cf b cap vs l g hb1 hb2 hw r.c0 r.c1 r.c2 (fun i hi => ⟨(hin i hi).1, (hin i hi).2.1⟩) r.ty

set_option maxRecDepth 100000 in
set_option maxHeartbeats 4000000 in
theorem markFull_any (m : Nat) : ∀ (t : Ty) (c : Nat) (v : Value) (lo hi : Nat) (K : Nat) (w : World), SizeOf.sizeOf t < m → Cnt t c → TyIn w lo hi t v → K + 2 * c ≤ 100000000 →
    Calls Try.prog 34 #[v, .int .i64 K] w fun e w' => e = .returned (.int .i64 ((K + 2 * c : Nat) : Int)) ∧ Inside lo hi w w' ∧ HeldIn w' lo hi K t c v := by
  induction m with
  | zero => intro t c v lo hi K w h; exact absurd h (Nat.not_lt_zero _)
  | succ m ih =>
    intro t c v lo hi K w hm hc hx hK
    obtain ⟨cf, hce, hcs⟩ : ∃ cf : Nat → Nat, c = t.ks.length + ((List.range t.ks.length).map cf).sum ∧ ∀ i, i < t.ks.length → Cnt (t.ks.getD i Ty.dummy) (cf i) := by
      cases hc with
      | node k n ks c h => exact ⟨c, rfl, h⟩
    by_cases h0 : t.ks.length = 0
    · obtain ⟨a, cap, rfl, _⟩ := hx.at.slice
      have hc0 : c = 0 := by rw [hce, h0]; rfl
      subst hc0
      have HT0 := Lib.hid h0
      rw [h0]
      clear ih hce hcs hx hm hc h0
      go_enter Try.func34, Try.ntmps34
      go_wp2_with fail
      go_loopw [1, 5] (fun kv i wr => i = .int .i64 0 ∧ kv = .int .i64 K ∧ wr = w) (fun _ _ _ => 0)
      case atStart => exact ⟨rfl, rfl, rfl⟩
      case round =>
        obtain ⟨rfl, rfl, rfl⟩ := hrel
        go_wp2_with fail
        go_ret
        exact ⟨by first | rfl | simp, Inside.refl _ _ _, HeldIn.empty HT0.out⟩
    · obtain ⟨b, cap, vs, l, g, rfl, hb1, hb2, hb3, g0, g1, g2, hf, hin, hd, h3⟩ := hx.parts (by omega)
      have HR : Hid (Rem t b 0 vs l g w) := Lib.hid ⟨hb3, fun i _ h => g0 i h, fun i _ h => g1 i h, fun i _ h => g2 i h, hf, fun i _ h => h3 i h⟩
      have HIN := Lib.hid hin
      have HD := Lib.hid hd
      have HCS := Lib.hid hcs
      have HIH := Lib.hid ih
      have HM := Lib.hid hm
      have HCE := Lib.hid hce
      obtain ⟨L, hL⟩ : ∃ L, t.ks.length = L := ⟨_, rfl⟩
      have HL := Lib.hid hL
      rw [hL]
      rw [hL] at hce
      have hLc : L ≤ c := by omega
      have hmono : ∀ j, j ≤ L → ((List.range j).map cf).sum ≤ ((List.range L).map cf).sum := fun j h => sum_mono cf h
      have HMONO := Lib.hid hmono
      have HCE2 := Lib.hid hce
      clear ih hcs hx hm hc g0 g1 g2 hf hin hd h3 hL hce hmono
      go_enter Try.func34, Try.ntmps34
      go_wp2_with fail
      go_loopw [1, 5] (fun kv i wr => ∃ (j q : Nat), j ≤ L ∧ i = .int .i64 j ∧ kv = .int .i64 q ∧ q ≤ 100000000 ∧ Hid (q = K + 2 * (j + ((List.range j).map cf).sum)) ∧ Hid (Rem t b j vs l g wr ∧ Dn t b j K cf vs l g wr) ∧ Inside lo hi w wr) (fun _ i _ => L - (intOf i).toNat)
      case atStart => exact ⟨0, K, Nat.zero_le _, rfl, rfl, by omega, Lib.hid (by simp), Lib.hid ⟨HR.out, Dn.zero⟩, Inside.refl _ _ _⟩
      case round =>
        obtain ⟨j, q, hj, rfl, rfl, hq, hqe, hrem, hI⟩ := hrel
        have HI := Lib.hid hI
        by_cases hlt : j < L
        · have hji : (j : Int) < (L : Int) := by omega
          have hjt : j < t.ks.length := by rw [HL.out]; exact hlt
          have HJT := Lib.hid hjt
          have y0 := hrem.out.1.c0 j (Nat.le_refl _) hjt
          have y1 := hrem.out.1.c1 j (Nat.le_refl _) hjt
          have y2 := hrem.out.1.c2 j (Nat.le_refl _) hjt
          have z0 := hrem.out.1.fz (j * 3) (by omega)
          have z1 := hrem.out.1.fz (j * 3 + 1) (by omega)
          have hkid := hrem.out.1.ty j (Nat.le_refl _) hjt
          obtain ⟨ai, ci, hvs, _⟩ := hkid.at.slice
          have HVS := Lib.hid hvs
          rw [hvs] at y2
          have hqn : q + 2 + 2 * cf j = K + 2 * (j + 1 + ((List.range (j + 1)).map cf).sum) := by rw [sum_succ, hqe.out]; omega
          have hqb : q + 2 + 2 * cf j ≤ 100000000 := by
            have h1 := HMONO.out (j + 1) (by omega)
            have h2 := HCE2.out
            omega
          have hs2 : ∀ u0 u1 : Value, TyIn ((wr.setCell ⟨b, j * 3, none⟩ u0).setCell ⟨b, j * 3 + 1, none⟩ u1) (l j) (g j) (t.ks.getD j Ty.dummy) (vs j) := fun u0 u1 => hkid.keep (by simp) (fun x h1 h2 _ => by
            have hxb : x ≠ b := by rcases (HIN.out j hjt).2.2 with h | h <;> omega
            rw [heap_setCell_other _ ⟨b, j * 3 + 1, none⟩ x _ hxb, heap_setCell_other _ ⟨b, j * 3, none⟩ x _ hxb])
          have HS2 := Lib.hid hs2
          rw [hvs] at HS2
          have hsm : SizeOf.sizeOf (t.ks.getD j Ty.dummy) < m := by have h1 := Ty.kid_lt t j hjt; have h2 := HM.out; omega
          have HCALL := Lib.hid (fun (W : World) (hW : TyIn W (l j) (g j) (t.ks.getD j Ty.dummy) (.slice ai (t.ks.getD j Ty.dummy).ks.length ci)) => HIH.out _ (cf j) _ (l j) (g j) (q + 2) W hsm (HCS.out j hjt) hW (by omega))
          obtain ⟨x, hxx⟩ : ∃ x, t.ks.getD j Ty.dummy = x := ⟨_, rfl⟩
          rw [hxx] at y0 y1 y2 HS2 HCALL HVS
          have HQN := Lib.hid hqn
          have HQE := Lib.hid hqe.out
          have HXX := Lib.hid hxx
          clear hkid hvs hs2 hsm hxx hqn hqe hjt hI
          go_wp2_with fail
          go_at_call 34
          refine (HCALL.out _ (HS2.out _ _)).mono ?_
          rintro e w2 ⟨rfl, hI2, hH2⟩
          rw [← HVS.out] at hH2
          have hrem2 := hrem.out.1.step HJT.out (fun i h => (HIN.out i h).2.2) HD.out hI2
          have HREM2 := Lib.hid (And.intro hrem2 (Dn.step hrem.out.2 hrem.out.1.bs HJT.out (hrem.out.1.c0 j (Nat.le_refl _) HJT.out) (hrem.out.1.c1 j (Nat.le_refl _) HJT.out) (hrem.out.1.c2 j (Nat.le_refl _) HJT.out) (fun i h => (HIN.out i h).2.2) HD.out HQE.out hI2 (by rw [HXX.out]; exact hH2)))
          have hI3 := (HI.out.trans ((Inside.set wr (j * 3) _ hb1 hb2).trans (Inside.set _ (j * 3 + 1) _ hb1 hb2))).trans (hI2.wide (HIN.out j HJT.out).1 (HIN.out j HJT.out).2.1)
          have HI3 := Lib.hid hI3
          clear hrem2 hI3 hI2
          go_wp2_with fail
          exact ⟨⟨j + 1, _, by omega, by go_num, rfl, hqb, HQN, HREM2, HI3.out⟩, by simp [intOf]; omega⟩
        · have hji : ¬ (j : Int) < (L : Int) := by omega
          have hjl : j = L := by omega
          have hqf : q = K + 2 * c := by rw [hqe.out, hjl, HCE2.out]
          have HHELD : Hid (HeldIn wr lo hi K t c (.slice (some ⟨b, 0, none⟩) L cap)) := Lib.hid (by
            have h1 := hrem.out.2
            rw [hjl, ← HL.out] at h1
            have h2 := h1.done HIN.out HD.out hb1 hb2 hrem.out.1.bs cap
            rw [← HCE.out, HL.out] at h2
            exact h2)
          clear hlt hI hqe hrem
          subst hjl
          subst hqf
          go_wp2_with fail
          go_ret
          exact ⟨rfl, HI.out, HHELD.out⟩



end Go.Proofs.Ytjhccdioainibaa

namespace Go.Proofs.Ytjhccdioainibaa
open Go.RowKit

theorem HeldIn.slice {w : World} {lo hi K c : Nat} {t : Ty} {v : Value} (h : HeldIn w lo hi K t c v) : ∃ a cap, v = .slice a t.ks.length cap := by
  cases h with
  | bare lo hi K k n a cap => exact ⟨a, cap, rfl⟩
  | row lo hi K k n ks cf b cap => exact ⟨_, cap, rfl⟩
theorem HeldIn.parts {w : World} {lo hi K c : Nat} {t : Ty} {v : Value} (h : HeldIn w lo hi K t c v) (h0 : 0 < t.ks.length) :
    ∃ (cf : Nat → Nat) (b cap : Nat) (vs : Nat → Value) (l g : Nat → Nat), v = .slice (some ⟨b, 0, none⟩) t.ks.length cap ∧ b < w.heap.size ∧ c = t.ks.length + ((List.range t.ks.length).map cf).sum ∧
      (∀ i, i < t.ks.length → w.cell? ⟨b, i * 3, none⟩ = some (.int .i64 ((K + 2 * (i + ((List.range i).map cf).sum) : Nat) : Int))) ∧
      (∀ i, i < t.ks.length → w.cell? ⟨b, i * 3 + 1, none⟩ = some (.int .i64 ((K + 2 * (i + ((List.range i).map cf).sum) + 1 : Nat) : Int))) ∧
      (∀ i, i < t.ks.length → w.cell? ⟨b, i * 3 + 2, none⟩ = some (vs i)) ∧
      (∀ i, i < t.ks.length → HeldIn w (l i) (g i) (K + 2 * (i + ((List.range i).map cf).sum) + 2) (t.ks.getD i Ty.dummy) (cf i) (vs i)) := by
  cases h with
  | bare lo hi K k n a cap => exact absurd h0 (Nat.lt_irrefl _)
  | row lo hi K k n ks cf b cap vs l g hb1 hb2 hw g0 g1 g2 hin h3 => exact ⟨cf, b, cap, vs, l, g, rfl, hw, rfl, g0, g1, g2, h3⟩
theorem HeldIn.none {w : World} {lo hi K c : Nat} {t : Ty} {v : Value} (h : HeldIn w lo hi K t c v) (h0 : t.ks.length = 0) : c = 0 := by
  cases h with
  | bare lo hi K k n a cap => rfl
  | row lo hi K k n ks cf b cap vs l g hb1 hb2 hw g0 g1 g2 hin h3 =>
    have h1 : ks.length = 0 := h0
    rw [h1]; rfl

set_option maxRecDepth 100000 in
set_option maxHeartbeats 4000000 in
theorem heldTypeS_any (m : Nat) : ∀ (t : Ty) (c : Nat) (v : Value) (lo hi : Nat) (K : Nat) (w : World), SizeOf.sizeOf t < m → HeldIn w lo hi K t c v → K + 2 * c ≤ 100000000 →
    Calls Try.prog 35 #[v, .int .i64 K] w fun e w' => e = .returned (.int .i64 ((K + 2 * c : Nat) : Int)) ∧ Below w.heap.size w w' := by
  induction m with
  | zero => intro t c v lo hi K w h; exact absurd h (Nat.not_lt_zero _)
  | succ m ih =>
    intro t c v lo hi K w hm hx hK
    by_cases h0 : t.ks.length = 0
    · obtain ⟨a, cap, rfl⟩ := hx.slice
      have hc0 : c = 0 := hx.none h0
      subst hc0
      rw [h0]
      clear ih hx hm h0
      go_enter Try.func35, Try.ntmps35
      go_wp2_with fail
      go_loopw [1, 5] (fun kv i wr => i = .int .i64 0 ∧ kv = .int .i64 K ∧ wr = w) (fun _ _ _ => 0)
      case atStart => exact ⟨rfl, rfl, rfl⟩
      case round =>
        obtain ⟨rfl, rfl, rfl⟩ := hrel
        go_wp2_with fail
        go_ret
        exact ⟨by first | rfl | simp, Below.refl _ _⟩
    · obtain ⟨cf, b, cap, vs, l, g, rfl, hb, hce, g0, g1, g2, h3⟩ := hx.parts (by omega)
      have HG0 := Lib.hid g0
      have HG1 := Lib.hid g1
      have HG2 := Lib.hid g2
      have H3 := Lib.hid h3
      have HIH := Lib.hid ih
      have HM := Lib.hid hm
      obtain ⟨L, hL⟩ : ∃ L, t.ks.length = L := ⟨_, rfl⟩
      have HL := Lib.hid hL
      rw [hL]
      rw [hL] at hce
      have hLc : L ≤ c := by omega
      have hmono : ∀ j, j ≤ L → ((List.range j).map cf).sum ≤ ((List.range L).map cf).sum := fun j h => sum_mono cf h
      have HMONO := Lib.hid hmono
      have HCE2 := Lib.hid hce
      clear ih hx hm g0 g1 g2 h3 hL hce hmono
      go_enter Try.func35, Try.ntmps35
      go_wp2_with fail
      go_loopw [1, 5] (fun kv i wr => ∃ (j q : Nat), j ≤ L ∧ i = .int .i64 j ∧ kv = .int .i64 q ∧ q ≤ 100000000 ∧ Hid (q = K + 2 * (j + ((List.range j).map cf).sum)) ∧ Below w.heap.size w wr) (fun _ i _ => L - (intOf i).toNat)
      case atStart => exact ⟨0, K, Nat.zero_le _, rfl, rfl, by omega, Lib.hid (by simp), Below.refl _ _⟩
      case round =>
        obtain ⟨j, q, hj, rfl, rfl, hq, hqe, hB⟩ := hrel
        have HB := Lib.hid hB
        by_cases hlt : j < L
        · have hji : (j : Int) < (L : Int) := by omega
          have hjt : j < t.ks.length := by rw [HL.out]; exact hlt
          have y0 : wr.cell? ⟨b, j * 3, none⟩ = some (.int .i64 (q : Int)) := by rw [hqe.out]; exact (hB.cell (p := ⟨b, j * 3, none⟩) hb).trans (HG0.out j hjt)
          have y1 : wr.cell? ⟨b, j * 3 + 1, none⟩ = some (.int .i64 ((q : Int) + 1)) := by rw [hqe.out]; exact (hB.cell (p := ⟨b, j * 3 + 1, none⟩) hb).trans ((HG1.out j hjt).trans (by push_cast; rfl))
          have y2 := (hB.cell (p := ⟨b, j * 3 + 2, none⟩) hb).trans (HG2.out j hjt)
          have hkid := (H3.out j hjt).kept hB
          rw [← hqe.out] at hkid
          obtain ⟨ai, ci, hvs⟩ := hkid.slice
          rw [hvs] at y2 hkid
          have hqn : q + 2 + 2 * cf j = K + 2 * (j + 1 + ((List.range (j + 1)).map cf).sum) := by rw [sum_succ, hqe.out]; omega
          have hqb : q + 2 + 2 * cf j ≤ 100000000 := by
            have h1 := HMONO.out (j + 1) (by omega)
            have h2 := HCE2.out
            omega
          have hsm : SizeOf.sizeOf (t.ks.getD j Ty.dummy) < m := by have h1 := Ty.kid_lt t j hjt; have h2 := HM.out; omega
          have HCALL := Lib.hid (HIH.out _ (cf j) _ (l j) (g j) (q + 2) wr hsm hkid (by omega))
          obtain ⟨x, hxx⟩ : ∃ x, t.ks.getD j Ty.dummy = x := ⟨_, rfl⟩
          rw [hxx] at y2 HCALL
          have hneg : ¬ ((q + 2 + 2 * cf j : Nat) : Int) < 0 := by omega
          have HQN := Lib.hid hqn
          clear hkid hvs hsm hxx hqn hqe hjt hB
          go_wp2_with fail
          go_at_call 35
          refine HCALL.out.mono ?_
          rintro e w2 ⟨rfl, hB2⟩
          have HB2 := Lib.hid (HB.out.trans (hB2.mono HB.out.size))
          clear hB2
          go_wp2_with fail
          exact ⟨⟨j + 1, _, by omega, by go_num, rfl, hqb, HQN, HB2.out⟩, by simp [intOf]; omega⟩
        · have hji : ¬ (j : Int) < (L : Int) := by omega
          have hjl : j = L := by omega
          have hqf : q = K + 2 * c := by rw [hqe.out, hjl, HCE2.out]
          clear hlt hB hqe
          subst hjl
          subst hqf
          go_wp2_with fail
          go_ret
          exact ⟨rfl, HB.out⟩

/-- heldType on a root that holds its marks. -/
theorem heldType_any (t : Ty) (c : Nat) (k n : Int) (v : Value) (lo hi : Nat) (K : Nat) (w : World) (hx : HeldIn w lo hi K t c v) (hK : K + 2 * c ≤ 100000000) :
    Calls Try.prog 14 #[.agg #[.int .i64 k, .int .i64 n, v], .int .i64 K] w fun e w' => e = .returned (.int .i64 ((K + 2 * c : Nat) : Int)) ∧ Below w.heap.size w w' := by
  obtain ⟨a, cap, hv⟩ := hx.slice
  have HX := Lib.hid hx
  subst hv
  have HA0 : Hid (Below w.heap.size w (w.alloc (.cells #[.int .i64 k, .int .i64 n, .slice a t.ks.length cap] 28))) := Lib.hid ((Below.refl w.heap.size w).alloc (Nat.le_refl _) _)
  have hneg : ¬ ((K + 2 * c : Nat) : Int) < 0 := by omega
  clear hx
  go_enter Try.func14, Try.ntmps14
  go_wp2_with fail
  go_at_call 35
  refine (heldTypeS_any _ t c _ lo hi K _ (Nat.lt_succ_self _) (HX.out.kept ((Below.refl _ _).alloc (Nat.le_refl _) _)) hK).mono ?_
  rintro e w1 ⟨rfl, hI⟩
  have HI := Lib.hid (HA0.out.trans (hI.mono HA0.out.size))
  clear hI
  go_wp2_with fail
  go_ret
  exact ⟨rfl, HI.out⟩

/-- markType: the root's value goes by, its rows are marked. -/
theorem markTypeFull_any (t : Ty) (c : Nat) (v : Value) (lo hi : Nat) (K : Nat) (w : World) (hc : Cnt t c) (hx : TyIn w lo hi t v) (hK : K + 2 * c ≤ 100000000) :
    Calls Try.prog 13 #[.agg #[.int .i64 t.k, .int .i64 t.n, v], .int .i64 K] w fun e w' => e = .returned (.int .i64 ((K + 2 * c : Nat) : Int)) ∧ Inside lo hi w w' ∧ HeldIn w' lo hi K t c v := by
  obtain ⟨a, cap, rfl, hlen⟩ := hx.at.slice
  have HX := Lib.hid hx
  have HC := Lib.hid hc
  have HA0 : Hid (Inside lo hi w (w.alloc (.cells #[.int .i64 t.k, .int .i64 t.n, .slice a t.ks.length cap] 28))) := Lib.hid (by
    have hb := (Below.refl w.heap.size w).alloc (Nat.le_refl _) (.cells #[.int .i64 t.k, .int .i64 t.n, .slice a t.ks.length cap] 28)
    exact ⟨hb.os, hb.tape, hb.output, hb.size, fun x hx _ => hb.block x hx⟩)
  clear hx hc
  go_enter Try.func13, Try.ntmps13
  go_wp2_with fail
  go_at_call 34
  refine (markFull_any _ t c _ lo hi K _ (Nat.lt_succ_self _) HC.out (HX.out.kept ((Below.refl _ _).alloc (Nat.le_refl _) _)) hK).mono ?_
  rintro e w1 ⟨rfl, hI, hH⟩
  have HI := Lib.hid (HA0.out.trans hI)
  have HH := Lib.hid hH
  clear hI hH
  go_wp2_with fail
  go_ret
  exact ⟨rfl, HI.out, HH.out⟩

end Go.Proofs.Ytjhccdioainibaa

namespace Go.Proofs.Ytjhccdioainibaa
open Go.RowKit
set_option linter.unusedVariables false
set_option linter.unusedSimpArgs false
/-- A type has come back, in blocks of its own. -/
def TyRet (t : Ty) (w : World) (e : Ending) (w' : World) : Prop := ∃ v, e = .returned (.agg #[.int .i64 t.k, .int .i64 t.n, v]) ∧ TyIn w' w.heap.size w'.heap.size t v ∧ Below w.heap.size w w'
theorem l2Num_any (w : World) : Calls Try.prog 70 #[] w (TyRet (.node 1 0 []) w) := by
  go_enter Try.func70, Try.ntmps70
  go_wp2_with fail
  refine bodyPost_ret (v := .agg #[.int .i64 1, .int .i64 0, .slice none 0 0]) (by simp [results, Try.results70, go_sem]) rfl ⟨_, rfl, .bare _ _ _ _ _ _, ?_⟩
  exact (Below.refl _ _).alloc (Nat.le_refl _) _
theorem l2Var_any (n : Int) (w : World) : Calls Try.prog 72 #[.int .i64 n] w (TyRet (.node 4 n []) w) := by
  go_enter Try.func72, Try.ntmps72
  go_wp2_with fail
  refine bodyPost_ret (v := .agg #[.int .i64 4, .int .i64 n, .slice none 0 0]) (by simp [results, Try.results72, go_sem]) rfl ⟨_, rfl, .bare _ _ _ _ _ _, ?_⟩
  exact (Below.refl _ _).alloc (Nat.le_refl _) _
theorem varType_any (n : Int) (w : World) : Calls Try.prog 49 #[.int .i64 n] w (TyRet (.node 4 n []) w) := by
  go_enter Try.func49, Try.ntmps49
  go_wp2_with fail
  refine bodyPost_ret (v := .agg #[.int .i64 4, .int .i64 n, .slice none 0 0]) (by simp [results, Try.results49, go_sem]) rfl ⟨_, rfl, .bare _ _ _ _ _ _, ?_⟩
  exact (Below.refl _ _).alloc (Nat.le_refl _) _
set_option maxRecDepth 100000 in
set_option maxHeartbeats 1000000 in
theorem l2Node_any (k : Int) (x y : Ty) (vx vy : Value) (lo l h l' h' : Nat) (w : World) (hx : TyIn w l h x vx) (hy : TyIn w l' h' y vy) (hl : lo ≤ l) (hll : lo ≤ l') (hd : h ≤ l') (hh : h ≤ w.heap.size) (hh' : h' ≤ w.heap.size) (hlo : lo ≤ w.heap.size) :
    Calls Try.prog 71 #[.int .i64 k, .agg #[.int .i64 x.k, .int .i64 x.n, vx], .agg #[.int .i64 y.k, .int .i64 y.n, vy]] w fun e w' => ∃ v, e = .returned (.agg #[.int .i64 k, .int .i64 0, v]) ∧ TyIn w' lo w'.heap.size (.node k 0 [x, y]) v ∧ Below w.heap.size w w' := by
  have HX := Lib.hid hx
  have HY := Lib.hid hy
  obtain ⟨ax, cx, rfl, _⟩ := hx.at.slice
  obtain ⟨ay, cy, rfl, _⟩ := hy.at.slice
  obtain ⟨nx, hnx⟩ : ∃ n, x.ks.length = n := ⟨_, rfl⟩
  obtain ⟨ny, hny⟩ : ∃ n, y.ks.length = n := ⟨_, rfl⟩
  obtain ⟨kx, hkx⟩ : ∃ n, x.k = n := ⟨_, rfl⟩
  obtain ⟨ky, hky⟩ : ∃ n, y.k = n := ⟨_, rfl⟩
  obtain ⟨mx, hmx⟩ : ∃ n, x.n = n := ⟨_, rfl⟩
  obtain ⟨my, hmy⟩ : ∃ n, y.n = n := ⟨_, rfl⟩
  have HE := Lib.hid (And.intro hkx (And.intro hky (And.intro hmx hmy)))
  rw [hnx] at HX ⊢
  rw [hny] at HY ⊢
  rw [hkx, hky, hmx, hmy]
  have HLO := Lib.hid (And.intro hl (And.intro hll (And.intro hd (And.intro hh (And.intro hh' hlo)))))
  clear hx hy hkx hky hmx hmy hnx hny hl hll hd hh hh' hlo
  go_enter Try.func71, Try.ntmps71
  go_wp2_with fail
  refine bodyPost_ret (v := .agg #[.int .i64 k, .int .i64 0, .slice (some ⟨w.heap.size + 1 + 1 + 1, 0, none⟩) 2 2]) (by simp [results, Try.results71, go_sem]) rfl ⟨_, rfl, ?_, ?_⟩
  · obtain ⟨e1, e2, e3, e4⟩ := HE.out
    obtain ⟨h1, h2, h3, h4, h5, h6⟩ := HLO.out
    refine TyIn.pair (b := w.heap.size + 1 + 1 + 1) (l := l) (h := h) (l' := l') (h' := h') (vx := .slice ax nx cx) (vy := .slice ay ny cy) (HX.out.kept ?_) (HY.out.kept ?_) (by omega) (by simp) (row_at (by simp)) (by rw [e1]; go_simp) (by rw [e3]; go_simp) (by go_simp) (by rw [e2]; go_simp) (by rw [e4]; go_simp) (by go_simp) ?_ h1 (by simp; omega) h2 (by simp; omega) (.inr (by omega)) (.inr (by omega)) h3
    · exact ((((Below.refl _ _).alloc (Nat.le_refl _) _).alloc (by simp) _).alloc (by simp; omega) _).alloc (by simp; omega) _
    · exact ((((Below.refl _ _).alloc (Nat.le_refl _) _).alloc (by simp) _).alloc (by simp; omega) _).alloc (by simp; omega) _
    · intro i hi
      rcases (show i = 0 ∨ i = 1 ∨ i = 2 ∨ i = 3 ∨ i = 4 ∨ i = 5 by omega) with rfl | rfl | rfl | rfl | rfl | rfl <;> go_simp
  · exact ((((Below.refl _ _).alloc (Nat.le_refl _) _).alloc (by simp) _).alloc (by simp; omega) _).alloc (by simp; omega) _
set_option maxRecDepth 100000 in
set_option maxHeartbeats 1000000 in
theorem joinType_any (k : Int) (x y : Ty) (vx vy : Value) (lo l h l' h' : Nat) (w : World) (hx : TyIn w l h x vx) (hy : TyIn w l' h' y vy) (hl : lo ≤ l) (hll : lo ≤ l') (hd : h ≤ l') (hh : h ≤ w.heap.size) (hh' : h' ≤ w.heap.size) (hlo : lo ≤ w.heap.size) :
    Calls Try.prog 73 #[.int .i64 k, .agg #[.int .i64 x.k, .int .i64 x.n, vx], .agg #[.int .i64 y.k, .int .i64 y.n, vy]] w fun e w' => ∃ v, e = .returned (.agg #[.int .i64 k, .int .i64 0, v]) ∧ TyIn w' lo w'.heap.size (.node k 0 [x, y]) v ∧ Below w.heap.size w w' := by
  have HX := Lib.hid hx
  have HY := Lib.hid hy
  obtain ⟨ax, cx, rfl, _⟩ := hx.at.slice
  obtain ⟨ay, cy, rfl, _⟩ := hy.at.slice
  obtain ⟨nx, hnx⟩ : ∃ n, x.ks.length = n := ⟨_, rfl⟩
  obtain ⟨ny, hny⟩ : ∃ n, y.ks.length = n := ⟨_, rfl⟩
  obtain ⟨kx, hkx⟩ : ∃ n, x.k = n := ⟨_, rfl⟩
  obtain ⟨ky, hky⟩ : ∃ n, y.k = n := ⟨_, rfl⟩
  obtain ⟨mx, hmx⟩ : ∃ n, x.n = n := ⟨_, rfl⟩
  obtain ⟨my, hmy⟩ : ∃ n, y.n = n := ⟨_, rfl⟩
  have HE := Lib.hid (And.intro hkx (And.intro hky (And.intro hmx hmy)))
  rw [hnx] at HX ⊢
  rw [hny] at HY ⊢
  rw [hkx, hky, hmx, hmy]
  have HLO := Lib.hid (And.intro hl (And.intro hll (And.intro hd (And.intro hh (And.intro hh' hlo)))))
  clear hx hy hkx hky hmx hmy hnx hny hl hll hd hh hh' hlo
  go_enter Try.func73, Try.ntmps73
  go_wp2_with fail
  refine bodyPost_ret (v := .agg #[.int .i64 k, .int .i64 0, .slice (some ⟨w.heap.size + 1 + 1 + 1, 0, none⟩) 2 2]) (by simp [results, Try.results73, go_sem]) rfl ⟨_, rfl, ?_, ?_⟩
  · obtain ⟨e1, e2, e3, e4⟩ := HE.out
    obtain ⟨h1, h2, h3, h4, h5, h6⟩ := HLO.out
    refine TyIn.pair (b := w.heap.size + 1 + 1 + 1) (l := l) (h := h) (l' := l') (h' := h') (vx := .slice ax nx cx) (vy := .slice ay ny cy) (HX.out.kept ?_) (HY.out.kept ?_) (by omega) (by simp) (row_at (by simp)) (by rw [e1]; go_simp) (by rw [e3]; go_simp) (by go_simp) (by rw [e2]; go_simp) (by rw [e4]; go_simp) (by go_simp) ?_ h1 (by simp; omega) h2 (by simp; omega) (.inr (by omega)) (.inr (by omega)) h3
    · exact ((((Below.refl _ _).alloc (Nat.le_refl _) _).alloc (by simp) _).alloc (by simp; omega) _).alloc (by simp; omega) _
    · exact ((((Below.refl _ _).alloc (Nat.le_refl _) _).alloc (by simp) _).alloc (by simp; omega) _).alloc (by simp; omega) _
    · intro i hi
      rcases (show i = 0 ∨ i = 1 ∨ i = 2 ∨ i = 3 ∨ i = 4 ∨ i = 5 by omega) with rfl | rfl | rfl | rfl | rfl | rfl <;> go_simp
  · exact ((((Below.refl _ _).alloc (Nat.le_refl _) _).alloc (by simp) _).alloc (by simp; omega) _).alloc (by simp; omega) _
theorem Inside.of_below {lo hi : Nat} {w w' : World} (h : Below w.heap.size w w') : Inside lo hi w w' := ⟨h.os, h.tape, h.output, h.size, fun x hx _ => h.block x hx⟩
/-- A result's cells, still empty. -/
structure RB (w : World) (B : Nat) : Prop where
  c0 : w.cell? ⟨B, 0, none⟩ = some (.int .i64 0)
  c1 : w.cell? ⟨B, 1, none⟩ = some (.int .i64 0)
  c2 : w.cell? ⟨B, 2, none⟩ = some (.slice none 0 0)
  f0 : w.frozen? ⟨B, 0, none⟩ = false
  f1 : w.frozen? ⟨B, 1, none⟩ = false
  f2 : w.frozen? ⟨B, 2, none⟩ = false
  sz : B < w.heap.size
theorem RB.keep {w w' : World} {B : Nat} (h : RB w B) (hs : w.heap.size ≤ w'.heap.size) (hb : w'.heap[B]? = w.heap[B]?) : RB w' B :=
  ⟨(cellEq hb).trans h.c0, (cellEq hb).trans h.c1, (cellEq hb).trans h.c2, (frozenEq hb).trans h.f0, (frozenEq hb).trans h.f1, (frozenEq hb).trans h.f2, Nat.lt_of_lt_of_le h.sz hs⟩
theorem RB.kept {w w' : World} {B : Nat} (h : RB w B) (hb : Below w.heap.size w w') : RB w' B := h.keep hb.size (hb.block B h.sz)
theorem rb_new (w : World) (T : TypeId) : RB (w.alloc (.cells #[.int .i64 0, .int .i64 0, .slice none 0 0] T)) w.heap.size := ⟨by go_simp, by go_simp, by go_simp, by go_simp, by go_simp, by go_simp, by simp⟩
theorem res_below {w W : World} (h : Below w.heap.size w W) (x y z : Value) : Below w.heap.size w (((W.setCell ⟨w.heap.size, 0, none⟩ x).setCell ⟨w.heap.size, 1, none⟩ y).setCell ⟨w.heap.size, 2, none⟩ z) :=
  ((h.setCell (p := ⟨w.heap.size, 0, none⟩) (Nat.le_refl _) _).setCell (p := ⟨w.heap.size, 1, none⟩) (Nat.le_refl _) _).setCell (p := ⟨w.heap.size, 2, none⟩) (Nat.le_refl _) _
theorem res_ty {w W : World} {B : Nat} {t : Ty} {v : Value} (h : TyIn W (B + 1) W.heap.size t v) (hB : w.heap.size ≤ B) (x y z : Value) :
    TyIn (((W.setCell ⟨B, 0, none⟩ x).setCell ⟨B, 1, none⟩ y).setCell ⟨B, 2, none⟩ z) w.heap.size (((W.setCell ⟨B, 0, none⟩ x).setCell ⟨B, 1, none⟩ y).setCell ⟨B, 2, none⟩ z).heap.size t v := by
  refine TyIn.wide (h.keep (by simp) (fun b h1 _ _ => ?_)) (by omega) (by simp)
  rw [heap_setCell_other _ ⟨B, 2, none⟩ b _ (by show b ≠ B; omega), heap_setCell_other _ ⟨B, 1, none⟩ b _ (by show b ≠ B; omega), heap_setCell_other _ ⟨B, 0, none⟩ b _ (by show b ≠ B; omega)]
theorem sizeA (w : World) (o : Obj) : (w.alloc o).heap.size = w.heap.size + 1 := by simp
theorem RB.inside {w w' : World} {B p : Nat} (h : RB w B) (hI : Inside p (p + 1) w w') (hp : p < B) : RB w' B := h.keep hI.size (hI.block B h.sz (.inr (by omega)))
theorem box_inside {w w1 w2 : World} {B p : Nat} {x y z : Value} (h : w1.cell? ⟨B, 0, none⟩ = some x ∧ w1.cell? ⟨B, 1, none⟩ = some y ∧ w1.cell? ⟨B, 2, none⟩ = some z) (hI : Inside p (p + 1) w1 w2) (hp : p < B) (hB : B < w1.heap.size) :
    w2.cell? ⟨B, 0, none⟩ = some x ∧ w2.cell? ⟨B, 1, none⟩ = some y ∧ w2.cell? ⟨B, 2, none⟩ = some z := by
  have e := hI.block B hB (.inr (by omega))
  exact ⟨(cellEq e).trans h.1, (cellEq e).trans h.2.1, (cellEq e).trans h.2.2⟩
theorem box_new (w : World) (x y z : Value) (T : TypeId) : (w.alloc (.cells #[x, y, z] T)).cell? ⟨w.heap.size, 0, none⟩ = some x ∧ (w.alloc (.cells #[x, y, z] T)).cell? ⟨w.heap.size, 1, none⟩ = some y ∧ (w.alloc (.cells #[x, y, z] T)).cell? ⟨w.heap.size, 2, none⟩ = some z := ⟨by go_simp, by go_simp, by go_simp⟩
theorem TyIn.inside {w w' : World} {lo hi p : Nat} {t : Ty} {v : Value} (h : TyIn w lo hi t v) (hI : Inside p (p + 1) w w') (hp : p < lo) : TyIn w' lo hi t v :=
  h.keep hI.size (fun b h1 _ h3 => hI.block b h3 (.inr (by omega)))
/-- A type and whether there is one. -/
def OptRet : Option Ty → World → Ending → World → Prop
  | some t, w, e, w' => ∃ v, e = .returned (.tuple #[.agg #[.int .i64 t.k, .int .i64 t.n, v], .bool true]) ∧ TyIn w' w.heap.size w'.heap.size t v ∧ Below w.heap.size w w'
  | none, w, e, w' => e = .returned (.tuple #[.agg #[.int .i64 0, .int .i64 0, .slice none 0 0], .bool false]) ∧ Below w.heap.size w w'
theorem RB.below {w w' : World} {B : Nat} (h : RB w B) (hb : Below w.heap.size w w') : RB w' B := h.kept hb
theorem cnt_shp : ∀ (d : Nat) (t : Ty), shp d t = true → Cnt t (nd d t - 1) := by
  intro d
  induction d with
  | zero => intro t h; cases h
  | succ d ih =>
    intro t h
    obtain ⟨_, hk⟩ := shp_iff.1 h
    have e : nd (d + 1) t - 1 = t.ks.length + ((List.range t.ks.length).map fun i => nd d (t.ks.getD i Ty.dummy) - 1).sum := by
      rw [nd_succ]
      have key : ∀ j, ndk d t j = j + ((List.range j).map fun i => nd d (t.ks.getD i Ty.dummy) - 1).sum := by
        intro j
        induction j with
        | zero => rfl
        | succ j ihj =>
          rw [ndk_succ, sum_succ, ihj]
          have := nd_pos d (t.ks.getD j Ty.dummy)
          omega
      rw [key]; omega
    rw [e]
    cases t with
    | node k n ks => exact .node k n ks _ (fun i hi => ih _ (hk i hi))
theorem cnt_valid {t : Ty} (h : tvT t = true) : ∃ c, Cnt t c ∧ c ≤ 62 := by
  unfold tvT at h
  simp only [Bool.and_eq_true, decide_eq_true_eq] at h
  exact ⟨_, cnt_shp 16 t h.1, by omega⟩
/-- The type that comes with 'some', or the zero value. -/
def optT : Option Ty → Ty
  | some t => t
  | none => .node 0 0 []
theorem OptRet.flat {r : Option Ty} {w : World} {e : Ending} {w' : World} (h : OptRet r w e w') : ∃ v, e = .returned (.tuple #[.agg #[.int .i64 (optT r).k, .int .i64 (optT r).n, v], .bool r.isSome]) ∧ TyIn w' w.heap.size w'.heap.size (optT r) v ∧ Below w.heap.size w w' := by
  cases r with
  | none => exact ⟨_, h.1, .bare _ _ _ _ _ _, h.2⟩
  | some t => exact h
theorem TBox.away {w w' : World} {B lo hi : Nat} {x y z : Value} (h : TBox w B x y z) (hI : Inside lo hi w w') (hB : B < lo ∨ hi ≤ B) : TBox w' B x y z := by
  have e := hI.block B h.sz hB
  exact ⟨(cellEq e).trans h.c0, (cellEq e).trans h.c1, (cellEq e).trans h.c2, Nat.lt_of_lt_of_le h.sz hI.size⟩
theorem TyIn.apart {w w' : World} {lo hi l h : Nat} {t : Ty} {v : Value} (hx : TyIn w l h t v) (hI : Inside lo hi w w') (hd : h ≤ lo ∨ hi ≤ l) : TyIn w' l h t v :=
  hx.keep hI.size (fun b h1 h2 h3 => hI.block b h3 (by omega))
end Go.Proofs.Ytjhccdioainibaa
