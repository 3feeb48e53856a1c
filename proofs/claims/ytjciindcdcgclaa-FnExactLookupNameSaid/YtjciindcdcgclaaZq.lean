/-
  The exact laws' marks: heldTypeS finds them.
-/
import Derived.Test.YtjciindcdcgclaaZp
namespace Go.Proofs.Ytjciindcdcgclaa
open Go.RowKit

theorem HeldIn.slice {w : World} {lo hi K c : Nat} {t : Ty} {v : Value} (h : HeldIn w lo hi K t c v) : ∃ a cap, v = .slice a t.ks.length cap := by
  cases h with
  | bare lo hi K k n a cap => exact ⟨a, cap, rfl⟩
  | row lo hi K k n ks cf b cap => exact ⟨_, cap, rfl⟩
theorem HeldIn.parts {w : World} {lo hi K c : Nat} {t : Ty} {v : Value} (h : HeldIn w lo hi K t c v) (h0 : 0 < t.ks.length) :
    ∃ (cf : Nat → Nat) (b cap : Nat) (vs : Nat → Value) (l g : Nat → Nat), v = .slice (some ⟨b, 0, none⟩) t.ks.length cap ∧ b < w.heap.size ∧ c = t.ks.length + ((List.range t.ks.length).map cf).sum ∧
      (∀ i, i < t.ks.length → w.cell? ⟨b, i * 3, none⟩ = some (.int .i64 ((K + 2 * (i + ((List.range i).map cf).sum) : Nat) : Int))) ∧
      (∀ i, i < t.ks.length → w.cell? ⟨b, i * 3 + 1, none⟩ = some (.int .i64 ((K + 2 * (i + ((List.range i).map cf).sum) + 1 : Nat) : Int))) ∧
      (∀ i, i < t.ks.length → w.cell? ⟨b, i * 3 + 2, none⟩ = some (vs i)) ∧
      (∀ i, i < t.ks.length → HeldIn w (l i) (g i) (K + 2 * (i + ((List.range i).map cf).sum) + 2) (t.ks.getD i Ty.dummy) (cf i) (vs i)) := by
  cases h with
  | bare lo hi K k n a cap => exact absurd h0 (Nat.lt_irrefl _)
  | row lo hi K k n ks cf b cap vs l g hb1 hb2 hw g0 g1 g2 hin h3 => exact ⟨cf, b, cap, vs, l, g, rfl, hw, rfl, g0, g1, g2, h3⟩
theorem HeldIn.none {w : World} {lo hi K c : Nat} {t : Ty} {v : Value} (h : HeldIn w lo hi K t c v) (h0 : t.ks.length = 0) : c = 0 := by
  cases h with
  | bare lo hi K k n a cap => rfl
  | row lo hi K k n ks cf b cap vs l g hb1 hb2 hw g0 g1 g2 hin h3 =>
    have h1 : ks.length = 0 := h0
    rw [h1]; rfl

set_option maxRecDepth 100000 in
set_option maxHeartbeats 4000000 in
theorem heldTypeS_any (m : Nat) : ∀ (t : Ty) (c : Nat) (v : Value) (lo hi : Nat) (K : Nat) (w : World), SizeOf.sizeOf t < m → HeldIn w lo hi K t c v → K + 2 * c ≤ 100000000 →
    Calls Try.prog 64 #[v, .int .i64 K] w fun e w' => e = .returned (.int .i64 ((K + 2 * c : Nat) : Int)) ∧ Below w.heap.size w w' := by
  induction m with
  | zero => intro t c v lo hi K w h; exact absurd h (Nat.not_lt_zero _)
  | succ m ih =>
    intro t c v lo hi K w hm hx hK
    by_cases h0 : t.ks.length = 0
    · obtain ⟨a, cap, rfl⟩ := hx.slice
      have hc0 : c = 0 := hx.none h0
      subst hc0
      rw [h0]
      clear ih hx hm h0
      go_enter Try.func64, Try.ntmps64
      go_wp2_with fail
      go_loopw [1, 5] (fun kv i wr => i = .int .i64 0 ∧ kv = .int .i64 K ∧ wr = w) (fun _ _ _ => 0)
      case atStart => exact ⟨rfl, rfl, rfl⟩
      case round =>
        obtain ⟨rfl, rfl, rfl⟩ := hrel
        go_wp2_with fail
        go_ret
        exact ⟨by first | rfl | simp, Below.refl _ _⟩
    · obtain ⟨cf, b, cap, vs, l, g, rfl, hb, hce, g0, g1, g2, h3⟩ := hx.parts (by omega)
      have HG0 := Lib.hid g0
      have HG1 := Lib.hid g1
      have HG2 := Lib.hid g2
      have H3 := Lib.hid h3
      have HIH := Lib.hid ih
      have HM := Lib.hid hm
      obtain ⟨L, hL⟩ : ∃ L, t.ks.length = L := ⟨_, rfl⟩
      have HL := Lib.hid hL
      rw [hL]
      rw [hL] at hce
      have hLc : L ≤ c := by omega
      have hmono : ∀ j, j ≤ L → ((List.range j).map cf).sum ≤ ((List.range L).map cf).sum := fun j h => sum_mono cf h
      have HMONO := Lib.hid hmono
      have HCE2 := Lib.hid hce
      clear ih hx hm g0 g1 g2 h3 hL hce hmono
      go_enter Try.func64, Try.ntmps64
      go_wp2_with fail
      go_loopw [1, 5] (fun kv i wr => ∃ (j q : Nat), j ≤ L ∧ i = .int .i64 j ∧ kv = .int .i64 q ∧ q ≤ 100000000 ∧ Hid (q = K + 2 * (j + ((List.range j).map cf).sum)) ∧ Below w.heap.size w wr) (fun _ i _ => L - (intOf i).toNat)
      case atStart => exact ⟨0, K, Nat.zero_le _, rfl, rfl, by omega, Lib.hid (by simp), Below.refl _ _⟩
      case round =>
        obtain ⟨j, q, hj, rfl, rfl, hq, hqe, hB⟩ := hrel
        have HB := Lib.hid hB
        by_cases hlt : j < L
        · have hji : (j : Int) < (L : Int) := by omega
          have hjt : j < t.ks.length := by rw [HL.out]; exact hlt
          have y0 : wr.cell? ⟨b, j * 3, none⟩ = some (.int .i64 (q : Int)) := by rw [hqe.out]; exact (hB.cell (p := ⟨b, j * 3, none⟩) hb).trans (HG0.out j hjt)
          have y1 : wr.cell? ⟨b, j * 3 + 1, none⟩ = some (.int .i64 ((q : Int) + 1)) := by rw [hqe.out]; exact (hB.cell (p := ⟨b, j * 3 + 1, none⟩) hb).trans ((HG1.out j hjt).trans (by push_cast; rfl))
          have y2 := (hB.cell (p := ⟨b, j * 3 + 2, none⟩) hb).trans (HG2.out j hjt)
          have hkid := (H3.out j hjt).kept hB
          rw [← hqe.out] at hkid
          obtain ⟨ai, ci, hvs⟩ := hkid.slice
          rw [hvs] at y2 hkid
          have hqn : q + 2 + 2 * cf j = K + 2 * (j + 1 + ((List.range (j + 1)).map cf).sum) := by rw [sum_succ, hqe.out]; omega
          have hqb : q + 2 + 2 * cf j ≤ 100000000 := by
            have h1 := HMONO.out (j + 1) (by omega)
            have h2 := HCE2.out
            omega
          have hsm : SizeOf.sizeOf (t.ks.getD j Ty.dummy) < m := by have h1 := Ty.kid_lt t j hjt; have h2 := HM.out; omega
          have HCALL := Lib.hid (HIH.out _ (cf j) _ (l j) (g j) (q + 2) wr hsm hkid (by omega))
          obtain ⟨x, hxx⟩ : ∃ x, t.ks.getD j Ty.dummy = x := ⟨_, rfl⟩
          rw [hxx] at y2 HCALL
          have hneg : ¬ ((q + 2 + 2 * cf j : Nat) : Int) < 0 := by omega
          have HQN := Lib.hid hqn
          clear hkid hvs hsm hxx hqn hqe hjt hB
          go_wp2_with fail
          go_at_call 64
          refine HCALL.out.mono ?_
          rintro e w2 ⟨rfl, hB2⟩
          have HB2 := Lib.hid (HB.out.trans (hB2.mono HB.out.size))
          clear hB2
          go_wp2_with fail
          exact ⟨⟨j + 1, _, by omega, by go_num, rfl, hqb, HQN, HB2.out⟩, by simp [intOf]; omega⟩
        · have hji : ¬ (j : Int) < (L : Int) := by omega
          have hjl : j = L := by omega
          have hqf : q = K + 2 * c := by rw [hqe.out, hjl, HCE2.out]
          clear hlt hB hqe
          subst hjl
          subst hqf
          go_wp2_with fail
          go_ret
          exact ⟨rfl, HB.out⟩

/-- heldType on a root that holds its marks. -/
theorem heldType_any (t : Ty) (c : Nat) (k n : Int) (v : Value) (lo hi : Nat) (K : Nat) (w : World) (hx : HeldIn w lo hi K t c v) (hK : K + 2 * c ≤ 100000000) :
    Calls Try.prog 31 #[.agg #[.int .i64 k, .int .i64 n, v], .int .i64 K] w fun e w' => e = .returned (.int .i64 ((K + 2 * c : Nat) : Int)) ∧ Below w.heap.size w w' := by
  obtain ⟨a, cap, hv⟩ := hx.slice
  have HX := Lib.hid hx
  subst hv
  have HA0 : Hid (Below w.heap.size w (w.alloc (.cells #[.int .i64 k, .int .i64 n, .slice a t.ks.length cap] 28))) := Lib.hid ((Below.refl w.heap.size w).alloc (Nat.le_refl _) _)
  have hneg : ¬ ((K + 2 * c : Nat) : Int) < 0 := by omega
  clear hx
  go_enter Try.func31, Try.ntmps31
  go_wp2_with fail
  go_at_call 64
  refine (heldTypeS_any _ t c _ lo hi K _ (Nat.lt_succ_self _) (HX.out.kept ((Below.refl _ _).alloc (Nat.le_refl _) _)) hK).mono ?_
  rintro e w1 ⟨rfl, hI⟩
  have HI := Lib.hid (HA0.out.trans (hI.mono HA0.out.size))
  clear hI
  go_wp2_with fail
  go_ret
  exact ⟨rfl, HI.out⟩

/-- markType: the root's value goes by, its rows are marked. -/
theorem markTypeFull_any (t : Ty) (c : Nat) (v : Value) (lo hi : Nat) (K : Nat) (w : World) (hc : Cnt t c) (hx : TyIn w lo hi t v) (hK : K + 2 * c ≤ 100000000) :
    Calls Try.prog 30 #[.agg #[.int .i64 t.k, .int .i64 t.n, v], .int .i64 K] w fun e w' => e = .returned (.int .i64 ((K + 2 * c : Nat) : Int)) ∧ Inside lo hi w w' ∧ HeldIn w' lo hi K t c v := by
  obtain ⟨a, cap, rfl, hlen⟩ := hx.at.slice
  have HX := Lib.hid hx
  have HC := Lib.hid hc
  have HA0 : Hid (Inside lo hi w (w.alloc (.cells #[.int .i64 t.k, .int .i64 t.n, .slice a t.ks.length cap] 28))) := Lib.hid (by
    have hb := (Below.refl w.heap.size w).alloc (Nat.le_refl _) (.cells #[.int .i64 t.k, .int .i64 t.n, .slice a t.ks.length cap] 28)
    exact ⟨hb.os, hb.tape, hb.output, hb.size, fun x hx _ => hb.block x hx⟩)
  clear hx hc
  go_enter Try.func30, Try.ntmps30
  go_wp2_with fail
  go_at_call 63
  refine (markFull_any _ t c _ lo hi K _ (Nat.lt_succ_self _) HC.out (HX.out.kept ((Below.refl _ _).alloc (Nat.le_refl _) _)) hK).mono ?_
  rintro e w1 ⟨rfl, hI, hH⟩
  have HI := Lib.hid (HA0.out.trans hI)
  have HH := Lib.hid hH
  clear hI hH
  go_wp2_with fail
  go_ret
  exact ⟨rfl, HI.out, HH.out⟩

end Go.Proofs.Ytjciindcdcgclaa
