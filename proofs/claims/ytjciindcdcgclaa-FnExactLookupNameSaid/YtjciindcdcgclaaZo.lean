/-
  The exact laws' marks in a type that lies in blocks of its own: what lies elsewhere stays.
-/
import Derived.Test.YtjciindcdcgclaaZf
import Derived.Test.YtjciindcdcgclaaZh
namespace Go.Proofs.Ytjciindcdcgclaa
open Go.RowKit

/-- Only blocks from lo to hi have changed. -/
structure Inside (lo hi : Nat) (w w' : World) : Prop where
  os : w'.os = w.os
  tape : w'.tape = w.tape
  output : w'.output = w.output
  size : w.heap.size ≤ w'.heap.size
  block : ∀ b, b < w.heap.size → (b < lo ∨ hi ≤ b) → w'.heap[b]? = w.heap[b]?
theorem Inside.refl (lo hi : Nat) (w : World) : Inside lo hi w w := ⟨rfl, rfl, rfl, Nat.le_refl _, fun _ _ _ => rfl⟩
theorem Inside.trans {lo hi : Nat} {a b c : World} (h : Inside lo hi a b) (k : Inside lo hi b c) : Inside lo hi a c :=
  ⟨k.os.trans h.os, k.tape.trans h.tape, k.output.trans h.output, Nat.le_trans h.size k.size, fun x hx ho => (k.block x (Nat.lt_of_lt_of_le hx h.size) ho).trans (h.block x hx ho)⟩
theorem Inside.wide {lo hi lo' hi' : Nat} {a b : World} (h : Inside lo hi a b) (h1 : lo' ≤ lo) (h2 : hi ≤ hi') : Inside lo' hi' a b :=
  ⟨h.os, h.tape, h.output, h.size, fun x hx ho => h.block x hx (by omega)⟩
theorem Inside.set {lo hi : Nat} (w : World) {b : Nat} (o : Nat) (u : Value) (h1 : lo ≤ b) (h2 : b < hi) : Inside lo hi w (w.setCell ⟨b, o, none⟩ u) :=
  ⟨rfl, rfl, rfl, by simp, fun x _ ho => heap_setCell_other w ⟨b, o, none⟩ x u (by show x ≠ b; omega)⟩
theorem Inside.below {lo hi B : Nat} {w0 w w' : World} (h : Inside lo hi w w') (hB : B ≤ lo) (hb : Below B w0 w) (hs : B ≤ w.heap.size) : Below B w0 w' :=
  hb.trans ⟨h.os, h.tape, h.output, h.size, fun x hx => h.block x (by omega) (.inl (by omega))⟩
theorem TyIn.parts {w : World} {lo hi : Nat} {t : Ty} {v : Value} (h : TyIn w lo hi t v) (h0 : 0 < t.ks.length) :
    ∃ (b cap : Nat) (vs : Nat → Value) (l g : Nat → Nat), v = .slice (some ⟨b, 0, none⟩) t.ks.length cap ∧ lo ≤ b ∧ b < hi ∧ b < w.heap.size ∧
      (∀ i, i < t.ks.length → w.cell? ⟨b, i * 3, none⟩ = some (.int .i64 (t.ks.getD i Ty.dummy).k)) ∧ (∀ i, i < t.ks.length → w.cell? ⟨b, i * 3 + 1, none⟩ = some (.int .i64 (t.ks.getD i Ty.dummy).n)) ∧
      (∀ i, i < t.ks.length → w.cell? ⟨b, i * 3 + 2, none⟩ = some (vs i)) ∧ (∀ i, i < t.ks.length * 3 → w.frozen? ⟨b, i, none⟩ = false) ∧
      (∀ i, i < t.ks.length → lo ≤ l i ∧ g i ≤ hi ∧ (b < l i ∨ g i ≤ b)) ∧ (∀ i j, i < j → j < t.ks.length → g i ≤ l j) ∧ (∀ i, i < t.ks.length → TyIn w (l i) (g i) (t.ks.getD i Ty.dummy) (vs i)) := by
  cases h with
  | bare lo hi k n a cap => exact absurd h0 (Nat.lt_irrefl _)
  | row lo hi k n ks b cap vs l h hb1 hb2 hw hl g0 g1 g2 hf hin hd h3 => exact ⟨b, cap, vs, l, h, rfl, hb1, hb2, hw.lt, g0, g1, g2, hf, hin, hd, h3⟩
/-- What is left to mark. -/
structure Rem (t : Ty) (b j : Nat) (vs : Nat → Value) (l g : Nat → Nat) (w : World) : Prop where
  bs : b < w.heap.size
  c0 : ∀ i, j ≤ i → i < t.ks.length → w.cell? ⟨b, i * 3, none⟩ = some (.int .i64 (t.ks.getD i Ty.dummy).k)
  c1 : ∀ i, j ≤ i → i < t.ks.length → w.cell? ⟨b, i * 3 + 1, none⟩ = some (.int .i64 (t.ks.getD i Ty.dummy).n)
  c2 : ∀ i, j ≤ i → i < t.ks.length → w.cell? ⟨b, i * 3 + 2, none⟩ = some (vs i)
  fz : ∀ i, i < t.ks.length * 3 → w.frozen? ⟨b, i, none⟩ = false
  ty : ∀ i, j ≤ i → i < t.ks.length → TyIn w (l i) (g i) (t.ks.getD i Ty.dummy) (vs i)
theorem Rem.step {t : Ty} {b j : Nat} {vs : Nat → Value} {l g : Nat → Nat} {w w2 : World} {u0 u1 : Value} (r : Rem t b j vs l g w) (hj : j < t.ks.length) (hin : ∀ i, i < t.ks.length → b < l i ∨ g i ≤ b) (hd : ∀ i j, i < j → j < t.ks.length → g i ≤ l j)
    (hI : Inside (l j) (g j) ((w.setCell ⟨b, j * 3, none⟩ u0).setCell ⟨b, j * 3 + 1, none⟩ u1) w2) : Rem t b (j + 1) vs l g w2 := by
  have hs : ((w.setCell ⟨b, j * 3, none⟩ u0).setCell ⟨b, j * 3 + 1, none⟩ u1).heap.size = w.heap.size := by simp
  have hb2 := hI.block b (by rw [hs]; exact r.bs) (by rcases hin j hj with h | h <;> omega)
  have hc : ∀ q, q ≠ j * 3 → q ≠ j * 3 + 1 → w2.cell? ⟨b, q, none⟩ = w.cell? ⟨b, q, none⟩ := by
    intro q h1 h2
    have e1 : ((w.setCell ⟨b, j * 3, none⟩ u0).setCell ⟨b, j * 3 + 1, none⟩ u1).cell? ⟨b, q, none⟩ = (w.setCell ⟨b, j * 3, none⟩ u0).cell? ⟨b, q, none⟩ := World.cell?_setCell_other _ _ _ _ (fun e => h2 (by injection e with _ e2 _; exact e2.symm))
    have e2 : (w.setCell ⟨b, j * 3, none⟩ u0).cell? ⟨b, q, none⟩ = w.cell? ⟨b, q, none⟩ := World.cell?_setCell_other _ _ _ _ (fun e => h1 (by injection e with _ e2 _; exact e2.symm))
    exact (cellEq hb2).trans (e1.trans e2)
  have hk : ∀ x, x ≠ b → x < w.heap.size → (x < l j ∨ g j ≤ x) → w2.heap[x]? = w.heap[x]? := by
    intro x h1 h2 h3
    rw [hI.block x (by rw [hs]; exact h2) h3, heap_setCell_other _ ⟨b, j * 3 + 1, none⟩ x _ h1, heap_setCell_other _ ⟨b, j * 3, none⟩ x _ h1]
  have hsz := hI.size
  rw [hs] at hsz
  refine ⟨Nat.lt_of_lt_of_le r.bs hsz, fun i h1 h2 => ?_, fun i h1 h2 => ?_, fun i h1 h2 => ?_, fun i h1 => ?_, fun i h1 h2 => ?_⟩
  · rw [hc _ (by omega) (by omega)]; exact r.c0 i (by omega) h2
  · rw [hc _ (by omega) (by omega)]; exact r.c1 i (by omega) h2
  · rw [hc _ (by omega) (by omega)]; exact r.c2 i (by omega) h2
  · rw [frozenEq hb2, World.frozen?_setCell, World.frozen?_setCell]; exact r.fz i h1
  · refine (r.ty i (by omega) h2).keep hsz (fun x g1 g2 g3 => hk x ?_ g3 ?_)
    · rcases hin i h2 with h | h <;> omega
    · exact .inr (Nat.le_trans (hd j i (by omega) h2) g1)

set_option maxRecDepth 100000 in
set_option maxHeartbeats 4000000 in
theorem markTypeS_any (m : Nat) : ∀ (t : Ty) (c : Nat) (v : Value) (lo hi : Nat) (K : Nat) (w : World), SizeOf.sizeOf t < m → Cnt t c → TyIn w lo hi t v → K + 2 * c ≤ 100000000 →
    Calls Try.prog 63 #[v, .int .i64 K] w fun e w' => e = .returned (.int .i64 ((K + 2 * c : Nat) : Int)) ∧ Inside lo hi w w' := by
  induction m with
  | zero => intro t c v lo hi K w h; exact absurd h (Nat.not_lt_zero _)
  | succ m ih =>
    intro t c v lo hi K w hm hc hx hK
    obtain ⟨cf, hce, hcs⟩ : ∃ cf : Nat → Nat, c = t.ks.length + ((List.range t.ks.length).map cf).sum ∧ ∀ i, i < t.ks.length → Cnt (t.ks.getD i Ty.dummy) (cf i) := by
      cases hc with
      | node k n ks c h => exact ⟨c, rfl, h⟩
    by_cases h0 : t.ks.length = 0
    · obtain ⟨a, cap, rfl, _⟩ := hx.at.slice
      have hc0 : c = 0 := by rw [hce, h0]; rfl
      subst hc0
      rw [h0]
      clear ih hce hcs hx hm hc h0
      go_enter Try.func63, Try.ntmps63
      go_wp2_with fail
      go_loopw [1, 5] (fun kv i wr => i = .int .i64 0 ∧ kv = .int .i64 K ∧ wr = w) (fun _ _ _ => 0)
      case atStart => exact ⟨rfl, rfl, rfl⟩
      case round =>
        obtain ⟨rfl, rfl, rfl⟩ := hrel
        go_wp2_with fail
        go_ret
        exact ⟨by first | rfl | simp, Inside.refl _ _ _⟩
    · obtain ⟨b, cap, vs, l, g, rfl, hb1, hb2, hb3, g0, g1, g2, hf, hin, hd, h3⟩ := hx.parts (by omega)
      have HR : Hid (Rem t b 0 vs l g w) := Lib.hid ⟨hb3, fun i _ h => g0 i h, fun i _ h => g1 i h, fun i _ h => g2 i h, hf, fun i _ h => h3 i h⟩
      have HIN := Lib.hid hin
      have HD := Lib.hid hd
      have HCS := Lib.hid hcs
      have HIH := Lib.hid ih
      have HM := Lib.hid hm
      have HCE := Lib.hid hce
      obtain ⟨L, hL⟩ : ∃ L, t.ks.length = L := ⟨_, rfl⟩
      have HL := Lib.hid hL
      rw [hL]
      rw [hL] at hce
      have hLc : L ≤ c := by omega
      have hmono : ∀ j, j ≤ L → ((List.range j).map cf).sum ≤ ((List.range L).map cf).sum := fun j h => sum_mono cf h
      have HMONO := Lib.hid hmono
      have HCE2 := Lib.hid hce
      clear ih hcs hx hm hc g0 g1 g2 hf hin hd h3 hL hce hmono
      go_enter Try.func63, Try.ntmps63
      go_wp2_with fail
      go_loopw [1, 5] (fun kv i wr => ∃ (j q : Nat), j ≤ L ∧ i = .int .i64 j ∧ kv = .int .i64 q ∧ q ≤ 100000000 ∧ Hid (q = K + 2 * (j + ((List.range j).map cf).sum)) ∧ Hid (Rem t b j vs l g wr) ∧ Inside lo hi w wr) (fun _ i _ => L - (intOf i).toNat)
      case atStart => exact ⟨0, K, Nat.zero_le _, rfl, rfl, by omega, Lib.hid (by simp), HR, Inside.refl _ _ _⟩
      case round =>
        obtain ⟨j, q, hj, rfl, rfl, hq, hqe, hrem, hI⟩ := hrel
        have HI := Lib.hid hI
        by_cases hlt : j < L
        · have hji : (j : Int) < (L : Int) := by omega
          have hjt : j < t.ks.length := by rw [HL.out]; exact hlt
          have HJT := Lib.hid hjt
          have y0 := hrem.out.c0 j (Nat.le_refl _) hjt
          have y1 := hrem.out.c1 j (Nat.le_refl _) hjt
          have y2 := hrem.out.c2 j (Nat.le_refl _) hjt
          have z0 := hrem.out.fz (j * 3) (by omega)
          have z1 := hrem.out.fz (j * 3 + 1) (by omega)
          have hkid := hrem.out.ty j (Nat.le_refl _) hjt
          obtain ⟨ai, ci, hvs, _⟩ := hkid.at.slice
          rw [hvs] at y2
          have hqn : q + 2 + 2 * cf j = K + 2 * (j + 1 + ((List.range (j + 1)).map cf).sum) := by rw [sum_succ, hqe.out]; omega
          have hqb : q + 2 + 2 * cf j ≤ 100000000 := by
            have h1 := HMONO.out (j + 1) (by omega)
            have h2 := HCE2.out
            omega
          have hs2 : ∀ u0 u1 : Value, TyIn ((wr.setCell ⟨b, j * 3, none⟩ u0).setCell ⟨b, j * 3 + 1, none⟩ u1) (l j) (g j) (t.ks.getD j Ty.dummy) (vs j) := fun u0 u1 => hkid.keep (by simp) (fun x h1 h2 _ => by
            have hxb : x ≠ b := by rcases (HIN.out j hjt).2.2 with h | h <;> omega
            rw [heap_setCell_other _ ⟨b, j * 3 + 1, none⟩ x _ hxb, heap_setCell_other _ ⟨b, j * 3, none⟩ x _ hxb])
          have HS2 := Lib.hid hs2
          rw [hvs] at HS2
          have hsm : SizeOf.sizeOf (t.ks.getD j Ty.dummy) < m := by have h1 := Ty.kid_lt t j hjt; have h2 := HM.out; omega
          have HCALL := Lib.hid (fun (W : World) (hW : TyIn W (l j) (g j) (t.ks.getD j Ty.dummy) (.slice ai (t.ks.getD j Ty.dummy).ks.length ci)) => HIH.out _ (cf j) _ (l j) (g j) (q + 2) W hsm (HCS.out j hjt) hW (by omega))
          obtain ⟨x, hxx⟩ : ∃ x, t.ks.getD j Ty.dummy = x := ⟨_, rfl⟩
          rw [hxx] at y0 y1 y2 HS2 HCALL
          have HQN := Lib.hid hqn
          clear hkid hvs hs2 hsm hxx hqn hqe hjt hI
          go_wp2_with fail
          go_at_call 63
          refine (HCALL.out _ (HS2.out _ _)).mono ?_
          rintro e w2 ⟨rfl, hI2⟩
          have hrem2 := hrem.out.step HJT.out (fun i h => (HIN.out i h).2.2) HD.out hI2
          have HREM2 := Lib.hid hrem2
          have hI3 := (HI.out.trans ((Inside.set wr (j * 3) _ hb1 hb2).trans (Inside.set _ (j * 3 + 1) _ hb1 hb2))).trans (hI2.wide (HIN.out j HJT.out).1 (HIN.out j HJT.out).2.1)
          have HI3 := Lib.hid hI3
          clear hrem2 hI3 hI2
          go_wp2_with fail
          exact ⟨⟨j + 1, _, by omega, by go_num, rfl, hqb, HQN, HREM2, HI3.out⟩, by simp [intOf]; omega⟩
        · have hji : ¬ (j : Int) < (L : Int) := by omega
          have hjl : j = L := by omega
          have hqf : q = K + 2 * c := by rw [hqe.out, hjl, HCE2.out]
          clear hlt hI hqe hrem
          subst hjl
          subst hqf
          go_wp2_with fail
          go_ret
          exact ⟨rfl, HI.out⟩

theorem markType_any (t : Ty) (c : Nat) (v : Value) (lo hi : Nat) (K : Nat) (w : World) (hc : Cnt t c) (hx : TyIn w lo hi t v) (hK : K + 2 * c ≤ 100000000) :
    Calls Try.prog 30 #[.agg #[.int .i64 t.k, .int .i64 t.n, v], .int .i64 K] w fun e w' => e = .returned (.int .i64 ((K + 2 * c : Nat) : Int)) ∧ Inside lo hi w w' := by
  obtain ⟨a, cap, rfl, hlen⟩ := hx.at.slice
  have HX := Lib.hid hx
  have HC := Lib.hid hc
  have HA0 : Hid (Inside lo hi w (w.alloc (.cells #[.int .i64 t.k, .int .i64 t.n, .slice a t.ks.length cap] 28))) := Lib.hid (by
    have hb := (Below.refl w.heap.size w).alloc (Nat.le_refl _) (.cells #[.int .i64 t.k, .int .i64 t.n, .slice a t.ks.length cap] 28)
    exact ⟨hb.os, hb.tape, hb.output, hb.size, fun x hx _ => hb.block x hx⟩)
  clear hx hc
  go_enter Try.func30, Try.ntmps30
  go_wp2_with fail
  go_at_call 63
  refine (markTypeS_any _ t c _ lo hi K _ (Nat.lt_succ_self _) HC.out (HX.out.kept ((Below.refl _ _).alloc (Nat.le_refl _) _)) hK).mono ?_
  rintro e w1 ⟨rfl, hI⟩
  have HI := Lib.hid (HA0.out.trans hI)
  clear hI
  go_wp2_with fail
  go_ret
  exact ⟨rfl, HI.out⟩

end Go.Proofs.Ytjciindcdcgclaa
