/-
The exact laws' copies of a type: a tree in blocks of its own; what was in memory stays.
A type that came in as an argument lies in memory as a tree: from the reading of the argument to the tree. For every type that can be read.
The shape of a type and the number of its nodes. Plain facts.
-/
import Derived.Test.YtjhccdioainibaaProg
import Derived.Test.YtjhccdioainibaaW1
import Derived.Deep.Slices
import Derived.BigQuiet
import Derived.Deep.RegionHeld3
import Derived.Deep.DeepCutAuto
import Derived.Lib.SmallJoins
import Derived.ProofKit
namespace Go.Proofs.Ytjhccdioainibaa
open Go.RowKit

theorem Try.infoType : (Try.prog.info? 28).map (fun i => (i.zero, i.size, i.bytes)) = some (some (.agg #[.int .i64 0, .int .i64 0, .slice none 0 0]), 3, 40) := by kernel_rfl
def ToPost (t : Ty) (w : World) (e : Ending) (w' : World) : Prop := ∃ v, e = .returned (.agg #[.int .i64 t.k, .int .i64 t.n, v]) ∧ TyIn w' w.heap.size w'.heap.size t v ∧ Below w.heap.size w w'
def ToPostS (t : Ty) (w : World) (e : Ending) (w' : World) : Prop := ∃ v, e = .returned v ∧ TyIn w' w.heap.size w'.heap.size t v ∧ Below w.heap.size w w'
/-- A row that is being filled: the first j operands lie in it. -/
structure Fill (t : Ty) (B j : Nat) (w : World) (xs : List Value) (vs : Nat → Value) (l h : Nat → Nat) : Prop where
  own : w.ownsRow B 28 3 (.slice (some ⟨B, 0, none⟩) t.ks.length t.ks.length) t.ks.length xs
  x0 : ∀ i, i < j → xs[i * 3]? = some (.int .i64 (t.ks.getD i Ty.dummy).k)
  x1 : ∀ i, i < j → xs[i * 3 + 1]? = some (.int .i64 (t.ks.getD i Ty.dummy).n)
  x2 : ∀ i, i < j → xs[i * 3 + 2]? = some (vs i)
  lo : ∀ i, i < j → B < l i ∧ h i ≤ w.heap.size
  di : ∀ i k, i < k → k < j → h i ≤ l k
  ty : ∀ i, i < j → TyIn w (l i) (h i) (t.ks.getD i Ty.dummy) (vs i)
theorem own_block {w : World} {B g n cap sz : Nat} {e : TypeId} {xs : List Value} (h : w.ownsRow B e sz (.slice (some ⟨g, 0, none⟩) n cap) n xs) : B ≤ g ∧ g < w.heap.size := h.lt g rfl
theorem row_own {w : World} {B g n cap sz : Nat} {e : TypeId} {xs : List Value} (h : w.ownsRow B e sz (.slice (some ⟨g, 0, none⟩) n cap) n xs) : Row w g := by
  refine ⟨(h.lt g rfl).2, ?_⟩
  rcases h.2 with ⟨h', _⟩ | ⟨g', cap', cur, h', _, hg, _⟩
  · simp at h'
  · simp at h'; obtain ⟨rfl, _⟩ := h'; exact ⟨cur, e, hg⟩
theorem own_len {w : World} {B n sz : Nat} {e : TypeId} {v : Value} {xs : List Value} (h : w.ownsRow B e sz v n xs) : xs.length = n * sz := h.1
theorem own_below {w w' : World} {B n sz : Nat} {e : TypeId} {v : Value} {xs : List Value} (h : w.ownsRow B e sz v n xs) (hb : Below w.heap.size w w') : w'.ownsRow B e sz v n xs := by
  obtain ⟨hl, h | ⟨g, cap, cur, rfl, hb', ho, h1, h2, h3, h4⟩⟩ := h
  · exact ⟨hl, .inl h⟩
  · exact ⟨hl, .inr ⟨g, cap, cur, rfl, hb', (hb.block g (Array.getElem?_eq_some_iff.1 ho).1).trans ho, h1, h2, h3, h4⟩⟩
theorem Fill.below {t : Ty} {B j : Nat} {w w' : World} {xs : List Value} {vs : Nat → Value} {l h : Nat → Nat} (f : Fill t B j w xs vs l h) (hb : Below w.heap.size w w') : Fill t B j w' xs vs l h :=
  ⟨own_below f.own hb, f.x0, f.x1, f.x2, fun i hi => ⟨(f.lo i hi).1, Nat.le_trans (f.lo i hi).2 hb.size⟩, f.di, fun i hi => (f.ty i hi).kept hb⟩
/-- One more operand. -/
theorem Fill.step {t : Ty} {B j : Nat} {w w1 : World} {xs : List Value} {vs : Nat → Value} {l h : Nat → Nat} {v : Value} (f : Fill t B j w xs vs l h) (hj : j < t.ks.length) (hb : Below w.heap.size w w1)
    (ht : TyIn w1 w.heap.size w1.heap.size (t.ks.getD j Ty.dummy) v) :
    ∃ xs' vs' l' h', Fill t B (j + 1) (((w1.setCell ⟨B, j * 3, none⟩ (.int .i64 (t.ks.getD j Ty.dummy).k)).setCell ⟨B, j * 3 + 1, none⟩ (.int .i64 (t.ks.getD j Ty.dummy).n)).setCell ⟨B, j * 3 + 2, none⟩ v) xs' vs' l' h' := by
  have f1 := f.below hb
  obtain ⟨s1, g1⟩ := f1.own.stored (j * 3) (.int .i64 (t.ks.getD j Ty.dummy).k)
  obtain ⟨s2, g2⟩ := s1.stored (j * 3 + 1) (.int .i64 (t.ks.getD j Ty.dummy).n)
  obtain ⟨s3, g3⟩ := s2.stored (j * 3 + 2) v
  have hl := own_len f.own
  have hB := (own_block f.own).2
  obtain ⟨W, hW⟩ : ∃ W, ((w1.setCell ⟨B, j * 3, none⟩ (.int .i64 (t.ks.getD j Ty.dummy).k)).setCell ⟨B, j * 3 + 1, none⟩ (.int .i64 (t.ks.getD j Ty.dummy).n)).setCell ⟨B, j * 3 + 2, none⟩ v = W := ⟨_, rfl⟩
  have hsz : W.heap.size = w1.heap.size := by rw [← hW]; simp
  have hkeep : ∀ b, b ≠ B → b < w1.heap.size → W.heap[b]? = w1.heap[b]? := by
    intro b hb hs
    have q1 := g1.block b hs (fun e => hb (by injection e))
    have q2 := g2.block b (Nat.lt_of_lt_of_le hs g1.size) (fun e => hb (by injection e))
    have q3 := g3.block b (Nat.lt_of_lt_of_le hs (Nat.le_trans g1.size g2.size)) (fun e => hb (by injection e))
    rw [← hW]
    exact q3.trans (q2.trans q1)
  rw [hW] at s3 ⊢
  refine ⟨_, fun i => if i = j then v else vs i, fun i => if i = j then w.heap.size else l i, fun i => if i = j then w1.heap.size else h i, s3, ?_, ?_, ?_, ?_, ?_, ?_⟩
  · intro i hi
    by_cases hij : i = j
    · subst hij
      rw [List.getElem?_set_ne (by omega), List.getElem?_set_ne (by omega), List.getElem?_set_self (by omega)]
    · rw [List.getElem?_set_ne (by omega), List.getElem?_set_ne (by omega), List.getElem?_set_ne (by omega)]
      exact f.x0 i (by omega)
  · intro i hi
    by_cases hij : i = j
    · subst hij
      rw [List.getElem?_set_ne (by omega), List.getElem?_set_self (by rw [List.length_set]; omega)]
    · rw [List.getElem?_set_ne (by omega), List.getElem?_set_ne (by omega), List.getElem?_set_ne (by omega)]
      exact f.x1 i (by omega)
  · intro i hi
    by_cases hij : i = j
    · subst hij
      rw [List.getElem?_set_self (by rw [List.length_set, List.length_set]; omega)]; simp
    · rw [List.getElem?_set_ne (by omega), List.getElem?_set_ne (by omega), List.getElem?_set_ne (by omega)]
      simp [hij, f.x2 i (by omega)]
  · intro i hi
    by_cases hij : i = j
    · simp [hij]; omega
    · have := f1.lo i (by omega); simp [hij]; omega
  · intro i k hik hk
    have hij : i ≠ j := by omega
    by_cases hkj : k = j
    · have := f.lo i (by omega); simp [hij, hkj]; omega
    · have := f.di i k hik (by omega); simpa [hij, hkj] using this
  · intro i hi
    by_cases hij : i = j
    · subst hij
      simp only [if_true]
      exact ht.keep (by omega) (fun b h1 h2 h3 => hkeep b (by omega) h3)
    · simp only [hij, if_false]
      have hlo := f.lo i (by omega)
      exact (f1.ty i (by omega)).keep (by omega) (fun b h1 h2 h3 => hkeep b (by omega) h3)
theorem Fill.done {t : Ty} {B : Nat} {w : World} {xs : List Value} {vs : Nat → Value} {l h : Nat → Nat} (f : Fill t B t.ks.length w xs vs l h) (hl : t.ks.length ≤ 9223372036854775807) :
    TyIn w B w.heap.size t (.slice (some ⟨B, 0, none⟩) t.ks.length t.ks.length) := by
  have hb := own_block f.own
  cases t with
  | node k n ks =>
    have hc : ∀ i, i < ks.length → ∀ q, q < 3 → w.cell? ⟨B, i * 3 + q, none⟩ = xs[i * 3 + q]? := fun i hi q hq => f.own.cellAt _ (by show i * 3 + q < ks.length * 3; omega)
    refine .row B w.heap.size k n ks B ks.length vs l h (Nat.le_refl _) hb.2 (row_own f.own) hl (fun i hi => ?_) (fun i hi => ?_) (fun i hi => ?_) (fun i hi => f.own.frozenAt i) (fun i hi => ?_) (fun i j hij hj => f.di i j hij hj) (fun i hi => f.ty i hi)
    · exact (hc i hi 0 (by omega)).trans (f.x0 i hi)
    · exact (hc i hi 1 (by omega)).trans (f.x1 i hi)
    · exact (hc i hi 2 (by omega)).trans (f.x2 i hi)
    · have := f.lo i hi; exact ⟨by omega, this.2, .inl this.1⟩

set_option maxRecDepth 100000 in
set_option maxHeartbeats 4000000 in
theorem toTypeS_of (t : Ty) (v : Value) (w : World) (hx : TyAt w t v) (hsz : t.ks.length ≤ 1048576)
    (H : ∀ i, i < t.ks.length → ∀ (vi : Value) (W : World), TyAt W (t.ks.getD i Ty.dummy) vi → Calls Try.prog 10 #[.agg #[.int .i64 (t.ks.getD i Ty.dummy).k, .int .i64 (t.ks.getD i Ty.dummy).n, vi]] W (ToPost (t.ks.getD i Ty.dummy) W)) :
    Calls Try.prog 27 #[v] w (ToPostS t w) := by
  have HX := Lib.hid hx
  have HH := Lib.hid H
  have HSZ := Lib.hid hsz
  obtain ⟨a, cap, rfl, hlen⟩ := hx.slice
  obtain ⟨L, hL⟩ : ∃ L, t.ks.length = L := ⟨_, rfl⟩
  have HL := Lib.hid hL
  rw [hL] at hlen hsz ⊢
  obtain ⟨i0, hi, hz0, hz1, hz2⟩ := info_parts Try.infoType
  clear hx H hL
  go_enter Try.func27, Try.ntmps27
  go_wp2_with (first | (at_make; refine wpList_make_full _ rfl _ _ 26 rfl w.heap.size 28 i0 (.agg #[.int .i64 0, .int .i64 0, .slice none 0 0]) 3 Try.underlying26 hi hz0 hz1 _ _ _ _ L rfl rfl rfl rfl (by rw [hz2]; omega) (by unfold maxLen; omega) (Nat.le_refl _) ?_; intro w0 hown0 hgrow0))
  have hb0 : Below w.heap.size w w0 := (Below.refl _ _).grown hgrow0 (Nat.le_refl _) (fun q hq => by cases hq)
  go_loopw [4] (fun i wr => ∃ (j : Nat) (xs : List Value) (vs : Nat → Value) (l h : Nat → Nat), j ≤ L ∧ i = .int .i64 j ∧ Hid (Fill t w.heap.size j wr xs vs l h) ∧ Below w.heap.size w wr) (fun i _ => L - (intOf i).toNat)
  case atStart =>
    obtain ⟨xs0, hown1⟩ : ∃ xs, w0.ownsRow w.heap.size 28 3 (.slice (some ⟨w.heap.size, 0, none⟩) L L) L xs := ⟨_, hown0⟩
    refine ⟨0, xs0, fun _ => .int .i64 0, fun _ => 0, fun _ => 0, Nat.zero_le _, rfl, Lib.hid ⟨?_, ?_, ?_, ?_, ?_, ?_, ?_⟩, hb0⟩
    · rw [HL.out]; exact hown1
    all_goals (intros; omega)
  case round =>
    obtain ⟨j, xs, vs, l, h, hj, rfl, hfill, hB⟩ := hrel
    have HB := Lib.hid hB
    by_cases hlt : j < L
    · have hji : (j : Int) < (L : Int) := by omega
      obtain ⟨b, o, cap2, vi, ex, bl, y0, y1, y2, hkid⟩ := (HX.out.kept hB).kid j (by rw [HL.out]; exact hlt)
      have ex1 : a = some ⟨b, o, none⟩ := by injection ex
      subst ex1
      have HKID := Lib.hid hkid
      have hjt : Hid (j < t.ks.length) := Lib.hid (by rw [HL.out]; exact hlt)
      have hBw := hB.size
      clear ex hkid hB hown0 hgrow0 hb0
      go_wp2_with fail
      go_at_call 10
      refine (HH.out j hjt.out vi _ HKID.out).mono ?_
      rintro e w2 ⟨v2, rfl, hty, hb2⟩
      obtain ⟨xs', vs', l', h', hstep⟩ := hfill.out.step hjt.out hb2 hty
      have HSTEP := Lib.hid hstep
      have hf2 := hfill.out.below hb2
      have hln := own_len hf2.own
      have hlt2 := own_block hf2.own
      have hq0 : j * 3 < xs.length := by rw [hln]; have := hjt.out; omega
      have hq1 : j * 3 + 1 < xs.length := by rw [hln]; have := hjt.out; omega
      have hq2 : j * 3 + 2 < xs.length := by rw [hln]; have := hjt.out; omega
      have c0 := (hf2.own.cellAt (j * 3) (by rw [← hln]; exact hq0)).trans (List.getElem?_eq_getElem hq0)
      have c1 := (hf2.own.cellAt (j * 3 + 1) (by rw [← hln]; exact hq1)).trans (List.getElem?_eq_getElem hq1)
      have c2 := (hf2.own.cellAt (j * 3 + 2) (by rw [← hln]; exact hq2)).trans (List.getElem?_eq_getElem hq2)
      have f0 := hf2.own.frozenAt (j * 3)
      have f1 := hf2.own.frozenAt (j * 3 + 1)
      have f2 := hf2.own.frozenAt (j * 3 + 2)
      obtain ⟨a2, k2, rfl, _⟩ := hty.at.slice
      have HB2 := Lib.hid (HB.out.trans (hb2.mono hBw))
      generalize xs[j * 3] = q0 at c0
      generalize xs[j * 3 + 1] = q1 at c1
      generalize xs[j * 3 + 2] = q2 at c2
      clear hstep hf2 hln hq0 hq1 hq2 hty hb2 hlt2 hfill
      go_wp2_with fail
      exact ⟨⟨j + 1, xs', vs', l', h', by omega, by go_num, HSTEP, ((HB2.out.setCell (p := ⟨w.heap.size, j * 3, none⟩) (Nat.le_refl _) _).setCell (p := ⟨w.heap.size, j * 3 + 1, none⟩) (Nat.le_refl _) _).setCell (p := ⟨w.heap.size, j * 3 + 2, none⟩) (Nat.le_refl _) _⟩, by simp [intOf]; omega⟩
    · have hji : ¬ (j : Int) < (L : Int) := by omega
      have hjl : j = L := by omega
      clear hB hlt hown0 hgrow0 hb0
      go_wp2_with fail
      go_ret
      refine ⟨_, rfl, ?_, HB.out⟩
      have h1 := hfill.out
      rw [hjl, ← HL.out] at h1
      have h2 := h1.done (by rw [HL.out]; exact hlen)
      rw [HL.out] at h2
      exact h2

set_option maxRecDepth 100000 in
set_option maxHeartbeats 2000000 in
theorem toType_any (m : Nat) : ∀ (t : Ty) (c : Nat) (v : Value) (w : World), SizeOf.sizeOf t < m → Cnt t c → c ≤ 1048576 → TyAt w t v →
    Calls Try.prog 10 #[.agg #[.int .i64 t.k, .int .i64 t.n, v]] w (ToPost t w) := by
  induction m with
  | zero => intro t c v w h; exact absurd h (Nat.not_lt_zero _)
  | succ m ih =>
    intro t c v w hm hc hcm hx
    obtain ⟨cf, hce, hcs⟩ : ∃ cf : Nat → Nat, c = t.ks.length + ((List.range t.ks.length).map cf).sum ∧ ∀ i, i < t.ks.length → Cnt (t.ks.getD i Ty.dummy) (cf i) := by
      cases hc with
      | node k n ks c h => exact ⟨c, rfl, h⟩
    have hls : t.ks.length ≤ 1048576 := by omega
    have HSUB : Hid (∀ (v' : Value) (W : World), TyAt W t v' → Calls Try.prog 27 #[v'] W (ToPostS t W)) := Lib.hid (fun v' W h => toTypeS_of t v' W h hls (fun i hi vi W' hk => ih _ (cf i) vi W' (by have := Ty.kid_lt t i hi; omega) (hcs i hi) (by
      have h1 := sum_mono cf (show i + 1 ≤ t.ks.length by omega)
      rw [sum_succ] at h1
      omega) hk))
    have HX := Lib.hid hx
    obtain ⟨a, cap, rfl, hlen⟩ := hx.slice
    clear hx hc hcs hce hm ih
    go_enter Try.func10, Try.ntmps10
    go_wp2_with fail
    have p0 : (((w.alloc (.cells #[.int .i64 t.k, .int .i64 t.n, .slice a t.ks.length cap] 24)).alloc (.cells #[.int .i64 0, .int .i64 0, .slice none 0 0] 28)).alloc (.cells #[.int .i64 t.k, .int .i64 t.n, .slice none 0 0] 28)).cell? ⟨w.heap.size + 1, 0, none⟩ = some (.int .i64 0) := by go_simp
    have pf0 : (((w.alloc (.cells #[.int .i64 t.k, .int .i64 t.n, .slice a t.ks.length cap] 24)).alloc (.cells #[.int .i64 0, .int .i64 0, .slice none 0 0] 28)).alloc (.cells #[.int .i64 t.k, .int .i64 t.n, .slice none 0 0] 28)).frozen? ⟨w.heap.size + 1, 0, none⟩ = false := by go_simp
    have p1 : (((w.alloc (.cells #[.int .i64 t.k, .int .i64 t.n, .slice a t.ks.length cap] 24)).alloc (.cells #[.int .i64 0, .int .i64 0, .slice none 0 0] 28)).alloc (.cells #[.int .i64 t.k, .int .i64 t.n, .slice none 0 0] 28)).cell? ⟨w.heap.size + 1, 1, none⟩ = some (.int .i64 0) := by go_simp
    have pf1 : (((w.alloc (.cells #[.int .i64 t.k, .int .i64 t.n, .slice a t.ks.length cap] 24)).alloc (.cells #[.int .i64 0, .int .i64 0, .slice none 0 0] 28)).alloc (.cells #[.int .i64 t.k, .int .i64 t.n, .slice none 0 0] 28)).frozen? ⟨w.heap.size + 1, 1, none⟩ = false := by go_simp
    have p2 : (((w.alloc (.cells #[.int .i64 t.k, .int .i64 t.n, .slice a t.ks.length cap] 24)).alloc (.cells #[.int .i64 0, .int .i64 0, .slice none 0 0] 28)).alloc (.cells #[.int .i64 t.k, .int .i64 t.n, .slice none 0 0] 28)).cell? ⟨w.heap.size + 1, 2, none⟩ = some (.slice none 0 0) := by go_simp
    have pf2 : (((w.alloc (.cells #[.int .i64 t.k, .int .i64 t.n, .slice a t.ks.length cap] 24)).alloc (.cells #[.int .i64 0, .int .i64 0, .slice none 0 0] 28)).alloc (.cells #[.int .i64 t.k, .int .i64 t.n, .slice none 0 0] 28)).frozen? ⟨w.heap.size + 1, 2, none⟩ = false := by go_simp
    have q0 : (((w.alloc (.cells #[.int .i64 t.k, .int .i64 t.n, .slice a t.ks.length cap] 24)).alloc (.cells #[.int .i64 0, .int .i64 0, .slice none 0 0] 28)).alloc (.cells #[.int .i64 t.k, .int .i64 t.n, .slice none 0 0] 28)).cell? ⟨w.heap.size + 1 + 1, 0, none⟩ = some (.int .i64 t.k) := by go_simp
    have qf0 : (((w.alloc (.cells #[.int .i64 t.k, .int .i64 t.n, .slice a t.ks.length cap] 24)).alloc (.cells #[.int .i64 0, .int .i64 0, .slice none 0 0] 28)).alloc (.cells #[.int .i64 t.k, .int .i64 t.n, .slice none 0 0] 28)).frozen? ⟨w.heap.size + 1 + 1, 0, none⟩ = false := by go_simp
    have q1 : (((w.alloc (.cells #[.int .i64 t.k, .int .i64 t.n, .slice a t.ks.length cap] 24)).alloc (.cells #[.int .i64 0, .int .i64 0, .slice none 0 0] 28)).alloc (.cells #[.int .i64 t.k, .int .i64 t.n, .slice none 0 0] 28)).cell? ⟨w.heap.size + 1 + 1, 1, none⟩ = some (.int .i64 t.n) := by go_simp
    have qf1 : (((w.alloc (.cells #[.int .i64 t.k, .int .i64 t.n, .slice a t.ks.length cap] 24)).alloc (.cells #[.int .i64 0, .int .i64 0, .slice none 0 0] 28)).alloc (.cells #[.int .i64 t.k, .int .i64 t.n, .slice none 0 0] 28)).frozen? ⟨w.heap.size + 1 + 1, 1, none⟩ = false := by go_simp
    have q2 : (((w.alloc (.cells #[.int .i64 t.k, .int .i64 t.n, .slice a t.ks.length cap] 24)).alloc (.cells #[.int .i64 0, .int .i64 0, .slice none 0 0] 28)).alloc (.cells #[.int .i64 t.k, .int .i64 t.n, .slice none 0 0] 28)).cell? ⟨w.heap.size + 1 + 1, 2, none⟩ = some (.slice none 0 0) := by go_simp
    have qf2 : (((w.alloc (.cells #[.int .i64 t.k, .int .i64 t.n, .slice a t.ks.length cap] 24)).alloc (.cells #[.int .i64 0, .int .i64 0, .slice none 0 0] 28)).alloc (.cells #[.int .i64 t.k, .int .i64 t.n, .slice none 0 0] 28)).frozen? ⟨w.heap.size + 1 + 1, 2, none⟩ = false := by go_simp
    have hzz : (((w.alloc (.cells #[.int .i64 t.k, .int .i64 t.n, .slice a t.ks.length cap] 24)).alloc (.cells #[.int .i64 0, .int .i64 0, .slice none 0 0] 28)).alloc (.cells #[.int .i64 t.k, .int .i64 t.n, .slice none 0 0] 28)).heap.size = w.heap.size + 3 := by simp
    have hbb : Below w.heap.size w (((w.alloc (.cells #[.int .i64 t.k, .int .i64 t.n, .slice a t.ks.length cap] 24)).alloc (.cells #[.int .i64 0, .int .i64 0, .slice none 0 0] 28)).alloc (.cells #[.int .i64 t.k, .int .i64 t.n, .slice none 0 0] 28)) := (((Below.refl _ _).alloc (Nat.le_refl _) _).alloc (by simp) _).alloc (by simp; omega) _
    generalize (((w.alloc (.cells #[.int .i64 t.k, .int .i64 t.n, .slice a t.ks.length cap] 24)).alloc (.cells #[.int .i64 0, .int .i64 0, .slice none 0 0] 28)).alloc (.cells #[.int .i64 t.k, .int .i64 t.n, .slice none 0 0] 28)) = W3 at *
    go_at_call 27
    refine (HSUB.out _ W3 (HX.out.kept hbb)).mono ?_
    rintro e w1 ⟨v1, rfl, hty, hb1⟩
    obtain ⟨a1, k1, rfl, _⟩ := hty.at.slice
    replace p0 := (hb1.cell (p := ⟨w.heap.size + 1, 0, none⟩) (by show w.heap.size + 1 < _; omega)).trans p0
    replace pf0 := (hb1.frozen (p := ⟨w.heap.size + 1, 0, none⟩) (by show w.heap.size + 1 < _; omega)).trans pf0
    replace p1 := (hb1.cell (p := ⟨w.heap.size + 1, 1, none⟩) (by show w.heap.size + 1 < _; omega)).trans p1
    replace pf1 := (hb1.frozen (p := ⟨w.heap.size + 1, 1, none⟩) (by show w.heap.size + 1 < _; omega)).trans pf1
    replace p2 := (hb1.cell (p := ⟨w.heap.size + 1, 2, none⟩) (by show w.heap.size + 1 < _; omega)).trans p2
    replace pf2 := (hb1.frozen (p := ⟨w.heap.size + 1, 2, none⟩) (by show w.heap.size + 1 < _; omega)).trans pf2
    replace q0 := (hb1.cell (p := ⟨w.heap.size + 1 + 1, 0, none⟩) (by show w.heap.size + 1 + 1 < _; omega)).trans q0
    replace qf0 := (hb1.frozen (p := ⟨w.heap.size + 1 + 1, 0, none⟩) (by show w.heap.size + 1 + 1 < _; omega)).trans qf0
    replace q1 := (hb1.cell (p := ⟨w.heap.size + 1 + 1, 1, none⟩) (by show w.heap.size + 1 + 1 < _; omega)).trans q1
    replace qf1 := (hb1.frozen (p := ⟨w.heap.size + 1 + 1, 1, none⟩) (by show w.heap.size + 1 + 1 < _; omega)).trans qf1
    replace q2 := (hb1.cell (p := ⟨w.heap.size + 1 + 1, 2, none⟩) (by show w.heap.size + 1 + 1 < _; omega)).trans q2
    replace qf2 := (hb1.frozen (p := ⟨w.heap.size + 1 + 1, 2, none⟩) (by show w.heap.size + 1 + 1 < _; omega)).trans qf2
    have HTY := Lib.hid hty
    have HB1 := Lib.hid (hbb.trans (hb1.mono (by omega)))
    have hz1 : w.heap.size + 3 ≤ w1.heap.size := by have := hb1.size; omega
    have HZ := Lib.hid hzz
    clear hty hb1 hbb hzz
    go_wp2_with fail
    refine bodyPost_ret (v := .agg #[.int .i64 t.k, .int .i64 t.n, .slice a1 t.ks.length k1]) (by simp [results, Try.results10, go_sem, p0, p1, p2]) rfl ⟨_, rfl, ?_, ?_⟩
    · have hkeep : ∀ b, w.heap.size + 3 ≤ b → ((((w1.setCell ⟨w.heap.size + 1 + 1, 2, none⟩ (.slice a1 t.ks.length k1)).setCell ⟨w.heap.size + 1, 0, none⟩ (.int .i64 t.k)).setCell ⟨w.heap.size + 1, 1, none⟩ (.int .i64 t.n)).setCell ⟨w.heap.size + 1, 2, none⟩ (.slice a1 t.ks.length k1)).heap[b]? = w1.heap[b]? := by
        intro b hb
        rw [heap_setCell_other _ ⟨w.heap.size + 1, 2, none⟩ b _ (by show b ≠ w.heap.size + 1; omega), heap_setCell_other _ ⟨w.heap.size + 1, 1, none⟩ b _ (by show b ≠ w.heap.size + 1; omega), heap_setCell_other _ ⟨w.heap.size + 1, 0, none⟩ b _ (by show b ≠ w.heap.size + 1; omega), heap_setCell_other _ ⟨w.heap.size + 1 + 1, 2, none⟩ b _ (by show b ≠ w.heap.size + 1 + 1; omega)]
      have h1 := HTY.out
      rw [HZ.out] at h1
      refine TyIn.wide (h1.keep (by simp) (fun b h1 _ _ => hkeep b h1)) (by omega) (by simp)
    · exact (((HB1.out.setCell (p := ⟨w.heap.size + 1 + 1, 2, none⟩) (by show w.heap.size ≤ w.heap.size + 1 + 1; omega) _).setCell (p := ⟨w.heap.size + 1, 0, none⟩) (by show w.heap.size ≤ w.heap.size + 1; omega) _).setCell (p := ⟨w.heap.size + 1, 1, none⟩) (by show w.heap.size ≤ w.heap.size + 1; omega) _).setCell (p := ⟨w.heap.size + 1, 2, none⟩) (by show w.heap.size ≤ w.heap.size + 1; omega) _

end Go.Proofs.Ytjhccdioainibaa

namespace Go.Proofs.Ytjhccdioainibaa
open Go.RowKit

instance : Inhabited Ty := ⟨Ty.dummy⟩
theorem addr_add (b o n m : Nat) : ((⟨b, o, none⟩ : Addr).add n).add m = ⟨b, o + n + m, none⟩ := by
  unfold Addr.add
  by_cases hn : n = 0
  · by_cases hm : m = 0
    · subst hn; subst hm; rfl
    · subst hn; simp [hm]
  · by_cases hm : m = 0
    · subst hm; simp [hn]
    · simp [hn, hm]
theorem cellsTy : Try.prog.cellsOf 24 = 3 := by kernel_rfl
theorem cellsInt : Try.prog.cellsOf 3 = 1 := by kernel_rfl
theorem cellsKids : Try.prog.cellsOf 22 = 1 := by kernel_rfl
set_option maxRecDepth 100000 in
/-- The cells of one type that was read. -/
theorem ty_of_trod {H : Type} {enc : TypeId × Value → H} {w : World} {base : Nat} {spare : Nat → Bool} {held : Bool} :
    ∀ (fuel : Nat) (cs : List Value) (x : DataW H × List MemPlace), DataW.trod enc Try.prog w base spare held fuel 24 cs = some x →
      ∃ (t : Ty) (v : Value), cs = [.int .i64 t.k, .int .i64 t.n, v] ∧ TyAt w t v := by
  intro fuel
  induction fuel using Nat.strongRecOn with
  | _ fuel ih =>
    intro cs x h
    obtain ⟨xs, n, hfn, rfl, hl, hlen, hf⟩ := DataW.trod_struct Try.underlying24 h
    rw [cellsTy] at hl
    obtain ⟨c0, c1, c2, rfl⟩ : ∃ c0 c1 c2, cs = [c0, c1, c2] := by
      match cs, hl with
      | [c0, c1, c2], _ => exact ⟨c0, c1, c2, rfl⟩
    obtain ⟨y0, y1, y2, rfl⟩ : ∃ y0 y1 y2, xs = [y0, y1, y2] := by
      match xs, hlen with
      | [y0, y1, y2], _ => exact ⟨y0, y1, y2, rfl⟩
    have g0 := hf 0 _ rfl
    have g1 := hf 1 _ rfl
    have g2 := hf 2 _ rfl
    simp [cellsInt, cellsKids] at g0 g1 g2
    obtain ⟨k, e0, _, _⟩ := DataW.trod_int Try.underlying3 g0
    obtain ⟨nn, e1, _, _⟩ := DataW.trod_int Try.underlying3 g1
    simp at e0 e1
    subst e0 e1
    clear hf h g0 g1
    rcases DataW.trod_slice Try.underlying22 g2 with ⟨hc, _⟩ | ⟨a, len, cap, elems, rest, n2, hn2, hc, _, hb, hlc, hm, hel, hall, _, _⟩
    · simp at hc
      subst hc
      exact ⟨.node k nn [], _, rfl, .bare k nn none 0⟩
    · simp at hc
      subst hc
      have step : ∀ i, i < len → ∃ p : Ty × Value, w.cells? base (a.add (i * 3)) 3 = some [.int .i64 p.1.k, .int .i64 p.1.n, p.2] ∧ TyAt w p.1 p.2 := by
        intro i hi
        have h1 := hall i hi
        rw [cellsTy, List.getElem?_eq_getElem (by omega)] at h1
        rcases hcs : w.cells? base (a.add (i * 3)) 3 with _ | cs'
        · rw [hcs] at h1; simp at h1
        · rw [hcs] at h1
          obtain ⟨t, v, rfl, ht⟩ := ih n2 (by omega) cs' _ h1
          exact ⟨(t, v), rfl, ht⟩
      by_cases h0 : len = 0
      · subst h0
        exact ⟨.node k nn [], _, rfl, .bare k nn _ cap⟩
      · obtain ⟨p, hp⟩ := Go.Deep.choose_lt step
        obtain ⟨b, o, spot⟩ := a
        have hspot : spot = none := by
          have h1 := (World.cells?_some (hp 0 (by omega)).1).2.2 0 (by omega)
          simp [Addr.add] at h1
          exact World.cell?_spot h1
        subst hspot
        have key : ∀ i, i < len → ∀ j, j < 3 → w.cell? ⟨b, o + i * 3 + j, none⟩ = ([Value.int .i64 (p i).1.k, .int .i64 (p i).1.n, (p i).2] : List Value)[j]? := by
          intro i hi j hj
          have h1 := (World.cells?_some (hp i hi).1).2.2 j hj
          rwa [addr_add] at h1
        have hbl : b < w.heap.size := World.block_lt_of_cell? w ⟨b, o + 0 * 3 + 0, none⟩ (key 0 (by omega) 0 (by omega))
        have hg : ∀ i, i < len → ((List.range len).map fun i => (p i).1).getD i Ty.dummy = (p i).1 := by
          intro i hi
          simp [List.getD, hi]
        refine ⟨.node k nn ((List.range len).map fun i => (p i).1), _, rfl, ?_⟩
        have e : (((List.range len).map fun i => (p i).1).length) = len := by simp
        have := TyAt.row (w := w) k nn ((List.range len).map fun i => (p i).1) b o cap (fun i => (p i).2) hbl (by rw [e]; unfold maxLen at hm; omega)
          (fun i hi => by rw [e] at hi; rw [hg i hi]; exact key i hi 0 (by omega))
          (fun i hi => by rw [e] at hi; rw [hg i hi]; exact key i hi 1 (by omega))
          (fun i hi => by rw [e] at hi; exact key i hi 2 (by omega))
          (fun i hi => by rw [e] at hi; rw [hg i hi]; exact (hp i hi).2)
        rwa [e] at this

end Go.Proofs.Ytjhccdioainibaa

namespace Go.Proofs.Ytjhccdioainibaa
open Go.RowKit

/-- Whether a node has the fields of its kind. -/
def fieldsB (k n : Int) (l : Nat) : Bool := decide ((k = 1 ∧ n = 0 ∧ l = 0) ∨ ((k = 2 ∨ k = 3) ∧ n = 0 ∧ l = 2) ∨ (k = 4 ∧ 0 ≤ n ∧ n ≤ 25 ∧ l = 0))
theorem fieldsB_iff {k n : Int} {l : Nat} : fieldsB k n l = true ↔ ((k = 1 ∧ n = 0 ∧ l = 0) ∨ ((k = 2 ∨ k = 3) ∧ n = 0 ∧ l = 2) ∨ (k = 4 ∧ 0 ≤ n ∧ n ≤ 25 ∧ l = 0)) := by unfold fieldsB; exact decide_eq_true_iff
/-- The i-th operand. -/
def Ty.kid (t : Ty) (i : Nat) : Ty := t.ks.getD i Ty.dummy
/-- Whether a type is well-formed, down to a depth. -/
def shp : Nat → Ty → Bool
  | 0, _ => false
  | d + 1, t => fieldsB t.k t.n t.ks.length && (List.range t.ks.length).all fun i => shp d (t.ks.getD i Ty.dummy)
/-- The number of nodes, down to a depth. -/
def nd : Nat → Ty → Nat
  | 0, _ => 1
  | d + 1, t => 1 + ((List.range t.ks.length).map fun i => nd d (t.ks.getD i Ty.dummy)).sum
/-- The nodes of the first j operands. -/
def ndk (d : Nat) (t : Ty) (j : Nat) : Nat := ((List.range j).map fun i => nd d (t.ks.getD i Ty.dummy)).sum
theorem ndk_zero (d : Nat) (t : Ty) : ndk d t 0 = 0 := rfl
theorem ndk_succ (d : Nat) (t : Ty) (j : Nat) : ndk d t (j + 1) = ndk d t j + nd d (t.ks.getD j Ty.dummy) := by
  unfold ndk; rw [List.range_succ, List.map_append, List.sum_append]; simp
theorem nd_succ (d : Nat) (t : Ty) : nd (d + 1) t = 1 + ndk d t t.ks.length := rfl
theorem ndk_mono (d : Nat) (t : Ty) {i j : Nat} (h : i ≤ j) : ndk d t i ≤ ndk d t j := by
  induction h with
  | refl => exact Nat.le_refl _
  | step _ ih => rw [ndk_succ]; omega
theorem shp_iff {d : Nat} {t : Ty} : shp (d + 1) t = true ↔ fieldsB t.k t.n t.ks.length = true ∧ ∀ i, i < t.ks.length → shp d (t.ks.getD i Ty.dummy) = true := by
  simp only [shp, Bool.and_eq_true, List.all_eq_true, List.mem_range]
theorem shp_fields {d : Nat} {t : Ty} (h : fieldsB t.k t.n t.ks.length = false) : shp (d + 1) t = false := by
  simp only [shp, h, Bool.false_and]
theorem shp_kid_no {d : Nat} {t : Ty} {i : Nat} (hi : i < t.ks.length) (h : shp d (t.ks.getD i Ty.dummy) = false) : shp (d + 1) t = false := by
  rcases hs : shp (d + 1) t with _ | _
  · rfl
  · have := (shp_iff.1 hs).2 i hi; rw [h] at this; cases this
theorem fieldsB_len {k n : Int} {l : Nat} (h : fieldsB k n l = true) : l ≤ 2 := by
  rcases fieldsB_iff.1 h with ⟨_, _, h⟩ | ⟨_, _, h⟩ | ⟨_, _, _, h⟩ <;> omega
theorem nd_lt : ∀ (d : Nat) (t : Ty), shp d t = true → nd d t + 1 ≤ 2 ^ d := by
  intro d
  induction d with
  | zero => intro t h; cases h
  | succ d ih =>
    intro t h
    obtain ⟨hf, hk⟩ := shp_iff.1 h
    have hl := fieldsB_len hf
    have key : ∀ j, j ≤ t.ks.length → ndk d t j + j ≤ j * 2 ^ d := by
      intro j
      induction j with
      | zero => intro _; simp [ndk_zero]
      | succ j ihj =>
        intro hj
        have h1 := ihj (by omega)
        have h2 := ih _ (hk j (by omega))
        rw [ndk_succ, Nat.succ_mul]
        omega
    have h1 := key _ (Nat.le_refl _)
    rw [nd_succ]
    have h2 : 2 ^ (d + 1) = 2 * 2 ^ d := by rw [Nat.pow_succ]; omega
    have h3 : t.ks.length * 2 ^ d ≤ 2 * 2 ^ d := Nat.mul_le_mul_right _ hl
    have h4 : 0 < 2 ^ d := Nat.pow_pos (by omega)
    by_cases hz : t.ks.length = 2
    · rw [hz] at h1 ⊢; omega
    · have hz' : t.ks.length = 0 ∨ t.ks.length = 1 := by omega
      rcases hz' with hz' | hz' <;> rw [hz'] at h1 ⊢ <;> omega
theorem two_pow_le {d : Nat} (h : d ≤ 16) : 2 ^ d ≤ 65536 := Nat.le_trans (Nat.pow_le_pow_right (by omega) h) (by decide)
theorem nd_le {d : Nat} {t : Ty} (hd : d ≤ 16) (h : shp d t = true) : nd d t ≤ 65536 := by
  have h1 := nd_lt d t h
  have h2 := two_pow_le hd
  omega
theorem nd_pos : ∀ (d : Nat) (t : Ty), 0 < nd d t
  | 0, _ => by simp [nd]
  | d + 1, t => by rw [nd_succ]; omega
/-- Whether a type is valid. -/
def tvT (t : Ty) : Bool := shp 16 t && decide (nd 16 t ≤ 63)
/-- What a count of nodes up to a number may be: exact if it does not exceed it, greater otherwise. -/
def CountTo (n most c : Nat) : Prop := (n ≤ most → c = n) ∧ (most < n → most < c) ∧ c ≤ n
end Go.Proofs.Ytjhccdioainibaa
