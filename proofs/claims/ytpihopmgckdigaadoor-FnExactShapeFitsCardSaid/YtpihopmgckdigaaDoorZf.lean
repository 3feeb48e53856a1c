/-
  The exact laws' copies of a type: a tree in blocks of its own; what was in memory stays.
-/
import Derived.Test.YtpihopmgckdigaaDoorProg
import Derived.Test.YtpihopmgckdigaaDoorZb
import Derived.Test.YtpihopmgckdigaaDoorYd
import Derived.Deep.Slices
import Derived.BigQuiet
import Derived.Deep.RegionHeld3
import Derived.Deep.DeepCutAuto
namespace Go.Proofs.YtpihopmgckdigaaDoor
open Go.RowKit

theorem Tryd.infoType : (Tryd.prog.info? 34).map (fun i => (i.zero, i.size, i.bytes)) = some (some (.agg #[.int .i64 0, .int .i64 0, .slice none 0 0]), 3, 40) := by kernel_rfl
def ToPost (t : Ty) (w : World) (e : Ending) (w' : World) : Prop := ∃ v, e = .returned (.agg #[.int .i64 t.k, .int .i64 t.n, v]) ∧ TyIn w' w.heap.size w'.heap.size t v ∧ Below w.heap.size w w'
def ToPostS (t : Ty) (w : World) (e : Ending) (w' : World) : Prop := ∃ v, e = .returned v ∧ TyIn w' w.heap.size w'.heap.size t v ∧ Below w.heap.size w w'
/-- A row that is being filled: the first j operands lie in it. -/
structure Fill (t : Ty) (B j : Nat) (w : World) (xs : List Value) (vs : Nat → Value) (l h : Nat → Nat) : Prop where
  own : w.ownsRow B 34 3 (.slice (some ⟨B, 0, none⟩) t.ks.length t.ks.length) t.ks.length xs
  x0 : ∀ i, i < j → xs[i * 3]? = some (.int .i64 (t.ks.getD i Ty.dummy).k)
  x1 : ∀ i, i < j → xs[i * 3 + 1]? = some (.int .i64 (t.ks.getD i Ty.dummy).n)
  x2 : ∀ i, i < j → xs[i * 3 + 2]? = some (vs i)
  lo : ∀ i, i < j → B < l i ∧ h i ≤ w.heap.size
  di : ∀ i k, i < k → k < j → h i ≤ l k
  ty : ∀ i, i < j → TyIn w (l i) (h i) (t.ks.getD i Ty.dummy) (vs i)
theorem own_block {w : World} {B g n cap sz : Nat} {e : TypeId} {xs : List Value} (h : w.ownsRow B e sz (.slice (some ⟨g, 0, none⟩) n cap) n xs) : B ≤ g ∧ g < w.heap.size := h.lt g rfl
theorem row_own {w : World} {B g n cap sz : Nat} {e : TypeId} {xs : List Value} (h : w.ownsRow B e sz (.slice (some ⟨g, 0, none⟩) n cap) n xs) : Row w g := by
  refine ⟨(h.lt g rfl).2, ?_⟩
  rcases h.2 with ⟨h', _⟩ | ⟨g', cap', cur, h', _, hg, _⟩
  · simp at h'
  · simp at h'; obtain ⟨rfl, _⟩ := h'; exact ⟨cur, e, hg⟩
theorem own_len {w : World} {B n sz : Nat} {e : TypeId} {v : Value} {xs : List Value} (h : w.ownsRow B e sz v n xs) : xs.length = n * sz := h.1
theorem own_below {w w' : World} {B n sz : Nat} {e : TypeId} {v : Value} {xs : List Value} (h : w.ownsRow B e sz v n xs) (hb : Below w.heap.size w w') : w'.ownsRow B e sz v n xs := by
  obtain ⟨hl, h | ⟨g, cap, cur, rfl, hb', ho, h1, h2, h3, h4⟩⟩ := h
  · exact ⟨hl, .inl h⟩
  · exact ⟨hl, .inr ⟨g, cap, cur, rfl, hb', (hb.block g (Array.getElem?_eq_some_iff.1 ho).1).trans ho, h1, h2, h3, h4⟩⟩
theorem Fill.below {t : Ty} {B j : Nat} {w w' : World} {xs : List Value} {vs : Nat → Value} {l h : Nat → Nat} (f : Fill t B j w xs vs l h) (hb : Below w.heap.size w w') : Fill t B j w' xs vs l h :=
  ⟨own_below f.own hb, f.x0, f.x1, f.x2, fun i hi => ⟨(f.lo i hi).1, Nat.le_trans (f.lo i hi).2 hb.size⟩, f.di, fun i hi => (f.ty i hi).kept hb⟩
/-- One more operand. -/
theorem Fill.step {t : Ty} {B j : Nat} {w w1 : World} {xs : List Value} {vs : Nat → Value} {l h : Nat → Nat} {v : Value} (f : Fill t B j w xs vs l h) (hj : j < t.ks.length) (hb : Below w.heap.size w w1)
    (ht : TyIn w1 w.heap.size w1.heap.size (t.ks.getD j Ty.dummy) v) :
    ∃ xs' vs' l' h', Fill t B (j + 1) (((w1.setCell ⟨B, j * 3, none⟩ (.int .i64 (t.ks.getD j Ty.dummy).k)).setCell ⟨B, j * 3 + 1, none⟩ (.int .i64 (t.ks.getD j Ty.dummy).n)).setCell ⟨B, j * 3 + 2, none⟩ v) xs' vs' l' h' := by
  have f1 := f.below hb
  obtain ⟨s1, g1⟩ := f1.own.stored (j * 3) (.int .i64 (t.ks.getD j Ty.dummy).k)
  obtain ⟨s2, g2⟩ := s1.stored (j * 3 + 1) (.int .i64 (t.ks.getD j Ty.dummy).n)
  obtain ⟨s3, g3⟩ := s2.stored (j * 3 + 2) v
  have hl := own_len f.own
  have hB := (own_block f.own).2
  obtain ⟨W, hW⟩ : ∃ W, ((w1.setCell ⟨B, j * 3, none⟩ (.int .i64 (t.ks.getD j Ty.dummy).k)).setCell ⟨B, j * 3 + 1, none⟩ (.int .i64 (t.ks.getD j Ty.dummy).n)).setCell ⟨B, j * 3 + 2, none⟩ v = W := ⟨_, rfl⟩
  have hsz : W.heap.size = w1.heap.size := by rw [← hW]; simp
  have hkeep : ∀ b, b ≠ B → b < w1.heap.size → W.heap[b]? = w1.heap[b]? := by
    intro b hb hs
    have q1 := g1.block b hs (fun e => hb (by injection e))
    have q2 := g2.block b (Nat.lt_of_lt_of_le hs g1.size) (fun e => hb (by injection e))
    have q3 := g3.block b (Nat.lt_of_lt_of_le hs (Nat.le_trans g1.size g2.size)) (fun e => hb (by injection e))
    rw [← hW]
    exact q3.trans (q2.trans q1)
  rw [hW] at s3 ⊢
  refine ⟨_, fun i => if i = j then v else vs i, fun i => if i = j then w.heap.size else l i, fun i => if i = j then w1.heap.size else h i, s3, ?_, ?_, ?_, ?_, ?_, ?_⟩
  · intro i hi
    by_cases hij : i = j
    · subst hij
      rw [List.getElem?_set_ne (by omega), List.getElem?_set_ne (by omega), List.getElem?_set_self (by omega)]
    · rw [List.getElem?_set_ne (by omega), List.getElem?_set_ne (by omega), List.getElem?_set_ne (by omega)]
      exact f.x0 i (by omega)
  · intro i hi
    by_cases hij : i = j
    · subst hij
      rw [List.getElem?_set_ne (by omega), List.getElem?_set_self (by rw [List.length_set]; omega)]
    · rw [List.getElem?_set_ne (by omega), List.getElem?_set_ne (by omega), List.getElem?_set_ne (by omega)]
      exact f.x1 i (by omega)
  · intro i hi
    by_cases hij : i = j
    · subst hij
      rw [List.getElem?_set_self (by rw [List.length_set, List.length_set]; omega)]; simp
    · rw [List.getElem?_set_ne (by omega), List.getElem?_set_ne (by omega), List.getElem?_set_ne (by omega)]
      simp [hij, f.x2 i (by omega)]
  · intro i hi
    by_cases hij : i = j
    · simp [hij]; omega
    · have := f1.lo i (by omega); simp [hij]; omega
  · intro i k hik hk
    have hij : i ≠ j := by omega
    by_cases hkj : k = j
    · have := f.lo i (by omega); simp [hij, hkj]; omega
    · have := f.di i k hik (by omega); simpa [hij, hkj] using this
  · intro i hi
    by_cases hij : i = j
    · subst hij
      simp only [if_true]
      exact ht.keep (by omega) (fun b h1 h2 h3 => hkeep b (by omega) h3)
    · simp only [hij, if_false]
      have hlo := f.lo i (by omega)
      exact (f1.ty i (by omega)).keep (by omega) (fun b h1 h2 h3 => hkeep b (by omega) h3)
theorem Fill.done {t : Ty} {B : Nat} {w : World} {xs : List Value} {vs : Nat → Value} {l h : Nat → Nat} (f : Fill t B t.ks.length w xs vs l h) (hl : t.ks.length ≤ 9223372036854775807) :
    TyIn w B w.heap.size t (.slice (some ⟨B, 0, none⟩) t.ks.length t.ks.length) := by
  have hb := own_block f.own
  cases t with
  | node k n ks =>
    have hc : ∀ i, i < ks.length → ∀ q, q < 3 → w.cell? ⟨B, i * 3 + q, none⟩ = xs[i * 3 + q]? := fun i hi q hq => f.own.cellAt _ (by show i * 3 + q < ks.length * 3; omega)
    refine .row B w.heap.size k n ks B ks.length vs l h (Nat.le_refl _) hb.2 (row_own f.own) hl (fun i hi => ?_) (fun i hi => ?_) (fun i hi => ?_) (fun i hi => f.own.frozenAt i) (fun i hi => ?_) (fun i j hij hj => f.di i j hij hj) (fun i hi => f.ty i hi)
    · exact (hc i hi 0 (by omega)).trans (f.x0 i hi)
    · exact (hc i hi 1 (by omega)).trans (f.x1 i hi)
    · exact (hc i hi 2 (by omega)).trans (f.x2 i hi)
    · have := f.lo i hi; exact ⟨by omega, this.2, .inl this.1⟩

set_option maxRecDepth 100000 in
set_option maxHeartbeats 4000000 in
theorem toTypeS_of (t : Ty) (v : Value) (w : World) (hx : TyAt w t v) (hsz : t.ks.length ≤ 1048576)
    (H : ∀ i, i < t.ks.length → ∀ (vi : Value) (W : World), TyAt W (t.ks.getD i Ty.dummy) vi → Calls Tryd.prog 16 #[.agg #[.int .i64 (t.ks.getD i Ty.dummy).k, .int .i64 (t.ks.getD i Ty.dummy).n, vi]] W (ToPost (t.ks.getD i Ty.dummy) W)) :
    Calls Tryd.prog 38 #[v] w (ToPostS t w) := by
  have HX := Lib.hid hx
  have HH := Lib.hid H
  have HSZ := Lib.hid hsz
  obtain ⟨a, cap, rfl, hlen⟩ := hx.slice
  obtain ⟨L, hL⟩ : ∃ L, t.ks.length = L := ⟨_, rfl⟩
  have HL := Lib.hid hL
  rw [hL] at hlen hsz ⊢
  obtain ⟨i0, hi, hz0, hz1, hz2⟩ := info_parts Tryd.infoType
  clear hx H hL
  go_enter Tryd.func38, Tryd.ntmps38
  go_wp2_with (first | (at_make; refine wpList_make_full _ rfl _ _ 32 rfl w.heap.size 34 i0 (.agg #[.int .i64 0, .int .i64 0, .slice none 0 0]) 3 Tryd.underlying32 hi hz0 hz1 _ _ _ _ L rfl rfl rfl rfl (by rw [hz2]; omega) (by unfold maxLen; omega) (Nat.le_refl _) ?_; intro w0 hown0 hgrow0))
  have hb0 : Below w.heap.size w w0 := (Below.refl _ _).grown hgrow0 (Nat.le_refl _) (fun q hq => by cases hq)
  go_loopw [4] (fun i wr => ∃ (j : Nat) (xs : List Value) (vs : Nat → Value) (l h : Nat → Nat), j ≤ L ∧ i = .int .i64 j ∧ Hid (Fill t w.heap.size j wr xs vs l h) ∧ Below w.heap.size w wr) (fun i _ => L - (intOf i).toNat)
  case atStart =>
    obtain ⟨xs0, hown1⟩ : ∃ xs, w0.ownsRow w.heap.size 34 3 (.slice (some ⟨w.heap.size, 0, none⟩) L L) L xs := ⟨_, hown0⟩
    refine ⟨0, xs0, fun _ => .int .i64 0, fun _ => 0, fun _ => 0, Nat.zero_le _, rfl, Lib.hid ⟨?_, ?_, ?_, ?_, ?_, ?_, ?_⟩, hb0⟩
    · rw [HL.out]; exact hown1
    all_goals (intros; omega)
  case round =>
    obtain ⟨j, xs, vs, l, h, hj, rfl, hfill, hB⟩ := hrel
    have HB := Lib.hid hB
    by_cases hlt : j < L
    · have hji : (j : Int) < (L : Int) := by omega
      obtain ⟨b, o, cap2, vi, ex, bl, y0, y1, y2, hkid⟩ := (HX.out.kept hB).kid j (by rw [HL.out]; exact hlt)
      have ex1 : a = some ⟨b, o, none⟩ := by injection ex
      subst ex1
      have HKID := Lib.hid hkid
      have hjt : Hid (j < t.ks.length) := Lib.hid (by rw [HL.out]; exact hlt)
      have hBw := hB.size
      clear ex hkid hB hown0 hgrow0 hb0
      go_wp2_with fail
      go_at_call 16
      refine (HH.out j hjt.out vi _ HKID.out).mono ?_
      rintro e w2 ⟨v2, rfl, hty, hb2⟩
      obtain ⟨xs', vs', l', h', hstep⟩ := hfill.out.step hjt.out hb2 hty
      have HSTEP := Lib.hid hstep
      have hf2 := hfill.out.below hb2
      have hln := own_len hf2.own
      have hlt2 := own_block hf2.own
      have hq0 : j * 3 < xs.length := by rw [hln]; have := hjt.out; omega
      have hq1 : j * 3 + 1 < xs.length := by rw [hln]; have := hjt.out; omega
      have hq2 : j * 3 + 2 < xs.length := by rw [hln]; have := hjt.out; omega
      have c0 := (hf2.own.cellAt (j * 3) (by rw [← hln]; exact hq0)).trans (List.getElem?_eq_getElem hq0)
      have c1 := (hf2.own.cellAt (j * 3 + 1) (by rw [← hln]; exact hq1)).trans (List.getElem?_eq_getElem hq1)
      have c2 := (hf2.own.cellAt (j * 3 + 2) (by rw [← hln]; exact hq2)).trans (List.getElem?_eq_getElem hq2)
      have f0 := hf2.own.frozenAt (j * 3)
      have f1 := hf2.own.frozenAt (j * 3 + 1)
      have f2 := hf2.own.frozenAt (j * 3 + 2)
      obtain ⟨a2, k2, rfl, _⟩ := hty.at.slice
      have HB2 := Lib.hid (HB.out.trans (hb2.mono hBw))
      generalize xs[j * 3] = q0 at c0
      generalize xs[j * 3 + 1] = q1 at c1
      generalize xs[j * 3 + 2] = q2 at c2
      clear hstep hf2 hln hq0 hq1 hq2 hty hb2 hlt2 hfill
      go_wp2_with fail
      exact ⟨⟨j + 1, xs', vs', l', h', by omega, by go_num, HSTEP, ((HB2.out.setCell (p := ⟨w.heap.size, j * 3, none⟩) (Nat.le_refl _) _).setCell (p := ⟨w.heap.size, j * 3 + 1, none⟩) (Nat.le_refl _) _).setCell (p := ⟨w.heap.size, j * 3 + 2, none⟩) (Nat.le_refl _) _⟩, by simp [intOf]; omega⟩
    · have hji : ¬ (j : Int) < (L : Int) := by omega
      have hjl : j = L := by omega
      clear hB hlt hown0 hgrow0 hb0
      go_wp2_with fail
      go_ret
      refine ⟨_, rfl, ?_, HB.out⟩
      have h1 := hfill.out
      rw [hjl, ← HL.out] at h1
      have h2 := h1.done (by rw [HL.out]; exact hlen)
      rw [HL.out] at h2
      exact h2

set_option maxRecDepth 100000 in
set_option maxHeartbeats 2000000 in
theorem toType_any (m : Nat) : ∀ (t : Ty) (c : Nat) (v : Value) (w : World), SizeOf.sizeOf t < m → Cnt t c → c ≤ 1048576 → TyAt w t v →
    Calls Tryd.prog 16 #[.agg #[.int .i64 t.k, .int .i64 t.n, v]] w (ToPost t w) := by
  induction m with
  | zero => intro t c v w h; exact absurd h (Nat.not_lt_zero _)
  | succ m ih =>
    intro t c v w hm hc hcm hx
    obtain ⟨cf, hce, hcs⟩ : ∃ cf : Nat → Nat, c = t.ks.length + ((List.range t.ks.length).map cf).sum ∧ ∀ i, i < t.ks.length → Cnt (t.ks.getD i Ty.dummy) (cf i) := by
      cases hc with
      | node k n ks c h => exact ⟨c, rfl, h⟩
    have hls : t.ks.length ≤ 1048576 := by omega
    have HSUB : Hid (∀ (v' : Value) (W : World), TyAt W t v' → Calls Tryd.prog 38 #[v'] W (ToPostS t W)) := Lib.hid (fun v' W h => toTypeS_of t v' W h hls (fun i hi vi W' hk => ih _ (cf i) vi W' (by have := Ty.kid_lt t i hi; omega) (hcs i hi) (by
      have h1 := sum_mono cf (show i + 1 ≤ t.ks.length by omega)
      rw [sum_succ] at h1
      omega) hk))
    have HX := Lib.hid hx
    obtain ⟨a, cap, rfl, hlen⟩ := hx.slice
    clear hx hc hcs hce hm ih
    go_enter Tryd.func16, Tryd.ntmps16
    go_wp2_with fail
    have p0 : (((w.alloc (.cells #[.int .i64 t.k, .int .i64 t.n, .slice a t.ks.length cap] 42)).alloc (.cells #[.int .i64 0, .int .i64 0, .slice none 0 0] 34)).alloc (.cells #[.int .i64 t.k, .int .i64 t.n, .slice none 0 0] 34)).cell? ⟨w.heap.size + 1, 0, none⟩ = some (.int .i64 0) := by go_simp
    have pf0 : (((w.alloc (.cells #[.int .i64 t.k, .int .i64 t.n, .slice a t.ks.length cap] 42)).alloc (.cells #[.int .i64 0, .int .i64 0, .slice none 0 0] 34)).alloc (.cells #[.int .i64 t.k, .int .i64 t.n, .slice none 0 0] 34)).frozen? ⟨w.heap.size + 1, 0, none⟩ = false := by go_simp
    have p1 : (((w.alloc (.cells #[.int .i64 t.k, .int .i64 t.n, .slice a t.ks.length cap] 42)).alloc (.cells #[.int .i64 0, .int .i64 0, .slice none 0 0] 34)).alloc (.cells #[.int .i64 t.k, .int .i64 t.n, .slice none 0 0] 34)).cell? ⟨w.heap.size + 1, 1, none⟩ = some (.int .i64 0) := by go_simp
    have pf1 : (((w.alloc (.cells #[.int .i64 t.k, .int .i64 t.n, .slice a t.ks.length cap] 42)).alloc (.cells #[.int .i64 0, .int .i64 0, .slice none 0 0] 34)).alloc (.cells #[.int .i64 t.k, .int .i64 t.n, .slice none 0 0] 34)).frozen? ⟨w.heap.size + 1, 1, none⟩ = false := by go_simp
    have p2 : (((w.alloc (.cells #[.int .i64 t.k, .int .i64 t.n, .slice a t.ks.length cap] 42)).alloc (.cells #[.int .i64 0, .int .i64 0, .slice none 0 0] 34)).alloc (.cells #[.int .i64 t.k, .int .i64 t.n, .slice none 0 0] 34)).cell? ⟨w.heap.size + 1, 2, none⟩ = some (.slice none 0 0) := by go_simp
    have pf2 : (((w.alloc (.cells #[.int .i64 t.k, .int .i64 t.n, .slice a t.ks.length cap] 42)).alloc (.cells #[.int .i64 0, .int .i64 0, .slice none 0 0] 34)).alloc (.cells #[.int .i64 t.k, .int .i64 t.n, .slice none 0 0] 34)).frozen? ⟨w.heap.size + 1, 2, none⟩ = false := by go_simp
    have q0 : (((w.alloc (.cells #[.int .i64 t.k, .int .i64 t.n, .slice a t.ks.length cap] 42)).alloc (.cells #[.int .i64 0, .int .i64 0, .slice none 0 0] 34)).alloc (.cells #[.int .i64 t.k, .int .i64 t.n, .slice none 0 0] 34)).cell? ⟨w.heap.size + 1 + 1, 0, none⟩ = some (.int .i64 t.k) := by go_simp
    have qf0 : (((w.alloc (.cells #[.int .i64 t.k, .int .i64 t.n, .slice a t.ks.length cap] 42)).alloc (.cells #[.int .i64 0, .int .i64 0, .slice none 0 0] 34)).alloc (.cells #[.int .i64 t.k, .int .i64 t.n, .slice none 0 0] 34)).frozen? ⟨w.heap.size + 1 + 1, 0, none⟩ = false := by go_simp
    have q1 : (((w.alloc (.cells #[.int .i64 t.k, .int .i64 t.n, .slice a t.ks.length cap] 42)).alloc (.cells #[.int .i64 0, .int .i64 0, .slice none 0 0] 34)).alloc (.cells #[.int .i64 t.k, .int .i64 t.n, .slice none 0 0] 34)).cell? ⟨w.heap.size + 1 + 1, 1, none⟩ = some (.int .i64 t.n) := by go_simp
    have qf1 : (((w.alloc (.cells #[.int .i64 t.k, .int .i64 t.n, .slice a t.ks.length cap] 42)).alloc (.cells #[.int .i64 0, .int .i64 0, .slice none 0 0] 34)).alloc (.cells #[.int .i64 t.k, .int .i64 t.n, .slice none 0 0] 34)).frozen? ⟨w.heap.size + 1 + 1, 1, none⟩ = false := by go_simp
    have q2 : (((w.alloc (.cells #[.int .i64 t.k, .int .i64 t.n, .slice a t.ks.length cap] 42)).alloc (.cells #[.int .i64 0, .int .i64 0, .slice none 0 0] 34)).alloc (.cells #[.int .i64 t.k, .int .i64 t.n, .slice none 0 0] 34)).cell? ⟨w.heap.size + 1 + 1, 2, none⟩ = some (.slice none 0 0) := by go_simp
    have qf2 : (((w.alloc (.cells #[.int .i64 t.k, .int .i64 t.n, .slice a t.ks.length cap] 42)).alloc (.cells #[.int .i64 0, .int .i64 0, .slice none 0 0] 34)).alloc (.cells #[.int .i64 t.k, .int .i64 t.n, .slice none 0 0] 34)).frozen? ⟨w.heap.size + 1 + 1, 2, none⟩ = false := by go_simp
    have hzz : (((w.alloc (.cells #[.int .i64 t.k, .int .i64 t.n, .slice a t.ks.length cap] 42)).alloc (.cells #[.int .i64 0, .int .i64 0, .slice none 0 0] 34)).alloc (.cells #[.int .i64 t.k, .int .i64 t.n, .slice none 0 0] 34)).heap.size = w.heap.size + 3 := by simp
    have hbb : Below w.heap.size w (((w.alloc (.cells #[.int .i64 t.k, .int .i64 t.n, .slice a t.ks.length cap] 42)).alloc (.cells #[.int .i64 0, .int .i64 0, .slice none 0 0] 34)).alloc (.cells #[.int .i64 t.k, .int .i64 t.n, .slice none 0 0] 34)) := (((Below.refl _ _).alloc (Nat.le_refl _) _).alloc (by simp) _).alloc (by simp; omega) _
    generalize (((w.alloc (.cells #[.int .i64 t.k, .int .i64 t.n, .slice a t.ks.length cap] 42)).alloc (.cells #[.int .i64 0, .int .i64 0, .slice none 0 0] 34)).alloc (.cells #[.int .i64 t.k, .int .i64 t.n, .slice none 0 0] 34)) = W3 at *
    go_at_call 38
    refine (HSUB.out _ W3 (HX.out.kept hbb)).mono ?_
    rintro e w1 ⟨v1, rfl, hty, hb1⟩
    obtain ⟨a1, k1, rfl, _⟩ := hty.at.slice
    replace p0 := (hb1.cell (p := ⟨w.heap.size + 1, 0, none⟩) (by show w.heap.size + 1 < _; omega)).trans p0
    replace pf0 := (hb1.frozen (p := ⟨w.heap.size + 1, 0, none⟩) (by show w.heap.size + 1 < _; omega)).trans pf0
    replace p1 := (hb1.cell (p := ⟨w.heap.size + 1, 1, none⟩) (by show w.heap.size + 1 < _; omega)).trans p1
    replace pf1 := (hb1.frozen (p := ⟨w.heap.size + 1, 1, none⟩) (by show w.heap.size + 1 < _; omega)).trans pf1
    replace p2 := (hb1.cell (p := ⟨w.heap.size + 1, 2, none⟩) (by show w.heap.size + 1 < _; omega)).trans p2
    replace pf2 := (hb1.frozen (p := ⟨w.heap.size + 1, 2, none⟩) (by show w.heap.size + 1 < _; omega)).trans pf2
    replace q0 := (hb1.cell (p := ⟨w.heap.size + 1 + 1, 0, none⟩) (by show w.heap.size + 1 + 1 < _; omega)).trans q0
    replace qf0 := (hb1.frozen (p := ⟨w.heap.size + 1 + 1, 0, none⟩) (by show w.heap.size + 1 + 1 < _; omega)).trans qf0
    replace q1 := (hb1.cell (p := ⟨w.heap.size + 1 + 1, 1, none⟩) (by show w.heap.size + 1 + 1 < _; omega)).trans q1
    replace qf1 := (hb1.frozen (p := ⟨w.heap.size + 1 + 1, 1, none⟩) (by show w.heap.size + 1 + 1 < _; omega)).trans qf1
    replace q2 := (hb1.cell (p := ⟨w.heap.size + 1 + 1, 2, none⟩) (by show w.heap.size + 1 + 1 < _; omega)).trans q2
    replace qf2 := (hb1.frozen (p := ⟨w.heap.size + 1 + 1, 2, none⟩) (by show w.heap.size + 1 + 1 < _; omega)).trans qf2
    have HTY := Lib.hid hty
    have HB1 := Lib.hid (hbb.trans (hb1.mono (by omega)))
    have hz1 : w.heap.size + 3 ≤ w1.heap.size := by have := hb1.size; omega
    have HZ := Lib.hid hzz
    clear hty hb1 hbb hzz
    go_wp2_with fail
    refine bodyPost_ret (v := .agg #[.int .i64 t.k, .int .i64 t.n, .slice a1 t.ks.length k1]) (by simp [results, Tryd.results16, go_sem, p0, p1, p2]) rfl ⟨_, rfl, ?_, ?_⟩
    · have hkeep : ∀ b, w.heap.size + 3 ≤ b → ((((w1.setCell ⟨w.heap.size + 1 + 1, 2, none⟩ (.slice a1 t.ks.length k1)).setCell ⟨w.heap.size + 1, 0, none⟩ (.int .i64 t.k)).setCell ⟨w.heap.size + 1, 1, none⟩ (.int .i64 t.n)).setCell ⟨w.heap.size + 1, 2, none⟩ (.slice a1 t.ks.length k1)).heap[b]? = w1.heap[b]? := by
        intro b hb
        rw [heap_setCell_other _ ⟨w.heap.size + 1, 2, none⟩ b _ (by show b ≠ w.heap.size + 1; omega), heap_setCell_other _ ⟨w.heap.size + 1, 1, none⟩ b _ (by show b ≠ w.heap.size + 1; omega), heap_setCell_other _ ⟨w.heap.size + 1, 0, none⟩ b _ (by show b ≠ w.heap.size + 1; omega), heap_setCell_other _ ⟨w.heap.size + 1 + 1, 2, none⟩ b _ (by show b ≠ w.heap.size + 1 + 1; omega)]
      have h1 := HTY.out
      rw [HZ.out] at h1
      refine TyIn.wide (h1.keep (by simp) (fun b h1 _ _ => hkeep b h1)) (by omega) (by simp)
    · exact (((HB1.out.setCell (p := ⟨w.heap.size + 1 + 1, 2, none⟩) (by show w.heap.size ≤ w.heap.size + 1 + 1; omega) _).setCell (p := ⟨w.heap.size + 1, 0, none⟩) (by show w.heap.size ≤ w.heap.size + 1; omega) _).setCell (p := ⟨w.heap.size + 1, 1, none⟩) (by show w.heap.size ≤ w.heap.size + 1; omega) _).setCell (p := ⟨w.heap.size + 1, 2, none⟩) (by show w.heap.size ≤ w.heap.size + 1; omega) _

end Go.Proofs.YtpihopmgckdigaaDoor
