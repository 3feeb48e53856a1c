/-
  The exact laws' copies of names with types: in blocks of their own; what was in memory stays.
-/
import Derived.Test.YtjciindcdcgclaaKa
namespace Go.Proofs.Ytjciindcdcgclaa
open Go.RowKit
set_option linter.unusedVariables false
set_option linter.unusedSimpArgs false

def ToKnPost (l : Kn) (w : World) (e : Ending) (w' : World) : Prop := ∃ v, e = .returned (.agg #[.string l.s, .int .i64 l.t.k, .int .i64 l.t.n, v]) ∧ TyIn w' w.heap.size w'.heap.size l.t v ∧ Below w.heap.size w w'
/-- The frozen marks of four cells. -/
def KThaw (w : World) (B : Nat) : Prop := ∀ i, i < 4 → w.frozen? ⟨B, i, none⟩ = false
theorem KThaw.kept {w w' : World} {B : Nat} (h : KThaw w B) (hb : Below w.heap.size w w') (hl : B < w.heap.size) : KThaw w' B := fun i hi => (hb.frozen (p := ⟨B, i, none⟩) hl).trans (h i hi)
theorem kthaw_new (w : World) (v0 v1 v2 v3 : Value) (T : TypeId) : KThaw (w.alloc (.cells #[v0, v1, v2, v3] T)) w.heap.size := by
  intro i hi
  obtain rfl | rfl | rfl | rfl : i = 0 ∨ i = 1 ∨ i = 2 ∨ i = 3 := by omega
  all_goals go_simp
theorem sizeK2 (w : World) (o : Obj) : (w.alloc o).heap.size = w.heap.size + 1 := by simp
set_option maxRecDepth 100000 in
set_option maxHeartbeats 4000000 in
theorem toKnown_any (l : Kn) (ct : Nat) (vt : Value) (w : World) (hct : Cnt l.t ct) (hc1 : ct ≤ 1048576) (ht : TyAt w l.t vt) :
    Calls Try.prog 60 #[.agg #[.string l.s, .int .i64 l.t.k, .int .i64 l.t.n, vt]] w (ToKnPost l w) := by
  have HT := Lib.hid ht
  have HCT := Lib.hid hct
  obtain ⟨ta, tc, rfl, _⟩ := ht.slice
  clear ht hct
  obtain ⟨S, hS⟩ : ∃ S, w.heap.size = S := ⟨_, rfl⟩
  obtain ⟨W3, hW3⟩ : ∃ W, ((w.alloc (.cells #[.string l.s, .int .i64 l.t.k, .int .i64 l.t.n, .slice ta l.t.ks.length tc] 105)).alloc (.cells #[.string ⟨#[]⟩, .int .i64 0, .int .i64 0, .slice none 0 0] 34)).alloc (.cells #[.string l.s, .int .i64 0, .int .i64 0, .slice none 0 0] 34) = W := ⟨_, rfl⟩
  have HBA : Hid (Below w.heap.size w W3) := Lib.hid (by rw [← hW3]; exact (((Below.refl _ _).alloc (Nat.le_refl _) _).alloc (by simp) _).alloc (by simp; omega) _)
  have HA3 : Hid (KBox W3 S (.string l.s) (.int .i64 l.t.k) (.int .i64 l.t.n) (.slice ta l.t.ks.length tc)) := Lib.hid (by
    rw [← hW3, ← hS]
    exact ((kbox_new w _ _ _ _ _).kept ((Below.refl _ _).alloc (Nat.le_refl _) _)).kept ((Below.refl _ _).alloc (Nat.le_refl _) _))
  have HP3 : Hid (KBox W3 (S + 1) (.string ⟨#[]⟩) (.int .i64 0) (.int .i64 0) (.slice none 0 0)) := Lib.hid (by
    have h := (kbox_new (w.alloc (.cells #[.string l.s, .int .i64 l.t.k, .int .i64 l.t.n, .slice ta l.t.ks.length tc] 105)) (.string ⟨#[]⟩) (.int .i64 0) (.int .i64 0) (.slice none 0 0) 34).kept (w' := W3) (by rw [← hW3]; exact (Below.refl _ _).alloc (Nat.le_refl _) _)
    rw [sizeK2, hS] at h; exact h)
  have HQ3 : Hid (KBox W3 (S + 1 + 1) (.string l.s) (.int .i64 0) (.int .i64 0) (.slice none 0 0)) := Lib.hid (by
    have h := kbox_new ((w.alloc (.cells #[.string l.s, .int .i64 l.t.k, .int .i64 l.t.n, .slice ta l.t.ks.length tc] 105)).alloc (.cells #[.string ⟨#[]⟩, .int .i64 0, .int .i64 0, .slice none 0 0] 34)) (.string l.s) (.int .i64 0) (.int .i64 0) (.slice none 0 0) 34
    rw [hW3, sizeK2, sizeK2, hS] at h; exact h)
  have HFP3 : Hid (KThaw W3 (S + 1)) := Lib.hid (by
    have h := (kthaw_new (w.alloc (.cells #[.string l.s, .int .i64 l.t.k, .int .i64 l.t.n, .slice ta l.t.ks.length tc] 105)) (.string ⟨#[]⟩) (.int .i64 0) (.int .i64 0) (.slice none 0 0) 34).kept (w' := W3) (by rw [← hW3]; exact (Below.refl _ _).alloc (Nat.le_refl _) _) (by simp)
    rw [sizeK2, hS] at h; exact h)
  have HFQ3 : Hid (KThaw W3 (S + 1 + 1)) := Lib.hid (by
    have h := kthaw_new ((w.alloc (.cells #[.string l.s, .int .i64 l.t.k, .int .i64 l.t.n, .slice ta l.t.ks.length tc] 105)).alloc (.cells #[.string ⟨#[]⟩, .int .i64 0, .int .i64 0, .slice none 0 0] 34)) (.string l.s) (.int .i64 0) (.int .i64 0) (.slice none 0 0) 34
    rw [hW3, sizeK2, sizeK2, hS] at h; exact h)
  have hz3 : S + 3 = W3.heap.size := by rw [← hW3, ← hS]; simp
  have HZ3 := Lib.hid hz3
  have HW3 := Lib.hid hW3
  have HS := Lib.hid hS
  clear hW3
  go_enter Try.func60, Try.ntmps60
  go_wp2_with fail
  rw [HW3.out]
  try rw [hS]
  obtain ⟨a0, a1, a2, a3, az⟩ := HA3.out
  obtain ⟨p0, p1, p2, p3, pz⟩ := HP3.out
  obtain ⟨q0, q1, q2, q3, qz⟩ := HQ3.out
  have pf0 := HFP3.out 0 (by omega)
  have pf1 := HFP3.out 1 (by omega)
  have pf2 := HFP3.out 2 (by omega)
  have pf3 := HFP3.out 3 (by omega)
  have qf0 := HFQ3.out 0 (by omega)
  have qf1 := HFQ3.out 1 (by omega)
  have qf2 := HFQ3.out 2 (by omega)
  have qf3 := HFQ3.out 3 (by omega)
  go_at_call 105
  refine (toType_any _ l.t ct _ _ (Nat.lt_succ_self _) HCT.out hc1 (HT.out.kept HBA.out)).mono ?_
  rintro e w4 ⟨v4, rfl, hty, hb4⟩
  obtain ⟨u4, j4, rfl, _⟩ := hty.at.slice
  have HA4 := Lib.hid (HA3.out.kept hb4)
  have HP4 := Lib.hid (HP3.out.kept hb4)
  have HQ4 := Lib.hid (HQ3.out.kept hb4)
  have HFP4 := Lib.hid (HFP3.out.kept hb4 (by omega))
  have HFQ4 := Lib.hid (HFQ3.out.kept hb4 (by omega))
  have HB4 := Lib.hid (HBA.out.trans (hb4.mono HBA.out.size))
  have HZ4 := Lib.hid (show S + 3 ≤ w4.heap.size from by have := hb4.size; omega)
  have HTY := Lib.hid (hty.wide (lo' := S + 3) (by omega) (Nat.le_refl _))
  clear hty hb4 a0 a1 a2 a3 az p0 p1 p2 p3 pz q0 q1 q2 q3 qz pf0 qf0 pf1 qf1 pf2 qf2 pf3 qf3
  obtain ⟨a0, a1, a2, a3, az⟩ := HA4.out
  obtain ⟨p0, p1, p2, p3, pz⟩ := HP4.out
  obtain ⟨q0, q1, q2, q3, qz⟩ := HQ4.out
  have pf0 := HFP4.out 0 (by omega)
  have pf1 := HFP4.out 1 (by omega)
  have pf2 := HFP4.out 2 (by omega)
  have pf3 := HFP4.out 3 (by omega)
  have qf0 := HFQ4.out 0 (by omega)
  have qf1 := HFQ4.out 1 (by omega)
  have qf2 := HFQ4.out 2 (by omega)
  have qf3 := HFQ4.out 3 (by omega)
  go_wp2_with fail
  refine bodyPost_ret (v := .agg #[.string l.s, .int .i64 l.t.k, .int .i64 l.t.n, .slice u4 l.t.ks.length j4]) (by simp [results, Try.results60, go_sem, p0, p1, p2, p3]) rfl ⟨_, rfl, ?_, ?_⟩
  · refine (HTY.out.keep ?_ (fun b h1 _ _ => ?_)).wide (by omega) ?_
    · simp
    · have hb1 : b ≠ S + 1 := by omega
      have hb2 : b ≠ S + 1 + 1 := by omega
      rw [heap_setCell_other _ ⟨S + 1, 3, none⟩ b _ hb1, heap_setCell_other _ ⟨S + 1, 2, none⟩ b _ hb1, heap_setCell_other _ ⟨S + 1, 1, none⟩ b _ hb1, heap_setCell_other _ ⟨S + 1, 0, none⟩ b _ hb1, heap_setCell_other _ ⟨S + 1 + 1, 3, none⟩ b _ hb2, heap_setCell_other _ ⟨S + 1 + 1, 2, none⟩ b _ hb2, heap_setCell_other _ ⟨S + 1 + 1, 1, none⟩ b _ hb2]
    · simp
  · exact (((((((HB4.out.setCell (p := ⟨S + 1 + 1, 1, none⟩) (by show w.heap.size ≤ S + 1 + 1; omega) _).setCell (p := ⟨S + 1 + 1, 2, none⟩) (by show w.heap.size ≤ S + 1 + 1; omega) _).setCell (p := ⟨S + 1 + 1, 3, none⟩) (by show w.heap.size ≤ S + 1 + 1; omega) _).setCell (p := ⟨S + 1, 0, none⟩) (by show w.heap.size ≤ S + 1; omega) _).setCell (p := ⟨S + 1, 1, none⟩) (by show w.heap.size ≤ S + 1; omega) _).setCell (p := ⟨S + 1, 2, none⟩) (by show w.heap.size ≤ S + 1; omega) _).setCell (p := ⟨S + 1, 3, none⟩) (by show w.heap.size ≤ S + 1; omega) _)

/-- The list lies between two blocks, each row in a block of its own, and may be written. -/
inductive KnIn (w : World) : Nat → Nat → List Kn → Value → Prop where
  | bare (lo hi : Nat) (a : Option Addr) (cap : Nat) : KnIn w lo hi [] (.slice a 0 cap)
  | row (lo hi : Nat) (ls : List Kn) (b cap : Nat) (vs : Nat → Value) (l h : Nat → Nat) (hb1 : lo ≤ b) (hb2 : b < hi) (hw : Row w b) (hl : ls.length ≤ 9223372036854775807)
      (h0 : ∀ i, i < ls.length → KFd w b (i * 4) (ls.getD i Kn.dummy) (vs i))
      (hf : ∀ i, i < ls.length * 4 → w.frozen? ⟨b, i, none⟩ = false)
      (hin : ∀ i, i < ls.length → lo ≤ l i ∧ h i ≤ hi ∧ (b < l i ∨ h i ≤ b))
      (hd : ∀ i j, i < j → j < ls.length → h i ≤ l j)
      (h3 : ∀ i, i < ls.length → TyIn w (l i) (h i) (ls.getD i Kn.dummy).t (vs i)) : KnIn w lo hi ls (.slice (some ⟨b, 0, none⟩) ls.length cap)
theorem KnIn.at {w : World} {lo hi : Nat} {ls : List Kn} {v : Value} (h : KnIn w lo hi ls v) : KnAt w ls v := by
  cases h with
  | bare a cap => exact .bare a cap
  | row ls b cap vs l h hb1 hb2 hw hl h0 hf hin hd h3 =>
    exact .row ls b 0 cap vs hw.lt hl (fun i hi => by rw [Nat.zero_add]; exact h0 i hi) (fun i hi => (h3 i hi).at)
theorem KnIn.keep {w w' : World} {lo hi : Nat} {ls : List Kn} {v : Value} (h : KnIn w lo hi ls v) (hs : w.heap.size ≤ w'.heap.size) (hk : ∀ b, lo ≤ b → b < hi → b < w.heap.size → w'.heap[b]? = w.heap[b]?) : KnIn w' lo hi ls v := by
  cases h with
  | bare a cap => exact .bare lo hi a cap
  | row ls b cap vs l h hb1 hb2 hw hl h0 hf hin hd h3 =>
    have e := hk b hb1 hb2 hw.lt
    refine .row lo hi ls b cap vs l h hb1 hb2 (hw.keep hs e) hl (fun i hi => (h0 i hi).keep e) (fun i hi => (frozenEq e).trans (hf i hi)) hin hd ?_
    intro i hi
    obtain ⟨a1, a2, _⟩ := hin i hi
    exact (h3 i hi).keep hs (fun b h1 h2 h3 => hk b (by omega) (by omega) h3)
theorem KnIn.kept {w w' : World} {lo hi : Nat} {ls : List Kn} {v : Value} (h : KnIn w lo hi ls v) (hb : Below w.heap.size w w') : KnIn w' lo hi ls v :=
  h.keep hb.size (fun b _ _ h3 => hb.block b h3)
theorem KnIn.wide {w : World} {lo hi lo' hi' : Nat} {ls : List Kn} {v : Value} (h : KnIn w lo hi ls v) (h1 : lo' ≤ lo) (h2 : hi ≤ hi') : KnIn w lo' hi' ls v := by
  cases h with
  | bare a cap => exact .bare lo' hi' a cap
  | row ls b cap vs l h hb1 hb2 hw hl h0 hf hin hd h3 =>
    exact .row lo' hi' ls b cap vs l h (by omega) (by omega) hw hl h0 hf (fun i hi => by obtain ⟨a1, a2, a3⟩ := hin i hi; exact ⟨by omega, by omega, a3⟩) hd h3
/-- A row that is being filled: the first j elements lie in it. -/
structure KFill (ls : List Kn) (B j : Nat) (w : World) (xs : List Value) (vs : Nat → Value) (l h : Nat → Nat) : Prop where
  own : w.ownsRow B 34 4 (.slice (some ⟨B, 0, none⟩) ls.length ls.length) ls.length xs
  x0 : ∀ i, i < j → xs[i * 4]? = some (.string (ls.getD i Kn.dummy).s)
  x1 : ∀ i, i < j → xs[i * 4 + 1]? = some (.int .i64 (ls.getD i Kn.dummy).t.k)
  x2 : ∀ i, i < j → xs[i * 4 + 2]? = some (.int .i64 (ls.getD i Kn.dummy).t.n)
  x3 : ∀ i, i < j → xs[i * 4 + 3]? = some (vs i)
  lo : ∀ i, i < j → B < l i ∧ h i ≤ w.heap.size
  di : ∀ i k, i < k → k < j → h i ≤ l k
  ty : ∀ i, i < j → TyIn w (l i) (h i) (ls.getD i Kn.dummy).t (vs i)
theorem KFill.below {ls : List Kn} {B j : Nat} {w w' : World} {xs : List Value} {vs : Nat → Value} {l h : Nat → Nat} (f : KFill ls B j w xs vs l h) (hb : Below w.heap.size w w') : KFill ls B j w' xs vs l h :=
  ⟨own_below f.own hb, f.x0, f.x1, f.x2, f.x3, fun i hi => ⟨(f.lo i hi).1, Nat.le_trans (f.lo i hi).2 hb.size⟩, f.di, fun i hi => (f.ty i hi).kept hb⟩
theorem KFill.step {ls : List Kn} {B j : Nat} {w w1 : World} {xs : List Value} {vs : Nat → Value} {l h : Nat → Nat} {v : Value} (f : KFill ls B j w xs vs l h) (hj : j < ls.length) (hb : Below w.heap.size w w1)
    (ht : TyIn w1 w.heap.size w1.heap.size (ls.getD j Kn.dummy).t v) :
    ∃ xs' vs' l' h', KFill ls B (j + 1) ((((w1.setCell ⟨B, j * 4, none⟩ (.string (ls.getD j Kn.dummy).s)).setCell ⟨B, j * 4 + 1, none⟩ (.int .i64 (ls.getD j Kn.dummy).t.k)).setCell ⟨B, j * 4 + 2, none⟩ (.int .i64 (ls.getD j Kn.dummy).t.n)).setCell ⟨B, j * 4 + 3, none⟩ v) xs' vs' l' h' := by
  have f1 := f.below hb
  obtain ⟨s1, g1⟩ := f1.own.stored (j * 4) (.string (ls.getD j Kn.dummy).s)
  obtain ⟨s2, g2⟩ := s1.stored (j * 4 + 1) (.int .i64 (ls.getD j Kn.dummy).t.k)
  obtain ⟨s3, g3⟩ := s2.stored (j * 4 + 2) (.int .i64 (ls.getD j Kn.dummy).t.n)
  obtain ⟨s4, g4⟩ := s3.stored (j * 4 + 3) v
  have hl := own_len f.own
  have hB := (own_block f.own).2
  obtain ⟨W, hW⟩ : ∃ W, (((w1.setCell ⟨B, j * 4, none⟩ (.string (ls.getD j Kn.dummy).s)).setCell ⟨B, j * 4 + 1, none⟩ (.int .i64 (ls.getD j Kn.dummy).t.k)).setCell ⟨B, j * 4 + 2, none⟩ (.int .i64 (ls.getD j Kn.dummy).t.n)).setCell ⟨B, j * 4 + 3, none⟩ v = W := ⟨_, rfl⟩
  have hsz : W.heap.size = w1.heap.size := by rw [← hW]; simp
  have hkeep : ∀ b, b ≠ B → b < w1.heap.size → W.heap[b]? = w1.heap[b]? := by
    intro b hb hs
    rw [← hW, heap_setCell_other _ ⟨B, j * 4 + 3, none⟩ b _ hb, heap_setCell_other _ ⟨B, j * 4 + 2, none⟩ b _ hb, heap_setCell_other _ ⟨B, j * 4 + 1, none⟩ b _ hb, heap_setCell_other _ ⟨B, j * 4, none⟩ b _ hb]
  rw [hW] at s4 ⊢
  refine ⟨_, fun i => if i = j then v else vs i, fun i => if i = j then w.heap.size else l i, fun i => if i = j then w1.heap.size else h i, s4, ?_, ?_, ?_, ?_, ?_, ?_, ?_⟩
  · intro i hi
    by_cases hij : i = j
    · subst hij
      rw [List.getElem?_set_ne (by omega), List.getElem?_set_ne (by omega), List.getElem?_set_ne (by omega), List.getElem?_set_self (by omega)]
    · rw [List.getElem?_set_ne (by omega), List.getElem?_set_ne (by omega), List.getElem?_set_ne (by omega), List.getElem?_set_ne (by omega)]
      exact f.x0 i (by omega)
  · intro i hi
    by_cases hij : i = j
    · subst hij
      rw [List.getElem?_set_ne (by omega), List.getElem?_set_ne (by omega), List.getElem?_set_self (by rw [List.length_set]; omega)]
    · rw [List.getElem?_set_ne (by omega), List.getElem?_set_ne (by omega), List.getElem?_set_ne (by omega), List.getElem?_set_ne (by omega)]
      exact f.x1 i (by omega)
  · intro i hi
    by_cases hij : i = j
    · subst hij
      rw [List.getElem?_set_ne (by omega), List.getElem?_set_self (by rw [List.length_set, List.length_set]; omega)]
    · rw [List.getElem?_set_ne (by omega), List.getElem?_set_ne (by omega), List.getElem?_set_ne (by omega), List.getElem?_set_ne (by omega)]
      exact f.x2 i (by omega)
  · intro i hi
    by_cases hij : i = j
    · subst hij
      rw [List.getElem?_set_self (by rw [List.length_set, List.length_set, List.length_set]; omega)]; simp
    · rw [List.getElem?_set_ne (by omega), List.getElem?_set_ne (by omega), List.getElem?_set_ne (by omega), List.getElem?_set_ne (by omega)]
      simp [hij, f.x3 i (by omega)]
  · intro i hi
    by_cases hij : i = j
    · simp [hij]; omega
    · have := f1.lo i (by omega); simp [hij]; omega
  · intro i k hik hk
    have hij : i ≠ j := by omega
    by_cases hkj : k = j
    · have := f.lo i (by omega); simp [hij, hkj]; omega
    · have := f.di i k hik (by omega); simpa [hij, hkj] using this
  · intro i hi
    by_cases hij : i = j
    · subst hij
      simp only [if_true]
      exact ht.keep (by omega) (fun b h1 h2 h3 => hkeep b (by omega) h3)
    · simp only [hij, if_false]
      have hlo := f.lo i (by omega)
      exact (f1.ty i (by omega)).keep (by omega) (fun b h1 h2 h3 => hkeep b (by omega) h3)
theorem KFill.done {ls : List Kn} {B : Nat} {w : World} {xs : List Value} {vs : Nat → Value} {l h : Nat → Nat} (f : KFill ls B ls.length w xs vs l h) (hl : ls.length ≤ 9223372036854775807) :
    KnIn w B w.heap.size ls (.slice (some ⟨B, 0, none⟩) ls.length ls.length) := by
  have hb := own_block f.own
  have hc : ∀ i, i < ls.length → ∀ q, q < 4 → w.cell? ⟨B, i * 4 + q, none⟩ = xs[i * 4 + q]? := fun i hi q hq => f.own.cellAt _ (by show i * 4 + q < ls.length * 4; omega)
  refine .row B w.heap.size ls B ls.length vs l h (Nat.le_refl _) hb.2 (row_own f.own) hl (fun i hi => ⟨?_, ?_, ?_, ?_⟩) (fun i hi => f.own.frozenAt i) (fun i hi => ?_) (fun i j hij hj => f.di i j hij hj) (fun i hi => f.ty i hi)
  · exact (hc i hi 0 (by omega)).trans (f.x0 i hi)
  · exact (hc i hi 1 (by omega)).trans (f.x1 i hi)
  · exact (hc i hi 2 (by omega)).trans (f.x2 i hi)
  · exact (hc i hi 3 (by omega)).trans (f.x3 i hi)
  · have := f.lo i hi; exact ⟨by omega, this.2, .inl this.1⟩
theorem Try.infoKnown : (Try.prog.info? 34).map (fun i => (i.zero, i.size, i.bytes)) = some (some (.agg #[.string ⟨#[]⟩, .int .i64 0, .int .i64 0, .slice none 0 0]), 4, 56) := by kernel_rfl
def ToKnPostS (ls : List Kn) (w : World) (e : Ending) (w' : World) : Prop := ∃ v, e = .returned v ∧ KnIn w' w.heap.size w'.heap.size ls v ∧ Below w.heap.size w w'
set_option maxRecDepth 100000 in
set_option maxHeartbeats 4000000 in
theorem toKnownS_any (ls : List Kn) (cf : Nat → Nat) (v : Value) (w : World) (hcf : KnCnt ls cf) (hcm : ls.length + ((List.range ls.length).map cf).sum ≤ 1048576) (hx : KnAt w ls v) :
    Calls Try.prog 26 #[v] w (ToKnPostS ls w) := by
  have HX := Lib.hid hx
  have HH : Hid (∀ i, i < ls.length → ∀ (vi : Value) (W : World), TyAt W (ls.getD i Kn.dummy).t vi → Calls Try.prog 60 #[.agg #[.string (ls.getD i Kn.dummy).s, .int .i64 (ls.getD i Kn.dummy).t.k, .int .i64 (ls.getD i Kn.dummy).t.n, vi]] W (ToKnPost (ls.getD i Kn.dummy) W)) := Lib.hid (fun i hi vi W ht => by
    obtain ⟨ct, h1, h2⟩ := hcf.ty hcm hi
    exact toKnown_any _ ct vi W h1 h2 ht)
  obtain ⟨a, cap, rfl, hlen⟩ := hx.slice
  obtain ⟨L, hL⟩ : ∃ L, ls.length = L := ⟨_, rfl⟩
  have HL := Lib.hid hL
  have hsz : L ≤ 1048576 := by omega
  rw [hL] at hlen ⊢
  obtain ⟨i0, hi, hz0, hz1, hz2⟩ := info_parts Try.infoKnown
  clear hx hcf hcm hL
  go_enter Try.func26, Try.ntmps26
  go_wp2_with (first | (at_make; refine wpList_make_full _ rfl _ _ 23 rfl w.heap.size 34 i0 (.agg #[.string ⟨#[]⟩, .int .i64 0, .int .i64 0, .slice none 0 0]) 4 Try.underlying23 hi hz0 hz1 _ _ _ _ L rfl rfl rfl rfl (by rw [hz2]; omega) (by unfold maxLen; omega) (Nat.le_refl _) ?_; intro w0 hown0 hgrow0))
  have hb0 : Below w.heap.size w w0 := (Below.refl _ _).grown hgrow0 (Nat.le_refl _) (fun q hq => by cases hq)
  go_loopw [4] (fun i wr => ∃ (j : Nat) (xs : List Value) (vs : Nat → Value) (l h : Nat → Nat), j ≤ L ∧ i = .int .i64 j ∧ Hid (KFill ls w.heap.size j wr xs vs l h) ∧ Below w.heap.size w wr) (fun i _ => L - (intOf i).toNat)
  case atStart =>
    obtain ⟨xs0, hown1⟩ : ∃ xs, w0.ownsRow w.heap.size 34 4 (.slice (some ⟨w.heap.size, 0, none⟩) L L) L xs := ⟨_, hown0⟩
    refine ⟨0, xs0, fun _ => .int .i64 0, fun _ => 0, fun _ => 0, Nat.zero_le _, rfl, Lib.hid ⟨?_, ?_, ?_, ?_, ?_, ?_, ?_, ?_⟩, hb0⟩
    · rw [HL.out]; exact hown1
    all_goals (intros; omega)
  case round =>
    obtain ⟨j, xs, vs, l, h, hj, rfl, hfill, hB⟩ := hrel
    have HB := Lib.hid hB
    by_cases hlt : j < L
    · have hji : (j : Int) < (L : Int) := by omega
      obtain ⟨b, o, cap2, vi, ex, bl, ⟨y0, y1, y2, y3⟩, hkid⟩ := (HX.out.kept hB).kid j (by rw [HL.out]; exact hlt)
      have ex1 : a = some ⟨b, o, none⟩ := by injection ex
      subst ex1
      have HKID := Lib.hid hkid
      have hjt : Hid (j < ls.length) := Lib.hid (by rw [HL.out]; exact hlt)
      have hBw := hB.size
      clear ex hkid hB hown0 hgrow0 hb0
      go_wp2_with fail
      go_at_call 60
      refine (HH.out j hjt.out vi _ HKID.out).mono ?_
      rintro e w2 ⟨v2, rfl, hty, hb2⟩
      obtain ⟨xs', vs', l', h', hstep⟩ := hfill.out.step hjt.out hb2 hty
      have HSTEP := Lib.hid hstep
      have hf2 := hfill.out.below hb2
      have hln := own_len hf2.own
      have hlt2 := own_block hf2.own
      have hq0 : j * 4 < xs.length := by rw [hln]; have := hjt.out; omega
      have hq1 : j * 4 + 1 < xs.length := by rw [hln]; have := hjt.out; omega
      have hq2 : j * 4 + 2 < xs.length := by rw [hln]; have := hjt.out; omega
      have hq3 : j * 4 + 3 < xs.length := by rw [hln]; have := hjt.out; omega
      have c0 := (hf2.own.cellAt (j * 4) (by rw [← hln]; exact hq0)).trans (List.getElem?_eq_getElem hq0)
      have c1 := (hf2.own.cellAt (j * 4 + 1) (by rw [← hln]; exact hq1)).trans (List.getElem?_eq_getElem hq1)
      have c2 := (hf2.own.cellAt (j * 4 + 2) (by rw [← hln]; exact hq2)).trans (List.getElem?_eq_getElem hq2)
      have c3 := (hf2.own.cellAt (j * 4 + 3) (by rw [← hln]; exact hq3)).trans (List.getElem?_eq_getElem hq3)
      have f0 := hf2.own.frozenAt (j * 4)
      have f1 := hf2.own.frozenAt (j * 4 + 1)
      have f2 := hf2.own.frozenAt (j * 4 + 2)
      have f3 := hf2.own.frozenAt (j * 4 + 3)
      obtain ⟨a2, k2, rfl, _⟩ := hty.at.slice
      have HB2 := Lib.hid (HB.out.trans (hb2.mono hBw))
      generalize xs[j * 4] = q0 at c0
      generalize xs[j * 4 + 1] = q1 at c1
      generalize xs[j * 4 + 2] = q2 at c2
      generalize xs[j * 4 + 3] = q3 at c3
      clear hstep hf2 hln hq0 hq1 hq2 hq3 hty hb2 hlt2 hfill
      go_wp2_with fail
      exact ⟨⟨j + 1, xs', vs', l', h', by omega, by go_num, HSTEP, (((HB2.out.setCell (p := ⟨w.heap.size, j * 4, none⟩) (Nat.le_refl _) _).setCell (p := ⟨w.heap.size, j * 4 + 1, none⟩) (Nat.le_refl _) _).setCell (p := ⟨w.heap.size, j * 4 + 2, none⟩) (Nat.le_refl _) _).setCell (p := ⟨w.heap.size, j * 4 + 3, none⟩) (Nat.le_refl _) _⟩, by simp [intOf]; omega⟩
    · have hji : ¬ (j : Int) < (L : Int) := by omega
      have hjl : j = L := by omega
      clear hB hlt hown0 hgrow0 hb0
      go_wp2_with fail
      go_ret
      refine ⟨_, rfl, ?_, HB.out⟩
      have h1 := hfill.out
      rw [hjl, ← HL.out] at h1
      have h2 := h1.done (by rw [HL.out]; exact hlen)
      rw [HL.out] at h2
      exact h2

end Go.Proofs.Ytjciindcdcgclaa
