/-
  OffsetOf of the program: the offset of a place in a text; what was in memory stays.
-/
import Derived.Test.YtiaoopikmkakbaaDoorVf
namespace Go.Proofs.YtiaoopikmkakbaaDoor
open Go.RowKit Go.Shelf
attribute [local go_sem] Oper.semAt_some

/-- The offset of a column in a line that begins at an offset. -/
def offAt (o : Int) (x : ByteArray) (col : Int) : Int × Bool := if col < 0 ∨ (x.size : Int) < col then (0, false) else (o + col, true)
theorem offAt_no {o : Int} {x : ByteArray} {col : Int} (h : col < 0 ∨ (x.size : Int) < col) : offAt o x col = (0, false) := by unfold offAt; rw [if_pos h]
theorem offAt_yes {o : Int} {x : ByteArray} {col : Int} (h0 : 0 ≤ col) (h1 : col ≤ x.size) : offAt o x col = (o + col, true) := by unfold offAt; rw [if_neg (by omega)]
/-- The offset of a place, the lines being given. -/
def offOf (l : List ByteArray) (ln col : Int) : Int × Bool := if 0 ≤ ln ∧ ln < l.length then offAt (lenSum (l.take ln.toNat)) (l.getD ln.toNat ⟨#[]⟩) col else (0, false)
theorem offOf_no {l : List ByteArray} {ln col : Int} (h : ¬ (0 ≤ ln ∧ ln < l.length)) : offOf l ln col = (0, false) := by unfold offOf; rw [if_neg h]
theorem offOf_at {l : List ByteArray} {k : Nat} {col : Int} (h : k < l.length) : offOf l k col = offAt (lenSum (l.take k)) (l.getD k ⟨#[]⟩) col := by
  unfold offOf; rw [if_pos ⟨by omega, by omega⟩]; rfl
theorem starts_getElem : ∀ (l : List ByteArray) (o : Int) (k : Nat), k < l.length → (starts o l)[k]? = some (o + lenSum (l.take k), l.getD k ⟨#[]⟩)
  | [], _, _, h => absurd h (Nat.not_lt_zero _)
  | x :: l, o, 0, _ => by simp [starts, lenSum]
  | x :: l, o, k + 1, h => by
    simp only [starts, List.getElem?_cons_succ, List.take_succ_cons, lenSum, List.getD_cons_succ]
    rw [starts_getElem l _ k (by simpa using h), show o + x.size + 1 + lenSum (l.take k) = o + (x.size + 1 + lenSum (l.take k)) by omega]
theorem last_of_prefix {l : List ByteArray} {pre : List (Int × ByteArray)} {x : Int × ByteArray} (h : pre ++ [x] <+: starts 0 l) : pre.length < l.length ∧ x = (lenSum (l.take pre.length), l.getD pre.length ⟨#[]⟩) := by
  have h1 := h.length_le
  rw [starts_length] at h1
  simp only [List.length_append, List.length_cons, List.length_nil] at h1
  refine ⟨by omega, ?_⟩
  have h2 := starts_getElem l 0 pre.length (by omega)
  obtain ⟨t, ht⟩ := h
  rw [← ht] at h2
  simp at h2
  exact h2

set_option maxHeartbeats 1000000 in
theorem offsetAfter_any (ln col o : Int) (x : ByteArray) (hx : x.size ≤ 1000000) (ho : 0 ≤ o ∧ o ≤ 1000000) (w : World) :
    Calls Tryd.prog 29 #[.agg #[.int .i64 ln, .int .i64 col], .int .i64 o, .string x] w fun e w' => e = .returned (.tuple #[.int .i64 (offAt o x col).1, .bool (offAt o x col).2]) ∧ Below w.heap.size w w' := by
  obtain ⟨ho1, ho2⟩ := ho
  by_cases h0 : col < 0
  · have H := Lib.hid (offAt_no (o := o) (x := x) (col := col) (.inl h0))
    go_enter Tryd.func29, Tryd.ntmps29
    go_wp2
    exact bodyPost_ret (v := .tuple #[.int .i64 (offAt o x col).1, .bool (offAt o x col).2]) (by simp [results, Tryd.results29, go_sem, H.out]) rfl ⟨rfl, (Below.refl _ _).alloc (Nat.le_refl _) _⟩
  · by_cases h1 : (x.size : Int) < col
    · have H := Lib.hid (offAt_no (o := o) (x := x) (col := col) (.inr h1))
      go_enter Tryd.func29, Tryd.ntmps29
      go_wp2
      exact bodyPost_ret (v := .tuple #[.int .i64 (offAt o x col).1, .bool (offAt o x col).2]) (by simp [results, Tryd.results29, go_sem, H.out]) rfl ⟨rfl, (Below.refl _ _).alloc (Nat.le_refl _) _⟩
    · have hc0 : 0 ≤ col := by omega
      have hc1 : col ≤ (x.size : Int) := by omega
      have H := Lib.hid (offAt_yes (o := o) (x := x) (col := col) hc0 hc1)
      go_enter Tryd.func29, Tryd.ntmps29
      go_wp2
      exact bodyPost_ret (v := .tuple #[.int .i64 (offAt o x col).1, .bool (offAt o x col).2]) (by simp [results, Tryd.results29, go_sem, H.out]) rfl ⟨rfl, (Below.refl _ _).alloc (Nat.le_refl _) _⟩

set_option maxHeartbeats 1000000 in
theorem offsetOf_no (s : ByteArray) (ln col : Int) (hv : tv s = false) (hs : s.size ≤ maxLen) (w : World) :
    Calls Tryd.prog 12 #[.string s, .agg #[.int .i64 ln, .int .i64 col]] w fun e w' => e = .returned (.tuple #[.int .i64 0, .bool false]) ∧ Below w.heap.size w w' := by
  have HV := Lib.hid hv
  have HSL := Lib.hid hs
  clear hv hs
  go_enter Tryd.func12, Tryd.ntmps12
  go_wp2_with (go_at_call 19; refine (textValid_impl s false HV.out HSL.out _).mono ?_; rintro e w' ⟨rfl, rfl⟩)
  exact bodyPost_ret (v := .tuple #[.int .i64 0, .bool false]) (by simp [results, Tryd.results12, go_sem]) rfl ⟨rfl, (((Below.refl _ _).alloc (Nat.le_refl _) _).alloc (by simp) _).alloc (by simp; omega) _⟩

theorem keepsAt_below {D : Nat → Prop} {W W' : World} (h : Below W.heap.size W W') : KeepsAt D W W' := ⟨h.size, fun r _ hs => h.block r hs⟩
/-- What the boxes hold while the lines are gone through: the place, no result yet, how many lines there were. -/
structure Seek (A : Nat) (ln col : Int) (k : Nat) (X : World) : Prop where
  p0 : X.cell? ⟨A, 0, none⟩ = some (.int .i64 ln)
  p1 : X.cell? ⟨A, 1, none⟩ = some (.int .i64 col)
  r1 : X.cell? ⟨A + 1, 0, none⟩ = some (.int .i64 0)
  r2 : X.cell? ⟨A + 2, 0, none⟩ = some (.bool false)
  nr : X.cell? ⟨A + 3, 0, none⟩ = some (.int .i64 k)
  f1 : X.frozen? ⟨A + 1, 0, none⟩ = false
  f2 : X.frozen? ⟨A + 2, 0, none⟩ = false
  f3 : X.frozen? ⟨A + 3, 0, none⟩ = false
theorem Seek.keep {A k : Nat} {ln col : Int} {X X' : World} (h : Seek A ln col k X) (e : ∀ b, b < A + 4 → X'.heap[b]? = X.heap[b]?) : Seek A ln col k X' :=
  ⟨(cell_same (e _ (by omega))).trans h.p0, (cell_same (e _ (by omega))).trans h.p1, (cell_same (e _ (by omega))).trans h.r1, (cell_same (e _ (by omega))).trans h.r2, (cell_same (e _ (by omega))).trans h.nr,
    (frozen_same (e _ (by omega))).trans h.f1, (frozen_same (e _ (by omega))).trans h.f2, (frozen_same (e _ (by omega))).trans h.f3⟩
/-- What they hold when the place has been found. -/
structure Found (A : Nat) (v : Int) (b : Bool) (X : World) : Prop where
  r1 : X.cell? ⟨A + 1, 0, none⟩ = some (.int .i64 v)
  r2 : X.cell? ⟨A + 2, 0, none⟩ = some (.bool b)
theorem Found.keep {A : Nat} {v : Int} {b : Bool} {X X' : World} (h : Found A v b X) (e : ∀ b, b < A + 4 → X'.heap[b]? = X.heap[b]?) : Found A v b X' :=
  ⟨(cell_same (e _ (by omega))).trans h.r1, (cell_same (e _ (by omega))).trans h.r2⟩
theorem lenSum_take : ∀ (l : List ByteArray) (k : Nat), lenSum (l.take k) ≤ lenSum l
  | [], k => by simp
  | x :: l, 0 => by have := lenSum_nonneg (x :: l); simpa [lenSum] using this
  | x :: l, k + 1 => by have := lenSum_take l k; simp only [List.take_succ_cons, lenSum]; omega
theorem size_lenSum : ∀ (l : List ByteArray) (k : Nat), k < l.length → ((l.getD k ⟨#[]⟩).size : Int) + 1 ≤ lenSum l
  | [], _, h => absurd h (Nat.not_lt_zero _)
  | x :: l, 0, _ => by have := lenSum_nonneg l; simp only [List.getD_cons_zero, lenSum]; omega
  | x :: l, k + 1, h => by have := size_lenSum l k (by simpa using h); simp only [List.getD_cons_succ, lenSum]; omega

set_option maxHeartbeats 4000000 in
theorem offsetOf_yes (s : ByteArray) (ln col : Int) (hv : tv s = true) (w : World) :
    Calls Tryd.prog 12 #[.string s, .agg #[.int .i64 ln, .int .i64 col]] w fun e w' => e = .returned (.tuple #[.int .i64 (offOf (cut s 10) ln col).1, .bool (offOf (cut s 10) ln col).2]) ∧ Below w.heap.size w w' := by
  have hs := tv_size hv
  have HV := Lib.hid hv
  have HSL : Hid (s.size ≤ maxLen) := Lib.hid (by unfold maxLen; omega)
  have HS := Lib.hid hs
  clear hv hs
  refine (callsIn_wide (n := 10)).1 ?_
  refine callsIn_of_wp_marks Tryd.func12 rfl trivial ?_ rfl
  simp only [Tryd.ntmps12, List.size_toArray, List.length_cons, List.length_nil, Nat.reduceAdd, Nat.reduceSub, Array.replicate_succ, Array.replicate_zero, List.push_toArray, List.append_toArray, List.nil_append, List.cons_append]
  gi_wp2_with (first | (refine ⟨trivial, ?_⟩; gi_at_call 19; refine (callsIn_wide.2 (textValid_impl s true HV.out HSL.out _)).mono ?_; rintro e w' ⟨rfl, rfl⟩) | (refine ⟨trivial, ?_⟩; gi_at_call 28; refine (callsIn_wide.2 (linesIn_any _ _)).mono ?_; rintro e w' ⟨rfl, rfl⟩))
  obtain ⟨A, hA⟩ : ∃ A, w.heap.size = A := ⟨_, rfl⟩
  obtain ⟨W1, hW1⟩ : ∃ W1, w.alloc (.cells #[.int .i64 ln, .int .i64 col] 26) = W1 := ⟨_, rfl⟩
  have hz1 : W1.heap.size = A + 1 := by rw [← hW1]; simp [hA]
  have hb1 : Below A w W1 := by rw [← hW1, ← hA]; exact (Below.refl _ _).alloc (Nat.le_refl _) _
  have a1 : W1.heap[A]? = some (.cells #[.int .i64 ln, .int .i64 col] 26) := by rw [← hW1, ← hA]; exact World.alloc_heap_new w _
  rw [hW1, hA]
  obtain ⟨W2, hW2⟩ : ∃ W2, W1.alloc (.cells #[.int .i64 0] 3) = W2 := ⟨_, rfl⟩
  have hz2 : W2.heap.size = A + 2 := by rw [← hW2]; simp [hz1]
  have hb2 : Below A w W2 := by rw [← hW2]; exact hb1.alloc (by omega) _
  have k2 : ∀ b, b < A + 1 → W2.heap[b]? = W1.heap[b]? := fun b hb => by rw [← hW2]; exact (World.grownBy_alloc W1 _ none).block b (by omega) (by simp)
  have a2 : W2.heap[A + 1]? = some (.cells #[.int .i64 0] 3) := by rw [← hW2, ← hz1]; exact World.alloc_heap_new W1 _
  rw [hW2]
  obtain ⟨W3, hW3⟩ : ∃ W3, W2.alloc (.cells #[.bool false] 4) = W3 := ⟨_, rfl⟩
  have hz3 : W3.heap.size = A + 3 := by rw [← hW3]; simp [hz2]
  have hb3 : Below A w W3 := by rw [← hW3]; exact hb2.alloc (by omega) _
  have k3 : ∀ b, b < A + 2 → W3.heap[b]? = W2.heap[b]? := fun b hb => by rw [← hW3]; exact (World.grownBy_alloc W2 _ none).block b (by omega) (by simp)
  have a3 : W3.heap[A + 2]? = some (.cells #[.bool false] 4) := by rw [← hW3, ← hz2]; exact World.alloc_heap_new W2 _
  rw [hW3]
  obtain ⟨W4, hW4⟩ : ∃ W4, W3.alloc (.cells #[.int .i64 0] 3) = W4 := ⟨_, rfl⟩
  have hz4 : W4.heap.size = A + 4 := by rw [← hW4]; simp [hz3]
  have hb4 : Below A w W4 := by rw [← hW4]; exact hb3.alloc (by omega) _
  have k4 : ∀ b, b < A + 3 → W4.heap[b]? = W3.heap[b]? := fun b hb => by rw [← hW4]; exact (World.grownBy_alloc W3 _ none).block b (by omega) (by simp)
  have a4 : W4.heap[A + 3]? = some (.cells #[.int .i64 0] 3) := by rw [← hW4, ← hz3]; exact World.alloc_heap_new W3 _
  rw [hW4]
  obtain ⟨W5, hW5⟩ : ∃ W5, W4.alloc (.cells #[.string s] 9) = W5 := ⟨_, rfl⟩
  have hz5 : W5.heap.size = A + 5 := by rw [← hW5]; simp [hz4]
  have hb5 : Below A w W5 := by rw [← hW5]; exact hb4.alloc (by omega) _
  have k5 : ∀ b, b < A + 4 → W5.heap[b]? = W4.heap[b]? := fun b hb => by rw [← hW5]; exact (World.grownBy_alloc W4 _ none).block b (by omega) (by simp)
  have a5 : W5.heap[A + 4]? = some (.cells #[.string s] 9) := by rw [← hW5, ← hz4]; exact World.alloc_heap_new W4 _
  rw [hW5]
  try simp only [Nat.add_assoc, Nat.reduceAdd]
  have c1 := (k5 A (by omega)).trans ((k4 A (by omega)).trans ((k3 A (by omega)).trans ((k2 A (by omega)).trans a1)))
  have c2 := (k5 (A + 1) (by omega)).trans ((k4 (A + 1) (by omega)).trans ((k3 (A + 1) (by omega)).trans a2))
  have c3 := (k5 (A + 2) (by omega)).trans ((k4 (A + 2) (by omega)).trans a3)
  have c4 := (k5 (A + 3) (by omega)).trans a4
  clear a1 a2 a3 a4 k2 k3 k4 k5 hW1 hW2 hW3 hW4 hW5 hb1 hb2 hb3 hb4 hz1 hz2 hz3 hz4 W1 W2 W3 W4
  have hS2 := HS.out
  obtain ⟨L, hL⟩ : ∃ L, cut s 10 = L := ⟨_, rfl⟩
  have hcl : L.length ≤ 2001 := by have h1 := (cutN_le s 10 (s.size + 1)).2; rw [← hL]; unfold cut; omega
  have hLS : lenSum L ≤ s.size + 1 := by rw [← hL]; exact lenSum_le (List.prefix_refl _)
  have hrow : ∀ r, LoopBlk (fun B r => Own7 (A + 4) B r) W5.heap.size r → A + 4 ≤ r := by
    intro r h
    rw [hz5] at h
    rcases h with (h | ⟨h1, h2⟩) | h | h <;> omega
  have hwide : ∀ {X X' : World} {row : Option Nat}, X.grownBy X' row → A + 4 ≤ X.heap.size → (∀ r, row = some r → LoopBlk (fun B r => Own7 (A + 4) B r) W5.heap.size r ∨ (W5.heap.size ≤ r ∧ ∃ o : Obj, X.heap[r]? = some o ∧ o.isWalk = true)) →
      (∀ b, b < A + 4 → X'.heap[b]? = X.heap[b]?) ∧ (Below A w X → Below A w X') := by
    intro X X' row hg hz h
    have key : ∀ r, row = some r → A + 4 ≤ r := by
      intro r e
      rcases h r e with h | ⟨h, ho⟩
      · exact hrow r h
      · omega
    exact ⟨fun b hb => hg.block b (by omega) (fun e => by have := key b e.symm; omega), fun hbl => hbl.grown hg (by omega) (fun q hq => by have := key q hq; omega)⟩
  have HCL := Lib.hid hcl
  have HLL := Lib.hid hL
  refine wpIn_rangeFunc_ownD rfl (by omega) (gf := 41) (lb := #[.pointer (some ⟨A + 4, 0, none⟩)]) rfl trivial (enters_of Tryd.func41 (by kernel_rfl) rfl)
    (linesIn1_stops index_one (10 - 1) (A + 4) (by omega) s (by omega) W5 (by omega) (by simp only [World.cell?, a5]; rfl)) ?hD (fun _ => rfl)
    (fun pre X => (∀ i : Nat, i < pre.length → (i : Int) ≠ ln) ∧ Seek A ln col pre.length X ∧ Below A w X ∧ A + 4 ≤ X.heap.size)
    (fun c _ X => c = .ret ∧ Found A (offOf L ln col).1 (offOf L ln col).2 X ∧ Below A w X ∧ A + 4 ≤ X.heap.size) ?hI ?hIx ?h0
    (fun x => { tmps := #[.string s, .agg #[.int .i64 ln, .int .i64 col], undef, .pointer (some ⟨A, 0, none⟩), .pointer (some ⟨A + 1, 0, none⟩), .pointer (some ⟨A + 2, 0, none⟩), .pointer (some ⟨A + 3, 0, none⟩), .int .i64 x.1, .string x.2, .string s, .bool true, .bool false, .string s, .func (.func 41) #[] #[.pointer (some ⟨A + 4, 0, none⟩)], .int .i64 x.1, .string x.2, undef, undef, undef, undef, undef, undef, undef, undef, undef, undef, undef, undef], defers := [] }) ?assign ?body ?done ?stop
  case hD => intro r hr; rw [hz5] at hr ⊢; rcases hr with h | ⟨h, h'⟩ <;> omega
  case assign =>
    intro l x W K hK
    gi_wp2
    exact hK
  case h0 =>
    refine ⟨fun i hi => absurd hi (Nat.not_lt_zero _), ⟨?_, ?_, ?_, ?_, ?_, ?_, ?_, ?_⟩, hb5, by omega⟩
    · simp only [World.cell?, c1]; rfl
    · simp only [World.cell?, c1]; rfl
    · simp only [World.cell?, c2]; rfl
    · simp only [World.cell?, c3]; rfl
    · simp only [World.cell?, c4]; rfl
    · simp only [World.frozen?, c2]; rfl
    · simp only [World.frozen?, c3]; rfl
    · simp only [World.frozen?, c4]; rfl
  case hI =>
    rintro pre X X' row ⟨hn, hs, hbl, hz⟩ hg hr
    obtain ⟨h1, h2⟩ := hwide hg hz hr
    exact ⟨hn, hs.keep h1, h2 hbl, Nat.le_trans hz hg.size⟩
  case hIx =>
    rintro c pre X X' row ⟨hc, hf, hbl, hz⟩ hg hr
    obtain ⟨h1, h2⟩ := hwide hg hz hr
    exact ⟨hc, hf.keep h1, h2 hbl, Nat.le_trans hz hg.size⟩
  case body =>
    rintro l pre ⟨o, x⟩ X hX2 ⟨hn, hs, hbl, hz⟩ hG _
    rw [hL] at hG
    obtain ⟨hpl, hpx⟩ := last_of_prefix hG
    have ho : o = lenSum (L.take pre.length) := congrArg Prod.fst hpx
    have hx : x = L.getD pre.length ⟨#[]⟩ := congrArg Prod.snd hpx
    have ho0 : 0 ≤ o := by rw [ho]; exact lenSum_nonneg _
    have ho1 : o ≤ 1000000 := by have := lenSum_take L pre.length; rw [ho]; omega
    have hx1 : x.size ≤ 1000000 := by have := size_lenSum L pre.length hpl; rw [← hx] at this; omega
    obtain ⟨s1, s2, s3, s4, s5, g1, g2, g3⟩ := hs
    have HBL := Lib.hid hbl
    have HN := Lib.hid hn
    have HROW := Lib.hid hrow
    by_cases hln : (pre.length : Int) = ln
    · have hof : offOf L ln col = offAt o x col := by rw [← hln, ho, hx]; exact offOf_at hpl
      have HOF := Lib.hid hof
      have e1 : ((pre.length : Int) == ln) = true := by simpa using hln
      clear hof hln hpx ho hx hn hG hbl hwide hrow
      gi_wp2_with (refine ⟨trivial, ?_⟩; gi_at_call 29; refine (CallsIn.inRound l (callsIn_wide.2 (offsetAfter_any ln col o x hx1 ⟨ho0, ho1⟩ _))).mono ?_; rintro e w1 ⟨rfl, hb1⟩; have t1 := (hb1.cell (p := ⟨A + 1, 0, none⟩) (by show A + 1 < _; omega)).trans s3; have t2 := (hb1.cell (p := ⟨A + 2, 0, none⟩) (by show A + 2 < _; omega)).trans s4; have u1 := (hb1.frozen (p := ⟨A + 1, 0, none⟩) (by show A + 1 < _; omega)).trans g1; have u2 := (hb1.frozen (p := ⟨A + 2, 0, none⟩) (by show A + 2 < _; omega)).trans g2)
      have hsz1 := hb1.size
      have hga := grownBy_setCell' w1 (A + 1) (Value.int .i64 (offAt o x col).1)
      have hgb := grownBy_setCell' (w1.setCell ⟨A + 1, 0, none⟩ (Value.int .i64 (offAt o x col).1)) (A + 2) (Value.bool (offAt o x col).2)
      refine ⟨?_, rfl, ⟨?_, ?_⟩, ?_, ?_⟩
      · refine ((keepsAt_below hb1).trans (KeepsAt.grown hga (fun r e h => ?_))).trans (KeepsAt.grown hgb (fun r e h => ?_))
        · cases e; have := HROW.out _ h; omega
        · cases e; have := HROW.out _ h; omega
      · rw [HOF.out]
        refine (cell_same (hgb.block (A + 1) (by simp; omega) (by simp))).trans ?_
        exact World.cell?_setCell_same' _ _ _ (by rw [t1]; rfl)
      · rw [HOF.out]
        refine World.cell?_setCell_same' _ _ _ ?_
        rw [cell_same (hga.block (A + 2) (by omega) (by simp)), t2]; rfl
      · exact ((HBL.out.trans (hb1.mono (by omega))).setCell (p := ⟨A + 1, 0, none⟩) (by show A ≤ A + 1; omega) _).setCell (p := ⟨A + 2, 0, none⟩) (by show A ≤ A + 2; omega) _
      · have := hga.size; have := hgb.size; omega
    · have e1 : ((pre.length : Int) == ln) = false := by simpa using hln
      have HLN := Lib.hid hln
      clear hln hpx ho hx hn hG hbl hwide hrow
      gi_wp2
      have hg := grownBy_setCell' X (A + 3) (Value.int .i64 ((pre.length : Int) + 1))
      have hk : ∀ b, b < A + 3 → (X.setCell ⟨A + 3, 0, none⟩ (Value.int .i64 ((pre.length : Int) + 1))).heap[b]? = X.heap[b]? := fun b hb => hg.block b (by omega) (fun e => by cases e; omega)
      have hpl1 : (pre ++ [(o, x)]).length = pre.length + 1 := by simp
      refine ⟨KeepsAt.grown hg (fun r e h => by cases e; have := HROW.out _ h; omega), fun i hi => ?_, ⟨?_, ?_, ?_, ?_, ?_, ?_, ?_, ?_⟩, ?_, ?_⟩
      · rw [hpl1] at hi
        rcases Nat.lt_or_ge i pre.length with h | h
        · exact HN.out i h
        · have hip : i = pre.length := by omega
          rw [hip]; exact HLN.out
      · exact (cell_same (hk A (by omega))).trans s1
      · exact (cell_same (hk A (by omega))).trans s2
      · exact (cell_same (hk (A + 1) (by omega))).trans s3
      · exact (cell_same (hk (A + 2) (by omega))).trans s4
      · rw [hpl1]; exact World.cell?_setCell_same' _ _ _ (by rw [s5]; rfl)
      · exact (frozen_same (hk (A + 1) (by omega))).trans g1
      · exact (frozen_same (hk (A + 2) (by omega))).trans g2
      · rw [World.frozen?_setCell]; exact g3
      · exact HBL.out.setCell (p := ⟨A + 3, 0, none⟩) (by show A ≤ A + 3; omega) _
      · have := hg.size; omega
  case done =>
    rintro xs X hxs ⟨hn, hs, hbl, hz⟩ hd
    rw [hz5] at hd ⊢
    obtain ⟨s1, s2, s3, s4, s5, g1, g2, g3⟩ := hs
    rw [hL] at hxs
    have hof : offOf L ln col = (0, false) := offOf_no (fun h => by
      refine hn ln.toNat ?_ (by omega)
      rw [hxs, starts_length]
      omega)
    have HOF := Lib.hid hof
    clear hwide hn hxs hrow hof
    gi_wp2
    have hga := grownBy_setCell' X (A + 1) (Value.int .i64 0)
    have hgb := grownBy_setCell' (X.setCell ⟨A + 1, 0, none⟩ (Value.int .i64 0)) (A + 2) (Value.bool false)
    have x1 : ((X.setCell ⟨A + 1, 0, none⟩ (Value.int .i64 0)).setCell ⟨A + 2, 0, none⟩ (Value.bool false)).cell? ⟨A + 1, 0, none⟩ = some (.int .i64 0) :=
      (cell_same (hgb.block (A + 1) (by simp; omega) (by simp))).trans (World.cell?_setCell_same' _ _ _ (by rw [s3]; rfl))
    have x2 : ((X.setCell ⟨A + 1, 0, none⟩ (Value.int .i64 0)).setCell ⟨A + 2, 0, none⟩ (Value.bool false)).cell? ⟨A + 2, 0, none⟩ = some (.bool false) :=
      World.cell?_setCell_same' _ _ _ (by rw [cell_same (hga.block (A + 2) (by omega) (by simp)), s4]; rfl)
    have x3 : ((X.setCell ⟨A + 1, 0, none⟩ (Value.int .i64 0)).setCell ⟨A + 2, 0, none⟩ (Value.bool false)).heap[A + 5]? = some (.deferred (some [])) :=
      (hgb.block (A + 5) (by have := (Array.getElem?_eq_some_iff.1 hd).1; simp; omega) (by simp)).trans ((hga.block (A + 5) (Array.getElem?_eq_some_iff.1 hd).1 (by simp)).trans hd)
    have x4 : Below A w ((X.setCell ⟨A + 1, 0, none⟩ (Value.int .i64 0)).setCell ⟨A + 2, 0, none⟩ (Value.bool false)) :=
      (hbl.setCell (p := ⟨A + 1, 0, none⟩) (by show A ≤ A + 1; omega) _).setCell (p := ⟨A + 2, 0, none⟩) (by show A ≤ A + 2; omega) _
    have x5 : A + 4 ≤ ((X.setCell ⟨A + 1, 0, none⟩ (Value.int .i64 0)).setCell ⟨A + 2, 0, none⟩ (Value.bool false)).heap.size := by simp; omega
    clear hga hgb
    generalize ((X.setCell ⟨A + 1, 0, none⟩ (Value.int .i64 0)).setCell ⟨A + 2, 0, none⟩ (Value.bool false)) = X2 at x1 x2 x3 x4 x5 ⊢
    refine ⟨by simp, .inl ⟨_, _, rfl, run_takeDeferred x3, ?_⟩⟩
    have hgp := grownBy_putObj' X2 (A + 5) (Obj.deferred none)
    have q1 := (cell_same (i := 0) (hgp.block (A + 1) (by omega) (by simp))).trans x1
    have q2 := (cell_same (i := 0) (hgp.block (A + 2) (by omega) (by simp))).trans x2
    refine ⟨_, by simp [results, Tryd.results12, go_sem, q1, q2]; rfl, by rw [hL, HOF.out], ?_⟩
    rw [hA]
    exact x4.grown hgp (by omega) (fun q hq => by cases hq; omega)
  case stop =>
    rintro c pre X _ ⟨rfl, hf, hbl, hz⟩ hd
    rw [hz5] at hd ⊢
    gi_wp2
    refine ⟨by simp, .inl ⟨_, _, rfl, run_takeDeferred hd, ?_⟩⟩
    have hgp := grownBy_putObj' X (A + 5) (Obj.deferred none)
    obtain ⟨q1, q2⟩ := hf.keep (fun b hb => hgp.block b (by omega) (fun e => by cases e; omega))
    refine ⟨_, by simp [results, Tryd.results12, go_sem, q1, q2]; rfl, by rw [hL], ?_⟩
    rw [hA]
    exact hbl.grown hgp (by omega) (fun q hq => by cases hq; omega)
end Go.Proofs.YtiaoopikmkakbaaDoor
