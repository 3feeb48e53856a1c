/-
  LinesOf of the program: the lines of a text, in a new slice; what was in memory stays.
-/
import Derived.Test.YtpihopmgckdigaaDoorVe
import Derived.Test.YtpihopmgckdigaaDoorTb
import Derived.Test.YtpihopmgckdigaaDoorShelf
namespace Go.Proofs.YtpihopmgckdigaaDoor
open Go.RowKit Go.Shelf
attribute [local go_sem] Oper.semAt_some

theorem index_one : ∀ (s : ByteArray) (w : World), Calls Tryd.prog 150 #[.string s, .string ⟨#[10]⟩] w fun e w' => e = .returned (.int .i64 (Lib.indexByte s.data.toList 10)) ∧ w' = w :=
  fun s w => Tryd.strings_Index_one s 10 w

theorem owns_step {W W' : World} {n0 sz n : Nat} {e : TypeId} {v : Value} {xs : List Value} {row : Option Nat} (h : W.ownsRow n0 e sz v n xs) (hg : W.grownBy W' row)
    (hr : ∀ r, row = some r → r < n0 ∨ ∃ o : Obj, W.heap[r]? = some o ∧ o.isWalk = true) : W'.ownsRow n0 e sz v n xs := by
  obtain ⟨hl, h | ⟨g, cap, cur, rfl, hb, ho, h1, h2, h3, h4⟩⟩ := h
  · exact ⟨hl, .inl h⟩
  · refine ⟨hl, .inr ⟨g, cap, cur, rfl, hb, ?_, h1, h2, h3, h4⟩⟩
    refine (hg.block g (Array.getElem?_eq_some_iff.1 ho).1 (fun e => ?_)).trans ho
    rcases hr g e.symm with h | ⟨o, ho', hw⟩
    · omega
    · rw [ho] at ho'; cases ho'; cases hw

theorem owns_base {W : World} {n0 n1 sz n : Nat} {e : TypeId} {v : Value} {xs : List Value} (h : W.ownsRow n0 e sz v n xs) (hb : n1 ≤ n0) : W.ownsRow n1 e sz v n xs := by
  obtain ⟨hl, h | ⟨g, cap, cur, rfl, hb', ho, h1, h2, h3, h4⟩⟩ := h
  · exact ⟨hl, .inl h⟩
  · exact ⟨hl, .inr ⟨g, cap, cur, rfl, by omega, ho, h1, h2, h3, h4⟩⟩
theorem owns_slice {W : World} {n0 sz n : Nat} {e : TypeId} {v : Value} {xs : List Value} (h : W.ownsRow n0 e sz v n xs) : ∃ a cap, v = .slice a n cap := by
  obtain ⟨hl, ⟨rfl, rfl⟩ | ⟨g, cap, cur, rfl, hb', ho, h1, h2, h3, h4⟩⟩ := h
  · exact ⟨none, 0, rfl⟩
  · exact ⟨_, cap, rfl⟩
theorem starts_length : ∀ (l : List ByteArray) (o : Int), (starts o l).length = l.length
  | [], _ => rfl
  | x :: l, o => by simp [starts, starts_length l]
theorem starts_snd : ∀ (l : List ByteArray) (o : Int), (starts o l).map (fun x => Value.string x.2) = l.map Value.string
  | [], _ => rfl
  | x :: l, o => by simp [starts, starts_snd l]

set_option maxRecDepth 100000 in
set_option maxHeartbeats 2000000 in
theorem linesOf_yes (s : ByteArray) (hv : tv s = true) (w : World) :
    Calls Tryd.prog 80 #[.string s] w fun e w' => ∃ v, e = .returned v ∧ w'.ownsRow w.heap.size 9 1 v (cut s 10).length ((cut s 10).map Value.string) ∧ Below w.heap.size w w' := by
  have hs := tv_size hv
  have HV := Lib.hid hv
  have HSL : Hid (s.size ≤ maxLen) := Lib.hid (by unfold maxLen; omega)
  have HS := Lib.hid hs
  clear hv hs
  refine (callsIn_wide (n := 10)).1 ?_
  refine callsIn_of_wp_marks Tryd.func80 rfl trivial ?_ rfl
  simp only [Tryd.ntmps80, List.size_toArray, List.length_cons, List.length_nil, Nat.reduceAdd, Nat.reduceSub, Array.replicate_succ, Array.replicate_zero, List.push_toArray, List.append_toArray, List.nil_append, List.cons_append]
  gi_wp2_with (first | (refine ⟨trivial, ?_⟩; gi_at_call 79; refine (callsIn_wide.2 (textValid_impl s true HV.out HSL.out _)).mono ?_; rintro e w' ⟨rfl, rfl⟩) | (refine ⟨trivial, ?_⟩; gi_at_call 95; refine (callsIn_wide.2 (linesIn_any _ _)).mono ?_; rintro e w' ⟨rfl, rfl⟩))
  obtain ⟨A, hA⟩ : ∃ A, w.heap.size = A := ⟨_, rfl⟩
  obtain ⟨W1, hW1⟩ : ∃ W1, w.alloc (.cells #[.slice none 0 0] 71) = W1 := ⟨_, rfl⟩
  have hz1 : W1.heap.size = A + 1 := by rw [← hW1]; simp [hA]
  have hb1 : Below A w W1 := by rw [← hW1, ← hA]; exact (Below.refl _ _).alloc (Nat.le_refl _) _
  have e1 : W1.heap[A]? = some (.cells #[.slice none 0 0] 71) := by rw [← hW1, ← hA]; exact World.alloc_heap_new w _
  rw [hW1, hA]
  obtain ⟨W2, hW2⟩ : ∃ W2, W1.alloc (.cells #[.string s] 9) = W2 := ⟨_, rfl⟩
  have hz2 : W2.heap.size = A + 2 := by rw [← hW2]; simp [hz1]
  have hb2 : Below A w W2 := by rw [← hW2]; exact hb1.alloc (by omega) _
  have e2 : W2.heap[A]? = some (.cells #[.slice none 0 0] 71) := by
    rw [← hW2]; exact ((World.grownBy_alloc W1 _ none).block A (by omega) (by simp)).trans e1
  have e3 : W2.heap[A + 1]? = some (.cells #[.string s] 9) := by
    rw [← hW2, ← hz1]; exact World.alloc_heap_new W1 _
  rw [hW2]
  obtain ⟨i0, hi, hy0, hy1, hy2⟩ := info_parts Tryd.infoStr
  have hcl := (cutN_le s 10 (s.size + 1)).2
  have hS2 := HS.out
  have hwide : ∀ {X : World} {row : Option Nat}, (∀ r, row = some r → LoopBlk (fun B r => Own7 (A + 1) B r) W2.heap.size r ∨ (W2.heap.size ≤ r ∧ ∃ o : Obj, X.heap[r]? = some o ∧ o.isWalk = true)) →
      ∀ r, row = some r → A < r ∧ (r < A + 11 ∨ ∃ o : Obj, X.heap[r]? = some o ∧ o.isWalk = true) := by
    intro X row h r e
    rw [hz2] at h
    rcases h r e with ((h | ⟨h1, h2⟩) | h | h) | ⟨h, ho⟩
    · exact ⟨by omega, .inl (by omega)⟩
    · exact ⟨by omega, .inl (by omega)⟩
    · exact ⟨by omega, .inl (by omega)⟩
    · exact ⟨by omega, .inl (by omega)⟩
    · exact ⟨by omega, .inr ho⟩
  refine wpIn_rangeFunc_ownD rfl (by omega) (gf := 110) (lb := #[.pointer (some ⟨A + 1, 0, none⟩)]) rfl trivial (enters_of Tryd.func110 (by kernel_rfl) rfl)
    (linesIn1_stops index_one (10 - 1) (A + 1) (by omega) s (by omega) W2 (by omega) (by simp only [World.cell?, e3]; rfl)) ?hD (fun _ => rfl)
    (fun pre X => ∃ v, X.cell? ⟨A, 0, none⟩ = some v ∧ X.frozen? ⟨A, 0, none⟩ = false ∧ X.ownsRow (A + 11) 9 1 v pre.length (pre.map fun x => Value.string x.2) ∧ Below A w X)
    (fun _ _ _ => False) ?hI ?hIx ?h0
    (fun x => { tmps := #[.string s, undef, .slice none 0 0, .pointer (some ⟨A, 0, none⟩), undef, .string x.2, .string s, .bool true, .bool false, .string s, .func (.func 110) #[] #[.pointer (some ⟨A + 1, 0, none⟩)], .int .i64 x.1, .string x.2, undef, undef, undef, undef, undef], defers := [] }) ?assign ?body ?done ?stop
  case hD => intro r hr; rw [hz2] at hr ⊢; rcases hr with h | ⟨h, h'⟩ <;> omega
  case assign =>
    intro l x W K hK
    gi_wp2
    exact hK
  case h0 =>
    exact ⟨_, by simp only [World.cell?, e2]; rfl, by simp only [World.frozen?, e2]; rfl, ⟨rfl, .inl ⟨rfl, rfl⟩⟩, hb2⟩
  case hI =>
    rintro pre X X' row ⟨v, c0, f0, hown, hbl⟩ hg hr
    have hw := hwide hr
    have hsz := hbl.size
    have hbA := hg.block A (World.block_lt_of_cell? X ⟨A, 0, none⟩ c0) (fun e => by have := (hw A e.symm).1; omega)
    exact ⟨v, (cell_same hbA).trans c0, (frozen_same hbA).trans f0, owns_step hown hg (fun r e => (hw r e).2), hbl.grown hg (by omega) (fun q hq => by have := (hw q hq).1; omega)⟩
  case hIx =>
    rintro c pre X X' row h
    exact h.elim
  case body =>
    rintro l pre x X hX2 ⟨v, c0, f0, hown, hbl⟩ hG hZ
    rw [hz2] at hX2 hZ
    have hlen : pre.length + 1 ≤ 2001 := by
      have h1 := hG.length_le
      rw [starts_length] at h1
      simp only [List.length_append, List.length_cons, List.length_nil] at h1
      have h2 : (cut s 10).length ≤ s.size + 1 := hcl
      omega
    have hA0 : A < X.heap.size := by omega
    obtain ⟨av0, cv0, rfl⟩ := owns_slice hown
    have HOWN := Lib.hid hown
    have HBL := Lib.hid hbl
    clear hcl hS2 hwide hbl
    gi_wp2_with (first
      | (gi_at_builtin; refine wpListIn_append_own _ rfl _ _ 71 rfl (A + 11) 9 i0 (.string ByteArray.empty) 1 16 Tryd.underlying71 hi hy0 hy1 hy2 rfl (by decide) _ _ _ rfl (HOWN.out.alloc _) ⟨X.heap.size, 0, none⟩ 1 1 [.string x.2] rfl rfl (cell_one_new _ _ _) (fun u hu => by simp at hu; subst hu; rfl) (by unfold maxLen; omega) (by omega) (by simp; omega) ?_; intro v' w3 hown' hgrow3 hnil3; obtain ⟨av, cv, rfl⟩ := owns_slice hown'; have hb3 : w3.heap[A]? = X.heap[A]? := (hgrow3.block A (by simp; omega) (fun e => by have := (hown.lt A e.symm).1; omega)).trans ((World.grownBy_alloc X _ none).block A hA0 (by simp)); have d0 := (cell_same hb3).trans c0; have g0 := (frozen_same hb3).trans f0))
    have hsA : ∀ u, (w3.setCell ⟨A, 0, none⟩ u).heap.size = w3.heap.size := fun u => by simp
    have hsz3 : X.heap.size + 1 ≤ w3.heap.size := by have := hgrow3.size; simpa using this
    have hgs := grownBy_setCell' w3 A (Value.slice av (pre.length + 1) cv)
    have hrow : ∀ r, (Value.slice av0 pre.length cv0).ownBlock = some r → A + 11 ≤ r := fun r e => (HOWN.out.lt r e).1
    refine ⟨?_, .slice av (pre.length + 1) cv, World.cell?_setCell_same' _ _ _ (by rw [d0]; rfl), by rw [World.frozen?_setCell]; exact g0, ?_, ?_⟩
    · refine ((KeepsAt.grown (World.grownBy_alloc X _ none) (fun r e => by cases e)).trans (KeepsAt.grown hgrow3 ?_)).trans (KeepsAt.grown hgs ?_)
      · intro r e hr
        have h1 := hrow r e
        rw [hz2] at hr
        rcases hr with (h | ⟨_, h⟩) | h | h <;> omega
      · intro r e hr
        cases e
        rw [hz2] at hr
        rcases hr with (h | ⟨h, _⟩) | h | h <;> omega
    · have := owns_step hown' hgs (fun r e => by cases e; exact .inl (by omega))
      simpa using this
    · have h3 : Below A w w3 := (HBL.out.alloc (by omega) _).grown hgrow3 (by simp; omega) (fun q hq => by have := hrow q hq; omega)
      exact h3.setCell (p := ⟨A, 0, none⟩) (Nat.le_refl _) _
  case done =>
    rintro xs X rfl ⟨v, c0, f0, hown, hbl⟩ hd
    rw [hz2] at hd ⊢
    obtain ⟨av, cv, rfl⟩ := owns_slice hown
    gi_wp2
    refine ⟨by simp, .inl ⟨_, _, rfl, run_takeDeferred hd, ?_⟩⟩
    refine ⟨.slice av (starts 0 (cut s 10)).length cv, by simp [results, Tryd.results80, go_sem], ?_⟩
    have hgp := grownBy_putObj' X (A + 2) (Obj.deferred none)
    refine ⟨_, rfl, ?_, ?_⟩
    · have h1 := owns_base (owns_step hown hgp (fun r e => by cases e; exact .inl (by omega))) (n1 := w.heap.size) (by omega)
      rw [starts_snd, starts_length] at h1
      rw [starts_length]
      exact h1
    · rw [hA]
      exact hbl.grown hgp (by have := hbl.size; omega) (fun q hq => by cases hq; omega)
  case stop =>
    rintro c pre X _ h
    exact h.elim
end Go.Proofs.YtpihopmgckdigaaDoor
