/-
  linesIn$1 of the program: it yields the lines of a text, each with the offset at which it begins.
-/
import Derived.Test.YtpihopmgckdigaaDoorVd
namespace Go.Proofs.YtpihopmgckdigaaDoor
open Go.RowKit Go.Shelf
attribute [local go_sem] Oper.semAt_some

theorem RoundIn.deep {m m' : Nat} {P : Program} {l : Nat} {f : FuncId} {tmps : Array Value} {assign body : Code} {w : World} {R : Ending → World → Prop}
    (h : RoundIn Fence.wide m P l f tmps assign body w R) : RoundIn Fence.wide m' P l f tmps assign body w R := ⟨h.1, fun c cs _ => h.2 c cs (fun _ h => by cases h)⟩

theorem RoundIn.inR {m m' : Nat} {P : Program} {l : Nat} {f : FuncId} {tmps : Array Value} {assign body : Code} {w : World} {R : Ending → World → Prop}
    (l' : Nat) (h : RoundIn Fence.wide m P l f tmps assign body w R) : RoundIn (Fence.wide.inRound l') m' P l f tmps assign body w R := RoundIn.deep h

/-- The lines with the offsets at which they begin. -/
def starts : Int → List ByteArray → List (Int × ByteArray)
  | _, [] => []
  | o, x :: l => (o, x) :: starts (o + x.size + 1) l
/-- The bytes of the lines and of their ends. -/
def lenSum : List ByteArray → Int
  | [] => 0
  | x :: l => x.size + 1 + lenSum l
theorem starts_append : ∀ (pre l : List ByteArray) (o : Int), starts o (pre ++ l) = starts o pre ++ starts (o + lenSum pre) l
  | [], l, o => by simp [starts, lenSum]
  | x :: pre, l, o => by
    simp only [List.cons_append, starts, lenSum]
    rw [starts_append pre l, show o + x.size + 1 + lenSum pre = o + (x.size + 1 + lenSum pre) by omega]
theorem starts_snoc (pre : List ByteArray) (x : ByteArray) : starts 0 (pre ++ [x]) = starts 0 pre ++ [(lenSum pre, x)] := by
  rw [starts_append]; simp [starts]
theorem starts_prefix {pre l : List ByteArray} (h : pre <+: l) : starts 0 pre <+: starts 0 l := by
  obtain ⟨t, rfl⟩ := h
  rw [starts_append]; exact List.prefix_append _ _
theorem lenSum_append : ∀ (pre l : List ByteArray), lenSum (pre ++ l) = lenSum pre + lenSum l
  | [], l => by simp [lenSum]
  | x :: pre, l => by simp only [List.cons_append, lenSum]; rw [lenSum_append pre l]; omega
theorem lenSum_snoc (pre : List ByteArray) (x : ByteArray) : lenSum (pre ++ [x]) = lenSum pre + (x.size + 1) := by
  rw [lenSum_append]; simp [lenSum]
theorem lenSum_nonneg : ∀ l : List ByteArray, 0 ≤ lenSum l
  | [] => Int.le_refl _
  | x :: l => by have := lenSum_nonneg l; unfold lenSum; omega
theorem lenSum_cutN (s : ByteArray) (c : Int) : ∀ k : Nat, k ≤ s.size + 1 → lenSum (cutN s c k).1 = (cutN s c k).2
  | 0, _ => rfl
  | k + 1, h => by
    have ih := lenSum_cutN s c k (by omega)
    have hle := (cutN_le s c k).1
    by_cases hh : k = s.size ∨ ((s.data[k]!).toNat : Int) = c
    · rw [cutN_hit s c k hh, lenSum_snoc, ih]
      simp only [ByteArray.size_extract]
      omega
    · rw [cutN_miss s c k hh, ih]
theorem lenSum_le {s : ByteArray} {pre : List ByteArray} (h : pre <+: cut s 10) : lenSum pre ≤ s.size + 1 := by
  have e := lenSum_cutN s 10 (s.size + 1) (Nat.le_refl _)
  have hle := (cutN_le s 10 (s.size + 1)).1
  obtain ⟨t, ht⟩ := h
  unfold cut at ht
  rw [← ht, lenSum_append] at e
  have := lenSum_nonneg t
  omega

/-- The blocks that linesIn$1 lays ahead of its loop (and the loop's two), and the box of the text. -/
def Own7 (S B r : Nat) : Prop := r = S ∨ (B ≤ r ∧ r < B + 7)

set_option maxRecDepth 100000 in
set_option maxHeartbeats 2000000 in
theorem linesIn1_stops (hIx : ∀ (s : ByteArray) (w : World), Calls Tryd.prog 150 #[.string s, .string ⟨#[10]⟩] w fun e w' => e = .returned (.int .i64 (Lib.indexByte s.data.toList 10)) ∧ w' = w)
    (n S : Nat) (hn : 3 ≤ n) (s : ByteArray) (hs : s.size ≤ 1000000) (w : World) (hS : S < w.heap.size) (hc : w.cell? ⟨S, 0, none⟩ = some (.string s)) :
    SeqStopsD Fence.wide n Tryd.prog 110 #[.pointer (some ⟨S, 0, none⟩)] (fun x : Int × ByteArray => #[Value.int .i64 x.1, Value.string x.2]) (Own7 S)
      (fun xs => xs = starts 0 (cut s 10)) (fun pre => pre <+: starts 0 (cut s 10)) (fun pre => pre <+: starts 0 (cut s 10)) (fun b x => b + 7 ≤ x) w := by
  intro l J Jx W hl hk hJ hJx hY h0
  have hSW : W.cell? ⟨S, 0, none⟩ = some (.string s) := (cell_same (hk.same S (.inl rfl) hS)).trans hc
  have hSlt : S < W.heap.size := Nat.lt_of_lt_of_le hS hk.size
  have h1 : 1 ≤ n := by omega
  refine callsIn_of_wp_marks Tryd.func110 rfl trivial ?_ rfl
  simp only [Tryd.ntmps110, List.size_toArray, List.length_cons, List.length_nil, Nat.reduceAdd, Nat.reduceSub, Array.replicate_succ, Array.replicate_zero, List.push_toArray, List.append_toArray, List.nil_append, List.cons_append]
  gi_wp2_with (refine ⟨trivial, ?_⟩; gi_at_call 111; refine (callsIn_wide.2 (SplitSeq_any _ _)).mono ?_; rintro e w' ⟨rfl, rfl⟩)
  obtain ⟨B, hB⟩ : ∃ B, W.heap.size = B := ⟨_, rfl⟩
  obtain ⟨Wi, hWi⟩ : ∃ Wi, (W.alloc (.cells #[.func (.yield l) #[] #[]] 153)).alloc (.cells #[.int .i64 0] 139) = Wi := ⟨_, rfl⟩
  rw [hWi]
  have hsi : Wi.heap.size = B + 2 := by rw [← hWi]; simp [hB]
  have hbx := boxes3_new s Wi
  have hJi : J [] Wi := by rw [← hWi]; exact hJ.alloc _ (hJ.alloc _ h0)
  have hci : Wi.cell? ⟨B, 0, none⟩ = some (.func (.yield l) #[] #[]) ∧ Wi.cell? ⟨B + 1, 0, none⟩ = some (.int .i64 0) ∧ Wi.frozen? ⟨B + 1, 0, none⟩ = false := by
    have e1 := World.alloc_heap_new W (.cells #[.func (.yield l) #[] #[]] 153)
    have e2 := World.alloc_heap_new (W.alloc (.cells #[.func (.yield l) #[] #[]] 153)) (.cells #[.int .i64 0] 139)
    have g2 := World.grownBy_alloc (W.alloc (.cells #[.func (.yield l) #[] #[]] 153)) (.cells #[.int .i64 0] 139) none
    have a2 := (g2.block W.heap.size (by simp) (by simp)).trans e1
    rw [World.size_alloc] at e2
    rw [hWi, hB] at e2 a2
    exact ⟨by simp only [World.cell?, a2]; rfl, by simp only [World.cell?, e2]; rfl, by simp only [World.frozen?, e2]; rfl⟩
  rw [hsi] at hbx
  rw [hB] at hJ hJx hY ⊢
  try simp only [Nat.add_assoc, Nat.reduceAdd]
  obtain ⟨W3, hW3⟩ : ∃ W3, ((Wi.alloc (.cells #[.string s] 9)).alloc (.cells #[.string ⟨#[10]⟩] 9)).alloc (.cells #[.int .i64 0] 3) = W3 := ⟨_, rfl⟩
  rw [hW3] at hbx ⊢
  have hs3 : W3.heap.size = B + 5 := by rw [← hW3]; simp [hsi]
  have hJ3 : J [] W3 := by rw [← hW3]; exact hJ.alloc _ (hJ.alloc _ (hJ.alloc _ hJi))
  have hk3 : ∀ b, b < B + 2 → W3.heap[b]? = Wi.heap[b]? := by
    intro b hb
    rw [← hW3]
    exact ((World.grownBy_alloc _ _ none).block b (by simp; omega) (by simp)).trans (((World.grownBy_alloc _ _ none).block b (by simp; omega) (by simp)).trans ((World.grownBy_alloc _ _ none).block b (by omega) (by simp)))
  have hwide : ∀ {A : World} {row : Option Nat}, (∀ r, row = some r → LoopBlk (fun _ => Own3 (B + 2)) W3.heap.size r ∨ (W3.heap.size ≤ r ∧ ∃ o : Obj, A.heap[r]? = some o ∧ o.isWalk = true)) →
      ∀ r, row = some r → B + 2 ≤ r ∧ (Own7 S B r ∨ (B ≤ r ∧ ∃ o : Obj, A.heap[r]? = some o ∧ o.isWalk = true)) := by
    intro A row h r e
    rw [hs3] at h
    rcases h r e with (⟨h1, h2⟩ | h | h) | ⟨h, ho⟩
    · exact ⟨h1, .inl (.inr ⟨by omega, by omega⟩)⟩
    · exact ⟨by omega, .inl (.inr ⟨by omega, by omega⟩)⟩
    · exact ⟨by omega, .inl (.inr ⟨by omega, by omega⟩)⟩
    · exact ⟨by omega, .inr ⟨by omega, ho⟩⟩
  refine wpIn_rangeFunc_ownD rfl h1 (gf := 149) (lb := #[.pointer (some ⟨B + 3, 0, none⟩), .pointer (some ⟨B + 2, 0, none⟩), .pointer (some ⟨B + 4, 0, none⟩)]) rfl trivial (enters_of Tryd.func149 (by kernel_rfl) rfl)
    (splitSeq1_stops hIx (n - 1) (B + 2) s hs W3 hbx) ?hD (fun _ => rfl)
    (fun pre X => (J (starts 0 pre) X ∧ B + 7 ≤ X.heap.size + 2) ∧ X.cell? ⟨B, 0, none⟩ = some (.func (.yield l) #[] #[]) ∧ X.cell? ⟨B + 1, 0, none⟩ = some (.int .i64 (lenSum pre)) ∧ X.frozen? ⟨B + 1, 0, none⟩ = false)
    (fun c pre X => c = .ret ∧ Jx (starts 0 pre) X) ?hI ?hIx ?h0
    (fun x => { tmps := #[.func (.yield l) #[] #[], .pointer (some ⟨S, 0, none⟩), .pointer (some ⟨B, 0, none⟩), .pointer (some ⟨B + 1, 0, none⟩), .string x, .string s, .func (.func 149) #[] #[.pointer (some ⟨B + 3, 0, none⟩), .pointer (some ⟨B + 2, 0, none⟩), .pointer (some ⟨B + 4, 0, none⟩)], .string x, undef, undef, undef, undef, undef, undef, undef, undef, undef, undef], defers := [] }) ?assign ?body ?done ?stop
  case hD => intro r hr; obtain ⟨h, h'⟩ := hr; omega
  case assign =>
    intro l x W K hK
    gi_wp2
    exact hK
  case h0 =>
    exact ⟨⟨hJ3, by omega⟩, (cell_same (hk3 B (by omega))).trans hci.1, (cell_same (hk3 (B + 1) (by omega))).trans hci.2.1, (frozen_same (hk3 (B + 1) (by omega))).trans hci.2.2⟩
  case hI =>
    rintro pre A A' row ⟨⟨hj, hz⟩, c0, c1, f1⟩ hg hr
    have hw := hwide hr
    have hb0 := hg.block B (by omega) (fun e => by have := (hw B e.symm).1; omega)
    have hb1 := hg.block (B + 1) (by omega) (fun e => by have := (hw (B + 1) e.symm).1; omega)
    exact ⟨⟨hJ _ _ _ _ hj hg (fun r e => (hw r e).2), by have := hg.size; omega⟩, (cell_same hb0).trans c0, (cell_same hb1).trans c1, (frozen_same hb1).trans f1⟩
  case hIx =>
    rintro c pre A A' row ⟨e, hj⟩ hg hr
    exact ⟨e, hJx _ _ _ _ hj hg (fun r e => (hwide hr r e).2)⟩
  case done =>
    rintro xs X rfl ⟨⟨hj, _⟩, _⟩ hd
    rw [hs3] at hd ⊢
    gi_wp2
    refine ⟨by simp, .inl ⟨_, _, rfl, run_takeDeferred hd, ?_⟩⟩
    exact ⟨_, results_none rfl _ _ _, ⟨_, rfl⟩, .inl ⟨_, rfl, hJ.putObj _ hj (.inr ⟨by omega, by omega⟩)⟩⟩
  case stop =>
    rintro c pre X hpre ⟨rfl, hj⟩ hd
    rw [hs3] at hd ⊢
    gi_wp2
    refine ⟨by simp, .inl ⟨_, _, rfl, run_takeDeferred hd, ?_⟩⟩
    exact ⟨_, results_none rfl _ _ _, ⟨_, rfl⟩, .inr ⟨_, starts_prefix hpre, hJx.putObj _ hj (.inr ⟨by omega, by omega⟩)⟩⟩
  case body =>
    rintro l' pre x X hX2 ⟨⟨hj, hz⟩, c0, c1, f1⟩ hG _
    have hbd := lenSum_le hG
    rw [lenSum_snoc] at hbd
    have hnn := lenSum_nonneg pre
    obtain ⟨fn, tmps, assign, body, hy, hR⟩ := hY _ (lenSum pre, x) X hj (by rw [← starts_snoc]; exact starts_prefix hG) (by omega)
    dsimp only at hy
    gi_wp2
    refine ⟨fun h => Bool.noConfusion h, (RoundIn.inR l' hR).mono ?_⟩
    rintro e X3 (⟨rfl, hj3, hk4⟩ | ⟨rfl, hjx3, hk4⟩)
    · have d0 := (cell_same (hk4.same (B + 1) (.inr ⟨by omega, by omega⟩) (by omega))).trans c1
      have d1 := (frozen_same (hk4.same (B + 1) (.inr ⟨by omega, by omega⟩) (by omega))).trans f1
      have hsz4 := hk4.size
      have hv : lenSum (pre ++ [x]) = lenSum pre + (x.size + 1) := lenSum_snoc pre x
      have c0' := (cell_same (hk4.same B (.inr ⟨by omega, by omega⟩) (by omega))).trans c0
      have keep : ∀ v, KeepsAt (LoopBlk (fun _ => Own3 (B + 2)) W3.heap.size) X (X3.setCell ⟨B + 1, 0, none⟩ v) := fun v => by
        rw [hs3]
        refine (hk4.less ?_).trans (KeepsAt.grown (grownBy_setCell' X3 (B + 1) v) ?_)
        · rintro r (⟨h1, h2⟩ | h | h) <;> exact .inr ⟨by omega, by omega⟩
        · intro r e; cases e; rintro (⟨h1, h2⟩ | h | h) <;> omega
      have hI4 : ∀ v, v = Value.int .i64 (lenSum pre + (x.size + 1)) → (J (starts 0 (pre ++ [x])) (X3.setCell ⟨B + 1, 0, none⟩ v) ∧ B + 7 ≤ (X3.setCell ⟨B + 1, 0, none⟩ v).heap.size + 2) ∧ (X3.setCell ⟨B + 1, 0, none⟩ v).cell? ⟨B, 0, none⟩ = some (.func (.yield l) #[] #[]) ∧
          (X3.setCell ⟨B + 1, 0, none⟩ v).cell? ⟨B + 1, 0, none⟩ = some (.int .i64 (lenSum (pre ++ [x]))) ∧ (X3.setCell ⟨B + 1, 0, none⟩ v).frozen? ⟨B + 1, 0, none⟩ = false := by
        rintro v rfl
        have hg := grownBy_setCell' X3 (B + 1) (Value.int .i64 (lenSum pre + (x.size + 1)))
        refine ⟨⟨?_, by have := hg.size; omega⟩, (cell_same (hg.block B (by omega) (by simp))).trans c0', ?_, ?_⟩
        · rw [starts_snoc]; exact hJ _ _ _ _ hj3 hg (fun r e => .inl (by cases e; exact .inr ⟨by omega, by omega⟩))
        · rw [hv]; exact World.cell?_setCell_same' _ _ _ (by rw [d0]; rfl)
        · rw [World.frozen?_setCell]; exact d1
      clear hv
      gi_wp2
      exact ⟨keep _, hI4 _ rfl⟩
    · have keep : KeepsAt (LoopBlk (fun _ => Own3 (B + 2)) W3.heap.size) X X3 := by
        rw [hs3]
        refine hk4.less ?_
        rintro r (⟨h1, h2⟩ | h | h) <;> exact .inr ⟨by omega, by omega⟩
      gi_wp2
      exact ⟨keep, rfl, by rw [starts_snoc]; exact hjx3⟩
end Go.Proofs.YtpihopmgckdigaaDoor
