/-
  Range over a function whose iterator has cells of its own: the blocks 'D B r', B being the heap's size where the iterator is called; G says which lists can come. The caller's invariant abides their turn; the caller's body leaves them as they lie.
-/
import Derived.RangeFuncNested
import Derived.RangeFuncCalls
namespace Go.Proofs.YtpihopmgckdigaaDoor
open Go.RowKit

/-- J stays when a block of D turns, or a walk's object that lies from B on. -/
def AbidesD {β : Type} (D : Nat → Prop) (B : Nat) (J : β → World → Prop) : Prop :=
  ∀ s W W' row, J s W → W.grownBy W' row → (∀ r, row = some r → D r ∨ (B ≤ r ∧ ∃ o : Obj, W.heap[r]? = some o ∧ o.isWalk = true)) → J s W'
theorem AbidesD.alloc {β : Type} {D : Nat → Prop} {B : Nat} {J : β → World → Prop} (h : AbidesD D B J) {s : β} {W : World} (o : Obj) (hs : J s W) : J s (W.alloc o) :=
  h s W _ none hs (World.grownBy_alloc W o none) (fun r e => by cases e)
theorem AbidesD.putObj {β : Type} {D : Nat → Prop} {B : Nat} {J : β → World → Prop} (h : AbidesD D B J) {s : β} {W : World} {l : Nat} (o' : Obj) (hs : J s W) (hD : D l) : J s (W.putObj l o') :=
  h s W _ (some l) hs (grownBy_putObj' W l o') (fun r e => by cases e; exact .inl hD)
theorem AbidesD.and {β : Type} {D : Nat → Prop} {B : Nat} {I I' : β → World → Prop} (h : AbidesD D B I) (h' : AbidesD D B I') : AbidesD D B (fun s W => I s W ∧ I' s W) := fun s W W' row hs hg hr => ⟨h s W W' row hs.1 hg hr, h' s W W' row hs.2 hg hr⟩

/-- The blocks of D lie as they lay. -/
structure KeepsAt (D : Nat → Prop) (W W' : World) : Prop where
  size : W.heap.size ≤ W'.heap.size
  same : ∀ r, D r → r < W.heap.size → W'.heap[r]? = W.heap[r]?
theorem KeepsAt.refl (D : Nat → Prop) (W : World) : KeepsAt D W W := ⟨Nat.le_refl _, fun _ _ _ => rfl⟩
theorem KeepsAt.trans {D : Nat → Prop} {A B C : World} (h : KeepsAt D A B) (k : KeepsAt D B C) : KeepsAt D A C :=
  ⟨Nat.le_trans h.size k.size, fun r hr hs => (k.same r hr (Nat.lt_of_lt_of_le hs h.size)).trans (h.same r hr hs)⟩
theorem KeepsAt.less {D E : Nat → Prop} {W W' : World} (h : KeepsAt D W W') (hi : ∀ r, E r → D r) : KeepsAt E W W' := ⟨h.size, fun r hr hs => h.same r (hi r hr) hs⟩
theorem KeepsAt.grown {D : Nat → Prop} {W W' : World} {row : Option Nat} (hg : W.grownBy W' row) (hrow : ∀ r, row = some r → ¬ D r) : KeepsAt D W W' :=
  ⟨hg.size, fun r hD hs => hg.block r hs (fun e => hrow r e.symm hD)⟩
theorem KeepsAt.some {D : Nat → Prop} {W W' : World} (h : KeepsAt D W W') {r : Nat} {o : Obj} (hD : D r) (ho : W.heap[r]? = some o) : W'.heap[r]? = some o :=
  (h.same r hD (Array.getElem?_eq_some_iff.1 ho).1).trans ho

/-- The contract of an iterator with cells of its own. -/
def SeqStopsD {α : Type} (F : Fence) (n : Nat) (P : Program) (g : Nat) (lb : Array Value) (encs : α → Array Value) (D : Nat → Nat → Prop) (S Sp G : List α → Prop) (Z : Nat → Nat → Prop) (w : World) : Prop :=
  ∀ (l : Nat) (J Jx : List α → World → Prop) (W : World), (∀ r, D W.heap.size r → r ≠ l) → KeepsAt (D W.heap.size) w W → AbidesD (D W.heap.size) W.heap.size J → AbidesD (D W.heap.size) W.heap.size Jx →
    (∀ pre x W1, J pre W1 → G (pre ++ [x]) → Z W.heap.size W1.heap.size → YieldAt F (n - 1) P l (encs x) W1 fun e W' =>
      (e = .returned (.bool true) ∧ J (pre ++ [x]) W' ∧ KeepsAt (D W.heap.size) W1 W') ∨ (e = .returned (.bool false) ∧ Jx (pre ++ [x]) W' ∧ KeepsAt (D W.heap.size) W1 W')) →
    J [] W →
    CallsIn F n P g (#[.func (.yield l) #[] #[]] ++ lb) W fun e W' => (∃ v, e = .returned v) ∧ ((∃ xs, S xs ∧ J xs W') ∨ (∃ pre, Sp pre ∧ Jx pre W'))

/-- How a round's body may be left. -/
def ownPostD {α : Type} (E : Nat → Prop) (I : List α → World → Prop) (Ix : Code → List α → World → Prop) (xs : List α) (W : World) : Exit → Act → World → Prop
  | .normal, _, W' => KeepsAt E W W' ∧ I xs W'
  | .ret, _, W' => KeepsAt E W W' ∧ Ix .ret xs W'
  | .exit id, _, W' => KeepsAt E W W' ∧ Ix (.exit id) xs W'
  | .goto t, _, W' => KeepsAt E W W' ∧ Ix (.goto t) xs W'
  | .panic _, _, _ => False
  | .outgrown, _, _ => False

variable {F : Fence} {n : Nat} {P : Program}

/-- The loop's own blocks (the rounds' deferred calls, the record) and the iterator's. -/
def LoopBlk (D : Nat → Nat → Prop) (B r : Nat) : Prop := D (B + 2) r ∨ r = B ∨ r = B + 1

theorem wpIn_rangeFunc_ownD {α : Type} {g : Operand} {ps : Array Tmp} {assign body : Code} {Q : Exit → Act → World → Prop} {a : Act} {w : World}
    (hro : F.round = none) (h1 : 1 ≤ n) {gf : Nat} {lb : Array Value} (hg : a.eval g = .func (.func gf) #[] lb) (hFg : F.fn gf) (eg : ∀ args w, (callFunc gf args).run P w = .ok (.enter gf args) w)
    {encs : α → Array Value} {D : Nat → Nat → Prop} {S Sp G : List α → Prop} {Z : Nat → Nat → Prop} (hseq : SeqStopsD F (n - 1) P gf lb encs D S Sp G Z w)
    (hD : ∀ r, D (w.heap.size + 2) r → r ≠ w.heap.size ∧ r ≠ w.heap.size + 1) (hps : ∀ x, (encs x).size = ps.size)
    (I : List α → World → Prop) (Ix : Code → List α → World → Prop) (hI : AbidesD (LoopBlk D w.heap.size) w.heap.size I) (hIx : ∀ c, AbidesD (LoopBlk D w.heap.size) w.heap.size (Ix c)) (h0 : I [] w) (a₁ : α → Act)
    (hassign : ∀ (l : Nat) (x : α) (W : World) (K : Act → World → Prop), K (a₁ x) W →
      assign.wpIn (F.inRound l) (n - 1 - 1) P (Exit.then K (fun _ _ _ => False)) { tmps := (ps.zip (encs x)).foldl (fun t (p, v) => t.setIfInBounds p v) a.tmps, defers := [] } W)
    (hbody : ∀ (l : Nat) (pre : List α) (x : α) (W : World), w.heap.size + 2 ≤ W.heap.size → I pre W → G (pre ++ [x]) → Z (w.heap.size + 2) W.heap.size → body.wpIn (F.inRound l) (n - 1 - 1) P (ownPostD (LoopBlk D w.heap.size) I Ix (pre ++ [x]) W) (a₁ x) W)
    (hdone : ∀ (xs : List α) (W : World), S xs → I xs W → W.heap[w.heap.size]? = some (.deferred (some [])) → Q .normal { a with defers := { target := .collected w.heap.size, args := #[] } :: a.defers } W)
    (hstop : ∀ (c : Code) (pre : List α) (W : World), Sp pre → Ix c pre W → W.heap[w.heap.size]? = some (.deferred (some [])) → c.wpIn F n P Q { a with defers := { target := .collected w.heap.size, args := #[] } :: a.defers } W) :
    (Code.rangeFunc g ps assign body).wpIn F n P Q a w := by
  refine wpIn_rangeFunc ?_
  intro fn hfn
  rw [hro]
  obtain ⟨B, hB⟩ : ∃ B, w.heap.size = B := ⟨_, rfl⟩
  rw [hB] at hD hI hIx hbody hdone hstop
  obtain ⟨rec, hrec⟩ : ∃ rec : LoopState → Option Code → Loop, rec = fun st pe => { state := st, pending := pe, fn, tmps := a.tmps, params := ps, assign, body, defers := B } := ⟨_, rfl⟩
  obtain ⟨W1, hW1⟩ : ∃ W1, (w.alloc (.deferred (some []))).alloc (.loop (rec .ready none)) = W1 := ⟨_, rfl⟩
  have hS1 : W1.heap.size = B + 2 := by rw [← hW1]; simp [hB]
  have hL1 : W1.heap[B + 1]? = some (.loop (rec .ready none)) := by
    rw [← hW1]; have := World.alloc_heap_new (w.alloc (.deferred (some []))) (.loop (rec .ready none)); rwa [World.size_alloc, hB] at this
  have hK1 : W1.heap[B]? = some (.deferred (some [])) := by
    rw [← hW1]; exact (Below.heap_alloc _ _ _ (by simp [hB])).trans (by have := World.alloc_heap_new w (.deferred (some [])); rwa [hB] at this)
  have hI1 : I [] W1 := by rw [← hW1]; exact hI.alloc _ (hI.alloc _ h0)
  have hk0 : KeepsAt (D W1.heap.size) w W1 := by
    rw [← hW1]; exact (KeepsAt.grown (World.grownBy_alloc w _ none) (fun r e => by cases e)).trans (KeepsAt.grown (World.grownBy_alloc _ _ none) (fun r e => by cases e))
  have hb0 : LoopBlk D B B := .inr (.inl rfl)
  have hb1 : LoopBlk D B (B + 1) := .inr (.inr rfl)
  refine ⟨B + 1, [{ target := .collected B, args := #[] }], W1, { target := .fn (.func gf) lb, args := #[.func (.yield (B + 1)) #[] #[]] }, W1, gf,
    #[.func (.yield (B + 1)) #[] #[]] ++ lb, W1, ?_, ?_, ?_, ?_, fun _ => h1, ?_⟩
  · rw [← hW1, hrec]; have := run_enterLoop_outer (P := P) (w := w) fn a.tmps ps assign body; rw [hB] at this; exact this
  · simp only [resolve, hg]
    simp [go_sem]
  · intro f' hf'; simp [Target.leads] at hf'; subst hf'; exact hFg
  · simp [invoke, go_sem, eg]
  · -- a step of the iterator's turns neither block of the loop
    have keep : ∀ {A A' : World} {row : Option Nat} {l : Nat} {o : Obj}, (l = B ∨ l = B + 1) → A.heap[l]? = some o → o.isWalk = false → A.grownBy A' row →
        (∀ r, row = some r → D W1.heap.size r ∨ (W1.heap.size ≤ r ∧ ∃ o : Obj, A.heap[r]? = some o ∧ o.isWalk = true)) → A'.heap[l]? = some o := by
      intro A A' row l o hl ho hw hg' hr
      refine (hg'.block l (Array.getElem?_eq_some_iff.1 ho).1 (fun e => ?_)).trans ho
      rcases hr l e.symm with h | ⟨_, o', ho', hw'⟩
      · rw [hS1] at h; have := hD l h; omega
      · rw [ho] at ho'; cases ho'; rw [hw] at hw'; cases hw'
    have wide : ∀ {A : World} {row : Option Nat}, (∀ r, row = some r → D W1.heap.size r ∨ (W1.heap.size ≤ r ∧ ∃ o : Obj, A.heap[r]? = some o ∧ o.isWalk = true)) →
        ∀ r, row = some r → LoopBlk D B r ∨ (w.heap.size ≤ r ∧ ∃ o : Obj, A.heap[r]? = some o ∧ o.isWalk = true) := by
      intro A row hr r e
      rcases hr r e with h | ⟨h, ho⟩
      · exact .inl (.inl (by rwa [hS1] at h))
      · exact .inr ⟨by omega, ho⟩
    rw [hB] at wide
    refine (hseq (B + 1)
      (fun pre W => (I pre W ∧ B + 2 ≤ W.heap.size) ∧ W.heap[B + 1]? = some (.loop (rec .ready none)) ∧ W.heap[B]? = some (.deferred (some [])))
      (fun pre W => ∃ c, Ix c pre W ∧ W.heap[B + 1]? = some (.loop (rec .done (some c))) ∧ W.heap[B]? = some (.deferred (some [])))
      W1 (fun r hr => (hD r (by rwa [hS1] at hr)).2) hk0
      (fun s A A' row hs hg' hr => ⟨⟨hI s A A' row hs.1.1 hg' (wide hr), Nat.le_trans hs.1.2 hg'.size⟩, keep (.inr rfl) hs.2.1 rfl hg' hr, keep (.inl rfl) hs.2.2 rfl hg' hr⟩)
      (fun s A A' row hs hg' hr => by
        obtain ⟨c, hc, hl, hk⟩ := hs
        exact ⟨c, hIx c s A A' row hc hg' (wide hr), keep (.inr rfl) hl rfl hg' hr, keep (.inl rfl) hk rfl hg' hr⟩)
      ?_ ⟨⟨hI1, by omega⟩, hL1, hK1⟩).mono ?_
    · rintro pre x W ⟨⟨hi, hsz⟩, hl, hk⟩ hlen hZ
      have hlt : B + 1 < W.heap.size := by omega
      have hy := run_yield (P := P) (args := encs x) hl (by rw [hrec]; exact hps x)
      rw [hrec] at hy
      refine ⟨fn, _, assign, body, hy, roundIn_of_wpIn hfn (hassign _ x W _ ⟨_, run_beginRound hl (by rw [hrec]), ?_⟩)⟩
      obtain ⟨Wb, hWb⟩ : ∃ Wb, W.putObj (B + 1) (.loop { rec .ready none with state := .busy }) = Wb := ⟨_, rfl⟩
      have hsb : Wb.heap.size = W.heap.size := by rw [← hWb]; simp [World.putObj]
      have hl2 : Wb.heap[B + 1]? = some (.loop { rec .ready none with state := .busy }) := by rw [← hWb]; exact World.putObj_heap_same hlt
      have hk2 : Wb.heap[B]? = some (.deferred (some [])) := by rw [← hWb]; exact (World.putObj_heap_other (by omega)).trans hk
      have hw2 : KeepsAt (D W1.heap.size) W Wb := by
        rw [← hWb]; exact KeepsAt.grown (grownBy_putObj' W (B + 1) _) (fun r e h => by cases e; rw [hS1] at h; exact (hD _ h).2 rfl)
      have hib : I pre Wb := by rw [← hWb]; exact hI.putObj _ hi hb1
      rw [hWb]
      refine wpIn_mono (hbody _ pre x _ (by omega) hib hlen (by rw [hsb]; rw [hS1] at hZ; exact hZ)) ?_
      have fin : ∀ (jump : Option Code) (W3 : World), KeepsAt (LoopBlk D B) Wb W3 →
          (Instr.endRound (B + 1) jump).run P W3 = .ok (.bool jump.isNone) (W3.putObj (B + 1) (.loop (rec (if jump.isNone then .ready else .done) jump))) ∧
          (W3.putObj (B + 1) (.loop (rec (if jump.isNone then .ready else .done) jump))).heap[B + 1]? = some (.loop (rec (if jump.isNone then .ready else .done) jump)) ∧
          (W3.putObj (B + 1) (.loop (rec (if jump.isNone then .ready else .done) jump))).heap[B]? = some (.deferred (some [])) ∧
          KeepsAt (D W1.heap.size) W (W3.putObj (B + 1) (.loop (rec (if jump.isNone then .ready else .done) jump))) := fun jump W3 hk3 => by
        have hl3 := hk3.some hb1 hl2
        have := run_endRound (P := P) jump hl3
        rw [hrec] at this ⊢
        refine ⟨this, World.putObj_heap_same (Array.getElem?_eq_some_iff.1 hl3).1, (World.putObj_heap_other (by omega)).trans (hk3.some hb0 hk2), ?_⟩
        refine hw2.trans ((hk3.less (fun r h => .inl (by rwa [hS1] at h))).trans (KeepsAt.grown (grownBy_putObj' W3 (B + 1) _) (fun r e h => ?_)))
        cases e; rw [hS1] at h; exact (hD _ h).2 rfl
      rintro e a3 W3 hp
      cases e with
      | normal =>
        obtain ⟨hk3, hi3⟩ := hp
        obtain ⟨hr, hl4, hk4, hkk⟩ := fin none W3 hk3
        exact ⟨_, _, hr, .inl ⟨rfl, ⟨⟨hI.putObj _ hi3 hb1, by have := hkk.size; omega⟩, hl4, hk4⟩, hkk⟩⟩
      | ret =>
        obtain ⟨hk3, hi3⟩ := hp
        obtain ⟨hr, hl4, hk4, hkk⟩ := fin (some .ret) W3 hk3
        exact ⟨_, _, hr, .inr ⟨rfl, ⟨.ret, (hIx _).putObj _ hi3 hb1, hl4, hk4⟩, hkk⟩⟩
      | exit id =>
        obtain ⟨hk3, hi3⟩ := hp
        obtain ⟨hr, hl4, hk4, hkk⟩ := fin (some (.exit id)) W3 hk3
        exact ⟨_, _, hr, .inr ⟨rfl, ⟨.exit id, (hIx _).putObj _ hi3 hb1, hl4, hk4⟩, hkk⟩⟩
      | goto t =>
        obtain ⟨hk3, hi3⟩ := hp
        obtain ⟨hr, hl4, hk4, hkk⟩ := fin (some (.goto t)) W3 hk3
        exact ⟨_, _, hr, .inr ⟨rfl, ⟨.goto t, (hIx _).putObj _ hi3 hb1, hl4, hk4⟩, hkk⟩⟩
      | panic ch => exact hp.elim
      | outgrown => exact hp.elim
    · rintro e W2 ⟨⟨v, rfl⟩, (⟨xs, hS, ⟨hi, _⟩, hl, hk⟩ | ⟨pre, hSp, c, hi, hl, hk⟩)⟩
      · exact ⟨none, _, by have := run_endLoop (P := P) hl (by rw [hrec]; simp); rw [hrec] at this; exact this, hdone xs _ hS (hI.putObj _ hi hb1) ((World.putObj_heap_other (by omega)).trans hk)⟩
      · exact ⟨some c, _, by have := run_endLoop (P := P) hl (by rw [hrec]; simp); rw [hrec] at this; exact this, hstop c pre _ hSp ((hIx c).putObj _ hi hb1) ((World.putObj_heap_other (by omega)).trans hk)⟩

end Go.Proofs.YtpihopmgckdigaaDoor
