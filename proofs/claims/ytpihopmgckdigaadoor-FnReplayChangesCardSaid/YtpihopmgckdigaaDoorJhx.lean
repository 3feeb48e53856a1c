/-
  Range over a function (the loop variable is boxed) whose iterator writes the blocks 'D B r' and reads the blocks 'E B r', B being the heap's size where the iterator is called. The caller's invariant abides the turn of the former; the caller's body leaves the latter as they lie.
  ReplayChanges of the model; the closure of slices.Values over a list of changes.
  replayed and ReplayChanges of the program.
-/
import Derived.Test.YtpihopmgckdigaaDoorLe
import Derived.Test.YtpihopmgckdigaaDoorJgx
import Derived.RangeFuncNested
import Derived.RangeFuncBound
import Derived.RangeFuncCalls
import Derived.RangeFuncLeaves
import Derived.Shelf.Abstract
import Derived.Shelf.RegionOpen
import Derived.WalkKit
import Derived.OwnWalkIn
import Derived.TacticsInMore
import Derived.LoopNIn
import Derived.LoopIn
namespace Go.Proofs.YtpihopmgckdigaaDoor
open Go.RowKit

variable {F : Fence} {n : Nat} {P : Program}

theorem wpIn_rangeFunc_ownF {α : Type} {g : Operand} {ps : Array Tmp} {assign body : Code} {Q : Exit → Act → World → Prop} {a : Act} {w : World}
    (hro : F.round = none) (h1 : 1 ≤ n) {gf : Nat} {lb : Array Value} (hg : a.eval g = .func (.func gf) #[] lb) (hFg : F.fn gf) (eg : ∀ args w, (callFunc gf args).run P w = .ok (.enter gf args) w)
    {encs : α → Array Value} {D E : Nat → Nat → Prop} {S Sp G : List α → Prop} {Z : Nat → Nat → Prop} (hseq : SeqStopsE F (n - 1) P gf lb encs D E S Sp G Z w)
    (hD : ∀ r, D (w.heap.size + 2) r → r ≠ w.heap.size ∧ r ≠ w.heap.size + 1) (hE : ∀ r, E (w.heap.size + 2) r → r ≠ w.heap.size ∧ r ≠ w.heap.size + 1) (hps : ∀ x, (encs x).size = ps.size)
    (I : List α → World → Prop) (Ix : Code → List α → World → Prop) (hI : AbidesD (LoopBlk D w.heap.size) w.heap.size I) (hIx : ∀ c, AbidesD (LoopBlk D w.heap.size) w.heap.size (Ix c)) (h0 : I [] w) (Ax : α → Act → World → Prop) (hAx : ∀ x a', AbidesD (LoopBlk D w.heap.size) w.heap.size (fun (_ : Unit) W => Ax x a' W))
    (hassign : ∀ (l : Nat) (pre : List α) (x : α) (W : World) (K : Act → World → Prop), w.heap.size + 2 ≤ W.heap.size → I pre W → G (pre ++ [x]) → (∀ a' W', KeepsAt (LoopBlk E w.heap.size) W W' → I pre W' → Ax x a' W' → K a' W') →
      assign.wpIn (F.inRound l) (n - 1 - 1) P (Exit.then K (fun _ _ _ => False)) { tmps := (ps.zip (encs x)).foldl (fun t (p, v) => t.setIfInBounds p v) a.tmps, defers := [] } W)
    (hbody : ∀ (l : Nat) (pre : List α) (x : α) (a' : Act) (W : World), w.heap.size + 2 ≤ W.heap.size → I pre W → G (pre ++ [x]) → Ax x a' W → body.wpIn (F.inRound l) (n - 1 - 1) P (ownPostD (LoopBlk E w.heap.size) I Ix (pre ++ [x]) W) a' W)
    (hdone : ∀ (xs : List α) (W : World), S xs → I xs W → W.heap[w.heap.size]? = some (.deferred (some [])) → Q .normal { a with defers := { target := .collected w.heap.size, args := #[] } :: a.defers } W)
    (hstop : ∀ (c : Code) (pre : List α) (W : World), Sp pre → Ix c pre W → W.heap[w.heap.size]? = some (.deferred (some [])) → c.wpIn F n P Q { a with defers := { target := .collected w.heap.size, args := #[] } :: a.defers } W) :
    (Code.rangeFunc g ps assign body).wpIn F n P Q a w := by
  refine wpIn_rangeFunc ?_
  intro fn hfn
  rw [hro]
  obtain ⟨B, hB⟩ : ∃ B, w.heap.size = B := ⟨_, rfl⟩
  rw [hB] at hD hE hI hIx hAx hassign hbody hdone hstop
  obtain ⟨rec, hrec⟩ : ∃ rec : LoopState → Option Code → Loop, rec = fun st pe => { state := st, pending := pe, fn, tmps := a.tmps, params := ps, assign, body, defers := B } := ⟨_, rfl⟩
  obtain ⟨W1, hW1⟩ : ∃ W1, (w.alloc (.deferred (some []))).alloc (.loop (rec .ready none)) = W1 := ⟨_, rfl⟩
  have hS1 : W1.heap.size = B + 2 := by rw [← hW1]; simp [hB]
  have hL1 : W1.heap[B + 1]? = some (.loop (rec .ready none)) := by
    rw [← hW1]; have := World.alloc_heap_new (w.alloc (.deferred (some []))) (.loop (rec .ready none)); rwa [World.size_alloc, hB] at this
  have hK1 : W1.heap[B]? = some (.deferred (some [])) := by
    rw [← hW1]; exact (Below.heap_alloc _ _ _ (by simp [hB])).trans (by have := World.alloc_heap_new w (.deferred (some [])); rwa [hB] at this)
  have hI1 : I [] W1 := by rw [← hW1]; exact hI.alloc _ (hI.alloc _ h0)
  have hk0 : KeepsAt (E W1.heap.size) w W1 := by
    rw [← hW1]; exact (KeepsAt.grown (World.grownBy_alloc w _ none) (fun r e => by cases e)).trans (KeepsAt.grown (World.grownBy_alloc _ _ none) (fun r e => by cases e))
  have hb1 : LoopBlk D B (B + 1) := .inr (.inr rfl)
  have he0 : LoopBlk E B B := .inr (.inl rfl)
  have he1 : LoopBlk E B (B + 1) := .inr (.inr rfl)
  refine ⟨B + 1, [{ target := .collected B, args := #[] }], W1, { target := .fn (.func gf) lb, args := #[.func (.yield (B + 1)) #[] #[]] }, W1, gf,
    #[.func (.yield (B + 1)) #[] #[]] ++ lb, W1, ?_, ?_, ?_, ?_, fun _ => h1, ?_⟩
  · rw [← hW1, hrec]; have := run_enterLoop_outer (P := P) (w := w) fn a.tmps ps assign body; rw [hB] at this; exact this
  · simp only [resolve, hg]
    simp [go_sem]
  · intro f' hf'; simp [Target.leads] at hf'; subst hf'; exact hFg
  · simp [invoke, go_sem, eg]
  · -- a step of the iterator's turns neither block of the loop
    have keep : ∀ {A A' : World} {row : Option Nat} {l : Nat} {o : Obj}, (l = B ∨ l = B + 1) → A.heap[l]? = some o → o.isWalk = false → A.grownBy A' row →
        (∀ r, row = some r → D W1.heap.size r ∨ (W1.heap.size ≤ r ∧ ∃ o : Obj, A.heap[r]? = some o ∧ o.isWalk = true)) → A'.heap[l]? = some o := by
      intro A A' row l o hl ho hw hg' hr
      refine (hg'.block l (Array.getElem?_eq_some_iff.1 ho).1 (fun e => ?_)).trans ho
      rcases hr l e.symm with h | ⟨_, o', ho', hw'⟩
      · rw [hS1] at h; have := hD l h; omega
      · rw [ho] at ho'; cases ho'; rw [hw] at hw'; cases hw'
    have wide : ∀ {A : World} {row : Option Nat}, (∀ r, row = some r → D W1.heap.size r ∨ (W1.heap.size ≤ r ∧ ∃ o : Obj, A.heap[r]? = some o ∧ o.isWalk = true)) →
        ∀ r, row = some r → LoopBlk D B r ∨ (w.heap.size ≤ r ∧ ∃ o : Obj, A.heap[r]? = some o ∧ o.isWalk = true) := by
      intro A row hr r e
      rcases hr r e with h | ⟨h, ho⟩
      · exact .inl (.inl (by rwa [hS1] at h))
      · exact .inr ⟨by omega, ho⟩
    rw [hB] at wide
    refine (hseq (B + 1)
      (fun pre W => (I pre W ∧ B + 2 ≤ W.heap.size) ∧ W.heap[B + 1]? = some (.loop (rec .ready none)) ∧ W.heap[B]? = some (.deferred (some [])))
      (fun pre W => ∃ c, Ix c pre W ∧ W.heap[B + 1]? = some (.loop (rec .done (some c))) ∧ W.heap[B]? = some (.deferred (some [])))
      W1 (fun r hr => (hD r (by rwa [hS1] at hr)).2) (fun r hr => (hE r (by rwa [hS1] at hr)).2) hk0
      (fun s A A' row hs hg' hr => ⟨⟨hI s A A' row hs.1.1 hg' (wide hr), Nat.le_trans hs.1.2 hg'.size⟩, keep (.inr rfl) hs.2.1 rfl hg' hr, keep (.inl rfl) hs.2.2 rfl hg' hr⟩)
      (fun s A A' row hs hg' hr => by
        obtain ⟨c, hc, hl, hk⟩ := hs
        exact ⟨c, hIx c s A A' row hc hg' (wide hr), keep (.inr rfl) hl rfl hg' hr, keep (.inl rfl) hk rfl hg' hr⟩)
      ?_ ⟨⟨hI1, by omega⟩, hL1, hK1⟩).mono ?_
    · rintro pre x W ⟨⟨hi, hsz⟩, hl, hk⟩ hlen hZ
      have hlt : B + 1 < W.heap.size := by omega
      have hy := run_yield (P := P) (args := encs x) hl (by rw [hrec]; exact hps x)
      rw [hrec] at hy
      refine ⟨fn, _, assign, body, hy, roundIn_of_wpIn hfn (hassign _ pre x W _ hsz hi hlen ?_)⟩
      intro a' Wa hka hia hax
      have hla := hka.some he1 hl
      have hda := hka.some he0 hk
      refine ⟨_, run_beginRound hla (by rw [hrec]), ?_⟩
      obtain ⟨Wb, hWb⟩ : ∃ Wb, Wa.putObj (B + 1) (.loop { rec .ready none with state := .busy }) = Wb := ⟨_, rfl⟩
      have hsb : Wb.heap.size = Wa.heap.size := by rw [← hWb]; simp [World.putObj]
      have hsa := hka.size
      have hlta : B + 1 < Wa.heap.size := by omega
      have hl2 : Wb.heap[B + 1]? = some (.loop { rec .ready none with state := .busy }) := by rw [← hWb]; exact World.putObj_heap_same hlta
      have hk2 : Wb.heap[B]? = some (.deferred (some [])) := by rw [← hWb]; exact (World.putObj_heap_other (by omega)).trans hda
      have hw2 : KeepsAt (E W1.heap.size) W Wb := by
        rw [← hWb]; exact (hka.less (fun r h => .inl (by rwa [hS1] at h))).trans <| KeepsAt.grown (grownBy_putObj' Wa (B + 1) _) (fun r e h => by cases e; rw [hS1] at h; exact (hE _ h).2 rfl)
      have hib : I pre Wb := by rw [← hWb]; exact hI.putObj _ hia hb1
      have hab : Ax x a' Wb := by rw [← hWb]; exact (hAx x a').putObj (s := ()) _ hax hb1
      rw [hWb]
      refine wpIn_mono (hbody _ pre x a' _ (by omega) hib hlen hab) ?_
      have fin : ∀ (jump : Option Code) (W3 : World), KeepsAt (LoopBlk E B) Wb W3 →
          (Instr.endRound (B + 1) jump).run P W3 = .ok (.bool jump.isNone) (W3.putObj (B + 1) (.loop (rec (if jump.isNone then .ready else .done) jump))) ∧
          (W3.putObj (B + 1) (.loop (rec (if jump.isNone then .ready else .done) jump))).heap[B + 1]? = some (.loop (rec (if jump.isNone then .ready else .done) jump)) ∧
          (W3.putObj (B + 1) (.loop (rec (if jump.isNone then .ready else .done) jump))).heap[B]? = some (.deferred (some [])) ∧
          KeepsAt (E W1.heap.size) W (W3.putObj (B + 1) (.loop (rec (if jump.isNone then .ready else .done) jump))) := fun jump W3 hk3 => by
        have hl3 := hk3.some he1 hl2
        have := run_endRound (P := P) jump hl3
        rw [hrec] at this ⊢
        refine ⟨this, World.putObj_heap_same (Array.getElem?_eq_some_iff.1 hl3).1, (World.putObj_heap_other (by omega)).trans (hk3.some he0 hk2), ?_⟩
        refine hw2.trans ((hk3.less (fun r h => .inl (by rwa [hS1] at h))).trans (KeepsAt.grown (grownBy_putObj' W3 (B + 1) _) (fun r e h => ?_)))
        cases e; rw [hS1] at h; exact (hE _ h).2 rfl
      rintro e a3 W3 hp
      cases e with
      | normal =>
        obtain ⟨hk3, hi3⟩ := hp
        obtain ⟨hr, hl4, hk4, hkk⟩ := fin none W3 hk3
        exact ⟨_, _, hr, .inl ⟨rfl, ⟨⟨hI.putObj _ hi3 hb1, by have := hkk.size; omega⟩, hl4, hk4⟩, hkk⟩⟩
      | ret =>
        obtain ⟨hk3, hi3⟩ := hp
        obtain ⟨hr, hl4, hk4, hkk⟩ := fin (some .ret) W3 hk3
        exact ⟨_, _, hr, .inr ⟨rfl, ⟨.ret, (hIx _).putObj _ hi3 hb1, hl4, hk4⟩, hkk⟩⟩
      | exit id =>
        obtain ⟨hk3, hi3⟩ := hp
        obtain ⟨hr, hl4, hk4, hkk⟩ := fin (some (.exit id)) W3 hk3
        exact ⟨_, _, hr, .inr ⟨rfl, ⟨.exit id, (hIx _).putObj _ hi3 hb1, hl4, hk4⟩, hkk⟩⟩
      | goto t =>
        obtain ⟨hk3, hi3⟩ := hp
        obtain ⟨hr, hl4, hk4, hkk⟩ := fin (some (.goto t)) W3 hk3
        exact ⟨_, _, hr, .inr ⟨rfl, ⟨.goto t, (hIx _).putObj _ hi3 hb1, hl4, hk4⟩, hkk⟩⟩
      | panic ch => exact hp.elim
      | outgrown => exact hp.elim
    · rintro e W2 ⟨⟨v, rfl⟩, (⟨xs, hS, ⟨hi, _⟩, hl, hk⟩ | ⟨pre, hSp, c, hi, hl, hk⟩)⟩
      · exact ⟨none, _, by have := run_endLoop (P := P) hl (by rw [hrec]; simp); rw [hrec] at this; exact this, hdone xs _ hS (hI.putObj _ hi hb1) ((World.putObj_heap_other (by omega)).trans hk)⟩
      · exact ⟨some c, _, by have := run_endLoop (P := P) hl (by rw [hrec]; simp); rw [hrec] at this; exact this, hstop c pre _ hSp ((hIx c).putObj _ hi hb1) ((World.putObj_heap_other (by omega)).trans hk)⟩

end Go.Proofs.YtpihopmgckdigaaDoor

namespace Go.Proofs.YtpihopmgckdigaaDoor
open Go.RowKit Go.Shelf
attribute [local go_sem] Oper.semAt_some
set_option linter.unusedVariables false
set_option linter.unusedSimpArgs false

/-- What ReplayChanges returns: whether it is possible, and the files. -/
def rpR (ls : List Fl) (cs : List Ch) : Option (List Fl) := if filesB ls && decide (cs.length ≤ 100) then rpC ls cs else none
def rpF (ls : List Fl) (cs : List Ch) : List Fl := (rpR ls cs).getD []
def rpB (ls : List Fl) (cs : List Ch) : Bool := (rpR ls cs).isSome
theorem rpR_no {ls : List Fl} {cs : List Ch} (h : filesB ls = false ∨ ¬ cs.length ≤ 100) : rpR ls cs = none := by
  unfold rpR
  rcases h with h | h
  · rw [h]; rfl
  · rw [decide_eq_false h, Bool.and_false]; rfl
theorem rpR_is {ls : List Fl} {cs : List Ch} (h : filesB ls = true) (hc : cs.length ≤ 100) : rpR ls cs = rpC ls cs := by
  unfold rpR; rw [h, decide_eq_true hc]; rfl
theorem rpC_len : ∀ (cs : List Ch) (ls fs : List Fl), rpC ls cs = some fs → fs.length = ls.length
  | [], ls, fs, h => by injection h with h; rw [h]
  | x :: r, ls, fs, h => by
    unfold rpC at h
    by_cases hk : okC ls x = true
    · rw [if_pos hk] at h
      rw [rpC_len r _ _ h, upC_len]
    · rw [if_neg hk] at h; cases h
theorem rpC_drop {ls : List Fl} {cs : List Ch} {k : Nat} (hk : k < cs.length) : rpC ls (cs.drop k) = if okC ls (cs.getD k Ch.dummy) then rpC (upC ls (cs.getD k Ch.dummy)) (cs.drop (k + 1)) else none := by
  have e : cs.getD k Ch.dummy = cs[k] := by simp [List.getD, hk]
  rw [e, List.drop_eq_getElem_cons hk]; rfl
/-- What it leaves. -/
def RpPost (ls : List Fl) (cs : List Ch) (w : World) (e : Ending) (w' : World) : Prop := ∃ a c lo hi, e = .returned (.tuple #[.slice a (rpF ls cs).length c, .bool (rpB ls cs)]) ∧ FO w' lo hi (.slice a (rpF ls cs).length c) (rpF ls cs) ∧ w.heap.size ≤ lo ∧ hi ≤ w'.heap.size ∧ Below w.heap.size w w' ∧ (rpB ls cs = true → ∃ g, a = some ⟨g, 0, none⟩)
theorem rp_none {ls : List Fl} {cs : List Ch} {w w' : World} (h : rpR ls cs = none) (hb : Below w.heap.size w w') : RpPost ls cs w (.returned (.tuple #[.slice none 0 0, .bool false])) w' := by
  have e1 : rpF ls cs = [] := by unfold rpF; rw [h]; rfl
  have e2 : rpB ls cs = false := by unfold rpB; rw [h]; rfl
  exact ⟨none, 0, w.heap.size, w.heap.size, by rw [e1, e2]; rfl, by rw [e1]; exact ⟨World.ownsRow_nil _ _ _ _, fun g e => by cases e⟩, Nat.le_refl _, hb.size, hb, fun h => by rw [e2] at h; cases h⟩
theorem rp_lit {ls : List Fl} {cs : List Ch} {w w1 : World} (h : rpR ls cs = none) (hb : Below w.heap.size w w1) : RpPost ls cs w (.returned (.tuple #[.slice (some ⟨w1.heap.size, 0, none⟩) 0 0, .bool false])) (w1.alloc lit0) := by
  have e1 : rpF ls cs = [] := by unfold rpF; rw [h]; rfl
  have e2 : rpB ls cs = false := by unfold rpB; rw [h]; rfl
  refine ⟨some ⟨w1.heap.size, 0, none⟩, 0, w1.heap.size, w1.heap.size + 1, by rw [e1, e2]; rfl, ?_, hb.size, by rw [World.size_alloc]; exact Nat.le_refl _, hb.alloc hb.size _, fun h => by rw [e2] at h; cases h⟩
  rw [e1]
  exact ⟨litO w1 (Nat.le_refl _), fun g e => by injection e with e; subst e; exact Nat.lt_succ_self _⟩
theorem rp_some {ls fs : List Fl} {cs : List Ch} {w w' : World} {g c L : Nat} (h : rpR ls cs = some fs) (hL : fs.length = L) (hf : FO w' g (g + 1) (.slice (some ⟨g, 0, none⟩) L c) fs) (h1 : w.heap.size ≤ g) (h2 : g < w'.heap.size) (hb : Below w.heap.size w w') :
    RpPost ls cs w (.returned (.tuple #[.slice (some ⟨g, 0, none⟩) L c, .bool true])) w' := by
  have e1 : rpF ls cs = fs := by unfold rpF; rw [h]; rfl
  have e2 : rpB ls cs = true := by unfold rpB; rw [h]; rfl
  subst hL
  exact ⟨some ⟨g, 0, none⟩, c, g, g + 1, by rw [e1, e2], by rw [e1]; exact hf, h1, h2, hb, fun _ => ⟨g, rfl⟩⟩
set_option maxRecDepth 100000 in
set_option maxHeartbeats 1000000 in
theorem replay_spec (ls : List Fl) (L : Nat) (hL : ls.length = L) (hl : L ≤ 2000000) (hz : FlSz ls) (cs : List Ch) (n : Nat) (hn : cs.length = n) (hcz : ChSz cs) (g c cap : Nat) (a : Option Addr) (hcap : L ≤ c) (hcm : c ≤ 9223372036854775807) (w : World) (h : FsAt w ls (.slice (some ⟨g, 0, none⟩) L c)) (hc : CsAt w cs (.slice a n cap)) :
    Calls Tryd.prog 8 #[.slice (some ⟨g, 0, none⟩) L c, .slice a n cap] w (RpPost ls cs w) := by
  have HF := Lib.hid h
  have HC := Lib.hid hc
  have HL := Lib.hid hL
  have HLB : Hid (ls.length ≤ 2000000) := Lib.hid (by rw [hL]; omega)
  have HLC : Hid (ls.length ≤ c) := Lib.hid (by rw [hL]; omega)
  have HZ : Hid (FlSz ls) := Lib.hid hz
  have HCZ : Hid (ChSz cs) := Lib.hid hcz
  have HN := Lib.hid hn
  have hn9 : n ≤ 9223372036854775807 := by have := hc.slice; rw [hn] at this; obtain ⟨_, _, _, h⟩ := this; exact h
  obtain ⟨b, hb⟩ : ∃ b, filesB ls = b := ⟨_, rfl⟩
  have HB := Lib.hid hb
  cases b with
  | false =>
    have HR : Hid (rpR ls cs = none) := Lib.hid (rpR_no (.inl hb))
    clear h hc hL hz hcz hn hb
    go_enter Tryd.func8, Tryd.ntmps8
    go_wp2_with fail
    go_at_call 27
    refine (filesValid_spec2 ls (some ⟨g, 0, none⟩) c L w HL.out HLB.out HLC.out hcm HZ.out HF.out).mono ?_
    rintro e w1 ⟨rfl, hb1⟩
    rw [HB.out]
    have HB1 := Lib.hid hb1
    clear hb1
    go_wp2_with fail
    exact bodyPost_ret (v := .tuple #[.slice (some ⟨w1.heap.size, 0, none⟩) 0 0, .bool false]) (by simp [results, Tryd.results8, go_sem]; try rfl) rfl (rp_lit HR.out HB1.out)
  | true =>
    by_cases hlong : (n : Int) > 100
    · have HR : Hid (rpR ls cs = none) := Lib.hid (rpR_no (.inr (by rw [hn]; omega)))
      clear h hc hL hz hcz hn hb
      go_enter Tryd.func8, Tryd.ntmps8
      go_wp2_with fail
      go_at_call 27
      refine (filesValid_spec2 ls (some ⟨g, 0, none⟩) c L w HL.out HLB.out HLC.out hcm HZ.out HF.out).mono ?_
      rintro e w1 ⟨rfl, hb1⟩
      rw [HB.out]
      have HB1 := Lib.hid hb1
      clear hb1
      go_wp2_with fail
      exact bodyPost_ret (v := .tuple #[.slice (some ⟨w1.heap.size, 0, none⟩) 0 0, .bool false]) (by simp [results, Tryd.results8, go_sem]; try rfl) rfl (rp_lit HR.out HB1.out)
    · have HR : Hid (rpR ls cs = rpC ls cs) := Lib.hid (rpR_is hb (by rw [hn]; omega))
      have HCL : Hid ((cellsF ls).length = L * 2) := Lib.hid (by rw [cellsF_len, hL])
      obtain ⟨i0, hi, hz0, hz1, hz2⟩ := info_parts Tryd.infoFile
      clear h hc hL hz hcz hn hb
      go_enter Tryd.func8, Tryd.ntmps8
      go_wp2_with fail
      go_at_call 27
      refine (filesValid_spec2 ls (some ⟨g, 0, none⟩) c L w HL.out HLB.out HLC.out hcm HZ.out HF.out).mono ?_
      rintro e w1 ⟨rfl, hb1⟩
      rw [HB.out]
      have HB1 := Lib.hid hb1
      have HF1 := Lib.hid (HF.out.kept hb1)
      have HC1 := Lib.hid (HC.out.kept hb1)
      have HN1 : Hid (News ls g w1) := Lib.hid (news_at HF1.out HL.out)
      clear hb1
      go_wp2_with (at_builtin; suffices hgoal : _ ∧ True from hgoal.1)
      refine ⟨?_, trivial⟩
      refine wpList_append_own _ rfl _ _ 23 rfl w1.heap.size 66 i0 _ 2 32 Tryd.underlying23 hi hz0 hz1 hz2 rfl (by omega) (.slice (some ⟨w1.heap.size, 0, none⟩) 0 0) 0 [] rfl (litO w1 (Nat.le_refl _)) ⟨g, 0, none⟩ L c (cellsF ls) rfl HCL.out (fun j u hj => Lib.cell?_alloc_some _ (HN1.out j u hj)) cellsF_one (by unfold maxLen; omega) (by omega) (by rw [World.size_alloc]; omega) ?_
      intro v' w2 hown hgrow hnil
      have hnn := not_nil hnil rfl
      rw [Nat.zero_add, List.nil_append] at hown
      obtain ⟨q, fc, rfl, hO, hq1, hq2⟩ := own_pin hown hnn
      have HO : Hid (FO w2 q (q + 1) (.slice (some ⟨q, 0, none⟩) L fc) ls) := Lib.hid (by unfold FO; rw [HL.out]; exact hO)
      have HBG : Hid (Below w1.heap.size w1 w2) := Lib.hid (((Below.refl _ w1).alloc (Nat.le_refl _) _).grown hgrow (by rw [World.size_alloc]; omega) (fun k hk => by injection hk with hk; exact Nat.le_of_eq hk))
      have HB2 := Lib.hid (HB1.out.trans (HBG.out.mono HB1.out.size))
      have HC2 := Lib.hid (HC1.out.kept HBG.out)
      have HQ : Hid (w.heap.size ≤ q ∧ q < w2.heap.size) := Lib.hid ⟨Nat.le_trans HB1.out.size hq1, hq2⟩
      clear hown hgrow hnil hnn hO hq1 hq2
      go_wp2_with fail
      go_loopw [6, 7] (fun ov i wr => ∃ (k q fc : Nat) (fs : List Fl), k ≤ n ∧ i = .int .i64 k ∧ ov = .slice (some ⟨q, 0, none⟩) L fc ∧ Hid (FO wr q (q + 1) (.slice (some ⟨q, 0, none⟩) L fc) fs) ∧ Hid (fs.length = L) ∧ Hid (FlSz fs) ∧ Hid (rpR ls cs = rpC fs (cs.drop k)) ∧ Hid (w.heap.size ≤ q ∧ q < wr.heap.size) ∧ Hid (Below w.heap.size w wr)) (fun _ i _ => n - (intOf i).toNat)
      case atStart => exact ⟨0, q, fc, ls, Nat.zero_le _, rfl, rfl, HO, HL, HZ, Lib.hid (by rw [HR.out, List.drop_zero]), HQ, HB2⟩
      case round =>
        obtain ⟨k, q, fc, fs, hk, rfl, rfl, hf, hfl, hfz, hrp, hq, hB⟩ := hrel
        by_cases hlt : k < n
        · obtain ⟨bb, oo, cc, ex, lb, ⟨x0, x1, x2, x3⟩⟩ := (HC.out.kept hB.out).kid k (by rw [HN.out]; exact hlt)
          have f1 : a = some ⟨bb, oo, none⟩ := by injection ex
          subst f1
          have hki : (k : Int) < (n : Int) := by omega
          have HXS := Lib.hid (HCZ.out k (by rw [HN.out]; exact hlt))
          have HDR := Lib.hid (rpC_drop (ls := fs) (cs := cs) (k := k) (by rw [HN.out]; exact hlt))
          obtain ⟨x, hx⟩ : ∃ x, cs.getD k Ch.dummy = x := ⟨_, rfl⟩
          rw [hx] at x0 x1 x2 x3 HXS HDR
          clear ex hx
          go_wp2_with fail
          go_at_call 23
          refine (l11_any fs L hfl.out hl hfz.out x HXS.out.1 HXS.out.2 q fc _ hf.out.at).mono ?_
          rintro e w3 ⟨⟨hok, rfl⟩ | ⟨hok, q2, fc2, bf, bt, bi, rfl, hF3, hq1, hq2⟩, hb3⟩
          · have HR2 : Hid (rpR ls cs = none) := Lib.hid (by rw [hrp.out, HDR.out, hok]; rfl)
            have HB3 := Lib.hid (hB.out.trans (hb3.mono hB.out.size))
            have hsz3 : Hid (w3.heap.size < w3.heap.size + 1) := Lib.hid (Nat.lt_succ_self _)
            clear hok hb3 x0 x1 x2 x3
            go_wp2_with fail
            refine bodyPost_ret (v := .tuple #[.slice (some ⟨w3.heap.size + 1, 0, none⟩) 0 0, .bool false]) (by simp [results, Tryd.results8, go_sem]; try rfl) rfl ?_
            have h := rp_lit HR2.out (HB3.out.alloc HB3.out.size (.cells #[.string ⟨#[]⟩, .int .i64 0, .int .i64 0, .string ⟨#[]⟩] 56))
            rw [World.size_alloc] at h
            exact h
          · rw [hfl.out] at hF3 ⊢
            have HF3 := Lib.hid hF3
            have HL3 : Hid ((upC fs x).length = L) := Lib.hid (by rw [upC_len]; exact hfl.out)
            have HZ3 : Hid (FlSz (upC fs x)) := Lib.hid (upC_sz hfz.out hok)
            have HRP3 : Hid (rpR ls cs = rpC (upC fs x) (cs.drop (k + 1))) := Lib.hid (by rw [hrp.out, HDR.out, hok]; rfl)
            have HQ3 : Hid (w.heap.size ≤ q2 ∧ q2 < w3.heap.size) := Lib.hid ⟨Nat.le_trans hB.out.size hq1, hq2⟩
            have HB3 := Lib.hid (hB.out.trans (hb3.mono hB.out.size))
            clear hok hb3 hF3 hq1 hq2 x0 x1 x2 x3
            go_wp2_with fail
            go_roundw
            case rel => exact ⟨k + 1, q2, fc2, upC fs x, by omega, by go_num, rfl, Lib.hid (HF3.out.kept ((Below.refl _ _).alloc (Nat.le_refl _) _)), HL3, HZ3, HRP3, Lib.hid ⟨HQ3.out.1, by rw [World.size_alloc]; have := HQ3.out.2; omega⟩, Lib.hid (HB3.out.alloc HB3.out.size _)⟩
            case measure => simp [intOf]; omega
        · have hki : ¬ (k : Int) < (n : Int) := by omega
          have HR2 : Hid (rpR ls cs = some fs) := Lib.hid (by rw [hrp.out, List.drop_of_length_le (by rw [HN.out]; omega)]; rfl)
          clear hlt
          go_wp2_with fail
          exact bodyPost_ret (v := .tuple #[.slice (some ⟨q, 0, none⟩) L fc, .bool true]) (by simp [results, Tryd.results8, go_sem]; try rfl) rfl (rp_some HR2.out hfl.out hf.out hq.out.1 hq.out.2 hB.out)
/-- What the closure reads. -/
def RdV (Bs b : Nat) (_ r : Nat) : Prop := r = Bs ∨ r = b
def NoV (_ _ : Nat) : Prop := False
/-- What the closure hands to its body. -/
def encC (x : Ch) : Array Value := #[.agg #[.string x.n, .int .i64 x.f, .int .i64 x.t, .string x.i]]
theorem abides_blw {α : Type} {J : List α → World → Prop} {D : Nat → Prop} {B : Nat} {W W' : World} {xs : List α} (hJ : AbidesD D B J) (hb : Below W.heap.size W W') (h : J xs W) : J xs W' :=
  hJ xs W W' none h ⟨hb.os, hb.tape, hb.output, hb.size, fun k hk _ => hb.block k hk⟩ (fun r e => by cases e)
theorem take_snC {K : List Ch} {k : Nat} (h : k < K.length) : K.take (k + 1) = K.take k ++ [K.getD k Ch.dummy] := by
  have e : K.getD k Ch.dummy = K[k] := by simp [List.getD, h]
  rw [e]; simp [List.take_append_getElem]
set_option maxRecDepth 100000 in
set_option maxHeartbeats 1000000 in
theorem values_any (a : Option Addr) (n cap : Nat) (w : World) :
    Calls Tryd.prog 26 #[.slice a n cap] w fun e w' => e = .returned (.func (.func 49) #[] #[.pointer (some ⟨w.heap.size, 0, none⟩)]) ∧ w' = w.alloc (.cells #[.slice a n cap] 24) := by
  go_enter Tryd.func26, Tryd.ntmps26
  go_wp2
  go_ret
  exact ⟨rfl, rfl⟩
set_option maxRecDepth 100000 in
set_option maxHeartbeats 1000000 in
theorem values0_in (n l Bs cap : Nat) (a : Option Addr) (J : List Ch → World → Prop) (W : World) (hBs : W.cell? ⟨Bs, 0, none⟩ = some (.slice a 0 cap)) (h0 : J [] W) :
    CallsIn Fence.wide n Tryd.prog 49 #[.func (.yield l) #[] #[], .pointer (some ⟨Bs, 0, none⟩)] W fun e W' => (∃ v, e = .returned v) ∧ J [] W' := by
  refine callsIn_of_wp Tryd.func49 rfl trivial ?_ rfl
  simp only [Tryd.ntmps49, List.size_toArray, List.length_cons, List.length_nil, Nat.reduceAdd, Nat.reduceSub, Array.replicate_succ, Array.replicate_zero, List.push_toArray, List.append_toArray, List.nil_append, List.cons_append]
  gi_wp2
  gi_loopw [7] (fun li wr => li = .int .i64 0 ∧ J [] wr) (fun _ _ => 0)
  case atStart => exact ⟨rfl, h0⟩
  case round =>
    obtain ⟨rfl, hJs⟩ := hrel
    gi_wp2
    go_end0
    first | exact ⟨⟨_, rfl⟩, hJs⟩ | exact hJs
set_option maxRecDepth 100000 in
set_option maxHeartbeats 2000000 in
theorem values1_in (n l Bs b o L cap : Nat) (K : List Ch) (hKL : K.length = L) (hL9 : L ≤ 9223372036854775807) (J Jx : List Ch → World → Prop) (W : World) (hBw : Bs < W.heap.size) (hbw : b < W.heap.size)
    (hJ : AbidesD (NoV W.heap.size) W.heap.size J)
    (hY : ∀ pre x W1, J pre W1 → (pre ++ [x]) <+: K → YieldAt Fence.wide (n - 1) Tryd.prog l (encC x) W1 fun e W' =>
      (e = .returned (.bool true) ∧ J (pre ++ [x]) W' ∧ KeepsAt (RdV Bs b W.heap.size) W1 W') ∨ (e = .returned (.bool false) ∧ Jx (pre ++ [x]) W' ∧ KeepsAt (RdV Bs b W.heap.size) W1 W'))
    (hc : W.cell? ⟨Bs, 0, none⟩ = some (.slice (some ⟨b, o, none⟩) L cap)) (hel : ∀ j, j < L → CFd W b (o + j * 4) (K.getD j Ch.dummy)) (h0 : J [] W) :
    CallsIn Fence.wide n Tryd.prog 49 #[.func (.yield l) #[] #[], .pointer (some ⟨Bs, 0, none⟩)] W fun e W' =>
      (∃ v, e = .returned v) ∧ ((∃ xs, xs = K ∧ J xs W') ∨ (∃ pre : List Ch, pre <+: K ∧ Jx pre W')) := by
  have HKL := Lib.hid hKL
  have HEL := Lib.hid hel
  clear hel hKL
  refine callsIn_of_wp Tryd.func49 rfl trivial ?_ rfl
  simp only [Tryd.ntmps49, List.size_toArray, List.length_cons, List.length_nil, Nat.reduceAdd, Nat.reduceSub, Array.replicate_succ, Array.replicate_zero, List.push_toArray, List.append_toArray, List.nil_append, List.cons_append]
  gi_wp2
  gi_loopw [7] (fun i wr => ∃ k : Nat, k ≤ L ∧ i = .int .i64 k ∧ J (K.take k) wr ∧ Hid (KeepsAt (RdV Bs b W.heap.size) W wr)) (fun i _ => L - (intOf i).toNat)
  case atStart => exact ⟨0, Nat.zero_le _, rfl, by rw [List.take_zero]; exact h0, Lib.hid (KeepsAt.refl _ _)⟩
  case round =>
    obtain ⟨k, hk, rfl, hJs, HKP⟩ := hrel
    by_cases hlt : k < L
    · have hki : (k : Int) < (L : Int) := by omega
      have hk0 : (0 : Int) ≤ (k : Int) := by omega
      have hkK : k < K.length := by rw [HKL.out]; exact hlt
      have hsn := take_snC hkK
      obtain ⟨x0, x1, x2, x3⟩ := (HEL.out k hlt).block (HKP.out.same b (.inr rfl) hbw)
      obtain ⟨y, hy⟩ : ∃ y, K.getD k Ch.dummy = y := ⟨_, rfl⟩
      rw [hy] at x0 x1 x2 x3 hsn
      obtain ⟨w1, hw1⟩ : ∃ U, wr.alloc (.cells #[.string y.n, .int .i64 y.f, .int .i64 y.t, .string y.i] 56) = U := ⟨_, rfl⟩
      have hb1 : Below wr.heap.size wr w1 := by rw [← hw1]; exact (Below.refl _ _).alloc (Nat.le_refl _) _
      have HE1 : Hid (BxC w1 wr.heap.size y.n y.f y.t y.i) := Lib.hid (by rw [← hw1]; exact BxC.new wr y.n y.f y.t y.i)
      have HKP1 : Hid (KeepsAt (RdV Bs b W.heap.size) wr w1) := Lib.hid ⟨hb1.size, fun r _ hs => hb1.block r hs⟩
      have hJ1 : J (K.take k) w1 := abides_blw hJ hb1 hJs
      have HW1 := Lib.hid hw1
      obtain ⟨fn, tmps, assign, body, hyy, hR⟩ := hY (K.take k) y w1 hJ1 (by rw [← hsn]; exact List.take_prefix _ _)
      have HSN := Lib.hid hsn
      unfold encC at hyy
      clear hsn hy hJs hJ1 hw1 hb1
      have HYY := Lib.hid hyy
      clear hyy
      gi_wp2_with (fail)
      rw [HW1.out]
      obtain ⟨e0, e1, e2, e3, _, _, _, _, _⟩ := HE1.out
      have hyy := HYY.out
      rw [hyy]
      gi_wp2
      refine ⟨fun h => Bool.noConfusion h, ?_⟩
      refine hR.mono ?_
      rintro e W3 (⟨rfl, hJ3, hk3⟩ | ⟨rfl, hJx3, _⟩)
      · have HK3 := Lib.hid ((HKP.out.trans HKP1.out).trans hk3)
        have HJ3 : Hid (J (K.take (k + 1)) W3) := Lib.hid (by rw [HSN.out]; exact hJ3)
        clear hk3 hJ3
        gi_wp2
        go_roundw
        case rel => exact ⟨k + 1, by omega, by go_num, HJ3.out, HK3⟩
        case measure => simp [intOf]; omega
      · gi_wp2
        refine bodyPost_ret (results_none rfl _ _ _) rfl ?_
        exact ⟨⟨_, rfl⟩, .inr ⟨_, by rw [← HSN.out]; exact List.take_prefix _ _, hJx3⟩⟩
    · have hki : ¬ (k : Int) < (L : Int) := by omega
      have HJE : Hid (J K wr) := Lib.hid (by
        rw [List.take_of_length_le (by rw [HKL.out]; omega)] at hJs; exact hJs)
      clear hlt
      gi_wp2
      go_end0
      first | exact ⟨⟨_, rfl⟩, .inl HJE.out⟩ | exact ⟨⟨_, rfl⟩, .inl ⟨_, rfl, HJE.out⟩⟩
theorem values_stops (n Bs b L cap : Nat) (a : Option Addr) (K : List Ch) (hKL : K.length = L) (w : World) (hBw : Bs < w.heap.size) (hc : w.cell? ⟨Bs, 0, none⟩ = some (.slice a L cap)) (hK : CsAt w K (.slice a L cap)) (hb : ∀ ad, a = some ad → 0 < L → ad.block = b) (hbw : b < w.heap.size) :
    SeqStopsE Fence.wide n Tryd.prog 49 #[.pointer (some ⟨Bs, 0, none⟩)] encC NoV (RdV Bs b) (fun xs => xs = K) (fun pre => pre <+: K) (fun pre => pre <+: K) (fun _ _ => True) w := by
  intro l J Jx W hl hl2 hk hJ hJx hY h0
  have hs := hk.size
  have hc' := (cell_same (hk.same Bs (.inl rfl) hBw)).trans hc
  rcases Nat.eq_zero_or_pos L with h0' | h0'
  · subst h0'
    have hKn : K = [] := List.length_eq_zero_iff.1 hKL
    subst hKn
    exact (values0_in n l Bs cap a J W hc' h0).mono fun e W' ⟨he, hj⟩ => ⟨he, .inl ⟨_, rfl, hj⟩⟩
  · obtain ⟨b2, o, cap2, ex, hbl, _⟩ := hK.kid 0 (by rw [hKL]; exact h0')
    injection ex with ex1 ex2 ex3
    subst ex1
    have hbb : b2 = b := hb _ rfl h0'
    subst hbb
    have h9 := hK.slice
    obtain ⟨_, _, _, h9⟩ := h9
    rw [hKL] at h9
    refine values1_in n l Bs b2 o L cap K hKL h9 J Jx W (by omega) (by omega) hJ (fun pre x W1 h1 h2 => hY pre x W1 h1 h2 trivial) hc' (fun j hj => ?_) h0
    obtain ⟨b3, o3, cap3, ex, hbl3, hf⟩ := hK.kid j (by rw [hKL]; exact hj)
    injection ex with ex1 ex2 ex3
    injection ex1 with ex1
    injection ex1 with e1 e2 e3
    subst e1 e2
    exact hf.block (hk.same b2 (.inr rfl) hbw)
end Go.Proofs.YtpihopmgckdigaaDoor

namespace Go.Proofs.YtpihopmgckdigaaDoor
open Go.RowKit Go.Shelf
attribute [local go_sem] Oper.semAt_some
set_option linter.unusedVariables false
set_option linter.unusedSimpArgs false

theorem FO.blkk {X X' : World} {q L fc : Nat} {fs : List Fl} (h : FO X q (q + 1) (.slice (some ⟨q, 0, none⟩) L fc) fs) (e : X'.heap[q]? = X.heap[q]?) : FO X' q (q + 1) (.slice (some ⟨q, 0, none⟩) L fc) fs := by
  obtain ⟨⟨hl, ⟨h1, _⟩ | ⟨g2, cap, cur, h1, hb', hg, h2, h3, h4, h5⟩⟩, hu⟩ := h
  · cases h1
  · cases h1
    exact ⟨⟨hl, .inr ⟨q, fc, cur, rfl, hb', e.trans hg, h2, h3, h4, h5⟩⟩, hu⟩
theorem FO.cellsAt {X : World} {q L fc : Nat} {fs : List Fl} (h : FO X q (q + 1) (.slice (some ⟨q, 0, none⟩) L fc) fs) : ∃ o : Obj, X.heap[q]? = some o ∧ o.isWalk = false := by
  obtain ⟨⟨hl, ⟨h1, _⟩ | ⟨g2, cap, cur, h1, hb', hg, h2, h3, h4, h5⟩⟩, hu⟩ := h
  · cases h1
  · cases h1
    exact ⟨_, hg, rfl⟩
theorem BxC.cellsAt {X : World} {T : Nat} {n : ByteArray} {f t : Int} {i : ByteArray} (h : BxC X T n f t i) : ∃ o : Obj, X.heap[T]? = some o ∧ o.isWalk = false := by
  have h0 := h.c0
  rcases ho : X.heap[T]? with _ | o
  · simp [World.cell?, ho] at h0
  · refine ⟨o, rfl, ?_⟩
    cases o <;> first | rfl | (simp [World.cell?, ho] at h0)
/-- Of which blocks a step of the iterator is not one. -/
theorem blk_same {B : Nat} {X X' : World} {row : Option Nat} (hg : X.grownBy X' row) (hr : ∀ r, row = some r → LoopBlk NoV B r ∨ (B ≤ r ∧ ∃ o : Obj, X.heap[r]? = some o ∧ o.isWalk = true)) {k : Nat} (h1 : k ≠ B) (h2 : k ≠ B + 1) (hc : ∃ o : Obj, X.heap[k]? = some o ∧ o.isWalk = false) : X'.heap[k]? = X.heap[k]? := by
  obtain ⟨o, ho, hw⟩ := hc
  refine hg.block k (Array.getElem?_eq_some_iff.1 ho).1 (fun e => ?_)
  rcases hr k e.symm with (h | h | h) | ⟨_, o2, ho2, hw2⟩
  · exact h
  · exact h1 h
  · exact h2 h
  · rw [ho] at ho2; cases ho2; rw [hw] at hw2; cases hw2
theorem blk_low {B A : Nat} {w X X' : World} {row : Option Nat} (hA : A ≤ B) (hAs : A ≤ X.heap.size) (hg : X.grownBy X' row) (hr : ∀ r, row = some r → LoopBlk NoV B r ∨ (B ≤ r ∧ ∃ o : Obj, X.heap[r]? = some o ∧ o.isWalk = true)) (h : Below A w X) : Below A w X' :=
  h.grown hg hAs (fun q hq => by
    rcases hr q hq with (h | h | h) | ⟨h, _⟩
    · exact h.elim
    all_goals omega)
theorem set1_heap {w : World} {A : Nat} {u v : Value} {t : TypeId} (h : w.heap[A]? = some (.cells #[u] t)) : (w.setCell ⟨A, 0, none⟩ v).heap[A]? = some (.cells #[v] t) := by
  have h1 : (w.setCell ⟨A, 0, none⟩ v).heap[A]? = (w.heap[A]?).map (fun o => match o with | .cells cs t fr => .cells (cs.setIfInBounds 0 v) t fr | o => o) := by
    simp only [World.setCell, Array.getElem?_modify]
    simp
    cases w.heap[A]? <;> first | rfl | (rename_i o; cases o <;> rfl)
  rw [h1, h]; rfl
/-- What replayed returns. -/
def RqPost (ls : List Fl) (cs : List Ch) (L : Nat) (w : World) (e : Ending) (w' : World) : Prop :=
  ((rpC ls cs = none ∧ e = .returned (.tuple #[.slice none 0 0, .bool false])) ∨ (∃ fs q fc, rpC ls cs = some fs ∧ e = .returned (.tuple #[.slice (some ⟨q, 0, none⟩) L fc, .bool true]) ∧ fs.length = L ∧ FO w' q (q + 1) (.slice (some ⟨q, 0, none⟩) L fc) fs ∧ w.heap.size ≤ q ∧ q < w'.heap.size)) ∧ Below w.heap.size w w'
theorem pre_at {cs pre : List Ch} {x : Ch} (h : (pre ++ [x]) <+: cs) : pre.length < cs.length ∧ cs.getD pre.length Ch.dummy = x := by
  obtain ⟨t, rfl⟩ := h
  refine ⟨by simp, ?_⟩
  simp [List.getD]
/-- What holds between two rounds. -/
structure InvC (ls : List Fl) (cs : List Ch) (L A B : Nat) (w : World) (k : Nat) (X : World) (q fc : Nat) (fs : List Fl) : Prop where
  a0 : X.heap[A]? = some (.cells #[.slice (some ⟨q, 0, none⟩) L fc] 23)
  a1 : X.heap[A + 1]? = some (.cells #[.slice none 0 0] 23)
  a2 : X.heap[A + 2]? = some (.cells #[.bool false] 4)
  fo : FO X q (q + 1) (.slice (some ⟨q, 0, none⟩) L fc) fs
  len : fs.length = L
  sz : FlSz fs
  rp : rpC ls cs = rpC fs (cs.drop k)
  q1 : A + 3 ≤ q
  q2 : q ≠ B
  q3 : q ≠ B + 1
  bl : Below A w X
  hs : A + 3 ≤ X.heap.size
theorem InvC.grown {ls : List Fl} {cs : List Ch} {L A B k q fc : Nat} {w X X' : World} {fs : List Fl} {row : Option Nat} (h : InvC ls cs L A B w k X q fc fs) (hAB : A + 3 ≤ B) (hg : X.grownBy X' row) (hr : ∀ r, row = some r → LoopBlk NoV B r ∨ (B ≤ r ∧ ∃ o : Obj, X.heap[r]? = some o ∧ o.isWalk = true)) : InvC ls cs L A B w k X' q fc fs :=
  ⟨(blk_same hg hr (by omega) (by omega) ⟨_, h.a0, rfl⟩).trans h.a0, (blk_same hg hr (by omega) (by omega) ⟨_, h.a1, rfl⟩).trans h.a1, (blk_same hg hr (by omega) (by omega) ⟨_, h.a2, rfl⟩).trans h.a2,
    h.fo.blkk (blk_same hg hr h.q2 h.q3 h.fo.cellsAt), h.len, h.sz, h.rp, h.q1, h.q2, h.q3, blk_low (by omega) (by have := h.hs; omega) hg hr h.bl, Nat.le_trans h.hs hg.size⟩
theorem InvC.kept {ls : List Fl} {cs : List Ch} {L A B k q fc : Nat} {w X X' : World} {fs : List Fl} (h : InvC ls cs L A B w k X q fc fs) (hb : Below X.heap.size X X') : InvC ls cs L A B w k X' q fc fs :=
  have hl : ∀ {b : Nat} {o : Obj}, X.heap[b]? = some o → X'.heap[b]? = X.heap[b]? := fun ho => hb.block _ (Array.getElem?_eq_some_iff.1 ho).1
  ⟨(hl h.a0).trans h.a0, (hl h.a1).trans h.a1, (hl h.a2).trans h.a2, h.fo.kept hb, h.len, h.sz, h.rp, h.q1, h.q2, h.q3, h.bl.trans (hb.mono (by have := h.hs; omega)), Nat.le_trans h.hs hb.size⟩
theorem InvC.put {ls : List Fl} {cs : List Ch} {L A B k q fc q3 fc3 : Nat} {w X : World} {fs fs3 : List Fl} (h : InvC ls cs L A B w k X q fc fs) (hf : FO X q3 (q3 + 1) (.slice (some ⟨q3, 0, none⟩) L fc3) fs3) (hl : fs3.length = L) (hz : FlSz fs3) (hr : rpC ls cs = rpC fs3 (cs.drop (k + 1))) (h1 : A + 3 ≤ q3) (h2 : q3 ≠ B) (h3 : q3 ≠ B + 1) :
    InvC ls cs L A B w (k + 1) (X.setCell ⟨A, 0, none⟩ (.slice (some ⟨q3, 0, none⟩) L fc3)) q3 fc3 fs3 := by
  have hk := grownBy_setCell' X A (Value.slice (some ⟨q3, 0, none⟩) L fc3)
  have hq : q3 < X.heap.size := by obtain ⟨o, ho, _⟩ := hf.cellsAt; exact (Array.getElem?_eq_some_iff.1 ho).1
  have hs := h.hs
  exact ⟨set1_heap h.a0, (hk.block (A + 1) (by omega) (by simp)).trans h.a1, (hk.block (A + 2) (by omega) (by simp)).trans h.a2, hf.blkk (hk.block q3 hq (by simp; omega)), hl, hz, hr, h1, h2, h3, h.bl.setCell (p := ⟨A, 0, none⟩) (Nat.le_refl _) _, by simpa using hs⟩
set_option maxRecDepth 100000 in
set_option maxHeartbeats 1000000 in
theorem replayed_any (ls : List Fl) (L : Nat) (hL : ls.length = L) (hl : L ≤ 2000000) (hz : FlSz ls) (cs : List Ch) (n : Nat) (hn : cs.length = n) (hcz : ChSz cs) (g c cap Bs b : Nat) (a : Option Addr) (w : World)
    (h : FsAt w ls (.slice (some ⟨g, 0, none⟩) L c)) (hc : CsAt w cs (.slice a n cap)) (hBs : w.cell? ⟨Bs, 0, none⟩ = some (.slice a n cap)) (hBw : Bs < w.heap.size) (hbb : ∀ ad, a = some ad → 0 < n → ad.block = b) (hbw : b < w.heap.size) :
    Calls Tryd.prog 25 #[.slice (some ⟨g, 0, none⟩) L c, .func (.func 49) #[] #[.pointer (some ⟨Bs, 0, none⟩)]] w (RqPost ls cs L w) := by
  have HF := Lib.hid h
  have HC := Lib.hid hc
  have HL := Lib.hid hL
  have HZ : Hid (FlSz ls) := Lib.hid hz
  have HCZ : Hid (ChSz cs) := Lib.hid hcz
  have HN := Lib.hid hn
  have HBS := Lib.hid hBs
  have HBB := Lib.hid hbb
  have HBW : Hid (Bs < w.heap.size ∧ b < w.heap.size) := Lib.hid ⟨hBw, hbw⟩
  obtain ⟨A, hA⟩ : ∃ A, w.heap.size = A := ⟨_, rfl⟩
  have HA := Lib.hid hA
  obtain ⟨W1, hW1⟩ : ∃ W, ((w.alloc (.cells #[.slice (some ⟨g, 0, none⟩) L c] 23)).alloc (.cells #[.slice none 0 0] 23)).alloc (.cells #[.bool false] 4) = W := ⟨_, rfl⟩
  have hz1 : W1.heap.size = A + 3 := by rw [← hW1, ← hA]; simp
  have hb1 : Below A w W1 := by rw [← hW1, ← hA]; exact (((Below.refl _ _).alloc (Nat.le_refl _) _).alloc (by simp) _).alloc (by simp; omega) _
  have e0 : W1.heap[A]? = some (.cells #[.slice (some ⟨g, 0, none⟩) L c] 23) := by
    rw [← hW1, ← hA]; exact (Below.heap_alloc _ _ _ (by simp; omega)).trans ((Below.heap_alloc _ _ _ (by simp)).trans (World.alloc_heap_new w _))
  have e1 : W1.heap[A + 1]? = some (.cells #[.slice none 0 0] 23) := by
    rw [← hW1, ← hA]; have := World.alloc_heap_new (w.alloc (.cells #[.slice (some ⟨g, 0, none⟩) L c] 23)) (.cells #[.slice none 0 0] 23); rw [World.size_alloc] at this; exact (Below.heap_alloc _ _ _ (by simp)).trans this
  have e2 : W1.heap[A + 2]? = some (.cells #[.bool false] 4) := by
    rw [← hW1, ← hA]; have := World.alloc_heap_new ((w.alloc (.cells #[.slice (some ⟨g, 0, none⟩) L c] 23)).alloc (.cells #[.slice none 0 0] 23)) (.cells #[.bool false] 4); rw [World.size_alloc, World.size_alloc] at this; exact this
  have HF1 := Lib.hid (HF.out.kept (by rw [hA]; exact hb1))
  have k0 : W1.cell? ⟨A, 0, none⟩ = some (.slice (some ⟨g, 0, none⟩) L c) := by simp only [World.cell?, e0]; rfl
  have E0 := Lib.hid e0
  have E1 := Lib.hid e1
  have E2 := Lib.hid e2
  clear h hc hL hz hcz hn hBs hbb hBw hbw e0 e1 e2
  refine (callsIn_wide (n := 10)).1 ?_
  refine callsIn_of_wp_marks Tryd.func25 rfl trivial ?_ rfl
  simp only [Tryd.ntmps25, List.size_toArray, List.length_cons, List.length_nil, Nat.reduceAdd, Nat.reduceSub, Array.replicate_succ, Array.replicate_zero, List.push_toArray, List.append_toArray, List.nil_append, List.cons_append]
  gi_wp2_with fail
  try rw [hW1]
  try rw [hA]
  refine ⟨trivial, ?_⟩
  gi_at_call 47
  refine (callsIn_wide.2 (cloneF_pin ls L HL.out hl g c _ HF1.out)).mono ?_
  rintro e w2 ⟨q, fc, rfl, hF2, hq1, hq2, hb2⟩
  have HF2 := Lib.hid hF2
  have HQ : Hid (A + 3 ≤ q ∧ q < w2.heap.size) := Lib.hid ⟨by omega, hq2⟩
  have HB2 := Lib.hid (hb1.trans (hb2.mono (by omega)))
  have d0 := (hb2.block A (by omega)).trans E0.out
  have d1 := (hb2.block (A + 1) (by omega)).trans E1.out
  have d2 := (hb2.block (A + 2) (by omega)).trans E2.out
  have hs2 : A + 3 ≤ w2.heap.size := by have := hb2.size; omega
  have c0 : w2.cell? ⟨A, 0, none⟩ = some (.slice (some ⟨g, 0, none⟩) L c) := by simp only [World.cell?, d0]; rfl
  have z0 : w2.frozen? ⟨A, 0, none⟩ = false := by simp only [World.frozen?, d0]; rfl
  obtain ⟨W5, hW5⟩ : ∃ W, w2.setCell ⟨A, 0, none⟩ (.slice (some ⟨q, 0, none⟩) L fc) = W := ⟨_, rfl⟩
  have hI5 : Inside A (A + 1) w2 W5 := by rw [← hW5]; exact Inside.set w2 0 _ (Nat.le_refl _) (Nat.lt_succ_self _)
  have hz5 : W5.heap.size = w2.heap.size := by rw [← hW5]; simp
  have g0 : W5.heap[A]? = some (.cells #[.slice (some ⟨q, 0, none⟩) L fc] 23) := by
    rw [← hW5]; exact set1_heap d0
  have HINV : Hid (InvC ls cs L A W5.heap.size w 0 W5 q fc ls) := Lib.hid ⟨g0, (hI5.block (A + 1) (by omega) (by omega)).trans d1, (hI5.block (A + 2) (by omega) (by omega)).trans d2, HF2.out.inside hI5 (.inr (by omega)), HL.out, HZ.out, by rw [List.drop_zero], HQ.out.1, by have := HQ.out.2; omega, by have := HQ.out.2; omega, hI5.below (Nat.le_refl _) HB2.out (by omega), by omega⟩
  have HBS5 : Hid (W5.cell? ⟨Bs, 0, none⟩ = some (.slice a n cap)) := Lib.hid (by
    have h1 := (HB2.out.cell (p := ⟨Bs, 0, none⟩) (by show Bs < A; have := HBW.out; omega)).trans HBS.out
    exact (cell_same (hI5.block Bs (by have := HBW.out; omega) (.inl (by have := HBW.out; omega)))).trans h1)
  have HC5 : Hid (CsAt W5 cs (.slice a n cap)) := Lib.hid (HC.out.kept (by rw [hA]; exact hI5.below (Nat.le_refl _) HB2.out (by omega)))
  clear hF2 hq1 hq2 hb2 k0 d0 d1 d2 hI5 g0 HF1
  gi_wp2_with fail
  try rw [hW5]
  clear hW5 c0 z0 hW1 hb1 hz1
  have hst := values_stops (10 - 1) Bs b n cap a cs HN.out W5 (by have := HBW.out; omega) HBS5.out HC5.out HBB.out (by have := HBW.out; omega)
  have hWA : A + 3 ≤ W5.heap.size := by omega
  have HAW : Hid (Bs < A ∧ b < A) := Lib.hid (by have := HBW.out; omega)
  refine wpIn_rangeFunc_ownF (encs := encC) rfl (by omega) (gf := 49) (lb := #[.pointer (some ⟨Bs, 0, none⟩)]) rfl trivial (enters_of Tryd.func49 (by kernel_rfl) rfl) hst ?hD ?hE (fun _ => rfl)
    (fun pre X => ∃ q fc fs, InvC ls cs L A W5.heap.size w pre.length X q fc fs)
    (fun cd _ X => cd = .ret ∧ rpC ls cs = none ∧ X.heap[A + 1]? = some (.cells #[.slice none 0 0] 23) ∧ X.heap[A + 2]? = some (.cells #[.bool false] 4) ∧ Below A w X ∧ A + 3 ≤ X.heap.size)
    ?hI ?hIx ⟨q, fc, ls, HINV.out⟩
    (fun x a' X => ∃ T, W5.heap.size + 2 ≤ T ∧ BxC X T x.n x.f x.t x.i ∧ a' = { tmps := #[.slice (some ⟨g, 0, none⟩) L c, .func (.func 49) #[] #[.pointer (some ⟨Bs, 0, none⟩)], .pointer (some ⟨A, 0, none⟩), undef, .pointer (some ⟨A + 1, 0, none⟩), .pointer (some ⟨A + 1 + 1, 0, none⟩), .pointer (some ⟨T, 0, none⟩), undef, undef, undef, .slice (some ⟨g, 0, none⟩) L c, .slice (some ⟨q, 0, none⟩) L fc, .func (.func 49) #[] #[.pointer (some ⟨Bs, 0, none⟩)], .agg #[.string x.n, .int .i64 x.f, .int .i64 x.t, .string x.i], undef, undef, undef, undef, undef, undef, undef, undef, undef, undef, undef], defers := [] })
    ?hAx ?assign ?body ?done ?stop
  case hD => intro r hr; exact hr.elim
  case hE => intro r hr; have := HAW.out; rcases hr with h | h <;> omega
  case hI =>
    rintro pre X X' row ⟨q, fc, fs, h⟩ hg hr
    exact ⟨q, fc, fs, h.grown hWA hg hr⟩
  case hIx =>
    rintro cd pre X X' row ⟨h1, h2, h3, h4, h5, h6⟩ hg hr
    exact ⟨h1, h2, (blk_same hg hr (by omega) (by omega) ⟨_, h3, rfl⟩).trans h3, (blk_same hg hr (by omega) (by omega) ⟨_, h4, rfl⟩).trans h4, blk_low (by omega) (by omega) hg hr h5, Nat.le_trans h6 hg.size⟩
  case hAx =>
    rintro x a' _ X X' row ⟨T, hT, hx, ha⟩ hg hr
    exact ⟨T, hT, hx.block (blk_same hg hr (by omega) (by omega) hx.cellsAt) hg.size, ha⟩
  case assign =>
    rintro l pre x X K hsz ⟨q, fc, fs, h⟩ hG hK
    unfold encC
    gi_wp2
    exact hK _ _ (KeepsAt.grown (World.grownBy_alloc X _ none) (fun r e => by cases e)) ⟨q, fc, fs, h.kept ((Below.refl _ _).alloc (Nat.le_refl _) _)⟩ ⟨X.heap.size, hsz, BxC.new X _ _ _ _, rfl⟩
  case body =>
    rintro l pre x a' X hsz ⟨q2, fc2, fs, hv⟩ hG ⟨T, hT, hx, rfl⟩
    obtain ⟨hpl, hpx⟩ := pre_at hG
    have HV := Lib.hid hv
    have HDR := Lib.hid (rpC_drop (ls := fs) (cs := cs) (k := pre.length) hpl)
    rw [hpx] at HDR
    have HXS : Hid (x.n.size ≤ maxLen ∧ x.i.size ≤ maxLen) := Lib.hid (by rw [← hpx]; exact HCZ.out pre.length hpl)
    have HTT : Hid (W5.heap.size + 2 ≤ T) := Lib.hid hT
    obtain ⟨t0, t1, t2, t3, _, _, _, _, tz⟩ := hx
    have cA : X.cell? ⟨A, 0, none⟩ = some (.slice (some ⟨q2, 0, none⟩) L fc2) := by simp only [World.cell?, hv.a0]; rfl
    clear hv hG hpl hpx hT
    gi_wp2_with fail
    refine ⟨trivial, ?_⟩
    gi_at_call 48
    refine (CallsIn.inRound l (callsIn_wide.2 (made_any fs L HV.out.len hl HV.out.sz x HXS.out.1 HXS.out.2 q2 fc2 _ HV.out.fo.at))).mono ?_
    rintro e w3 ⟨⟨hok, rfl⟩ | ⟨hok, q3, fc3, bf, bt, bi, rfl, hF3, hq1, hq2⟩, hb3⟩
    · have hv3 := HV.out.kept hb3
      have cB : w3.cell? ⟨A + 1, 0, none⟩ = some (.slice none 0 0) := by simp only [World.cell?, hv3.a1]; rfl
      have cC : w3.cell? ⟨A + 1 + 1, 0, none⟩ = some (.bool false) := by simp only [World.cell?, hv3.a2]; rfl
      have fB : w3.frozen? ⟨A + 1, 0, none⟩ = false := by simp only [World.frozen?, hv3.a1]; rfl
      have fC : w3.frozen? ⟨A + 1 + 1, 0, none⟩ = false := by simp only [World.frozen?, hv3.a2]; rfl
      have hs3 : A + 3 ≤ w3.heap.size := hv3.hs
      have hl1 : A + 1 < w3.heap.size := by omega
      have hl2 : A + 1 + 1 < w3.heap.size := by omega
      have HV3 := Lib.hid hv3
      have HB3 := Lib.hid hb3
      clear hv3 hb3
      gi_wp2_with fail
      have hk1 := grownBy_setCell' w3 (A + 1) (Value.slice none 0 0)
      have hk2 := grownBy_setCell' (w3.setCell ⟨A + 1, 0, none⟩ (.slice none 0 0)) (A + 2) (Value.bool false)
      have m1 : ((w3.setCell ⟨A + 1, 0, none⟩ (.slice none 0 0)).setCell ⟨A + 1 + 1, 0, none⟩ (.bool false)).heap[A + 1]? = some (.cells #[.slice none 0 0] 23) := (hk2.block (A + 1) (by simp; omega) (by simp)).trans (set1_heap HV3.out.a1)
      have m2 : ((w3.setCell ⟨A + 1, 0, none⟩ (.slice none 0 0)).setCell ⟨A + 1 + 1, 0, none⟩ (.bool false)).heap[A + 2]? = some (.cells #[.bool false] 4) := set1_heap ((hk1.block (A + 2) (by omega) (by simp)).trans HV3.out.a2)
      have m3 : Below A w ((w3.setCell ⟨A + 1, 0, none⟩ (.slice none 0 0)).setCell ⟨A + 1 + 1, 0, none⟩ (.bool false)) := (HV3.out.bl.setCell (p := ⟨A + 1, 0, none⟩) (by show A ≤ A + 1; omega) _).setCell (p := ⟨A + 1 + 1, 0, none⟩) (by show A ≤ A + 1 + 1; omega) _
      have m4 : KeepsAt (LoopBlk (RdV Bs b) W5.heap.size) X ((w3.setCell ⟨A + 1, 0, none⟩ (.slice none 0 0)).setCell ⟨A + 1 + 1, 0, none⟩ (.bool false)) := by
        refine ((keepsAt_bel HB3.out).trans (KeepsAt.grown hk1 (fun r e h => ?_))).trans (KeepsAt.grown hk2 (fun r e h => ?_))
        all_goals (cases e; have := HAW.out; rcases h with (h | h) | h | h <;> omega)
      have m5 : ((w3.setCell ⟨A + 1, 0, none⟩ (.slice none 0 0)).setCell ⟨A + 1 + 1, 0, none⟩ (.bool false)).heap.size = w3.heap.size := by simp
      generalize ((w3.setCell ⟨A + 1, 0, none⟩ (.slice none 0 0)).setCell ⟨A + 1 + 1, 0, none⟩ (.bool false)) = W9 at m1 m2 m3 m4 m5 ⊢
      exact ⟨m4.trans (KeepsAt.grown (World.grownBy_alloc W9 _ none) (fun r e => by cases e)), rfl, by rw [HV.out.rp, HDR.out, hok]; rfl, (Below.heap_alloc _ _ _ (by omega)).trans m1, (Below.heap_alloc _ _ _ (by omega)).trans m2, m3.alloc (by omega) _, by rw [World.size_alloc]; omega⟩
    · have hv3 := HV.out.kept hb3
      have cA3 : w3.cell? ⟨A, 0, none⟩ = some (.slice (some ⟨q2, 0, none⟩) L fc2) := by simp only [World.cell?, hv3.a0]; rfl
      have fA3 : w3.frozen? ⟨A, 0, none⟩ = false := by simp only [World.frozen?, hv3.a0]; rfl
      have hs3 : A + 3 ≤ w3.heap.size := hv3.hs
      have hl1 : A < w3.heap.size := by omega
      have HV3 := Lib.hid hv3
      have HB3 := Lib.hid hb3
      rw [HV.out.len] at hF3 ⊢
      have HF3 := Lib.hid hF3
      have HQ3 := Lib.hid (And.intro hq1 hq2)
      clear hv3 hb3 hF3 hq1 hq2
      gi_wp2_with fail
      have hk1 := grownBy_setCell' w3 A (Value.slice (some ⟨q3, 0, none⟩) L fc3)
      have m4 : KeepsAt (LoopBlk (RdV Bs b) W5.heap.size) X (w3.setCell ⟨A, 0, none⟩ (.slice (some ⟨q3, 0, none⟩) L fc3)) := by
        refine (keepsAt_bel HB3.out).trans (KeepsAt.grown hk1 (fun r e h => ?_))
        cases e; have := HAW.out; rcases h with (h | h) | h | h <;> omega
      have m5 := HV3.out.put HF3.out (by rw [upC_len]; exact HV.out.len) (upC_sz HV.out.sz hok) (by rw [HV.out.rp, HDR.out, hok]; rfl) (by have := HQ3.out.1; omega) (by have := HQ3.out.1; omega) (by have := HQ3.out.1; omega)
      have e1 : (pre ++ [x]).length = pre.length + 1 := by simp
      exact ⟨m4.trans (KeepsAt.grown (World.grownBy_alloc _ _ none) (fun r e => by cases e)), q3, fc3, upC fs x, by rw [e1]; exact m5.kept ((Below.refl _ _).alloc (Nat.le_refl _) _)⟩
  case done =>
    rintro xs X rfl ⟨q2, fc2, fs, hv⟩ hd
    have HV := Lib.hid hv
    have cA : X.cell? ⟨A, 0, none⟩ = some (.slice (some ⟨q2, 0, none⟩) L fc2) := by simp only [World.cell?, hv.a0]; rfl
    have cB : X.cell? ⟨A + 1, 0, none⟩ = some (.slice none 0 0) := by simp only [World.cell?, hv.a1]; rfl
    have cC : X.cell? ⟨A + 1 + 1, 0, none⟩ = some (.bool false) := by simp only [World.cell?, hv.a2]; rfl
    have fB : X.frozen? ⟨A + 1, 0, none⟩ = false := by simp only [World.frozen?, hv.a1]; rfl
    have fC : X.frozen? ⟨A + 1 + 1, 0, none⟩ = false := by simp only [World.frozen?, hv.a2]; rfl
    have hR : rpC ls xs = some fs := by rw [hv.rp, List.drop_of_length_le (Nat.le_refl _)]; rfl
    have HR := Lib.hid hR
    have hsx := hv.hs
    clear hv hR
    gi_wp2
    have hk1 := grownBy_setCell' X (A + 1) (Value.slice (some ⟨q2, 0, none⟩) L fc2)
    have hk2 := grownBy_setCell' (X.setCell ⟨A + 1, 0, none⟩ (.slice (some ⟨q2, 0, none⟩) L fc2)) (A + 2) (Value.bool true)
    have m1 : ((X.setCell ⟨A + 1, 0, none⟩ (.slice (some ⟨q2, 0, none⟩) L fc2)).setCell ⟨A + 1 + 1, 0, none⟩ (.bool true)).heap[A + 1]? = some (.cells #[.slice (some ⟨q2, 0, none⟩) L fc2] 23) := (hk2.block (A + 1) (by simp; omega) (by simp)).trans (set1_heap HV.out.a1)
    have m2 : ((X.setCell ⟨A + 1, 0, none⟩ (.slice (some ⟨q2, 0, none⟩) L fc2)).setCell ⟨A + 1 + 1, 0, none⟩ (.bool true)).heap[A + 2]? = some (.cells #[.bool true] 4) := set1_heap ((hk1.block (A + 2) (by omega) (by simp)).trans HV.out.a2)
    have m3 : Below A w ((X.setCell ⟨A + 1, 0, none⟩ (.slice (some ⟨q2, 0, none⟩) L fc2)).setCell ⟨A + 1 + 1, 0, none⟩ (.bool true)) := (HV.out.bl.setCell (p := ⟨A + 1, 0, none⟩) (by show A ≤ A + 1; omega) _).setCell (p := ⟨A + 1 + 1, 0, none⟩) (by show A ≤ A + 1 + 1; omega) _
    have m5 : ((X.setCell ⟨A + 1, 0, none⟩ (.slice (some ⟨q2, 0, none⟩) L fc2)).setCell ⟨A + 1 + 1, 0, none⟩ (.bool true)).heap.size = X.heap.size := by simp
    have hqx : q2 < X.heap.size := by obtain ⟨o, ho, _⟩ := HV.out.fo.cellsAt; exact (Array.getElem?_eq_some_iff.1 ho).1
    have hq1 := HV.out.q1
    have m6 : ((X.setCell ⟨A + 1, 0, none⟩ (.slice (some ⟨q2, 0, none⟩) L fc2)).setCell ⟨A + 1 + 1, 0, none⟩ (.bool true)).heap[q2]? = X.heap[q2]? := (hk2.block q2 (by simp; omega) (by simp; omega)).trans (hk1.block q2 hqx (by simp; omega))
    have m7 : ((X.setCell ⟨A + 1, 0, none⟩ (.slice (some ⟨q2, 0, none⟩) L fc2)).setCell ⟨A + 1 + 1, 0, none⟩ (.bool true)).heap[W5.heap.size]? = some (.deferred (some [])) := (hk2.block _ (by have := (Array.getElem?_eq_some_iff.1 hd).1; simp; omega) (by simp; omega)).trans ((hk1.block _ (Array.getElem?_eq_some_iff.1 hd).1 (by simp; omega)).trans hd)
    have hF9 := HV.out.fo.blkk m6
    clear hk1 hk2 m6
    generalize ((X.setCell ⟨A + 1, 0, none⟩ (.slice (some ⟨q2, 0, none⟩) L fc2)).setCell ⟨A + 1 + 1, 0, none⟩ (.bool true)) = X2 at m1 m2 m3 m5 m7 hF9 ⊢
    refine ⟨by simp, .inl ⟨_, _, rfl, run_takeDeferred m7, ?_⟩⟩
    have hgp := grownBy_putObj' X2 W5.heap.size (Obj.deferred none)
    have r1 : (X2.putObj W5.heap.size (Obj.deferred none)).cell? ⟨A + 1, 0, none⟩ = some (.slice (some ⟨q2, 0, none⟩) L fc2) := (cell_same (i := 0) (hgp.block (A + 1) (by omega) (by simp; omega))).trans (by simp only [World.cell?, m1]; rfl)
    have r2 : (X2.putObj W5.heap.size (Obj.deferred none)).cell? ⟨A + 1 + 1, 0, none⟩ = some (.bool true) := (cell_same (i := 0) (hgp.block (A + 1 + 1) (by omega) (by simp; omega))).trans (by simp only [World.cell?, m2]; rfl)
    refine ⟨.tuple #[.slice (some ⟨q2, 0, none⟩) L fc2, .bool true], by simp [results, Tryd.results25, go_sem, r1, r2], .inr ⟨fs, q2, fc2, HR.out, rfl, HV.out.len, hF9.blkk (hgp.block q2 (by omega) (by have := HV.out.q2; simp; omega)), by rw [hA]; omega, by have := hgp.size; omega⟩, ?_⟩
    rw [hA]
    exact m3.grown hgp (by omega) (fun q hq => by cases hq; omega)
  case stop =>
    rintro cd pre X _ ⟨rfl, h2, h3, h4, h5, h6⟩ hd
    have H2 := Lib.hid h2
    clear h2
    gi_wp2
    refine ⟨by simp, .inl ⟨_, _, rfl, run_takeDeferred hd, ?_⟩⟩
    have hgp := grownBy_putObj' X W5.heap.size (Obj.deferred none)
    have r1 : (X.putObj W5.heap.size (Obj.deferred none)).cell? ⟨A + 1, 0, none⟩ = some (.slice none 0 0) := (cell_same (i := 0) (hgp.block (A + 1) (by omega) (by simp; omega))).trans (by simp only [World.cell?, h3]; rfl)
    have r2 : (X.putObj W5.heap.size (Obj.deferred none)).cell? ⟨A + 1 + 1, 0, none⟩ = some (.bool false) := (cell_same (i := 0) (hgp.block (A + 1 + 1) (by omega) (by simp; omega))).trans (by simp only [World.cell?, h4]; rfl)
    refine ⟨.tuple #[.slice none 0 0, .bool false], by simp [results, Tryd.results25, go_sem, r1, r2], .inl ⟨H2.out, rfl⟩, ?_⟩
    rw [hA]
    exact h5.grown hgp (by omega) (fun q hq => by cases hq; omega)
set_option maxRecDepth 100000 in
set_option maxHeartbeats 1000000 in
theorem replay_impl (ls : List Fl) (L : Nat) (hL : ls.length = L) (hl : L ≤ 2000000) (hz : FlSz ls) (cs : List Ch) (n : Nat) (hn : cs.length = n) (hcz : ChSz cs) (g c cap : Nat) (a : Option Addr) (w : World) (h : FsAt w ls (.slice (some ⟨g, 0, none⟩) L c)) (hc : CsAt w cs (.slice a n cap)) :
    Calls Tryd.prog 7 #[.slice (some ⟨g, 0, none⟩) L c, .slice a n cap] w (RpPost ls cs w) := by
  have HF := Lib.hid h
  have HC := Lib.hid hc
  have HL := Lib.hid hL
  have HLB : Hid (ls.length ≤ 2000000) := Lib.hid (by rw [hL]; omega)
  have HZ : Hid (FlSz ls) := Lib.hid hz
  have HCZ : Hid (ChSz cs) := Lib.hid hcz
  have HN := Lib.hid hn
  have hn9 : n ≤ 9223372036854775807 := by have := hc.slice; rw [hn] at this; obtain ⟨_, _, _, h⟩ := this; exact h
  obtain ⟨b, hb⟩ : ∃ b, filesB ls = b := ⟨_, rfl⟩
  have HB := Lib.hid hb
  cases b with
  | false =>
    have HR : Hid (rpR ls cs = none) := Lib.hid (rpR_no (.inl hb))
    clear h hc hL hz hcz hn hb
    go_enter Tryd.func7, Tryd.ntmps7
    go_wp2_with fail
    go_at_call 10
    refine (filesValid_impl' ls (some ⟨g, 0, none⟩) c L w HL.out HLB.out HZ.out HF.out).mono ?_
    rintro e w1 ⟨rfl, hb1⟩
    rw [HB.out]
    have HB1 := Lib.hid hb1
    clear hb1
    go_wp2_with fail
    exact bodyPost_ret (v := .tuple #[.slice none 0 0, .bool false]) (by simp [results, Tryd.results7, go_sem]; try rfl) rfl (rp_none HR.out HB1.out)
  | true =>
    by_cases hlong : (n : Int) > 100
    · have HR : Hid (rpR ls cs = none) := Lib.hid (rpR_no (.inr (by rw [hn]; omega)))
      clear h hc hL hz hcz hn hb
      go_enter Tryd.func7, Tryd.ntmps7
      go_wp2_with fail
      go_at_call 10
      refine (filesValid_impl' ls (some ⟨g, 0, none⟩) c L w HL.out HLB.out HZ.out HF.out).mono ?_
      rintro e w1 ⟨rfl, hb1⟩
      rw [HB.out]
      have HB1 := Lib.hid hb1
      clear hb1
      go_wp2_with fail
      exact bodyPost_ret (v := .tuple #[.slice none 0 0, .bool false]) (by simp [results, Tryd.results7, go_sem]; try rfl) rfl (rp_none HR.out HB1.out)
    · have HR : Hid (rpR ls cs = rpC ls cs) := Lib.hid (rpR_is hb (by rw [hn]; omega))
      clear h hc hL hz hcz hn hb
      go_enter Tryd.func7, Tryd.ntmps7
      go_wp2_with fail
      go_at_call 10
      refine (filesValid_impl' ls (some ⟨g, 0, none⟩) c L w HL.out HLB.out HZ.out HF.out).mono ?_
      rintro e w1 ⟨rfl, hb1⟩
      rw [HB.out]
      have HB1 := Lib.hid hb1
      have HF1 := Lib.hid (HF.out.kept hb1)
      have HC1 := Lib.hid (HC.out.kept hb1)
      clear hb1
      go_wp2_with fail
      go_at_call 26
      refine (values_any _ _ _ _).mono ?_
      rintro e w2 ⟨rfl, rfl⟩
      have hA := (Below.refl w1.heap.size w1).alloc (Nat.le_refl _) (.cells #[.slice a n cap] 24)
      have HB2 := Lib.hid (HB1.out.trans (hA.mono HB1.out.size))
      have HF2 := Lib.hid (HF1.out.kept hA)
      have HC2 := Lib.hid (HC1.out.kept hA)
      have HS : Hid ((w1.alloc (.cells #[.slice a n cap] 24)).cell? ⟨w1.heap.size, 0, none⟩ = some (.slice a n cap)) := Lib.hid (by
        have h := World.alloc_heap_new w1 (.cells #[.slice a n cap] 24)
        simp only [World.cell?, h]; rfl)
      have hbx : ∃ b, (∀ ad, a = some ad → 0 < n → ad.block = b) ∧ b < (w1.alloc (.cells #[.slice a n cap] 24)).heap.size := by
        rcases Nat.eq_zero_or_pos n with h0 | h0
        · exact ⟨0, fun _ _ h => by omega, by rw [World.size_alloc]; omega⟩
        · obtain ⟨b2, o2, c2, ex, hb2, _⟩ := HC2.out.kid 0 (by rw [HN.out]; exact h0)
          injection ex with ex
          exact ⟨b2, fun ad e _ => by rw [ex] at e; injection e with e; rw [← e], hb2⟩
      obtain ⟨b2, hbb, hbw⟩ := hbx
      have HBB := Lib.hid hbb
      clear hA hbb
      go_wp2_with fail
      go_at_call 25
      refine (replayed_any ls L HL.out hl HZ.out cs n HN.out HCZ.out g c cap w1.heap.size b2 a _ HF2.out HC2.out HS.out (by rw [World.size_alloc]; omega) HBB.out hbw).mono ?_
      rintro e w3 ⟨⟨hr, rfl⟩ | ⟨fs, q, fc, hr, rfl, hlen, hF3, hq1, hq2⟩, hb3⟩
      · have HR3 : Hid (rpR ls cs = none) := Lib.hid (by rw [HR.out]; exact hr)
        have HB3 := Lib.hid (HB2.out.trans (hb3.mono HB2.out.size))
        clear hr hb3 hbw
        go_wp2_with fail
        exact bodyPost_ret (v := .tuple #[.slice none 0 0, .bool false]) (by simp [results, Tryd.results7, go_sem]; try rfl) rfl (rp_none HR3.out HB3.out)
      · have HR3 : Hid (rpR ls cs = some fs) := Lib.hid (by rw [HR.out]; exact hr)
        have HB3 := Lib.hid (HB2.out.trans (hb3.mono HB2.out.size))
        have HF3 := Lib.hid hF3
        have HLN := Lib.hid hlen
        have HQ : Hid (w.heap.size ≤ q ∧ q < w3.heap.size) := Lib.hid ⟨Nat.le_trans HB2.out.size hq1, hq2⟩
        clear hr hb3 hF3 hlen hq1 hq2 hbw
        go_wp2_with fail
        exact bodyPost_ret (v := .tuple #[.slice (some ⟨q, 0, none⟩) L fc, .bool true]) (by simp [results, Tryd.results7, go_sem]; try rfl) rfl (rp_some HR3.out HLN.out HF3.out HQ.out.1 HQ.out.2 HB3.out)
end Go.Proofs.YtpihopmgckdigaaDoor

