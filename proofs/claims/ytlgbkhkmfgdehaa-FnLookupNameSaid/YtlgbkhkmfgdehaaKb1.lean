/-
  The exact laws' copies of names with types: in blocks of their own; what was in memory stays.
  The exact laws' comparison of names with types, and the marks on them.
  Names with types that are valid: EnvValid of the model and of the program.
  The type of a name: the last element that has it. LookupName of the model.
  The names with types from the last one on: slices.Backward's iterator over them.
-/
import Derived.Test.YtlgbkhkmfgdehaaKa
import Derived.Test.YtlgbkhkmfgdehaaZo
import Derived.Test.YtlgbkhkmfgdehaaRa
import Derived.Test.YtlgbkhkmfgdehaaOa
import Derived.Test.YtlgbkhkmfgdehaaZe
import Derived.Test.YtlgbkhkmfgdehaaAa1
import Derived.RangeFuncNested
import Derived.RangeFuncBound
import Derived.RangeFuncCalls
import Derived.RangeFuncLeaves
import Derived.Shelf.Abstract
import Derived.Shelf.RegionOpen
import Derived.WalkKit
import Derived.OwnWalkIn
import Derived.TacticsInMore
import Derived.LoopNIn
import Derived.LoopIn
namespace Go.Proofs.Ytlgbkhkmfgdehaa
open Go.RowKit
set_option linter.unusedVariables false
set_option linter.unusedSimpArgs false

def ToKnPost (l : Kn) (w : World) (e : Ending) (w' : World) : Prop := ∃ v, e = .returned (.agg #[.string l.s, .int .i64 l.t.k, .int .i64 l.t.n, v]) ∧ TyIn w' w.heap.size w'.heap.size l.t v ∧ Below w.heap.size w w'
/-- The frozen marks of four cells. -/
def KThaw (w : World) (B : Nat) : Prop := ∀ i, i < 4 → w.frozen? ⟨B, i, none⟩ = false
theorem KThaw.kept {w w' : World} {B : Nat} (h : KThaw w B) (hb : Below w.heap.size w w') (hl : B < w.heap.size) : KThaw w' B := fun i hi => (hb.frozen (p := ⟨B, i, none⟩) hl).trans (h i hi)
theorem kthaw_new (w : World) (v0 v1 v2 v3 : Value) (T : TypeId) : KThaw (w.alloc (.cells #[v0, v1, v2, v3] T)) w.heap.size := by
  intro i hi
  obtain rfl | rfl | rfl | rfl : i = 0 ∨ i = 1 ∨ i = 2 ∨ i = 3 := by omega
  all_goals go_simp
theorem sizeK2 (w : World) (o : Obj) : (w.alloc o).heap.size = w.heap.size + 1 := by simp
/-- The list lies between two blocks, each row in a block of its own, and may be written. -/
inductive KnIn (w : World) : Nat → Nat → List Kn → Value → Prop where
  | bare (lo hi : Nat) (a : Option Addr) (cap : Nat) : KnIn w lo hi [] (.slice a 0 cap)
  | row (lo hi : Nat) (ls : List Kn) (b cap : Nat) (vs : Nat → Value) (l h : Nat → Nat) (hb1 : lo ≤ b) (hb2 : b < hi) (hw : Row w b) (hl : ls.length ≤ 9223372036854775807)
      (h0 : ∀ i, i < ls.length → KFd w b (i * 4) (ls.getD i Kn.dummy) (vs i))
      (hf : ∀ i, i < ls.length * 4 → w.frozen? ⟨b, i, none⟩ = false)
      (hin : ∀ i, i < ls.length → lo ≤ l i ∧ h i ≤ hi ∧ (b < l i ∨ h i ≤ b))
      (hd : ∀ i j, i < j → j < ls.length → h i ≤ l j)
      (h3 : ∀ i, i < ls.length → TyIn w (l i) (h i) (ls.getD i Kn.dummy).t (vs i)) : KnIn w lo hi ls (.slice (some ⟨b, 0, none⟩) ls.length cap)
theorem KnIn.at {w : World} {lo hi : Nat} {ls : List Kn} {v : Value} (h : KnIn w lo hi ls v) : KnAt w ls v := by
  cases h with
  | bare a cap => exact .bare a cap
  | row ls b cap vs l h hb1 hb2 hw hl h0 hf hin hd h3 =>
    exact .row ls b 0 cap vs hw.lt hl (fun i hi => by rw [Nat.zero_add]; exact h0 i hi) (fun i hi => (h3 i hi).at)
theorem KnIn.keep {w w' : World} {lo hi : Nat} {ls : List Kn} {v : Value} (h : KnIn w lo hi ls v) (hs : w.heap.size ≤ w'.heap.size) (hk : ∀ b, lo ≤ b → b < hi → b < w.heap.size → w'.heap[b]? = w.heap[b]?) : KnIn w' lo hi ls v := by
  cases h with
  | bare a cap => exact .bare lo hi a cap
  | row ls b cap vs l h hb1 hb2 hw hl h0 hf hin hd h3 =>
    have e := hk b hb1 hb2 hw.lt
    refine .row lo hi ls b cap vs l h hb1 hb2 (hw.keep hs e) hl (fun i hi => (h0 i hi).keep e) (fun i hi => (frozenEq e).trans (hf i hi)) hin hd ?_
    intro i hi
    obtain ⟨a1, a2, _⟩ := hin i hi
    exact (h3 i hi).keep hs (fun b h1 h2 h3 => hk b (by omega) (by omega) h3)
theorem KnIn.kept {w w' : World} {lo hi : Nat} {ls : List Kn} {v : Value} (h : KnIn w lo hi ls v) (hb : Below w.heap.size w w') : KnIn w' lo hi ls v :=
  h.keep hb.size (fun b _ _ h3 => hb.block b h3)
theorem KnIn.wide {w : World} {lo hi lo' hi' : Nat} {ls : List Kn} {v : Value} (h : KnIn w lo hi ls v) (h1 : lo' ≤ lo) (h2 : hi ≤ hi') : KnIn w lo' hi' ls v := by
  cases h with
  | bare a cap => exact .bare lo' hi' a cap
  | row ls b cap vs l h hb1 hb2 hw hl h0 hf hin hd h3 =>
    exact .row lo' hi' ls b cap vs l h (by omega) (by omega) hw hl h0 hf (fun i hi => by obtain ⟨a1, a2, a3⟩ := hin i hi; exact ⟨by omega, by omega, a3⟩) hd h3
/-- A row that is being filled: the first j elements lie in it. -/
structure KFill (ls : List Kn) (B j : Nat) (w : World) (xs : List Value) (vs : Nat → Value) (l h : Nat → Nat) : Prop where
  own : w.ownsRow B 34 4 (.slice (some ⟨B, 0, none⟩) ls.length ls.length) ls.length xs
  x0 : ∀ i, i < j → xs[i * 4]? = some (.string (ls.getD i Kn.dummy).s)
  x1 : ∀ i, i < j → xs[i * 4 + 1]? = some (.int .i64 (ls.getD i Kn.dummy).t.k)
  x2 : ∀ i, i < j → xs[i * 4 + 2]? = some (.int .i64 (ls.getD i Kn.dummy).t.n)
  x3 : ∀ i, i < j → xs[i * 4 + 3]? = some (vs i)
  lo : ∀ i, i < j → B < l i ∧ h i ≤ w.heap.size
  di : ∀ i k, i < k → k < j → h i ≤ l k
  ty : ∀ i, i < j → TyIn w (l i) (h i) (ls.getD i Kn.dummy).t (vs i)
theorem KFill.below {ls : List Kn} {B j : Nat} {w w' : World} {xs : List Value} {vs : Nat → Value} {l h : Nat → Nat} (f : KFill ls B j w xs vs l h) (hb : Below w.heap.size w w') : KFill ls B j w' xs vs l h :=
  ⟨own_below f.own hb, f.x0, f.x1, f.x2, f.x3, fun i hi => ⟨(f.lo i hi).1, Nat.le_trans (f.lo i hi).2 hb.size⟩, f.di, fun i hi => (f.ty i hi).kept hb⟩
theorem KFill.step {ls : List Kn} {B j : Nat} {w w1 : World} {xs : List Value} {vs : Nat → Value} {l h : Nat → Nat} {v : Value} (f : KFill ls B j w xs vs l h) (hj : j < ls.length) (hb : Below w.heap.size w w1)
    (ht : TyIn w1 w.heap.size w1.heap.size (ls.getD j Kn.dummy).t v) :
    ∃ xs' vs' l' h', KFill ls B (j + 1) ((((w1.setCell ⟨B, j * 4, none⟩ (.string (ls.getD j Kn.dummy).s)).setCell ⟨B, j * 4 + 1, none⟩ (.int .i64 (ls.getD j Kn.dummy).t.k)).setCell ⟨B, j * 4 + 2, none⟩ (.int .i64 (ls.getD j Kn.dummy).t.n)).setCell ⟨B, j * 4 + 3, none⟩ v) xs' vs' l' h' := by
  have f1 := f.below hb
  obtain ⟨s1, g1⟩ := f1.own.stored (j * 4) (.string (ls.getD j Kn.dummy).s)
  obtain ⟨s2, g2⟩ := s1.stored (j * 4 + 1) (.int .i64 (ls.getD j Kn.dummy).t.k)
  obtain ⟨s3, g3⟩ := s2.stored (j * 4 + 2) (.int .i64 (ls.getD j Kn.dummy).t.n)
  obtain ⟨s4, g4⟩ := s3.stored (j * 4 + 3) v
  have hl := own_len f.own
  have hB := (own_block f.own).2
  obtain ⟨W, hW⟩ : ∃ W, (((w1.setCell ⟨B, j * 4, none⟩ (.string (ls.getD j Kn.dummy).s)).setCell ⟨B, j * 4 + 1, none⟩ (.int .i64 (ls.getD j Kn.dummy).t.k)).setCell ⟨B, j * 4 + 2, none⟩ (.int .i64 (ls.getD j Kn.dummy).t.n)).setCell ⟨B, j * 4 + 3, none⟩ v = W := ⟨_, rfl⟩
  have hsz : W.heap.size = w1.heap.size := by rw [← hW]; simp
  have hkeep : ∀ b, b ≠ B → b < w1.heap.size → W.heap[b]? = w1.heap[b]? := by
    intro b hb hs
    rw [← hW, heap_setCell_other _ ⟨B, j * 4 + 3, none⟩ b _ hb, heap_setCell_other _ ⟨B, j * 4 + 2, none⟩ b _ hb, heap_setCell_other _ ⟨B, j * 4 + 1, none⟩ b _ hb, heap_setCell_other _ ⟨B, j * 4, none⟩ b _ hb]
  rw [hW] at s4 ⊢
  refine ⟨_, fun i => if i = j then v else vs i, fun i => if i = j then w.heap.size else l i, fun i => if i = j then w1.heap.size else h i, s4, ?_, ?_, ?_, ?_, ?_, ?_, ?_⟩
  · intro i hi
    by_cases hij : i = j
    · subst hij
      rw [List.getElem?_set_ne (by omega), List.getElem?_set_ne (by omega), List.getElem?_set_ne (by omega), List.getElem?_set_self (by omega)]
    · rw [List.getElem?_set_ne (by omega), List.getElem?_set_ne (by omega), List.getElem?_set_ne (by omega), List.getElem?_set_ne (by omega)]
      exact f.x0 i (by omega)
  · intro i hi
    by_cases hij : i = j
    · subst hij
      rw [List.getElem?_set_ne (by omega), List.getElem?_set_ne (by omega), List.getElem?_set_self (by rw [List.length_set]; omega)]
    · rw [List.getElem?_set_ne (by omega), List.getElem?_set_ne (by omega), List.getElem?_set_ne (by omega), List.getElem?_set_ne (by omega)]
      exact f.x1 i (by omega)
  · intro i hi
    by_cases hij : i = j
    · subst hij
      rw [List.getElem?_set_ne (by omega), List.getElem?_set_self (by rw [List.length_set, List.length_set]; omega)]
    · rw [List.getElem?_set_ne (by omega), List.getElem?_set_ne (by omega), List.getElem?_set_ne (by omega), List.getElem?_set_ne (by omega)]
      exact f.x2 i (by omega)
  · intro i hi
    by_cases hij : i = j
    · subst hij
      rw [List.getElem?_set_self (by rw [List.length_set, List.length_set, List.length_set]; omega)]; simp
    · rw [List.getElem?_set_ne (by omega), List.getElem?_set_ne (by omega), List.getElem?_set_ne (by omega), List.getElem?_set_ne (by omega)]
      simp [hij, f.x3 i (by omega)]
  · intro i hi
    by_cases hij : i = j
    · simp [hij]; omega
    · have := f1.lo i (by omega); simp [hij]; omega
  · intro i k hik hk
    have hij : i ≠ j := by omega
    by_cases hkj : k = j
    · have := f.lo i (by omega); simp [hij, hkj]; omega
    · have := f.di i k hik (by omega); simpa [hij, hkj] using this
  · intro i hi
    by_cases hij : i = j
    · subst hij
      simp only [if_true]
      exact ht.keep (by omega) (fun b h1 h2 h3 => hkeep b (by omega) h3)
    · simp only [hij, if_false]
      have hlo := f.lo i (by omega)
      exact (f1.ty i (by omega)).keep (by omega) (fun b h1 h2 h3 => hkeep b (by omega) h3)
theorem KFill.done {ls : List Kn} {B : Nat} {w : World} {xs : List Value} {vs : Nat → Value} {l h : Nat → Nat} (f : KFill ls B ls.length w xs vs l h) (hl : ls.length ≤ 9223372036854775807) :
    KnIn w B w.heap.size ls (.slice (some ⟨B, 0, none⟩) ls.length ls.length) := by
  have hb := own_block f.own
  have hc : ∀ i, i < ls.length → ∀ q, q < 4 → w.cell? ⟨B, i * 4 + q, none⟩ = xs[i * 4 + q]? := fun i hi q hq => f.own.cellAt _ (by show i * 4 + q < ls.length * 4; omega)
  refine .row B w.heap.size ls B ls.length vs l h (Nat.le_refl _) hb.2 (row_own f.own) hl (fun i hi => ⟨?_, ?_, ?_, ?_⟩) (fun i hi => f.own.frozenAt i) (fun i hi => ?_) (fun i j hij hj => f.di i j hij hj) (fun i hi => f.ty i hi)
  · exact (hc i hi 0 (by omega)).trans (f.x0 i hi)
  · exact (hc i hi 1 (by omega)).trans (f.x1 i hi)
  · exact (hc i hi 2 (by omega)).trans (f.x2 i hi)
  · exact (hc i hi 3 (by omega)).trans (f.x3 i hi)
  · have := f.lo i hi; exact ⟨by omega, this.2, .inl this.1⟩
theorem Try.infoKnown : (Try.prog.info? 34).map (fun i => (i.zero, i.size, i.bytes)) = some (some (.agg #[.string ⟨#[]⟩, .int .i64 0, .int .i64 0, .slice none 0 0]), 4, 56) := by kernel_rfl
def ToKnPostS (ls : List Kn) (w : World) (e : Ending) (w' : World) : Prop := ∃ v, e = .returned v ∧ KnIn w' w.heap.size w'.heap.size ls v ∧ Below w.heap.size w w'
end Go.Proofs.Ytlgbkhkmfgdehaa

namespace Go.Proofs.Ytlgbkhkmfgdehaa
open Go.RowKit
set_option linter.unusedVariables false
set_option linter.unusedSimpArgs false

theorem KnIn.parts {w : World} {lo hi : Nat} {t : List Kn} {v : Value} (h : KnIn w lo hi t v) (h0 : 0 < t.length) :
    ∃ (b cap : Nat) (vs : Nat → Value) (l g : Nat → Nat), v = .slice (some ⟨b, 0, none⟩) t.length cap ∧ lo ≤ b ∧ b < hi ∧ b < w.heap.size ∧
      (∀ i, i < t.length → KFd w b (i * 4) (t.getD i Kn.dummy) (vs i)) ∧ (∀ i, i < t.length * 4 → w.frozen? ⟨b, i, none⟩ = false) ∧
      (∀ i, i < t.length → lo ≤ l i ∧ g i ≤ hi ∧ (b < l i ∨ g i ≤ b)) ∧ (∀ i j, i < j → j < t.length → g i ≤ l j) ∧ (∀ i, i < t.length → TyIn w (l i) (g i) (t.getD i Kn.dummy).t (vs i)) := by
  cases h with
  | bare a cap => exact absurd h0 (Nat.lt_irrefl _)
  | row ls b cap vs l h hb1 hb2 hw hl g0 hf hin hd h3 => exact ⟨b, cap, vs, l, h, rfl, hb1, hb2, hw.lt, g0, hf, hin, hd, h3⟩
/-- Only the first three cells of the j-th place of block b may have changed. -/
structure KAsd (b j : Nat) (w w' : World) : Prop where
  os : w'.os = w.os
  tape : w'.tape = w.tape
  output : w'.output = w.output
  size : w.heap.size ≤ w'.heap.size
  blk : ∀ x, x ≠ b → x < w.heap.size → w'.heap[x]? = w.heap[x]?
  cel : ∀ q, (q < j * 4 ∨ j * 4 + 3 ≤ q) → w'.cell? ⟨b, q, none⟩ = w.cell? ⟨b, q, none⟩
  fz : ∀ q, w'.frozen? ⟨b, q, none⟩ = w.frozen? ⟨b, q, none⟩
theorem KAsd.refl (b j : Nat) (w : World) : KAsd b j w w := ⟨rfl, rfl, rfl, Nat.le_refl _, fun _ _ _ => rfl, fun _ _ => rfl, fun _ => rfl⟩
theorem KAsd.set {b j : Nat} {w W : World} (h : KAsd b j w W) (q : Nat) (u : Value) (h1 : j * 4 ≤ q) (h2 : q < j * 4 + 3) : KAsd b j w (W.setCell ⟨b, q, none⟩ u) := by
  refine ⟨h.os, h.tape, h.output, by simpa using h.size, fun x hx hl => (heap_setCell_other W ⟨b, q, none⟩ x u hx).trans (h.blk x hx hl), fun p hp => ?_, fun p => ?_⟩
  · rw [World.cell?_setCell_other _ _ _ _ (fun e => by injection e with _ e2 _; omega)]; exact h.cel p hp
  · rw [World.frozen?_setCell]; exact h.fz p
theorem KAsd.below {b j : Nat} {w W W' : World} (h : KAsd b j w W) (hb : b < w.heap.size) (hB : Below W.heap.size W W') : KAsd b j w W' := by
  have hs := h.size
  refine ⟨hB.os.trans h.os, hB.tape.trans h.tape, hB.output.trans h.output, Nat.le_trans hs hB.size, fun x hx hl => (hB.block x (by omega)).trans (h.blk x hx hl), fun p hp => ?_, fun p => ?_⟩
  · exact (cellEq (hB.block b (by omega))).trans (h.cel p hp)
  · exact (frozenEq (hB.block b (by omega))).trans (h.fz p)
theorem KAsd.inside {b j lo hi : Nat} {w W : World} (h : KAsd b j w W) (h1 : lo ≤ b) (h2 : b < hi) : Inside lo hi w W :=
  ⟨h.os, h.tape, h.output, h.size, fun x hx ho => h.blk x (by omega) hx⟩
/-- What is left to mark. -/
structure RemK (t : List Kn) (b j : Nat) (vs : Nat → Value) (l g : Nat → Nat) (w : World) : Prop where
  bs : b < w.heap.size
  cs : ∀ i, j ≤ i → i < t.length → KFd w b (i * 4) (t.getD i Kn.dummy) (vs i)
  fz : ∀ i, i < t.length * 4 → w.frozen? ⟨b, i, none⟩ = false
  ty : ∀ i, j ≤ i → i < t.length → TyIn w (l i) (g i) (t.getD i Kn.dummy).t (vs i)
theorem RemK.step {t : List Kn} {b j : Nat} {vs : Nat → Value} {l g : Nat → Nat} {w W w2 : World} (r : RemK t b j vs l g w) (hj : j < t.length) (hin : ∀ i, i < t.length → b < l i ∨ g i ≤ b) (hd : ∀ i j, i < j → j < t.length → g i ≤ l j)
    (hA : KAsd b j w W) (hI : Inside (l j) (g j) W w2) : RemK t b (j + 1) vs l g w2 := by
  have hbW : b < W.heap.size := Nat.lt_of_lt_of_le r.bs hA.size
  have hb2 := hI.block b hbW (by rcases hin j hj with h | h <;> omega)
  have hs2 := hI.size
  have hsA := hA.size
  have hk : ∀ x, x ≠ b → x < w.heap.size → (x < l j ∨ g j ≤ x) → w2.heap[x]? = w.heap[x]? := fun x h1 h2 h3 => (hI.block x (by omega) h3).trans (hA.blk x h1 h2)
  have hc : ∀ q, j * 4 + 3 ≤ q → w2.cell? ⟨b, q, none⟩ = w.cell? ⟨b, q, none⟩ := fun q h => (cellEq hb2).trans (hA.cel q (.inr h))
  refine ⟨Nat.lt_of_lt_of_le hbW hs2, fun i h1 h2 => ?_, fun i h1 => ?_, fun i h1 h2 => ?_⟩
  · have f := r.cs i (by omega) h2
    exact ⟨(hc _ (by omega)).trans f.c0, (hc _ (by omega)).trans f.c1, (hc _ (by omega)).trans f.c2, (hc _ (by omega)).trans f.c3⟩
  · rw [frozenEq hb2, hA.fz]; exact r.fz i h1
  · refine (r.ty i (by omega) h2).keep (by omega) (fun x g1 g2 g3 => hk x ?_ g3 ?_)
    · rcases hin i h2 with h | h <;> omega
    · exact .inr (Nat.le_trans (hd j i (by omega) h2) g1)
theorem KAsd.kid {t : Ty} {b j lo hi : Nat} {v : Value} {w W : World} (hA : KAsd b j w W) (h : TyIn w lo hi t v) (hb : b < lo ∨ hi ≤ b) : TyIn W lo hi t v :=
  h.keep hA.size (fun x h1 h2 h3 => hA.blk x (by omega) h3)
def MkKPost (K : Nat) (lo hi : Nat) (w : World) (e : Ending) (w' : World) : Prop := ∃ q : Nat, e = .returned (.int .i64 (q : Int)) ∧ K ≤ q ∧ q ≤ 9000000 ∧ Inside lo hi w w'

end Go.Proofs.Ytlgbkhkmfgdehaa

namespace Go.Proofs.Ytlgbkhkmfgdehaa
open Go.RowKit
open Go.Proofs.Ytlgbkhkmfgdehaa.Ox (oneB oneB_is oneB_no inB isValueName_any isFileName_any l3Small_any l3Big_any)
set_option linter.unusedVariables false
set_option linter.unusedSimpArgs false

theorem ret_b {a b : Bool} (h : a = b) : Ending.returned (.bool a) = .returned (.bool b) := by rw [h]
/-- The name of a file, a dot, the name of a value. -/
def fullB (s : ByteArray) : Bool := if h : s.size = 3 then oneB 65 90 (s.extract 0 1) && (decide ((((s[1]'(by omega)).toNat : Nat) : Int) = 46) && oneB 97 122 (s.extract 2 3)) else false
def nameB (s : ByteArray) : Bool := oneB 97 122 s || fullB s
set_option maxRecDepth 100000 in
set_option maxHeartbeats 2000000 in
theorem isFullName_any (s : ByteArray) (hz : s.size ≤ 9223372036854775807) (w : World) : Calls Try.prog 35 #[.string s] w fun e w' => e = .returned (.bool (fullB s)) ∧ w' = w := by
  by_cases hs : s.size = 3
  case neg =>
    have HF : Hid (fullB s = false) := Lib.hid (by unfold fullB; rw [dif_neg hs])
    have hs1 : ((s.size : Int) == 3) = false := by rw [beq_eq_false_iff_ne]; omega
    clear hs
    go_enter Try.func35, Try.ntmps35
    go_wp2_with fail
    go_ret
    exact ⟨ret_b HF.out.symm, rfl⟩
  have h1 : 1 < s.size := by omega
  have hs1 : ((s.size : Int) == 3) = true := by rw [beq_iff_eq]; omega
  obtain ⟨c, hc⟩ : ∃ c, (s[1]'h1).toNat = c := ⟨_, rfl⟩
  have HF0 : Hid (fullB s = (oneB 65 90 (s.extract 0 1) && (decide ((c : Int) = 46) && oneB 97 122 (s.extract 2 3)))) := Lib.hid (by unfold fullB; rw [dif_pos hs, ← hc])
  rcases ha : oneB 65 90 (s.extract 0 1) with _ | _
  · have HA := Lib.hid ha
    have HF : Hid (fullB s = false) := Lib.hid (by rw [HF0.out, ha]; rfl)
    clear ha
    go_enter Try.func35, Try.ntmps35
    go_wp2_with fail
    go_at_call 62
    refine (isFileName_any _ _).mono ?_
    rintro e w1 ⟨rfl, rfl⟩
    rw [HA.out]
    go_wp2_with fail
    go_ret
    exact ⟨ret_b HF.out.symm, rfl⟩
  have HA := Lib.hid ha
  by_cases hd : (c : Int) = 46
  case neg =>
    have hd2 : ((c : Int) == 46) = false := by simpa using hd
    have HF : Hid (fullB s = false) := Lib.hid (by rw [HF0.out, ha, decide_eq_false hd]; rfl)
    clear ha hd
    go_enter Try.func35, Try.ntmps35
    go_wp2_with fail
    go_at_call 62
    refine (isFileName_any _ _).mono ?_
    rintro e w1 ⟨rfl, rfl⟩
    rw [HA.out]
    go_wp2_with fail
    go_ret
    exact ⟨ret_b HF.out.symm, rfl⟩
  have hd2 : ((c : Int) == 46) = true := by simpa using hd
  rcases hb : oneB 97 122 (s.extract 2 3) with _ | _
  · have HB := Lib.hid hb
    have HF : Hid (fullB s = false) := Lib.hid (by rw [HF0.out, ha, decide_eq_true hd, hb]; rfl)
    clear ha hb hd
    go_enter Try.func35, Try.ntmps35
    go_wp2_with fail
    go_at_call 62
    refine (isFileName_any _ _).mono ?_
    rintro e w1 ⟨rfl, rfl⟩
    rw [HA.out]
    go_wp2_with fail
    go_at_call 34
    refine (isValueName_any _ _).mono ?_
    rintro e w1 ⟨rfl, rfl⟩
    rw [HB.out]
    go_wp2_with fail
    go_ret
    exact ⟨ret_b HF.out.symm, rfl⟩
  · have HB := Lib.hid hb
    have HF : Hid (fullB s = true) := Lib.hid (by rw [HF0.out, ha, decide_eq_true hd, hb]; rfl)
    clear ha hb hd
    go_enter Try.func35, Try.ntmps35
    go_wp2_with fail
    go_at_call 62
    refine (isFileName_any _ _).mono ?_
    rintro e w1 ⟨rfl, rfl⟩
    rw [HA.out]
    go_wp2_with fail
    go_at_call 34
    refine (isValueName_any _ _).mono ?_
    rintro e w1 ⟨rfl, rfl⟩
    rw [HB.out]
    go_wp2_with fail
    go_ret
    exact ⟨ret_b HF.out.symm, rfl⟩
set_option maxRecDepth 100000 in
set_option maxHeartbeats 2000000 in
theorem l4Name_any (s : ByteArray) (hz : s.size ≤ 9223372036854775807) (w : World) : Calls Try.prog 37 #[.string s] w fun e w' => e = .returned (.bool (nameB s)) ∧ w' = w := by
  rcases hv : oneB 97 122 s with _ | _
  case true =>
    have HV := Lib.hid hv
    have HR : Hid (nameB s = true) := Lib.hid (by unfold nameB; rw [hv]; rfl)
    clear hv
    go_enter Try.func37, Try.ntmps37
    go_wp2_with fail
    go_at_call 64
    refine (l3Small_any _ _).mono ?_
    rintro e w1 ⟨rfl, rfl⟩
    rw [HV.out]
    go_wp2_with fail
    go_ret
    exact ⟨ret_b HR.out.symm, rfl⟩
  have HV := Lib.hid hv
  have HR : Hid (nameB s = fullB s) := Lib.hid (by unfold nameB; rw [hv]; rfl)
  clear hv
  by_cases hs : s.size = 3
  case neg =>
    have HF : Hid (fullB s = false) := Lib.hid (by unfold fullB; rw [dif_neg hs])
    have hs1 : ((s.size : Int) == 3) = false := by rw [beq_eq_false_iff_ne]; omega
    clear hs
    go_enter Try.func37, Try.ntmps37
    go_wp2_with fail
    go_at_call 64
    refine (l3Small_any _ _).mono ?_
    rintro e w1 ⟨rfl, rfl⟩
    rw [HV.out]
    go_wp2_with fail
    go_ret
    exact ⟨ret_b (by rw [HR.out, HF.out]), rfl⟩
  have h1 : 1 < s.size := by omega
  have hs1 : ((s.size : Int) == 3) = true := by rw [beq_iff_eq]; omega
  obtain ⟨c, hc⟩ : ∃ c, (s[1]'h1).toNat = c := ⟨_, rfl⟩
  have HF0 : Hid (fullB s = (oneB 65 90 (s.extract 0 1) && (decide ((c : Int) = 46) && oneB 97 122 (s.extract 2 3)))) := Lib.hid (by unfold fullB; rw [dif_pos hs, ← hc])
  rcases ha : oneB 65 90 (s.extract 0 1) with _ | _
  · have HA := Lib.hid ha
    have HF : Hid (fullB s = false) := Lib.hid (by rw [HF0.out, ha]; rfl)
    clear ha
    go_enter Try.func37, Try.ntmps37
    go_wp2_with fail
    go_at_call 64
    refine (l3Small_any _ _).mono ?_
    rintro e w1 ⟨rfl, rfl⟩
    rw [HV.out]
    go_wp2_with fail
    go_at_call 65
    refine (l3Big_any _ _).mono ?_
    rintro e w1 ⟨rfl, rfl⟩
    rw [HA.out]
    go_wp2_with fail
    go_ret
    exact ⟨ret_b (by rw [HR.out, HF.out]), rfl⟩
  have HA := Lib.hid ha
  by_cases hd : (c : Int) = 46
  case neg =>
    have hd2 : ((c : Int) == 46) = false := by simpa using hd
    have HF : Hid (fullB s = false) := Lib.hid (by rw [HF0.out, ha, decide_eq_false hd]; rfl)
    clear ha hd
    go_enter Try.func37, Try.ntmps37
    go_wp2_with fail
    go_at_call 64
    refine (l3Small_any _ _).mono ?_
    rintro e w1 ⟨rfl, rfl⟩
    rw [HV.out]
    go_wp2_with fail
    go_at_call 65
    refine (l3Big_any _ _).mono ?_
    rintro e w1 ⟨rfl, rfl⟩
    rw [HA.out]
    go_wp2_with fail
    go_ret
    exact ⟨ret_b (by rw [HR.out, HF.out]), rfl⟩
  have hd2 : ((c : Int) == 46) = true := by simpa using hd
  rcases hb : oneB 97 122 (s.extract 2 3) with _ | _
  · have HB := Lib.hid hb
    have HF : Hid (fullB s = false) := Lib.hid (by rw [HF0.out, ha, decide_eq_true hd, hb]; rfl)
    clear ha hb hd
    go_enter Try.func37, Try.ntmps37
    go_wp2_with fail
    go_at_call 64
    refine (l3Small_any _ _).mono ?_
    rintro e w1 ⟨rfl, rfl⟩
    rw [HV.out]
    go_wp2_with fail
    go_at_call 65
    refine (l3Big_any _ _).mono ?_
    rintro e w1 ⟨rfl, rfl⟩
    rw [HA.out]
    go_wp2_with fail
    go_at_call 64
    refine (l3Small_any _ _).mono ?_
    rintro e w1 ⟨rfl, rfl⟩
    rw [HB.out]
    go_wp2_with fail
    go_ret
    exact ⟨ret_b (by rw [HR.out, HF.out]), rfl⟩
  · have HB := Lib.hid hb
    have HF : Hid (fullB s = true) := Lib.hid (by rw [HF0.out, ha, decide_eq_true hd, hb]; rfl)
    clear ha hb hd
    go_enter Try.func37, Try.ntmps37
    go_wp2_with fail
    go_at_call 64
    refine (l3Small_any _ _).mono ?_
    rintro e w1 ⟨rfl, rfl⟩
    rw [HV.out]
    go_wp2_with fail
    go_at_call 65
    refine (l3Big_any _ _).mono ?_
    rintro e w1 ⟨rfl, rfl⟩
    rw [HA.out]
    go_wp2_with fail
    go_at_call 64
    refine (l3Small_any _ _).mono ?_
    rintro e w1 ⟨rfl, rfl⟩
    rw [HB.out]
    go_wp2_with fail
    go_ret
    exact ⟨ret_b (by rw [HR.out, HF.out]), rfl⟩

/-- Whether an element is valid; whether a list is. -/
def okK (x : Kn) : Bool := nameB x.s && tvT x.t
def envB (ls : List Kn) : Bool := decide (ls.length ≤ 60) && (List.range ls.length).all fun i => okK (ls.getD i Kn.dummy)
theorem envB_long {ls : List Kn} (h : ¬ ls.length ≤ 60) : envB ls = false := by unfold envB; rw [decide_eq_false h]; rfl
theorem envB_bad {ls : List Kn} {i : Nat} (hi : i < ls.length) (h : okK (ls.getD i Kn.dummy) = false) : envB ls = false := by
  rcases e : envB ls with _ | _
  · rfl
  · unfold envB at e
    rw [Bool.and_eq_true, List.all_eq_true] at e
    have := e.2 i (List.mem_range.2 hi)
    rw [h] at this; cases this
theorem envB_good {ls : List Kn} (h : ls.length ≤ 60) (ha : ∀ i, i < ls.length → okK (ls.getD i Kn.dummy) = true) : envB ls = true := by
  unfold envB
  rw [decide_eq_true h, Bool.true_and, List.all_eq_true]
  exact fun i hi => ha i (List.mem_range.1 hi)
theorem envB_all {ls : List Kn} (h : envB ls = true) : ls.length ≤ 60 ∧ ∀ i, i < ls.length → okK (ls.getD i Kn.dummy) = true := by
  unfold envB at h
  rw [Bool.and_eq_true, List.all_eq_true] at h
  exact ⟨of_decide_eq_true h.1, fun i hi => h.2 i (List.mem_range.2 hi)⟩
/-- Names are no longer than a length can say. -/
def KnSz (ls : List Kn) : Prop := ∀ i, i < ls.length → (ls.getD i Kn.dummy).s.size ≤ maxLen

set_option maxRecDepth 100000 in
set_option maxHeartbeats 4000000 in
theorem envValid_spec (ls : List Kn) (v : Value) (w : World) (hz : KnSz ls) (hx : KnAt w ls v) :
    Calls Try.prog 11 #[v] w fun e w' => e = .returned (.bool (envB ls)) ∧ Below w.heap.size w w' := by
  have HX := Lib.hid hx
  have HZ := Lib.hid hz
  obtain ⟨a, cap, rfl, hlen⟩ := hx.slice
  obtain ⟨L, hL⟩ : ∃ L, ls.length = L := ⟨_, rfl⟩
  have HL := Lib.hid hL
  rw [hL] at hlen ⊢
  clear hx hz hL
  go_enter Try.func11, Try.ntmps11
  go_wp2_with fail
  go_loopw [3] (fun i wr => ∃ j : Nat, j ≤ L ∧ j ≤ 61 ∧ i = .int .i64 j ∧ Hid (∀ q, q < j → okK (ls.getD q Kn.dummy) = true) ∧ Below w.heap.size w wr) (fun i _ => L - (intOf i).toNat)
  case atStart => exact ⟨0, Nat.zero_le _, Nat.zero_le _, rfl, Lib.hid (fun q hq => absurd hq (Nat.not_lt_zero _)), Below.refl _ _⟩
  case round =>
    obtain ⟨j, hj, hj61, rfl, hpre, hB⟩ := hrel
    have HB := Lib.hid hB
    clear hB
    by_cases hlt : j < L
    · have hji : (j : Int) < (L : Int) := by omega
      by_cases h60 : j ≤ 60
      · have hj60 : (j : Int) ≤ 60 := by omega
        have hjl : j < ls.length := by rw [HL.out]; exact hlt
        obtain ⟨b, o, cap2, vi, ex, bl, ⟨x0, x1, x2, x3⟩, hkid⟩ := (HX.out.kept HB.out).kid j hjl
        have ex1 : a = some ⟨b, o, none⟩ := by injection ex
        subst ex1
        clear ex
        have hsz := HZ.out j hjl
        unfold maxLen at hsz
        have HJL := Lib.hid hjl
        obtain ⟨x, hxx⟩ : ∃ x, ls.getD j Kn.dummy = x := ⟨_, rfl⟩
        have HXX := Lib.hid hxx
        rw [hxx] at x0 x1 x2 hkid hsz
        have HKID := Lib.hid hkid
        obtain ⟨ti, tc, rfl, _⟩ := hkid.slice
        have hs2 : x.s.size ≤ 9223372036854775807 := by omega
        clear hjl hxx hkid hsz
        rcases hn : nameB x.s with _ | _
        · have HN := Lib.hid hn
          have HR : Hid (envB ls = false) := Lib.hid (envB_bad HJL.out (by rw [HXX.out]; unfold okK; rw [hn]; rfl))
          clear hn
          go_wp2_with fail
          go_at_call 37
          refine (l4Name_any x.s hs2 _).mono ?_
          rintro e w1 ⟨rfl, rfl⟩
          rw [HN.out]
          go_wp2_with fail
          go_ret
          exact ⟨ret_b HR.out.symm, HB.out⟩
        have HN := Lib.hid hn
        rcases ht : tvT x.t with _ | _
        · have HT := Lib.hid ht
          have HR : Hid (envB ls = false) := Lib.hid (envB_bad HJL.out (by rw [HXX.out]; unfold okK; rw [hn, ht]; rfl))
          clear hn ht
          go_wp2_with fail
          go_at_call 37
          refine (l4Name_any x.s hs2 _).mono ?_
          rintro e w1 ⟨rfl, rfl⟩
          rw [HN.out]
          go_wp2_with fail
          go_at_call 38
          refine (typeValid_spec x.t _ _ HKID.out).mono ?_
          rintro e w2 ⟨rfl, hb2⟩
          rw [HT.out]
          have HB2 := Lib.hid (HB.out.trans (hb2.mono HB.out.size))
          clear hb2
          go_wp2_with fail
          go_ret
          exact ⟨ret_b HR.out.symm, HB2.out⟩
        · have HT := Lib.hid ht
          have HPRE : Hid (∀ q, q < j + 1 → okK (ls.getD q Kn.dummy) = true) := Lib.hid (fun q hq => by
            by_cases e : q = j
            · rw [e, HXX.out]; unfold okK; rw [hn, ht]; rfl
            · exact hpre.out q (by omega))
          clear hn ht
          go_wp2_with fail
          go_at_call 37
          refine (l4Name_any x.s hs2 _).mono ?_
          rintro e w1 ⟨rfl, rfl⟩
          rw [HN.out]
          go_wp2_with fail
          go_at_call 38
          refine (typeValid_spec x.t _ _ HKID.out).mono ?_
          rintro e w2 ⟨rfl, hb2⟩
          rw [HT.out]
          have HB2 := Lib.hid (HB.out.trans (hb2.mono HB.out.size))
          clear hb2
          go_wp2_with fail
          go_roundw
          case rel => exact ⟨j + 1, by omega, by omega, by go_num, HPRE, HB2.out⟩
          case measure => simp [intOf]; omega
      · have hj60 : ¬ (j : Int) ≤ 60 := by omega
        have hL60 : ¬ (L : Int) ≤ 60 := by omega
        have HR : Hid (envB ls = false) := Lib.hid (envB_long (by rw [HL.out]; omega))
        clear h60
        go_wp2_with fail
        go_ret
        exact ⟨ret_b HR.out.symm, HB.out⟩
    · have hji : ¬ (j : Int) < (L : Int) := by omega
      have hjl : j = L := by omega
      by_cases hL6 : L ≤ 60
      · have hL60 : (L : Int) ≤ 60 := by omega
        have HR : Hid (envB ls = true) := Lib.hid (envB_good (by rw [HL.out]; exact hL6) (fun i hi => hpre.out i (by rw [HL.out] at hi; omega)))
        clear hlt hjl hL6
        go_wp2_with fail
        go_ret
        exact ⟨ret_b HR.out.symm, HB.out⟩
      · have hL60 : ¬ (L : Int) ≤ 60 := by omega
        have HR : Hid (envB ls = false) := Lib.hid (envB_long (by rw [HL.out]; exact hL6))
        clear hlt hjl hL6
        go_wp2_with fail
        go_ret
        exact ⟨ret_b HR.out.symm, HB.out⟩

set_option maxRecDepth 100000 in
set_option maxHeartbeats 4000000 in
theorem envValid_impl (ls : List Kn) (v : Value) (w : World) (hz : KnSz ls) (hx : KnAt w ls v) :
    Calls Try.prog 10 #[v] w fun e w' => e = .returned (.bool (envB ls)) ∧ Below w.heap.size w w' := by
  have HX := Lib.hid hx
  have HZ := Lib.hid hz
  obtain ⟨a, cap, rfl, hlen⟩ := hx.slice
  obtain ⟨L, hL⟩ : ∃ L, ls.length = L := ⟨_, rfl⟩
  have HL := Lib.hid hL
  rw [hL] at hlen ⊢
  clear hx hz hL
  by_cases hL6 : L ≤ 60
  case neg =>
    have hg : (L : Int) > 60 := by omega
    have HR : Hid (envB ls = false) := Lib.hid (envB_long (by rw [HL.out]; exact hL6))
    clear hL6
    go_enter Try.func10, Try.ntmps10
    go_wp2_with fail
    go_ret
    exact ⟨ret_b HR.out.symm, Below.refl _ _⟩
  have hg : ¬ (L : Int) > 60 := by omega
  have hg2 : ¬ 60 < (L : Int) := by omega
  go_enter Try.func10, Try.ntmps10
  go_wp2_with fail
  go_loopw [10] (fun i wr => ∃ j : Nat, j ≤ L ∧ i = .int .i64 j ∧ Hid (∀ q, q < j → okK (ls.getD q Kn.dummy) = true) ∧ Below w.heap.size w wr) (fun i _ => L - (intOf i).toNat)
  case atStart => exact ⟨0, Nat.zero_le _, rfl, Lib.hid (fun q hq => absurd hq (Nat.not_lt_zero _)), Below.refl _ _⟩
  case round =>
    obtain ⟨j, hj, rfl, hpre, hB⟩ := hrel
    have HB := Lib.hid hB
    clear hB
    by_cases hlt : j < L
    · have hji : (j : Int) < (L : Int) := by omega
      have hjl : j < ls.length := by rw [HL.out]; exact hlt
      obtain ⟨b, o, cap2, vi, ex, bl, ⟨x0, x1, x2, x3⟩, hkid⟩ := (HX.out.kept HB.out).kid j hjl
      have ex1 : a = some ⟨b, o, none⟩ := by injection ex
      subst ex1
      clear ex
      have hsz := HZ.out j hjl
      unfold maxLen at hsz
      have HJL := Lib.hid hjl
      obtain ⟨x, hxx⟩ : ∃ x, ls.getD j Kn.dummy = x := ⟨_, rfl⟩
      have HXX := Lib.hid hxx
      rw [hxx] at x0 x1 x2 hkid hsz
      have HKID := Lib.hid hkid
      obtain ⟨ti, tc, rfl, _⟩ := hkid.slice
      have hs2 : x.s.size ≤ 9223372036854775807 := by omega
      clear hjl hxx hkid hsz
      obtain ⟨W1, hW1⟩ : ∃ W, wr.alloc (.cells #[.string x.s, .int .i64 x.t.k, .int .i64 x.t.n, .slice ti x.t.ks.length tc] 34) = W := ⟨_, rfl⟩
      have HA1 : Hid (Below wr.heap.size wr W1) := Lib.hid (by rw [← hW1]; exact (Below.refl _ _).alloc (Nat.le_refl _) _)
      have HB1 := Lib.hid (HB.out.trans (HA1.out.mono HB.out.size))
      have HK1 : Hid (KBox W1 wr.heap.size (.string x.s) (.int .i64 x.t.k) (.int .i64 x.t.n) (.slice ti x.t.ks.length tc)) := Lib.hid (by rw [← hW1]; exact kbox_new wr _ _ _ _ _)
      have HW1 := Lib.hid hW1
      clear hW1
      rcases hn : oneB 97 122 x.s with _ | _
      · have HN := Lib.hid hn
        rcases hf : fullB x.s with _ | _
        · have HFU := Lib.hid hf
          have HR : Hid (envB ls = false) := Lib.hid (envB_bad HJL.out (by rw [HXX.out]; unfold okK nameB; rw [hn, hf]; rfl))
          clear hn hf
          go_wp2_with fail
          rw [HW1.out]
          obtain ⟨b0, b1, b2, b3, bz⟩ := HK1.out
          go_wp2_with fail
          go_at_call 34
          refine (isValueName_any x.s _).mono ?_
          rintro e w1 ⟨rfl, rfl⟩
          rw [HN.out]
          go_wp2_with fail
          go_at_call 35
          refine (isFullName_any x.s hs2 _).mono ?_
          rintro e w1 ⟨rfl, rfl⟩
          rw [HFU.out]
          go_wp2_with fail
          go_ret
          exact ⟨ret_b HR.out.symm, HB1.out⟩
        have HFU := Lib.hid hf
        rcases ht : tvT x.t with _ | _
        · have HT := Lib.hid ht
          have HR : Hid (envB ls = false) := Lib.hid (envB_bad HJL.out (by rw [HXX.out]; unfold okK; rw [ht, Bool.and_false]))
          clear hn hf ht
          go_wp2_with fail
          rw [HW1.out]
          obtain ⟨b0, b1, b2, b3, bz⟩ := HK1.out
          go_wp2_with fail
          go_at_call 34
          refine (isValueName_any x.s _).mono ?_
          rintro e w1 ⟨rfl, rfl⟩
          rw [HN.out]
          go_wp2_with fail
          go_at_call 35
          refine (isFullName_any x.s hs2 _).mono ?_
          rintro e w1 ⟨rfl, rfl⟩
          rw [HFU.out]
          go_wp2_with fail
          go_at_call 36
          refine (typeValid_impl x.t _ _ (HKID.out.kept HA1.out)).mono ?_
          rintro e w2 ⟨rfl, hb2⟩
          rw [HT.out]
          have HB2 := Lib.hid (HB1.out.trans (hb2.mono HB1.out.size))
          clear hb2 b0 b1 b2 b3 bz
          go_wp2_with fail
          go_ret
          exact ⟨ret_b HR.out.symm, HB2.out⟩
        · have HT := Lib.hid ht
          have HPRE : Hid (∀ q, q < j + 1 → okK (ls.getD q Kn.dummy) = true) := Lib.hid (fun q hq => by
            by_cases e : q = j
            · rw [e, HXX.out]; unfold okK nameB; rw [hn, hf, ht]; rfl
            · exact hpre.out q (by omega))
          clear hn hf ht
          go_wp2_with fail
          rw [HW1.out]
          obtain ⟨b0, b1, b2, b3, bz⟩ := HK1.out
          go_wp2_with fail
          go_at_call 34
          refine (isValueName_any x.s _).mono ?_
          rintro e w1 ⟨rfl, rfl⟩
          rw [HN.out]
          go_wp2_with fail
          go_at_call 35
          refine (isFullName_any x.s hs2 _).mono ?_
          rintro e w1 ⟨rfl, rfl⟩
          rw [HFU.out]
          go_wp2_with fail
          go_at_call 36
          refine (typeValid_impl x.t _ _ (HKID.out.kept HA1.out)).mono ?_
          rintro e w2 ⟨rfl, hb2⟩
          rw [HT.out]
          have HB2 := Lib.hid (HB1.out.trans (hb2.mono HB1.out.size))
          clear hb2 b0 b1 b2 b3 bz
          go_wp2_with fail
          go_roundw
          case rel => exact ⟨j + 1, by omega, by go_num, HPRE, HB2.out⟩
          case measure => simp [intOf]; omega
      · have HN := Lib.hid hn
        rcases ht : tvT x.t with _ | _
        · have HT := Lib.hid ht
          have HR : Hid (envB ls = false) := Lib.hid (envB_bad HJL.out (by rw [HXX.out]; unfold okK; rw [ht, Bool.and_false]))
          clear hn ht
          go_wp2_with fail
          rw [HW1.out]
          obtain ⟨b0, b1, b2, b3, bz⟩ := HK1.out
          go_wp2_with fail
          go_at_call 34
          refine (isValueName_any x.s _).mono ?_
          rintro e w1 ⟨rfl, rfl⟩
          rw [HN.out]
          go_wp2_with fail
          go_at_call 36
          refine (typeValid_impl x.t _ _ (HKID.out.kept HA1.out)).mono ?_
          rintro e w2 ⟨rfl, hb2⟩
          rw [HT.out]
          have HB2 := Lib.hid (HB1.out.trans (hb2.mono HB1.out.size))
          clear hb2 b0 b1 b2 b3 bz
          go_wp2_with fail
          go_ret
          exact ⟨ret_b HR.out.symm, HB2.out⟩
        · have HT := Lib.hid ht
          have HPRE : Hid (∀ q, q < j + 1 → okK (ls.getD q Kn.dummy) = true) := Lib.hid (fun q hq => by
            by_cases e : q = j
            · rw [e, HXX.out]; unfold okK nameB; rw [hn, ht]; rfl
            · exact hpre.out q (by omega))
          clear hn ht
          go_wp2_with fail
          rw [HW1.out]
          obtain ⟨b0, b1, b2, b3, bz⟩ := HK1.out
          go_wp2_with fail
          go_at_call 34
          refine (isValueName_any x.s _).mono ?_
          rintro e w1 ⟨rfl, rfl⟩
          rw [HN.out]
          go_wp2_with fail
          go_at_call 36
          refine (typeValid_impl x.t _ _ (HKID.out.kept HA1.out)).mono ?_
          rintro e w2 ⟨rfl, hb2⟩
          rw [HT.out]
          have HB2 := Lib.hid (HB1.out.trans (hb2.mono HB1.out.size))
          clear hb2 b0 b1 b2 b3 bz
          go_wp2_with fail
          go_roundw
          case rel => exact ⟨j + 1, by omega, by go_num, HPRE, HB2.out⟩
          case measure => simp [intOf]; omega
    · have hji : ¬ (j : Int) < (L : Int) := by omega
      have hjl : j = L := by omega
      have HR : Hid (envB ls = true) := Lib.hid (envB_good (by rw [HL.out]; exact hL6) (fun i hi => hpre.out i (by rw [HL.out] at hi; omega)))
      clear hlt hjl
      go_wp2_with fail
      go_ret
      exact ⟨ret_b HR.out.symm, HB.out⟩

end Go.Proofs.Ytlgbkhkmfgdehaa

namespace Go.Proofs.Ytlgbkhkmfgdehaa
open Go.RowKit
set_option linter.unusedVariables false
set_option linter.unusedSimpArgs false

/-- The last of the first elements that has the name. -/
def lk (ls : List Kn) (s : ByteArray) : Nat → Option Ty
  | 0 => none
  | j + 1 => if (ls.getD j Kn.dummy).s.toList = s.toList then some (ls.getD j Kn.dummy).t else lk ls s j
def lookB (ls : List Kn) (s : ByteArray) : Option Ty := if envB ls = true then lk ls s ls.length else none
theorem lk_yes {ls : List Kn} {s : ByteArray} {j : Nat} (h : (ls.getD j Kn.dummy).s.toList = s.toList) : lk ls s (j + 1) = some (ls.getD j Kn.dummy).t := by simp only [lk, if_pos h]
theorem lk_no {ls : List Kn} {s : ByteArray} {j : Nat} (h : ¬ (ls.getD j Kn.dummy).s.toList = s.toList) : lk ls s (j + 1) = lk ls s j := by simp only [lk, if_neg h]
theorem lookB_bad {ls : List Kn} {s : ByteArray} (h : envB ls = false) : lookB ls s = none := by unfold lookB; rw [h]; rfl
theorem lookB_good {ls : List Kn} {s : ByteArray} (h : envB ls = true) : lookB ls s = lk ls s ls.length := by unfold lookB; rw [h]; rfl
theorem okK_ty {x : Kn} (h : okK x = true) : tvT x.t = true := by unfold okK at h; rw [Bool.and_eq_true] at h; exact h.2
/-- What is found is a type that is valid. -/
theorem lk_valid {ls : List Kn} {s : ByteArray} (h : ∀ i, i < ls.length → tvT (ls.getD i Kn.dummy).t = true) : ∀ (j : Nat) (t : Ty), j ≤ ls.length → lk ls s j = some t → tvT t = true
  | 0, t, _, e => by cases e
  | j + 1, t, hj, e => by
    by_cases hs : (ls.getD j Kn.dummy).s.toList = s.toList
    · rw [lk_yes hs] at e; cases e; exact h j hj
    · rw [lk_no hs] at e; exact lk_valid h j t (by omega) e
theorem lookB_valid {ls : List Kn} {s : ByteArray} {t : Ty} (h : lookB ls s = some t) : tvT t = true := by
  rcases e : envB ls with _ | _
  · rw [lookB_bad e] at h; cases h
  · rw [lookB_good e] at h
    exact lk_valid (fun i hi => okK_ty ((envB_all e).2 i hi)) _ _ (Nat.le_refl _) h
theorem lookB_cnt (ls : List Kn) (s : ByteArray) : ∃ c, Cnt (optT (lookB ls s)) c ∧ c ≤ 62 := by
  rcases e : lookB ls s with _ | t
  · exact ⟨0, .node 0 0 [] (fun _ => 0) (fun i hi => absurd hi (Nat.not_lt_zero _)), by omega⟩
  · exact cnt_valid (lookB_valid e)

set_option maxRecDepth 100000 in
set_option maxHeartbeats 4000000 in
theorem lookup_spec (ls : List Kn) (v : Value) (s : ByteArray) (w : World) (hz : KnSz ls) (hx : KnAt w ls v) (r : Option Ty) (hr : lookB ls s = r) :
    Calls Try.prog 8 #[v, .string s] w (OptRet r w) := by
  have HR0 := Lib.hid (rb_new w 28)
  have HB0 : Hid (Below w.heap.size w (w.alloc (.cells #[.int .i64 0, .int .i64 0, .slice none 0 0] 28))) := Lib.hid ((Below.refl _ _).alloc (Nat.le_refl _) _)
  have HX := Lib.hid hx
  have HZ : Hid (KnSz ls) := Lib.hid hz
  obtain ⟨a, cap, rfl, hlen⟩ := hx.slice
  obtain ⟨L, hL⟩ : ∃ L, ls.length = L := ⟨_, rfl⟩
  have HL := Lib.hid hL
  rw [hL] at hlen HX ⊢
  clear hx hz
  rcases he : envB ls with _ | _
  · have HE := Lib.hid he
    obtain rfl : r = none := by rw [← hr]; exact lookB_bad he
    clear he hr hL
    go_enter Try.func8, Try.ntmps8
    go_wp2_with fail
    go_at_call 11
    refine (envValid_spec ls _ _ HZ.out (HX.out.kept HB0.out)).mono ?_
    rintro e w1 ⟨rfl, hb1⟩
    rw [HE.out]
    have HR1 := Lib.hid (HR0.out.kept hb1)
    have HB1 := Lib.hid (HB0.out.trans (hb1.mono HB0.out.size))
    clear hb1
    obtain ⟨p0, p1, p2, f0, f1, f2, psz⟩ := HR1.out
    go_wp2_with fail
    exact bodyPost_ret (v := .tuple #[.agg #[.int .i64 0, .int .i64 0, .slice none 0 0], .bool false]) (by simp [results, Try.results8, go_sem, p0, p1, p2, psz]) rfl ⟨rfl, res_below HB1.out _ _ _⟩
  have HE := Lib.hid he
  have HLK : Hid (lk ls s L = r) := Lib.hid (by rw [← hL, ← lookB_good he]; exact hr)
  have hL60 : L ≤ 60 := by rw [← hL]; exact (envB_all he).1
  have HV : Hid (∀ i, i < L → tvT (ls.getD i Kn.dummy).t = true) := Lib.hid (fun i hi => okK_ty ((envB_all he).2 i (by rw [hL]; exact hi)))
  clear he hr hL
  go_enter Try.func8, Try.ntmps8
  go_wp2_with fail
  go_at_call 11
  refine (envValid_spec ls _ _ HZ.out (HX.out.kept HB0.out)).mono ?_
  rintro e w1 ⟨rfl, hb1⟩
  rw [HE.out]
  have HR1 := Lib.hid (HR0.out.kept hb1)
  have HB1 := Lib.hid (HB0.out.trans (hb1.mono HB0.out.size))
  have HZ1 : Hid (w.heap.size + 1 ≤ w1.heap.size) := Lib.hid (by have := hb1.size; simp at this; omega)
  clear hb1
  obtain ⟨p0, p1, p2, f0, f1, f2, psz⟩ := HR1.out
  go_wp2_with fail
  go_loopw [6] (fun i wr => ∃ (j : Nat) (p : Int), j ≤ L ∧ p = (j : Int) - 1 ∧ i = .int .i64 p ∧ Hid (lk ls s j = r) ∧ wr = w1) (fun i _ => (intOf i + 1).toNat)
  case atStart => exact ⟨L, (L : Int) - 1, Nat.le_refl _, rfl, by go_num, HLK, rfl⟩
  case round =>
    obtain ⟨j, p, hj, hp, rfl, hlk, rfl⟩ := hrel
    cases j with
    | zero =>
      obtain rfl : p = -1 := by omega
      have HR : Hid (r = none) := Lib.hid (by rw [← hlk.out]; rfl)
      clear hlk hp
      go_wp2_with fail
      rw [HR.out]
      exact bodyPost_ret (v := .tuple #[.agg #[.int .i64 0, .int .i64 0, .slice none 0 0], .bool false]) (by simp [results, Try.results8, go_sem, p0, p1, p2, psz]) rfl ⟨rfl, res_below HB1.out _ _ _⟩
    | succ k =>
      obtain rfl : p = (k : Int) := by omega
      have hkL : (k : Int) < (L : Int) := by omega
      have hk0 : 0 ≤ (k : Int) := by omega
      have hjl : k < ls.length := by rw [HL.out]; omega
      obtain ⟨b, o, cap2, vi, ex, bl, ⟨x0, x1, x2, x3⟩, hkid⟩ := (HX.out.kept HB1.out).kid k hjl
      have ex1 : a = some ⟨b, o, none⟩ := by injection ex
      subst ex1
      clear ex
      obtain ⟨x, hxx⟩ : ∃ x, ls.getD k Kn.dummy = x := ⟨_, rfl⟩
      have hv := HV.out k (by omega)
      rw [hxx] at x0 x1 x2 hkid hv
      have HVX := Lib.hid hv
      have HXX := Lib.hid hxx
      have HKID := Lib.hid hkid
      obtain ⟨ti, tc, rfl, _⟩ := hkid.slice
      clear hjl hxx hkid hv hp
      by_cases hs : x.s.toList = s.toList
      · have hsb : (x.s.toList == s.toList) = true := by rw [beq_iff_eq]; exact hs
        have HR : Hid (r = some x.t) := Lib.hid (by rw [← hlk.out, lk_yes (by rw [HXX.out]; exact hs), HXX.out])
        clear hs hlk
        go_wp2_with fail
        go_at_call 30
        refine (l2Copy_any 16 x.t _ _ (tvT_shp HVX.out) HKID.out).mono ?_
        rintro e w2 ⟨v2, rfl, hty, hb2⟩
        obtain ⟨a2, k2, rfl, _⟩ := hty.at.slice
        have HTY := Lib.hid hty
        have HB2 := Lib.hid (HB1.out.trans (hb2.mono HB1.out.size))
        have HR2 := Lib.hid (HR1.out.kept hb2)
        clear hty hb2 p0 p1 p2 f0 f1 f2 psz
        obtain ⟨p0, p1, p2, f0, f1, f2, psz⟩ := HR2.out
        go_wp2_with fail
        rw [HR.out]
        exact bodyPost_ret (v := .tuple #[.agg #[.int .i64 x.t.k, .int .i64 x.t.n, .slice a2 x.t.ks.length k2], .bool true]) (by simp [results, Try.results8, go_sem, p0, p1, p2, psz]) rfl ⟨_, rfl, res_ty (HTY.out.wide HZ1.out (Nat.le_refl _)) (Nat.le_refl _) _ _ _, res_below HB2.out _ _ _⟩
      · have hsb : (x.s.toList == s.toList) = false := by rw [beq_eq_false_iff_ne]; exact hs
        have HLK2 : Hid (lk ls s k = r) := Lib.hid (by rw [← hlk.out]; exact (lk_no (by rw [HXX.out]; exact hs)).symm)
        clear hs hlk
        go_wp2_with fail
        go_roundw
        case rel => exact ⟨k, (k : Int) - 1, by omega, rfl, by go_num, HLK2, by first | trivial | rfl⟩
        case measure => simp [intOf]
end Go.Proofs.Ytlgbkhkmfgdehaa

namespace Go.Proofs.Ytlgbkhkmfgdehaa
open Go.RowKit Go.Shelf
attribute [local go_sem] Oper.semAt_some
set_option linter.unusedVariables false
set_option linter.unusedSimpArgs false

/-- The first k of the indices below L, from the last one on. -/
def downN (L k : Nat) : List Nat := (List.range k).map fun i => L - 1 - i
theorem downN_step {L q : Nat} (h : q < L) : downN L (L - q) = downN L (L - (q + 1)) ++ [q] := by
  have e : L - q = (L - (q + 1)) + 1 := by omega
  have e2 : L - 1 - (L - (q + 1)) = q := by omega
  rw [e]
  simp only [downN, List.range_succ, List.map_append, List.map_cons, List.map_nil, e2]
theorem downN_length (L k : Nat) : (downN L k).length = k := by simp [downN]
/-- The element at an index, as a value. -/
def knV (el : Nat → Kn) (vs : Nat → Value) (j : Nat) : Array Value := #[.int .i64 (j : Int), .agg #[.string (el j).s, .int .i64 (el j).t.k, .int .i64 (el j).t.n, vs j]]

set_option maxRecDepth 100000 in
set_option maxHeartbeats 4000000 in
/-- The iterator's closure, for every body that keeps what lay below n₀. -/
theorem back1_in (F : Fence) (n : Nat) (hg : F.fn 57) (hro : F.round = none) (hn : 1 ≤ n) (l Bs n₀ b o L cap : Nat) (el : Nat → Kn) (vs : Nat → Value) (hL : L ≤ 60) (hb : b < n₀) (hBn : Bs < n₀) (J Jx : List Nat → World → Prop)
    (hY : ∀ pre x W, J pre W → pre.length < L → YieldAt F (n - 1) Try.prog l (knV el vs x) W fun e W' =>
      (e = .returned (.bool true) ∧ J (pre ++ [x]) W' ∧ Below n₀ W W') ∨ (e = .returned (.bool false) ∧ Jx (pre ++ [x]) W'))
    (W : World) (hBs : W.cell? ⟨Bs, 0, none⟩ = some (.slice (some ⟨b, o, none⟩) L cap)) (hc : ∀ j, j < L → KFd W b (o + j * 4) (el j) (vs j)) (h0 : J [] W) :
    CallsIn F n Try.prog 57 #[.func (.yield l) #[] #[], .pointer (some ⟨Bs, 0, none⟩)] W fun e W' => (∃ v, e = .returned v) ∧
      ((∃ ys, ys = downN L L ∧ J ys W') ∨ (∃ pre, (∃ k, k ≤ L ∧ pre = downN L k) ∧ Jx pre W')) := by
  have HC := Lib.hid hc
  clear hc
  refine callsIn_of_wp Try.func57 rfl hg ?_ hro
  simp only [Try.ntmps57, List.size_toArray, List.length_cons, List.length_nil, Nat.reduceAdd, Nat.reduceSub, Array.replicate_succ, Array.replicate_zero, List.push_toArray, List.append_toArray, List.nil_append, List.cons_append]
  gi_wp2
  gi_loopw [3] (fun i wr => ∃ (j : Nat) (p : Int), j ≤ L ∧ p = (j : Int) - 1 ∧ i = .int .i64 p ∧ J (downN L (L - j)) wr ∧ Below n₀ W wr) (fun i _ => (intOf i + 1).toNat)
  case atStart => exact ⟨L, (L : Int) - 1, Nat.le_refl _, rfl, by go_num, by rw [Nat.sub_self]; exact h0, Below.refl _ _⟩
  case round =>
    obtain ⟨j, p, hj, hp, rfl, hJs, hnx⟩ := hrel
    have hBs' := (hnx.cell (p := ⟨Bs, 0, none⟩) hBn).trans hBs
    cases j with
    | zero =>
      obtain rfl : p = -1 := by omega
      clear hp
      gi_wp2
      go_end0
      exact ⟨⟨_, rfl⟩, .inl ⟨_, rfl, hJs⟩⟩
    | succ k =>
      obtain rfl : p = (k : Int) := by omega
      have hkL : (k : Int) < (L : Int) := by omega
      have hk0 : 0 ≤ (k : Int) := by omega
      obtain ⟨x0, x1, x2, x3⟩ := (HC.out k (by omega)).keep (hnx.block b hb)
      obtain ⟨fn, tmps, assign, body, hy, hR⟩ := hY _ k wr hJs (by rw [downN_length]; omega)
      unfold knV at hy
      clear hp
      gi_wp2
      refine hR.mono ?_
      rintro e W3 (⟨rfl, hJ3, hk3⟩ | ⟨rfl, hJx3⟩)
      · gi_wp2
        go_roundw
        case rel => exact ⟨k, (k : Int) - 1, by omega, rfl, by go_num, by rw [downN_step (by omega)]; exact hJ3, hnx.trans hk3⟩
        case measure => simp [intOf]
      · gi_wp2
        refine bodyPost_ret (results_none rfl _ _ _) rfl ?_
        exact ⟨⟨_, rfl⟩, .inr ⟨_, ⟨L - k, by omega, (downN_step (by omega)).symm⟩, hJx3⟩⟩

set_option maxRecDepth 100000 in
set_option maxHeartbeats 1000000 in
/-- Without elements: no round. -/
theorem back0_in (F : Fence) (n : Nat) (hg : F.fn 57) (hro : F.round = none) (l Bs cap : Nat) (a : Option Addr) (J : List Nat → World → Prop) (W : World) (hBs : W.cell? ⟨Bs, 0, none⟩ = some (.slice a 0 cap)) (h0 : J [] W) :
    CallsIn F n Try.prog 57 #[.func (.yield l) #[] #[], .pointer (some ⟨Bs, 0, none⟩)] W fun e W' => (∃ v, e = .returned v) ∧ J [] W' := by
  refine callsIn_of_wp Try.func57 rfl hg ?_ hro
  simp only [Try.ntmps57, List.size_toArray, List.length_cons, List.length_nil, Nat.reduceAdd, Nat.reduceSub, Array.replicate_succ, Array.replicate_zero, List.push_toArray, List.append_toArray, List.nil_append, List.cons_append]
  gi_wp2
  gi_loopw [3] (fun i wr => i = .int .i64 (-1) ∧ J [] wr) (fun _ _ => 0)
  case atStart => exact ⟨by go_num, h0⟩
  case round =>
    obtain ⟨rfl, hJs⟩ := hrel
    gi_wp2
    go_end0
    exact ⟨⟨_, rfl⟩, hJs⟩

set_option maxRecDepth 100000 in
set_option maxHeartbeats 1000000 in
theorem back_in (F : Fence) (n : Nat) (hg : F.fn 28) (hro : F.round = none) (a : Option Addr) (len cap : Nat) (w : World) :
    CallsIn F n Try.prog 28 #[.slice a len cap] w fun e w' => e = .returned (.func (.func 57) #[] #[.pointer (some ⟨w.heap.size, 0, none⟩)]) ∧ w' = w.alloc (.cells #[.slice a len cap] 23) := by
  refine callsIn_of_wp Try.func28 rfl hg ?_ hro
  simp only [Try.ntmps28, List.size_toArray, List.length_cons, List.length_nil, Nat.reduceAdd, Nat.reduceSub, Array.replicate_succ, Array.replicate_zero, List.push_toArray, List.append_toArray, List.nil_append, List.cons_append]
  gi_wp2
  go_ret
  exact ⟨rfl, rfl⟩

theorem shp_numK : shp 16 (.node 1 0 []) = true := by decide
theorem downN_lt {L k i : Nat} (hk : k ≤ L) (h : i ∈ downN L k) : i < L := by
  unfold downN at h
  obtain ⟨q, hq, rfl⟩ := List.mem_map.1 h
  have := List.mem_range.1 hq
  omega
/-- What slices.Backward hands back, for names with valid types that lie in memory: all indices from the last one on, or the first of them. -/
theorem back_stops (F : Fence) (n : Nat) (hg : F.fn 57) (hro : F.round = none) (hn : 1 ≤ n) (Bs n₀ : Nat) (a : Option Addr) (L cap : Nat) (ls : List Kn) (hL : L ≤ 60) (hLL : ls.length = L) (hV : ∀ j, j < L → tvT (ls.getD j Kn.dummy).t = true) (w0 w : World) (hk : KnAt w0 ls (.slice a L cap)) (hb0 : Below w0.heap.size w0 w) (hn₀ : w0.heap.size ≤ n₀) (hw : n₀ ≤ w.heap.size) (hBn : Bs < n₀)
    (hc : w.cell? ⟨Bs, 0, none⟩ = some (.slice a L cap)) :
    ∃ (el : Nat → Kn) (vs : Nat → Value), (∀ j, j < L → ls.getD j Kn.dummy = el j) ∧ (∀ j, TyAt w0 (el j).t (vs j)) ∧ (∀ j, shp 16 (el j).t = true) ∧
      SeqStopsK F n Try.prog 57 #[.pointer (some ⟨Bs, 0, none⟩)] (knV el vs) (Below n₀) (fun ys => ys = downN L L) (fun pre => ∃ k, k ≤ L ∧ pre = downN L k) L w := by
  subst hLL
  cases hk with
  | bare a cap =>
    refine ⟨fun _ => ⟨⟨#[]⟩, .node 1 0 []⟩, fun _ => .slice none 0 0, fun j hj => absurd hj (Nat.not_lt_zero _), fun _ => .bare 1 0 none 0, fun _ => shp_numK, ?_⟩
    intro l J Jx W hW _ _ hY h0
    have hc' := (hW.cell (p := ⟨Bs, 0, none⟩) (Nat.lt_of_lt_of_le hBn hw)).trans hc
    exact (back0_in F n hg hro l Bs cap _ J W hc' h0).mono fun e W' ⟨he, hj⟩ => ⟨he, .inl ⟨_, rfl, hj⟩⟩
  | row ls b o cap vs hbl hl h0 h3 =>
    refine ⟨fun j => if j < ls.length then ls.getD j Kn.dummy else ⟨⟨#[]⟩, .node 1 0 []⟩, fun j => if j < ls.length then vs j else .slice none 0 0, fun j hj => by simp only [if_pos hj], fun j => ?_, fun j => ?_, ?_⟩
    · by_cases hj : j < ls.length
      · simp only [if_pos hj]; exact h3 j hj
      · simp only [if_neg hj]; exact .bare 1 0 none 0
    · by_cases hj : j < ls.length
      · simp only [if_pos hj]; exact tvT_shp (hV j hj)
      · simp only [if_neg hj]; exact shp_numK
    intro l J Jx W hW _ _ hY h0'
    have hc' := (hW.cell (p := ⟨Bs, 0, none⟩) (Nat.lt_of_lt_of_le hBn hw)).trans hc
    exact back1_in F n hg hro hn l Bs n₀ b o ls.length cap _ _ hL (by omega) hBn J Jx hY W hc' (fun j hj => by simp only [if_pos hj]; exact (h0 j hj).keep ((hW.block b (by omega)).trans (hb0.block b hbl))) h0'

/-- Cells of a result stay when a block turns that is none of cells. -/
theorem RB.turn {W W' : World} {B : Nat} {row : Option Nat} (h : RB W B) (hg : W.grownBy W' row) (hr : ∀ r, row = some r → ∃ o : Obj, W.heap[r]? = some o ∧ o.isCells = false) : RB W' B :=
  ⟨cell_kept h.c0 hg hr, cell_kept h.c1 hg hr, cell_kept h.c2 hg hr, (frozen_kept h.c0 hg hr).trans h.f0, (frozen_kept h.c1 hg hr).trans h.f1, (frozen_kept h.c2 hg hr).trans h.f2, Nat.lt_of_lt_of_le h.sz hg.size⟩
theorem KBox.turn {W W' : World} {B : Nat} {v0 v1 v2 v3 : Value} {row : Option Nat} (h : KBox W B v0 v1 v2 v3) (hg : W.grownBy W' row) (hr : ∀ r, row = some r → ∃ o : Obj, W.heap[r]? = some o ∧ o.isCells = false) : KBox W' B v0 v1 v2 v3 :=
  ⟨cell_kept h.c0 hg hr, cell_kept h.c1 hg hr, cell_kept h.c2 hg hr, cell_kept h.c3 hg hr, Nat.lt_of_lt_of_le h.sz hg.size⟩
theorem TyIn.turn {W W' : World} {lo hi : Nat} {t : Ty} {v : Value} {row : Option Nat} (h : TyIn W lo hi t v) (hg : W.grownBy W' row) (hr : ∀ r, row = some r → ∃ o : Obj, W.heap[r]? = some o ∧ o.isCells = false) : TyIn W' lo hi t v := by
  induction h with
  | bare lo hi k n a cap => exact .bare lo hi k n a cap
  | row lo hi k n ks b cap vs l h hb1 hb2 hw hl h0 h1 h2 hf hin hd _ ih =>
    obtain ⟨C, T, hC⟩ := hw.pl
    have e := grownBy_keeps_cells hg hr hC rfl
    exact .row lo hi k n ks b cap vs l h hb1 hb2 (hw.keep hg.size e) hl (fun i hi => (cellEq e).trans (h0 i hi)) (fun i hi => (cellEq e).trans (h1 i hi)) (fun i hi => (cellEq e).trans (h2 i hi)) (fun i hi => (frozenEq e).trans (hf i hi)) hin hd ih
theorem KeepsFrom.of_below {B : Nat} {W W' : World} (h : Below W.heap.size W W') : KeepsFrom B W W' :=
  ⟨h.size, fun k o _ hk _ => (h.block k (Array.getElem?_eq_some_iff.1 hk).1).trans hk⟩
theorem lk_skip {ls : List Kn} {s : ByteArray} {L : Nat} : ∀ (k : Nat), k ≤ L → (∀ i ∈ downN L k, ¬ (ls.getD i Kn.dummy).s.toList = s.toList) → lk ls s L = lk ls s (L - k)
  | 0, _, _ => rfl
  | k + 1, hk, h => by
    have e : L - k = (L - (k + 1)) + 1 := by omega
    have h2 : downN L (k + 1) = downN L k ++ [L - (k + 1)] := by
      have := downN_step (L := L) (q := L - (k + 1)) (by omega)
      rw [show L - (L - (k + 1)) = k + 1 by omega, show L - (L - (k + 1) + 1) = k by omega] at this
      exact this
    rw [h2] at h
    rw [lk_skip k (by omega) (fun i hi => h i (List.mem_append.2 (.inl hi))), e]
    exact lk_no (h _ (List.mem_append.2 (.inr (List.mem_singleton.2 rfl))))
theorem lk_hit {ls : List Kn} {s : ByteArray} {L k j : Nat} {ini : List Nat} (hk : k ≤ L) (e : downN L k = ini ++ [j]) (h : ∀ i ∈ ini, ¬ (ls.getD i Kn.dummy).s.toList = s.toList) (hj : (ls.getD j Kn.dummy).s.toList = s.toList) : lk ls s L = some (ls.getD j Kn.dummy).t ∧ j < L := by
  obtain ⟨q, rfl⟩ : ∃ q, k = q + 1 := by
    cases k with
    | zero => simp [downN] at e
    | succ q => exact ⟨q, rfl⟩
  have h2 : downN L (q + 1) = downN L q ++ [L - (q + 1)] := by
    have := downN_step (L := L) (q := L - (q + 1)) (by omega)
    rw [show L - (L - (q + 1)) = q + 1 by omega, show L - (L - (q + 1) + 1) = q by omega] at this
    exact this
  rw [h2] at e
  obtain ⟨rfl, e5⟩ := List.append_inj' e rfl
  obtain rfl : L - (q + 1) = j := by simpa using e5
  refine ⟨?_, by omega⟩
  rw [lk_skip q (by omega) h, show L - q = (L - (q + 1)) + 1 by omega]
  exact lk_yes hj

set_option maxRecDepth 100000 in
set_option maxHeartbeats 8000000 in
theorem lookup_impl (ls : List Kn) (v : Value) (s : ByteArray) (w : World) (hz : KnSz ls) (hx : KnAt w ls v) (r : Option Ty) (hr : lookB ls s = r) :
    Calls Try.prog 7 #[v, .string s] w (OptRet r w) := by
  have HX := Lib.hid hx
  have HZ : Hid (KnSz ls) := Lib.hid hz
  obtain ⟨a, cap, rfl, hlen⟩ := hx.slice
  obtain ⟨L, hL⟩ : ∃ L, ls.length = L := ⟨_, rfl⟩
  have HL := Lib.hid hL
  rw [hL] at hlen HX ⊢
  clear hx hz
  obtain ⟨A, hA⟩ : ∃ A, w.heap.size = A := ⟨_, rfl⟩
  have HAA := Lib.hid hA
  obtain ⟨W1, hW1⟩ : ∃ W1, ((w.alloc (.cells #[.string s] 9)).alloc (.cells #[.int .i64 0, .int .i64 0, .slice none 0 0] 28)).alloc (.cells #[.bool false] 4) = W1 := ⟨_, rfl⟩
  have hB1 : Below A w W1 := by rw [← hW1, ← hA]; exact (((Below.refl _ _).alloc (Nat.le_refl _) _).alloc (by simp) _).alloc (by simp; omega) _
  have hz1 : W1.heap.size = A + 3 := by rw [← hW1, ← hA]; simp
  have HN1 : Hid (Boxed W1 A 9 (.string s)) := Lib.hid (by rw [← hW1, ← hA]; exact ((Boxed.new w _ _).alloc _).alloc _)
  have HR1 : Hid (RB W1 (A + 1)) := Lib.hid (by have h := (rb_new (w.alloc (.cells #[.string s] 9)) 28).kept ((Below.refl _ _).alloc (Nat.le_refl _) (.cells #[.bool false] 4)); rw [hW1, sizeA, hA] at h; exact h)
  have HO1 : Hid (Boxed W1 (A + 1 + 1) 4 (.bool false)) := Lib.hid (by have h := Boxed.new ((w.alloc (.cells #[.string s] 9)).alloc (.cells #[.int .i64 0, .int .i64 0, .slice none 0 0] 28)) 4 (.bool false); rw [hW1, sizeA, sizeA, hA] at h; exact h)
  have HW1 := Lib.hid hW1
  have HB1 := Lib.hid hB1
  have HX1 := Lib.hid (HX.out.kept (by rw [hA]; exact hB1))
  clear hW1 hB1
  rcases he : envB ls with _ | _
  · have HE := Lib.hid he
    obtain rfl : r = none := by rw [← hr]; exact lookB_bad he
    clear he hr hL
    go_enter Try.func7, Try.ntmps7
    go_wp2_with fail
    rw [HW1.out]
    go_at_call 10
    refine (envValid_impl ls _ _ HZ.out HX1.out).mono ?_
    rintro e w1 ⟨rfl, hb1⟩
    rw [HE.out]
    have HR2 := Lib.hid (HR1.out.kept hb1)
    have HO2 := Lib.hid (HO1.out.kept (⟨hb1.os, hb1.tape, hb1.output, hb1.size, fun k hk _ => hb1.block k hk⟩ : W1.grownBy w1 none) (by simp))
    have HB2 := Lib.hid (HB1.out.trans (hb1.mono (by omega)))
    clear hb1
    obtain ⟨p0, p1, p2, f0, f1, f2, psz⟩ := HR2.out
    have q0 := HO2.out.cell
    have q1 := HO2.out.frozen
    go_wp2_with fail
    refine bodyPost_ret (v := .tuple #[.agg #[.int .i64 0, .int .i64 0, .slice none 0 0], .bool false]) (by simp [results, Try.results7, go_sem, p0, p1, p2, q0, psz]) rfl ⟨rfl, ?_⟩
    rw [hA]
    exact (((HB2.out.setCell (p := ⟨A + 1, 0, none⟩) (by show A ≤ A + 1; omega) _).setCell (p := ⟨A + 1, 1, none⟩) (by show A ≤ A + 1; omega) _).setCell (p := ⟨A + 1, 2, none⟩) (by show A ≤ A + 1; omega) _).setCell (p := ⟨A + 1 + 1, 0, none⟩) (by show A ≤ A + 1 + 1; omega) _
  have HE := Lib.hid he
  have HLK : Hid (lk ls s L = r) := Lib.hid (by rw [← hL, ← lookB_good he]; exact hr)
  have hL60 : L ≤ 60 := by rw [← hL]; exact (envB_all he).1
  have HV : Hid (∀ i, i < L → tvT (ls.getD i Kn.dummy).t = true) := Lib.hid (fun i hi => okK_ty ((envB_all he).2 i (by rw [hL]; exact hi)))
  clear he hr hL
  refine (callsIn_wide (n := 10)).1 ?_
  refine callsIn_of_wp_marks Try.func7 rfl trivial ?_ rfl
  simp only [Try.ntmps7, List.size_toArray, List.length_cons, List.length_nil, Nat.reduceAdd, Nat.reduceSub, Array.replicate_succ, Array.replicate_zero, List.push_toArray, List.append_toArray, List.nil_append, List.cons_append]
  gi_wp2_with (fail)
  rw [HW1.out]
  refine ⟨trivial, ?_⟩
  gi_at_call 10
  refine (callsIn_wide.2 (envValid_impl ls _ _ HZ.out HX1.out)).mono ?_
  rintro e w1 ⟨rfl, hb1⟩
  rw [HE.out]
  have HR2 := Lib.hid (HR1.out.kept hb1)
  have HN2 := Lib.hid (HN1.out.kept (⟨hb1.os, hb1.tape, hb1.output, hb1.size, fun k hk _ => hb1.block k hk⟩ : W1.grownBy w1 none) (by simp))
  have HO2 := Lib.hid (HO1.out.kept (⟨hb1.os, hb1.tape, hb1.output, hb1.size, fun k hk _ => hb1.block k hk⟩ : W1.grownBy w1 none) (by simp))
  have HB2 := Lib.hid (HB1.out.trans (hb1.mono (by omega)))
  have hz2 : A + 3 ≤ w1.heap.size := by have := hb1.size; omega
  clear hb1
  gi_wp2_with (fail)
  refine ⟨trivial, ?_⟩
  gi_at_call 28
  refine (back_in _ _ trivial rfl _ _ _ _).mono ?_
  rintro e w2 ⟨rfl, rfl⟩
  gi_wp2_with (fail)
  obtain ⟨B, hB⟩ : ∃ B, w1.heap.size = B := ⟨_, rfl⟩
  obtain ⟨W2, hW2⟩ : ∃ W2, w1.alloc (.cells #[.slice a L cap] 23) = W2 := ⟨_, rfl⟩
  have hb2 : Below w1.heap.size w1 W2 := by rw [← hW2]; exact (Below.refl _ _).alloc (Nat.le_refl _) _
  have hz3 : W2.heap.size = B + 1 := by rw [← hW2, ← hB]; simp
  have HBS : Hid (W2.cell? ⟨B, 0, none⟩ = some (.slice a L cap)) := Lib.hid (by have h := (Boxed.new w1 23 (.slice a L cap)).cell; rw [hW2, hB] at h; exact h)
  have hg2 : w1.grownBy W2 none := by rw [← hW2]; exact World.grownBy_alloc _ _ _
  have HR3 := Lib.hid (HR2.out.kept hb2)
  have HN3 := Lib.hid (HN2.out.kept hg2 (by simp))
  have HO3 := Lib.hid (HO2.out.kept hg2 (by simp))
  have HB3 := Lib.hid (HB2.out.trans (hb2.mono (by omega)))
  have hBA : A + 3 ≤ B := by omega
  rw [hB]
  rw [hW2]
  clear hW2 hg2 hb2 hB
  obtain ⟨el, vs, hel, hvs, hsh, hst⟩ := back_stops Fence.wide (10 - 1) trivial rfl (by omega) B (B + 1) a L cap ls hL60 HL.out HV.out w W2 HX.out (by rw [hA]; exact HB3.out) (by rw [hA]; omega) (by omega) (by omega) HBS.out
  have HEL := Lib.hid hel
  have HVS := Lib.hid hvs
  have HSH := Lib.hid hsh
  clear hvs hel hsh
  refine wpIn_rangeFunc_ownH rfl (by omega) (gf := 57) (lb := #[.pointer (some ⟨B, 0, none⟩)]) rfl trivial (enters_of Try.func57 (by kernel_rfl) rfl) hst belowK_t (belowK_b (by omega)) (Below.refl _ _) (fun _ => rfl)
    (fun pre W => (∀ i ∈ pre, ¬ (el i).s.toList = s.toList) ∧ (Boxed W A 9 (.string s) ∧ RB W (A + 1) ∧ Boxed W (A + 1 + 1) 4 (.bool false)) ∧ Below A w W ∧ B + 1 ≤ W.heap.size)
    (fun c pre W => c = .ret ∧ ∃ (ini : List Nat) (j : Nat) (v : Value) (q : Nat), pre = ini ++ [j] ∧ (∀ i ∈ ini, ¬ (el i).s.toList = s.toList) ∧ (el j).s.toList = s.toList ∧
      (W.cell? ⟨A + 1, 0, none⟩ = some (.int .i64 (el j).t.k) ∧ W.cell? ⟨A + 1, 1, none⟩ = some (.int .i64 (el j).t.n) ∧ W.cell? ⟨A + 1, 2, none⟩ = some v ∧ W.cell? ⟨A + 1 + 1, 0, none⟩ = some (.bool true)) ∧
      TyIn W (B + 1) q (el j).t v ∧ q ≤ W.heap.size ∧ Below A w W)
    ?hI ?hIx ⟨fun i hi => absurd hi (List.not_mem_nil), ⟨HN3.out, HR3.out, HO3.out⟩, HB3.out, by omega⟩
    (fun j a' W => ∃ Bx, B + 1 ≤ Bx ∧ KBox W Bx (.string (el j).s) (.int .i64 (el j).t.k) (.int .i64 (el j).t.n) (vs j) ∧
      a' = { tmps := #[.slice a L cap, .string s, undef, .pointer (some ⟨A, 0, none⟩), .pointer (some ⟨A + 1, 0, none⟩), .pointer (some ⟨A + 1 + 1, 0, none⟩), undef, .pointer (some ⟨Bx, 0, none⟩), .slice a L cap, .bool true, .bool false, undef, .slice a L cap, .func (.func 57) #[] #[.pointer (some ⟨B, 0, none⟩)], .int .i64 (j : Int), .agg #[.string (el j).s, .int .i64 (el j).t.k, .int .i64 (el j).t.n, vs j], undef, undef, undef, undef, undef, undef, undef, undef], defers := [] })
    ?hAx ?assign ?body ?done ?stop
  case hI =>
    rintro pre X X' row ⟨h1, ⟨h2, h3, h4⟩, h5, h6⟩ hg hr
    have hr2 := fun q e => (hr q e).2
    have hsz := h5.size
    exact ⟨h1, ⟨boxed_own A 9 (fun _ : Unit => .string s) () X X' row h2 hg hr2, h3.turn hg hr2, boxed_own (A + 1 + 1) 4 (fun _ : Unit => .bool false) () X X' row h4 hg hr2⟩, h5.grown hg (by omega) (fun q e => by have := (hr q e).1; omega), Nat.le_trans h6 hg.size⟩
  case hIx =>
    rintro c pre X X' row ⟨h0, ini, j, v, q, h1, h2, h3, ⟨c0, c1, c2, c3⟩, h4, h5, h6⟩ hg hr
    have hr2 := fun q e => (hr q e).2
    have hsz := h6.size
    exact ⟨h0, ini, j, v, q, h1, h2, h3, ⟨cell_kept c0 hg hr2, cell_kept c1 hg hr2, cell_kept c2 hg hr2, cell_kept c3 hg hr2⟩, h4.turn hg hr2, Nat.le_trans h5 hg.size, h6.grown hg (by omega) (fun q e => by have := (hr q e).1; omega)⟩
  case hAx =>
    rintro j a' _ X X' row ⟨Bx, h1, h2, h3⟩ hg hr
    exact ⟨Bx, h1, h2.turn hg (fun q e => (hr q e).2), h3⟩
  case assign =>
    rintro l pre j X K ⟨h1, ⟨h2, h3, h4⟩, h5, h6⟩ hK
    have hsz := h5.size
    obtain ⟨ti, tc, hti, _⟩ := (HVS.out j).slice
    unfold knV
    rw [hti] at hK ⊢
    have hbx : Below X.heap.size X (X.alloc (.cells #[.string (el j).s, .int .i64 (el j).t.k, .int .i64 (el j).t.n, .slice ti (el j).t.ks.length tc] 34)) := (Below.refl _ _).alloc (Nat.le_refl _) _
    gi_wp2
    exact hK _ _ ((KeepsOthers.alloc _ _).from _) ((Below.refl _ X).alloc h6 _) ⟨h1, ⟨h2.alloc _, h3.kept hbx, h4.alloc _⟩, h5.alloc (by omega) _, by simp; omega⟩ ⟨X.heap.size, h6, kbox_new X _ _ _ _ _, rfl⟩
  case body =>
    rintro l pre j a' X hl _ ⟨h1, ⟨h2, h3, h4⟩, h5, h6⟩ ⟨Bx, hBx, hk, rfl⟩ hlen
    have HAT := Lib.hid ((HVS.out j).kept (h5.mono (by omega)))
    have HSJ := Lib.hid (HSH.out j)
    have H1 := Lib.hid h1
    have H3 := Lib.hid h3
    have H4 := Lib.hid h4
    have H5 := Lib.hid h5
    have h2k := h2
    have hsz := h5.size
    obtain ⟨x, hxx⟩ : ∃ x, el j = x := ⟨_, rfl⟩
    have HXX := Lib.hid hxx
    obtain ⟨vj, hvj⟩ : ∃ v, vs j = v := ⟨_, rfl⟩
    rw [hxx, hvj] at HAT
    rw [hxx] at HSJ
    rw [hxx, hvj] at hk
    rw [hxx, hvj]
    obtain ⟨ti, tc, rfl, _⟩ := HAT.out.slice
    obtain ⟨b0, b1, b2, b3, bz⟩ := hk
    obtain ⟨p0, p1, p2, f0, f1, f2, psz⟩ := h3
    have n0 := h2.cell
    have q0 := h4.cell
    have q1 := h4.frozen
    clear h1 h2 h4 h5 hxx hvj
    by_cases hs : x.s.toList = s.toList
    · have hsb : (x.s.toList == s.toList) = true := by rw [beq_iff_eq]; exact hs
      have HS := Lib.hid hs
      clear hs
      gi_wp2_with (fail)
      refine ⟨trivial, ?_⟩
      gi_at_call 29
      refine (CallsIn.inRound l (callsIn_wide.2 (copyType_any x.t 16 _ X HSJ.out HAT.out))).mono ?_
      rintro e w2 ⟨v2, rfl, hty, hb2⟩
      obtain ⟨a2, k2, rfl, _⟩ := hty.at.slice
      have HTY := Lib.hid hty
      have HB2 := Lib.hid hb2
      have HR4 := Lib.hid (H3.out.kept hb2)
      have HO4 := Lib.hid (H4.out.kept (⟨hb2.os, hb2.tape, hb2.output, hb2.size, fun k hk _ => hb2.block k hk⟩ : X.grownBy w2 none) (by simp))
      have hzz : X.heap.size ≤ w2.heap.size := hb2.size
      clear hty hb2 p0 p1 p2 f0 f1 f2 psz q0 q1
      obtain ⟨p0, p1, p2, f0, f1, f2, psz⟩ := HR4.out
      have q0 := HO4.out.cell
      have q1 := HO4.out.frozen
      gi_wp2_with (fail)
      have hxx := HXX.out
      refine ⟨(KeepsFrom.of_below HB2.out).trans ((((KeepsOthers.setCell _ _ _).trans (KeepsOthers.setCell _ _ _)).trans (KeepsOthers.setCell _ _ _)).trans (KeepsOthers.setCell _ _ _) |>.from _), rfl, pre, j, .slice a2 x.t.ks.length k2, w2.heap.size, rfl, H1.out, by rw [hxx]; exact HS.out, ?_, ?_, by simp, ?_⟩
      · rw [hxx]
        exact ⟨by simp [go_sem, p0, p1, p2, q0], by simp [go_sem, p0, p1, p2, q0], by simp [go_sem, p0, p1, p2, q0], by simp [go_sem, p0, p1, p2, q0]⟩
      · rw [hxx]
        refine (HTY.out.wide (by omega) (Nat.le_refl _)).keep (by simp) (fun b hb _ _ => ?_)
        rw [heap_setCell_other _ ⟨A + 1 + 1, 0, none⟩ b _ (by show b ≠ A + 1 + 1; omega), heap_setCell_other _ ⟨A + 1, 2, none⟩ b _ (by show b ≠ A + 1; omega), heap_setCell_other _ ⟨A + 1, 1, none⟩ b _ (by show b ≠ A + 1; omega), heap_setCell_other _ ⟨A + 1, 0, none⟩ b _ (by show b ≠ A + 1; omega)]
      · exact ((((H5.out.trans (HB2.out.mono (by omega))).setCell (p := ⟨A + 1, 0, none⟩) (by show A ≤ A + 1; omega) _).setCell (p := ⟨A + 1, 1, none⟩) (by show A ≤ A + 1; omega) _).setCell (p := ⟨A + 1, 2, none⟩) (by show A ≤ A + 1; omega) _).setCell (p := ⟨A + 1 + 1, 0, none⟩) (by show A ≤ A + 1 + 1; omega) _
    · have hsb : (x.s.toList == s.toList) = false := by rw [beq_eq_false_iff_ne]; exact hs
      have HS := Lib.hid hs
      clear hs
      gi_wp2_with (fail)
      refine ⟨KeepsFrom.refl _ _, Below.refl _ _, fun i hi => ?_, ⟨h2k, H3.out, H4.out⟩, H5.out, h6⟩
      rcases List.mem_append.1 hi with h | h
      · exact H1.out i h
      · rw [List.mem_singleton.1 h, HXX.out]; exact HS.out
  case done =>
    rintro D ys X hD rfl ⟨h1, ⟨h2, h3, h4⟩, h5, h6⟩ hK
    obtain ⟨p0, p1, p2, f0, f1, f2, psz⟩ := h3
    have q0 := h4.cell
    have q1 := h4.frozen
    gi_wp2_with (fail)
    have hK' := ((((KeepsOthers.setCell X ⟨A + 1, 0, none⟩ (.int .i64 0)).trans (KeepsOthers.setCell _ ⟨A + 1, 1, none⟩ (.int .i64 0))).trans (KeepsOthers.setCell _ ⟨A + 1, 2, none⟩ (.slice none 0 0))).trans (KeepsOthers.setCell _ ⟨A + 1 + 1, 0, none⟩ (.bool false))).same D _ hK rfl
    refine ⟨by simp, .inl ⟨_, _, rfl, run_takeDeferred hK', ?_⟩⟩
    have hbl := (((h5.setCell (p := ⟨A + 1, 0, none⟩) (by show A ≤ A + 1; omega) (.int .i64 0)).setCell (p := ⟨A + 1, 1, none⟩) (by show A ≤ A + 1; omega) (.int .i64 0)).setCell (p := ⟨A + 1, 2, none⟩) (by show A ≤ A + 1; omega) (.slice none 0 0)).setCell (p := ⟨A + 1 + 1, 0, none⟩) (by show A ≤ A + 1 + 1; omega) (.bool false)
    obtain ⟨X2, hX2⟩ : ∃ X2, (((X.setCell ⟨A + 1, 0, none⟩ (.int .i64 0)).setCell ⟨A + 1, 1, none⟩ (.int .i64 0)).setCell ⟨A + 1, 2, none⟩ (.slice none 0 0)).setCell ⟨A + 1 + 1, 0, none⟩ (.bool false) = X2 := ⟨_, rfl⟩
    have c0 : X2.cell? ⟨A + 1, 0, none⟩ = some (.int .i64 0) := by rw [← hX2]; simp [go_sem, p0, p1, p2, q0]
    have c1 : X2.cell? ⟨A + 1, 1, none⟩ = some (.int .i64 0) := by rw [← hX2]; simp [go_sem, p0, p1, p2, q0]
    have c2 : X2.cell? ⟨A + 1, 2, none⟩ = some (.slice none 0 0) := by rw [← hX2]; simp [go_sem, p0, p1, p2, q0]
    have c3 : X2.cell? ⟨A + 1 + 1, 0, none⟩ = some (.bool false) := by rw [← hX2]; simp [go_sem, p0, p1, p2, q0]
    rw [hX2] at hK' hbl ⊢
    have hgp := grownBy_putObj' X2 D (.deferred none)
    have hrp : ∀ r, some D = some r → ∃ o : Obj, X2.heap[r]? = some o ∧ o.isCells = false := fun r e => by cases e; exact ⟨_, hK', rfl⟩
    have d0 := cell_kept c0 hgp hrp
    have d1 := cell_kept c1 hgp hrp
    have d2 := cell_kept c2 hgp hrp
    have d3 := cell_kept c3 hgp hrp
    have HR : r = none := by
      rw [← HLK.out, lk_skip L (Nat.le_refl _) (fun i hi => by rw [HEL.out i (downN_lt (Nat.le_refl _) hi)]; exact h1 i hi), Nat.sub_self]
      rfl
    subst HR
    refine ⟨.tuple #[.agg #[.int .i64 0, .int .i64 0, .slice none 0 0], .bool false], by simp [results, Try.results7, Try.f7, go_sem, d0, d1, d2, d3], rfl, ?_⟩
    rw [HAA.out]
    exact hbl.grown hgp (by have := hbl.size; omega) (fun q e => by cases e; omega)
  case stop =>
    rintro D c pre X hD ⟨k, hk, rfl⟩ ⟨rfl, ini, j, v, q, e1, h1, hs, ⟨c0, c1, c2, c3⟩, hty, hq, hbel⟩ hK
    gi_wp2_with (fail)
    refine ⟨by simp, .inl ⟨_, _, rfl, run_takeDeferred hK, ?_⟩⟩
    have hgp := grownBy_putObj' X D (.deferred none)
    have hrp : ∀ r, some D = some r → ∃ o : Obj, X.heap[r]? = some o ∧ o.isCells = false := fun r e => by cases e; exact ⟨_, hK, rfl⟩
    have d0 := cell_kept c0 hgp hrp
    have d1 := cell_kept c1 hgp hrp
    have d2 := cell_kept c2 hgp hrp
    have d3 := cell_kept c3 hgp hrp
    have hsz := hbel.size
    have hmem : ∀ i, i ∈ ini ++ [j] → i < L := fun i hi => downN_lt hk (by rw [e1]; exact hi)
    have hjl := hmem j (List.mem_append.2 (.inr (List.mem_singleton.2 rfl)))
    obtain ⟨hl1, _⟩ := lk_hit (ls := ls) (s := s) hk e1 (fun i hi => by rw [HEL.out i (hmem i (List.mem_append.2 (.inl hi)))]; exact h1 i hi) (by rw [HEL.out j hjl]; exact hs)
    have HR : r = some (el j).t := by rw [← HLK.out, hl1, HEL.out j hjl]
    subst HR
    refine ⟨.tuple #[.agg #[.int .i64 (el j).t.k, .int .i64 (el j).t.n, v], .bool true], by simp [results, Try.results7, Try.f7, go_sem, d0, d1, d2, d3], v, rfl, ((hty.turn hgp hrp).wide (by omega) (by have := hgp.size; omega)), ?_⟩
    rw [HAA.out]
    exact hbel.grown hgp (by omega) (fun q e => by cases e; omega)
end Go.Proofs.Ytlgbkhkmfgdehaa

