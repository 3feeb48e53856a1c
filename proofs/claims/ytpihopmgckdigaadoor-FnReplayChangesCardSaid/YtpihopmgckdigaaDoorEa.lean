/-
  Expressions in memory: trees of nodes, the operands of a node in a row of five cells each. Plain facts.
-/
import Derived.Test.YtpihopmgckdigaaDoorZb
namespace Go.Proofs.YtpihopmgckdigaaDoor
open Go.RowKit
set_option linter.unusedVariables false

/-- An expression: kind, number, file, name, operands. -/
inductive Ex where
  | node (k n : Int) (m s : ByteArray) (ks : List Ex)
def Ex.k : Ex → Int | .node k _ _ _ _ => k
def Ex.n : Ex → Int | .node _ n _ _ _ => n
def Ex.m : Ex → ByteArray | .node _ _ m _ _ => m
def Ex.s : Ex → ByteArray | .node _ _ _ s _ => s
def Ex.ks : Ex → List Ex | .node _ _ _ _ ks => ks
def Ex.dummy : Ex := .node 0 0 ⟨#[]⟩ ⟨#[]⟩ []
/-- The four cells of an expression's node besides its operands, at an address. -/
structure Fd (w : World) (b o : Nat) (x : Ex) (v : Value) : Prop where
  c0 : w.cell? ⟨b, o, none⟩ = some (.int .i64 x.k)
  c1 : w.cell? ⟨b, o + 1, none⟩ = some (.int .i64 x.n)
  c2 : w.cell? ⟨b, o + 2, none⟩ = some (.string x.m)
  c3 : w.cell? ⟨b, o + 3, none⟩ = some (.string x.s)
  c4 : w.cell? ⟨b, o + 4, none⟩ = some v
theorem Fd.keep {w w' : World} {b o : Nat} {x : Ex} {v : Value} (h : Fd w b o x v) (e : w'.heap[b]? = w.heap[b]?) : Fd w' b o x v :=
  ⟨(cellEq e).trans h.c0, (cellEq e).trans h.c1, (cellEq e).trans h.c2, (cellEq e).trans h.c3, (cellEq e).trans h.c4⟩
/-- The expression's operands lie in memory behind the value v of its last field. -/
inductive ExAt (w : World) : Ex → Value → Prop where
  | bare (k n : Int) (m s : ByteArray) (a : Option Addr) (cap : Nat) : ExAt w (.node k n m s []) (.slice a 0 cap)
  | row (k n : Int) (m s : ByteArray) (ks : List Ex) (b o cap : Nat) (vs : Nat → Value) (hb : b < w.heap.size) (hl : ks.length ≤ 9223372036854775807)
      (h0 : ∀ i, i < ks.length → Fd w b (o + i * 5) (ks.getD i Ex.dummy) (vs i))
      (h3 : ∀ i, i < ks.length → ExAt w (ks.getD i Ex.dummy) (vs i)) : ExAt w (.node k n m s ks) (.slice (some ⟨b, o, none⟩) ks.length cap)
theorem ExAt.kept {w w' : World} {t : Ex} {v : Value} (h : ExAt w t v) (hb : Below w.heap.size w w') : ExAt w' t v := by
  induction h with
  | bare k n m s a cap => exact .bare k n m s a cap
  | row k n m s ks b o cap vs hbl hl h0 _ ih =>
    exact .row k n m s ks b o cap vs (Nat.lt_of_lt_of_le hbl hb.size) hl (fun i hi => (h0 i hi).keep (hb.block b hbl)) ih
theorem Ex.kid_lt (t : Ex) (i : Nat) (hi : i < t.ks.length) : SizeOf.sizeOf (t.ks.getD i Ex.dummy) < SizeOf.sizeOf t := by
  cases t with
  | node k n m s ks =>
    show SizeOf.sizeOf (ks.getD i Ex.dummy) < _
    have hi' : i < ks.length := hi
    have e : ks.getD i Ex.dummy = ks[i] := by simp [List.getD, hi']
    rw [e]
    have := List.sizeOf_lt_of_mem (List.getElem_mem hi')
    simp
    omega
open Classical in
/-- Whether two expressions are the same. -/
noncomputable def sameX (x y : Ex) : Bool := decide (x = y)
open Classical in
theorem sameX_no {x y : Ex} (h : x ≠ y) : sameX x y = false := by unfold sameX; exact decide_eq_false h
open Classical in
theorem sameX_yes {x y : Ex} (h : x = y) : sameX x y = true := by unfold sameX; exact decide_eq_true h
theorem samex_all {x y : Ex} (hk : x.k = y.k) (hn : x.n = y.n) (hm : x.m = y.m) (hs : x.s = y.s) (hl : x.ks.length = y.ks.length) (h : ∀ i, i < x.ks.length → x.ks.getD i Ex.dummy = y.ks.getD i Ex.dummy) : x = y := by
  cases x with
  | node k n m s ks =>
    cases y with
    | node k' n' m' s' ks' =>
      simp only [Ex.k, Ex.n, Ex.m, Ex.s, Ex.ks] at *
      subst hk; subst hn; subst hm; subst hs
      congr
      apply List.ext_getElem hl
      intro i h1 h2
      have := h i h1
      simpa [List.getD, h1, h2] using this
theorem samex_not {x y : Ex} {i : Nat} (h : x.ks.getD i Ex.dummy ≠ y.ks.getD i Ex.dummy) : x ≠ y := fun e => h (by rw [e])
/-- One operand, as the walk reads it. -/
theorem ExAt.kid {w : World} {t : Ex} {v : Value} (h : ExAt w t v) (i : Nat) (hi : i < t.ks.length) : ∃ b o cap vi, v = .slice (some ⟨b, o, none⟩) t.ks.length cap ∧ b < w.heap.size ∧ Fd w b (o + i * 5) (t.ks.getD i Ex.dummy) vi ∧ ExAt w (t.ks.getD i Ex.dummy) vi := by
  cases h with
  | bare k n m s a cap => exact absurd hi (Nat.not_lt_zero _)
  | row k n m s ks b o cap vs hb hl h0 h3 => exact ⟨b, o, cap, vs i, rfl, hb, h0 i hi, h3 i hi⟩
theorem ExAt.slice {w : World} {t : Ex} {v : Value} (h : ExAt w t v) : ∃ a cap, v = .slice a t.ks.length cap ∧ t.ks.length ≤ 9223372036854775807 := by
  cases h with
  | bare k n m s a cap => exact ⟨a, cap, rfl, Nat.zero_le _⟩
  | row k n m s ks b o cap vs hb hl h0 h3 => exact ⟨_, cap, rfl, hl⟩
/-- The expression lies in plain blocks. -/
inductive ExOk (w : World) : Ex → Value → Prop where
  | bare (k n : Int) (m s : ByteArray) (a : Option Addr) (cap : Nat) : ExOk w (.node k n m s []) (.slice a 0 cap)
  | row (k n : Int) (m s : ByteArray) (ks : List Ex) (b o cap : Nat) (vs : Nat → Value) (hr : Row w b) (hl : ks.length ≤ 9223372036854775807)
      (h0 : ∀ i, i < ks.length → Fd w b (o + i * 5) (ks.getD i Ex.dummy) (vs i))
      (h3 : ∀ i, i < ks.length → ExOk w (ks.getD i Ex.dummy) (vs i)) : ExOk w (.node k n m s ks) (.slice (some ⟨b, o, none⟩) ks.length cap)
theorem ExOk.at {w : World} {t : Ex} {v : Value} (h : ExOk w t v) : ExAt w t v := by
  induction h with
  | bare k n m s a cap => exact .bare k n m s a cap
  | row k n m s ks b o cap vs hr hl h0 _ ih => exact .row k n m s ks b o cap vs hr.lt hl h0 ih
theorem ExOk.kept {w w' : World} {t : Ex} {v : Value} (h : ExOk w t v) (hb : Below w.heap.size w w') : ExOk w' t v := by
  induction h with
  | bare k n m s a cap => exact .bare k n m s a cap
  | row k n m s ks b o cap vs hr hl h0 _ ih =>
    exact .row k n m s ks b o cap vs (hr.keep hb.size (hb.block b hr.lt)) hl (fun i hi => (h0 i hi).keep (hb.block b hr.lt)) ih
/-- The expression's rows lie in blocks from lo to hi, each in a block of its own, and may be written. -/
inductive ExIn (w : World) : Nat → Nat → Ex → Value → Prop where
  | bare (lo hi : Nat) (k n : Int) (m s : ByteArray) (a : Option Addr) (cap : Nat) : ExIn w lo hi (.node k n m s []) (.slice a 0 cap)
  | row (lo hi : Nat) (k n : Int) (m s : ByteArray) (ks : List Ex) (b cap : Nat) (vs : Nat → Value) (l h : Nat → Nat) (hb1 : lo ≤ b) (hb2 : b < hi) (hw : Row w b) (hl : ks.length ≤ 9223372036854775807)
      (h0 : ∀ i, i < ks.length → Fd w b (i * 5) (ks.getD i Ex.dummy) (vs i))
      (hf : ∀ i, i < ks.length * 5 → w.frozen? ⟨b, i, none⟩ = false)
      (hin : ∀ i, i < ks.length → lo ≤ l i ∧ h i ≤ hi ∧ (b < l i ∨ h i ≤ b))
      (hd : ∀ i j, i < j → j < ks.length → h i ≤ l j)
      (h3 : ∀ i, i < ks.length → ExIn w (l i) (h i) (ks.getD i Ex.dummy) (vs i)) : ExIn w lo hi (.node k n m s ks) (.slice (some ⟨b, 0, none⟩) ks.length cap)
theorem ExIn.ok {w : World} {lo hi : Nat} {t : Ex} {v : Value} (h : ExIn w lo hi t v) : ExOk w t v := by
  induction h with
  | bare lo hi k n m s a cap => exact .bare k n m s a cap
  | row lo hi k n m s ks b cap vs l h hb1 hb2 hw hl h0 hf hin hd _ ih =>
    exact .row k n m s ks b 0 cap vs hw hl (fun i hi => by rw [Nat.zero_add]; exact h0 i hi) ih
theorem ExIn.at {w : World} {lo hi : Nat} {t : Ex} {v : Value} (h : ExIn w lo hi t v) : ExAt w t v := h.ok.at
theorem ExIn.keep {w w' : World} {lo hi : Nat} {t : Ex} {v : Value} (h : ExIn w lo hi t v) (hs : w.heap.size ≤ w'.heap.size) (hk : ∀ b, lo ≤ b → b < hi → b < w.heap.size → w'.heap[b]? = w.heap[b]?) : ExIn w' lo hi t v := by
  induction h with
  | bare lo hi k n m s a cap => exact .bare lo hi k n m s a cap
  | row lo hi k n m s ks b cap vs l h hb1 hb2 hw hl h0 hf hin hd _ ih =>
    have e := hk b hb1 hb2 hw.lt
    refine .row lo hi k n m s ks b cap vs l h hb1 hb2 (hw.keep hs e) hl (fun i hi => (h0 i hi).keep e) (fun i hi => (frozenEq e).trans (hf i hi)) hin hd ?_
    intro i hi
    obtain ⟨a1, a2, _⟩ := hin i hi
    exact ih i hi (fun b h1 h2 h3 => hk b (by omega) (by omega) h3)
theorem ExIn.kept {w w' : World} {lo hi : Nat} {t : Ex} {v : Value} (h : ExIn w lo hi t v) (hb : Below w.heap.size w w') : ExIn w' lo hi t v :=
  h.keep hb.size (fun b _ _ h3 => hb.block b h3)
theorem ExIn.wide {w : World} {lo hi lo' hi' : Nat} {t : Ex} {v : Value} (h : ExIn w lo hi t v) (h1 : lo' ≤ lo) (h2 : hi ≤ hi') : ExIn w lo' hi' t v := by
  cases h with
  | bare lo hi k n m s a cap => exact .bare lo' hi' k n m s a cap
  | row lo hi k n m s ks b cap vs l h hb1 hb2 hw hl g0 hf hin hd h3 =>
    refine .row lo' hi' k n m s ks b cap vs l h (by omega) (by omega) hw hl g0 hf (fun i hi => ?_) hd h3
    obtain ⟨a1, a2, a3⟩ := hin i hi
    exact ⟨by omega, by omega, a3⟩

end Go.Proofs.YtpihopmgckdigaaDoor
