/-
  Types in memory: trees of nodes, the operands of a node in a row of three cells each. Plain facts.
-/
import Derived.Test.YtndpoejohpmifaaTa
namespace Go.Proofs.Ytndpoejohpmifaa
open Go.RowKit

/-- A type: kind, number, operands. -/
inductive Ty where
  | node (k n : Int) (ks : List Ty)
def Ty.k : Ty → Int | .node k _ _ => k
def Ty.n : Ty → Int | .node _ n _ => n
def Ty.ks : Ty → List Ty | .node _ _ ks => ks
def Ty.dummy : Ty := .node 0 0 []
/-- The type's operands lie in memory behind the value v of its third field. -/
inductive TyAt (w : World) : Ty → Value → Prop where
  | bare (k n : Int) (a : Option Addr) (cap : Nat) : TyAt w (.node k n []) (.slice a 0 cap)
  | row (k n : Int) (ks : List Ty) (b o cap : Nat) (vs : Nat → Value) (hb : b < w.heap.size) (hl : ks.length ≤ 9223372036854775807)
      (h0 : ∀ i, i < ks.length → w.cell? ⟨b, o + i * 3, none⟩ = some (.int .i64 (ks.getD i Ty.dummy).k))
      (h1 : ∀ i, i < ks.length → w.cell? ⟨b, o + i * 3 + 1, none⟩ = some (.int .i64 (ks.getD i Ty.dummy).n))
      (h2 : ∀ i, i < ks.length → w.cell? ⟨b, o + i * 3 + 2, none⟩ = some (vs i))
      (h3 : ∀ i, i < ks.length → TyAt w (ks.getD i Ty.dummy) (vs i)) : TyAt w (.node k n ks) (.slice (some ⟨b, o, none⟩) ks.length cap)
theorem TyAt.kept {w w' : World} {t : Ty} {v : Value} (h : TyAt w t v) (hb : Below w.heap.size w w') : TyAt w' t v := by
  induction h with
  | bare k n a cap => exact .bare k n a cap
  | row k n ks b o cap vs hbl hl h0 h1 h2 _ ih =>
    refine .row k n ks b o cap vs (Nat.lt_of_lt_of_le hbl hb.size) hl ?_ ?_ ?_ ih
    · intro i hi; rw [hb.cell (p := ⟨b, o + i * 3, none⟩) hbl]; exact h0 i hi
    · intro i hi; rw [hb.cell (p := ⟨b, o + i * 3 + 1, none⟩) hbl]; exact h1 i hi
    · intro i hi; rw [hb.cell (p := ⟨b, o + i * 3 + 2, none⟩) hbl]; exact h2 i hi
theorem Ty.kid_lt (t : Ty) (i : Nat) (hi : i < t.ks.length) : SizeOf.sizeOf (t.ks.getD i Ty.dummy) < SizeOf.sizeOf t := by
  cases t with
  | node k n ks =>
    show SizeOf.sizeOf (ks.getD i Ty.dummy) < _
    have hi' : i < ks.length := hi
    have e : ks.getD i Ty.dummy = ks[i] := by simp [List.getD, hi']
    rw [e]
    have := List.sizeOf_lt_of_mem (List.getElem_mem hi')
    simp
    omega
open Classical in
/-- Whether two types are the same. -/
noncomputable def sameB (x y : Ty) : Bool := decide (x = y)
open Classical in
theorem sameB_no {x y : Ty} (h : x ≠ y) : sameB x y = false := by unfold sameB; exact decide_eq_false h
open Classical in
theorem sameB_yes {x y : Ty} (h : x = y) : sameB x y = true := by unfold sameB; exact decide_eq_true h
theorem same_all {x y : Ty} (hk : x.k = y.k) (hn : x.n = y.n) (hl : x.ks.length = y.ks.length) (h : ∀ i, i < x.ks.length → x.ks.getD i Ty.dummy = y.ks.getD i Ty.dummy) : x = y := by
  cases x with
  | node k n ks =>
    cases y with
    | node k' n' ks' =>
      simp only [Ty.k, Ty.n, Ty.ks] at *
      subst hk; subst hn
      congr
      apply List.ext_getElem hl
      intro i h1 h2
      have := h i h1
      simpa [List.getD, h1, h2] using this
theorem same_not {x y : Ty} {i : Nat} (h : x.ks.getD i Ty.dummy ≠ y.ks.getD i Ty.dummy) : x ≠ y := fun e => h (by rw [e])
/-- One operand, as the walk reads it. -/
theorem TyAt.kid {w : World} {t : Ty} {v : Value} (h : TyAt w t v) (i : Nat) (hi : i < t.ks.length) : ∃ b o cap vi, v = .slice (some ⟨b, o, none⟩) t.ks.length cap ∧ b < w.heap.size ∧
    w.cell? ⟨b, o + i * 3, none⟩ = some (.int .i64 (t.ks.getD i Ty.dummy).k) ∧ w.cell? ⟨b, o + i * 3 + 1, none⟩ = some (.int .i64 (t.ks.getD i Ty.dummy).n) ∧ w.cell? ⟨b, o + i * 3 + 2, none⟩ = some vi ∧ TyAt w (t.ks.getD i Ty.dummy) vi := by
  cases h with
  | bare k n a cap => exact absurd hi (Nat.not_lt_zero _)
  | row k n ks b o cap vs hb hl h0 h1 h2 h3 => exact ⟨b, o, cap, vs i, rfl, hb, h0 i hi, h1 i hi, h2 i hi, h3 i hi⟩
theorem TyAt.slice {w : World} {t : Ty} {v : Value} (h : TyAt w t v) : ∃ a cap, v = .slice a t.ks.length cap ∧ t.ks.length ≤ 9223372036854775807 := by
  cases h with
  | bare k n a cap => exact ⟨a, cap, rfl, Nat.zero_le _⟩
  | row k n ks b o cap vs hb hl h0 h1 h2 h3 => exact ⟨_, cap, rfl, hl⟩

end Go.Proofs.Ytndpoejohpmifaa
