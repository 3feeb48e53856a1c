/-
  Names with types in memory: a list of them in a row of four cells each; the argument, and its size.
-/
import Derived.Test.YtlgbkhkmfgdehaaZh
namespace Go.Proofs.Ytlgbkhkmfgdehaa
open Go.RowKit
set_option linter.unusedVariables false
set_option linter.unusedSimpArgs false

/-- A name with its type. -/
structure Kn where
  s : ByteArray
  t : Ty
def Kn.dummy : Kn := ⟨⟨#[]⟩, Ty.dummy⟩
instance : Inhabited Kn := ⟨Kn.dummy⟩
/-- The four cells of an element. -/
structure KFd (w : World) (b o : Nat) (x : Kn) (v : Value) : Prop where
  c0 : w.cell? ⟨b, o, none⟩ = some (.string x.s)
  c1 : w.cell? ⟨b, o + 1, none⟩ = some (.int .i64 x.t.k)
  c2 : w.cell? ⟨b, o + 2, none⟩ = some (.int .i64 x.t.n)
  c3 : w.cell? ⟨b, o + 3, none⟩ = some v
theorem KFd.keep {w w' : World} {b o : Nat} {x : Kn} {v : Value} (h : KFd w b o x v) (e : w'.heap[b]? = w.heap[b]?) : KFd w' b o x v :=
  ⟨(cellEq e).trans h.c0, (cellEq e).trans h.c1, (cellEq e).trans h.c2, (cellEq e).trans h.c3⟩
/-- The list lies in memory behind a value. -/
inductive KnAt (w : World) : List Kn → Value → Prop where
  | bare (a : Option Addr) (cap : Nat) : KnAt w [] (.slice a 0 cap)
  | row (ls : List Kn) (b o cap : Nat) (vs : Nat → Value) (hb : b < w.heap.size) (hl : ls.length ≤ 9223372036854775807)
      (h0 : ∀ i, i < ls.length → KFd w b (o + i * 4) (ls.getD i Kn.dummy) (vs i))
      (h3 : ∀ i, i < ls.length → TyAt w (ls.getD i Kn.dummy).t (vs i)) : KnAt w ls (.slice (some ⟨b, o, none⟩) ls.length cap)
theorem KnAt.kept {w w' : World} {ls : List Kn} {v : Value} (h : KnAt w ls v) (hb : Below w.heap.size w w') : KnAt w' ls v := by
  cases h with
  | bare a cap => exact .bare a cap
  | row ls b o cap vs hbl hl h0 h3 =>
    exact .row ls b o cap vs (Nat.lt_of_lt_of_le hbl hb.size) hl (fun i hi => (h0 i hi).keep (hb.block b hbl)) (fun i hi => (h3 i hi).kept hb)
theorem KnAt.kid {w : World} {ls : List Kn} {v : Value} (h : KnAt w ls v) (i : Nat) (hi : i < ls.length) : ∃ b o cap vi, v = .slice (some ⟨b, o, none⟩) ls.length cap ∧ b < w.heap.size ∧ KFd w b (o + i * 4) (ls.getD i Kn.dummy) vi ∧ TyAt w (ls.getD i Kn.dummy).t vi := by
  cases h with
  | bare a cap => exact absurd hi (Nat.not_lt_zero _)
  | row ls b o cap vs hb hl h0 h3 => exact ⟨b, o, cap, vs i, rfl, hb, h0 i hi, h3 i hi⟩
theorem KnAt.slice {w : World} {ls : List Kn} {v : Value} (h : KnAt w ls v) : ∃ a cap, v = .slice a ls.length cap ∧ ls.length ≤ 9223372036854775807 := by
  cases h with
  | bare a cap => exact ⟨a, cap, rfl, Nat.zero_le _⟩
  | row ls b o cap vs hb hl h0 h3 => exact ⟨_, cap, rfl, hl⟩
theorem cellsKnStr : Try.prog.cellsOf 9 = 1 := by kernel_rfl
/-- How much a size takes off for each element. -/
def KnCnt (ls : List Kn) (cf : Nat → Nat) : Prop := ∀ i, i < ls.length → (ls.getD i Kn.dummy).s.size ≤ maxLen ∧ ∃ ct, Cnt (ls.getD i Kn.dummy).t ct ∧ cf i = (ls.getD i Kn.dummy).s.size + ct
theorem kn_cnt {ls : List Kn} (h : ∀ i, i < ls.length → (ls.getD i Kn.dummy).s.size ≤ maxLen) : ∃ cf, KnCnt ls cf := by
  obtain ⟨cf, hcf⟩ := Go.Deep.choose_lt (n := ls.length) (p := fun i c => Cnt (ls.getD i Kn.dummy).t c) (fun i hi => cnt_total _ _ (Nat.lt_succ_self _))
  exact ⟨fun i => (ls.getD i Kn.dummy).s.size + cf i, fun i hi => ⟨h i hi, cf i, hcf i hi, rfl⟩⟩
theorem KnCnt.ty {ls : List Kn} {cf : Nat → Nat} (h : KnCnt ls cf) (hc : ls.length + ((List.range ls.length).map cf).sum ≤ 1048576) {i : Nat} (hi : i < ls.length) : ∃ ct, Cnt (ls.getD i Kn.dummy).t ct ∧ ct ≤ 1048576 := by
  obtain ⟨_, ct, h1, h2⟩ := h i hi
  refine ⟨ct, h1, ?_⟩
  have h3 := sum_mono cf (show i + 1 ≤ ls.length from hi)
  rw [sum_succ] at h3
  omega

structure KBox (w : World) (B : Nat) (v0 v1 v2 v3 : Value) : Prop where
  c0 : w.cell? ⟨B, 0, none⟩ = some v0
  c1 : w.cell? ⟨B, 1, none⟩ = some v1
  c2 : w.cell? ⟨B, 2, none⟩ = some v2
  c3 : w.cell? ⟨B, 3, none⟩ = some v3
  sz : B < w.heap.size
theorem KBox.aside {w w' : World} {B : Nat} {v0 v1 v2 v3 : Value} (h : KBox w B v0 v1 v2 v3) (hs : w.heap.size ≤ w'.heap.size) (e : w'.heap[B]? = w.heap[B]?) : KBox w' B v0 v1 v2 v3 :=
  ⟨(cellEq e).trans h.c0, (cellEq e).trans h.c1, (cellEq e).trans h.c2, (cellEq e).trans h.c3, Nat.lt_of_lt_of_le h.sz hs⟩
theorem KBox.kept {w w' : World} {B : Nat} {v0 v1 v2 v3 : Value} (h : KBox w B v0 v1 v2 v3) (hb : Below w.heap.size w w') : KBox w' B v0 v1 v2 v3 := h.aside hb.size (hb.block B h.sz)
theorem kbox_new (w : World) (v0 v1 v2 v3 : Value) (T : TypeId) : KBox (w.alloc (.cells #[v0, v1, v2, v3] T)) w.heap.size v0 v1 v2 v3 :=
  ⟨by go_simp, by go_simp, by go_simp, by go_simp, by simp⟩

end Go.Proofs.Ytlgbkhkmfgdehaa
