/-
  Files in memory: a list of them in a row of two cells each; an argument that is such a list.
-/
import Derived.Test.YtpihopmgckdigaaDoorProg
import Derived.ProofKit
import Derived.OpenShut
import Derived.Below
import Derived.Deep.Slices
namespace Go.Proofs.YtpihopmgckdigaaDoor
open Go.RowKit
set_option linter.unusedVariables false
set_option linter.unusedSimpArgs false

/-- A file. -/
structure Fl where
  n : ByteArray
  t : ByteArray
def Fl.dummy : Fl := ⟨⟨#[]⟩, ⟨#[]⟩⟩
instance : Inhabited Fl := ⟨Fl.dummy⟩
/-- The two cells of an element. -/
structure FFd (w : World) (b o : Nat) (x : Fl) : Prop where
  c0 : w.cell? ⟨b, o, none⟩ = some (.string x.n)
  c1 : w.cell? ⟨b, o + 1, none⟩ = some (.string x.t)
theorem FFd.kept {w w' : World} {b o : Nat} {x : Fl} (h : FFd w b o x) (hl : b < w.heap.size) (hb : Below w.heap.size w w') : FFd w' b o x :=
  ⟨(hb.cell (p := ⟨b, o, none⟩) hl).trans h.c0, (hb.cell (p := ⟨b, o + 1, none⟩) hl).trans h.c1⟩
/-- The list lies in memory behind a value. -/
inductive FsAt (w : World) : List Fl → Value → Prop where
  | bare (a : Option Addr) (cap : Nat) : FsAt w [] (.slice a 0 cap)
  | row (ls : List Fl) (b o cap : Nat) (hb : b < w.heap.size) (hl : ls.length ≤ 9223372036854775807)
      (h0 : ∀ i, i < ls.length → FFd w b (o + i * 2) (ls.getD i Fl.dummy)) : FsAt w ls (.slice (some ⟨b, o, none⟩) ls.length cap)
theorem FsAt.kept {w w' : World} {ls : List Fl} {v : Value} (h : FsAt w ls v) (hb : Below w.heap.size w w') : FsAt w' ls v := by
  cases h with
  | bare a cap => exact .bare a cap
  | row ls b o cap hbl hl h0 => exact .row ls b o cap (Nat.lt_of_lt_of_le hbl hb.size) hl (fun i hi => (h0 i hi).kept hbl hb)
theorem FsAt.kid {w : World} {ls : List Fl} {v : Value} (h : FsAt w ls v) (i : Nat) (hi : i < ls.length) : ∃ b o cap, v = .slice (some ⟨b, o, none⟩) ls.length cap ∧ b < w.heap.size ∧ FFd w b (o + i * 2) (ls.getD i Fl.dummy) := by
  cases h with
  | bare a cap => exact absurd hi (Nat.not_lt_zero _)
  | row ls b o cap hb hl h0 => exact ⟨b, o, cap, rfl, hb, h0 i hi⟩
theorem FsAt.slice {w : World} {ls : List Fl} {v : Value} (h : FsAt w ls v) : ∃ a cap, v = .slice a ls.length cap ∧ ls.length ≤ 9223372036854775807 := by
  cases h with
  | bare a cap => exact ⟨a, cap, rfl, Nat.zero_le _⟩
  | row ls b o cap hb hl h0 => exact ⟨_, cap, rfl, hl⟩
theorem cellsFlStr : Tryd.prog.cellsOf 9 = 1 := by kernel_rfl
theorem addr_add2 (b o k j : Nat) : ((⟨b, o, none⟩ : Addr).add k).add j = ⟨b, o + k + j, none⟩ := by
  unfold Addr.add
  by_cases h1 : k = 0 <;> by_cases h2 : j = 0 <;> simp [h1, h2, Nat.add_assoc]
/-- Each name and each text is short enough for a text of the model. -/
def FlSz (ls : List Fl) : Prop := ∀ i, i < ls.length → (ls.getD i Fl.dummy).n.size ≤ maxLen ∧ (ls.getD i Fl.dummy).t.size ≤ maxLen
end Go.Proofs.YtpihopmgckdigaaDoor
