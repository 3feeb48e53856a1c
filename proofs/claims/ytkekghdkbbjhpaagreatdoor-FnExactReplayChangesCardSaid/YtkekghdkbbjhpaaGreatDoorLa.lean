/-
  Files in memory: a list of them in a row of two cells each; an argument that is such a list.
-/
import Derived.Test.YtkekghdkbbjhpaaGreatDoorProg
import Derived.ProofKit
import Derived.OpenShut
import Derived.Below
import Derived.Deep.Slices
namespace Go.Proofs.YtkekghdkbbjhpaaGreatDoor
open Go.RowKit
set_option linter.unusedVariables false
set_option linter.unusedSimpArgs false

/-- A file. -/
structure Fl where
  n : ByteArray
  t : ByteArray
def Fl.dummy : Fl := ⟨⟨#[]⟩, ⟨#[]⟩⟩
instance : Inhabited Fl := ⟨Fl.dummy⟩
/-- The two cells of an element. -/
structure FFd (w : World) (b o : Nat) (x : Fl) : Prop where
  c0 : w.cell? ⟨b, o, none⟩ = some (.string x.n)
  c1 : w.cell? ⟨b, o + 1, none⟩ = some (.string x.t)
theorem FFd.kept {w w' : World} {b o : Nat} {x : Fl} (h : FFd w b o x) (hl : b < w.heap.size) (hb : Below w.heap.size w w') : FFd w' b o x :=
  ⟨(hb.cell (p := ⟨b, o, none⟩) hl).trans h.c0, (hb.cell (p := ⟨b, o + 1, none⟩) hl).trans h.c1⟩
/-- The list lies in memory behind a value. -/
inductive FsAt (w : World) : List Fl → Value → Prop where
  | bare (a : Option Addr) (cap : Nat) : FsAt w [] (.slice a 0 cap)
  | row (ls : List Fl) (b o cap : Nat) (hb : b < w.heap.size) (hl : ls.length ≤ 9223372036854775807)
      (h0 : ∀ i, i < ls.length → FFd w b (o + i * 2) (ls.getD i Fl.dummy)) : FsAt w ls (.slice (some ⟨b, o, none⟩) ls.length cap)
theorem FsAt.kept {w w' : World} {ls : List Fl} {v : Value} (h : FsAt w ls v) (hb : Below w.heap.size w w') : FsAt w' ls v := by
  cases h with
  | bare a cap => exact .bare a cap
  | row ls b o cap hbl hl h0 => exact .row ls b o cap (Nat.lt_of_lt_of_le hbl hb.size) hl (fun i hi => (h0 i hi).kept hbl hb)
theorem FsAt.kid {w : World} {ls : List Fl} {v : Value} (h : FsAt w ls v) (i : Nat) (hi : i < ls.length) : ∃ b o cap, v = .slice (some ⟨b, o, none⟩) ls.length cap ∧ b < w.heap.size ∧ FFd w b (o + i * 2) (ls.getD i Fl.dummy) := by
  cases h with
  | bare a cap => exact absurd hi (Nat.not_lt_zero _)
  | row ls b o cap hb hl h0 => exact ⟨b, o, cap, rfl, hb, h0 i hi⟩
theorem FsAt.slice {w : World} {ls : List Fl} {v : Value} (h : FsAt w ls v) : ∃ a cap, v = .slice a ls.length cap ∧ ls.length ≤ 9223372036854775807 := by
  cases h with
  | bare a cap => exact ⟨a, cap, rfl, Nat.zero_le _⟩
  | row ls b o cap hb hl h0 => exact ⟨_, cap, rfl, hl⟩
theorem cellsFl : Tryz.prog.cellsOf 81 = 2 := by kernel_rfl
theorem cellsFlStr : Tryz.prog.cellsOf 9 = 1 := by kernel_rfl
theorem addr_add2 (b o k j : Nat) : ((⟨b, o, none⟩ : Addr).add k).add j = ⟨b, o + k + j, none⟩ := by
  unfold Addr.add
  by_cases h1 : k = 0 <;> by_cases h2 : j = 0 <;> simp [h1, h2, Nat.add_assoc]
set_option maxRecDepth 100000 in
/-- The cells of one element that was read. -/
theorem fl_of_trod {H : Type} {enc : TypeId × Value → H} {w : World} {base : Nat} {spare : Nat → Bool} {held : Bool}
    (fuel : Nat) (cs : List Value) (x : DataW H × List MemPlace) (h : DataW.trod enc Tryz.prog w base spare held fuel 81 cs = some x) :
      ∃ (l : Fl), cs = [.string l.n, .string l.t] ∧ l.n.size ≤ maxLen ∧ l.t.size ≤ maxLen := by
  obtain ⟨xs, n, hfn, rfl, hl, hlen, hf⟩ := DataW.trod_struct Tryz.underlying81 h
  rw [cellsFl] at hl
  obtain ⟨c0, c1, rfl⟩ : ∃ c0 c1, cs = [c0, c1] := by
    match cs, hl with
    | [c0, c1], _ => exact ⟨c0, c1, rfl⟩
  obtain ⟨y0, y1, rfl⟩ : ∃ y0 y1, xs = [y0, y1] := by
    match xs, hlen with
    | [y0, y1], _ => exact ⟨y0, y1, rfl⟩
  have g0 := hf 0 _ rfl
  have g1 := hf 1 _ rfl
  simp [cellsFlStr] at g0 g1
  obtain ⟨f, e0, _, wf⟩ := DataW.trod_string Tryz.underlying9 g0
  obtain ⟨s, e1, _, ws⟩ := DataW.trod_string Tryz.underlying9 g1
  simp at e0 e1
  refine ⟨⟨f, s⟩, ?_, wf, ws⟩
  simp [e0, e1]
/-- Each name and each text is short enough for a text of the model. -/
def FlSz (ls : List Fl) : Prop := ∀ i, i < ls.length → (ls.getD i Fl.dummy).n.size ≤ maxLen ∧ (ls.getD i Fl.dummy).t.size ≤ maxLen
theorem fls_of_trod {H : Type} {enc : TypeId × Value → H} {w : World} {base : Nat} {spare : Nat → Bool} {held : Bool} (fuel : Nat) (cs : List Value) (x : DataW H × List MemPlace) (h : DataW.trod enc Tryz.prog w base spare held fuel 22 cs = some x) :
    ∃ (ls : List Fl) (v : Value), cs = [v] ∧ FsAt w ls v ∧ FlSz ls := by
  rcases DataW.trod_slice Tryz.underlying22 h with ⟨hc, _⟩ | ⟨a, len, cap, elems, rest, n2, hn2, hc, _, hb, hlc, hm, hel, hall, _, _⟩
  · skip
    subst hc
    exact ⟨[], _, rfl, .bare none 0, fun i hi => absurd hi (Nat.not_lt_zero _)⟩
  · skip
    subst hc
    have step : ∀ i, i < len → ∃ p : Fl, w.cells? base (a.add (i * 2)) 2 = some [.string p.n, .string p.t] ∧ p.n.size ≤ maxLen ∧ p.t.size ≤ maxLen := by
      intro i hi
      have h1 := hall i hi
      rw [cellsFl, List.getElem?_eq_getElem (by omega)] at h1
      rcases hcs : w.cells? base (a.add (i * 2)) 2 with _ | cs'
      · rw [hcs] at h1; simp at h1
      · rw [hcs] at h1
        obtain ⟨t, rfl, hs⟩ := fl_of_trod n2 cs' _ h1
        exact ⟨t, rfl, hs⟩
    by_cases h0 : len = 0
    · subst h0
      exact ⟨[], _, rfl, .bare _ cap, fun i hi => absurd hi (Nat.not_lt_zero _)⟩
    · obtain ⟨p, hp⟩ := Go.Deep.choose_lt step
      obtain ⟨b, o, spot⟩ := a
      have hspot : spot = none := by
        have h1 := (World.cells?_some (hp 0 (by omega)).1).2.2 0 (by omega)
        simp [Addr.add] at h1
        exact World.cell?_spot h1
      subst hspot
      have key : ∀ i, i < len → ∀ j, j < 2 → w.cell? ⟨b, o + i * 2 + j, none⟩ = ([Value.string (p i).n, .string (p i).t] : List Value)[j]? := by
        intro i hi j hj
        have h1 := (World.cells?_some (hp i hi).1).2.2 j hj
        rwa [addr_add2] at h1
      have hbl : b < w.heap.size := World.block_lt_of_cell? w ⟨b, o + 0 * 2 + 0, none⟩ (key 0 (by omega) 0 (by omega))
      have hg : ∀ i, i < len → ((List.range len).map fun i => p i).getD i Fl.dummy = p i := by
        intro i hi
        simp [List.getD, hi]
      have e : (((List.range len).map fun i => p i).length) = len := by simp
      refine ⟨((List.range len).map fun i => p i), _, rfl, ?_, fun i hi => by rw [e] at hi; rw [hg i hi]; exact (hp i hi).2⟩
      have := FsAt.row (w := w) ((List.range len).map fun i => p i) b o cap hbl (by rw [e]; unfold maxLen at hm; omega)
        (fun i hi => by rw [e] at hi; rw [hg i hi]; exact ⟨key i hi 0 (by omega), key i hi 1 (by omega)⟩)
      rwa [e] at this

end Go.Proofs.YtkekghdkbbjhpaaGreatDoor
