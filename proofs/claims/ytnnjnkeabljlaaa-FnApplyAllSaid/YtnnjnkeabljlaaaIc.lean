/-
  Edits in memory: a list of them in a row of three cells each; an argument that is such a list.
-/
import Derived.Test.YtnnjnkeabljlaaaTe
import Derived.ProofKit
import Derived.OpenShut
import Derived.Below
import Derived.Deep.Slices
namespace Go.Proofs.Ytnnjnkeabljlaaa
open Go.RowKit
set_option linter.unusedVariables false
set_option linter.unusedSimpArgs false

/-- An edit. -/
structure Ed where
  f : Int
  t : Int
  i : ByteArray
def Ed.dummy : Ed := ⟨0, 0, ⟨#[]⟩⟩
instance : Inhabited Ed := ⟨Ed.dummy⟩
/-- The three cells of an element. -/
structure EFd (w : World) (b o : Nat) (x : Ed) : Prop where
  c0 : w.cell? ⟨b, o, none⟩ = some (.int .i64 x.f)
  c1 : w.cell? ⟨b, o + 1, none⟩ = some (.int .i64 x.t)
  c2 : w.cell? ⟨b, o + 2, none⟩ = some (.string x.i)
theorem EFd.kept {w w' : World} {b o : Nat} {x : Ed} (h : EFd w b o x) (hl : b < w.heap.size) (hb : Below w.heap.size w w') : EFd w' b o x :=
  ⟨(hb.cell (p := ⟨b, o, none⟩) hl).trans h.c0, (hb.cell (p := ⟨b, o + 1, none⟩) hl).trans h.c1, (hb.cell (p := ⟨b, o + 2, none⟩) hl).trans h.c2⟩
/-- The list lies in memory behind a value. -/
inductive EsAt (w : World) : List Ed → Value → Prop where
  | bare (a : Option Addr) (cap : Nat) : EsAt w [] (.slice a 0 cap)
  | row (ls : List Ed) (b o cap : Nat) (hb : b < w.heap.size) (hl : ls.length ≤ 9223372036854775807)
      (h0 : ∀ i, i < ls.length → EFd w b (o + i * 3) (ls.getD i Ed.dummy)) : EsAt w ls (.slice (some ⟨b, o, none⟩) ls.length cap)
theorem EsAt.kept {w w' : World} {ls : List Ed} {v : Value} (h : EsAt w ls v) (hb : Below w.heap.size w w') : EsAt w' ls v := by
  cases h with
  | bare a cap => exact .bare a cap
  | row ls b o cap hbl hl h0 => exact .row ls b o cap (Nat.lt_of_lt_of_le hbl hb.size) hl (fun i hi => (h0 i hi).kept hbl hb)
theorem EsAt.kid {w : World} {ls : List Ed} {v : Value} (h : EsAt w ls v) (i : Nat) (hi : i < ls.length) : ∃ b o cap, v = .slice (some ⟨b, o, none⟩) ls.length cap ∧ b < w.heap.size ∧ EFd w b (o + i * 3) (ls.getD i Ed.dummy) := by
  cases h with
  | bare a cap => exact absurd hi (Nat.not_lt_zero _)
  | row ls b o cap hb hl h0 => exact ⟨b, o, cap, rfl, hb, h0 i hi⟩
theorem EsAt.slice {w : World} {ls : List Ed} {v : Value} (h : EsAt w ls v) : ∃ a cap, v = .slice a ls.length cap ∧ ls.length ≤ 9223372036854775807 := by
  cases h with
  | bare a cap => exact ⟨a, cap, rfl, Nat.zero_le _⟩
  | row ls b o cap hb hl h0 => exact ⟨_, cap, rfl, hl⟩
theorem cellsEd : Try.prog.cellsOf 60 = 3 := by kernel_rfl
theorem cellsEdStr : Try.prog.cellsOf 9 = 1 := by kernel_rfl
theorem cellsEdInt : Try.prog.cellsOf 3 = 1 := by kernel_rfl
theorem addr_add3 (b o k j : Nat) : ((⟨b, o, none⟩ : Addr).add k).add j = ⟨b, o + k + j, none⟩ := by
  unfold Addr.add
  by_cases h1 : k = 0 <;> by_cases h2 : j = 0 <;> simp [h1, h2, Nat.add_assoc]
set_option maxRecDepth 100000 in
/-- The cells of one element that was read. -/
theorem ed_of_trod {H : Type} {enc : TypeId × Value → H} {w : World} {base : Nat} {spare : Nat → Bool} {held : Bool}
    (fuel : Nat) (cs : List Value) (x : DataW H × List MemPlace) (h : DataW.trod enc Try.prog w base spare held fuel 60 cs = some x) :
      ∃ (l : Ed), cs = [.int .i64 l.f, .int .i64 l.t, .string l.i] ∧ l.i.size ≤ maxLen := by
  obtain ⟨xs, n, hfn, rfl, hl, hlen, hf⟩ := DataW.trod_struct Try.underlying60 h
  rw [cellsEd] at hl
  obtain ⟨c0, c1, c2, rfl⟩ : ∃ c0 c1 c2, cs = [c0, c1, c2] := by
    match cs, hl with
    | [c0, c1, c2], _ => exact ⟨c0, c1, c2, rfl⟩
  obtain ⟨y0, y1, y2, rfl⟩ : ∃ y0 y1 y2, xs = [y0, y1, y2] := by
    match xs, hlen with
    | [y0, y1, y2], _ => exact ⟨y0, y1, y2, rfl⟩
  have g0 := hf 0 _ rfl
  have g1 := hf 1 _ rfl
  have g2 := hf 2 _ rfl
  simp [cellsEdStr, cellsEdInt] at g0 g1 g2
  obtain ⟨f, e0, _, _⟩ := DataW.trod_int Try.underlying3 g0
  obtain ⟨t, e1, _, _⟩ := DataW.trod_int Try.underlying3 g1
  obtain ⟨s, e2, _, ws⟩ := DataW.trod_string Try.underlying9 g2
  simp at e0 e1 e2
  refine ⟨⟨f, t, s⟩, ?_, ws⟩
  simp [e0, e1, e2]
/-- Each insert is short enough for a text of the model. -/
def EdSz (ls : List Ed) : Prop := ∀ i, i < ls.length → (ls.getD i Ed.dummy).i.size ≤ maxLen
theorem eds_of_trod {H : Type} {enc : TypeId × Value → H} {w : World} {base : Nat} {spare : Nat → Bool} {held : Bool} (fuel : Nat) (cs : List Value) (x : DataW H × List MemPlace) (h : DataW.trod enc Try.prog w base spare held fuel 38 cs = some x) :
    ∃ (ls : List Ed) (v : Value), cs = [v] ∧ EsAt w ls v ∧ EdSz ls := by
  rcases DataW.trod_slice Try.underlying38 h with ⟨hc, _⟩ | ⟨a, len, cap, elems, rest, n2, hn2, hc, _, hb, hlc, hm, hel, hall, _, _⟩
  · skip
    subst hc
    exact ⟨[], _, rfl, .bare none 0, fun i hi => absurd hi (Nat.not_lt_zero _)⟩
  · skip
    subst hc
    have step : ∀ i, i < len → ∃ p : Ed, w.cells? base (a.add (i * 3)) 3 = some [.int .i64 p.f, .int .i64 p.t, .string p.i] ∧ p.i.size ≤ maxLen := by
      intro i hi
      have h1 := hall i hi
      rw [cellsEd, List.getElem?_eq_getElem (by omega)] at h1
      rcases hcs : w.cells? base (a.add (i * 3)) 3 with _ | cs'
      · rw [hcs] at h1; simp at h1
      · rw [hcs] at h1
        obtain ⟨t, rfl, hs⟩ := ed_of_trod n2 cs' _ h1
        exact ⟨t, rfl, hs⟩
    by_cases h0 : len = 0
    · subst h0
      exact ⟨[], _, rfl, .bare _ cap, fun i hi => absurd hi (Nat.not_lt_zero _)⟩
    · obtain ⟨p, hp⟩ := Go.Deep.choose_lt step
      obtain ⟨b, o, spot⟩ := a
      have hspot : spot = none := by
        have h1 := (World.cells?_some (hp 0 (by omega)).1).2.2 0 (by omega)
        simp [Addr.add] at h1
        exact World.cell?_spot h1
      subst hspot
      have key : ∀ i, i < len → ∀ j, j < 3 → w.cell? ⟨b, o + i * 3 + j, none⟩ = ([Value.int .i64 (p i).f, .int .i64 (p i).t, .string (p i).i] : List Value)[j]? := by
        intro i hi j hj
        have h1 := (World.cells?_some (hp i hi).1).2.2 j hj
        rwa [addr_add3] at h1
      have hbl : b < w.heap.size := World.block_lt_of_cell? w ⟨b, o + 0 * 3 + 0, none⟩ (key 0 (by omega) 0 (by omega))
      have hg : ∀ i, i < len → ((List.range len).map fun i => p i).getD i Ed.dummy = p i := by
        intro i hi
        simp [List.getD, hi]
      have e : (((List.range len).map fun i => p i).length) = len := by simp
      refine ⟨((List.range len).map fun i => p i), _, rfl, ?_, fun i hi => by rw [e] at hi; rw [hg i hi]; exact (hp i hi).2⟩
      have := EsAt.row (w := w) ((List.range len).map fun i => p i) b o cap hbl (by rw [e]; unfold maxLen at hm; omega)
        (fun i hi => by rw [e] at hi; rw [hg i hi]; exact ⟨key i hi 0 (by omega), key i hi 1 (by omega), key i hi 2 (by omega)⟩)
      rwa [e] at this

end Go.Proofs.Ytnnjnkeabljlaaa
