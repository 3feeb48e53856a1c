/-
  A type that came in as an argument lies in memory as a tree: from the reading of the argument to the tree. For every type that can be read.
-/
import Derived.Test.YtmoclinccmhijaaDoorProg
import Derived.Test.YtmoclinccmhijaaDoorYc
import Derived.Test.YtmoclinccmhijaaDoorEa
import Derived.Deep.Slices
import Derived.Lib.SmallJoins
import Derived.ProofKit
namespace Go.Proofs.YtmoclinccmhijaaDoor.Ox
open Go.Proofs.YtmoclinccmhijaaDoor
open Go.RowKit

instance : Inhabited Ex := ⟨Ex.dummy⟩
theorem cellsEx : Tryd.prog.cellsOf 24 = 5 := by kernel_rfl
theorem cellsStr : Tryd.prog.cellsOf 9 = 1 := by kernel_rfl
theorem cellsKids : Tryd.prog.cellsOf 22 = 1 := by kernel_rfl
/-- How much a size takes off for an expression: its texts' bytes, and its operands, each with what it takes off. -/
inductive Cnt : Ex → Nat → Prop where
  | node (k n : Int) (m s : ByteArray) (ks : List Ex) (c : Nat → Nat) (hm : m.size ≤ maxLen) (hs : s.size ≤ maxLen) (h : ∀ i, i < ks.length → Cnt (ks.getD i Ex.dummy) (c i)) : Cnt (.node k n m s ks) (m.size + s.size + (ks.length + ((List.range ks.length).map c).sum))
set_option maxRecDepth 100000 in
/-- The cells of one type that was read. -/
theorem ex_of_trod {H : Type} {enc : TypeId × Value → H} {w : World} {base : Nat} {spare : Nat → Bool} {held : Bool} :
    ∀ (fuel : Nat) (cs : List Value) (x : DataW H × List MemPlace), DataW.trod enc Tryd.prog w base spare held fuel 24 cs = some x →
      ∃ (t : Ex) (v : Value) (c : Nat), cs = [.int .i64 t.k, .int .i64 t.n, .string t.m, .string t.s, v] ∧ ExAt w t v ∧ Cnt t c := by
  intro fuel
  induction fuel using Nat.strongRecOn with
  | _ fuel ih =>
    intro cs x h
    obtain ⟨xs, n, hfn, rfl, hl, hlen, hf⟩ := DataW.trod_struct Tryd.underlying24 h
    rw [cellsEx] at hl
    obtain ⟨c0, c1, c2, c3, c4, rfl⟩ : ∃ c0 c1 c2 c3 c4, cs = [c0, c1, c2, c3, c4] := by
      match cs, hl with
      | [c0, c1, c2, c3, c4], _ => exact ⟨c0, c1, c2, c3, c4, rfl⟩
    obtain ⟨y0, y1, y2, y3, y4, rfl⟩ : ∃ y0 y1 y2 y3 y4, xs = [y0, y1, y2, y3, y4] := by
      match xs, hlen with
      | [y0, y1, y2, y3, y4], _ => exact ⟨y0, y1, y2, y3, y4, rfl⟩
    have g0 := hf 0 _ rfl
    have g1 := hf 1 _ rfl
    have g2 := hf 2 _ rfl
    have g3 := hf 3 _ rfl
    have g4 := hf 4 _ rfl
    simp [cellsInt, cellsStr, cellsKids] at g0 g1 g2 g3 g4
    obtain ⟨sm, e2, _, wm⟩ := DataW.trod_string Tryd.underlying9 g2
    obtain ⟨ss, e3, _, ws⟩ := DataW.trod_string Tryd.underlying9 g3
    simp at e2 e3
    subst e2 e3
    obtain ⟨k, e0, _, _⟩ := DataW.trod_int Tryd.underlying3 g0
    obtain ⟨nn, e1, _, _⟩ := DataW.trod_int Tryd.underlying3 g1
    simp at e0 e1
    subst e0 e1
    clear hf h g0 g1 g2 g3
    rcases DataW.trod_slice Tryd.underlying22 g4 with ⟨hc, _⟩ | ⟨a, len, cap, elems, rest, n2, hn2, hc, _, hb, hlc, hm, hel, hall, _, _⟩
    · simp at hc
      subst hc
      exact ⟨.node k nn sm ss [], _, _, rfl, .bare k nn sm ss none 0, .node k nn sm ss [] (fun _ => 0) wm ws (fun i hi => absurd hi (Nat.not_lt_zero _))⟩
    · simp at hc
      subst hc
      have step : ∀ i, i < len → ∃ p : Ex × Value × Nat, w.cells? base (a.add (i * 5)) 5 = some [.int .i64 p.1.k, .int .i64 p.1.n, .string p.1.m, .string p.1.s, p.2.1] ∧ ExAt w p.1 p.2.1 ∧ Cnt p.1 p.2.2 := by
        intro i hi
        have h1 := hall i hi
        rw [cellsEx, List.getElem?_eq_getElem (by omega)] at h1
        rcases hcs : w.cells? base (a.add (i * 5)) 5 with _ | cs'
        · rw [hcs] at h1; simp at h1
        · rw [hcs] at h1
          obtain ⟨t, v, c, rfl, ht⟩ := ih n2 (by omega) cs' _ h1
          exact ⟨(t, v, c), rfl, ht⟩
      by_cases h0 : len = 0
      · subst h0
        exact ⟨.node k nn sm ss [], _, _, rfl, .bare k nn sm ss _ cap, .node k nn sm ss [] (fun _ => 0) wm ws (fun i hi => absurd hi (Nat.not_lt_zero _))⟩
      · obtain ⟨p, hp⟩ := Go.Deep.choose_lt step
        obtain ⟨b, o, spot⟩ := a
        have hspot : spot = none := by
          have h1 := (World.cells?_some (hp 0 (by omega)).1).2.2 0 (by omega)
          simp [Addr.add] at h1
          exact World.cell?_spot h1
        subst hspot
        have key : ∀ i, i < len → ∀ j, j < 5 → w.cell? ⟨b, o + i * 5 + j, none⟩ = ([Value.int .i64 (p i).1.k, .int .i64 (p i).1.n, .string (p i).1.m, .string (p i).1.s, (p i).2.1] : List Value)[j]? := by
          intro i hi j hj
          have h1 := (World.cells?_some (hp i hi).1).2.2 j hj
          rwa [addr_add] at h1
        have hbl : b < w.heap.size := World.block_lt_of_cell? w ⟨b, o + 0 * 5 + 0, none⟩ (key 0 (by omega) 0 (by omega))
        have hg : ∀ i, i < len → ((List.range len).map fun i => (p i).1).getD i Ex.dummy = (p i).1 := by
          intro i hi
          simp [List.getD, hi]
        have e : (((List.range len).map fun i => (p i).1).length) = len := by simp
        have hcnt := Cnt.node k nn sm ss ((List.range len).map fun i => (p i).1) (fun i => (p i).2.2) wm ws (fun i hi => by rw [e] at hi; rw [hg i hi]; exact (hp i hi).2.2)
        refine ⟨.node k nn sm ss ((List.range len).map fun i => (p i).1), _, _, rfl, ?_, hcnt⟩
        have := ExAt.row (w := w) k nn sm ss ((List.range len).map fun i => (p i).1) b o cap (fun i => (p i).2.1) hbl (by rw [e]; unfold maxLen at hm; omega)
          (fun i hi => by rw [e] at hi; rw [hg i hi]; exact ⟨key i hi 0 (by omega), key i hi 1 (by omega), key i hi 2 (by omega), key i hi 3 (by omega), key i hi 4 (by omega)⟩)
          (fun i hi => by rw [e] at hi; rw [hg i hi]; exact (hp i hi).2.1)
        rwa [e] at this

end Go.Proofs.YtmoclinccmhijaaDoor.Ox
