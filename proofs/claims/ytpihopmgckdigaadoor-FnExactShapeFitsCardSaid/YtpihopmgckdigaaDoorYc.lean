/-
  A type that came in as an argument lies in memory as a tree: from the reading of the argument to the tree. For every type that can be read.
-/
import Derived.Test.YtpihopmgckdigaaDoorProg
import Derived.Test.YtpihopmgckdigaaDoorYa
import Derived.Deep.Slices
import Derived.Lib.SmallJoins
import Derived.ProofKit
namespace Go.Proofs.YtpihopmgckdigaaDoor
open Go.RowKit

instance : Inhabited Ty := ⟨Ty.dummy⟩
theorem addr_add (b o n m : Nat) : ((⟨b, o, none⟩ : Addr).add n).add m = ⟨b, o + n + m, none⟩ := by
  unfold Addr.add
  by_cases hn : n = 0
  · by_cases hm : m = 0
    · subst hn; subst hm; rfl
    · subst hn; simp [hm]
  · by_cases hm : m = 0
    · subst hm; simp [hn]
    · simp [hn, hm]
theorem cellsTy : Tryd.prog.cellsOf 42 = 3 := by kernel_rfl
theorem cellsInt : Tryd.prog.cellsOf 3 = 1 := by kernel_rfl
theorem cellsKids : Tryd.prog.cellsOf 40 = 1 := by kernel_rfl
set_option maxRecDepth 100000 in
/-- The cells of one type that was read. -/
theorem ty_of_trod {H : Type} {enc : TypeId × Value → H} {w : World} {base : Nat} {spare : Nat → Bool} {held : Bool} :
    ∀ (fuel : Nat) (cs : List Value) (x : DataW H × List MemPlace), DataW.trod enc Tryd.prog w base spare held fuel 42 cs = some x →
      ∃ (t : Ty) (v : Value), cs = [.int .i64 t.k, .int .i64 t.n, v] ∧ TyAt w t v := by
  intro fuel
  induction fuel using Nat.strongRecOn with
  | _ fuel ih =>
    intro cs x h
    obtain ⟨xs, n, hfn, rfl, hl, hlen, hf⟩ := DataW.trod_struct Tryd.underlying42 h
    rw [cellsTy] at hl
    obtain ⟨c0, c1, c2, rfl⟩ : ∃ c0 c1 c2, cs = [c0, c1, c2] := by
      match cs, hl with
      | [c0, c1, c2], _ => exact ⟨c0, c1, c2, rfl⟩
    obtain ⟨y0, y1, y2, rfl⟩ : ∃ y0 y1 y2, xs = [y0, y1, y2] := by
      match xs, hlen with
      | [y0, y1, y2], _ => exact ⟨y0, y1, y2, rfl⟩
    have g0 := hf 0 _ rfl
    have g1 := hf 1 _ rfl
    have g2 := hf 2 _ rfl
    simp [cellsInt, cellsKids] at g0 g1 g2
    obtain ⟨k, e0, _, _⟩ := DataW.trod_int Tryd.underlying3 g0
    obtain ⟨nn, e1, _, _⟩ := DataW.trod_int Tryd.underlying3 g1
    simp at e0 e1
    subst e0 e1
    clear hf h g0 g1
    rcases DataW.trod_slice Tryd.underlying40 g2 with ⟨hc, _⟩ | ⟨a, len, cap, elems, rest, n2, hn2, hc, _, hb, hlc, hm, hel, hall, _, _⟩
    · simp at hc
      subst hc
      exact ⟨.node k nn [], _, rfl, .bare k nn none 0⟩
    · simp at hc
      subst hc
      have step : ∀ i, i < len → ∃ p : Ty × Value, w.cells? base (a.add (i * 3)) 3 = some [.int .i64 p.1.k, .int .i64 p.1.n, p.2] ∧ TyAt w p.1 p.2 := by
        intro i hi
        have h1 := hall i hi
        rw [cellsTy, List.getElem?_eq_getElem (by omega)] at h1
        rcases hcs : w.cells? base (a.add (i * 3)) 3 with _ | cs'
        · rw [hcs] at h1; simp at h1
        · rw [hcs] at h1
          obtain ⟨t, v, rfl, ht⟩ := ih n2 (by omega) cs' _ h1
          exact ⟨(t, v), rfl, ht⟩
      by_cases h0 : len = 0
      · subst h0
        exact ⟨.node k nn [], _, rfl, .bare k nn _ cap⟩
      · obtain ⟨p, hp⟩ := Go.Deep.choose_lt step
        obtain ⟨b, o, spot⟩ := a
        have hspot : spot = none := by
          have h1 := (World.cells?_some (hp 0 (by omega)).1).2.2 0 (by omega)
          simp [Addr.add] at h1
          exact World.cell?_spot h1
        subst hspot
        have key : ∀ i, i < len → ∀ j, j < 3 → w.cell? ⟨b, o + i * 3 + j, none⟩ = ([Value.int .i64 (p i).1.k, .int .i64 (p i).1.n, (p i).2] : List Value)[j]? := by
          intro i hi j hj
          have h1 := (World.cells?_some (hp i hi).1).2.2 j hj
          rwa [addr_add] at h1
        have hbl : b < w.heap.size := World.block_lt_of_cell? w ⟨b, o + 0 * 3 + 0, none⟩ (key 0 (by omega) 0 (by omega))
        have hg : ∀ i, i < len → ((List.range len).map fun i => (p i).1).getD i Ty.dummy = (p i).1 := by
          intro i hi
          simp [List.getD, hi]
        refine ⟨.node k nn ((List.range len).map fun i => (p i).1), _, rfl, ?_⟩
        have e : (((List.range len).map fun i => (p i).1).length) = len := by simp
        have := TyAt.row (w := w) k nn ((List.range len).map fun i => (p i).1) b o cap (fun i => (p i).2) hbl (by rw [e]; unfold maxLen at hm; omega)
          (fun i hi => by rw [e] at hi; rw [hg i hi]; exact key i hi 0 (by omega))
          (fun i hi => by rw [e] at hi; rw [hg i hi]; exact key i hi 1 (by omega))
          (fun i hi => by rw [e] at hi; exact key i hi 2 (by omega))
          (fun i hi => by rw [e] at hi; rw [hg i hi]; exact (hp i hi).2)
        rwa [e] at this

end Go.Proofs.YtpihopmgckdigaaDoor
