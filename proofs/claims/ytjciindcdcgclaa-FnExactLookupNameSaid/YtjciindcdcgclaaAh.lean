/-
  Lists of types in the exact laws: an argument read, its size, its copy, comparison.
-/
import Derived.Test.YtjciindcdcgclaaAg
import Derived.Test.YtjciindcdcgclaaYc
namespace Go.Proofs.Ytjciindcdcgclaa
open Go.RowKit
set_option linter.unusedVariables false
set_option linter.unusedSimpArgs false

theorem tys_of_trod {H : Type} {enc : TypeId × Value → H} {w : World} {base : Nat} {spare : Nat → Bool} {held : Bool} (fuel : Nat) (cs : List Value) (x : DataW H × List MemPlace) (h : DataW.trod enc Try.prog w base spare held fuel 101 cs = some x) :
    ∃ (ls : List Ty) (v : Value), cs = [v] ∧ TyAt w (.node 0 0 ls) v := by
  rcases DataW.trod_slice Try.underlying101 h with ⟨hc, _⟩ | ⟨a, len, cap, elems, rest, n2, hn2, hc, _, hb, hlc, hm, hel, hall, _, _⟩
  · skip
    subst hc
    exact ⟨[], _, rfl, .bare 0 0 none 0⟩
  · skip
    subst hc
    have step : ∀ i, i < len → ∃ p : Ty × Value, w.cells? base (a.add (i * 3)) 3 = some [.int .i64 p.1.k, .int .i64 p.1.n, p.2] ∧ TyAt w p.1 p.2 := by
      intro i hi
      have h1 := hall i hi
      rw [cellsTy, List.getElem?_eq_getElem (by omega)] at h1
      rcases hcs : w.cells? base (a.add (i * 3)) 3 with _ | cs'
      · rw [hcs] at h1; simp at h1
      · rw [hcs] at h1
        obtain ⟨t, v, rfl, ht⟩ := ty_of_trod n2 cs' _ h1
        exact ⟨(t, v), rfl, ht⟩
    by_cases h0 : len = 0
    · subst h0
      exact ⟨[], _, rfl, .bare 0 0 _ cap⟩
    · obtain ⟨p, hp⟩ := Go.Deep.choose_lt step
      obtain ⟨b, o, spot⟩ := a
      have hspot : spot = none := by
        have h1 := (World.cells?_some (hp 0 (by omega)).1).2.2 0 (by omega)
        simp [Addr.add] at h1
        exact World.cell?_spot h1
      subst hspot
      have key : ∀ i, i < len → ∀ j, j < 3 → w.cell? ⟨b, o + i * 3 + j, none⟩ = ([Value.int .i64 (p i).1.k, .int .i64 (p i).1.n, (p i).2] : List Value)[j]? := by
        intro i hi j hj
        have h1 := (World.cells?_some (hp i hi).1).2.2 j hj
        rwa [addr_add] at h1
      have hbl : b < w.heap.size := World.block_lt_of_cell? w ⟨b, o + 0 * 3 + 0, none⟩ (key 0 (by omega) 0 (by omega))
      have hg : ∀ i, i < len → ((List.range len).map fun i => (p i).1).getD i Ty.dummy = (p i).1 := by
        intro i hi
        simp [List.getD, hi]
      refine ⟨((List.range len).map fun i => (p i).1), _, rfl, ?_⟩
      have e : (((List.range len).map fun i => (p i).1).length) = len := by simp
      have := TyAt.row (w := w) 0 0 ((List.range len).map fun i => (p i).1) b o cap (fun i => (p i).2) hbl (by rw [e]; unfold maxLen at hm; omega)
        (fun i hi => by rw [e] at hi; rw [hg i hi]; exact key i hi 0 (by omega))
        (fun i hi => by rw [e] at hi; rw [hg i hi]; exact key i hi 1 (by omega))
        (fun i hi => by rw [e] at hi; exact key i hi 2 (by omega))
        (fun i hi => by rw [e] at hi; rw [hg i hi]; exact (hp i hi).2)
      rwa [e] at this
theorem bne_same (b : Bool) : (b != b) = false := by cases b <;> rfl
theorem kids_cnt {ls : List Ty} {c : Nat} (h : Cnt (.node 0 0 ls) c) : ∃ cf : Nat → Nat, c = ls.length + ((List.range ls.length).map cf).sum ∧ ∀ i, i < ls.length → Cnt (ls.getD i Ty.dummy) (cf i) := by
  cases h with
  | node k n ks c h => exact ⟨c, rfl, h⟩
theorem szTypeS_any (ls : List Ty) (c : Nat) (v : Value) (l : Int) (w : World) (hc : Cnt (.node 0 0 ls) c) (hx : TyAt w (.node 0 0 ls) v) (h0 : 0 ≤ l) (h1 : l ≤ 1048576) :
    Calls Try.prog 126 #[v, .int .i64 l] w (SzPost l c w) := by
  obtain ⟨cf, rfl, hk⟩ := kids_cnt hc
  exact szTypeS_of (.node 0 0 ls) cf v l w hx h0 h1 (fun i hi r vi W r0 r1 ht => szType_any _ _ _ vi r W (Nat.lt_succ_self _) (hk i hi) ht r0 r1)
theorem toTypeS_any (ls : List Ty) (c : Nat) (v : Value) (w : World) (hc : Cnt (.node 0 0 ls) c) (hcm : c ≤ 1048576) (hx : TyAt w (.node 0 0 ls) v) :
    Calls Try.prog 127 #[v] w (ToPostS (.node 0 0 ls) w) := by
  obtain ⟨cf, rfl, hk⟩ := kids_cnt hc
  refine toTypeS_of (.node 0 0 ls) v w hx (by show ls.length ≤ _; omega) (fun i hi vi W ht => toType_any _ _ (cf i) vi W (Nat.lt_succ_self _) (hk i hi) ?_ ht)
  have h1 := sum_mono cf (show i + 1 ≤ ls.length from hi)
  rw [sum_succ] at h1
  omega
theorem eqTypeS_any (ls : List Ty) (c : Nat) (v1 v2 : Value) (w : World) (hc : Cnt (.node 0 0 ls) c) (hcm : c ≤ 1048576) (h1 : TyAt w (.node 0 0 ls) v1) (h2 : TyAt w (.node 0 0 ls) v2) :
    Calls Try.prog 61 #[v1, v2] w (EqPost w) := by
  obtain ⟨cf, rfl, hk⟩ := kids_cnt hc
  refine eqTypeS_of (.node 0 0 ls) v1 v2 w h1 h2 (by show ls.length ≤ _; omega) (fun i hi vi vj W ht1 ht2 => eqType_any _ _ (cf i) vi vj W (Nat.lt_succ_self _) (hk i hi) ?_ ht1 ht2)
  have h1 := sum_mono cf (show i + 1 ≤ ls.length from hi)
  rw [sum_succ] at h1
  omega
/-- The result of SubstVars is valid or the zero value. -/
theorem svT_cnt (t : Ty) (ls : List Ty) : ∃ c, Cnt (optT (svT t ls)) c ∧ c ≤ 62 := by
  rcases h : svT t ls with _ | y
  · exact ⟨0, .node 0 0 [] (fun _ => 0) (fun i hi => absurd hi (Nat.not_lt_zero _)), by omega⟩
  · refine cnt_valid ?_
    show tvT y = true
    unfold svT at h
    split at h
    · rename_i hq; injection h with h; subst h; exact hq.2.2
    · cases h

end Go.Proofs.Ytjciindcdcgclaa
