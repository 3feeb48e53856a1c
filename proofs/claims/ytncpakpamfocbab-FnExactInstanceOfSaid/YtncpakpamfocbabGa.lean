/-
  A map of the call's own from numbers to types: its look-up and its store.
-/
import Derived.Test.YtncpakpamfocbabZf
import Derived.MapKept
namespace Go.Proofs.Ytncpakpamfocbab.Mx
open Go.Proofs.Ytncpakpamfocbab
open Go.RowKit
set_option linter.unusedVariables false
set_option linter.unusedSimpArgs false

abbrev IV := Int × Value
def ik (n : Int) : Value := .int .i64 n
/-- Where a key stands, and its value. -/
def fnd (x : Int) : List IV → Nat → Option (Nat × Value)
  | [], _ => none
  | p :: M, i => if x = p.1 then some (i, p.2) else fnd x M (i + 1)
/-- The value at a key. -/
def look (x : Int) : List IV → Option Value
  | [] => none
  | p :: M => if x = p.1 then some p.2 else look x M
def upd (x : Int) (v : Value) : List IV → List IV
  | [] => [(x, v)]
  | p :: M => if x = p.1 then (x, v) :: M else p :: upd x v M
theorem look_upd (x : Int) (v : Value) (y : Int) : ∀ M, look y (upd x v M) = if y = x then some v else look y M
  | [] => by simp [upd, look]
  | p :: M => by
    unfold upd
    split
    · rename_i h
      by_cases hy : y = x
      · simp [look, hy]
      · have : ¬ y = p.1 := fun e => hy (e.trans h.symm)
        simp [look, hy, this]
    · rename_i h
      by_cases hp : y = p.1
      · have : ¬ y = x := fun e => h (e.symm.trans hp)
        simp [look, hp]
        intro e; exact absurd e.symm h
      · simp only [look, if_neg hp]; exact look_upd x v y M
theorem fnd_look (x : Int) : ∀ M i, (fnd x M i).map (·.2) = look x M
  | [], i => rfl
  | p :: M, i => by
    unfold fnd look
    split
    · rfl
    · exact fnd_look x M (i + 1)
def pairs (es : List MapEntry) : List (Value × Value) := es.map fun e => (e.key, e.val)
def vpairs (M : List IV) : List (Value × Value) := M.map fun p => (ik p.1, p.2)
theorem now_run (x : Int) : ∀ (es : List MapEntry) (M : List IV) (i : Nat), pairs es = vpairs M → Instr.findNow (.int .i64) (ik x) es i = some (fnd x M i)
  | [], [], i, _ => by simp [Instr.findNow, fnd]
  | [], _ :: _, _, h => by simp [pairs, vpairs] at h
  | _ :: _, [], _, h => by simp [pairs, vpairs] at h
  | e :: es, p :: M, i, h => by
    simp only [pairs, vpairs, List.map_cons, List.cons.injEq, Prod.mk.injEq] at h
    obtain ⟨⟨h1, h2⟩, h3⟩ := h
    have ih := now_run x es M (i + 1) h3
    unfold Instr.findNow
    rw [h1]
    by_cases hxp : x = p.1
    · simp [Instr.sameNow, ik, fnd, hxp, h2]
    · have hb : (x == p.1) = false := by simpa using hxp
      simp only [Instr.sameNow, ik, fnd, if_neg hxp, if_true, beq_self_eq_true, hb]
      simpa [ik] using ih
theorem ikey (x : Int) : Go.MapKept.IsKey (.int .i64) (ik x) := by
  unfold ik Go.MapKept.IsKey; rfl
theorem key_run (w : World) (x : Int) (es : List MapEntry) (M : List IV) (h : pairs es = vpairs M) : (Instr.findKey 3 (ik x) es).run Try.prog w = .ok (fnd x M 0) w :=
  Go.MapKept.run_findKey Try.underlying3 (now_run x es M 0 h)
theorem check_run (w : World) (em : Bool) (x : Int) : (Instr.checkKey em 10000 3 (ik x)).run Try.prog w = .ok () w :=
  Go.MapKept.run_checkKey (d := .int .i64) Try.underlying3 (ikey x) em 9999
theorem stays_run (w : World) (x : Int) : (Instr.keyThatStays (ik x) (ik x)).run Try.prog w = .ok (ik x) w :=
  Go.MapKept.run_keyThatStays (d := .int .i64) (ikey x)
theorem fnd_some (x : Int) (v : Value) : ∀ (M : List IV) (i0 i : Nat) (u : Value), fnd x M i0 = some (i, u) → ∃ j, i = i0 + j ∧ j < M.length ∧ (M[j]?.map (·.1)) = some x ∧ upd x v M = M.set j (x, v)
  | [], i0, i, u, h => by simp [fnd] at h
  | p :: M, i0, i, u, h => by
    unfold fnd at h
    split at h
    · rename_i hx
      injection h with h; injection h with h1 h2
      exact ⟨0, by omega, by simp, by simp [hx], by simp [upd, hx]⟩
    · rename_i hx
      obtain ⟨j, h1, h2, h3, h4⟩ := fnd_some x v M (i0 + 1) i u h
      exact ⟨j + 1, by omega, by simpa using h2, by simpa using h3, by simp [upd, hx, h4]⟩
theorem fnd_none (x : Int) (v : Value) : ∀ (M : List IV) (i0 : Nat), fnd x M i0 = none → upd x v M = M ++ [(x, v)]
  | [], _, _ => rfl
  | p :: M, i0, h => by
    unfold fnd at h
    split at h
    · cases h
    · rename_i hx
      simp [upd, hx, fnd_none x v M (i0 + 1) h]
theorem pairs_modify (l : List MapEntry) (j : Nat) (k v : Value) : pairs (l.modify j fun e => { e with key := k, val := v }) = (pairs l).set j (k, v) := by
  apply List.ext_getElem?
  intro i
  simp only [pairs, List.getElem?_map, List.getElem?_modify, List.getElem?_set]
  by_cases h : j = i
  · subst h
    by_cases hl : j < l.length
    · simp [hl]
    · simp [hl]
  · simp [h]
/-- Block bm is a map that holds M. -/
def IMap (w : World) (bm : Nat) (M : List IV) : Prop := ∃ es clock, w.heap[bm]? = some (.map es clock) ∧ pairs es.toList = vpairs M
theorem imap_new (w : World) : IMap (w.alloc (.map #[] 0)) w.heap.size [] := ⟨#[], 0, (Go.MapKept.heap_alloc w _).1, rfl⟩
theorem IMap.lt {w : World} {bm : Nat} {M : List IV} (h : IMap w bm M) : bm < w.heap.size := by
  obtain ⟨es, clock, h1, _⟩ := h
  exact (Array.getElem?_eq_some_iff.1 h1).1
theorem IMap.keep {w w' : World} {bm : Nat} {M : List IV} (h : IMap w bm M) (e : w'.heap[bm]? = w.heap[bm]?) : IMap w' bm M := by
  obtain ⟨es, clock, h1, h2⟩ := h
  exact ⟨es, clock, e.trans h1, h2⟩
def zeroT : Value := .agg #[.int .i64 0, .int .i64 0, .slice none 0 0]
theorem zeroT_run (w : World) : (zeroValue 29).run Try.prog w = .ok zeroT w := by kernel_rfl
theorem lookup_run (w : World) (bm : Nat) (M : List IV) (x : Int) (h : IMap w bm M) : (Instr.lookup 65 (.map (some bm)) (ik x) true).run Try.prog w = .ok (.tuple #[(look x M).getD zeroT, .bool (look x M).isSome]) w := by
  obtain ⟨es, clock, h1, h2⟩ := h
  have hk := key_run w x es.toList M h2
  have hfl := fnd_look x M 0
  simp only [Instr.lookup, Sem.run_bind, run_underlying Try.underlying65, Result.andThen_ok, Go.MapKept.run_getObj_map h1, Sem.run_pure, check_run, hk]
  rcases hf : fnd x M 0 with _ | ⟨i, u⟩
  · rw [hf] at hfl
    have hl : look x M = none := hfl.symm
    simp [hl, zeroT_run, Result.andThen]
    rfl
  · rw [hf] at hfl
    have hl : look x M = some u := hfl.symm
    simp [hl]
theorem update_run (w : World) (bm : Nat) (M : List IV) (x : Int) (v : Value) (h : IMap w bm M) : ∃ w', (Instr.mapUpdate 65 (.map (some bm)) (ik x) v).run Try.prog w = .ok () w' ∧ IMap w' bm (upd x v M) ∧ w.grownBy w' (some bm) := by
  obtain ⟨es, clock, h1, h2⟩ := h
  have hk := key_run w x es.toList M h2
  have grown : ∀ (o : Obj), w.grownBy { w with heap := w.heap.setIfInBounds bm o } (some bm) := fun o =>
    ⟨rfl, rfl, rfl, by simp, fun k hk hne => (Go.MapKept.heap_set h1).2 k (fun e => hne (by rw [e]))⟩
  simp only [Instr.mapUpdate, Sem.run_bind, run_underlying Try.underlying65, Result.andThen_ok, Go.MapKept.run_getObj_map h1, check_run, hk]
  rcases hf : fnd x M 0 with _ | ⟨i, u⟩
  · simp only [Go.MapKept.run_setObj_map _ h1]
    refine ⟨_, rfl, ⟨_, _, (Go.MapKept.heap_set h1).1, ?_⟩, grown _⟩
    rw [fnd_none x v M 0 hf]
    simp only [pairs, vpairs, Array.toList_push, List.map_append, List.map_cons, List.map_nil] at h2 ⊢
    rw [h2]
  · obtain ⟨j, e1, e2, e3, e4⟩ := fnd_some x v M 0 i u hf
    have e1 : i = j := by omega
    subst e1
    have hkey : (((es[i]?).map (·.key)).getD (ik x)) = ik x := by
      have h5 : (pairs es.toList)[i]? = (vpairs M)[i]? := by rw [h2]
      simp only [pairs, vpairs, List.getElem?_map, Array.getElem?_toList] at h5
      rcases hM : M[i]? with _ | q
      · rw [hM] at e3; simp at e3
      · rw [hM] at h5 e3
        simp at e3
        rcases he : es[i]? with _ | e
        · rw [he] at h5; simp at h5
        · rw [he] at h5
          simp at h5
          simp [h5.1, e3]
    simp only [hkey, Sem.run_bind, stays_run, Result.andThen_ok, Go.MapKept.run_setObj_map _ h1]
    refine ⟨_, rfl, ⟨_, _, (Go.MapKept.heap_set h1).1, ?_⟩, grown _⟩
    rw [e4, Array.toList_modify, pairs_modify, h2]
    simp [vpairs, List.map_set]

end Go.Proofs.Ytncpakpamfocbab.Mx
