/-
  A map of the call's own from numbers to types: its look-up and its store.
-/
import Derived.Test.YtncpakpamfocbabZf
import Derived.MapKept
import Derived.Test.YtncpakpamfocbabZo
import Derived.Test.YtncpakpamfocbabBf
namespace Go.Proofs.Ytncpakpamfocbab.Mx
open Go.Proofs.Ytncpakpamfocbab
open Go.RowKit
set_option linter.unusedVariables false
set_option linter.unusedSimpArgs false

abbrev IV := Int × Value
def ik (n : Int) : Value := .int .i64 n
/-- Where a key stands, and its value. -/
def fnd (x : Int) : List IV → Nat → Option (Nat × Value)
  | [], _ => none
  | p :: M, i => if x = p.1 then some (i, p.2) else fnd x M (i + 1)
/-- The value at a key. -/
def look (x : Int) : List IV → Option Value
  | [] => none
  | p :: M => if x = p.1 then some p.2 else look x M
def upd (x : Int) (v : Value) : List IV → List IV
  | [] => [(x, v)]
  | p :: M => if x = p.1 then (x, v) :: M else p :: upd x v M
theorem look_upd (x : Int) (v : Value) (y : Int) : ∀ M, look y (upd x v M) = if y = x then some v else look y M
  | [] => by simp [upd, look]
  | p :: M => by
    unfold upd
    split
    · rename_i h
      by_cases hy : y = x
      · simp [look, hy]
      · have : ¬ y = p.1 := fun e => hy (e.trans h.symm)
        simp [look, hy, this]
    · rename_i h
      by_cases hp : y = p.1
      · have : ¬ y = x := fun e => h (e.symm.trans hp)
        simp [look, hp]
        intro e; exact absurd e.symm h
      · simp only [look, if_neg hp]; exact look_upd x v y M
theorem fnd_look (x : Int) : ∀ M i, (fnd x M i).map (·.2) = look x M
  | [], i => rfl
  | p :: M, i => by
    unfold fnd look
    split
    · rfl
    · exact fnd_look x M (i + 1)
def pairs (es : List MapEntry) : List (Value × Value) := es.map fun e => (e.key, e.val)
def vpairs (M : List IV) : List (Value × Value) := M.map fun p => (ik p.1, p.2)
theorem now_run (x : Int) : ∀ (es : List MapEntry) (M : List IV) (i : Nat), pairs es = vpairs M → Instr.findNow (.int .i64) (ik x) es i = some (fnd x M i)
  | [], [], i, _ => by simp [Instr.findNow, fnd]
  | [], _ :: _, _, h => by simp [pairs, vpairs] at h
  | _ :: _, [], _, h => by simp [pairs, vpairs] at h
  | e :: es, p :: M, i, h => by
    simp only [pairs, vpairs, List.map_cons, List.cons.injEq, Prod.mk.injEq] at h
    obtain ⟨⟨h1, h2⟩, h3⟩ := h
    have ih := now_run x es M (i + 1) h3
    unfold Instr.findNow
    rw [h1]
    by_cases hxp : x = p.1
    · simp [Instr.sameNow, ik, fnd, hxp, h2]
    · have hb : (x == p.1) = false := by simpa using hxp
      simp only [Instr.sameNow, ik, fnd, if_neg hxp, if_true, beq_self_eq_true, hb]
      simpa [ik] using ih
theorem ikey (x : Int) : Go.MapKept.IsKey (.int .i64) (ik x) := by
  unfold ik Go.MapKept.IsKey; rfl
theorem key_run (w : World) (x : Int) (es : List MapEntry) (M : List IV) (h : pairs es = vpairs M) : (Instr.findKey 3 (ik x) es).run Try.prog w = .ok (fnd x M 0) w :=
  Go.MapKept.run_findKey Try.underlying3 (now_run x es M 0 h)
theorem check_run (w : World) (em : Bool) (x : Int) : (Instr.checkKey em 10000 3 (ik x)).run Try.prog w = .ok () w :=
  Go.MapKept.run_checkKey (d := .int .i64) Try.underlying3 (ikey x) em 9999
theorem stays_run (w : World) (x : Int) : (Instr.keyThatStays (ik x) (ik x)).run Try.prog w = .ok (ik x) w :=
  Go.MapKept.run_keyThatStays (d := .int .i64) (ikey x)
theorem fnd_some (x : Int) (v : Value) : ∀ (M : List IV) (i0 i : Nat) (u : Value), fnd x M i0 = some (i, u) → ∃ j, i = i0 + j ∧ j < M.length ∧ (M[j]?.map (·.1)) = some x ∧ upd x v M = M.set j (x, v)
  | [], i0, i, u, h => by simp [fnd] at h
  | p :: M, i0, i, u, h => by
    unfold fnd at h
    split at h
    · rename_i hx
      injection h with h; injection h with h1 h2
      exact ⟨0, by omega, by simp, by simp [hx], by simp [upd, hx]⟩
    · rename_i hx
      obtain ⟨j, h1, h2, h3, h4⟩ := fnd_some x v M (i0 + 1) i u h
      exact ⟨j + 1, by omega, by simpa using h2, by simpa using h3, by simp [upd, hx, h4]⟩
theorem fnd_none (x : Int) (v : Value) : ∀ (M : List IV) (i0 : Nat), fnd x M i0 = none → upd x v M = M ++ [(x, v)]
  | [], _, _ => rfl
  | p :: M, i0, h => by
    unfold fnd at h
    split at h
    · cases h
    · rename_i hx
      simp [upd, hx, fnd_none x v M (i0 + 1) h]
theorem pairs_modify (l : List MapEntry) (j : Nat) (k v : Value) : pairs (l.modify j fun e => { e with key := k, val := v }) = (pairs l).set j (k, v) := by
  apply List.ext_getElem?
  intro i
  simp only [pairs, List.getElem?_map, List.getElem?_modify, List.getElem?_set]
  by_cases h : j = i
  · subst h
    by_cases hl : j < l.length
    · simp [hl]
    · simp [hl]
  · simp [h]
/-- Block bm is a map that holds M. -/
def IMap (w : World) (bm : Nat) (M : List IV) : Prop := ∃ es clock, w.heap[bm]? = some (.map es clock) ∧ pairs es.toList = vpairs M
theorem imap_new (w : World) : IMap (w.alloc (.map #[] 0)) w.heap.size [] := ⟨#[], 0, (Go.MapKept.heap_alloc w _).1, rfl⟩
theorem IMap.lt {w : World} {bm : Nat} {M : List IV} (h : IMap w bm M) : bm < w.heap.size := by
  obtain ⟨es, clock, h1, _⟩ := h
  exact (Array.getElem?_eq_some_iff.1 h1).1
theorem IMap.keep {w w' : World} {bm : Nat} {M : List IV} (h : IMap w bm M) (e : w'.heap[bm]? = w.heap[bm]?) : IMap w' bm M := by
  obtain ⟨es, clock, h1, h2⟩ := h
  exact ⟨es, clock, e.trans h1, h2⟩
def zeroT : Value := .agg #[.int .i64 0, .int .i64 0, .slice none 0 0]
theorem zeroT_run (w : World) : (zeroValue 29).run Try.prog w = .ok zeroT w := by kernel_rfl
theorem lookup_run (w : World) (bm : Nat) (M : List IV) (x : Int) (h : IMap w bm M) : (Instr.lookup 65 (.map (some bm)) (ik x) true).run Try.prog w = .ok (.tuple #[(look x M).getD zeroT, .bool (look x M).isSome]) w := by
  obtain ⟨es, clock, h1, h2⟩ := h
  have hk := key_run w x es.toList M h2
  have hfl := fnd_look x M 0
  simp only [Instr.lookup, Sem.run_bind, run_underlying Try.underlying65, Result.andThen_ok, Go.MapKept.run_getObj_map h1, Sem.run_pure, check_run, hk]
  rcases hf : fnd x M 0 with _ | ⟨i, u⟩
  · rw [hf] at hfl
    have hl : look x M = none := hfl.symm
    simp [hl, zeroT_run, Result.andThen]
    rfl
  · rw [hf] at hfl
    have hl : look x M = some u := hfl.symm
    simp [hl]
theorem update_run (w : World) (bm : Nat) (M : List IV) (x : Int) (v : Value) (h : IMap w bm M) : ∃ w', (Instr.mapUpdate 65 (.map (some bm)) (ik x) v).run Try.prog w = .ok () w' ∧ IMap w' bm (upd x v M) ∧ w.grownBy w' (some bm) := by
  obtain ⟨es, clock, h1, h2⟩ := h
  have hk := key_run w x es.toList M h2
  have grown : ∀ (o : Obj), w.grownBy { w with heap := w.heap.setIfInBounds bm o } (some bm) := fun o =>
    ⟨rfl, rfl, rfl, by simp, fun k hk hne => (Go.MapKept.heap_set h1).2 k (fun e => hne (by rw [e]))⟩
  simp only [Instr.mapUpdate, Sem.run_bind, run_underlying Try.underlying65, Result.andThen_ok, Go.MapKept.run_getObj_map h1, check_run, hk]
  rcases hf : fnd x M 0 with _ | ⟨i, u⟩
  · simp only [Go.MapKept.run_setObj_map _ h1]
    refine ⟨_, rfl, ⟨_, _, (Go.MapKept.heap_set h1).1, ?_⟩, grown _⟩
    rw [fnd_none x v M 0 hf]
    simp only [pairs, vpairs, Array.toList_push, List.map_append, List.map_cons, List.map_nil] at h2 ⊢
    rw [h2]
  · obtain ⟨j, e1, e2, e3, e4⟩ := fnd_some x v M 0 i u hf
    have e1 : i = j := by omega
    subst e1
    have hkey : (((es[i]?).map (·.key)).getD (ik x)) = ik x := by
      have h5 : (pairs es.toList)[i]? = (vpairs M)[i]? := by rw [h2]
      simp only [pairs, vpairs, List.getElem?_map, Array.getElem?_toList] at h5
      rcases hM : M[i]? with _ | q
      · rw [hM] at e3; simp at e3
      · rw [hM] at h5 e3
        simp at e3
        rcases he : es[i]? with _ | e
        · rw [he] at h5; simp at h5
        · rw [he] at h5
          simp at h5
          simp [h5.1, e3]
    simp only [hkey, Sem.run_bind, stays_run, Result.andThen_ok, Go.MapKept.run_setObj_map _ h1]
    refine ⟨_, rfl, ⟨_, _, (Go.MapKept.heap_set h1).1, ?_⟩, grown _⟩
    rw [e4, Array.toList_modify, pairs_modify, h2]
    simp [vpairs, List.map_set]

end Go.Proofs.Ytncpakpamfocbab.Mx
/-
  What InstanceOf looks for: replacements of the variables of a type that yield another one. Plain facts.
-/
namespace Go.Proofs.Ytncpakpamfocbab.Mx
open Go.Proofs.Ytncpakpamfocbab
open Go.RowKit
set_option linter.unusedVariables false
set_option linter.unusedSimpArgs false

/-- What the variables have been replaced by so far. -/
abbrev Asn := List (Int × Ty)
def alook (x : Int) : Asn → Option Ty
  | [] => none
  | p :: M => if x = p.1 then some p.2 else alook x M
theorem alook_snoc (x n : Int) (s : Ty) : ∀ M, alook n M = none → alook x (M ++ [(n, s)]) = if x = n then some s else alook x M
  | [], _ => by simp [alook]
  | p :: M, h => by
    unfold alook at h
    split at h
    · cases h
    · rename_i hn
      rw [List.cons_append]
      unfold alook
      by_cases hx : x = p.1
      · have : ¬ x = n := fun e => hn (e.symm.trans hx)
        rw [if_pos hx, if_neg this, if_pos hx]
      · rw [if_neg hx, if_neg hx]; exact alook_snoc x n s M h
def iter (f : Nat → Asn → Option Asn) : Nat → Asn → Option Asn
  | 0, M => some M
  | n + 1, M => (iter f n M).bind (f n)
theorem iter_none {f : Nat → Asn → Option Asn} {M : Asn} {n : Nat} (h : iter f n M = none) : ∀ d, iter f (n + d) M = none
  | 0 => h
  | d + 1 => by
    show (iter f (n + d) M).bind (f (n + d)) = none
    rw [iter_none h d]; rfl
theorem iter_stop {f : Nat → Asn → Option Asn} {M N : Asn} {j n : Nat} (h : iter f j M = some N) (hf : f j N = none) (hj : j < n) : iter f n M = none := by
  have h1 : iter f (j + 1) M = none := by
    show (iter f j M).bind (f j) = none
    rw [h]; exact hf
  have h2 := iter_none h1 (n - (j + 1))
  rwa [show j + 1 + (n - (j + 1)) = n by omega] at h2
theorem iter_next {f : Nat → Asn → Option Asn} {M N N' : Asn} {j : Nat} (h : iter f j M = some N) (hf : f j N = some N') : iter f (j + 1) M = some N' := by
  show (iter f j M).bind (f j) = some N'
  rw [h]; exact hf
/-- The replacements of the variables of g that yield s, if the depth is at most d. -/
noncomputable def mtf : Nat → Ty → Ty → Asn → Option Asn
  | 0, _, _, _ => none
  | d + 1, g, s, M =>
    if g.k = 4 then (match alook g.n M with | some b => if sameB b s = true then some M else none | none => some (M ++ [(g.n, s)]))
    else if s.k = g.k then iter (fun i N => mtf d (g.ks.getD i Ty.dummy) (s.ks.getD i Ty.dummy) N) g.ks.length M else none
theorem mtf_new {d : Nat} {g s : Ty} {M : Asn} (h4 : g.k = 4) (h : alook g.n M = none) : mtf (d + 1) g s M = some (M ++ [(g.n, s)]) := by
  unfold mtf; rw [if_pos h4, h]
theorem mtf_old {d : Nat} {g s b : Ty} {M : Asn} (h4 : g.k = 4) (h : alook g.n M = some b) : mtf (d + 1) g s M = if sameB b s = true then some M else none := by
  unfold mtf; rw [if_pos h4, h]
theorem mtf_kind {d : Nat} {g s : Ty} {M : Asn} (h4 : g.k ≠ 4) (h : s.k ≠ g.k) : mtf (d + 1) g s M = none := by
  unfold mtf; rw [if_neg h4, if_neg h]
theorem mtf_iter {d : Nat} {g s : Ty} {M : Asn} (h4 : g.k ≠ 4) (h : s.k = g.k) : mtf (d + 1) g s M = iter (fun i N => mtf d (g.ks.getD i Ty.dummy) (s.ks.getD i Ty.dummy) N) g.ks.length M := by
  show (if g.k = 4 then _ else _) = _
  rw [if_neg h4, if_pos h]
theorem shp_parts {d : Nat} {t : Ty} (h : shp (d + 1) t = true) : fieldsB t.k t.n t.ks.length = true ∧ ∀ i, i < t.ks.length → shp d (t.ks.getD i Ty.dummy) = true := by
  unfold shp at h
  rw [Bool.and_eq_true] at h
  refine ⟨h.1, fun i hi => ?_⟩
  have := List.all_eq_true.1 h.2 i (List.mem_range.2 hi)
  exact this
theorem shp_zero {t : Ty} (h : shp 0 t = true) : False := by unfold shp at h; cases h
theorem fields_len {k n n' : Int} {l l' : Nat} (h : fieldsB k n l = true) (h' : fieldsB k n' l' = true) : l = l' := by
  have a := fieldsB_iff.1 h
  have b := fieldsB_iff.1 h'
  omega
theorem fields_var {k n : Int} {l : Nat} (h : fieldsB k n l = true) (h4 : k = 4) : 0 ≤ n ∧ n ≤ 25 := by
  have a := fieldsB_iff.1 h
  omega
theorem fields_kind {k n : Int} {l : Nat} (h : fieldsB k n l = true) : k ≠ 0 := by
  have a := fieldsB_iff.1 h
  omega
theorem nodes_kid {t : Ty} {i : Nat} (hi : i < t.ks.length) : nodes (t.ks.getD i Ty.dummy) ≤ nodes t := by
  cases t with
  | node k n ks =>
    have h := sum_mono (fun i => nodes (ks.getD i Ty.dummy)) (show i + 1 ≤ ks.length from hi)
    rw [sum_succ] at h
    rw [nodes_kids]
    show nodes (ks.getD i Ty.dummy) ≤ _
    omega
theorem isSome_of {α : Type} {o : Option α} {b : Bool} (h : o.isSome = b) : Ending.returned (.bool b) = .returned (.bool o.isSome) := by rw [h]

/-- The map holds the replacements. -/
structure RelI (w0 : World) (M : Asn) (L : List IV) : Prop where
  no : ∀ x, alook x M = none → look x L = none
  yes : ∀ x t, alook x M = some t → ∃ v, look x L = some (.agg #[.int .i64 t.k, .int .i64 t.n, v]) ∧ TyOk w0 t v ∧ nodes t ≤ 1048577
theorem RelI.nil (w0 : World) : RelI w0 [] [] := ⟨fun x _ => rfl, fun x t h => by cases h⟩
theorem RelI.put {w0 : World} {M : Asn} {L : List IV} (h : RelI w0 M L) {n : Int} {s : Ty} {v : Value} (hn : alook n M = none) (hs : TyOk w0 s v) (hc : nodes s ≤ 1048577) : RelI w0 (M ++ [(n, s)]) (upd n (.agg #[.int .i64 s.k, .int .i64 s.n, v]) L) where
  no := fun x hx => by
    rw [alook_snoc x n s M hn] at hx
    rw [look_upd]
    by_cases e : x = n
    · rw [if_pos e] at hx; cases hx
    · rw [if_neg e] at hx ⊢; exact h.no x hx
  yes := fun x t hx => by
    rw [alook_snoc x n s M hn] at hx
    rw [look_upd]
    by_cases e : x = n
    · rw [if_pos e] at hx ⊢
      injection hx with hx
      subst hx
      exact ⟨v, rfl, hs, hc⟩
    · rw [if_neg e] at hx ⊢; exact h.yes x t hx
/-- The row holds the replacements: three cells for each variable, the first one 0 if there is none. -/
structure RelS (w0 : World) (M : Asn) (xs : List Value) : Prop where
  no : ∀ n : Nat, n < 26 → alook n M = none → xs[n * 3]? = some (.int .i64 0)
  yes : ∀ n : Nat, n < 26 → ∀ t, alook n M = some t → ∃ v, xs[n * 3]? = some (.int .i64 t.k) ∧ xs[n * 3 + 1]? = some (.int .i64 t.n) ∧ xs[n * 3 + 2]? = some v ∧ TyAt w0 t v ∧ t.k ≠ 0
theorem set3_get (xs : List Value) (j : Nat) (a b c : Value) (hl : j * 3 + 3 ≤ xs.length) (i q : Nat) (hq : q < 3) :
    (((xs.set (j * 3) a).set (j * 3 + 1) b).set (j * 3 + 2) c)[i * 3 + q]? = if i = j then ([a, b, c] : List Value)[q]? else xs[i * 3 + q]? := by
  by_cases hij : i = j
  · subst hij
    rw [if_pos rfl]
    obtain rfl | rfl | rfl : q = 0 ∨ q = 1 ∨ q = 2 := by omega
    all_goals try simp only [Nat.add_zero]
    all_goals repeat (first | rw [List.getElem?_set_ne (by omega)] | rw [List.getElem?_set_self (by (try simp only [List.length_set]); omega)])
    all_goals rfl
  · rw [if_neg hij, List.getElem?_set_ne (by omega), List.getElem?_set_ne (by omega), List.getElem?_set_ne (by omega)]
theorem RelS.put {w0 : World} {M : Asn} {xs : List Value} (h : RelS w0 M xs) (hl : xs.length = 78) {n : Nat} (h26 : n < 26) {s : Ty} {v : Value} (hn : alook n M = none) (hs : TyAt w0 s v) (hk : s.k ≠ 0) :
    RelS w0 (M ++ [((n : Int), s)]) (((xs.set (n * 3) (.int .i64 s.k)).set (n * 3 + 1) (.int .i64 s.n)).set (n * 3 + 2) v) where
  no := fun m hm hx => by
    rw [alook_snoc (m : Int) n s M hn] at hx
    have g := set3_get xs n (.int .i64 s.k) (.int .i64 s.n) v (by omega) m 0 (by omega)
    rw [show m * 3 + 0 = m * 3 from rfl] at g
    rw [g]
    by_cases e : m = n
    · subst e; rw [if_pos rfl] at hx; cases hx
    · rw [if_neg (by omega)] at hx
      rw [if_neg e]; exact h.no m hm hx
  yes := fun m hm t hx => by
    rw [alook_snoc (m : Int) n s M hn] at hx
    have g0 := set3_get xs n (.int .i64 s.k) (.int .i64 s.n) v (by omega) m 0 (by omega)
    have g1 := set3_get xs n (.int .i64 s.k) (.int .i64 s.n) v (by omega) m 1 (by omega)
    have g2 := set3_get xs n (.int .i64 s.k) (.int .i64 s.n) v (by omega) m 2 (by omega)
    rw [show m * 3 + 0 = m * 3 from rfl] at g0
    rw [g0, g1, g2]
    by_cases e : m = n
    · subst e
      rw [if_pos rfl] at hx
      injection hx with hx
      subst hx
      simp only [if_true]
      exact ⟨v, rfl, rfl, rfl, hs, hk⟩
    · rw [if_neg (by omega)] at hx
      simp only [if_neg e]
      exact h.yes m hm t hx
theorem IMap.inside {w w' : World} {bm : Nat} {L : List IV} (h : IMap w bm L) (hb : Below w.heap.size w w') : IMap w' bm L := h.keep (hb.block bm h.lt)

end Go.Proofs.Ytncpakpamfocbab.Mx
