/-
  A map of the call's own from numbers to types: its look-up and its store.
  l2Match of the model: it finds the replacements of the variables of a type that yield another one, in a row of 26 types.
  matchType: it finds the replacements of the variables of a type that yield another one, in a map; types lie in plain blocks.
  InstanceOf of the model and of the program: whether the variables of a type can be replaced so that it becomes another one; what was in memory stays.
-/
import Derived.Test.YtndpoejohpmifaaZf
import Derived.MapKept
import Derived.Test.YtndpoejohpmifaaZo
import Derived.Test.YtndpoejohpmifaaBf
import Derived.Test.YtndpoejohpmifaaYb
import Derived.Test.YtndpoejohpmifaaBh
import Derived.Deep.RegionHeld3
import Derived.Deep.DeepCutAuto
import Derived.Test.YtndpoejohpmifaaZe
namespace Go.Proofs.Ytndpoejohpmifaa.Mx
open Go.Proofs.Ytndpoejohpmifaa
open Go.RowKit
set_option linter.unusedVariables false
set_option linter.unusedSimpArgs false

abbrev IV := Int × Value
def ik (n : Int) : Value := .int .i64 n
/-- Where a key stands, and its value. -/
def fnd (x : Int) : List IV → Nat → Option (Nat × Value)
  | [], _ => none
  | p :: M, i => if x = p.1 then some (i, p.2) else fnd x M (i + 1)
/-- The value at a key. -/
def look (x : Int) : List IV → Option Value
  | [] => none
  | p :: M => if x = p.1 then some p.2 else look x M
def upd (x : Int) (v : Value) : List IV → List IV
  | [] => [(x, v)]
  | p :: M => if x = p.1 then (x, v) :: M else p :: upd x v M
theorem look_upd (x : Int) (v : Value) (y : Int) : ∀ M, look y (upd x v M) = if y = x then some v else look y M
  | [] => by simp [upd, look]
  | p :: M => by
    unfold upd
    split
    · rename_i h
      by_cases hy : y = x
      · simp [look, hy]
      · have : ¬ y = p.1 := fun e => hy (e.trans h.symm)
        simp [look, hy, this]
    · rename_i h
      by_cases hp : y = p.1
      · have : ¬ y = x := fun e => h (e.symm.trans hp)
        simp [look, hp]
        intro e; exact absurd e.symm h
      · simp only [look, if_neg hp]; exact look_upd x v y M
theorem fnd_look (x : Int) : ∀ M i, (fnd x M i).map (·.2) = look x M
  | [], i => rfl
  | p :: M, i => by
    unfold fnd look
    split
    · rfl
    · exact fnd_look x M (i + 1)
def pairs (es : List MapEntry) : List (Value × Value) := es.map fun e => (e.key, e.val)
def vpairs (M : List IV) : List (Value × Value) := M.map fun p => (ik p.1, p.2)
theorem now_run (x : Int) : ∀ (es : List MapEntry) (M : List IV) (i : Nat), pairs es = vpairs M → Instr.findNow (.int .i64) (ik x) es i = some (fnd x M i)
  | [], [], i, _ => by simp [Instr.findNow, fnd]
  | [], _ :: _, _, h => by simp [pairs, vpairs] at h
  | _ :: _, [], _, h => by simp [pairs, vpairs] at h
  | e :: es, p :: M, i, h => by
    simp only [pairs, vpairs, List.map_cons, List.cons.injEq, Prod.mk.injEq] at h
    obtain ⟨⟨h1, h2⟩, h3⟩ := h
    have ih := now_run x es M (i + 1) h3
    unfold Instr.findNow
    rw [h1]
    by_cases hxp : x = p.1
    · simp [Instr.sameNow, ik, fnd, hxp, h2]
    · have hb : (x == p.1) = false := by simpa using hxp
      simp only [Instr.sameNow, ik, fnd, if_neg hxp, if_true, beq_self_eq_true, hb]
      simpa [ik] using ih
theorem ikey (x : Int) : Go.MapKept.IsKey (.int .i64) (ik x) := by
  unfold ik Go.MapKept.IsKey; rfl
theorem key_run (w : World) (x : Int) (es : List MapEntry) (M : List IV) (h : pairs es = vpairs M) : (Instr.findKey 3 (ik x) es).run Try.prog w = .ok (fnd x M 0) w :=
  Go.MapKept.run_findKey Try.underlying3 (now_run x es M 0 h)
theorem check_run (w : World) (em : Bool) (x : Int) : (Instr.checkKey em 10000 3 (ik x)).run Try.prog w = .ok () w :=
  Go.MapKept.run_checkKey (d := .int .i64) Try.underlying3 (ikey x) em 9999
theorem stays_run (w : World) (x : Int) : (Instr.keyThatStays (ik x) (ik x)).run Try.prog w = .ok (ik x) w :=
  Go.MapKept.run_keyThatStays (d := .int .i64) (ikey x)
theorem fnd_some (x : Int) (v : Value) : ∀ (M : List IV) (i0 i : Nat) (u : Value), fnd x M i0 = some (i, u) → ∃ j, i = i0 + j ∧ j < M.length ∧ (M[j]?.map (·.1)) = some x ∧ upd x v M = M.set j (x, v)
  | [], i0, i, u, h => by simp [fnd] at h
  | p :: M, i0, i, u, h => by
    unfold fnd at h
    split at h
    · rename_i hx
      injection h with h; injection h with h1 h2
      exact ⟨0, by omega, by simp, by simp [hx], by simp [upd, hx]⟩
    · rename_i hx
      obtain ⟨j, h1, h2, h3, h4⟩ := fnd_some x v M (i0 + 1) i u h
      exact ⟨j + 1, by omega, by simpa using h2, by simpa using h3, by simp [upd, hx, h4]⟩
theorem fnd_none (x : Int) (v : Value) : ∀ (M : List IV) (i0 : Nat), fnd x M i0 = none → upd x v M = M ++ [(x, v)]
  | [], _, _ => rfl
  | p :: M, i0, h => by
    unfold fnd at h
    split at h
    · cases h
    · rename_i hx
      simp [upd, hx, fnd_none x v M (i0 + 1) h]
theorem pairs_modify (l : List MapEntry) (j : Nat) (k v : Value) : pairs (l.modify j fun e => { e with key := k, val := v }) = (pairs l).set j (k, v) := by
  apply List.ext_getElem?
  intro i
  simp only [pairs, List.getElem?_map, List.getElem?_modify, List.getElem?_set]
  by_cases h : j = i
  · subst h
    by_cases hl : j < l.length
    · simp [hl]
    · simp [hl]
  · simp [h]
/-- Block bm is a map that holds M. -/
def IMap (w : World) (bm : Nat) (M : List IV) : Prop := ∃ es clock, w.heap[bm]? = some (.map es clock) ∧ pairs es.toList = vpairs M
theorem imap_new (w : World) : IMap (w.alloc (.map #[] 0)) w.heap.size [] := ⟨#[], 0, (Go.MapKept.heap_alloc w _).1, rfl⟩
theorem IMap.lt {w : World} {bm : Nat} {M : List IV} (h : IMap w bm M) : bm < w.heap.size := by
  obtain ⟨es, clock, h1, _⟩ := h
  exact (Array.getElem?_eq_some_iff.1 h1).1
theorem IMap.keep {w w' : World} {bm : Nat} {M : List IV} (h : IMap w bm M) (e : w'.heap[bm]? = w.heap[bm]?) : IMap w' bm M := by
  obtain ⟨es, clock, h1, h2⟩ := h
  exact ⟨es, clock, e.trans h1, h2⟩
def zeroT : Value := .agg #[.int .i64 0, .int .i64 0, .slice none 0 0]
theorem zeroT_run (w : World) : (zeroValue 25).run Try.prog w = .ok zeroT w := by kernel_rfl
theorem lookup_run (w : World) (bm : Nat) (M : List IV) (x : Int) (h : IMap w bm M) : (Instr.lookup 75 (.map (some bm)) (ik x) true).run Try.prog w = .ok (.tuple #[(look x M).getD zeroT, .bool (look x M).isSome]) w := by
  obtain ⟨es, clock, h1, h2⟩ := h
  have hk := key_run w x es.toList M h2
  have hfl := fnd_look x M 0
  simp only [Instr.lookup, Sem.run_bind, run_underlying Try.underlying75, Result.andThen_ok, Go.MapKept.run_getObj_map h1, Sem.run_pure, check_run, hk]
  rcases hf : fnd x M 0 with _ | ⟨i, u⟩
  · rw [hf] at hfl
    have hl : look x M = none := hfl.symm
    simp [hl, zeroT_run, Result.andThen]
    rfl
  · rw [hf] at hfl
    have hl : look x M = some u := hfl.symm
    simp [hl]
theorem update_run (w : World) (bm : Nat) (M : List IV) (x : Int) (v : Value) (h : IMap w bm M) : ∃ w', (Instr.mapUpdate 75 (.map (some bm)) (ik x) v).run Try.prog w = .ok () w' ∧ IMap w' bm (upd x v M) ∧ w.grownBy w' (some bm) := by
  obtain ⟨es, clock, h1, h2⟩ := h
  have hk := key_run w x es.toList M h2
  have grown : ∀ (o : Obj), w.grownBy { w with heap := w.heap.setIfInBounds bm o } (some bm) := fun o =>
    ⟨rfl, rfl, rfl, by simp, fun k hk hne => (Go.MapKept.heap_set h1).2 k (fun e => hne (by rw [e]))⟩
  simp only [Instr.mapUpdate, Sem.run_bind, run_underlying Try.underlying75, Result.andThen_ok, Go.MapKept.run_getObj_map h1, check_run, hk]
  rcases hf : fnd x M 0 with _ | ⟨i, u⟩
  · simp only [Go.MapKept.run_setObj_map _ h1]
    refine ⟨_, rfl, ⟨_, _, (Go.MapKept.heap_set h1).1, ?_⟩, grown _⟩
    rw [fnd_none x v M 0 hf]
    simp only [pairs, vpairs, Array.toList_push, List.map_append, List.map_cons, List.map_nil] at h2 ⊢
    rw [h2]
  · obtain ⟨j, e1, e2, e3, e4⟩ := fnd_some x v M 0 i u hf
    have e1 : i = j := by omega
    subst e1
    have hkey : (((es[i]?).map (·.key)).getD (ik x)) = ik x := by
      have h5 : (pairs es.toList)[i]? = (vpairs M)[i]? := by rw [h2]
      simp only [pairs, vpairs, List.getElem?_map, Array.getElem?_toList] at h5
      rcases hM : M[i]? with _ | q
      · rw [hM] at e3; simp at e3
      · rw [hM] at h5 e3
        simp at e3
        rcases he : es[i]? with _ | e
        · rw [he] at h5; simp at h5
        · rw [he] at h5
          simp at h5
          simp [h5.1, e3]
    simp only [hkey, Sem.run_bind, stays_run, Result.andThen_ok, Go.MapKept.run_setObj_map _ h1]
    refine ⟨_, rfl, ⟨_, _, (Go.MapKept.heap_set h1).1, ?_⟩, grown _⟩
    rw [e4, Array.toList_modify, pairs_modify, h2]
    simp [vpairs, List.map_set]

end Go.Proofs.Ytndpoejohpmifaa.Mx
/-
  What InstanceOf looks for: replacements of the variables of a type that yield another one. Plain facts.
-/
namespace Go.Proofs.Ytndpoejohpmifaa.Mx
open Go.Proofs.Ytndpoejohpmifaa
open Go.RowKit
set_option linter.unusedVariables false
set_option linter.unusedSimpArgs false

/-- What the variables have been replaced by so far. -/
abbrev Asn := List (Int × Ty)
def alook (x : Int) : Asn → Option Ty
  | [] => none
  | p :: M => if x = p.1 then some p.2 else alook x M
theorem alook_snoc (x n : Int) (s : Ty) : ∀ M, alook n M = none → alook x (M ++ [(n, s)]) = if x = n then some s else alook x M
  | [], _ => by simp [alook]
  | p :: M, h => by
    unfold alook at h
    split at h
    · cases h
    · rename_i hn
      rw [List.cons_append]
      unfold alook
      by_cases hx : x = p.1
      · have : ¬ x = n := fun e => hn (e.symm.trans hx)
        rw [if_pos hx, if_neg this, if_pos hx]
      · rw [if_neg hx, if_neg hx]; exact alook_snoc x n s M h
def iter (f : Nat → Asn → Option Asn) : Nat → Asn → Option Asn
  | 0, M => some M
  | n + 1, M => (iter f n M).bind (f n)
theorem iter_none {f : Nat → Asn → Option Asn} {M : Asn} {n : Nat} (h : iter f n M = none) : ∀ d, iter f (n + d) M = none
  | 0 => h
  | d + 1 => by
    show (iter f (n + d) M).bind (f (n + d)) = none
    rw [iter_none h d]; rfl
theorem iter_stop {f : Nat → Asn → Option Asn} {M N : Asn} {j n : Nat} (h : iter f j M = some N) (hf : f j N = none) (hj : j < n) : iter f n M = none := by
  have h1 : iter f (j + 1) M = none := by
    show (iter f j M).bind (f j) = none
    rw [h]; exact hf
  have h2 := iter_none h1 (n - (j + 1))
  rwa [show j + 1 + (n - (j + 1)) = n by omega] at h2
theorem iter_next {f : Nat → Asn → Option Asn} {M N N' : Asn} {j : Nat} (h : iter f j M = some N) (hf : f j N = some N') : iter f (j + 1) M = some N' := by
  show (iter f j M).bind (f j) = some N'
  rw [h]; exact hf
/-- The replacements of the variables of g that yield s, if the depth is at most d. -/
noncomputable def mtf : Nat → Ty → Ty → Asn → Option Asn
  | 0, _, _, _ => none
  | d + 1, g, s, M =>
    if g.k = 4 then (match alook g.n M with | some b => if sameB b s = true then some M else none | none => some (M ++ [(g.n, s)]))
    else if s.k = g.k then iter (fun i N => mtf d (g.ks.getD i Ty.dummy) (s.ks.getD i Ty.dummy) N) g.ks.length M else none
theorem mtf_new {d : Nat} {g s : Ty} {M : Asn} (h4 : g.k = 4) (h : alook g.n M = none) : mtf (d + 1) g s M = some (M ++ [(g.n, s)]) := by
  unfold mtf; rw [if_pos h4, h]
theorem mtf_old {d : Nat} {g s b : Ty} {M : Asn} (h4 : g.k = 4) (h : alook g.n M = some b) : mtf (d + 1) g s M = if sameB b s = true then some M else none := by
  unfold mtf; rw [if_pos h4, h]
theorem mtf_kind {d : Nat} {g s : Ty} {M : Asn} (h4 : g.k ≠ 4) (h : s.k ≠ g.k) : mtf (d + 1) g s M = none := by
  unfold mtf; rw [if_neg h4, if_neg h]
theorem mtf_iter {d : Nat} {g s : Ty} {M : Asn} (h4 : g.k ≠ 4) (h : s.k = g.k) : mtf (d + 1) g s M = iter (fun i N => mtf d (g.ks.getD i Ty.dummy) (s.ks.getD i Ty.dummy) N) g.ks.length M := by
  show (if g.k = 4 then _ else _) = _
  rw [if_neg h4, if_pos h]
theorem shp_parts {d : Nat} {t : Ty} (h : shp (d + 1) t = true) : fieldsB t.k t.n t.ks.length = true ∧ ∀ i, i < t.ks.length → shp d (t.ks.getD i Ty.dummy) = true := by
  unfold shp at h
  rw [Bool.and_eq_true] at h
  refine ⟨h.1, fun i hi => ?_⟩
  have := List.all_eq_true.1 h.2 i (List.mem_range.2 hi)
  exact this
theorem shp_zero {t : Ty} (h : shp 0 t = true) : False := by unfold shp at h; cases h
theorem fields_len {k n n' : Int} {l l' : Nat} (h : fieldsB k n l = true) (h' : fieldsB k n' l' = true) : l = l' := by
  have a := fieldsB_iff.1 h
  have b := fieldsB_iff.1 h'
  omega
theorem fields_var {k n : Int} {l : Nat} (h : fieldsB k n l = true) (h4 : k = 4) : 0 ≤ n ∧ n ≤ 25 := by
  have a := fieldsB_iff.1 h
  omega
theorem fields_kind {k n : Int} {l : Nat} (h : fieldsB k n l = true) : k ≠ 0 := by
  have a := fieldsB_iff.1 h
  omega
theorem nodes_kid {t : Ty} {i : Nat} (hi : i < t.ks.length) : nodes (t.ks.getD i Ty.dummy) ≤ nodes t := by
  cases t with
  | node k n ks =>
    have h := sum_mono (fun i => nodes (ks.getD i Ty.dummy)) (show i + 1 ≤ ks.length from hi)
    rw [sum_succ] at h
    rw [nodes_kids]
    show nodes (ks.getD i Ty.dummy) ≤ _
    omega
theorem isSome_of {α : Type} {o : Option α} {b : Bool} (h : o.isSome = b) : Ending.returned (.bool b) = .returned (.bool o.isSome) := by rw [h]

/-- The map holds the replacements. -/
structure RelI (w0 : World) (M : Asn) (L : List IV) : Prop where
  no : ∀ x, alook x M = none → look x L = none
  yes : ∀ x t, alook x M = some t → ∃ v, look x L = some (.agg #[.int .i64 t.k, .int .i64 t.n, v]) ∧ TyOk w0 t v ∧ nodes t ≤ 1048577
theorem RelI.nil (w0 : World) : RelI w0 [] [] := ⟨fun x _ => rfl, fun x t h => by cases h⟩
theorem RelI.put {w0 : World} {M : Asn} {L : List IV} (h : RelI w0 M L) {n : Int} {s : Ty} {v : Value} (hn : alook n M = none) (hs : TyOk w0 s v) (hc : nodes s ≤ 1048577) : RelI w0 (M ++ [(n, s)]) (upd n (.agg #[.int .i64 s.k, .int .i64 s.n, v]) L) where
  no := fun x hx => by
    rw [alook_snoc x n s M hn] at hx
    rw [look_upd]
    by_cases e : x = n
    · rw [if_pos e] at hx; cases hx
    · rw [if_neg e] at hx ⊢; exact h.no x hx
  yes := fun x t hx => by
    rw [alook_snoc x n s M hn] at hx
    rw [look_upd]
    by_cases e : x = n
    · rw [if_pos e] at hx ⊢
      injection hx with hx
      subst hx
      exact ⟨v, rfl, hs, hc⟩
    · rw [if_neg e] at hx ⊢; exact h.yes x t hx
/-- The row holds the replacements: three cells for each variable, the first one 0 if there is none. -/
structure RelS (w0 : World) (M : Asn) (xs : List Value) : Prop where
  no : ∀ n : Nat, n < 26 → alook n M = none → xs[n * 3]? = some (.int .i64 0)
  yes : ∀ n : Nat, n < 26 → ∀ t, alook n M = some t → ∃ v, xs[n * 3]? = some (.int .i64 t.k) ∧ xs[n * 3 + 1]? = some (.int .i64 t.n) ∧ xs[n * 3 + 2]? = some v ∧ TyAt w0 t v ∧ t.k ≠ 0
theorem set3_get (xs : List Value) (j : Nat) (a b c : Value) (hl : j * 3 + 3 ≤ xs.length) (i q : Nat) (hq : q < 3) :
    (((xs.set (j * 3) a).set (j * 3 + 1) b).set (j * 3 + 2) c)[i * 3 + q]? = if i = j then ([a, b, c] : List Value)[q]? else xs[i * 3 + q]? := by
  by_cases hij : i = j
  · subst hij
    rw [if_pos rfl]
    obtain rfl | rfl | rfl : q = 0 ∨ q = 1 ∨ q = 2 := by omega
    all_goals try simp only [Nat.add_zero]
    all_goals repeat (first | rw [List.getElem?_set_ne (by omega)] | rw [List.getElem?_set_self (by (try simp only [List.length_set]); omega)])
    all_goals rfl
  · rw [if_neg hij, List.getElem?_set_ne (by omega), List.getElem?_set_ne (by omega), List.getElem?_set_ne (by omega)]
theorem RelS.put {w0 : World} {M : Asn} {xs : List Value} (h : RelS w0 M xs) (hl : xs.length = 78) {n : Nat} (h26 : n < 26) {s : Ty} {v : Value} (hn : alook n M = none) (hs : TyAt w0 s v) (hk : s.k ≠ 0) :
    RelS w0 (M ++ [((n : Int), s)]) (((xs.set (n * 3) (.int .i64 s.k)).set (n * 3 + 1) (.int .i64 s.n)).set (n * 3 + 2) v) where
  no := fun m hm hx => by
    rw [alook_snoc (m : Int) n s M hn] at hx
    have g := set3_get xs n (.int .i64 s.k) (.int .i64 s.n) v (by omega) m 0 (by omega)
    rw [show m * 3 + 0 = m * 3 from rfl] at g
    rw [g]
    by_cases e : m = n
    · subst e; rw [if_pos rfl] at hx; cases hx
    · rw [if_neg (by omega)] at hx
      rw [if_neg e]; exact h.no m hm hx
  yes := fun m hm t hx => by
    rw [alook_snoc (m : Int) n s M hn] at hx
    have g0 := set3_get xs n (.int .i64 s.k) (.int .i64 s.n) v (by omega) m 0 (by omega)
    have g1 := set3_get xs n (.int .i64 s.k) (.int .i64 s.n) v (by omega) m 1 (by omega)
    have g2 := set3_get xs n (.int .i64 s.k) (.int .i64 s.n) v (by omega) m 2 (by omega)
    rw [show m * 3 + 0 = m * 3 from rfl] at g0
    rw [g0, g1, g2]
    by_cases e : m = n
    · subst e
      rw [if_pos rfl] at hx
      injection hx with hx
      subst hx
      simp only [if_true]
      exact ⟨v, rfl, rfl, rfl, hs, hk⟩
    · rw [if_neg (by omega)] at hx
      simp only [if_neg e]
      exact h.yes m hm t hx
theorem IMap.inside {w w' : World} {bm : Nat} {L : List IV} (h : IMap w bm L) (hb : Below w.heap.size w w') : IMap w' bm L := h.keep (hb.block bm h.lt)

end Go.Proofs.Ytndpoejohpmifaa.Mx

namespace Go.Proofs.Ytndpoejohpmifaa.Mx
open Go.Proofs.Ytndpoejohpmifaa
open Go.RowKit
set_option linter.unusedVariables false
set_option linter.unusedSimpArgs false

/-- The row of 26 types. -/
def KR (w : World) (kb : Nat) (xs : List Value) : Prop := w.ownsRow kb 25 3 (.slice (some ⟨kb, 0, none⟩) 26 26) 26 xs
theorem KR.len {w : World} {kb : Nat} {xs : List Value} (h : KR w kb xs) : xs.length = 78 := h.1
theorem KR.lt {w : World} {kb : Nat} {xs : List Value} (h : KR w kb xs) : kb < w.heap.size := (own_block h).2
theorem KR.at {w : World} {kb : Nat} {xs : List Value} (h : KR w kb xs) {i : Nat} (hi : i < 78) : w.cell? ⟨kb, i, none⟩ = xs[i]? := World.ownsRow.cellAt h i (by omega)
theorem KR.below {w w' : World} {kb : Nat} {xs : List Value} (h : KR w kb xs) (hb : Below w.heap.size w w') : KR w' kb xs := own_below h hb
theorem set_in {w : World} {kb i : Nat} (x : Value) : Inside kb (kb + 1) w (w.setCell ⟨kb, i, none⟩ x) :=
  ⟨rfl, rfl, rfl, by simp, fun b _ hx => heap_setCell_other w ⟨kb, i, none⟩ b x (by show b ≠ kb; omega)⟩
/-- Where the loop of l2Match stands. -/
structure KS (w0 w : World) (S kb : Nat) (s g : Ty) (vs vg : Value) (d j : Nat) (M : Asn) (wr : World) (N : Asn) (xs : List Value) : Prop where
  it : iter (fun i N => mtf d (g.ks.getD i Ty.dummy) (s.ks.getD i Ty.dummy) N) j M = some N
  im : KR wr kb xs
  rl : RelS w0 N xs
  hin : Inside kb (kb + 1) w wr
  b0 : Below w0.heap.size w0 wr
  bx : TBox wr S (.int .i64 g.k) (.int .i64 g.n) vg
  by_ : TBox wr (S + 1) (.int .i64 s.k) (.int .i64 s.n) vs
theorem KS.next {w0 w : World} {S kb : Nat} {s g : Ty} {vs vg : Value} {d j : Nat} {M : Asn} {wr : World} {N : Asn} {L : List Value} (h : KS w0 w S kb s g vs vg d j M wr N L) {w' : World} {N' : Asn} {L' : List Value} (hbm : kb < S) (h0 : w0.heap.size ≤ kb) (hI : Inside kb (kb + 1) wr w') (hm : mtf d (g.ks.getD j Ty.dummy) (s.ks.getD j Ty.dummy) N = some N') (him : KR w' kb L') (hr : RelS w0 N' L') : KS w0 w S kb s g vs vg d (j + 1) M w' N' L' :=
  ⟨iter_next h.it hm, him, hr, h.hin.trans hI, hI.below h0 h.b0 h.b0.size, h.bx.aside hI.size (hI.block _ h.bx.sz (.inr (by omega))), h.by_.aside hI.size (hI.block _ h.by_.sz (.inr (by omega)))⟩

set_option maxRecDepth 100000 in
set_option maxHeartbeats 4000000 in
theorem l2Match_any (w0 : World) (kb : Nat) (hkb : w0.heap.size ≤ kb) : ∀ (d : Nat) (s g : Ty) (vs vg : Value) (M : Asn) (xs : List Value) (w : World), shp d s = true → shp d g = true → TyAt w0 s vs → TyAt w0 g vg → Below w0.heap.size w0 w → KR w kb xs → RelS w0 M xs →
    Calls Try.prog 54 #[.agg #[.int .i64 g.k, .int .i64 g.n, vg], .agg #[.int .i64 s.k, .int .i64 s.n, vs], .slice (some ⟨kb, 0, none⟩) 26 26] w fun e w' => e = .returned (.bool (mtf d g s M).isSome) ∧ Inside kb (kb + 1) w w' ∧ ∀ M', mtf d g s M = some M' → ∃ xs', KR w' kb xs' ∧ RelS w0 M' xs' := by
  have hkb0 := Lib.hid hkb
  intro d
  induction d with
  | zero => intro s g vs vg M L w hs; exact (shp_zero hs).elim
  | succ d ih =>
    intro s g vs vg M xs w hs hg hvs hvg hb hm hr
    have IH := Lib.hid ih
    obtain ⟨fs, ks⟩ := shp_parts hs
    obtain ⟨fg, kg⟩ := shp_parts hg
    have FS := Lib.hid fs
    have FG := Lib.hid fg
    have KS_ := Lib.hid ks
    have KG := Lib.hid kg
    have HR := Lib.hid hr
    have HVS := Lib.hid hvs
    have HVG := Lib.hid hvg
    obtain ⟨sa, sc, rfl, _⟩ := hvs.slice
    obtain ⟨ga, gc, rfl, _⟩ := hvg.slice
    have hbw := hm.lt
    obtain ⟨S, hS⟩ : ∃ S, w.heap.size = S := ⟨_, rfl⟩
    rw [hS] at hbw
    obtain ⟨W1, hW1⟩ : ∃ W, (w.alloc (.cells #[.int .i64 g.k, .int .i64 g.n, .slice ga g.ks.length gc] 25)).alloc (.cells #[.int .i64 s.k, .int .i64 s.n, .slice sa s.ks.length sc] 25) = W := ⟨_, rfl⟩
    have hB1 : Below w.heap.size w W1 := by rw [← hW1]; exact ((Below.refl _ _).alloc (Nat.le_refl _) _).alloc (by simp) _
    have HX1 : Hid (TBox W1 S (.int .i64 g.k) (.int .i64 g.n) (.slice ga g.ks.length gc)) := Lib.hid (by
      rw [← hW1, ← hS]; exact (tbox_new w _ _ _ _).kept ((Below.refl _ _).alloc (Nat.le_refl _) _))
    have HY1 : Hid (TBox W1 (S + 1) (.int .i64 s.k) (.int .i64 s.n) (.slice sa s.ks.length sc)) := Lib.hid (by
      have h := tbox_new (w.alloc (.cells #[.int .i64 g.k, .int .i64 g.n, .slice ga g.ks.length gc] 25)) (.int .i64 s.k) (.int .i64 s.n) (.slice sa s.ks.length sc) 25
      rw [hW1, sizeA', hS] at h; exact h)
    have HM1 := Lib.hid (hm.below hB1)
    have HM0 := Lib.hid hm
    have HB1 := Lib.hid hB1
    have HI1 : Hid (Inside kb (kb + 1) w W1) := Lib.hid (in_below hB1)
    have HB0 := Lib.hid (hb.trans (hB1.mono hb.size))
    have HW1 := Lib.hid hW1
    have HS := Lib.hid hS
    clear ih hs hg fs fg ks kg hr hvs hvg hb hm hB1 hW1
    by_cases h4 : g.k = 4
    · have H4 := Lib.hid h4
      have e4 : (g.k == 4) = true := by simpa using h4
      obtain ⟨v0, v25⟩ := fields_var FG.out h4
      obtain ⟨q, hq⟩ : ∃ q : Nat, g.n = (q : Int) := ⟨g.n.toNat, by omega⟩
      have HQ := Lib.hid hq
      have hq26 : q < 26 := by omega
      have hqi : (q : Int) < 26 := by omega
      rw [hq] at HX1 HW1 ⊢
      have hlen := HM1.out.len
      clear h4 v0 v25
      rcases ha : alook (q : Int) M with _ | b
      · have HA := Lib.hid ha
        have c0 := (HM0.out.at (i := q * 3) (by omega)).trans (HR.out.no q hq26 ha)
        have hq1 : q * 3 + 1 < xs.length := by omega
        have hq2 : q * 3 + 2 < xs.length := by omega
        have c1 := (HM0.out.at (i := q * 3 + 1) (by omega)).trans (List.getElem?_eq_getElem hq1)
        have c2 := (HM0.out.at (i := q * 3 + 2) (by omega)).trans (List.getElem?_eq_getElem hq2)
        generalize xs[q * 3 + 1] = u1 at c1
        generalize xs[q * 3 + 2] = u2 at c2
        have m0 := World.ownsRow.frozenAt HM0.out (q * 3)
        have m1 := World.ownsRow.frozenAt HM0.out (q * 3 + 1)
        have m2 := World.ownsRow.frozenAt HM0.out (q * 3 + 2)
        obtain ⟨s1, _⟩ := World.ownsRow.stored HM0.out (q * 3) (.int .i64 s.k)
        obtain ⟨s2, _⟩ := s1.stored (q * 3 + 1) (.int .i64 s.n)
        obtain ⟨s3, _⟩ := s2.stored (q * 3 + 2) (.slice sa s.ks.length sc)
        have hi3 : Inside kb (kb + 1) w (((w.setCell ⟨kb, q * 3, none⟩ (.int .i64 s.k)).setCell ⟨kb, q * 3 + 1, none⟩ (.int .i64 s.n)).setCell ⟨kb, q * 3 + 2, none⟩ (.slice sa s.ks.length sc)) := ((set_in _).trans (set_in _)).trans (set_in _)
        have HI3 := Lib.hid hi3
        have HS3 : Hid (KR (((w.setCell ⟨kb, q * 3, none⟩ (.int .i64 s.k)).setCell ⟨kb, q * 3 + 1, none⟩ (.int .i64 s.n)).setCell ⟨kb, q * 3 + 2, none⟩ (.slice sa s.ks.length sc)) kb _) := Lib.hid s3
        have HMT : Hid (mtf (d + 1) g s M = some (M ++ [((q : Int), s)])) := Lib.hid (by rw [mtf_new H4.out (by rw [hq]; exact ha), hq])
        have HRP := Lib.hid (HR.out.put hlen hq26 ha HVS.out (fields_kind FS.out))
        obtain ⟨x0, x1, x2, xz⟩ := HX1.out
        obtain ⟨y0, y1, y2, yz⟩ := HY1.out
        clear ha hq1 hq2 s1 s2 s3 hi3 hq hlen
        go_enter Try.func54, Try.ntmps54
        go_wp2_with fail
        go_ret
        refine ⟨by rw [HMT.out]; rfl, HI3.out.trans (in_below (((Below.refl _ _).alloc (Nat.le_refl _) _).alloc (by simp) _)), fun M' e => ?_⟩
        rw [HMT.out] at e
        injection e with e
        subst e
        exact ⟨_, HS3.out.below (((Below.refl _ _).alloc (Nat.le_refl _) _).alloc (by simp) _), HRP.out⟩
      · obtain ⟨vb, g0, g1, g2, hab, hk0⟩ := HR.out.yes q hq26 b ha
        have c0 := (HM0.out.at (i := q * 3) (by omega)).trans g0
        have c1 := (HM0.out.at (i := q * 3 + 1) (by omega)).trans g1
        have c2 := (HM0.out.at (i := q * 3 + 2) (by omega)).trans g2
        obtain ⟨ba, bc, rfl, _⟩ := hab.slice
        have HAB := Lib.hid hab
        have ek0 : (b.k != 0) = true := by simpa using hk0
        have HMT : Hid (mtf (d + 1) g s M = if sameB b s = true then some M else none) := Lib.hid (mtf_old H4.out (by rw [hq]; exact ha))
        obtain ⟨x0, x1, x2, xz⟩ := HX1.out
        obtain ⟨y0, y1, y2, yz⟩ := HY1.out
        have C0 := Lib.hid ((HM1.out.at (i := q * 3) (by omega)).trans g0)
        have C1 := Lib.hid ((HM1.out.at (i := q * 3 + 1) (by omega)).trans g1)
        have C2 := Lib.hid ((HM1.out.at (i := q * 3 + 2) (by omega)).trans g2)
        have hkl : kb < W1.heap.size := HM1.out.lt
        clear ha hq hlen g0 g1 g2 hab hk0
        rcases hs : sameB b s with _ | _
        · have HSB := Lib.hid hs
          clear hs
          go_enter Try.func54, Try.ntmps54
          go_wp2_with fail
          rw [HW1.out]
          have d0 := C0.out
          have d1 := C1.out
          have d2 := C2.out
          go_region_held3 (fun w' => w'.cell? ⟨S, 1, none⟩ = some (.int .i64 (q : Int)) ∧ w'.cell? ⟨kb, q * 3, none⟩ = some (.int .i64 b.k) ∧ w'.cell? ⟨kb, q * 3 + 1, none⟩ = some (.int .i64 b.n) ∧ w'.cell? ⟨kb, q * 3 + 2, none⟩ = some (.slice ba b.ks.length bc) ∧ w'.cell? ⟨S + 1, 0, none⟩ = some (.int .i64 s.k) ∧ w'.cell? ⟨S + 1, 1, none⟩ = some (.int .i64 s.n) ∧ w'.cell? ⟨S + 1, 2, none⟩ = some (.slice sa s.ks.length sc)) (go_keep)
            (first | (go_at_call 89; refine (typeSame_spec _ b s _ _ _ (Nat.lt_succ_self _) (HAB.out.kept (by first | exact HB0.out | exact HB0.out.drew)) (HVS.out.kept (by first | exact HB0.out | exact HB0.out.drew))).mono ?_; rintro e w2 ⟨rfl, hb2⟩; rw [HSB.out]; have hb3 : Below W1.heap.size W1 w2 := Below.trans (B := W1.heap.size) (by first | exact Below.refl _ _ | exact (Below.refl _ _).drew) hb2; have HI3 := Lib.hid (HI1.out.trans (in_below hb3)); have HM3 := Lib.hid (HM1.out.below hb3); have zx1 := (hb3.cell (p := ⟨S, 1, none⟩) xz).trans x1; have zc0 := (hb3.cell (p := ⟨kb, q * 3, none⟩) hkl).trans d0; have zc1 := (hb3.cell (p := ⟨kb, q * 3 + 1, none⟩) hkl).trans d1; have zc2 := (hb3.cell (p := ⟨kb, q * 3 + 2, none⟩) hkl).trans d2; have zy0 := (hb3.cell (p := ⟨S + 1, 0, none⟩) yz).trans y0; have zy1 := (hb3.cell (p := ⟨S + 1, 1, none⟩) yz).trans y1; have zy2 := (hb3.cell (p := ⟨S + 1, 2, none⟩) yz).trans y2; clear hb2 hb3))
          all_goals go_wp2_with fail
          all_goals go_ret
          all_goals
            refine ⟨by rw [HMT.out, HSB.out]; rfl, HI3.out, fun M' e => ?_⟩
            rw [HMT.out, HSB.out] at e
            cases e
        · have HSB := Lib.hid hs
          clear hs
          go_enter Try.func54, Try.ntmps54
          go_wp2_with fail
          rw [HW1.out]
          have d0 := C0.out
          have d1 := C1.out
          have d2 := C2.out
          go_region_held3 (fun w' => w'.cell? ⟨S, 1, none⟩ = some (.int .i64 (q : Int)) ∧ w'.cell? ⟨kb, q * 3, none⟩ = some (.int .i64 b.k) ∧ w'.cell? ⟨kb, q * 3 + 1, none⟩ = some (.int .i64 b.n) ∧ w'.cell? ⟨kb, q * 3 + 2, none⟩ = some (.slice ba b.ks.length bc) ∧ w'.cell? ⟨S + 1, 0, none⟩ = some (.int .i64 s.k) ∧ w'.cell? ⟨S + 1, 1, none⟩ = some (.int .i64 s.n) ∧ w'.cell? ⟨S + 1, 2, none⟩ = some (.slice sa s.ks.length sc)) (go_keep)
            (first | (go_at_call 89; refine (typeSame_spec _ b s _ _ _ (Nat.lt_succ_self _) (HAB.out.kept (by first | exact HB0.out | exact HB0.out.drew)) (HVS.out.kept (by first | exact HB0.out | exact HB0.out.drew))).mono ?_; rintro e w2 ⟨rfl, hb2⟩; rw [HSB.out]; have hb3 : Below W1.heap.size W1 w2 := Below.trans (B := W1.heap.size) (by first | exact Below.refl _ _ | exact (Below.refl _ _).drew) hb2; have HI3 := Lib.hid (HI1.out.trans (in_below hb3)); have HM3 := Lib.hid (HM1.out.below hb3); have zx1 := (hb3.cell (p := ⟨S, 1, none⟩) xz).trans x1; have zc0 := (hb3.cell (p := ⟨kb, q * 3, none⟩) hkl).trans d0; have zc1 := (hb3.cell (p := ⟨kb, q * 3 + 1, none⟩) hkl).trans d1; have zc2 := (hb3.cell (p := ⟨kb, q * 3 + 2, none⟩) hkl).trans d2; have zy0 := (hb3.cell (p := ⟨S + 1, 0, none⟩) yz).trans y0; have zy1 := (hb3.cell (p := ⟨S + 1, 1, none⟩) yz).trans y1; have zy2 := (hb3.cell (p := ⟨S + 1, 2, none⟩) yz).trans y2; clear hb2 hb3))
          all_goals go_wp2_with fail
          all_goals go_ret
          all_goals
            refine ⟨by rw [HMT.out, HSB.out]; rfl, HI3.out, fun M' e => ?_⟩
            rw [HMT.out, HSB.out] at e
            injection e with e
            subst e
            exact ⟨xs, HM3.out, HR.out⟩
    · have H4 := Lib.hid h4
      have e4 : (g.k == 4) = false := by simpa using h4
      clear h4
      by_cases hk : s.k = g.k
      case neg =>
        have ek : (g.k != s.k) = true := by simpa using fun e : g.k = s.k => hk e.symm
        have HP : Hid (mtf (d + 1) g s M = none) := Lib.hid (mtf_kind H4.out hk)
        clear hk
        obtain ⟨x0, x1, x2, xz⟩ := HX1.out
        obtain ⟨y0, y1, y2, yz⟩ := HY1.out
        go_enter Try.func54, Try.ntmps54
        go_wp2_with fail
        rw [HW1.out]
        go_ret
        refine ⟨by rw [HP.out]; rfl, HI1.out, fun M' e => ?_⟩
        rw [HP.out] at e
        cases e
      have HK := Lib.hid hk
      have ek : (g.k != s.k) = false := by simpa using hk.symm
      have HLL : Hid (s.ks.length = g.ks.length) := Lib.hid (fields_len FS.out (by rw [hk]; exact FG.out))
      have HMI : Hid (mtf (d + 1) g s M = iter (fun i N => mtf d (g.ks.getD i Ty.dummy) (s.ks.getD i Ty.dummy) N) g.ks.length M) := Lib.hid (mtf_iter H4.out hk)
      clear hk
      obtain ⟨x0, x1, x2, xz⟩ := HX1.out
      obtain ⟨y0, y1, y2, yz⟩ := HY1.out
      have HMS : Hid (KS w0 w S kb s g (.slice sa s.ks.length sc) (.slice ga g.ks.length gc) d 0 M W1 M xs) := Lib.hid ⟨rfl, HM1.out, HR.out, HI1.out, HB0.out, HX1.out, HY1.out⟩
      go_enter Try.func54, Try.ntmps54
      go_wp2_with fail
      rw [HW1.out]
      clear hS
      go_loopw [7] (fun i wr => ∃ (j : Nat) (N : Asn) (LL : List Value), j ≤ g.ks.length ∧ i = .int .i64 j ∧ Hid (KS w0 w S kb s g (.slice sa s.ks.length sc) (.slice ga g.ks.length gc) d j M wr N LL)) (fun i _ => g.ks.length - (intOf i).toNat)
      case atStart => exact ⟨0, M, xs, Nat.zero_le _, rfl, HMS⟩
      case round =>
        obtain ⟨j, N, LL, hj, rfl, hks⟩ := hrel
        clear x0 x1 x2 xz y0 y1 y2 yz
        obtain ⟨x0, x1, x2, xz⟩ := hks.out.bx
        obtain ⟨y0, y1, y2, yz⟩ := hks.out.by_
        by_cases hlt : j < g.ks.length
        · have hji : (j : Int) < (g.ks.length : Int) := by omega
          have hlts : j < s.ks.length := by rw [HLL.out]; exact hlt
          have hji2 : (j : Int) < (s.ks.length : Int) := by omega
          obtain ⟨sb, so, cap3, va, ex, b1, g0, g1, g2, hka⟩ := HVS.out.kid j hlts
          obtain ⟨gb, go', cap4, vb, ey, b2, g3, g4, g5, hkb⟩ := HVG.out.kid j hlt
          have ex1 : sa = some ⟨sb, so, none⟩ := by injection ex
          have ey1 : ga = some ⟨gb, go', none⟩ := by injection ey
          subst ex1
          subst ey1
          have hw0 := hks.out.b0.size
          have hsl : sb < wr.heap.size := by omega
          have hgl : gb < wr.heap.size := by omega
          replace g0 := (hks.out.b0.cell (p := ⟨sb, so + j * 3, none⟩) b1).trans g0
          replace g1 := (hks.out.b0.cell (p := ⟨sb, so + j * 3 + 1, none⟩) b1).trans g1
          replace g2 := (hks.out.b0.cell (p := ⟨sb, so + j * 3 + 2, none⟩) b1).trans g2
          replace g3 := (hks.out.b0.cell (p := ⟨gb, go' + j * 3, none⟩) b2).trans g3
          replace g4 := (hks.out.b0.cell (p := ⟨gb, go' + j * 3 + 1, none⟩) b2).trans g4
          replace g5 := (hks.out.b0.cell (p := ⟨gb, go' + j * 3 + 2, none⟩) b2).trans g5
          have HKA := Lib.hid hka
          have HKB := Lib.hid hkb
          have HSA := Lib.hid (KS_.out j hlts)
          have HSB := Lib.hid (KG.out j hlt)
          obtain ⟨A, hA⟩ : ∃ A, s.ks.getD j Ty.dummy = A := ⟨_, rfl⟩
          obtain ⟨B, hB⟩ : ∃ B, g.ks.getD j Ty.dummy = B := ⟨_, rfl⟩
          have HA := Lib.hid hA
          have HB := Lib.hid hB
          rw [hA] at g0 g1 HKA HSA
          rw [hB] at g3 g4 HKB HSB
          obtain ⟨ua, uc, rfl, _⟩ := HKA.out.slice
          obtain ⟨ub, ud, rfl, _⟩ := HKB.out.slice
          clear hA hB hka hkb ex ey
          rcases hmt : mtf d B A N with _ | N'
          · have HP : Hid (mtf (d + 1) g s M = none) := Lib.hid (by
              rw [HMI.out]
              exact iter_stop hks.out.it (by show mtf d (g.ks.getD j Ty.dummy) (s.ks.getD j Ty.dummy) N = none; rw [HA.out, HB.out]; exact hmt) hlt)
            have HMT := Lib.hid hmt
            clear hmt
            go_wp2_with fail
            go_region_held3 (fun w' => w'.cell? ⟨S, 2, none⟩ = some (.slice (some ⟨gb, go', none⟩) g.ks.length gc) ∧ w'.cell? ⟨gb, go' + j * 3, none⟩ = some (.int .i64 B.k) ∧ w'.cell? ⟨gb, go' + j * 3 + 1, none⟩ = some (.int .i64 B.n) ∧ w'.cell? ⟨gb, go' + j * 3 + 2, none⟩ = some (.slice ub B.ks.length ud) ∧ w'.cell? ⟨S + 1, 2, none⟩ = some (.slice (some ⟨sb, so, none⟩) s.ks.length sc) ∧ w'.cell? ⟨sb, so + j * 3, none⟩ = some (.int .i64 A.k) ∧ w'.cell? ⟨sb, so + j * 3 + 1, none⟩ = some (.int .i64 A.n) ∧ w'.cell? ⟨sb, so + j * 3 + 2, none⟩ = some (.slice ua A.ks.length uc)) (go_keep)
              (first | (go_at_call 54; refine (IH.out A B _ _ N LL _ HSA.out HSB.out HKA.out HKB.out (by first | exact hks.out.b0 | exact hks.out.b0.drew) (by first | exact hks.out.im | exact hks.out.im.below (Below.refl _ _).drew) hks.out.rl).mono ?_; rintro e w2 ⟨rfl, hi2, hm2⟩; rw [HMT.out]; have hi3 : Inside kb (kb + 1) wr w2 := (in_below (by first | exact Below.refl _ _ | exact (Below.refl _ _).drew)).trans hi2; have HI2 := Lib.hid hi3; have HII := Lib.hid (hks.out.hin.trans hi3); have HM2 := Lib.hid hm2; have zx2 := (cellEq (hi3.block S xz (.inr (by omega)))).trans x2; have zy2 := (cellEq (hi3.block (S + 1) yz (.inr (by omega)))).trans y2; have za0 := (cellEq (hi3.block sb hsl (.inl (by omega)))).trans g0; have za1 := (cellEq (hi3.block sb hsl (.inl (by omega)))).trans g1; have za2 := (cellEq (hi3.block sb hsl (.inl (by omega)))).trans g2; have zb0 := (cellEq (hi3.block gb hgl (.inl (by omega)))).trans g3; have zb1 := (cellEq (hi3.block gb hgl (.inl (by omega)))).trans g4; have zb2 := (cellEq (hi3.block gb hgl (.inl (by omega)))).trans g5; clear hi2 hi3 hm2))
            all_goals go_wp2_with fail
            all_goals go_ret
            all_goals
              refine ⟨by rw [HP.out]; rfl, HII.out, fun M' e => ?_⟩
              rw [HP.out] at e
              cases e
          · have HMT := Lib.hid hmt
            clear hmt
            go_wp2_with fail
            go_region_held3 (fun w' => w'.cell? ⟨S, 2, none⟩ = some (.slice (some ⟨gb, go', none⟩) g.ks.length gc) ∧ w'.cell? ⟨gb, go' + j * 3, none⟩ = some (.int .i64 B.k) ∧ w'.cell? ⟨gb, go' + j * 3 + 1, none⟩ = some (.int .i64 B.n) ∧ w'.cell? ⟨gb, go' + j * 3 + 2, none⟩ = some (.slice ub B.ks.length ud) ∧ w'.cell? ⟨S + 1, 2, none⟩ = some (.slice (some ⟨sb, so, none⟩) s.ks.length sc) ∧ w'.cell? ⟨sb, so + j * 3, none⟩ = some (.int .i64 A.k) ∧ w'.cell? ⟨sb, so + j * 3 + 1, none⟩ = some (.int .i64 A.n) ∧ w'.cell? ⟨sb, so + j * 3 + 2, none⟩ = some (.slice ua A.ks.length uc)) (go_keep)
              (first | (go_at_call 54; refine (IH.out A B _ _ N LL _ HSA.out HSB.out HKA.out HKB.out (by first | exact hks.out.b0 | exact hks.out.b0.drew) (by first | exact hks.out.im | exact hks.out.im.below (Below.refl _ _).drew) hks.out.rl).mono ?_; rintro e w2 ⟨rfl, hi2, hm2⟩; rw [HMT.out]; have hi3 : Inside kb (kb + 1) wr w2 := (in_below (by first | exact Below.refl _ _ | exact (Below.refl _ _).drew)).trans hi2; have HI2 := Lib.hid hi3; have HII := Lib.hid (hks.out.hin.trans hi3); have HM2 := Lib.hid hm2; have zx2 := (cellEq (hi3.block S xz (.inr (by omega)))).trans x2; have zy2 := (cellEq (hi3.block (S + 1) yz (.inr (by omega)))).trans y2; have za0 := (cellEq (hi3.block sb hsl (.inl (by omega)))).trans g0; have za1 := (cellEq (hi3.block sb hsl (.inl (by omega)))).trans g1; have za2 := (cellEq (hi3.block sb hsl (.inl (by omega)))).trans g2; have zb0 := (cellEq (hi3.block gb hgl (.inl (by omega)))).trans g3; have zb1 := (cellEq (hi3.block gb hgl (.inl (by omega)))).trans g4; have zb2 := (cellEq (hi3.block gb hgl (.inl (by omega)))).trans g5; clear hi2 hi3 hm2))
            all_goals obtain ⟨L2, him2, hr2⟩ := HM2.out N' HMT.out
            all_goals have HMS2 := Lib.hid (hks.out.next hbw hkb0.out HI2.out (by rw [HA.out, HB.out]; exact HMT.out) him2 hr2)
            all_goals clear him2 hr2
            all_goals go_wp2_with fail
            all_goals exact ⟨⟨j + 1, N', L2, by omega, by go_num, HMS2⟩, by simp [intOf]; omega⟩
        · obtain rfl : j = g.ks.length := by omega
          have hji : ¬ (g.ks.length : Int) < (g.ks.length : Int) := by omega
          have HP : Hid (mtf (d + 1) g s M = some N) := Lib.hid (by rw [HMI.out]; exact hks.out.it)
          go_wp2_with fail
          go_ret
          refine ⟨by rw [HP.out]; rfl, hks.out.hin, fun M' e => ?_⟩
          rw [HP.out] at e
          injection e with e
          subst e
          exact ⟨LL, hks.out.im, hks.out.rl⟩

end Go.Proofs.Ytndpoejohpmifaa.Mx

namespace Go.Proofs.Ytndpoejohpmifaa.Mx
open Go.Proofs.Ytndpoejohpmifaa
open Go.RowKit
set_option linter.unusedVariables false
set_option linter.unusedSimpArgs false

theorem grown_in {w w' : World} {bm : Nat} (h : w.grownBy w' (some bm)) : Inside bm (bm + 1) w w' :=
  ⟨h.os, h.tape, h.output, h.size, fun b hb hx => h.block b hb (fun e => by injection e; omega)⟩
/-- Where the loop of matchType stands. -/
structure MS (w0 w : World) (S bm : Nat) (s g : Ty) (vs vg : Value) (d j : Nat) (M : Asn) (wr : World) (N : Asn) (L : List IV) : Prop where
  it : iter (fun i N => mtf d (g.ks.getD i Ty.dummy) (s.ks.getD i Ty.dummy) N) j M = some N
  im : IMap wr bm L
  rl : RelI w0 N L
  hin : Inside bm (bm + 1) w wr
  b0 : Below w0.heap.size w0 wr
  bx : TBox wr S (.int .i64 s.k) (.int .i64 s.n) vs
  by_ : TBox wr (S + 1) (.int .i64 g.k) (.int .i64 g.n) vg
theorem MS.next {w0 w : World} {S bm : Nat} {s g : Ty} {vs vg : Value} {d j : Nat} {M : Asn} {wr : World} {N : Asn} {L : List IV} (h : MS w0 w S bm s g vs vg d j M wr N L) {o : Obj} {w' : World} {N' : Asn} {L' : List IV} (hbm : bm < S) (h0 : w0.heap.size ≤ bm) (hi : Inside bm (bm + 1) (wr.alloc o) w') (hm : mtf d (g.ks.getD j Ty.dummy) (s.ks.getD j Ty.dummy) N = some N') (him : IMap w' bm L') (hr : RelI w0 N' L') : MS w0 w S bm s g vs vg d (j + 1) M w' N' L' := by
  have hA : Inside bm (bm + 1) wr (wr.alloc o) := in_below ((Below.refl _ _).alloc (Nat.le_refl _) _)
  have hI := hA.trans hi
  exact ⟨iter_next h.it hm, him, hr, h.hin.trans hI, hI.below h0 h.b0 h.b0.size, h.bx.aside hI.size (hI.block _ h.bx.sz (.inr (by omega))), h.by_.aside hI.size (hI.block _ h.by_.sz (.inr (by omega)))⟩

set_option maxRecDepth 100000 in
set_option maxHeartbeats 4000000 in
theorem matchType_any (w0 : World) (bm : Nat) (hbm : w0.heap.size ≤ bm) : ∀ (d : Nat) (s g : Ty) (vs vg : Value) (M : Asn) (L : List IV) (w : World), shp d s = true → shp d g = true → nodes s ≤ 1048577 → TyOk w0 s vs → TyOk w0 g vg → Below w0.heap.size w0 w → IMap w bm L → RelI w0 M L →
    Calls Try.prog 53 #[.agg #[.int .i64 s.k, .int .i64 s.n, vs], .agg #[.int .i64 g.k, .int .i64 g.n, vg], .map (some bm)] w fun e w' => e = .returned (.bool (mtf d g s M).isSome) ∧ Inside bm (bm + 1) w w' ∧ ∀ M', mtf d g s M = some M' → ∃ L', IMap w' bm L' ∧ RelI w0 M' L' := by
  intro d
  induction d with
  | zero => intro s g vs vg M L w hs; exact (shp_zero hs).elim
  | succ d ih =>
    intro s g vs vg M L w hs hg hn hvs hvg hb hm hr
    have IH := Lib.hid ih
    obtain ⟨fs, ks⟩ := shp_parts hs
    obtain ⟨fg, kg⟩ := shp_parts hg
    have FS := Lib.hid fs
    have FG := Lib.hid fg
    have KS := Lib.hid ks
    have KG := Lib.hid kg
    have HN := Lib.hid hn
    have HR := Lib.hid hr
    have HVS := Lib.hid hvs
    have HVG := Lib.hid hvg
    obtain ⟨sa, sc, rfl, _⟩ := hvs.at.slice
    obtain ⟨ga, gc, rfl, _⟩ := hvg.at.slice
    have hbw := hm.lt
    obtain ⟨S, hS⟩ : ∃ S, w.heap.size = S := ⟨_, rfl⟩
    rw [hS] at hbw
    obtain ⟨W1, hW1⟩ : ∃ W, (w.alloc (.cells #[.int .i64 s.k, .int .i64 s.n, .slice sa s.ks.length sc] 25)).alloc (.cells #[.int .i64 g.k, .int .i64 g.n, .slice ga g.ks.length gc] 25) = W := ⟨_, rfl⟩
    have hB1 : Below w.heap.size w W1 := by rw [← hW1]; exact ((Below.refl _ _).alloc (Nat.le_refl _) _).alloc (by simp) _
    have HX1 : Hid (TBox W1 S (.int .i64 s.k) (.int .i64 s.n) (.slice sa s.ks.length sc)) := Lib.hid (by
      rw [← hW1, ← hS]; exact (tbox_new w _ _ _ _).kept ((Below.refl _ _).alloc (Nat.le_refl _) _))
    have HY1 : Hid (TBox W1 (S + 1) (.int .i64 g.k) (.int .i64 g.n) (.slice ga g.ks.length gc)) := Lib.hid (by
      have h := tbox_new (w.alloc (.cells #[.int .i64 s.k, .int .i64 s.n, .slice sa s.ks.length sc] 25)) (.int .i64 g.k) (.int .i64 g.n) (.slice ga g.ks.length gc) 25
      rw [hW1, sizeA', hS] at h; exact h)
    have HM1 := Lib.hid (hm.inside hB1)
    have HB1 := Lib.hid hB1
    have HI1 : Hid (Inside bm (bm + 1) w W1) := Lib.hid (in_below hB1)
    have HB0 := Lib.hid (hb.trans (hB1.mono hb.size))
    have HW1 := Lib.hid hW1
    have HS := Lib.hid hS
    clear ih hs hg fs fg ks kg hn hr hvs hvg hb hm hB1 hW1
    by_cases h4 : g.k = 4
    · have H4 := Lib.hid h4
      have e4 : (g.k == 4) = true := by simpa using h4
      have HV := Lib.hid (fields_var FG.out h4)
      clear h4
      rcases ha : alook g.n M with _ | b
      · have hl := HR.out.no _ ha
        have L1 := lookup_run W1 bm L g.n HM1.out
        rw [hl] at L1
        have L1 : (Instr.lookup 75 (.map (some bm)) (.int .i64 g.n) true).run Try.prog ((w.alloc (.cells #[.int .i64 s.k, .int .i64 s.n, .slice sa s.ks.length sc] 25)).alloc (.cells #[.int .i64 g.k, .int .i64 g.n, .slice ga g.ks.length gc] 25)) = .ok (.tuple #[.agg #[.int .i64 0, .int .i64 0, .slice none 0 0], .bool false]) ((w.alloc (.cells #[.int .i64 s.k, .int .i64 s.n, .slice sa s.ks.length sc] 25)).alloc (.cells #[.int .i64 g.k, .int .i64 g.n, .slice ga g.ks.length gc] 25)) := by rw [HW1.out]; exact L1
        have hAz : Below W1.heap.size W1 (W1.alloc (.cells #[.int .i64 0, .int .i64 0, .slice none 0 0] 25)) := (Below.refl _ _).alloc (Nat.le_refl _) _
        obtain ⟨w3, L3, him, hgr⟩ := update_run (W1.alloc (.cells #[.int .i64 0, .int .i64 0, .slice none 0 0] 25)) bm L g.n (.agg #[.int .i64 s.k, .int .i64 s.n, .slice sa s.ks.length sc]) (HM1.out.inside hAz)
        have L3 : (Instr.mapUpdate 75 (.map (some bm)) (.int .i64 g.n) (.agg #[.int .i64 s.k, .int .i64 s.n, .slice sa s.ks.length sc])).run Try.prog (((w.alloc (.cells #[.int .i64 s.k, .int .i64 s.n, .slice sa s.ks.length sc] 25)).alloc (.cells #[.int .i64 g.k, .int .i64 g.n, .slice ga g.ks.length gc] 25)).alloc (.cells #[.int .i64 0, .int .i64 0, .slice none 0 0] 25)) = .ok () w3 := by rw [HW1.out]; exact L3
        have HP : Hid (.returned (.bool true) = Ending.returned (.bool (mtf (d + 1) g s M).isSome) ∧ Inside bm (bm + 1) w w3 ∧ ∀ M', mtf (d + 1) g s M = some M' → ∃ L', IMap w3 bm L' ∧ RelI w0 M' L') := Lib.hid ⟨by rw [mtf_new H4.out ha]; rfl, HI1.out.trans ((in_below hAz).trans (grown_in hgr)), fun M' e => by
          rw [mtf_new H4.out ha] at e
          injection e with e
          subst e
          exact ⟨_, him, HR.out.put ha HVS.out HN.out⟩⟩
        obtain ⟨x0, x1, x2, xz⟩ := HX1.out
        obtain ⟨y0, y1, y2, yz⟩ := HY1.out
        clear hl ha him hgr hAz
        go_enter Try.func53, Try.ntmps53
        go_wp2_with fail
        go_ret
        exact HP.out
      · obtain ⟨vb, hl, hok, hnb⟩ := HR.out.yes _ _ ha
        have L1 := lookup_run W1 bm L g.n HM1.out
        rw [hl] at L1
        have L1 : (Instr.lookup 75 (.map (some bm)) (.int .i64 g.n) true).run Try.prog ((w.alloc (.cells #[.int .i64 s.k, .int .i64 s.n, .slice sa s.ks.length sc] 25)).alloc (.cells #[.int .i64 g.k, .int .i64 g.n, .slice ga g.ks.length gc] 25)) = .ok (.tuple #[.agg #[.int .i64 b.k, .int .i64 b.n, vb], .bool true]) ((w.alloc (.cells #[.int .i64 s.k, .int .i64 s.n, .slice sa s.ks.length sc] 25)).alloc (.cells #[.int .i64 g.k, .int .i64 g.n, .slice ga g.ks.length gc] 25)) := by rw [HW1.out]; exact L1
        obtain ⟨ba, bc, rfl, _⟩ := hok.at.slice
        have HOK := Lib.hid hok
        have hAz : Below W1.heap.size W1 (W1.alloc (.cells #[.int .i64 b.k, .int .i64 b.n, .slice ba b.ks.length bc] 25)) := (Below.refl _ _).alloc (Nat.le_refl _) _
        have HB2 := Lib.hid (HB0.out.trans (hAz.mono HB0.out.size))
        have HM2 := Lib.hid (HM1.out.inside hAz)
        have HI2 : Hid (Inside bm (bm + 1) w _) := Lib.hid (HI1.out.trans (in_below hAz))
        have HMT : Hid (mtf (d + 1) g s M = if sameB b s = true then some M else none) := Lib.hid (mtf_old H4.out ha)
        obtain ⟨x0, x1, x2, xz⟩ := HX1.out
        obtain ⟨y0, y1, y2, yz⟩ := HY1.out
        clear hl hok ha hAz
        rcases hs : sameB b s with _ | _
        · have HSB := Lib.hid hs
          clear hs
          go_enter Try.func53, Try.ntmps53
          go_wp2_with fail
          rw [HW1.out]
          go_at_call 17
          refine (typeSame_impl b s 0 _ _ _ hnb (HOK.out.kept HB2.out) (HVS.out.kept HB2.out)).mono ?_
          rintro e w2 ⟨rfl, hb2⟩
          rw [HSB.out]
          have HI3 := Lib.hid (HI2.out.trans (in_below hb2))
          clear hb2
          go_wp2_with fail
          go_ret
          refine ⟨by rw [HMT.out, HSB.out]; rfl, HI3.out, fun M' e => ?_⟩
          rw [HMT.out, HSB.out] at e
          cases e
        · have HSB := Lib.hid hs
          clear hs
          go_enter Try.func53, Try.ntmps53
          go_wp2_with fail
          rw [HW1.out]
          go_at_call 17
          refine (typeSame_impl b s 0 _ _ _ hnb (HOK.out.kept HB2.out) (HVS.out.kept HB2.out)).mono ?_
          rintro e w2 ⟨rfl, hb2⟩
          rw [HSB.out]
          have HI3 := Lib.hid (HI2.out.trans (in_below hb2))
          have HM3 := Lib.hid (HM2.out.inside hb2)
          clear hb2
          go_wp2_with fail
          go_ret
          refine ⟨by rw [HMT.out, HSB.out]; rfl, HI3.out, fun M' e => ?_⟩
          rw [HMT.out, HSB.out] at e
          injection e with e
          subst e
          exact ⟨L, HM3.out, HR.out⟩
    · have H4 := Lib.hid h4
      have e4 : (g.k == 4) = false := by simpa using h4
      clear h4
      by_cases hk : s.k = g.k
      case neg =>
        have ek : (s.k != g.k) = true := by simpa using hk
        have HP : Hid (mtf (d + 1) g s M = none) := Lib.hid (mtf_kind H4.out hk)
        clear hk
        obtain ⟨x0, x1, x2, xz⟩ := HX1.out
        obtain ⟨y0, y1, y2, yz⟩ := HY1.out
        go_enter Try.func53, Try.ntmps53
        go_wp2_with fail
        rw [HW1.out]
        go_ret
        refine ⟨by rw [HP.out]; rfl, HI1.out, fun M' e => ?_⟩
        rw [HP.out] at e
        cases e
      have HK := Lib.hid hk
      have ek : (s.k != g.k) = false := by simpa using hk
      have HLL : Hid (s.ks.length = g.ks.length) := Lib.hid (fields_len FS.out (by rw [hk]; exact FG.out))
      have HMI : Hid (mtf (d + 1) g s M = iter (fun i N => mtf d (g.ks.getD i Ty.dummy) (s.ks.getD i Ty.dummy) N) g.ks.length M) := Lib.hid (mtf_iter H4.out hk)
      clear hk
      obtain ⟨x0, x1, x2, xz⟩ := HX1.out
      obtain ⟨y0, y1, y2, yz⟩ := HY1.out
      have HMS : Hid (MS w0 w S bm s g (.slice sa s.ks.length sc) (.slice ga g.ks.length gc) d 0 M W1 M L) := Lib.hid ⟨rfl, HM1.out, HR.out, HI1.out, HB0.out, HX1.out, HY1.out⟩
      go_enter Try.func53, Try.ntmps53
      go_wp2_with fail
      rw [HW1.out]
      clear hS
      go_loopw [37] (fun i wr => ∃ (j : Nat) (N : Asn) (LL : List IV), j ≤ g.ks.length ∧ i = .int .i64 j ∧ Hid (MS w0 w S bm s g (.slice sa s.ks.length sc) (.slice ga g.ks.length gc) d j M wr N LL)) (fun i _ => g.ks.length - (intOf i).toNat)
      case atStart => exact ⟨0, M, L, Nat.zero_le _, rfl, HMS⟩
      case round =>
        obtain ⟨j, N, LL, hj, rfl, hms⟩ := hrel
        clear x0 x1 x2 xz y0 y1 y2 yz
        obtain ⟨x0, x1, x2, xz⟩ := hms.out.bx
        obtain ⟨y0, y1, y2, yz⟩ := hms.out.by_
        by_cases hlt : j < g.ks.length
        · have hji : (j : Int) < (g.ks.length : Int) := by omega
          have hlts : j < s.ks.length := by rw [HLL.out]; exact hlt
          have hji2 : (j : Int) < (s.ks.length : Int) := by omega
          obtain ⟨sb, so, rfl, hrs⟩ := HVS.out.row_of (by omega)
          obtain ⟨gb, go', rfl, hrt⟩ := HVG.out.row_of (by omega)
          obtain ⟨b1, g0, g1, g2, go1⟩ := HVS.out.cells j hlts
          obtain ⟨b2, g3, g4, g5, go2⟩ := HVG.out.cells j hlt
          replace g0 := (hms.out.b0.cell (p := ⟨sb, so + j * 3, none⟩) b1).trans g0
          replace g1 := (hms.out.b0.cell (p := ⟨sb, so + j * 3 + 1, none⟩) b1).trans g1
          replace g2 := (hms.out.b0.cell (p := ⟨sb, so + j * 3 + 2, none⟩) b1).trans g2
          replace g3 := (hms.out.b0.cell (p := ⟨gb, go' + j * 3, none⟩) b2).trans g3
          replace g4 := (hms.out.b0.cell (p := ⟨gb, go' + j * 3 + 1, none⟩) b2).trans g4
          replace g5 := (hms.out.b0.cell (p := ⟨gb, go' + j * 3 + 2, none⟩) b2).trans g5
          have HKA : Hid (TyOk w0 (s.ks.getD j Ty.dummy) (kidV w0 (.slice (some ⟨sb, so, none⟩) s.ks.length sc) j)) := Lib.hid (OkR.kid (r := (s, .slice (some ⟨sb, so, none⟩) s.ks.length sc)) HVS.out hlts)
          have HKB : Hid (TyOk w0 (g.ks.getD j Ty.dummy) (kidV w0 (.slice (some ⟨gb, go', none⟩) g.ks.length gc) j)) := Lib.hid (OkR.kid (r := (g, .slice (some ⟨gb, go', none⟩) g.ks.length gc)) HVG.out hlt)
          have HSA := Lib.hid (KS.out j hlts)
          have HSB := Lib.hid (KG.out j hlt)
          have HNA := Lib.hid (Nat.le_trans (nodes_kid hlts) HN.out)
          obtain ⟨A, hA⟩ : ∃ A, s.ks.getD j Ty.dummy = A := ⟨_, rfl⟩
          obtain ⟨B, hB⟩ : ∃ B, g.ks.getD j Ty.dummy = B := ⟨_, rfl⟩
          obtain ⟨va, hva⟩ : ∃ v, kidV w0 (Value.slice (some ⟨sb, so, none⟩) s.ks.length sc) j = v := ⟨_, rfl⟩
          obtain ⟨vb, hvb⟩ : ∃ v, kidV w0 (Value.slice (some ⟨gb, go', none⟩) g.ks.length gc) j = v := ⟨_, rfl⟩
          have HA := Lib.hid hA
          have HB := Lib.hid hB
          rw [hA] at g0 g1 HKA HSA HNA
          rw [hB] at g3 g4 HKB HSB
          rw [hva] at g2 go1 HKA
          rw [hvb] at g5 go2 HKB
          obtain ⟨ua, uc, rfl, _⟩ := HKA.out.at.slice
          obtain ⟨ub, ud, rfl, _⟩ := HKB.out.at.slice
          clear hA hB hva hvb hrs hrt
          have hAl : Below wr.heap.size wr (wr.alloc (.cells #[.int .i64 B.k, .int .i64 B.n, .slice ub B.ks.length ud] 25)) := (Below.refl _ _).alloc (Nat.le_refl _) _
          have HXA := Lib.hid (hms.out.bx.kept hAl)
          have HKB2 : Hid (TBox (wr.alloc (.cells #[.int .i64 B.k, .int .i64 B.n, .slice ub B.ks.length ud] 25)) wr.heap.size (.int .i64 B.k) (.int .i64 B.n) (.slice ub B.ks.length ud)) := Lib.hid (tbox_new wr _ _ _ _)
          have HBA := Lib.hid (hms.out.b0.trans (hAl.mono hms.out.b0.size))
          have HMA := Lib.hid (hms.out.im.inside hAl)
          have HRL := Lib.hid hms.out.rl
          have hsl : sb < (wr.alloc (.cells #[.int .i64 B.k, .int .i64 B.n, .slice ub B.ks.length ud] 25)).heap.size := by
            have := hms.out.b0.size; rw [sizeA']; omega
          have G0 := Lib.hid ((hAl.cell (p := ⟨sb, so + j * 3, none⟩) (by have := hms.out.b0.size; show sb < _; omega)).trans g0)
          have G1 := Lib.hid ((hAl.cell (p := ⟨sb, so + j * 3 + 1, none⟩) (by have := hms.out.b0.size; show sb < _; omega)).trans g1)
          have G2 := Lib.hid ((hAl.cell (p := ⟨sb, so + j * 3 + 2, none⟩) (by have := hms.out.b0.size; show sb < _; omega)).trans g2)
          have hsbm : sb ≠ bm := by omega
          have hwbm : bm + 1 ≤ wr.heap.size := hms.out.im.lt
          have HIA : Hid (Inside bm (bm + 1) wr (wr.alloc (.cells #[.int .i64 B.k, .int .i64 B.n, .slice ub B.ks.length ud] 25))) := Lib.hid (in_below hAl)
          rcases hmt : mtf d B A N with _ | N'
          · have HP : Hid (mtf (d + 1) g s M = none) := Lib.hid (by
              rw [HMI.out]
              exact iter_stop hms.out.it (by show mtf d (g.ks.getD j Ty.dummy) (s.ks.getD j Ty.dummy) N = none; rw [HA.out, HB.out]; exact hmt) hlt)
            have HMT := Lib.hid hmt
            clear hmt hAl
            go_wp2_with fail
            go_region_held3 (fun w' => w'.cell? ⟨S, 2, none⟩ = some (.slice (some ⟨sb, so, none⟩) s.ks.length sc) ∧ w'.cell? ⟨sb, so + j * 3, none⟩ = some (.int .i64 A.k) ∧ w'.cell? ⟨sb, so + j * 3 + 1, none⟩ = some (.int .i64 A.n) ∧ w'.cell? ⟨sb, so + j * 3 + 2, none⟩ = some (.slice ua A.ks.length uc) ∧ w'.cell? ⟨wr.heap.size, 0, none⟩ = some (.int .i64 B.k) ∧ w'.cell? ⟨wr.heap.size, 1, none⟩ = some (.int .i64 B.n) ∧ w'.cell? ⟨wr.heap.size, 2, none⟩ = some (.slice ub B.ks.length ud)) (go_keep)
              (first | (go_at_call 53; refine (IH.out A B _ _ N LL _ HSA.out HSB.out HNA.out HKA.out HKB.out (by first | exact HBA.out | exact HBA.out.drew) (by first | exact HMA.out | exact HMA.out.inside (Below.refl _ _).drew) HRL.out).mono ?_; rintro e w2 ⟨rfl, hi2, hm2⟩; rw [HMT.out]; have hi3 : Inside bm (bm + 1) (wr.alloc (.cells #[.int .i64 B.k, .int .i64 B.n, .slice ub B.ks.length ud] 25)) w2 := (in_below (by first | exact Below.refl _ _ | exact (Below.refl _ _).drew)).trans hi2; have HI2 := Lib.hid hi3; have HII := Lib.hid (hms.out.hin.trans (HIA.out.trans hi3)); have HM2 := Lib.hid hm2; have zx2 := (cellEq (hi3.block S HXA.out.sz (.inr (by omega)))).trans HXA.out.c2; have zg0 := (cellEq (hi3.block sb hsl (by omega))).trans G0.out; have zg1 := (cellEq (hi3.block sb hsl (by omega))).trans G1.out; have zg2 := (cellEq (hi3.block sb hsl (by omega))).trans G2.out; have zk0 := (cellEq (hi3.block wr.heap.size HKB2.out.sz (.inr (by omega)))).trans HKB2.out.c0; have zk1 := (cellEq (hi3.block wr.heap.size HKB2.out.sz (.inr (by omega)))).trans HKB2.out.c1; have zk2 := (cellEq (hi3.block wr.heap.size HKB2.out.sz (.inr (by omega)))).trans HKB2.out.c2; clear hi2 hi3 hm2))
            all_goals go_wp2_with fail
            all_goals go_ret
            all_goals
              refine ⟨by rw [HP.out]; rfl, HII.out, fun M' e => ?_⟩
              rw [HP.out] at e
              cases e
          · have HMT := Lib.hid hmt
            clear hmt hAl
            go_wp2_with fail
            go_region_held3 (fun w' => w'.cell? ⟨S, 2, none⟩ = some (.slice (some ⟨sb, so, none⟩) s.ks.length sc) ∧ w'.cell? ⟨sb, so + j * 3, none⟩ = some (.int .i64 A.k) ∧ w'.cell? ⟨sb, so + j * 3 + 1, none⟩ = some (.int .i64 A.n) ∧ w'.cell? ⟨sb, so + j * 3 + 2, none⟩ = some (.slice ua A.ks.length uc) ∧ w'.cell? ⟨wr.heap.size, 0, none⟩ = some (.int .i64 B.k) ∧ w'.cell? ⟨wr.heap.size, 1, none⟩ = some (.int .i64 B.n) ∧ w'.cell? ⟨wr.heap.size, 2, none⟩ = some (.slice ub B.ks.length ud)) (go_keep)
              (first | (go_at_call 53; refine (IH.out A B _ _ N LL _ HSA.out HSB.out HNA.out HKA.out HKB.out (by first | exact HBA.out | exact HBA.out.drew) (by first | exact HMA.out | exact HMA.out.inside (Below.refl _ _).drew) HRL.out).mono ?_; rintro e w2 ⟨rfl, hi2, hm2⟩; rw [HMT.out]; have hi3 : Inside bm (bm + 1) (wr.alloc (.cells #[.int .i64 B.k, .int .i64 B.n, .slice ub B.ks.length ud] 25)) w2 := (in_below (by first | exact Below.refl _ _ | exact (Below.refl _ _).drew)).trans hi2; have HI2 := Lib.hid hi3; have HII := Lib.hid (hms.out.hin.trans (HIA.out.trans hi3)); have HM2 := Lib.hid hm2; have zx2 := (cellEq (hi3.block S HXA.out.sz (.inr (by omega)))).trans HXA.out.c2; have zg0 := (cellEq (hi3.block sb hsl (by omega))).trans G0.out; have zg1 := (cellEq (hi3.block sb hsl (by omega))).trans G1.out; have zg2 := (cellEq (hi3.block sb hsl (by omega))).trans G2.out; have zk0 := (cellEq (hi3.block wr.heap.size HKB2.out.sz (.inr (by omega)))).trans HKB2.out.c0; have zk1 := (cellEq (hi3.block wr.heap.size HKB2.out.sz (.inr (by omega)))).trans HKB2.out.c1; have zk2 := (cellEq (hi3.block wr.heap.size HKB2.out.sz (.inr (by omega)))).trans HKB2.out.c2; clear hi2 hi3 hm2))
            all_goals obtain ⟨L2, him2, hr2⟩ := HM2.out N' HMT.out
            all_goals have HMS2 := Lib.hid (hms.out.next hbw hbm HI2.out (by rw [HA.out, HB.out]; exact HMT.out) him2 hr2)
            all_goals clear him2 hr2
            all_goals go_wp2_with fail
            all_goals exact ⟨⟨j + 1, N', L2, by omega, by go_num, HMS2⟩, by simp [intOf]; omega⟩
        · obtain rfl : j = g.ks.length := by omega
          have hji : ¬ (g.ks.length : Int) < (g.ks.length : Int) := by omega
          have HP : Hid (mtf (d + 1) g s M = some N) := Lib.hid (by rw [HMI.out]; exact hms.out.it)
          go_wp2_with fail
          go_ret
          refine ⟨by rw [HP.out]; rfl, hms.out.hin, fun M' e => ?_⟩
          rw [HP.out] at e
          injection e with e
          subst e
          exact ⟨LL, hms.out.im, hms.out.rl⟩

end Go.Proofs.Ytndpoejohpmifaa.Mx

namespace Go.Proofs.Ytndpoejohpmifaa.Mx
open Go.Proofs.Ytndpoejohpmifaa
open Go.RowKit
set_option linter.unusedVariables false
set_option linter.unusedSimpArgs false

/-- Whether s is an instance of g. -/
noncomputable def instB (s g : Ty) : Bool := tvT s && (tvT g && (mtf 16 g s []).isSome)
theorem tv_shp {t : Ty} (h : tvT t = true) : shp 16 t = true := by
  rcases hs : shp 16 t with _ | _
  · rw [tvT_no hs] at h; cases h
  · rfl
def rowZ : Array Value := madeCells #[.int .i64 0, .int .i64 0, .slice none 0 0] 78
theorem rowZ_at : ∀ n, n < 26 → rowZ.toList[n * 3]? = some (.int .i64 0) := by
  intro n hn
  have h : n * 3 < 78 := by omega
  have hm : n * 3 % 3 = 0 := by omega
  simp [rowZ, madeCells, h, hm]
theorem rowZ_size : rowZ.size = 26 * 3 := by kernel_rfl
theorem RelS.start (w0 : World) : RelS w0 [] rowZ.toList := ⟨fun n hn _ => rowZ_at n hn, fun n hn t h => by cases h⟩
theorem kr_new (w : World) (kb : Nat) (h : w.heap.size = kb) : KR (w.alloc (.cells rowZ 25)) kb rowZ.toList := by
  subst h
  exact World.ownsRow_lit (e := 25) (size := 3) w rowZ 26 (Nat.le_refl _) (by decide) rowZ_size
theorem make_run (w : World) : (Instr.makeSlice 23 (.int .i64 26) (.int .i64 26)).run Try.prog w = .ok (.slice (some ⟨w.heap.size, 0, none⟩) 26 26) (w.alloc (.cells rowZ 25)) := by
  obtain ⟨i0, hi, hz0, hz1, hz2⟩ := info_parts infoTyp
  have h := run_make (P := Try.prog) w 23 25 i0 _ Try.underlying23 hi hz0 .i64 .i64 26 26 (by decide) (by decide) (by rw [hz2]; decide) (by decide)
  rw [hz1] at h
  exact h

set_option maxRecDepth 100000 in
set_option maxHeartbeats 4000000 in
theorem instanceOf_spec (s g : Ty) (vs vg : Value) (w : World) (hs : TyAt w s vs) (hg : TyAt w g vg) :
    Calls Try.prog 22 #[.agg #[.int .i64 s.k, .int .i64 s.n, vs], .agg #[.int .i64 g.k, .int .i64 g.n, vg]] w fun e w' => e = .returned (.bool (instB s g)) ∧ Below w.heap.size w w' := by
  have HVS := Lib.hid hs
  have HVG := Lib.hid hg
  obtain ⟨sa, sc, rfl, _⟩ := hs.slice
  obtain ⟨ga, gc, rfl, _⟩ := hg.slice
  clear hs hg
  obtain ⟨W1, hW1⟩ : ∃ W, (w.alloc (.cells #[.int .i64 s.k, .int .i64 s.n, .slice sa s.ks.length sc] 25)).alloc (.cells #[.int .i64 g.k, .int .i64 g.n, .slice ga g.ks.length gc] 25) = W := ⟨_, rfl⟩
  have HB1 : Hid (Below w.heap.size w W1) := Lib.hid (by rw [← hW1]; exact ((Below.refl _ _).alloc (Nat.le_refl _) _).alloc (by simp) _)
  have HX1 : Hid (TBox W1 w.heap.size (.int .i64 s.k) (.int .i64 s.n) (.slice sa s.ks.length sc)) := Lib.hid (by
    rw [← hW1]; exact (tbox_new w _ _ _ _).kept ((Below.refl _ _).alloc (Nat.le_refl _) _))
  have HY1 : Hid (TBox W1 (w.heap.size + 1) (.int .i64 g.k) (.int .i64 g.n) (.slice ga g.ks.length gc)) := Lib.hid (by
    have h := tbox_new (w.alloc (.cells #[.int .i64 s.k, .int .i64 s.n, .slice sa s.ks.length sc] 25)) (.int .i64 g.k) (.int .i64 g.n) (.slice ga g.ks.length gc) 25
    rw [hW1, sizeA'] at h; exact h)
  have HW1 := Lib.hid hW1
  clear hW1
  rcases h1 : tvT s with _ | _
  · have H1 := Lib.hid h1
    clear h1
    go_enter Try.func22, Try.ntmps22
    go_wp2_with fail
    rw [HW1.out]
    go_at_call 16
    refine (typeValid_spec s _ W1 (HVS.out.kept HB1.out)).mono ?_
    rintro e w2 ⟨rfl, hb2⟩
    rw [H1.out]
    have HB2 := Lib.hid (HB1.out.trans (hb2.mono HB1.out.size))
    clear hb2
    go_wp2_with fail
    go_ret
    exact ⟨by unfold instB; rw [H1.out]; rfl, HB2.out⟩
  have H1 := Lib.hid h1
  rcases h2 : tvT g with _ | _
  · have H2 := Lib.hid h2
    clear h1 h2
    go_enter Try.func22, Try.ntmps22
    go_wp2_with fail
    rw [HW1.out]
    go_at_call 16
    refine (typeValid_spec s _ W1 (HVS.out.kept HB1.out)).mono ?_
    rintro e w2 ⟨rfl, hb2⟩
    rw [H1.out]
    have HB2 := Lib.hid (HB1.out.trans (hb2.mono HB1.out.size))
    have HY2 := Lib.hid (HY1.out.kept hb2)
    clear hb2
    obtain ⟨y0, y1, y2, yz⟩ := HY2.out
    go_wp2_with fail
    go_at_call 16
    refine (typeValid_spec g _ w2 (HVG.out.kept HB2.out)).mono ?_
    rintro e w3 ⟨rfl, hb3⟩
    rw [H2.out]
    have HB3 := Lib.hid (HB2.out.trans (hb3.mono HB2.out.size))
    clear hb3
    go_wp2_with fail
    go_ret
    exact ⟨by unfold instB; rw [H1.out, H2.out]; rfl, HB3.out⟩
  have H2 := Lib.hid h2
  have HSS := Lib.hid (tv_shp h1)
  have HSG := Lib.hid (tv_shp h2)
  clear h1 h2
  obtain ⟨b, hb⟩ : ∃ b, (mtf 16 g s []).isSome = b := ⟨_, rfl⟩
  have HM := Lib.hid hb
  clear hb
  go_enter Try.func22, Try.ntmps22
  go_wp2_with fail
  rw [HW1.out]
  go_at_call 16
  refine (typeValid_spec s _ W1 (HVS.out.kept HB1.out)).mono ?_
  rintro e w2 ⟨rfl, hb2⟩
  rw [H1.out]
  have HB2 := Lib.hid (HB1.out.trans (hb2.mono HB1.out.size))
  have HX2 := Lib.hid (HX1.out.kept hb2)
  have HY2 := Lib.hid (HY1.out.kept hb2)
  clear hb2
  obtain ⟨y0, y1, y2, yz⟩ := HY2.out
  go_wp2_with fail
  go_at_call 16
  refine (typeValid_spec g _ w2 (HVG.out.kept HB2.out)).mono ?_
  rintro e w3 ⟨rfl, hb3⟩
  rw [H2.out]
  have HB3 := Lib.hid (HB2.out.trans (hb3.mono HB2.out.size))
  have HX3 := Lib.hid (HX2.out.kept hb3)
  have HY3 := Lib.hid (HY2.out.kept hb3)
  clear hb3 y0 y1 y2 yz
  obtain ⟨x0, x1, x2, xz⟩ := HX3.out
  obtain ⟨y0, y1, y2, yz⟩ := HY3.out
  have hmk := make_run
  go_wp2_with fail
  go_region_held3 (fun w' => w'.cell? ⟨w.heap.size, 0, none⟩ = some (.int .i64 s.k) ∧ w'.cell? ⟨w.heap.size, 1, none⟩ = some (.int .i64 s.n) ∧ w'.cell? ⟨w.heap.size, 2, none⟩ = some (.slice sa s.ks.length sc) ∧ w'.cell? ⟨w.heap.size + 1, 0, none⟩ = some (.int .i64 g.k) ∧ w'.cell? ⟨w.heap.size + 1, 1, none⟩ = some (.int .i64 g.n) ∧ w'.cell? ⟨w.heap.size + 1, 2, none⟩ = some (.slice ga g.ks.length gc)) (go_keep)
    (first | (go_at_call 54; have hA : Below w3.heap.size w3 (w3.alloc (.cells rowZ 25)) := (Below.refl _ _).alloc (Nat.le_refl _) _; have hAd : Below w3.heap.size w3 (w3.alloc (.cells rowZ 25)).drew := hA.drew; have hkr : KR (w3.alloc (.cells rowZ 25)).drew w3.heap.size rowZ.toList := (kr_new w3 _ rfl).below (Below.refl _ _).drew; refine (l2Match_any w3 w3.heap.size (Nat.le_refl _) 16 s g _ _ [] rowZ.toList _ HSS.out HSG.out (HVS.out.kept HB3.out) (HVG.out.kept HB3.out) hAd hkr (RelS.start w3)).mono ?_; rintro e w4 ⟨rfl, hi4, _⟩; rw [HM.out]; have hb4 : Below w3.heap.size w3 w4 := hi4.below (Nat.le_refl _) hAd hAd.size; have HB4 := Lib.hid (HB3.out.trans (hb4.mono HB3.out.size)); have zx0 := (hb4.cell (p := ⟨w.heap.size, 0, none⟩) xz).trans x0; have zx1 := (hb4.cell (p := ⟨w.heap.size, 1, none⟩) xz).trans x1; have zx2 := (hb4.cell (p := ⟨w.heap.size, 2, none⟩) xz).trans x2; have zy0 := (hb4.cell (p := ⟨w.heap.size + 1, 0, none⟩) yz).trans y0; have zy1 := (hb4.cell (p := ⟨w.heap.size + 1, 1, none⟩) yz).trans y1; have zy2 := (hb4.cell (p := ⟨w.heap.size + 1, 2, none⟩) yz).trans y2; clear hA hAd hkr hi4 hb4))
  all_goals go_wp2_with fail
  all_goals go_ret
  all_goals exact ⟨by unfold instB; rw [H1.out, H2.out, HM.out]; rfl, HB4.out⟩

set_option maxRecDepth 100000 in
set_option maxHeartbeats 4000000 in
theorem instanceOf_impl (s g : Ty) (vs vg : Value) (w : World) (hn : nodes s ≤ 1048577) (hs : TyOk w s vs) (hg : TyOk w g vg) :
    Calls Try.prog 21 #[.agg #[.int .i64 s.k, .int .i64 s.n, vs], .agg #[.int .i64 g.k, .int .i64 g.n, vg]] w fun e w' => e = .returned (.bool (instB s g)) ∧ Below w.heap.size w w' := by
  have HVS := Lib.hid hs
  have HVG := Lib.hid hg
  obtain ⟨sa, sc, rfl, _⟩ := hs.at.slice
  obtain ⟨ga, gc, rfl, _⟩ := hg.at.slice
  clear hs hg
  obtain ⟨W1, hW1⟩ : ∃ W, (w.alloc (.cells #[.int .i64 s.k, .int .i64 s.n, .slice sa s.ks.length sc] 25)).alloc (.cells #[.int .i64 g.k, .int .i64 g.n, .slice ga g.ks.length gc] 25) = W := ⟨_, rfl⟩
  have HB1 : Hid (Below w.heap.size w W1) := Lib.hid (by rw [← hW1]; exact ((Below.refl _ _).alloc (Nat.le_refl _) _).alloc (by simp) _)
  have HX1 : Hid (TBox W1 w.heap.size (.int .i64 s.k) (.int .i64 s.n) (.slice sa s.ks.length sc)) := Lib.hid (by
    rw [← hW1]; exact (tbox_new w _ _ _ _).kept ((Below.refl _ _).alloc (Nat.le_refl _) _))
  have HY1 : Hid (TBox W1 (w.heap.size + 1) (.int .i64 g.k) (.int .i64 g.n) (.slice ga g.ks.length gc)) := Lib.hid (by
    have h := tbox_new (w.alloc (.cells #[.int .i64 s.k, .int .i64 s.n, .slice sa s.ks.length sc] 25)) (.int .i64 g.k) (.int .i64 g.n) (.slice ga g.ks.length gc) 25
    rw [hW1, sizeA'] at h; exact h)
  have HW1 := Lib.hid hW1
  clear hW1
  rcases h1 : tvT s with _ | _
  · have H1 := Lib.hid h1
    clear h1
    go_enter Try.func21, Try.ntmps21
    go_wp2_with fail
    rw [HW1.out]
    go_at_call 15
    refine (typeValid_impl s _ W1 (HVS.out.at.kept HB1.out)).mono ?_
    rintro e w2 ⟨rfl, hb2⟩
    rw [H1.out]
    have HB2 := Lib.hid (HB1.out.trans (hb2.mono HB1.out.size))
    clear hb2
    go_wp2_with fail
    go_ret
    exact ⟨by unfold instB; rw [H1.out]; rfl, HB2.out⟩
  have H1 := Lib.hid h1
  rcases h2 : tvT g with _ | _
  · have H2 := Lib.hid h2
    clear h1 h2
    go_enter Try.func21, Try.ntmps21
    go_wp2_with fail
    rw [HW1.out]
    go_at_call 15
    refine (typeValid_impl s _ W1 (HVS.out.at.kept HB1.out)).mono ?_
    rintro e w2 ⟨rfl, hb2⟩
    rw [H1.out]
    have HB2 := Lib.hid (HB1.out.trans (hb2.mono HB1.out.size))
    have HY2 := Lib.hid (HY1.out.kept hb2)
    clear hb2
    obtain ⟨y0, y1, y2, yz⟩ := HY2.out
    go_wp2_with fail
    go_at_call 15
    refine (typeValid_impl g _ w2 (HVG.out.at.kept HB2.out)).mono ?_
    rintro e w3 ⟨rfl, hb3⟩
    rw [H2.out]
    have HB3 := Lib.hid (HB2.out.trans (hb3.mono HB2.out.size))
    clear hb3
    go_wp2_with fail
    go_ret
    exact ⟨by unfold instB; rw [H1.out, H2.out]; rfl, HB3.out⟩
  have H2 := Lib.hid h2
  have HSS := Lib.hid (tv_shp h1)
  have HSG := Lib.hid (tv_shp h2)
  clear h1 h2
  obtain ⟨b, hb⟩ : ∃ b, (mtf 16 g s []).isSome = b := ⟨_, rfl⟩
  have HM := Lib.hid hb
  clear hb
  go_enter Try.func21, Try.ntmps21
  go_wp2_with fail
  rw [HW1.out]
  go_at_call 15
  refine (typeValid_impl s _ W1 (HVS.out.at.kept HB1.out)).mono ?_
  rintro e w2 ⟨rfl, hb2⟩
  rw [H1.out]
  have HB2 := Lib.hid (HB1.out.trans (hb2.mono HB1.out.size))
  have HX2 := Lib.hid (HX1.out.kept hb2)
  have HY2 := Lib.hid (HY1.out.kept hb2)
  clear hb2
  obtain ⟨y0, y1, y2, yz⟩ := HY2.out
  go_wp2_with fail
  go_at_call 15
  refine (typeValid_impl g _ w2 (HVG.out.at.kept HB2.out)).mono ?_
  rintro e w3 ⟨rfl, hb3⟩
  rw [H2.out]
  have HB3 := Lib.hid (HB2.out.trans (hb3.mono HB2.out.size))
  have HX3 := Lib.hid (HX2.out.kept hb3)
  have HY3 := Lib.hid (HY2.out.kept hb3)
  clear hb3 y0 y1 y2 yz
  obtain ⟨x0, x1, x2, xz⟩ := HX3.out
  obtain ⟨y0, y1, y2, yz⟩ := HY3.out
  have hmm := @run_makeMap Try.prog
  go_wp2_with fail
  go_at_call 53
  have hA : Below w3.heap.size w3 (w3.alloc (.map #[] 0)) := (Below.refl _ _).alloc (Nat.le_refl _) _
  refine (matchType_any w3 w3.heap.size (Nat.le_refl _) 16 s g _ _ [] [] _ HSS.out HSG.out hn (HVS.out.kept HB3.out) (HVG.out.kept HB3.out) hA (imap_new w3) (RelI.nil w3)).mono ?_
  rintro e w4 ⟨rfl, hi4, _⟩
  rw [HM.out]
  have HB4 := Lib.hid (HB3.out.trans ((hi4.below (Nat.le_refl _) hA (by rw [sizeA']; omega)).mono HB3.out.size))
  clear hi4 hA
  go_wp2_with fail
  go_ret
  exact ⟨by unfold instB; rw [H1.out, H2.out, HM.out]; rfl, HB4.out⟩

end Go.Proofs.Ytndpoejohpmifaa.Mx

