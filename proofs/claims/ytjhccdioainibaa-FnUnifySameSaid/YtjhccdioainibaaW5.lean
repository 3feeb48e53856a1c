/-
A map of the call's own whose keys are pairs of an address and a count: its look-up and its store. The addresses lie in plain blocks.
The union-find under TypeSame: what it keeps, and leader.
The union-find under TypeSame: leader.
The union-find under TypeSame: join, a new one, the key of a row.
-/
import Derived.Test.YtjhccdioainibaaW2
import Derived.LaidEql
import Derived.Laws.StructEq
import Derived.MapKept
import Derived.Test.YtjhccdioainibaaW4
namespace Go.Proofs.Ytjhccdioainibaa
open Go.RowKit
set_option linter.unusedVariables false
set_option linter.unusedSimpArgs false

/-- An address (block, offset) and a count. -/
abbrev KV := Nat × Nat × Nat
def kv (k : KV) : Value := .agg #[.pointer (some ⟨k.1, k.2.1, none⟩), .int .i64 (k.2.2 : Int)]
theorem kv_inj {a b : KV} (h : kv a = kv b) : a = b := by
  obtain ⟨a1, a2, a3⟩ := a
  obtain ⟨b1, b2, b3⟩ := b
  simp [kv] at h
  obtain ⟨⟨h1, h2⟩, h3⟩ := h
  subst h1; subst h2
  have : a3 = b3 := by omega
  subst this; rfl
/-- The address lies in a plain block. -/
def Good (bm : Nat) (w : World) (k : KV) : Prop := k.1 < bm ∧ ∃ C T, w.heap[k.1]? = some (.cells C T (0, 0))
theorem Good.keep {bm : Nat} {w w' : World} {k : KV} (h : Good bm w k) (e : w'.heap[k.1]? = w.heap[k.1]?) : Good bm w' k := by
  obtain ⟨hlt, C, T, h⟩ := h; exact ⟨hlt, C, T, e.trans h⟩
theorem undK : Try.prog.underlying 67 = some (.struct (Try.prog.fieldsOf 67)) := by kernel_rfl
theorem standK : Try.prog.stoodInHeld 67 = false := by kernel_rfl
theorem infoTyp : (Try.prog.info? 28).map (fun i => (i.zero, i.size, i.bytes)) = some (some (.agg #[.int .i64 0, .int .i64 0, .slice none 0 0]), 3, 40) := by kernel_rfl
theorem ptr_run (d : Nat) (w : World) (a b : Addr) (ha : ∃ C T, w.heap[a.block]? = some (.cells C T (0, 0))) (hb : ∃ C T, w.heap[b.block]? = some (.cells C T (0, 0))) : (Op.equalIn (d + 1) 65 (.pointer (some a)) (.pointer (some b))).run Try.prog w = .ok (decide (a = b)) w := by
  obtain ⟨i0, hi, hz0, hz1, hz2⟩ := info_parts infoTyp
  obtain ⟨ca, ta, ha⟩ := ha
  obtain ⟨cb, tb, hb⟩ := hb
  have hsz : (sizeOf 28).run Try.prog w = .ok 3 w := by simp [sizeOf, typeInfo, hi, hz1]
  have h1 : (Op.equalIn (d + 1) 65 (.pointer (some a)) (.pointer (some b))).run Try.prog w = (sameAddr a b).run Try.prog w := by
    simp only [Op.equalIn, Sem.run_bind, run_underlying Try.underlying65, Result.andThen_ok, hsz]
    simp
  rw [h1]
  by_cases h : a = b
  · subst h; rw [run_sameAddr_same]; simp
  · rw [run_sameAddr_other _ h ha hb]; simp [h]
set_option maxRecDepth 100000 in
theorem eq_run {bm : Nat} (w : World) (a b : KV) (ha : Good bm w a) (hb : Good bm w b) : (Op.equal 67 (kv a) (kv b)).run Try.prog w = .ok (decide (a = b)) w := by
  show (Op.equalIn 10000 67 (.agg _) (.agg _)).run Try.prog w = _
  rw [run_equalIn_agg w 9999 67 _ _ undK standK]
  have hp := ptr_run 9998 w ⟨a.1, a.2.1, none⟩ ⟨b.1, b.2.1, none⟩ ha.2 hb.2
  have hf : (Try.prog.fieldsOf 67).toList.map (fun f => (f.name, f.type, f.offset)) = [("first", 65, 0), ("count", 3, 1)] := by kernel_rfl
  rcases hl : (Try.prog.fieldsOf 67).toList with _ | ⟨f1, _ | ⟨f2, _ | ⟨f3, r⟩⟩⟩
  · rw [hl] at hf; simp at hf
  · rw [hl] at hf; simp at hf
  · rw [hl] at hf
    simp only [List.map_cons, List.map_nil, List.cons.injEq, Prod.mk.injEq, and_true] at hf
    obtain ⟨⟨n1, t1, o1⟩, n2, t2, o2⟩ := hf
    have p1 : ∀ (x y : Value), (part f1.type #[x, y] f1.offset).run Try.prog w = .ok x w := by rw [t1, o1]; intro x y; simp [part]
    have p2 : ∀ (x y : Value), (part f2.type #[x, y] f2.offset).run Try.prog w = .ok y w := by rw [t2, o2]; intro x y; simp [part]
    have hq : (Op.equalIn 9999 f2.type (.int .i64 (a.2.2 : Int)) (.int .i64 (b.2.2 : Int))).run Try.prog w = .ok ((a.2.2 : Int) == (b.2.2 : Int)) w := by rw [t2]; exact run_equalIn_int w 9998 _ _ _ _ _ Try.underlying3
    have hp' : (Op.equalIn 9999 f1.type (.pointer (some ⟨a.1, a.2.1, none⟩)) (.pointer (some ⟨b.1, b.2.1, none⟩))).run Try.prog w = .ok (decide ((⟨a.1, a.2.1, none⟩ : Addr) = ⟨b.1, b.2.1, none⟩)) w := by rw [t1]; exact hp
    have ne1 : f1.name ≠ "_" := by rw [n1]; decide
    have ne2 : f2.name ≠ "_" := by rw [n2]; decide
    have g1 : (Op.eqFields 9999 #[.pointer (some ⟨a.1, a.2.1, none⟩), .int .i64 (a.2.2 : Int)] #[.pointer (some ⟨b.1, b.2.1, none⟩), .int .i64 (b.2.2 : Int)] [f1, f2]).run Try.prog w = .ok (decide ((⟨a.1, a.2.1, none⟩ : Addr) = ⟨b.1, b.2.1, none⟩) && ((a.2.2 : Int) == (b.2.2 : Int))) w := by
      simp only [Op.eqFields, if_pos ne1, if_pos ne2, Sem.run_bind, p1, p2, Result.andThen_ok, hp', hq]
      by_cases h : (⟨a.1, a.2.1, none⟩ : Addr) = ⟨b.1, b.2.1, none⟩
      · rw [decide_eq_true h]
        rcases h3 : ((a.2.2 : Int) == (b.2.2 : Int)) with _ | _
        · rw [h3] at hq; simp [p2, hq]
        · rw [h3] at hq; simp [p2, hq]
      · rw [decide_eq_false h]; simp
    refine g1.trans ?_
    congr 1
    have hiff : (decide ((⟨a.1, a.2.1, none⟩ : Addr) = ⟨b.1, b.2.1, none⟩) && ((a.2.2 : Int) == (b.2.2 : Int))) = true ↔ a = b := by
      rw [Bool.and_eq_true, decide_eq_true_eq, beq_iff_eq]
      constructor
      · rintro ⟨h1, h2⟩
        injection h1 with e1 e2 _
        exact Prod.ext e1 (Prod.ext e2 (by omega))
      · rintro rfl; exact ⟨rfl, rfl⟩
    by_cases hab : a = b
    · rw [decide_eq_true hab]; exact hiff.2 hab
    · rw [decide_eq_false hab]
      exact Bool.eq_false_iff.2 (fun e => hab (hiff.1 e))
  · rw [hl] at hf; simp at hf

/-- Where a key stands, and its value. -/
def fnd (x : KV) : List (KV × KV) → Nat → Option (Nat × Value)
  | [], _ => none
  | p :: M, i => if x = p.1 then some (i, kv p.2) else fnd x M (i + 1)
/-- The value at a key. -/
def look (x : KV) : List (KV × KV) → Option KV
  | [] => none
  | p :: M => if x = p.1 then some p.2 else look x M
def upd (x v : KV) : List (KV × KV) → List (KV × KV)
  | [] => [(x, v)]
  | p :: M => if x = p.1 then (x, v) :: M else p :: upd x v M
theorem look_upd (x v y : KV) : ∀ M, look y (upd x v M) = if y = x then some v else look y M
  | [] => by simp [upd, look]
  | p :: M => by
    unfold upd
    split
    · rename_i h
      by_cases hy : y = x
      · simp [look, hy]
      · have : ¬ y = p.1 := fun e => hy (e.trans h.symm)
        simp [look, hy, this]
    · rename_i h
      by_cases hp : y = p.1
      · have : ¬ y = x := fun e => h (e.symm.trans hp)
        simp [look, hp]
        intro e; exact absurd e.symm h
      · simp only [look, if_neg hp]; exact look_upd x v y M
theorem fnd_look (x : KV) : ∀ M i, (fnd x M i).map (·.2) = (look x M).map kv
  | [], i => rfl
  | p :: M, i => by
    unfold fnd look
    split
    · rfl
    · exact fnd_look x M (i + 1)
def pairs (es : List MapEntry) : List (Value × Value) := es.map fun e => (e.key, e.val)
def vpairs (M : List (KV × KV)) : List (Value × Value) := M.map fun p => (kv p.1, kv p.2)
theorem ask_run {bm : Nat} (w : World) (x : KV) (hx : Good bm w x) : ∀ (es : List MapEntry) (M : List (KV × KV)) (i : Nat), pairs es = vpairs M → (∀ p ∈ M, Good bm w p.1) → (Instr.findAsking 67 (kv x) es i).run Try.prog w = .ok (fnd x M i) w
  | [], [], i, _, _ => by simp [Instr.findAsking, fnd]
  | [], _ :: _, _, h, _ => by simp [pairs, vpairs] at h
  | _ :: _, [], _, h, _ => by simp [pairs, vpairs] at h
  | e :: es, p :: M, i, h, hg => by
    simp only [pairs, vpairs, List.map_cons, List.cons.injEq, Prod.mk.injEq] at h
    obtain ⟨⟨h1, h2⟩, h3⟩ := h
    have he := eq_run w x p.1 hx (hg p (List.mem_cons_self ..))
    have ih := ask_run w x hx es M (i + 1) h3 (fun q hq => hg q (List.mem_cons_of_mem _ hq))
    simp only [Instr.findAsking, Sem.run_bind, h1, he, Result.andThen_ok, fnd]
    by_cases hxp : x = p.1
    · simp [hxp, h2]
    · simp [hxp, ih]
theorem key_run {bm : Nat} (w : World) (x : KV) (hx : Good bm w x) (es : List MapEntry) (M : List (KV × KV)) (h : pairs es = vpairs M) (hg : ∀ p ∈ M, Good bm w p.1) : (Instr.findKey 67 (kv x) es).run Try.prog w = .ok (fnd x M 0) w := by
  cases es with
  | nil =>
    cases M with
    | nil => simp [Instr.findKey, run_underlying Try.underlying67, Instr.findNow, fnd, Result.andThen]
    | cons p M => simp [pairs, vpairs] at h
  | cons e es =>
    have ha := ask_run w x hx (e :: es) M 0 h hg
    have hn : ∀ fs, Instr.findNow (.struct fs) (kv x) (e :: es) 0 = none := fun fs => by simp [Instr.findNow, Instr.sameNow]
    simp only [Instr.findKey, Sem.run_bind, run_underlying Try.underlying67, Result.andThen_ok, hn]
    exact ha
theorem check_run (w : World) (em : Bool) (x : KV) : (Instr.checkKey em 10000 67 (kv x)).run Try.prog w = .ok () w := by
  have key : ∀ d, (Instr.checkKey em (d + 1 + 1) 67 (kv x)).run Try.prog w = .ok () w := by
    intro d
    unfold Instr.checkKey
    simp only [kv, Sem.run_bind, run_underlying Try.underlying67, Result.andThen_ok]
    simp [part, Instr.checkKey, run_underlying Try.underlying65, run_underlying Try.underlying3, Result.andThen]
  exact key 9998
theorem stays_run (w : World) (x : KV) : (Instr.keyThatStays (kv x) (kv x)).run Try.prog w = .ok (kv x) w := by
  have key : ∀ d, Instr.sameBits (d + 1) (kv x) (kv x) = true := by
    intro d; simp [kv, Instr.sameBits]
  unfold Instr.keyThatStays
  rw [if_pos (key 9999)]
  rfl

theorem fnd_some (x v : KV) : ∀ (M : List (KV × KV)) (i0 i : Nat) (u : Value), fnd x M i0 = some (i, u) → ∃ j, i = i0 + j ∧ j < M.length ∧ (M[j]?.map (·.1)) = some x ∧ upd x v M = M.set j (x, v)
  | [], i0, i, u, h => by simp [fnd] at h
  | p :: M, i0, i, u, h => by
    unfold fnd at h
    split at h
    · rename_i hx
      injection h with h; injection h with h1 h2
      exact ⟨0, by omega, by simp, by simp [hx], by simp [upd, hx]⟩
    · rename_i hx
      obtain ⟨j, h1, h2, h3, h4⟩ := fnd_some x v M (i0 + 1) i u h
      exact ⟨j + 1, by omega, by simpa using h2, by simpa using h3, by simp [upd, hx, h4]⟩
theorem fnd_none (x v : KV) : ∀ (M : List (KV × KV)) (i0 : Nat), fnd x M i0 = none → upd x v M = M ++ [(x, v)]
  | [], _, _ => rfl
  | p :: M, i0, h => by
    unfold fnd at h
    split at h
    · cases h
    · rename_i hx
      simp [upd, hx, fnd_none x v M (i0 + 1) h]
theorem pairs_modify (l : List MapEntry) (j : Nat) (k v : Value) : pairs (l.modify j fun e => { e with key := k, val := v }) = (pairs l).set j (k, v) := by
  apply List.ext_getElem?
  intro i
  simp only [pairs, List.getElem?_map, List.getElem?_modify, List.getElem?_set]
  by_cases h : j = i
  · subst h
    by_cases hl : j < l.length
    · simp [hl]
    · simp [hl]
  · simp [h]
/-- Block bm is a map that holds M. -/
def UMap (w : World) (bm : Nat) (M : List (KV × KV)) : Prop := ∃ es clock, w.heap[bm]? = some (.map es clock) ∧ pairs es.toList = vpairs M ∧ ∀ p ∈ M, Good bm w p.1
theorem umap_new (w : World) : UMap (w.alloc (.map #[] 0)) w.heap.size [] := ⟨#[], 0, (Go.MapKept.heap_alloc w _).1, rfl, fun p hp => by simp at hp⟩
theorem UMap.keep {w w' : World} {bm : Nat} {M : List (KV × KV)} (h : UMap w bm M) (hk : ∀ b, b < w.heap.size → w'.heap[b]? = w.heap[b]?) : UMap w' bm M := by
  obtain ⟨es, clock, h1, h2, h3⟩ := h
  exact ⟨es, clock, (hk bm (Array.getElem?_eq_some_iff.1 h1).1).trans h1, h2, fun p hp => (h3 p hp).keep (by obtain ⟨_, C, T, hg⟩ := h3 p hp; exact hk _ (Array.getElem?_eq_some_iff.1 hg).1)⟩
def zeroK : Value := .agg #[.pointer none, .int .i64 0]
def valK : Option KV → Value
  | some v => kv v
  | none => zeroK
theorem zeroK_run (w : World) : (zeroValue 67).run Try.prog w = .ok zeroK w := by kernel_rfl
theorem lookup_run (w : World) (bm : Nat) (M : List (KV × KV)) (x : KV) (h : UMap w bm M) (hx : Good bm w x) : (Instr.lookup 61 (.map (some bm)) (kv x) true).run Try.prog w = .ok (.tuple #[valK (look x M), .bool (look x M).isSome]) w := by
  obtain ⟨es, clock, h1, h2, h3⟩ := h
  have hk := key_run w x hx es.toList M h2 h3
  have hfl := fnd_look x M 0
  simp only [Instr.lookup, Sem.run_bind, run_underlying Try.underlying61, Result.andThen_ok, Go.MapKept.run_getObj_map h1, Sem.run_pure, check_run, hk]
  rcases hf : fnd x M 0 with _ | ⟨i, u⟩
  · rw [hf] at hfl
    have hl : look x M = none := by
      rcases hl : look x M with _ | v
      · rfl
      · rw [hl] at hfl; simp at hfl
    simp [hl, zeroK_run, valK, Result.andThen]
    rfl
  · rw [hf] at hfl
    rcases hl : look x M with _ | v
    · rw [hl] at hfl; simp at hfl
    · rw [hl] at hfl
      simp at hfl
      simp [hfl, valK]
theorem update_run (w : World) (bm : Nat) (M : List (KV × KV)) (x v : KV) (h : UMap w bm M) (hx : Good bm w x) : ∃ w', (Instr.mapUpdate 61 (.map (some bm)) (kv x) (kv v)).run Try.prog w = .ok () w' ∧ UMap w' bm (upd x v M) ∧ w.grownBy w' (some bm) := by
  obtain ⟨es, clock, h1, h2, h3⟩ := h
  have hk := key_run w x hx es.toList M h2 h3
  have hlt : bm < w.heap.size := (Array.getElem?_eq_some_iff.1 h1).1
  have good : ∀ (o : Obj) (p : KV), Good bm w p → Good bm { w with heap := w.heap.setIfInBounds bm o } p := by
    intro o p hp
    obtain ⟨hlt, C, T, hp⟩ := hp
    refine ⟨hlt, C, T, ?_⟩
    have hne : p.1 ≠ bm := fun e => by rw [e, h1] at hp; injection hp with hp; cases hp
    rw [← hp]
    exact (Go.MapKept.heap_set h1).2 _ hne
  have grown : ∀ (o : Obj), w.grownBy { w with heap := w.heap.setIfInBounds bm o } (some bm) := fun o =>
    ⟨rfl, rfl, rfl, by simp, fun k hk hne => (Go.MapKept.heap_set h1).2 k (fun e => hne (by rw [e]))⟩
  simp only [Instr.mapUpdate, Sem.run_bind, run_underlying Try.underlying61, Result.andThen_ok, Go.MapKept.run_getObj_map h1, check_run, hk]
  rcases hf : fnd x M 0 with _ | ⟨i, u⟩
  · simp only [Go.MapKept.run_setObj_map _ h1]
    refine ⟨_, rfl, ⟨_, _, (Go.MapKept.heap_set h1).1, ?_, ?_⟩, grown _⟩
    · rw [fnd_none x v M 0 hf]
      simp only [pairs, vpairs, Array.toList_push, List.map_append, List.map_cons, List.map_nil] at h2 ⊢
      rw [h2]
    · rw [fnd_none x v M 0 hf]
      intro p hp
      rcases List.mem_append.1 hp with hp | hp
      · exact good _ _ (h3 p hp)
      · simp at hp; subst hp; exact good _ _ hx
  · obtain ⟨j, e1, e2, e3, e4⟩ := fnd_some x v M 0 i u hf
    have e1 : i = j := by omega
    subst e1
    have hkey : (((es[i]?).map (·.key)).getD (kv x)) = kv x := by
      have h5 : (pairs es.toList)[i]? = (vpairs M)[i]? := by rw [h2]
      simp only [pairs, vpairs, List.getElem?_map, Array.getElem?_toList] at h5
      rcases hM : M[i]? with _ | q
      · rw [hM] at e3; simp at e3
      · rw [hM] at h5 e3
        simp at e3
        rcases he : es[i]? with _ | e
        · rw [he] at h5; simp at h5
        · rw [he] at h5
          simp at h5
          simp [h5.1, e3]
    simp only [hkey, Sem.run_bind, stays_run, Result.andThen_ok, Go.MapKept.run_setObj_map _ h1]
    refine ⟨_, rfl, ⟨_, _, (Go.MapKept.heap_set h1).1, ?_, ?_⟩, grown _⟩
    · rw [e4, Array.toList_modify, pairs_modify, h2]
      simp [vpairs, List.map_set]
    · rw [e4]
      intro p hp
      rcases List.mem_or_eq_of_mem_set hp with hp | hp
      · exact good _ _ (h3 p hp)
      · subst hp; exact good _ _ hx

end Go.Proofs.Ytjhccdioainibaa

namespace Go.Proofs.Ytjhccdioainibaa
open Go.RowKit
set_option linter.unusedVariables false
set_option linter.unusedSimpArgs false

/-- The keys above keys lead upward: rep is the leader, dp a depth that grows downward. -/
structure UF (M : List (KV × KV)) (rep : KV → KV) (dp : KV → Nat) : Prop where
  top : ∀ k, look k M = none → rep k = k
  up : ∀ k p, look k M = some p → rep p = rep k ∧ dp p < dp k
theorem UF.halve {M : List (KV × KV)} {rep : KV → KV} {dp : KV → Nat} (h : UF M rep dp) {k p g : KV} (hk : look k M = some p) (hp : look p M = some g) : UF (upd k g M) rep dp := by
  obtain ⟨a1, a2⟩ := h.up k p hk
  obtain ⟨b1, b2⟩ := h.up p g hp
  refine ⟨fun x hx => ?_, fun x y hx => ?_⟩
  · rw [look_upd] at hx
    split at hx
    · cases hx
    · exact h.top x hx
  · rw [look_upd] at hx
    split at hx
    · rename_i e
      injection hx with hx
      subst hx; subst e
      exact ⟨b1.trans a1, by omega⟩
    · exact h.up x y hx
theorem UF.lead {M : List (KV × KV)} {rep : KV → KV} {dp : KV → Nat} (h : UF M rep dp) : ∀ (n : Nat) (k : KV), dp k < n → look (rep k) M = none := by
  intro n
  induction n with
  | zero => intro k hk; omega
  | succ n ih =>
    intro k hk
    rcases hl : look k M with _ | p
    · rw [h.top k hl]; exact hl
    · obtain ⟨a1, a2⟩ := h.up k p hl
      rw [← a1]; exact ih p (by omega)
/-- The map in memory, its values good too. -/
structure UG (w : World) (bm : Nat) (M : List (KV × KV)) : Prop where
  m : UMap w bm M
  v : ∀ p ∈ M, Good bm w p.2
theorem UG.keep {w w' : World} {bm : Nat} {M : List (KV × KV)} (h : UG w bm M) (hk : ∀ b, b < w.heap.size → w'.heap[b]? = w.heap[b]?) : UG w' bm M :=
  ⟨h.m.keep hk, fun p hp => (h.v p hp).keep (by obtain ⟨_, C, T, hg⟩ := h.v p hp; exact hk _ (Array.getElem?_eq_some_iff.1 hg).1)⟩
theorem look_mem {x v : KV} : ∀ {M : List (KV × KV)}, look x M = some v → ∃ p ∈ M, p.2 = v
  | [], h => by simp [look] at h
  | p :: M, h => by
    unfold look at h
    split at h
    · injection h with h; exact ⟨p, List.mem_cons_self .., h⟩
    · obtain ⟨q, hq, e⟩ := look_mem h; exact ⟨q, List.mem_cons_of_mem _ hq, e⟩
theorem UG.good {w : World} {bm : Nat} {M : List (KV × KV)} (h : UG w bm M) {x v : KV} (hl : look x M = some v) : Good bm w v := by
  obtain ⟨p, hp, rfl⟩ := look_mem hl; exact h.v p hp
theorem Good.lt {bm : Nat} {w : World} {k : KV} (h : Good bm w k) : k.1 < w.heap.size := by obtain ⟨_, C, T, h⟩ := h; exact (Array.getElem?_eq_some_iff.1 h).1
theorem Good.kept {bm : Nat} {w w' : World} {k : KV} (h : Good bm w k) (hb : Below w.heap.size w w') : Good bm w' k := h.keep (hb.block _ h.lt)
theorem UG.kept {w w' : World} {bm : Nat} {M : List (KV × KV)} (h : UG w bm M) (hb : Below w.heap.size w w') : UG w' bm M := h.keep (fun b h => hb.block b h)
theorem UMap.lt {w : World} {bm : Nat} {M : List (KV × KV)} (h : UMap w bm M) : bm < w.heap.size := by obtain ⟨es, c, h, _⟩ := h; exact (Array.getElem?_eq_some_iff.1 h).1
theorem Good.ne {w : World} {bm : Nat} {M : List (KV × KV)} (hm : UMap w bm M) {k : KV} (h : Good bm w k) : k.1 ≠ bm := by
  obtain ⟨es, c, hm, _⟩ := hm
  obtain ⟨_, C, T, h⟩ := h
  intro e; rw [e, hm] at h; injection h with h; cases h
theorem upd_mem {x v : KV} : ∀ {M : List (KV × KV)} {p : KV × KV}, p ∈ upd x v M → p = (x, v) ∨ p ∈ M
  | [], p, h => by simp [upd] at h; exact .inl h
  | q :: M, p, h => by
    unfold upd at h
    split at h
    · rcases List.mem_cons.1 h with h | h
      · exact .inl h
      · exact .inr (List.mem_cons_of_mem _ h)
    · rcases List.mem_cons.1 h with h | h
      · exact .inr (by rw [h]; exact List.mem_cons_self ..)
      · rcases upd_mem h with h | h
        · exact .inl h
        · exact .inr (List.mem_cons_of_mem _ h)
theorem grown_good {w w' : World} {bm : Nat} {M : List (KV × KV)} (hm : UMap w bm M) (hg : w.grownBy w' (some bm)) {k : KV} (h : Good bm w k) : Good bm w' k :=
  h.keep (hg.block _ h.lt (fun e => h.ne hm (by injection e)))
theorem UG.put {w w' : World} {bm : Nat} {M : List (KV × KV)} (h : UG w bm M) {x v : KV} (hv : Good bm w v) (hm : UMap w' bm (upd x v M)) (hg : w.grownBy w' (some bm)) : UG w' bm (upd x v M) :=
  ⟨hm, fun p hp => by
    rcases upd_mem hp with rfl | hp
    · exact grown_good h.m hg hv
    · exact grown_good h.m hg (h.v p hp)⟩
theorem in_below {lo hi : Nat} {w w' : World} (h : Below w.heap.size w w') : Inside lo hi w w' := ⟨h.os, h.tape, h.output, h.size, fun x hx _ => h.block x hx⟩
/-- A key in a variable of the walk. -/
structure KB (w : World) (B : Nat) (k : KV) : Prop where
  c0 : w.cell? ⟨B, 0, none⟩ = some (.pointer (some ⟨k.1, k.2.1, none⟩))
  c1 : w.cell? ⟨B, 1, none⟩ = some (.int .i64 (k.2.2 : Int))
  f0 : w.frozen? ⟨B, 0, none⟩ = false
  f1 : w.frozen? ⟨B, 1, none⟩ = false
  sz : B < w.heap.size
theorem KB.keep {w w' : World} {B : Nat} {k : KV} (h : KB w B k) (hs : w.heap.size ≤ w'.heap.size) (e : w'.heap[B]? = w.heap[B]?) : KB w' B k :=
  ⟨(cellEq e).trans h.c0, (cellEq e).trans h.c1, (frozenEq e).trans h.f0, (frozenEq e).trans h.f1, Nat.lt_of_lt_of_le h.sz hs⟩
theorem KB.kept {w w' : World} {B : Nat} {k : KV} (h : KB w B k) (hb : Below w.heap.size w w') : KB w' B k := h.keep hb.size (hb.block B h.sz)
theorem kb_new (w : World) (k : KV) (T : TypeId) : KB (w.alloc (.cells #[.pointer (some ⟨k.1, k.2.1, none⟩), .int .i64 (k.2.2 : Int)] T)) w.heap.size k := ⟨by go_simp, by go_simp, by go_simp, by go_simp, by simp⟩
theorem KB.set {w : World} {B : Nat} {k : KV} (h : KB w B k) (g : KV) : KB ((w.setCell ⟨B, 0, none⟩ (.pointer (some ⟨g.1, g.2.1, none⟩))).setCell ⟨B, 1, none⟩ (.int .i64 (g.2.2 : Int))) B g := by
  refine ⟨?_, ?_, by rw [World.frozen?_setCell, World.frozen?_setCell]; exact h.f0, by rw [World.frozen?_setCell, World.frozen?_setCell]; exact h.f1, by simpa using h.sz⟩
  · rw [World.cell?_setCell_other _ _ _ _ (fun e => by injection e with _ e2 _; omega)]
    exact World.cell?_setCell_same' _ _ _ (by rw [h.c0]; rfl)
  · refine World.cell?_setCell_same' _ _ _ ?_
    rw [World.cell?_setCell_other _ _ _ _ (fun e => by injection e with _ e2 _; omega), h.c1]; rfl
/-- A key's variable, empty still. -/
structure K2 (w : World) (B : Nat) : Prop where
  c0 : w.cell? ⟨B, 0, none⟩ = some (.pointer none)
  c1 : w.cell? ⟨B, 1, none⟩ = some (.int .i64 0)
  f0 : w.frozen? ⟨B, 0, none⟩ = false
  f1 : w.frozen? ⟨B, 1, none⟩ = false
  sz : B < w.heap.size
theorem K2.keep {w w' : World} {B : Nat} (h : K2 w B) (hs : w.heap.size ≤ w'.heap.size) (e : w'.heap[B]? = w.heap[B]?) : K2 w' B :=
  ⟨(cellEq e).trans h.c0, (cellEq e).trans h.c1, (frozenEq e).trans h.f0, (frozenEq e).trans h.f1, Nat.lt_of_lt_of_le h.sz hs⟩
open Classical in
/-- The key that a variable holds. -/
noncomputable def keyIn (w : World) (B : Nat) : KV := if h : ∃ k, KB w B k then h.choose else (0, 0, 0)
theorem KB.one {w : World} {B : Nat} {k g : KV} (h : KB w B k) (h' : KB w B g) : k = g := by
  have e0 := h.c0.symm.trans h'.c0
  have e1 := h.c1.symm.trans h'.c1
  injection e0 with e0; injection e0 with e0; injection e0 with e0; injection e0 with a b
  injection e1 with e1; injection e1 with _ e1
  exact Prod.ext a (Prod.ext b (by omega))
theorem KB.key {w : World} {B : Nat} {k : KV} (h : KB w B k) : keyIn w B = k := by
  unfold keyIn
  rw [dif_pos ⟨k, h⟩]
  exact (Exists.choose_spec (⟨k, h⟩ : ∃ k, KB w B k)).one h

end Go.Proofs.Ytjhccdioainibaa

namespace Go.Proofs.Ytjhccdioainibaa
open Go.RowKit
set_option linter.unusedVariables false
set_option linter.unusedSimpArgs false

theorem sizeA' (w : World) (o : Obj) : (w.alloc o).heap.size = w.heap.size + 1 := by simp
theorem cell_fresh' (w : World) (v : Value) (T : TypeId) : (w.alloc (.cells #[v] T)).cell? ⟨w.heap.size, 0, none⟩ = some v := by go_simp
theorem k2_new (w : World) (T : TypeId) : K2 (w.alloc (.cells #[.pointer none, .int .i64 0] T)) w.heap.size := ⟨by go_simp, by go_simp, by go_simp, by go_simp, by simp⟩
theorem in_set {lo hi : Nat} {w W : World} {B i : Nat} (h : Inside lo hi w W) (hB : w.heap.size ≤ B) (x : Value) : Inside lo hi w (W.setCell ⟨B, i, none⟩ x) :=
  ⟨h.os, h.tape, h.output, by simpa using h.size, fun b hb hx => (heap_setCell_other W ⟨B, i, none⟩ b x (by show b ≠ B; omega)).trans (h.block b hb hx)⟩
theorem good_set {bm : Nat} {w : World} {k : KV} (h : Good bm w k) (B i : Nat) (x : Value) : Good bm (w.setCell ⟨B, i, none⟩ x) k := by
  obtain ⟨hlt, C, T, h⟩ := h
  by_cases e : k.1 = B
  · exact ⟨hlt, _, T, by rw [e] at h ⊢; exact heap_setCell_same w B i C T x h⟩
  · exact ⟨hlt, C, T, (heap_setCell_other w ⟨B, i, none⟩ k.1 x e).trans h⟩
theorem ug_set {w : World} {bm : Nat} {M : List (KV × KV)} (h : UG w bm M) {B i : Nat} (x : Value) (hm : bm ≠ B) : UG (w.setCell ⟨B, i, none⟩ x) bm M := by
  obtain ⟨⟨es, c, h1, h2, h3⟩, h4⟩ := h
  exact ⟨⟨es, c, (heap_setCell_other w ⟨B, i, none⟩ bm x hm).trans h1, h2, fun p hp => good_set (h3 p hp) B i x⟩, fun p hp => good_set (h4 p hp) B i x⟩
/-- Where leader's loop stands. -/
structure LS (w : World) (S bm : Nat) (wr : World) (k : KV) (M : List (KV × KV)) : Prop where
  hk : KB wr (S + 1) k
  hm : wr.cell? ⟨S, 0, none⟩ = some (.map (some bm))
  hr : K2 wr (S + 1 + 1)
  hug : UG wr bm M
  hgd : Good bm wr k
  hin : Inside bm (bm + 1) w wr
  hsz : S + 3 ≤ wr.heap.size
theorem LS.set {w : World} {S bm : Nat} {wr : World} {k : KV} {M : List (KV × KV)} (h : LS w S bm wr k M) (hS : w.heap.size = S) (hb : bm < S) {p : KV} (hp : Good bm wr p) :
    LS w S bm ((wr.setCell ⟨S + 1, 0, none⟩ (.pointer (some ⟨p.1, p.2.1, none⟩))).setCell ⟨S + 1, 1, none⟩ (.int .i64 (p.2.2 : Int))) p M := by
  have e : ∀ b, b ≠ S + 1 → ((wr.setCell ⟨S + 1, 0, none⟩ (.pointer (some ⟨p.1, p.2.1, none⟩))).setCell ⟨S + 1, 1, none⟩ (.int .i64 (p.2.2 : Int))).heap[b]? = wr.heap[b]? := fun b hb => (heap_setCell_other _ ⟨S + 1, 1, none⟩ b _ hb).trans (heap_setCell_other _ ⟨S + 1, 0, none⟩ b _ hb)
  exact ⟨h.hk.set p, (cellEq (e S (by omega))).trans h.hm, h.hr.keep (by simp) (e _ (by omega)), ug_set (ug_set h.hug _ (by omega)) _ (by omega), good_set (good_set hp _ _ _) _ _ _, in_set (in_set h.hin (by omega) _) (by omega) _, by simpa using h.hsz⟩
theorem LS.kept {w : World} {S bm : Nat} {wr wr' : World} {k : KV} {M : List (KV × KV)} (h : LS w S bm wr k M) (hb : Below wr.heap.size wr wr') : LS w S bm wr' k M :=
  ⟨h.hk.kept hb, (hb.cell (p := ⟨S, 0, none⟩) (by have := h.hsz; show S < _; omega)).trans h.hm, h.hr.keep hb.size (hb.block _ h.hr.sz), h.hug.kept hb, h.hgd.kept hb, h.hin.trans (in_below hb), Nat.le_trans h.hsz hb.size⟩
theorem LS.grown {w : World} {S bm : Nat} {wr wr' : World} {k : KV} {M M' : List (KV × KV)} (h : LS w S bm wr k M) (hb : bm < S) (hug : UG wr' bm M') (hg : wr.grownBy wr' (some bm)) : LS w S bm wr' k M' := by
  have e : ∀ b, b < wr.heap.size → b ≠ bm → wr'.heap[b]? = wr.heap[b]? := fun b h1 h2 => hg.block b h1 (fun q => h2 (by injection q))
  have hz := h.hsz
  exact ⟨h.hk.keep hg.size (e _ (by omega) (by omega)), (cellEq (e S (by omega) (by omega))).trans h.hm, h.hr.keep hg.size (e _ (by omega) (by omega)), hug, grown_good h.hug.m hg h.hgd, h.hin.trans ⟨hg.os, hg.tape, hg.output, hg.size, fun b hb hx => e b hb (by omega)⟩, Nat.le_trans hz hg.size⟩
set_option maxRecDepth 100000 in
set_option maxHeartbeats 4000000 in
theorem leader_any (bm : Nat) (M0 : List (KV × KV)) (rep : KV → KV) (dp : KV → Nat) (k0 : KV) (w : World) (hu : UG w bm M0) (hf : UF M0 rep dp) (hg : Good bm w k0) :
    Calls Try.prog 68 #[.agg #[.map (some bm)], .agg #[.pointer (some ⟨k0.1, k0.2.1, none⟩), .int .i64 (k0.2.2 : Int)]] w fun e w' => e = .returned (.agg #[.pointer (some ⟨(rep k0).1, (rep k0).2.1, none⟩), .int .i64 ((rep k0).2.2 : Int)]) ∧ Inside bm (bm + 1) w w' ∧ ∃ M, UG w' bm M ∧ UF M rep dp := by
  obtain ⟨S, hS⟩ : ∃ S, w.heap.size = S := ⟨_, rfl⟩
  have HS := Lib.hid hS
  have hbm : bm < S := by rw [← hS]; exact hu.m.lt
  obtain ⟨W1, hW1⟩ : ∃ W1, ((w.alloc (.cells #[.map (some bm)] 63)).alloc (.cells #[.pointer (some ⟨k0.1, k0.2.1, none⟩), .int .i64 (k0.2.2 : Int)] 67)).alloc (.cells #[.pointer none, .int .i64 0] 67) = W1 := ⟨_, rfl⟩
  have hB1 : Below w.heap.size w W1 := by rw [← hW1]; exact (((Below.refl _ _).alloc (Nat.le_refl _) _).alloc (by simp) _).alloc (by simp; omega) _
  have hz1 : W1.heap.size = S + 3 := by rw [← hW1, ← hS]; simp
  have HU1 := Lib.hid (hu.kept hB1)
  have HF1 := Lib.hid hf
  have HG1 := Lib.hid (hg.kept hB1)
  have HK1 : Hid (KB W1 (S + 1) k0) := Lib.hid (by
    have h := (kb_new (w.alloc (.cells #[.map (some bm)] 63)) k0 67).kept ((Below.refl _ _).alloc (Nat.le_refl _) (.cells #[.pointer none, .int .i64 0] 67))
    rw [sizeA', hW1, hS] at h; exact h)
  have HM1 : Hid (W1.cell? ⟨S, 0, none⟩ = some (.map (some bm))) := Lib.hid (by
    rw [← hW1, ← hS]
    refine (((Below.refl _ _).alloc (Nat.le_refl _) _).cell (p := ⟨w.heap.size, 0, none⟩) (by simp; omega)).trans ?_
    refine (((Below.refl _ _).alloc (Nat.le_refl _) _).cell (p := ⟨w.heap.size, 0, none⟩) (by simp)).trans ?_
    exact cell_fresh' w _ _)
  have HR1 : Hid (K2 W1 (S + 1 + 1)) := Lib.hid (by
    have h := k2_new ((w.alloc (.cells #[.map (some bm)] 63)).alloc (.cells #[.pointer (some ⟨k0.1, k0.2.1, none⟩), .int .i64 (k0.2.2 : Int)] 67)) 67
    rw [sizeA', sizeA', hW1, hS] at h; exact h)
  have HI1 : Hid (Inside bm (bm + 1) w W1) := Lib.hid (in_below hB1)
  have HW1 := Lib.hid hW1
  clear hu hf hg hB1 hW1
  go_enter Try.func68, Try.ntmps68
  go_wp2_with fail
  rw [HW1.out]
  clear hS
  go_loopw [9] (fun _ wr => ∃ (k : KV) (M : List (KV × KV)), Hid (LS w S bm wr k M) ∧ Hid (UF M rep dp) ∧ Hid (rep k = rep k0)) (fun _ wr => dp (keyIn wr (S + 1)))
  case atStart => exact ⟨k0, M0, Lib.hid ⟨HK1.out, HM1.out, HR1.out, HU1.out, HG1.out, HI1.out, by omega⟩, HF1, Lib.hid rfl⟩
  case round =>
    obtain ⟨k, M, hls, huf, hrep⟩ := hrel
    have hk := Lib.hid hls.out.hk
    have hr := Lib.hid hls.out.hr
    have hm := Lib.hid hls.out.hm
    have hug := Lib.hid hls.out.hug
    have hgd := Lib.hid hls.out.hgd
    have hin := Lib.hid hls.out.hin
    have hsz := hls.out.hsz
    have hkey := hk.out.key
    obtain ⟨x0, x1, xf0, xf1, xz⟩ := hk.out
    obtain ⟨r0, r1, rf0, rf1, rz⟩ := hr.out
    have m0 := hm.out
    have hsz' : S + 1 + 1 < wr.heap.size := by omega
    have hsz0 : S < wr.heap.size := by omega
    rcases hl : look k M with _ | p
    · have L1 : (Instr.lookup 61 (.map (some bm)) (.agg #[.pointer (some ⟨k.1, k.2.1, none⟩), .int .i64 (k.2.2 : Int)]) true).run Try.prog wr = .ok (.tuple #[zeroK, .bool false]) wr := by
        have h := lookup_run wr bm M k hug.out.m hgd.out; rw [hl] at h; exact h
      have HT : Hid (rep k = k) := Lib.hid (huf.out.top k hl)
      unfold zeroK at L1
      clear hl
      go_wp2_with fail
      exact bodyPost_ret (v := .agg #[.pointer (some ⟨k.1, k.2.1, none⟩), .int .i64 (k.2.2 : Int)]) (by simp [results, Try.results68, go_sem, r0, r1, rz, hsz']) rfl ⟨by rw [← hrep.out, HT.out], (in_set (in_set hin.out (by rw [HS.out]; omega) _) (by rw [HS.out]; omega) _).trans (in_below ((Below.refl _ _).alloc (Nat.le_refl _) _)), M, (ug_set (ug_set hug.out _ (by omega)) _ (by omega)).kept ((Below.refl _ _).alloc (Nat.le_refl _) _), huf.out⟩
    · have L1 : (Instr.lookup 61 (.map (some bm)) (.agg #[.pointer (some ⟨k.1, k.2.1, none⟩), .int .i64 (k.2.2 : Int)]) true).run Try.prog wr = .ok (.tuple #[.agg #[.pointer (some ⟨p.1, p.2.1, none⟩), .int .i64 (p.2.2 : Int)], .bool true]) wr := by
        have h := lookup_run wr bm M k hug.out.m hgd.out; rw [hl] at h; exact h
      have HP : Hid (Good bm wr p) := Lib.hid (hug.out.good hl)
      have HUP := Lib.hid (huf.out.up k p hl)
      have hA1 : Below wr.heap.size wr (wr.alloc (.cells #[.pointer (some ⟨p.1, p.2.1, none⟩), .int .i64 (p.2.2 : Int)] 67)) := (Below.refl _ _).alloc (Nat.le_refl _) _
      rcases hl2 : look p M with _ | g
      · have L2 : (Instr.lookup 61 (.map (some bm)) (.agg #[.pointer (some ⟨p.1, p.2.1, none⟩), .int .i64 (p.2.2 : Int)]) true).run Try.prog (wr.alloc (.cells #[.pointer (some ⟨p.1, p.2.1, none⟩), .int .i64 (p.2.2 : Int)] 67)) = .ok (.tuple #[zeroK, .bool false]) (wr.alloc (.cells #[.pointer (some ⟨p.1, p.2.1, none⟩), .int .i64 (p.2.2 : Int)] 67)) := by
          have h := lookup_run _ bm M p (hug.out.kept hA1).m (HP.out.kept hA1); rw [hl2] at h; exact h
        unfold zeroK at L2
        clear hl hl2 hA1
        go_wp2_with fail
        go_roundw
        case rel => exact ⟨p, M, Lib.hid (((hls.out.set HS.out hbm HP.out).kept ((Below.refl _ _).alloc (Nat.le_refl _) _)).kept ((Below.refl _ _).alloc (Nat.le_refl _) _)), huf, Lib.hid (HUP.out.1.trans hrep.out)⟩
        case measure =>
          have h1 := (((hls.out.set HS.out hbm HP.out).kept ((Below.refl _ _).alloc (Nat.le_refl _) (.cells #[.pointer (some ⟨p.1, p.2.1, none⟩), .int .i64 (p.2.2 : Int)] 67))).kept ((Below.refl _ _).alloc (Nat.le_refl _) (.cells #[.pointer none, .int .i64 0] 67))).hk.key
          first | (rw [h1, hkey]; exact HUP.out.2) | (simp only [h1, hkey]; exact HUP.out.2)
      · have L2 : (Instr.lookup 61 (.map (some bm)) (.agg #[.pointer (some ⟨p.1, p.2.1, none⟩), .int .i64 (p.2.2 : Int)]) true).run Try.prog (wr.alloc (.cells #[.pointer (some ⟨p.1, p.2.1, none⟩), .int .i64 (p.2.2 : Int)] 67)) = .ok (.tuple #[.agg #[.pointer (some ⟨g.1, g.2.1, none⟩), .int .i64 (g.2.2 : Int)], .bool true]) (wr.alloc (.cells #[.pointer (some ⟨p.1, p.2.1, none⟩), .int .i64 (p.2.2 : Int)] 67)) := by
          have h := lookup_run _ bm M p (hug.out.kept hA1).m (HP.out.kept hA1); rw [hl2] at h; exact h
        have HG : Hid (Good bm wr g) := Lib.hid (hug.out.good hl2)
        have HH := Lib.hid (huf.out.halve hl hl2)
        have hA2 := hA1.alloc hA1.size (.cells #[.pointer (some ⟨g.1, g.2.1, none⟩), .int .i64 (g.2.2 : Int)] 67)
        obtain ⟨w3, L3, hum, hgr⟩ := update_run _ bm M k g (hug.out.kept hA2).m (hgd.out.kept hA2)
        have HLS := Lib.hid ((hls.out.kept hA2).grown hbm ((hug.out.kept hA2).put (HG.out.kept hA2) hum hgr) hgr)
        have HP3 := Lib.hid (grown_good (hug.out.kept hA2).m hgr (HP.out.kept hA2))
        have HKP : Hid (KB w3 wr.heap.size p) := Lib.hid (((kb_new wr p 67).kept ((Below.refl _ _).alloc (Nat.le_refl _) _)).keep hgr.size (hgr.block _ (by simp; omega) (fun e => by injection e; omega)))
        obtain ⟨y0, y1, yf0, yf1, yz⟩ := HKP.out
        obtain ⟨z0, z1, zf0, zf1, zz⟩ := HLS.out.hk
        have L3' : (Instr.mapUpdate 61 (.map (some bm)) (.agg #[.pointer (some ⟨k.1, k.2.1, none⟩), .int .i64 (k.2.2 : Int)]) (.agg #[.pointer (some ⟨g.1, g.2.1, none⟩), .int .i64 (g.2.2 : Int)])).run Try.prog ((wr.alloc (.cells #[.pointer (some ⟨p.1, p.2.1, none⟩), .int .i64 (p.2.2 : Int)] 67)).alloc (.cells #[.pointer (some ⟨g.1, g.2.1, none⟩), .int .i64 (g.2.2 : Int)] 67)) = .ok () w3 := L3
        clear hl hl2 hA1 hA2 L3 hum hgr
        go_wp2_with fail
        go_roundw
        case rel => exact ⟨p, upd k g M, Lib.hid (HLS.out.set HS.out hbm HP3.out), HH, Lib.hid (HUP.out.1.trans hrep.out)⟩
        case measure =>
          have h1 := (HLS.out.set HS.out hbm HP3.out).hk.key
          first | (rw [h1, hkey]; exact HUP.out.2) | (simp only [h1, hkey]; exact HUP.out.2)

end Go.Proofs.Ytjhccdioainibaa

namespace Go.Proofs.Ytjhccdioainibaa
open Go.RowKit
set_option linter.unusedVariables false
set_option linter.unusedSimpArgs false

theorem UF.rep_rep {M : List (KV × KV)} {rep : KV → KV} {dp : KV → Nat} (h : UF M rep dp) (k : KV) : look (rep k) M = none ∧ rep (rep k) = rep k := by
  have h1 := h.lead (dp k + 1) k (Nat.lt_succ_self _)
  exact ⟨h1, h.top _ h1⟩
/-- The leaders behind a join. -/
def repJ (rep : KV → KV) (ra rb : KV) : KV → KV := fun k => if rep k = ra then rb else rep k
theorem UF.join {M : List (KV × KV)} {rep : KV → KV} {dp : KV → Nat} (h : UF M rep dp) {a b : KV} (hne : rep a ≠ rep b) : UF (upd (rep a) (rep b) M) (repJ rep (rep a) (rep b)) (fun k => if rep k = rep a then dp k + dp (rep b) + 1 else dp k) := by
  obtain ⟨a1, a2⟩ := h.rep_rep a
  obtain ⟨b1, b2⟩ := h.rep_rep b
  refine ⟨fun k hk => ?_, fun k p hk => ?_⟩
  · rw [look_upd] at hk
    split at hk
    · cases hk
    · rename_i hka
      have e := h.top k hk
      unfold repJ
      rw [e, if_neg hka]
  · rw [look_upd] at hk
    split at hk
    · rename_i hka
      injection hk with hk
      subst hk; subst hka
      unfold repJ
      simp only [a2, b2, if_true, if_neg (Ne.symm hne)]
      exact ⟨trivial, by omega⟩
    · obtain ⟨e1, e2⟩ := h.up k p hk
      unfold repJ
      simp only [e1]
      refine ⟨trivial, ?_⟩
      split <;> omega

theorem newUF_any (w : World) : Calls Try.prog 37 #[] w fun e w' => e = .returned (.agg #[.map (some (w.heap.size + 1))]) ∧ UG w' (w.heap.size + 1) [] ∧ Below w.heap.size w w' := by
  have hmm := @run_makeMap Try.prog
  obtain ⟨W1, hW1⟩ : ∃ W1, w.alloc (.cells #[.map (some (w.heap.size + 1))] 63) = W1 := ⟨_, rfl⟩
  have hz : W1.heap.size = w.heap.size + 1 := by rw [← hW1]; simp
  have hu : UG ((w.alloc (.cells #[.map (some (w.heap.size + 1))] 63)).alloc (.map #[] 0)) (w.heap.size + 1) [] := by
    rw [hW1, ← hz]; exact ⟨umap_new W1, fun p hp => by simp at hp⟩
  have HU := Lib.hid hu
  clear hu hW1 hz
  go_enter Try.func37, Try.ntmps37
  go_wp2_with fail
  exact bodyPost_ret (v := .agg #[.map (some (w.heap.size + 1))]) (by simp [results, Try.results37, go_sem]) rfl ⟨rfl, HU.out, ((Below.refl _ _).alloc (Nat.le_refl _) _).alloc (by simp) _⟩
theorem idOf_any (b o n cap : Nat) (hn : 0 < n) (w : World) : Calls Try.prog 39 #[.slice (some ⟨b, o, none⟩) n cap] w fun e w' => e = .returned (kv (b, o, n)) ∧ Below w.heap.size w w' := by
  have h1 : (0 : Int) < (n : Int) := by omega
  go_enter Try.func39, Try.ntmps39
  go_wp2_with fail
  exact bodyPost_ret (v := kv (b, o, n)) (by simp [results, Try.results39, go_sem, kv]) rfl ⟨rfl, (Below.refl _ _).alloc (Nat.le_refl _) _⟩

end Go.Proofs.Ytjhccdioainibaa
