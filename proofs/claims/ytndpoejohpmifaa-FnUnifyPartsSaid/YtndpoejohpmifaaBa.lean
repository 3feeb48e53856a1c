/-
  A map of the call's own whose keys are pairs of an address and a count: its look-up and its store. The addresses lie in plain blocks.
-/
import Derived.Test.YtndpoejohpmifaaZf
import Derived.LaidEql
import Derived.Laws.StructEq
import Derived.MapKept
namespace Go.Proofs.Ytndpoejohpmifaa
open Go.RowKit
set_option linter.unusedVariables false
set_option linter.unusedSimpArgs false

/-- An address (block, offset) and a count. -/
abbrev KV := Nat × Nat × Nat
def kv (k : KV) : Value := .agg #[.pointer (some ⟨k.1, k.2.1, none⟩), .int .i64 (k.2.2 : Int)]
theorem kv_inj {a b : KV} (h : kv a = kv b) : a = b := by
  obtain ⟨a1, a2, a3⟩ := a
  obtain ⟨b1, b2, b3⟩ := b
  simp [kv] at h
  obtain ⟨⟨h1, h2⟩, h3⟩ := h
  subst h1; subst h2
  have : a3 = b3 := by omega
  subst this; rfl
/-- The address lies in a plain block. -/
def Good (bm : Nat) (w : World) (k : KV) : Prop := k.1 < bm ∧ ∃ C T, w.heap[k.1]? = some (.cells C T (0, 0))
theorem Good.keep {bm : Nat} {w w' : World} {k : KV} (h : Good bm w k) (e : w'.heap[k.1]? = w.heap[k.1]?) : Good bm w' k := by
  obtain ⟨hlt, C, T, h⟩ := h; exact ⟨hlt, C, T, e.trans h⟩
theorem undK : Try.prog.underlying 63 = some (.struct (Try.prog.fieldsOf 63)) := by kernel_rfl
theorem standK : Try.prog.stoodInHeld 63 = false := by kernel_rfl
theorem infoTyp : (Try.prog.info? 25).map (fun i => (i.zero, i.size, i.bytes)) = some (some (.agg #[.int .i64 0, .int .i64 0, .slice none 0 0]), 3, 40) := by kernel_rfl
theorem ptr_run (d : Nat) (w : World) (a b : Addr) (ha : ∃ C T, w.heap[a.block]? = some (.cells C T (0, 0))) (hb : ∃ C T, w.heap[b.block]? = some (.cells C T (0, 0))) : (Op.equalIn (d + 1) 61 (.pointer (some a)) (.pointer (some b))).run Try.prog w = .ok (decide (a = b)) w := by
  obtain ⟨i0, hi, hz0, hz1, hz2⟩ := info_parts infoTyp
  obtain ⟨ca, ta, ha⟩ := ha
  obtain ⟨cb, tb, hb⟩ := hb
  have hsz : (sizeOf 25).run Try.prog w = .ok 3 w := by simp [sizeOf, typeInfo, hi, hz1]
  have h1 : (Op.equalIn (d + 1) 61 (.pointer (some a)) (.pointer (some b))).run Try.prog w = (sameAddr a b).run Try.prog w := by
    simp only [Op.equalIn, Sem.run_bind, run_underlying Try.underlying61, Result.andThen_ok, hsz]
    simp
  rw [h1]
  by_cases h : a = b
  · subst h; rw [run_sameAddr_same]; simp
  · rw [run_sameAddr_other _ h ha hb]; simp [h]
set_option maxRecDepth 100000 in
theorem eq_run {bm : Nat} (w : World) (a b : KV) (ha : Good bm w a) (hb : Good bm w b) : (Op.equal 63 (kv a) (kv b)).run Try.prog w = .ok (decide (a = b)) w := by
  show (Op.equalIn 10000 63 (.agg _) (.agg _)).run Try.prog w = _
  rw [run_equalIn_agg w 9999 63 _ _ undK standK]
  have hp := ptr_run 9998 w ⟨a.1, a.2.1, none⟩ ⟨b.1, b.2.1, none⟩ ha.2 hb.2
  have hf : (Try.prog.fieldsOf 63).toList.map (fun f => (f.name, f.type, f.offset)) = [("first", 61, 0), ("count", 3, 1)] := by kernel_rfl
  rcases hl : (Try.prog.fieldsOf 63).toList with _ | ⟨f1, _ | ⟨f2, _ | ⟨f3, r⟩⟩⟩
  · rw [hl] at hf; simp at hf
  · rw [hl] at hf; simp at hf
  · rw [hl] at hf
    simp only [List.map_cons, List.map_nil, List.cons.injEq, Prod.mk.injEq, and_true] at hf
    obtain ⟨⟨n1, t1, o1⟩, n2, t2, o2⟩ := hf
    have p1 : ∀ (x y : Value), (part f1.type #[x, y] f1.offset).run Try.prog w = .ok x w := by rw [t1, o1]; intro x y; simp [part]
    have p2 : ∀ (x y : Value), (part f2.type #[x, y] f2.offset).run Try.prog w = .ok y w := by rw [t2, o2]; intro x y; simp [part]
    have hq : (Op.equalIn 9999 f2.type (.int .i64 (a.2.2 : Int)) (.int .i64 (b.2.2 : Int))).run Try.prog w = .ok ((a.2.2 : Int) == (b.2.2 : Int)) w := by rw [t2]; exact run_equalIn_int w 9998 _ _ _ _ _ Try.underlying3
    have hp' : (Op.equalIn 9999 f1.type (.pointer (some ⟨a.1, a.2.1, none⟩)) (.pointer (some ⟨b.1, b.2.1, none⟩))).run Try.prog w = .ok (decide ((⟨a.1, a.2.1, none⟩ : Addr) = ⟨b.1, b.2.1, none⟩)) w := by rw [t1]; exact hp
    have ne1 : f1.name ≠ "_" := by rw [n1]; decide
    have ne2 : f2.name ≠ "_" := by rw [n2]; decide
    have g1 : (Op.eqFields 9999 #[.pointer (some ⟨a.1, a.2.1, none⟩), .int .i64 (a.2.2 : Int)] #[.pointer (some ⟨b.1, b.2.1, none⟩), .int .i64 (b.2.2 : Int)] [f1, f2]).run Try.prog w = .ok (decide ((⟨a.1, a.2.1, none⟩ : Addr) = ⟨b.1, b.2.1, none⟩) && ((a.2.2 : Int) == (b.2.2 : Int))) w := by
      simp only [Op.eqFields, if_pos ne1, if_pos ne2, Sem.run_bind, p1, p2, Result.andThen_ok, hp', hq]
      by_cases h : (⟨a.1, a.2.1, none⟩ : Addr) = ⟨b.1, b.2.1, none⟩
      · rw [decide_eq_true h]
        rcases h3 : ((a.2.2 : Int) == (b.2.2 : Int)) with _ | _
        · rw [h3] at hq; simp [p2, hq]
        · rw [h3] at hq; simp [p2, hq]
      · rw [decide_eq_false h]; simp
    refine g1.trans ?_
    congr 1
    have hiff : (decide ((⟨a.1, a.2.1, none⟩ : Addr) = ⟨b.1, b.2.1, none⟩) && ((a.2.2 : Int) == (b.2.2 : Int))) = true ↔ a = b := by
      rw [Bool.and_eq_true, decide_eq_true_eq, beq_iff_eq]
      constructor
      · rintro ⟨h1, h2⟩
        injection h1 with e1 e2 _
        exact Prod.ext e1 (Prod.ext e2 (by omega))
      · rintro rfl; exact ⟨rfl, rfl⟩
    by_cases hab : a = b
    · rw [decide_eq_true hab]; exact hiff.2 hab
    · rw [decide_eq_false hab]
      exact Bool.eq_false_iff.2 (fun e => hab (hiff.1 e))
  · rw [hl] at hf; simp at hf

/-- Where a key stands, and its value. -/
def fnd (x : KV) : List (KV × KV) → Nat → Option (Nat × Value)
  | [], _ => none
  | p :: M, i => if x = p.1 then some (i, kv p.2) else fnd x M (i + 1)
/-- The value at a key. -/
def look (x : KV) : List (KV × KV) → Option KV
  | [] => none
  | p :: M => if x = p.1 then some p.2 else look x M
def upd (x v : KV) : List (KV × KV) → List (KV × KV)
  | [] => [(x, v)]
  | p :: M => if x = p.1 then (x, v) :: M else p :: upd x v M
theorem look_upd (x v y : KV) : ∀ M, look y (upd x v M) = if y = x then some v else look y M
  | [] => by simp [upd, look]
  | p :: M => by
    unfold upd
    split
    · rename_i h
      by_cases hy : y = x
      · simp [look, hy]
      · have : ¬ y = p.1 := fun e => hy (e.trans h.symm)
        simp [look, hy, this]
    · rename_i h
      by_cases hp : y = p.1
      · have : ¬ y = x := fun e => h (e.symm.trans hp)
        simp [look, hp]
        intro e; exact absurd e.symm h
      · simp only [look, if_neg hp]; exact look_upd x v y M
theorem fnd_look (x : KV) : ∀ M i, (fnd x M i).map (·.2) = (look x M).map kv
  | [], i => rfl
  | p :: M, i => by
    unfold fnd look
    split
    · rfl
    · exact fnd_look x M (i + 1)
def pairs (es : List MapEntry) : List (Value × Value) := es.map fun e => (e.key, e.val)
def vpairs (M : List (KV × KV)) : List (Value × Value) := M.map fun p => (kv p.1, kv p.2)
theorem ask_run {bm : Nat} (w : World) (x : KV) (hx : Good bm w x) : ∀ (es : List MapEntry) (M : List (KV × KV)) (i : Nat), pairs es = vpairs M → (∀ p ∈ M, Good bm w p.1) → (Instr.findAsking 63 (kv x) es i).run Try.prog w = .ok (fnd x M i) w
  | [], [], i, _, _ => by simp [Instr.findAsking, fnd]
  | [], _ :: _, _, h, _ => by simp [pairs, vpairs] at h
  | _ :: _, [], _, h, _ => by simp [pairs, vpairs] at h
  | e :: es, p :: M, i, h, hg => by
    simp only [pairs, vpairs, List.map_cons, List.cons.injEq, Prod.mk.injEq] at h
    obtain ⟨⟨h1, h2⟩, h3⟩ := h
    have he := eq_run w x p.1 hx (hg p (List.mem_cons_self ..))
    have ih := ask_run w x hx es M (i + 1) h3 (fun q hq => hg q (List.mem_cons_of_mem _ hq))
    simp only [Instr.findAsking, Sem.run_bind, h1, he, Result.andThen_ok, fnd]
    by_cases hxp : x = p.1
    · simp [hxp, h2]
    · simp [hxp, ih]
theorem key_run {bm : Nat} (w : World) (x : KV) (hx : Good bm w x) (es : List MapEntry) (M : List (KV × KV)) (h : pairs es = vpairs M) (hg : ∀ p ∈ M, Good bm w p.1) : (Instr.findKey 63 (kv x) es).run Try.prog w = .ok (fnd x M 0) w := by
  cases es with
  | nil =>
    cases M with
    | nil => simp [Instr.findKey, run_underlying Try.underlying63, Instr.findNow, fnd, Result.andThen]
    | cons p M => simp [pairs, vpairs] at h
  | cons e es =>
    have ha := ask_run w x hx (e :: es) M 0 h hg
    have hn : ∀ fs, Instr.findNow (.struct fs) (kv x) (e :: es) 0 = none := fun fs => by simp [Instr.findNow, Instr.sameNow]
    simp only [Instr.findKey, Sem.run_bind, run_underlying Try.underlying63, Result.andThen_ok, hn]
    exact ha
theorem check_run (w : World) (em : Bool) (x : KV) : (Instr.checkKey em 10000 63 (kv x)).run Try.prog w = .ok () w := by
  have key : ∀ d, (Instr.checkKey em (d + 1 + 1) 63 (kv x)).run Try.prog w = .ok () w := by
    intro d
    unfold Instr.checkKey
    simp only [kv, Sem.run_bind, run_underlying Try.underlying63, Result.andThen_ok]
    simp [part, Instr.checkKey, run_underlying Try.underlying61, run_underlying Try.underlying3, Result.andThen]
  exact key 9998
theorem stays_run (w : World) (x : KV) : (Instr.keyThatStays (kv x) (kv x)).run Try.prog w = .ok (kv x) w := by
  have key : ∀ d, Instr.sameBits (d + 1) (kv x) (kv x) = true := by
    intro d; simp [kv, Instr.sameBits]
  unfold Instr.keyThatStays
  rw [if_pos (key 9999)]
  rfl

theorem fnd_some (x v : KV) : ∀ (M : List (KV × KV)) (i0 i : Nat) (u : Value), fnd x M i0 = some (i, u) → ∃ j, i = i0 + j ∧ j < M.length ∧ (M[j]?.map (·.1)) = some x ∧ upd x v M = M.set j (x, v)
  | [], i0, i, u, h => by simp [fnd] at h
  | p :: M, i0, i, u, h => by
    unfold fnd at h
    split at h
    · rename_i hx
      injection h with h; injection h with h1 h2
      exact ⟨0, by omega, by simp, by simp [hx], by simp [upd, hx]⟩
    · rename_i hx
      obtain ⟨j, h1, h2, h3, h4⟩ := fnd_some x v M (i0 + 1) i u h
      exact ⟨j + 1, by omega, by simpa using h2, by simpa using h3, by simp [upd, hx, h4]⟩
theorem fnd_none (x v : KV) : ∀ (M : List (KV × KV)) (i0 : Nat), fnd x M i0 = none → upd x v M = M ++ [(x, v)]
  | [], _, _ => rfl
  | p :: M, i0, h => by
    unfold fnd at h
    split at h
    · cases h
    · rename_i hx
      simp [upd, hx, fnd_none x v M (i0 + 1) h]
theorem pairs_modify (l : List MapEntry) (j : Nat) (k v : Value) : pairs (l.modify j fun e => { e with key := k, val := v }) = (pairs l).set j (k, v) := by
  apply List.ext_getElem?
  intro i
  simp only [pairs, List.getElem?_map, List.getElem?_modify, List.getElem?_set]
  by_cases h : j = i
  · subst h
    by_cases hl : j < l.length
    · simp [hl]
    · simp [hl]
  · simp [h]
/-- Block bm is a map that holds M. -/
def UMap (w : World) (bm : Nat) (M : List (KV × KV)) : Prop := ∃ es clock, w.heap[bm]? = some (.map es clock) ∧ pairs es.toList = vpairs M ∧ ∀ p ∈ M, Good bm w p.1
theorem umap_new (w : World) : UMap (w.alloc (.map #[] 0)) w.heap.size [] := ⟨#[], 0, (Go.MapKept.heap_alloc w _).1, rfl, fun p hp => by simp at hp⟩
theorem UMap.keep {w w' : World} {bm : Nat} {M : List (KV × KV)} (h : UMap w bm M) (hk : ∀ b, b < w.heap.size → w'.heap[b]? = w.heap[b]?) : UMap w' bm M := by
  obtain ⟨es, clock, h1, h2, h3⟩ := h
  exact ⟨es, clock, (hk bm (Array.getElem?_eq_some_iff.1 h1).1).trans h1, h2, fun p hp => (h3 p hp).keep (by obtain ⟨_, C, T, hg⟩ := h3 p hp; exact hk _ (Array.getElem?_eq_some_iff.1 hg).1)⟩
def zeroK : Value := .agg #[.pointer none, .int .i64 0]
def valK : Option KV → Value
  | some v => kv v
  | none => zeroK
theorem zeroK_run (w : World) : (zeroValue 63).run Try.prog w = .ok zeroK w := by kernel_rfl
theorem lookup_run (w : World) (bm : Nat) (M : List (KV × KV)) (x : KV) (h : UMap w bm M) (hx : Good bm w x) : (Instr.lookup 57 (.map (some bm)) (kv x) true).run Try.prog w = .ok (.tuple #[valK (look x M), .bool (look x M).isSome]) w := by
  obtain ⟨es, clock, h1, h2, h3⟩ := h
  have hk := key_run w x hx es.toList M h2 h3
  have hfl := fnd_look x M 0
  simp only [Instr.lookup, Sem.run_bind, run_underlying Try.underlying57, Result.andThen_ok, Go.MapKept.run_getObj_map h1, Sem.run_pure, check_run, hk]
  rcases hf : fnd x M 0 with _ | ⟨i, u⟩
  · rw [hf] at hfl
    have hl : look x M = none := by
      rcases hl : look x M with _ | v
      · rfl
      · rw [hl] at hfl; simp at hfl
    simp [hl, zeroK_run, valK, Result.andThen]
    rfl
  · rw [hf] at hfl
    rcases hl : look x M with _ | v
    · rw [hl] at hfl; simp at hfl
    · rw [hl] at hfl
      simp at hfl
      simp [hfl, valK]
theorem update_run (w : World) (bm : Nat) (M : List (KV × KV)) (x v : KV) (h : UMap w bm M) (hx : Good bm w x) : ∃ w', (Instr.mapUpdate 57 (.map (some bm)) (kv x) (kv v)).run Try.prog w = .ok () w' ∧ UMap w' bm (upd x v M) ∧ w.grownBy w' (some bm) := by
  obtain ⟨es, clock, h1, h2, h3⟩ := h
  have hk := key_run w x hx es.toList M h2 h3
  have hlt : bm < w.heap.size := (Array.getElem?_eq_some_iff.1 h1).1
  have good : ∀ (o : Obj) (p : KV), Good bm w p → Good bm { w with heap := w.heap.setIfInBounds bm o } p := by
    intro o p hp
    obtain ⟨hlt, C, T, hp⟩ := hp
    refine ⟨hlt, C, T, ?_⟩
    have hne : p.1 ≠ bm := fun e => by rw [e, h1] at hp; injection hp with hp; cases hp
    rw [← hp]
    exact (Go.MapKept.heap_set h1).2 _ hne
  have grown : ∀ (o : Obj), w.grownBy { w with heap := w.heap.setIfInBounds bm o } (some bm) := fun o =>
    ⟨rfl, rfl, rfl, by simp, fun k hk hne => (Go.MapKept.heap_set h1).2 k (fun e => hne (by rw [e]))⟩
  simp only [Instr.mapUpdate, Sem.run_bind, run_underlying Try.underlying57, Result.andThen_ok, Go.MapKept.run_getObj_map h1, check_run, hk]
  rcases hf : fnd x M 0 with _ | ⟨i, u⟩
  · simp only [Go.MapKept.run_setObj_map _ h1]
    refine ⟨_, rfl, ⟨_, _, (Go.MapKept.heap_set h1).1, ?_, ?_⟩, grown _⟩
    · rw [fnd_none x v M 0 hf]
      simp only [pairs, vpairs, Array.toList_push, List.map_append, List.map_cons, List.map_nil] at h2 ⊢
      rw [h2]
    · rw [fnd_none x v M 0 hf]
      intro p hp
      rcases List.mem_append.1 hp with hp | hp
      · exact good _ _ (h3 p hp)
      · simp at hp; subst hp; exact good _ _ hx
  · obtain ⟨j, e1, e2, e3, e4⟩ := fnd_some x v M 0 i u hf
    have e1 : i = j := by omega
    subst e1
    have hkey : (((es[i]?).map (·.key)).getD (kv x)) = kv x := by
      have h5 : (pairs es.toList)[i]? = (vpairs M)[i]? := by rw [h2]
      simp only [pairs, vpairs, List.getElem?_map, Array.getElem?_toList] at h5
      rcases hM : M[i]? with _ | q
      · rw [hM] at e3; simp at e3
      · rw [hM] at h5 e3
        simp at e3
        rcases he : es[i]? with _ | e
        · rw [he] at h5; simp at h5
        · rw [he] at h5
          simp at h5
          simp [h5.1, e3]
    simp only [hkey, Sem.run_bind, stays_run, Result.andThen_ok, Go.MapKept.run_setObj_map _ h1]
    refine ⟨_, rfl, ⟨_, _, (Go.MapKept.heap_set h1).1, ?_, ?_⟩, grown _⟩
    · rw [e4, Array.toList_modify, pairs_modify, h2]
      simp [vpairs, List.map_set]
    · rw [e4]
      intro p hp
      rcases List.mem_or_eq_of_mem_set hp with hp | hp
      · exact good _ _ (h3 p hp)
      · subst hp; exact good _ _ hx

end Go.Proofs.Ytndpoejohpmifaa
