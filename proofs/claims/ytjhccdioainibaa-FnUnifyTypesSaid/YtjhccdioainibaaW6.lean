/-
What the loop of TypeSame keeps: the pairs that are still to be compared, and the classes of rows. Plain facts.
A map of the call's own from numbers to types: its look-up and its store.
FormatType of the program and of the model: for every type in memory, its text; what was in memory stays.
FormatType of the program and of the model: for every type in memory, its text, or the empty one if it is not valid; what was in memory stays.
-/
import Derived.Test.YtjhccdioainibaaW5
import Derived.Test.YtjhccdioainibaaW2
import Derived.MapKept
import Derived.Test.YtjhccdioainibaaW4
import Derived.Laws.IdiomStrings
import Derived.Laws.Concat
import Derived.Maps.AppendAt
import Derived.BigQuiet
import Derived.Deep.RegionHeld3
import Derived.Deep.DeepCutAuto
namespace Go.Proofs.Ytjhccdioainibaa
open Go.RowKit
set_option linter.unusedVariables false
set_option linter.unusedSimpArgs false

/-- A type with the value of its third field. -/
abbrev Ref := Ty × Value
def keyV : Value → KV
  | .slice (some a) n _ => (a.block, a.off, n)
  | _ => (0, 0, 0)
def kidV (w : World) (v : Value) (i : Nat) : Value :=
  match v with
  | .slice (some a) _ _ => (w.cell? ⟨a.block, a.off + i * 3 + 2, none⟩).getD (.bool false)
  | _ => .bool false
def kidR (w : World) (r : Ref) (i : Nat) : Ref := (r.1.ks.getD i Ty.dummy, kidV w r.2 i)
def OkR (w : World) (r : Ref) : Prop := TyOk w r.1 r.2
theorem OkR.kid {w : World} {r : Ref} (h : OkR w r) {i : Nat} (hi : i < r.1.ks.length) : OkR w (kidR w r i) := by
  obtain ⟨t, v⟩ := r
  cases h with
  | bare k n a cap => exact absurd hi (Nat.not_lt_zero _)
  | row k n ks b o cap vs hr hl h0 h1 h2 h3 =>
    have e : kidV w (.slice (some ⟨b, o, none⟩) ks.length cap) i = vs i := by simp [kidV, h2 i hi]
    have h4 := h3 i hi
    rw [← e] at h4
    exact h4
/-- The row of a key says what lies there. -/
theorem TyOk.det {w : World} {t : Ty} {v : Value} (h : TyOk w t v) : ∀ {t' : Ty} {v' : Value}, TyOk w t' v' → t.ks ≠ [] → t'.ks ≠ [] → keyV v = keyV v' → t.ks = t'.ks ∧ ∀ i, kidV w v i = kidV w v' i := by
  induction h with
  | bare k n a cap => intro t' v' _ h; exact absurd rfl h
  | row k n ks b o cap vs hr hl h0 h1 h2 h3 ih =>
    intro t' v' h' _ hne e
    cases h' with
    | bare k' n' a cap' => exact absurd rfl hne
    | row k' n' ks' b' o' cap' vs' hr' hl' g0 g1 g2 g3 =>
      simp only [keyV, Prod.mk.injEq] at e
      obtain ⟨rfl, rfl, el⟩ := e
      refine ⟨?_, fun i => rfl⟩
      show ks = ks'
      have hall : ∀ i, i < ks.length → ks.getD i Ty.dummy = ks'.getD i Ty.dummy := by
        intro i hi
        have hi' : i < ks'.length := by omega
        have q0 := (h0 i hi).symm.trans (g0 i hi')
        have q1 := (h1 i hi).symm.trans (g1 i hi')
        have q2 := (h2 i hi).symm.trans (g2 i hi')
        have z0 : (ks.getD i Ty.dummy).k = (ks'.getD i Ty.dummy).k := by simpa using q0
        have z1 : (ks.getD i Ty.dummy).n = (ks'.getD i Ty.dummy).n := by simpa using q1
        have z2 : vs i = vs' i := by simpa using q2
        have a1 := h3 i hi
        have a2 := g3 i hi'
        have l1 := ih i hi a2
        obtain ⟨c1, cc1, e1, _⟩ := a1.at.slice
        obtain ⟨c2, cc2, e2, _⟩ := a2.at.slice
        have el2 : (ks.getD i Ty.dummy).ks.length = (ks'.getD i Ty.dummy).ks.length := by
          have := e1.symm.trans (z2.trans e2)
          injection this
        have ek : (ks.getD i Ty.dummy).ks = (ks'.getD i Ty.dummy).ks := by
          by_cases hn : (ks.getD i Ty.dummy).ks = []
          · rw [hn] at el2
            rw [hn]
            exact (List.length_eq_zero_iff.1 el2.symm).symm
          · exact (l1 hn (fun e => hn (by rw [e] at el2; exact List.length_eq_zero_iff.1 el2)) (by rw [z2])).1
        generalize ks.getD i Ty.dummy = A at *
        generalize ks'.getD i Ty.dummy = B at *
        cases A; cases B
        simp only [Ty.k, Ty.n, Ty.ks] at *
        subst z0; subst z1; subst ek; rfl
      apply List.ext_getElem el
      intro i i1 i2
      have := hall i i1
      simpa [List.getD, i1, i2] using this
theorem det {w : World} {r s : Ref} (hr : OkR w r) (hs : OkR w s) (h1 : r.1.ks ≠ []) (h2 : s.1.ks ≠ []) (e : keyV r.2 = keyV s.2) : r.1.ks.length = s.1.ks.length ∧ ∀ i, i < r.1.ks.length → kidR w r i = kidR w s i := by
  obtain ⟨e1, e2⟩ := TyOk.det hr hs h1 h2 e
  exact ⟨by rw [e1], fun i _ => by simp only [kidR, e1, e2]⟩

structure Eqv (Q : Ref → Ref → Prop) : Prop where
  refl : ∀ r, Q r r
  symm : ∀ {r s}, Q r s → Q s r
  trans : ∀ {r s t}, Q r s → Q s t → Q r t
def Base (rep : KV → KV) (r s : Ref) : Prop := r.1.k = s.1.k ∧ r.1.n = s.1.n ∧ r.1.ks.length = s.1.ks.length ∧ (r.1.ks = [] ∨ rep (keyV r.2) = rep (keyV s.2))
theorem nil_len {r s : Ref} (h : r.1.ks.length = s.1.ks.length) (e : r.1.ks = []) : s.1.ks = [] := List.length_eq_zero_iff.1 (by rw [← h, e]; rfl)
theorem base_eqv (rep : KV → KV) : Eqv (Base rep) where
  refl := fun r => ⟨rfl, rfl, rfl, .inr rfl⟩
  symm := fun ⟨a, b, c, d⟩ => ⟨a.symm, b.symm, c.symm, d.imp (nil_len c) (·.symm)⟩
  trans := fun ⟨a, b, c, d⟩ ⟨a', b', c', d'⟩ => ⟨a.trans a', b.trans b', c.trans c', by
    rcases d with d | d
    · exact .inl d
    · rcases d' with d' | d'
      · exact .inl (nil_len c.symm d')
      · exact .inr (d.trans d')⟩
/-- Rows of one class have the same operands, as far as Q says. -/
def Rows (w : World) (rep : KV → KV) (Q : Ref → Ref → Prop) : Prop := ∀ r s : Ref, OkR w r → OkR w s → r.1.ks ≠ [] → s.1.ks ≠ [] → rep (keyV r.2) = rep (keyV s.2) → r.1.ks.length = s.1.ks.length ∧ ∀ i, i < r.1.ks.length → Q (kidR w r i) (kidR w s i)
structure Inv (w : World) (rep : KV → KV) (a b : Ref) (todo : List (Ref × Ref)) : Prop where
  ok : ∀ p ∈ todo, OkR w p.1 ∧ OkR w p.2
  oka : OkR w a
  okb : OkR w b
  no : a.1 = b.1 → ∀ p ∈ todo, p.1.1 = p.2.1
  yes : ∀ Q, Eqv Q → (∀ r s, Base rep r s → Q r s) → (∀ p ∈ todo, Q p.1 p.2) → Q a b ∧ Rows w rep Q
theorem Inv.start {w : World} {a b : Ref} (ha : OkR w a) (hb : OkR w b) : Inv w id a b [(a, b)] where
  ok := fun p hp => by rw [List.mem_singleton.1 hp]; exact ⟨ha, hb⟩
  oka := ha
  okb := hb
  no := fun e p hp => by rw [List.mem_singleton.1 hp]; exact e
  yes := fun Q hQ _ h => ⟨h (a, b) (List.mem_singleton.2 rfl), fun r s hr hs h1 h2 e => by
    obtain ⟨e1, e2⟩ := det hr hs h1 h2 e
    exact ⟨e1, fun i hi => by rw [e2 i hi]; exact hQ.refl _⟩⟩
theorem Inv.bad {w : World} {rep : KV → KV} {a b : Ref} {todo : List (Ref × Ref)} (h : Inv w rep a b todo) {p : Ref × Ref} (hp : p ∈ todo) (hne : p.1.1 ≠ p.2.1) : a.1 ≠ b.1 := fun e => hne (h.no e p hp)
theorem Inv.skip {w : World} {rep : KV → KV} {a b : Ref} {rest : List (Ref × Ref)} {x y : Ref} (h : Inv w rep a b (rest ++ [(x, y)])) (hb : Base rep x y) : Inv w rep a b rest where
  ok := fun p hp => h.ok p (List.mem_append_left _ hp)
  oka := h.oka
  okb := h.okb
  no := fun e p hp => h.no e p (List.mem_append_left _ hp)
  yes := fun Q hQ hB ht => h.yes Q hQ hB (fun p hp => by
    rcases List.mem_append.1 hp with hp | hp
    · exact ht p hp
    · rw [List.mem_singleton.1 hp]; exact hB _ _ hb)
theorem Inv.push {w : World} {rep : KV → KV} {a b : Ref} {rest todo : List (Ref × Ref)} {x y : Ref} (h : Inv w rep a b (rest ++ [(x, y)])) (hk : x.1.k = y.1.k) (hn : x.1.n = y.1.n) (hl : x.1.ks.length = y.1.ks.length) (hne : x.1.ks ≠ [])
    (h1 : ∀ p ∈ todo, p ∈ rest ∨ ∃ i, i < x.1.ks.length ∧ p = (kidR w x i, kidR w y i)) (h2 : ∀ p ∈ rest, p ∈ todo) (h3 : ∀ i, i < x.1.ks.length → (kidR w x i, kidR w y i) ∈ todo) :
    Inv w (repJ rep (rep (keyV x.2)) (rep (keyV y.2))) a b todo := by
  have hxy : (x, y) ∈ rest ++ [(x, y)] := List.mem_append_right _ (List.mem_singleton.2 rfl)
  obtain ⟨okx, oky⟩ := h.ok _ hxy
  have hyne : y.1.ks ≠ [] := fun e => hne (nil_len hl.symm e)
  refine ⟨fun p hp => ?_, h.oka, h.okb, fun e p hp => ?_, fun Q hQ hB ht => ?_⟩
  · rcases h1 p hp with hp | ⟨i, hi, rfl⟩
    · exact h.ok p (List.mem_append_left _ hp)
    · exact ⟨OkR.kid okx hi, OkR.kid oky (by show i < y.1.ks.length; omega)⟩
  · rcases h1 p hp with hp | ⟨i, hi, rfl⟩
    · exact h.no e p (List.mem_append_left _ hp)
    · have := h.no e _ hxy
      show x.1.ks.getD i Ty.dummy = y.1.ks.getD i Ty.dummy
      have e2 : x.1 = y.1 := this
      rw [e2]
  · have hrr : ∀ k k', rep k = rep k' → repJ rep (rep (keyV x.2)) (rep (keyV y.2)) k = repJ rep (rep (keyV x.2)) (rep (keyV y.2)) k' := fun k k' e => by simp only [repJ, e]
    have hqxy : Q x y := hB _ _ ⟨hk, hn, hl, .inr (by unfold repJ; by_cases e : rep (keyV y.2) = rep (keyV x.2) <;> simp [e])⟩
    obtain ⟨qab, hrows⟩ := h.yes Q hQ (fun r s ⟨b1, b2, b3, b4⟩ => hB r s ⟨b1, b2, b3, b4.imp id (hrr _ _)⟩) (fun p hp => by
      rcases List.mem_append.1 hp with hp | hp
      · exact ht p (h2 p hp)
      · rw [List.mem_singleton.1 hp]; exact hqxy)
    have hkids : ∀ i, i < x.1.ks.length → Q (kidR w x i) (kidR w y i) := fun i hi => ht _ (h3 i hi)
    refine ⟨qab, fun r s hr hs nr ns e => ?_⟩
    have hcase : rep (keyV r.2) = rep (keyV s.2) ∨ (rep (keyV r.2) = rep (keyV x.2) ∧ rep (keyV s.2) = rep (keyV y.2)) ∨ (rep (keyV r.2) = rep (keyV y.2) ∧ rep (keyV s.2) = rep (keyV x.2)) := by
      unfold repJ at e
      by_cases e1 : rep (keyV r.2) = rep (keyV x.2)
      · by_cases e2 : rep (keyV s.2) = rep (keyV x.2)
        · exact .inl (e1.trans e2.symm)
        · rw [if_pos e1, if_neg e2] at e
          exact .inr (.inl ⟨e1, e.symm⟩)
      · by_cases e2 : rep (keyV s.2) = rep (keyV x.2)
        · rw [if_neg e1, if_pos e2] at e
          exact .inr (.inr ⟨e, e2⟩)
        · rw [if_neg e1, if_neg e2] at e
          exact .inl e
    rcases hcase with c | ⟨c1, c2⟩ | ⟨c1, c2⟩
    · exact hrows r s hr hs nr ns c
    · obtain ⟨l1, q1⟩ := hrows r x hr okx nr hne c1
      obtain ⟨l2, q2⟩ := hrows s y hs oky ns hyne c2
      exact ⟨by omega, fun i hi => hQ.trans (q1 i hi) (hQ.trans (hkids i (by omega)) (hQ.symm (q2 i (by omega))))⟩
    · obtain ⟨l1, q1⟩ := hrows r y hr oky nr hyne c1
      obtain ⟨l2, q2⟩ := hrows s x hs okx ns hne c2
      exact ⟨by omega, fun i hi => hQ.trans (q1 i hi) (hQ.trans (hQ.symm (hkids i (by omega))) (hQ.symm (q2 i (by omega))))⟩
theorem base_same {w : World} {rep : KV → KV} (hrows : Rows w rep (Base rep)) (m : Nat) : ∀ r s : Ref, SizeOf.sizeOf r.1 < m → OkR w r → OkR w s → Base rep r s → r.1 = s.1 := by
  induction m with
  | zero => intro r s h; exact absurd h (Nat.not_lt_zero _)
  | succ m ih =>
    intro r s hm hr hs ⟨b1, b2, b3, b4⟩
    refine same_all b1 b2 b3 (fun i hi => ?_)
    have hne : r.1.ks ≠ [] := fun e => by rw [e] at hi; exact absurd hi (Nat.not_lt_zero _)
    have hns : s.1.ks ≠ [] := fun e => hne (nil_len b3.symm e)
    obtain ⟨_, q⟩ := hrows r s hr hs hne hns (b4.resolve_left hne)
    have hlt := Ty.kid_lt r.1 i hi
    exact ih (kidR w r i) (kidR w s i) (by show SizeOf.sizeOf (r.1.ks.getD i Ty.dummy) < m; omega) (OkR.kid hr hi) (OkR.kid hs (by omega)) (q i hi)
theorem Inv.done {w : World} {rep : KV → KV} {a b : Ref} (h : Inv w rep a b []) : a.1 = b.1 := by
  obtain ⟨h1, h2⟩ := h.yes _ (base_eqv rep) (fun r s h => h) (fun p hp => by cases hp)
  exact base_same h2 _ a b (Nat.lt_succ_self _) h.oka h.okb h1
/- The nodes of a type, and of a list of types. -/
mutual
def nodes : Ty → Nat | .node _ _ ks => nodesL ks + 1
def nodesL : List Ty → Nat | [] => 0 | t :: ts => nodes t + nodesL ts
end
theorem nodesL_sum : ∀ ks : List Ty, nodesL ks = (ks.map nodes).sum
  | [] => by simp [nodesL]
  | k :: ks => by simp [nodesL, nodesL_sum ks]
theorem nodes_pos (t : Ty) : 0 < nodes t := by cases t; simp [nodes]
theorem sum_more (f g : Nat → Nat) : ∀ n, (∀ i, i < n → f i = g i + 1) → ((List.range n).map f).sum = n + ((List.range n).map g).sum
  | 0, _ => by simp
  | n + 1, h => by
    have h1 := sum_more f g n (fun i hi => h i (by omega))
    have h2 := h n (by omega)
    simp only [List.range_succ, List.map_append, List.sum_append, List.map_cons, List.map_nil, List.sum_cons, List.sum_nil]
    omega
theorem nodes_kids (k n : Int) (ks : List Ty) : nodes (.node k n ks) = ((List.range ks.length).map fun i => nodes (ks.getD i Ty.dummy)).sum + 1 := by
  have e : (List.range ks.length).map (fun i => nodes (ks.getD i Ty.dummy)) = ks.map nodes := by
    apply List.ext_getElem (by simp)
    intro i h1 h2
    have h3 : i < ks.length := by simpa using h2
    simp [List.getD, h3]
  rw [e, ← nodesL_sum]; rfl
theorem Cnt.nodes {t : Ty} {c : Nat} (h : Cnt t c) : nodes t = c + 1 := by
  induction h with
  | node k n ks c h ih =>
    rw [nodes_kids, sum_more _ c _ ih]
/-- What is left to do, in nodes. -/
def work (l : List (Ref × Ref)) : Nat := (l.map fun p => nodes p.1.1).sum
theorem work_append (l l' : List (Ref × Ref)) : work (l ++ l') = work l + work l' := by simp [work]
theorem work_one (x y : Ref) : work [(x, y)] = nodes x.1 := by simp [work]
theorem work_len : ∀ l : List (Ref × Ref), l.length ≤ work l
  | [] => Nat.zero_le _
  | p :: l => by
    have := work_len l
    have h := nodes_pos p.1.1
    simp only [work, List.map_cons, List.sum_cons, List.length_cons] at *
    omega
/-- The pairs of the operands before i. -/
def kids (w : World) (x y : Ref) (i : Nat) : List (Ref × Ref) := (List.range i).map fun j => (kidR w x j, kidR w y j)
theorem kids_succ (w : World) (x y : Ref) (i : Nat) : kids w x y (i + 1) = kids w x y i ++ [(kidR w x i, kidR w y i)] := by simp [kids, List.range_succ]
theorem kids_mem {w : World} {x y : Ref} {i : Nat} {p : Ref × Ref} : p ∈ kids w x y i ↔ ∃ j, j < i ∧ p = (kidR w x j, kidR w y j) := by
  simp only [kids, List.mem_map, List.mem_range]
  constructor
  · rintro ⟨j, h, rfl⟩; exact ⟨j, h, rfl⟩
  · rintro ⟨j, h, rfl⟩; exact ⟨j, h, rfl⟩
theorem kids_len (w : World) (x y : Ref) (i : Nat) : (kids w x y i).length = i := by simp [kids]
theorem work_kids (w : World) (x y : Ref) : work (kids w x y x.1.ks.length) + 1 = nodes x.1 := by
  obtain ⟨t, v⟩ := x
  cases t with
  | node k n ks =>
    rw [nodes_kids]
    simp only [work, kids, List.map_map]
    rfl
theorem work_kid (w : World) (x y : Ref) : ∀ i, i ≤ x.1.ks.length → work (kids w x y i) ≤ work (kids w x y x.1.ks.length) := by
  intro i hi
  obtain ⟨d, hd⟩ : ∃ d, x.1.ks.length = i + d := ⟨_, (Nat.add_sub_cancel' hi).symm⟩
  rw [hd]
  clear hd hi
  induction d with
  | zero => exact Nat.le_refl _
  | succ d ih => rw [← Nat.add_assoc, kids_succ, work_append]; omega
theorem Inv.pushed {w : World} {rep : KV → KV} {a b : Ref} {rest : List (Ref × Ref)} {x y : Ref} (h : Inv w rep a b (rest ++ [(x, y)])) (hk : x.1.k = y.1.k) (hn : x.1.n = y.1.n) (hl : x.1.ks.length = y.1.ks.length) (hne : x.1.ks ≠ []) :
    Inv w (repJ rep (rep (keyV x.2)) (rep (keyV y.2))) a b (rest ++ kids w x y x.1.ks.length) := by
  refine h.push hk hn hl hne (fun p hp => ?_) (fun p hp => List.mem_append_left _ hp) (fun i hi => List.mem_append_right _ (kids_mem.2 ⟨i, hi, rfl⟩))
  rcases List.mem_append.1 hp with hp | hp
  · exact .inl hp
  · exact .inr (kids_mem.1 hp)

end Go.Proofs.Ytjhccdioainibaa

namespace Go.Proofs.Ytjhccdioainibaa.Mx
open Go.Proofs.Ytjhccdioainibaa
open Go.RowKit
set_option linter.unusedVariables false
set_option linter.unusedSimpArgs false

abbrev IV := Int × Value
def ik (n : Int) : Value := .int .i64 n
/-- Where a key stands, and its value. -/
def fnd (x : Int) : List IV → Nat → Option (Nat × Value)
  | [], _ => none
  | p :: M, i => if x = p.1 then some (i, p.2) else fnd x M (i + 1)
/-- The value at a key. -/
def look (x : Int) : List IV → Option Value
  | [] => none
  | p :: M => if x = p.1 then some p.2 else look x M
def upd (x : Int) (v : Value) : List IV → List IV
  | [] => [(x, v)]
  | p :: M => if x = p.1 then (x, v) :: M else p :: upd x v M
theorem look_upd (x : Int) (v : Value) (y : Int) : ∀ M, look y (upd x v M) = if y = x then some v else look y M
  | [] => by simp [upd, look]
  | p :: M => by
    unfold upd
    split
    · rename_i h
      by_cases hy : y = x
      · simp [look, hy]
      · have : ¬ y = p.1 := fun e => hy (e.trans h.symm)
        simp [look, hy, this]
    · rename_i h
      by_cases hp : y = p.1
      · have : ¬ y = x := fun e => h (e.symm.trans hp)
        simp [look, hp]
        intro e; exact absurd e.symm h
      · simp only [look, if_neg hp]; exact look_upd x v y M
theorem fnd_look (x : Int) : ∀ M i, (fnd x M i).map (·.2) = look x M
  | [], i => rfl
  | p :: M, i => by
    unfold fnd look
    split
    · rfl
    · exact fnd_look x M (i + 1)
def pairs (es : List MapEntry) : List (Value × Value) := es.map fun e => (e.key, e.val)
def vpairs (M : List IV) : List (Value × Value) := M.map fun p => (ik p.1, p.2)
theorem now_run (x : Int) : ∀ (es : List MapEntry) (M : List IV) (i : Nat), pairs es = vpairs M → Instr.findNow (.int .i64) (ik x) es i = some (fnd x M i)
  | [], [], i, _ => by simp [Instr.findNow, fnd]
  | [], _ :: _, _, h => by simp [pairs, vpairs] at h
  | _ :: _, [], _, h => by simp [pairs, vpairs] at h
  | e :: es, p :: M, i, h => by
    simp only [pairs, vpairs, List.map_cons, List.cons.injEq, Prod.mk.injEq] at h
    obtain ⟨⟨h1, h2⟩, h3⟩ := h
    have ih := now_run x es M (i + 1) h3
    unfold Instr.findNow
    rw [h1]
    by_cases hxp : x = p.1
    · simp [Instr.sameNow, ik, fnd, hxp, h2]
    · have hb : (x == p.1) = false := by simpa using hxp
      simp only [Instr.sameNow, ik, fnd, if_neg hxp, if_true, beq_self_eq_true, hb]
      simpa [ik] using ih
theorem ikey (x : Int) : Go.MapKept.IsKey (.int .i64) (ik x) := by
  unfold ik Go.MapKept.IsKey; rfl
theorem key_run (w : World) (x : Int) (es : List MapEntry) (M : List IV) (h : pairs es = vpairs M) : (Instr.findKey 3 (ik x) es).run Try.prog w = .ok (fnd x M 0) w :=
  Go.MapKept.run_findKey Try.underlying3 (now_run x es M 0 h)
theorem check_run (w : World) (em : Bool) (x : Int) : (Instr.checkKey em 10000 3 (ik x)).run Try.prog w = .ok () w :=
  Go.MapKept.run_checkKey (d := .int .i64) Try.underlying3 (ikey x) em 9999
theorem stays_run (w : World) (x : Int) : (Instr.keyThatStays (ik x) (ik x)).run Try.prog w = .ok (ik x) w :=
  Go.MapKept.run_keyThatStays (d := .int .i64) (ikey x)
theorem fnd_some (x : Int) (v : Value) : ∀ (M : List IV) (i0 i : Nat) (u : Value), fnd x M i0 = some (i, u) → ∃ j, i = i0 + j ∧ j < M.length ∧ (M[j]?.map (·.1)) = some x ∧ upd x v M = M.set j (x, v)
  | [], i0, i, u, h => by simp [fnd] at h
  | p :: M, i0, i, u, h => by
    unfold fnd at h
    split at h
    · rename_i hx
      injection h with h; injection h with h1 h2
      exact ⟨0, by omega, by simp, by simp [hx], by simp [upd, hx]⟩
    · rename_i hx
      obtain ⟨j, h1, h2, h3, h4⟩ := fnd_some x v M (i0 + 1) i u h
      exact ⟨j + 1, by omega, by simpa using h2, by simpa using h3, by simp [upd, hx, h4]⟩
theorem fnd_none (x : Int) (v : Value) : ∀ (M : List IV) (i0 : Nat), fnd x M i0 = none → upd x v M = M ++ [(x, v)]
  | [], _, _ => rfl
  | p :: M, i0, h => by
    unfold fnd at h
    split at h
    · cases h
    · rename_i hx
      simp [upd, hx, fnd_none x v M (i0 + 1) h]
theorem pairs_modify (l : List MapEntry) (j : Nat) (k v : Value) : pairs (l.modify j fun e => { e with key := k, val := v }) = (pairs l).set j (k, v) := by
  apply List.ext_getElem?
  intro i
  simp only [pairs, List.getElem?_map, List.getElem?_modify, List.getElem?_set]
  by_cases h : j = i
  · subst h
    by_cases hl : j < l.length
    · simp [hl]
    · simp [hl]
  · simp [h]
/-- Block bm is a map that holds M. -/
def IMap (w : World) (bm : Nat) (M : List IV) : Prop := ∃ es clock, w.heap[bm]? = some (.map es clock) ∧ pairs es.toList = vpairs M
theorem imap_new (w : World) : IMap (w.alloc (.map #[] 0)) w.heap.size [] := ⟨#[], 0, (Go.MapKept.heap_alloc w _).1, rfl⟩
theorem IMap.lt {w : World} {bm : Nat} {M : List IV} (h : IMap w bm M) : bm < w.heap.size := by
  obtain ⟨es, clock, h1, _⟩ := h
  exact (Array.getElem?_eq_some_iff.1 h1).1
theorem IMap.keep {w w' : World} {bm : Nat} {M : List IV} (h : IMap w bm M) (e : w'.heap[bm]? = w.heap[bm]?) : IMap w' bm M := by
  obtain ⟨es, clock, h1, h2⟩ := h
  exact ⟨es, clock, e.trans h1, h2⟩
def zeroT : Value := .agg #[.int .i64 0, .int .i64 0, .slice none 0 0]
theorem zeroT_run (w : World) : (zeroValue 28).run Try.prog w = .ok zeroT w := by kernel_rfl
theorem lookup_run (w : World) (bm : Nat) (M : List IV) (x : Int) (h : IMap w bm M) : (Instr.lookup 73 (.map (some bm)) (ik x) true).run Try.prog w = .ok (.tuple #[(look x M).getD zeroT, .bool (look x M).isSome]) w := by
  obtain ⟨es, clock, h1, h2⟩ := h
  have hk := key_run w x es.toList M h2
  have hfl := fnd_look x M 0
  simp only [Instr.lookup, Sem.run_bind, run_underlying Try.underlying73, Result.andThen_ok, Go.MapKept.run_getObj_map h1, Sem.run_pure, check_run, hk]
  rcases hf : fnd x M 0 with _ | ⟨i, u⟩
  · rw [hf] at hfl
    have hl : look x M = none := hfl.symm
    simp [hl, zeroT_run, Result.andThen]
    rfl
  · rw [hf] at hfl
    have hl : look x M = some u := hfl.symm
    simp [hl]
theorem update_run (w : World) (bm : Nat) (M : List IV) (x : Int) (v : Value) (h : IMap w bm M) : ∃ w', (Instr.mapUpdate 73 (.map (some bm)) (ik x) v).run Try.prog w = .ok () w' ∧ IMap w' bm (upd x v M) ∧ w.grownBy w' (some bm) := by
  obtain ⟨es, clock, h1, h2⟩ := h
  have hk := key_run w x es.toList M h2
  have grown : ∀ (o : Obj), w.grownBy { w with heap := w.heap.setIfInBounds bm o } (some bm) := fun o =>
    ⟨rfl, rfl, rfl, by simp, fun k hk hne => (Go.MapKept.heap_set h1).2 k (fun e => hne (by rw [e]))⟩
  simp only [Instr.mapUpdate, Sem.run_bind, run_underlying Try.underlying73, Result.andThen_ok, Go.MapKept.run_getObj_map h1, check_run, hk]
  rcases hf : fnd x M 0 with _ | ⟨i, u⟩
  · simp only [Go.MapKept.run_setObj_map _ h1]
    refine ⟨_, rfl, ⟨_, _, (Go.MapKept.heap_set h1).1, ?_⟩, grown _⟩
    rw [fnd_none x v M 0 hf]
    simp only [pairs, vpairs, Array.toList_push, List.map_append, List.map_cons, List.map_nil] at h2 ⊢
    rw [h2]
  · obtain ⟨j, e1, e2, e3, e4⟩ := fnd_some x v M 0 i u hf
    have e1 : i = j := by omega
    subst e1
    have hkey : (((es[i]?).map (·.key)).getD (ik x)) = ik x := by
      have h5 : (pairs es.toList)[i]? = (vpairs M)[i]? := by rw [h2]
      simp only [pairs, vpairs, List.getElem?_map, Array.getElem?_toList] at h5
      rcases hM : M[i]? with _ | q
      · rw [hM] at e3; simp at e3
      · rw [hM] at h5 e3
        simp at e3
        rcases he : es[i]? with _ | e
        · rw [he] at h5; simp at h5
        · rw [he] at h5
          simp at h5
          simp [h5.1, e3]
    simp only [hkey, Sem.run_bind, stays_run, Result.andThen_ok, Go.MapKept.run_setObj_map _ h1]
    refine ⟨_, rfl, ⟨_, _, (Go.MapKept.heap_set h1).1, ?_⟩, grown _⟩
    rw [e4, Array.toList_modify, pairs_modify, h2]
    simp [vpairs, List.map_set]

end Go.Proofs.Ytjhccdioainibaa.Mx
/-
  What InstanceOf looks for: replacements of the variables of a type that yield another one. Plain facts.
-/
namespace Go.Proofs.Ytjhccdioainibaa.Mx
open Go.Proofs.Ytjhccdioainibaa
open Go.RowKit
set_option linter.unusedVariables false
set_option linter.unusedSimpArgs false

/-- What the variables have been replaced by so far. -/
abbrev Asn := List (Int × Ty)
def alook (x : Int) : Asn → Option Ty
  | [] => none
  | p :: M => if x = p.1 then some p.2 else alook x M
theorem alook_snoc (x n : Int) (s : Ty) : ∀ M, alook n M = none → alook x (M ++ [(n, s)]) = if x = n then some s else alook x M
  | [], _ => by simp [alook]
  | p :: M, h => by
    unfold alook at h
    split at h
    · cases h
    · rename_i hn
      rw [List.cons_append]
      unfold alook
      by_cases hx : x = p.1
      · have : ¬ x = n := fun e => hn (e.symm.trans hx)
        rw [if_pos hx, if_neg this, if_pos hx]
      · rw [if_neg hx, if_neg hx]; exact alook_snoc x n s M h
def iter (f : Nat → Asn → Option Asn) : Nat → Asn → Option Asn
  | 0, M => some M
  | n + 1, M => (iter f n M).bind (f n)
theorem iter_none {f : Nat → Asn → Option Asn} {M : Asn} {n : Nat} (h : iter f n M = none) : ∀ d, iter f (n + d) M = none
  | 0 => h
  | d + 1 => by
    show (iter f (n + d) M).bind (f (n + d)) = none
    rw [iter_none h d]; rfl
theorem iter_stop {f : Nat → Asn → Option Asn} {M N : Asn} {j n : Nat} (h : iter f j M = some N) (hf : f j N = none) (hj : j < n) : iter f n M = none := by
  have h1 : iter f (j + 1) M = none := by
    show (iter f j M).bind (f j) = none
    rw [h]; exact hf
  have h2 := iter_none h1 (n - (j + 1))
  rwa [show j + 1 + (n - (j + 1)) = n by omega] at h2
theorem iter_next {f : Nat → Asn → Option Asn} {M N N' : Asn} {j : Nat} (h : iter f j M = some N) (hf : f j N = some N') : iter f (j + 1) M = some N' := by
  show (iter f j M).bind (f j) = some N'
  rw [h]; exact hf
/-- The replacements of the variables of g that yield s, if the depth is at most d. -/
noncomputable def mtf : Nat → Ty → Ty → Asn → Option Asn
  | 0, _, _, _ => none
  | d + 1, g, s, M =>
    if g.k = 4 then (match alook g.n M with | some b => if sameB b s = true then some M else none | none => some (M ++ [(g.n, s)]))
    else if s.k = g.k then iter (fun i N => mtf d (g.ks.getD i Ty.dummy) (s.ks.getD i Ty.dummy) N) g.ks.length M else none
theorem mtf_new {d : Nat} {g s : Ty} {M : Asn} (h4 : g.k = 4) (h : alook g.n M = none) : mtf (d + 1) g s M = some (M ++ [(g.n, s)]) := by
  unfold mtf; rw [if_pos h4, h]
theorem mtf_old {d : Nat} {g s b : Ty} {M : Asn} (h4 : g.k = 4) (h : alook g.n M = some b) : mtf (d + 1) g s M = if sameB b s = true then some M else none := by
  unfold mtf; rw [if_pos h4, h]
theorem mtf_kind {d : Nat} {g s : Ty} {M : Asn} (h4 : g.k ≠ 4) (h : s.k ≠ g.k) : mtf (d + 1) g s M = none := by
  unfold mtf; rw [if_neg h4, if_neg h]
theorem mtf_iter {d : Nat} {g s : Ty} {M : Asn} (h4 : g.k ≠ 4) (h : s.k = g.k) : mtf (d + 1) g s M = iter (fun i N => mtf d (g.ks.getD i Ty.dummy) (s.ks.getD i Ty.dummy) N) g.ks.length M := by
  show (if g.k = 4 then _ else _) = _
  rw [if_neg h4, if_pos h]
theorem shp_parts {d : Nat} {t : Ty} (h : shp (d + 1) t = true) : fieldsB t.k t.n t.ks.length = true ∧ ∀ i, i < t.ks.length → shp d (t.ks.getD i Ty.dummy) = true := by
  unfold shp at h
  rw [Bool.and_eq_true] at h
  refine ⟨h.1, fun i hi => ?_⟩
  have := List.all_eq_true.1 h.2 i (List.mem_range.2 hi)
  exact this
theorem shp_zero {t : Ty} (h : shp 0 t = true) : False := by unfold shp at h; cases h
theorem fields_len {k n n' : Int} {l l' : Nat} (h : fieldsB k n l = true) (h' : fieldsB k n' l' = true) : l = l' := by
  have a := fieldsB_iff.1 h
  have b := fieldsB_iff.1 h'
  omega
theorem fields_var {k n : Int} {l : Nat} (h : fieldsB k n l = true) (h4 : k = 4) : 0 ≤ n ∧ n ≤ 25 := by
  have a := fieldsB_iff.1 h
  omega
theorem fields_kind {k n : Int} {l : Nat} (h : fieldsB k n l = true) : k ≠ 0 := by
  have a := fieldsB_iff.1 h
  omega
theorem nodes_kid {t : Ty} {i : Nat} (hi : i < t.ks.length) : nodes (t.ks.getD i Ty.dummy) ≤ nodes t := by
  cases t with
  | node k n ks =>
    have h := sum_mono (fun i => nodes (ks.getD i Ty.dummy)) (show i + 1 ≤ ks.length from hi)
    rw [sum_succ] at h
    rw [nodes_kids]
    show nodes (ks.getD i Ty.dummy) ≤ _
    omega
theorem isSome_of {α : Type} {o : Option α} {b : Bool} (h : o.isSome = b) : Ending.returned (.bool b) = .returned (.bool o.isSome) := by rw [h]

/-- The map holds the replacements. -/
structure RelI (w0 : World) (M : Asn) (L : List IV) : Prop where
  no : ∀ x, alook x M = none → look x L = none
  yes : ∀ x t, alook x M = some t → ∃ v, look x L = some (.agg #[.int .i64 t.k, .int .i64 t.n, v]) ∧ TyOk w0 t v ∧ nodes t ≤ 1048577
theorem RelI.nil (w0 : World) : RelI w0 [] [] := ⟨fun x _ => rfl, fun x t h => by cases h⟩
theorem RelI.put {w0 : World} {M : Asn} {L : List IV} (h : RelI w0 M L) {n : Int} {s : Ty} {v : Value} (hn : alook n M = none) (hs : TyOk w0 s v) (hc : nodes s ≤ 1048577) : RelI w0 (M ++ [(n, s)]) (upd n (.agg #[.int .i64 s.k, .int .i64 s.n, v]) L) where
  no := fun x hx => by
    rw [alook_snoc x n s M hn] at hx
    rw [look_upd]
    by_cases e : x = n
    · rw [if_pos e] at hx; cases hx
    · rw [if_neg e] at hx ⊢; exact h.no x hx
  yes := fun x t hx => by
    rw [alook_snoc x n s M hn] at hx
    rw [look_upd]
    by_cases e : x = n
    · rw [if_pos e] at hx ⊢
      injection hx with hx
      subst hx
      exact ⟨v, rfl, hs, hc⟩
    · rw [if_neg e] at hx ⊢; exact h.yes x t hx
/-- The row holds the replacements: three cells for each variable, the first one 0 if there is none. -/
structure RelS (w0 : World) (M : Asn) (xs : List Value) : Prop where
  no : ∀ n : Nat, n < 26 → alook n M = none → xs[n * 3]? = some (.int .i64 0)
  yes : ∀ n : Nat, n < 26 → ∀ t, alook n M = some t → ∃ v, xs[n * 3]? = some (.int .i64 t.k) ∧ xs[n * 3 + 1]? = some (.int .i64 t.n) ∧ xs[n * 3 + 2]? = some v ∧ TyAt w0 t v ∧ t.k ≠ 0
theorem set3_get (xs : List Value) (j : Nat) (a b c : Value) (hl : j * 3 + 3 ≤ xs.length) (i q : Nat) (hq : q < 3) :
    (((xs.set (j * 3) a).set (j * 3 + 1) b).set (j * 3 + 2) c)[i * 3 + q]? = if i = j then ([a, b, c] : List Value)[q]? else xs[i * 3 + q]? := by
  by_cases hij : i = j
  · subst hij
    rw [if_pos rfl]
    obtain rfl | rfl | rfl : q = 0 ∨ q = 1 ∨ q = 2 := by omega
    all_goals try simp only [Nat.add_zero]
    all_goals repeat (first | rw [List.getElem?_set_ne (by omega)] | rw [List.getElem?_set_self (by (try simp only [List.length_set]); omega)])
    all_goals rfl
  · rw [if_neg hij, List.getElem?_set_ne (by omega), List.getElem?_set_ne (by omega), List.getElem?_set_ne (by omega)]
theorem RelS.put {w0 : World} {M : Asn} {xs : List Value} (h : RelS w0 M xs) (hl : xs.length = 78) {n : Nat} (h26 : n < 26) {s : Ty} {v : Value} (hn : alook n M = none) (hs : TyAt w0 s v) (hk : s.k ≠ 0) :
    RelS w0 (M ++ [((n : Int), s)]) (((xs.set (n * 3) (.int .i64 s.k)).set (n * 3 + 1) (.int .i64 s.n)).set (n * 3 + 2) v) where
  no := fun m hm hx => by
    rw [alook_snoc (m : Int) n s M hn] at hx
    have g := set3_get xs n (.int .i64 s.k) (.int .i64 s.n) v (by omega) m 0 (by omega)
    rw [show m * 3 + 0 = m * 3 from rfl] at g
    rw [g]
    by_cases e : m = n
    · subst e; rw [if_pos rfl] at hx; cases hx
    · rw [if_neg (by omega)] at hx
      rw [if_neg e]; exact h.no m hm hx
  yes := fun m hm t hx => by
    rw [alook_snoc (m : Int) n s M hn] at hx
    have g0 := set3_get xs n (.int .i64 s.k) (.int .i64 s.n) v (by omega) m 0 (by omega)
    have g1 := set3_get xs n (.int .i64 s.k) (.int .i64 s.n) v (by omega) m 1 (by omega)
    have g2 := set3_get xs n (.int .i64 s.k) (.int .i64 s.n) v (by omega) m 2 (by omega)
    rw [show m * 3 + 0 = m * 3 from rfl] at g0
    rw [g0, g1, g2]
    by_cases e : m = n
    · subst e
      rw [if_pos rfl] at hx
      injection hx with hx
      subst hx
      simp only [if_true]
      exact ⟨v, rfl, rfl, rfl, hs, hk⟩
    · rw [if_neg (by omega)] at hx
      simp only [if_neg e]
      exact h.yes m hm t hx
theorem IMap.inside {w w' : World} {bm : Nat} {L : List IV} (h : IMap w bm L) (hb : Below w.heap.size w w') : IMap w' bm L := h.keep (hb.block bm h.lt)

end Go.Proofs.Ytjhccdioainibaa.Mx

namespace Go.Proofs.Ytjhccdioainibaa
open Go.RowKit

/-- The text of a type, down to a depth. -/
def txt : Nat → Ty → ByteArray
  | 0, _ => ⟨#[]⟩
  | d + 1, t => if t.k = 1 then ⟨#[73]⟩ else if t.k = 4 then ⟨#[UInt8.ofNat (97 + t.n.toNat)]⟩
    else ⟨#[40]⟩ ++ txt d (t.ks.getD 0 Ty.dummy) ++ (if t.k = 3 then ⟨#[42]⟩ else ⟨#[62]⟩) ++ txt d (t.ks.getD 1 Ty.dummy) ++ ⟨#[41]⟩
theorem txt_num {d : Nat} {t : Ty} (h : t.k = 1) : txt (d + 1) t = ⟨#[73]⟩ := by rw [txt, if_pos h]
theorem txt_var {d : Nat} {t : Ty} (h : t.k = 4) : txt (d + 1) t = ⟨#[UInt8.ofNat (97 + t.n.toNat)]⟩ := by rw [txt, if_neg (by omega), if_pos h]
theorem txt_fun {d : Nat} {t : Ty} (h : t.k = 2) : txt (d + 1) t = ⟨#[40]⟩ ++ txt d (t.ks.getD 0 Ty.dummy) ++ ⟨#[62]⟩ ++ txt d (t.ks.getD 1 Ty.dummy) ++ ⟨#[41]⟩ := by
  rw [txt, if_neg (by omega), if_neg (by omega), if_neg (by omega)]
theorem txt_pair {d : Nat} {t : Ty} (h : t.k = 3) : txt (d + 1) t = ⟨#[40]⟩ ++ txt d (t.ks.getD 0 Ty.dummy) ++ ⟨#[42]⟩ ++ txt d (t.ks.getD 1 Ty.dummy) ++ ⟨#[41]⟩ := by
  rw [txt, if_neg (by omega), if_neg (by omega), if_pos h]
theorem one_size (c : UInt8) : (⟨#[c]⟩ : ByteArray).size = 1 := rfl
theorem txt_size : ∀ (d : Nat) (t : Ty), shp d t = true → (txt d t).size + 3 ≤ 2 ^ (d + 2) := by
  intro d
  induction d with
  | zero => intro t h; cases h
  | succ d ih =>
    intro t h
    obtain ⟨hf, hk⟩ := shp_iff.1 h
    have hp : 2 ^ (d + 1 + 2) = 2 * 2 ^ (d + 2) := by rw [Nat.pow_succ]; omega
    have h4 : 4 ≤ 2 ^ (d + 2) := by have : 2 ^ 2 ≤ 2 ^ (d + 2) := Nat.pow_le_pow_right (by omega) (by omega); simpa using this
    rcases fieldsB_iff.1 hf with ⟨h1, _, _⟩ | ⟨h1, _, h2⟩ | ⟨h1, _, _, _⟩
    · rw [txt_num h1, one_size]; omega
    · have i0 := ih _ (hk 0 (by omega))
      have i1 := ih _ (hk 1 (by omega))
      rcases h1 with h1 | h1
      · rw [txt_fun h1]; simp only [ByteArray.size_append, one_size]; omega
      · rw [txt_pair h1]; simp only [ByteArray.size_append, one_size]; omega
    · rw [txt_var h1, one_size]; omega
theorem txt_le {d : Nat} {t : Ty} (hd : d ≤ 16) (h : shp d t = true) : (txt d t).size ≤ 262144 := by
  have h1 := txt_size d t h
  have h2 : 2 ^ (d + 2) ≤ 262144 := Nat.le_trans (Nat.pow_le_pow_right (by omega) (show d + 2 ≤ 18 by omega)) (by decide)
  omega
theorem enc_letter {n : Int} (h0 : 0 ≤ n) (h1 : n ≤ 25) : Utf8.encode (97 + n) = ⟨#[UInt8.ofNat (97 + n.toNat)]⟩ := by
  obtain ⟨m, rfl⟩ : ∃ m : Nat, n = m := ⟨n.toNat, by omega⟩
  have key : ∀ m : Fin 26, Utf8.encode (97 + (m.val : Int)) = ⟨#[UInt8.ofNat (97 + (m.val : Int).toNat)]⟩ := by decide
  exact key ⟨m, by omega⟩
structure TBox3 (w : World) (B : Nat) (z : Value) : Prop where
  c2 : w.cell? ⟨B, 2, none⟩ = some z
  sz : B < w.heap.size
theorem TBox3.kept {w w' : World} {B : Nat} {z : Value} (h : TBox3 w B z) (hb : Below w.heap.size w w') : TBox3 w' B z :=
  ⟨(hb.cell (p := ⟨B, 2, none⟩) h.sz).trans h.c2, Nat.lt_of_lt_of_le h.sz hb.size⟩
theorem tbox3_new (w : World) (x y z : Value) (T : TypeId) : TBox3 (w.alloc (.cells #[x, y, z] T)) w.heap.size z := ⟨by go_simp, by simp⟩
def TextIs (s : ByteArray) (w : World) (e : Ending) (w' : World) : Prop := e = .returned (.string s) ∧ Below w.heap.size w w'

end Go.Proofs.Ytjhccdioainibaa

namespace Go.Proofs.Ytjhccdioainibaa
open Go.RowKit

theorem tvT_shp {t : Ty} (h : tvT t = true) : shp 16 t = true := by
  rcases hs : shp 16 t with _ | _
  · rw [tvT_no hs] at h; cases h
  · rfl
/-- The text that FormatType returns. -/
def fmtT (t : Ty) : ByteArray := if tvT t = true then txt 16 t else ⟨#[]⟩
theorem fmtT_no {t : Ty} (h : tvT t = false) : fmtT t = ⟨#[]⟩ := by unfold fmtT; rw [if_neg (by rw [h]; decide)]
theorem fmtT_yes {t : Ty} (h : tvT t = true) : fmtT t = txt 16 t := by unfold fmtT; rw [if_pos h]

theorem typeValid_impl_val {t : Ty} {b : Bool} (hb : tvT t = b) (v : Value) (w : World) (hx : TyAt w t v) :
    Calls Try.prog 28 #[.agg #[.int .i64 t.k, .int .i64 t.n, v]] w fun e w' => e = .returned (.bool b) ∧ Below w.heap.size w w' := by
  subst hb; exact typeValid_impl t v w hx
theorem typeValid_spec_val {t : Ty} {b : Bool} (hb : tvT t = b) (v : Value) (w : World) (hx : TyAt w t v) :
    Calls Try.prog 23 #[.agg #[.int .i64 t.k, .int .i64 t.n, v]] w fun e w' => e = .returned (.bool b) ∧ Below w.heap.size w w' := by
  subst hb; exact typeValid_spec t v w hx
end Go.Proofs.Ytjhccdioainibaa
