/-
  What the loop of TypeSame keeps: the pairs that are still to be compared, and the classes of rows. Plain facts.
-/
import Derived.Test.YtndpoejohpmifaaBd
namespace Go.Proofs.Ytndpoejohpmifaa
open Go.RowKit
set_option linter.unusedVariables false
set_option linter.unusedSimpArgs false

/-- A type with the value of its third field. -/
abbrev Ref := Ty × Value
def keyV : Value → KV
  | .slice (some a) n _ => (a.block, a.off, n)
  | _ => (0, 0, 0)
def kidV (w : World) (v : Value) (i : Nat) : Value :=
  match v with
  | .slice (some a) _ _ => (w.cell? ⟨a.block, a.off + i * 3 + 2, none⟩).getD (.bool false)
  | _ => .bool false
def kidR (w : World) (r : Ref) (i : Nat) : Ref := (r.1.ks.getD i Ty.dummy, kidV w r.2 i)
def OkR (w : World) (r : Ref) : Prop := TyOk w r.1 r.2
theorem OkR.kid {w : World} {r : Ref} (h : OkR w r) {i : Nat} (hi : i < r.1.ks.length) : OkR w (kidR w r i) := by
  obtain ⟨t, v⟩ := r
  cases h with
  | bare k n a cap => exact absurd hi (Nat.not_lt_zero _)
  | row k n ks b o cap vs hr hl h0 h1 h2 h3 =>
    have e : kidV w (.slice (some ⟨b, o, none⟩) ks.length cap) i = vs i := by simp [kidV, h2 i hi]
    have h4 := h3 i hi
    rw [← e] at h4
    exact h4
/-- The row of a key says what lies there. -/
theorem TyOk.det {w : World} {t : Ty} {v : Value} (h : TyOk w t v) : ∀ {t' : Ty} {v' : Value}, TyOk w t' v' → t.ks ≠ [] → t'.ks ≠ [] → keyV v = keyV v' → t.ks = t'.ks ∧ ∀ i, kidV w v i = kidV w v' i := by
  induction h with
  | bare k n a cap => intro t' v' _ h; exact absurd rfl h
  | row k n ks b o cap vs hr hl h0 h1 h2 h3 ih =>
    intro t' v' h' _ hne e
    cases h' with
    | bare k' n' a cap' => exact absurd rfl hne
    | row k' n' ks' b' o' cap' vs' hr' hl' g0 g1 g2 g3 =>
      simp only [keyV, Prod.mk.injEq] at e
      obtain ⟨rfl, rfl, el⟩ := e
      refine ⟨?_, fun i => rfl⟩
      show ks = ks'
      have hall : ∀ i, i < ks.length → ks.getD i Ty.dummy = ks'.getD i Ty.dummy := by
        intro i hi
        have hi' : i < ks'.length := by omega
        have q0 := (h0 i hi).symm.trans (g0 i hi')
        have q1 := (h1 i hi).symm.trans (g1 i hi')
        have q2 := (h2 i hi).symm.trans (g2 i hi')
        have z0 : (ks.getD i Ty.dummy).k = (ks'.getD i Ty.dummy).k := by simpa using q0
        have z1 : (ks.getD i Ty.dummy).n = (ks'.getD i Ty.dummy).n := by simpa using q1
        have z2 : vs i = vs' i := by simpa using q2
        have a1 := h3 i hi
        have a2 := g3 i hi'
        have l1 := ih i hi a2
        obtain ⟨c1, cc1, e1, _⟩ := a1.at.slice
        obtain ⟨c2, cc2, e2, _⟩ := a2.at.slice
        have el2 : (ks.getD i Ty.dummy).ks.length = (ks'.getD i Ty.dummy).ks.length := by
          have := e1.symm.trans (z2.trans e2)
          injection this
        have ek : (ks.getD i Ty.dummy).ks = (ks'.getD i Ty.dummy).ks := by
          by_cases hn : (ks.getD i Ty.dummy).ks = []
          · rw [hn] at el2
            rw [hn]
            exact (List.length_eq_zero_iff.1 el2.symm).symm
          · exact (l1 hn (fun e => hn (by rw [e] at el2; exact List.length_eq_zero_iff.1 el2)) (by rw [z2])).1
        generalize ks.getD i Ty.dummy = A at *
        generalize ks'.getD i Ty.dummy = B at *
        cases A; cases B
        simp only [Ty.k, Ty.n, Ty.ks] at *
        subst z0; subst z1; subst ek; rfl
      apply List.ext_getElem el
      intro i i1 i2
      have := hall i i1
      simpa [List.getD, i1, i2] using this
theorem det {w : World} {r s : Ref} (hr : OkR w r) (hs : OkR w s) (h1 : r.1.ks ≠ []) (h2 : s.1.ks ≠ []) (e : keyV r.2 = keyV s.2) : r.1.ks.length = s.1.ks.length ∧ ∀ i, i < r.1.ks.length → kidR w r i = kidR w s i := by
  obtain ⟨e1, e2⟩ := TyOk.det hr hs h1 h2 e
  exact ⟨by rw [e1], fun i _ => by simp only [kidR, e1, e2]⟩

structure Eqv (Q : Ref → Ref → Prop) : Prop where
  refl : ∀ r, Q r r
  symm : ∀ {r s}, Q r s → Q s r
  trans : ∀ {r s t}, Q r s → Q s t → Q r t
def Base (rep : KV → KV) (r s : Ref) : Prop := r.1.k = s.1.k ∧ r.1.n = s.1.n ∧ r.1.ks.length = s.1.ks.length ∧ (r.1.ks = [] ∨ rep (keyV r.2) = rep (keyV s.2))
theorem nil_len {r s : Ref} (h : r.1.ks.length = s.1.ks.length) (e : r.1.ks = []) : s.1.ks = [] := List.length_eq_zero_iff.1 (by rw [← h, e]; rfl)
theorem base_eqv (rep : KV → KV) : Eqv (Base rep) where
  refl := fun r => ⟨rfl, rfl, rfl, .inr rfl⟩
  symm := fun ⟨a, b, c, d⟩ => ⟨a.symm, b.symm, c.symm, d.imp (nil_len c) (·.symm)⟩
  trans := fun ⟨a, b, c, d⟩ ⟨a', b', c', d'⟩ => ⟨a.trans a', b.trans b', c.trans c', by
    rcases d with d | d
    · exact .inl d
    · rcases d' with d' | d'
      · exact .inl (nil_len c.symm d')
      · exact .inr (d.trans d')⟩
/-- Rows of one class have the same operands, as far as Q says. -/
def Rows (w : World) (rep : KV → KV) (Q : Ref → Ref → Prop) : Prop := ∀ r s : Ref, OkR w r → OkR w s → r.1.ks ≠ [] → s.1.ks ≠ [] → rep (keyV r.2) = rep (keyV s.2) → r.1.ks.length = s.1.ks.length ∧ ∀ i, i < r.1.ks.length → Q (kidR w r i) (kidR w s i)
structure Inv (w : World) (rep : KV → KV) (a b : Ref) (todo : List (Ref × Ref)) : Prop where
  ok : ∀ p ∈ todo, OkR w p.1 ∧ OkR w p.2
  oka : OkR w a
  okb : OkR w b
  no : a.1 = b.1 → ∀ p ∈ todo, p.1.1 = p.2.1
  yes : ∀ Q, Eqv Q → (∀ r s, Base rep r s → Q r s) → (∀ p ∈ todo, Q p.1 p.2) → Q a b ∧ Rows w rep Q
theorem Inv.start {w : World} {a b : Ref} (ha : OkR w a) (hb : OkR w b) : Inv w id a b [(a, b)] where
  ok := fun p hp => by rw [List.mem_singleton.1 hp]; exact ⟨ha, hb⟩
  oka := ha
  okb := hb
  no := fun e p hp => by rw [List.mem_singleton.1 hp]; exact e
  yes := fun Q hQ _ h => ⟨h (a, b) (List.mem_singleton.2 rfl), fun r s hr hs h1 h2 e => by
    obtain ⟨e1, e2⟩ := det hr hs h1 h2 e
    exact ⟨e1, fun i hi => by rw [e2 i hi]; exact hQ.refl _⟩⟩
theorem Inv.bad {w : World} {rep : KV → KV} {a b : Ref} {todo : List (Ref × Ref)} (h : Inv w rep a b todo) {p : Ref × Ref} (hp : p ∈ todo) (hne : p.1.1 ≠ p.2.1) : a.1 ≠ b.1 := fun e => hne (h.no e p hp)
theorem Inv.skip {w : World} {rep : KV → KV} {a b : Ref} {rest : List (Ref × Ref)} {x y : Ref} (h : Inv w rep a b (rest ++ [(x, y)])) (hb : Base rep x y) : Inv w rep a b rest where
  ok := fun p hp => h.ok p (List.mem_append_left _ hp)
  oka := h.oka
  okb := h.okb
  no := fun e p hp => h.no e p (List.mem_append_left _ hp)
  yes := fun Q hQ hB ht => h.yes Q hQ hB (fun p hp => by
    rcases List.mem_append.1 hp with hp | hp
    · exact ht p hp
    · rw [List.mem_singleton.1 hp]; exact hB _ _ hb)
theorem Inv.push {w : World} {rep : KV → KV} {a b : Ref} {rest todo : List (Ref × Ref)} {x y : Ref} (h : Inv w rep a b (rest ++ [(x, y)])) (hk : x.1.k = y.1.k) (hn : x.1.n = y.1.n) (hl : x.1.ks.length = y.1.ks.length) (hne : x.1.ks ≠ [])
    (h1 : ∀ p ∈ todo, p ∈ rest ∨ ∃ i, i < x.1.ks.length ∧ p = (kidR w x i, kidR w y i)) (h2 : ∀ p ∈ rest, p ∈ todo) (h3 : ∀ i, i < x.1.ks.length → (kidR w x i, kidR w y i) ∈ todo) :
    Inv w (repJ rep (rep (keyV x.2)) (rep (keyV y.2))) a b todo := by
  have hxy : (x, y) ∈ rest ++ [(x, y)] := List.mem_append_right _ (List.mem_singleton.2 rfl)
  obtain ⟨okx, oky⟩ := h.ok _ hxy
  have hyne : y.1.ks ≠ [] := fun e => hne (nil_len hl.symm e)
  refine ⟨fun p hp => ?_, h.oka, h.okb, fun e p hp => ?_, fun Q hQ hB ht => ?_⟩
  · rcases h1 p hp with hp | ⟨i, hi, rfl⟩
    · exact h.ok p (List.mem_append_left _ hp)
    · exact ⟨OkR.kid okx hi, OkR.kid oky (by show i < y.1.ks.length; omega)⟩
  · rcases h1 p hp with hp | ⟨i, hi, rfl⟩
    · exact h.no e p (List.mem_append_left _ hp)
    · have := h.no e _ hxy
      show x.1.ks.getD i Ty.dummy = y.1.ks.getD i Ty.dummy
      have e2 : x.1 = y.1 := this
      rw [e2]
  · have hrr : ∀ k k', rep k = rep k' → repJ rep (rep (keyV x.2)) (rep (keyV y.2)) k = repJ rep (rep (keyV x.2)) (rep (keyV y.2)) k' := fun k k' e => by simp only [repJ, e]
    have hqxy : Q x y := hB _ _ ⟨hk, hn, hl, .inr (by unfold repJ; by_cases e : rep (keyV y.2) = rep (keyV x.2) <;> simp [e])⟩
    obtain ⟨qab, hrows⟩ := h.yes Q hQ (fun r s ⟨b1, b2, b3, b4⟩ => hB r s ⟨b1, b2, b3, b4.imp id (hrr _ _)⟩) (fun p hp => by
      rcases List.mem_append.1 hp with hp | hp
      · exact ht p (h2 p hp)
      · rw [List.mem_singleton.1 hp]; exact hqxy)
    have hkids : ∀ i, i < x.1.ks.length → Q (kidR w x i) (kidR w y i) := fun i hi => ht _ (h3 i hi)
    refine ⟨qab, fun r s hr hs nr ns e => ?_⟩
    have hcase : rep (keyV r.2) = rep (keyV s.2) ∨ (rep (keyV r.2) = rep (keyV x.2) ∧ rep (keyV s.2) = rep (keyV y.2)) ∨ (rep (keyV r.2) = rep (keyV y.2) ∧ rep (keyV s.2) = rep (keyV x.2)) := by
      unfold repJ at e
      by_cases e1 : rep (keyV r.2) = rep (keyV x.2)
      · by_cases e2 : rep (keyV s.2) = rep (keyV x.2)
        · exact .inl (e1.trans e2.symm)
        · rw [if_pos e1, if_neg e2] at e
          exact .inr (.inl ⟨e1, e.symm⟩)
      · by_cases e2 : rep (keyV s.2) = rep (keyV x.2)
        · rw [if_neg e1, if_pos e2] at e
          exact .inr (.inr ⟨e, e2⟩)
        · rw [if_neg e1, if_neg e2] at e
          exact .inl e
    rcases hcase with c | ⟨c1, c2⟩ | ⟨c1, c2⟩
    · exact hrows r s hr hs nr ns c
    · obtain ⟨l1, q1⟩ := hrows r x hr okx nr hne c1
      obtain ⟨l2, q2⟩ := hrows s y hs oky ns hyne c2
      exact ⟨by omega, fun i hi => hQ.trans (q1 i hi) (hQ.trans (hkids i (by omega)) (hQ.symm (q2 i (by omega))))⟩
    · obtain ⟨l1, q1⟩ := hrows r y hr oky nr hyne c1
      obtain ⟨l2, q2⟩ := hrows s x hs okx ns hne c2
      exact ⟨by omega, fun i hi => hQ.trans (q1 i hi) (hQ.trans (hQ.symm (hkids i (by omega))) (hQ.symm (q2 i (by omega))))⟩
theorem base_same {w : World} {rep : KV → KV} (hrows : Rows w rep (Base rep)) (m : Nat) : ∀ r s : Ref, SizeOf.sizeOf r.1 < m → OkR w r → OkR w s → Base rep r s → r.1 = s.1 := by
  induction m with
  | zero => intro r s h; exact absurd h (Nat.not_lt_zero _)
  | succ m ih =>
    intro r s hm hr hs ⟨b1, b2, b3, b4⟩
    refine same_all b1 b2 b3 (fun i hi => ?_)
    have hne : r.1.ks ≠ [] := fun e => by rw [e] at hi; exact absurd hi (Nat.not_lt_zero _)
    have hns : s.1.ks ≠ [] := fun e => hne (nil_len b3.symm e)
    obtain ⟨_, q⟩ := hrows r s hr hs hne hns (b4.resolve_left hne)
    have hlt := Ty.kid_lt r.1 i hi
    exact ih (kidR w r i) (kidR w s i) (by show SizeOf.sizeOf (r.1.ks.getD i Ty.dummy) < m; omega) (OkR.kid hr hi) (OkR.kid hs (by omega)) (q i hi)
theorem Inv.done {w : World} {rep : KV → KV} {a b : Ref} (h : Inv w rep a b []) : a.1 = b.1 := by
  obtain ⟨h1, h2⟩ := h.yes _ (base_eqv rep) (fun r s h => h) (fun p hp => by cases hp)
  exact base_same h2 _ a b (Nat.lt_succ_self _) h.oka h.okb h1
/- The nodes of a type, and of a list of types. -/
mutual
def nodes : Ty → Nat | .node _ _ ks => nodesL ks + 1
def nodesL : List Ty → Nat | [] => 0 | t :: ts => nodes t + nodesL ts
end
theorem nodesL_sum : ∀ ks : List Ty, nodesL ks = (ks.map nodes).sum
  | [] => by simp [nodesL]
  | k :: ks => by simp [nodesL, nodesL_sum ks]
theorem nodes_pos (t : Ty) : 0 < nodes t := by cases t; simp [nodes]
theorem sum_more (f g : Nat → Nat) : ∀ n, (∀ i, i < n → f i = g i + 1) → ((List.range n).map f).sum = n + ((List.range n).map g).sum
  | 0, _ => by simp
  | n + 1, h => by
    have h1 := sum_more f g n (fun i hi => h i (by omega))
    have h2 := h n (by omega)
    simp only [List.range_succ, List.map_append, List.sum_append, List.map_cons, List.map_nil, List.sum_cons, List.sum_nil]
    omega
theorem nodes_kids (k n : Int) (ks : List Ty) : nodes (.node k n ks) = ((List.range ks.length).map fun i => nodes (ks.getD i Ty.dummy)).sum + 1 := by
  have e : (List.range ks.length).map (fun i => nodes (ks.getD i Ty.dummy)) = ks.map nodes := by
    apply List.ext_getElem (by simp)
    intro i h1 h2
    have h3 : i < ks.length := by simpa using h2
    simp [List.getD, h3]
  rw [e, ← nodesL_sum]; rfl
theorem Cnt.nodes {t : Ty} {c : Nat} (h : Cnt t c) : nodes t = c + 1 := by
  induction h with
  | node k n ks c h ih =>
    rw [nodes_kids, sum_more _ c _ ih]
/-- What is left to do, in nodes. -/
def work (l : List (Ref × Ref)) : Nat := (l.map fun p => nodes p.1.1).sum
theorem work_append (l l' : List (Ref × Ref)) : work (l ++ l') = work l + work l' := by simp [work]
theorem work_one (x y : Ref) : work [(x, y)] = nodes x.1 := by simp [work]
theorem work_len : ∀ l : List (Ref × Ref), l.length ≤ work l
  | [] => Nat.zero_le _
  | p :: l => by
    have := work_len l
    have h := nodes_pos p.1.1
    simp only [work, List.map_cons, List.sum_cons, List.length_cons] at *
    omega
/-- The pairs of the operands before i. -/
def kids (w : World) (x y : Ref) (i : Nat) : List (Ref × Ref) := (List.range i).map fun j => (kidR w x j, kidR w y j)
theorem kids_succ (w : World) (x y : Ref) (i : Nat) : kids w x y (i + 1) = kids w x y i ++ [(kidR w x i, kidR w y i)] := by simp [kids, List.range_succ]
theorem kids_mem {w : World} {x y : Ref} {i : Nat} {p : Ref × Ref} : p ∈ kids w x y i ↔ ∃ j, j < i ∧ p = (kidR w x j, kidR w y j) := by
  simp only [kids, List.mem_map, List.mem_range]
  constructor
  · rintro ⟨j, h, rfl⟩; exact ⟨j, h, rfl⟩
  · rintro ⟨j, h, rfl⟩; exact ⟨j, h, rfl⟩
theorem kids_len (w : World) (x y : Ref) (i : Nat) : (kids w x y i).length = i := by simp [kids]
theorem work_kids (w : World) (x y : Ref) : work (kids w x y x.1.ks.length) + 1 = nodes x.1 := by
  obtain ⟨t, v⟩ := x
  cases t with
  | node k n ks =>
    rw [nodes_kids]
    simp only [work, kids, List.map_map]
    rfl
theorem work_kid (w : World) (x y : Ref) : ∀ i, i ≤ x.1.ks.length → work (kids w x y i) ≤ work (kids w x y x.1.ks.length) := by
  intro i hi
  obtain ⟨d, hd⟩ : ∃ d, x.1.ks.length = i + d := ⟨_, (Nat.add_sub_cancel' hi).symm⟩
  rw [hd]
  clear hd hi
  induction d with
  | zero => exact Nat.le_refl _
  | succ d ih => rw [← Nat.add_assoc, kids_succ, work_append]; omega
theorem Inv.pushed {w : World} {rep : KV → KV} {a b : Ref} {rest : List (Ref × Ref)} {x y : Ref} (h : Inv w rep a b (rest ++ [(x, y)])) (hk : x.1.k = y.1.k) (hn : x.1.n = y.1.n) (hl : x.1.ks.length = y.1.ks.length) (hne : x.1.ks ≠ []) :
    Inv w (repJ rep (rep (keyV x.2)) (rep (keyV y.2))) a b (rest ++ kids w x y x.1.ks.length) := by
  refine h.push hk hn hl hne (fun p hp => ?_) (fun p hp => List.mem_append_left _ hp) (fun i hi => List.mem_append_right _ (kids_mem.2 ⟨i, hi, rfl⟩))
  rcases List.mem_append.1 hp with hp | hp
  · exact .inl hp
  · exact .inr (kids_mem.1 hp)

end Go.Proofs.Ytndpoejohpmifaa
