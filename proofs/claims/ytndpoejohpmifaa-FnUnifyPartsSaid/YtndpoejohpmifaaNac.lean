/-
  Types as trees that may have no end; what makes two types equal, and the most general way. Plain facts.
  Variables bound to types, as the model's unification has them: what is bound hangs on no circle; solutions; the most general type. Plain facts.
  A graph of types with classes of nodes, as the program's unification has it: solutions; the type at a node; the most general type. Plain facts.
-/
import Derived.Test.YtndpoejohpmifaaAjk
namespace Go.Proofs.Ytndpoejohpmifaa
open Go.RowKit
set_option linter.unusedVariables false
set_option linter.unusedSimpArgs false

/-- A tree that may have no end: what stands at each place (1: number, 2, 3: join, 4 and more: variable, 0: nothing). -/
abbrev Inf := List Bool → Int
def inum : Inf := fun p => match p with | [] => 1 | _ :: _ => 0
def ijoin (k : Int) (l r : Inf) : Inf := fun p => match p with | [] => k | false :: p => l p | true :: p => r p
def ivar (v : Int) : Inf := fun p => match p with | [] => 4 + v | _ :: _ => 0
theorem ijoin_inj {k k' : Int} {l l' r r' : Inf} (h : ijoin k l r = ijoin k' l' r') : k = k' ∧ l = l' ∧ r = r' :=
  ⟨congrFun h [], funext fun p => congrFun h (false :: p), funext fun p => congrFun h (true :: p)⟩
theorem ijoin_num {k : Int} {l r : Inf} (hk : k = 2 ∨ k = 3) (h : ijoin k l r = inum) : False := by
  have e : k = 1 := congrFun h []
  omega
theorem ijoin_var {k v : Int} {l r : Inf} (hk : k = 2 ∨ k = 3) (hv : 0 ≤ v) (h : ijoin k l r = ivar v) : False := by
  have e : k = 4 + v := congrFun h []
  omega
theorem inum_var {v : Int} (hv : 0 ≤ v) (h : inum = ivar v) : False := by
  have e : (1 : Int) = 4 + v := congrFun h []
  omega
theorem ivar_inj {v v' : Int} (h : ivar v = ivar v') : v = v' := by
  have e : 4 + v = 4 + v' := congrFun h []
  omega
/-- What stands in a type's tree, its variables replaced. -/
def ev (σ : Int → Inf) : List Bool → Ty → Int
  | [], t => if t.k = 4 then σ t.n [] else t.k
  | b :: p, t => if t.k = 4 then σ t.n (b :: p) else if t.k = 1 then 0 else ev σ p (t.ks.getD (if b then 1 else 0) Ty.dummy)
/-- The tree of a type, its variables replaced. -/
def evT (σ : Int → Inf) (t : Ty) : Inf := fun p => ev σ p t
theorem evT_num (σ : Int → Inf) : evT σ (.node 1 0 []) = inum := by
  funext p; cases p <;> simp [evT, ev, inum, Ty.k]
theorem evT_var (σ : Int → Inf) (n : Int) : evT σ (.node 4 n []) = σ n := by
  funext p; cases p <;> simp [evT, ev, Ty.k, Ty.n]
theorem evT_join (σ : Int → Inf) (k : Int) (a b : Ty) (hk : k = 2 ∨ k = 3) : evT σ (.node k 0 [a, b]) = ijoin k (evT σ a) (evT σ b) := by
  have h4 : k ≠ 4 := by omega
  have h1 : k ≠ 1 := by omega
  funext p
  match p with
  | [] => simp [evT, ev, ijoin, Ty.k, h4]
  | false :: p => simp [evT, ev, ijoin, Ty.k, Ty.ks, h4, h1, List.getD]
  | true :: p => simp [evT, ev, ijoin, Ty.k, Ty.ks, h4, h1, List.getD]

/-- A well-formed type with variables below N. -/
inductive Wt (N : Int) : Ty → Prop
  | num : Wt N (.node 1 0 [])
  | var (n : Int) (h0 : 0 ≤ n) (h1 : n < N) : Wt N (.node 4 n [])
  | join (k : Int) (a b : Ty) (hk : k = 2 ∨ k = 3) (ha : Wt N a) (hb : Wt N b) : Wt N (.node k 0 [a, b])
theorem Wt.up {N M : Int} {t : Ty} (h : Wt N t) (hm : N ≤ M) : Wt M t := by
  induction h with
  | num => exact .num
  | var n h0 h1 => exact .var n h0 (by omega)
  | join k a b hk _ _ iha ihb => exact .join k a b hk iha ihb
theorem wt_of_shp : ∀ (d : Nat) (t : Ty), shp d t = true → Wt 26 t := by
  intro d
  induction d with
  | zero => intro t h; cases h
  | succ d ih =>
    intro t h
    rcases shp_forms h with rfl | ⟨n, h0, h1, rfl⟩ | ⟨k, a, b, hk, rfl, ha, hb⟩
    · exact .num
    · exact .var n h0 (by omega)
    · exact .join k a b hk (ih a ha) (ih b hb)
/-- A type that is not deeper than a number. -/
inductive Dp : Nat → Ty → Prop
  | leaf (d : Nat) (k n : Int) : Dp (d + 1) (.node k n [])
  | join (d : Nat) (k n : Int) (a b : Ty) (ha : Dp d a) (hb : Dp d b) : Dp (d + 1) (.node k n [a, b])
theorem Dp.up {d e : Nat} {t : Ty} (h : Dp d t) (he : d ≤ e) : Dp e t := by
  induction h generalizing e with
  | leaf d k n => obtain ⟨e, rfl⟩ : ∃ x, e = x + 1 := ⟨e - 1, by omega⟩; exact .leaf e k n
  | join d k n a b _ _ iha ihb => obtain ⟨e, rfl⟩ : ∃ x, e = x + 1 := ⟨e - 1, by omega⟩; exact .join e k n a b (iha (by omega)) (ihb (by omega))
theorem dp_of_shp : ∀ (d : Nat) (t : Ty), shp d t = true → Dp d t := by
  intro d
  induction d with
  | zero => intro t h; cases h
  | succ d ih =>
    intro t h
    rcases shp_forms h with rfl | ⟨n, h0, h1, rfl⟩ | ⟨k, a, b, hk, rfl, ha, hb⟩
    · exact .leaf _ _ _
    · exact .leaf _ _ _
    · exact .join _ _ _ _ _ (ih a ha) (ih b hb)
theorem shp_of_wt {t : Ty} (h : Wt 26 t) : ∀ d, Dp d t → shp d t = true := by
  induction h with
  | num => intro d hd; cases hd with | leaf d => exact shp_iff.2 ⟨by decide, fun i hi => absurd hi (Nat.not_lt_zero _)⟩
  | var n h0 h1 =>
    intro d hd
    cases hd with
    | leaf d => exact shp_iff.2 ⟨fieldsB_iff.2 (.inr (.inr ⟨rfl, h0, by show n ≤ 25; omega, rfl⟩)), fun i hi => absurd hi (Nat.not_lt_zero _)⟩
  | join k a b hk _ _ iha ihb =>
    intro d hd
    cases hd with
    | join d _ _ _ _ ha hb =>
      refine shp_iff.2 ⟨fieldsB_iff.2 (.inr (.inl ⟨hk, rfl, rfl⟩)), fun i hi => ?_⟩
      have hi : i < 2 := hi
      obtain rfl | rfl : i = 0 ∨ i = 1 := by omega
      · exact iha d ha
      · exact ihb d hb

/-- The same type but for the names of variables; r and s take them to each other. -/
inductive Rn (r s : Int → Int) : Ty → Ty → Prop
  | num : Rn r s (.node 1 0 []) (.node 1 0 [])
  | var (v w : Int) (h1 : w = r v) (h2 : v = s w) : Rn r s (.node 4 v []) (.node 4 w [])
  | join (k : Int) (a b a' b' : Ty) (hk : k = 2 ∨ k = 3) (ha : Rn r s a a') (hb : Rn r s b b') : Rn r s (.node k 0 [a, b]) (.node k 0 [a', b'])
/-- Two types each of which results from the other by replacing variables differ in names only. -/
theorem rn_of_inst {N M : Int} {x : Ty} (hx : Wt N x) : ∀ (y : Ty) (θ θ' : Int → Inf), Wt M y → evT θ x = evT ivar y → evT θ' y = evT ivar x → Rn (fun v => θ v [] - 4) (fun w => θ' w [] - 4) x y := by
  induction hx with
  | num =>
    intro y θ θ' hy h1 h2
    cases hy with
    | num => exact .num
    | var n h0 _ => rw [evT_num, evT_var] at h1; exact (inum_var h0 h1).elim
    | join k a b hk _ _ => rw [evT_num, evT_join _ _ _ _ hk] at h1; exact (ijoin_num hk h1.symm).elim
  | var v hv0 _ =>
    intro y θ θ' hy h1 h2
    cases hy with
    | num => rw [evT_num, evT_var] at h2; exact (inum_var hv0 h2).elim
    | var w h0 _ =>
      rw [evT_var, evT_var] at h1 h2
      refine .var v w ?_ ?_
      · show w = θ v [] - 4
        rw [h1]; show w = 4 + w - 4; omega
      · show v = θ' w [] - 4
        rw [h2]; show v = 4 + v - 4; omega
    | join k a b hk _ _ => rw [evT_var, evT_join _ _ _ _ hk] at h2; exact (ijoin_var hk hv0 h2).elim
  | join k a b hk _ _ iha ihb =>
    intro y θ θ' hy h1 h2
    rw [evT_join _ _ _ _ hk] at h1 h2
    cases hy with
    | num => rw [evT_num] at h1; exact (ijoin_num hk h1).elim
    | var w h0 _ => rw [evT_var] at h1; exact (ijoin_var hk h0 h1).elim
    | join k' a' b' hk' ha' hb' =>
      rw [evT_join _ _ _ _ hk'] at h1 h2
      obtain ⟨rfl, e1, e2⟩ := ijoin_inj h1
      obtain ⟨_, f1, f2⟩ := ijoin_inj h2
      exact .join k a b a' b' hk (iha a' θ θ' ha' e1 f1) (ihb b' θ θ' hb' e2 f2)
theorem map_idxOf {r s : Int → Int} : ∀ (st : List Int) (v w : Int), (∀ x ∈ st, s (r x) = x) → w = r v → v = s w → (st.map r).idxOf w = st.idxOf v := by
  intro st
  induction st with
  | nil => intro v w _ _ _; rfl
  | cons x st ih =>
    intro v w h h1 h2
    rw [List.map_cons, List.idxOf_cons, List.idxOf_cons]
    have hx := h x (List.mem_cons_self ..)
    by_cases e : x = v
    · subst e; rw [h1]; simp
    · have e' : r x ≠ w := fun e2 => e (by rw [← hx, e2, ← h2])
      have b1 : (r x == w) = false := by simpa using e'
      have b2 : (x == v) = false := by simpa using e
      rw [b1, b2]
      simp only [cond_false]
      rw [ih v w (fun y hy => h y (List.mem_cons_of_mem _ hy)) h1 h2]
theorem mem_map_rn {r s : Int → Int} {st : List Int} {v w : Int} (h : ∀ x ∈ st, s (r x) = x) (h1 : w = r v) (h2 : v = s w) : w ∈ st.map r ↔ v ∈ st := by
  rw [List.mem_map]
  constructor
  · rintro ⟨x, hx, e⟩
    have := h x hx
    rw [e, ← h2] at this
    rw [this]; exact hx
  · intro hv; exact ⟨v, hv, h1.symm⟩
theorem addV_rn {r s : Int → Int} {st : List Int} {v w : Int} (h : ∀ x ∈ st, s (r x) = x) (h1 : w = r v) (h2 : v = s w) : addV (st.map r) w = (addV st v).map r ∧ ∀ x ∈ addV st v, s (r x) = x := by
  unfold addV
  by_cases hv : v ∈ st
  · rw [if_pos hv, if_pos ((mem_map_rn h h1 h2).2 hv)]; exact ⟨rfl, h⟩
  · rw [if_neg hv, if_neg (fun hw => hv ((mem_map_rn h h1 h2).1 hw)), List.map_append]
    refine ⟨by rw [h1]; rfl, fun x hx => ?_⟩
    rcases List.mem_append.1 hx with hx | hx
    · exact h x hx
    · rw [List.mem_singleton.1 hx, ← h1, ← h2]
/-- Names do not matter for the numbering. -/
theorem rp_rn {r s : Int → Int} {x y : Ty} (hr : Rn r s x y) : ∀ (d : Nat) (st : List Int), Dp d x → (∀ v ∈ st, s (r v) = v) → (rp fF d y (st.map r)).1 = (rp fF d x st).1 ∧ (rp fF d y (st.map r)).2 = (rp fF d x st).2.map r ∧ ∀ v ∈ (rp fF d x st).2, s (r v) = v := by
  induction hr with
  | num =>
    intro d st hd h
    cases hd with
    | leaf d => simp [rp]; exact h
  | var v w h1 h2 =>
    intro d st hd h
    cases hd with
    | leaf d =>
      obtain ⟨a1, a2⟩ := addV_rn h h1 h2
      have e : ∀ (u : Int) (l : List Int), rp fF (d + 1) (.node 4 u []) l = fF l u := fun u l => by simp [rp]
      rw [e, e]
      unfold fF ixA
      refine ⟨?_, a1, a2⟩
      show Ty.node 4 _ [] = Ty.node 4 _ []
      rw [a1, map_idxOf _ v w a2 h1 h2]
  | join k a b a' b' hk _ _ iha ihb =>
    intro d st hd h
    cases hd with
    | join d _ _ _ _ da db =>
      have hk4 : k ≠ 4 := by omega
      obtain ⟨a1, a2, a3⟩ := iha d st da h
      obtain ⟨b1, b2, b3⟩ := ihb d (rp fF d a st).2 db a3
      have e : ∀ (u v : Ty) (l : List Int), rp fF (d + 1) (.node k 0 [u, v]) l = (.node k 0 [(rp fF d u l).1, (rp fF d v (rp fF d u l).2).1], (rp fF d v (rp fF d u l).2).2) := fun u v l => by simp [rp, hk4]
      rw [e, e]
      refine ⟨?_, ?_, b3⟩
      · show Ty.node k 0 [_, _] = Ty.node k 0 [_, _]
        rw [a1, a2, b1]
      · show (rp fF d b' (rp fF d a' (st.map r)).2).2 = _
        rw [a2, b2]
/-- A type with its variables numbered by their first occurrences. -/
def can (t : Ty) : Ty := (rp fF 16 t []).1
theorem can_rn {r s : Int → Int} {x y : Ty} (hr : Rn r s x y) (hd : Dp 16 x) : can y = can x := by
  have h := (rp_rn hr 16 [] hd (fun v hv => absurd hv (List.not_mem_nil))).1
  exact h
theorem Rn.dp {r s : Int → Int} {x y : Ty} (hr : Rn r s x y) : ∀ d, Dp d x → Dp d y := by
  induction hr with
  | num => intro d h; cases h with | leaf d => exact .leaf _ _ _
  | var => intro d h; cases h with | leaf d => exact .leaf _ _ _
  | join k a b a' b' hk _ _ iha ihb => intro d h; cases h with | join d _ _ _ _ da db => exact .join _ _ _ _ _ (iha d da) (ihb d db)

/-- t is the most general type that a and b become. -/
structure Prin (a b t : Ty) : Prop where
  wt : ∃ N, Wt N t
  one : ∃ σ, evT σ a = evT σ b ∧ evT σ a = evT ivar t
  all : ∀ σ, evT σ a = evT σ b → ∃ θ, evT σ a = evT θ t
theorem Prin.rn {a b x y : Ty} (hx : Prin a b x) (hy : Prin a b y) : ∃ r s, Rn r s x y := by
  obtain ⟨N, wx⟩ := hx.wt
  obtain ⟨M, wy⟩ := hy.wt
  obtain ⟨σ, s1, s2⟩ := hx.one
  obtain ⟨σ', t1, t2⟩ := hy.one
  obtain ⟨θ, e1⟩ := hx.all σ' t1
  obtain ⟨θ', e2⟩ := hy.all σ s1
  exact ⟨_, _, rn_of_inst wx y θ θ' wy (e1.symm.trans t2) (e2.symm.trans s2)⟩
open Classical in
/-- The result of UnifyTypes for valid types. -/
noncomputable def uniT (a b : Ty) : Option Ty := if h : ∃ t, Prin a b t ∧ Dp 16 t ∧ tvT (can t) = true then some (can (Classical.choose h)) else none
theorem uniT_yes {a b t : Ty} (h : Prin a b t) (hd : Dp 16 t) (hv : tvT (can t) = true) : uniT a b = some (can t) := by
  have hex : ∃ t, Prin a b t ∧ Dp 16 t ∧ tvT (can t) = true := ⟨t, h, hd, hv⟩
  unfold uniT
  rw [dif_pos hex]
  obtain ⟨r, s, hr⟩ := h.rn (Classical.choose_spec hex).1
  rw [can_rn hr hd]
theorem uniT_no {a b : Ty} (h : ∀ t, Prin a b t → Dp 16 t → tvT (can t) = true → False) : uniT a b = none := by
  unfold uniT
  rw [dif_neg]
  rintro ⟨t, h1, h2, h3⟩
  exact h t h1 h2 h3
theorem Prin.swap {a b t : Ty} (h : Prin a b t) : Prin b a t :=
  ⟨h.wt, by obtain ⟨σ, h1, h2⟩ := h.one; exact ⟨σ, h1.symm, h1.symm.trans h2⟩, fun σ hs => by obtain ⟨θ, e⟩ := h.all σ hs.symm; exact ⟨θ, hs.trans e⟩⟩
theorem uniT_swap (a b : Ty) : uniT b a = uniT a b := by
  by_cases h : ∃ t, Prin a b t ∧ Dp 16 t ∧ tvT (can t) = true
  · obtain ⟨t, h1, h2, h3⟩ := h
    rw [uniT_yes h1 h2 h3, uniT_yes h1.swap h2 h3]
  · rw [uniT_no (fun t h1 h2 h3 => h ⟨t, h1, h2, h3⟩), uniT_no (fun t h1 h2 h3 => h ⟨t, h1.swap, h2, h3⟩)]
end Go.Proofs.Ytndpoejohpmifaa

namespace Go.Proofs.Ytndpoejohpmifaa
open Go.RowKit
set_option linter.unusedVariables false
set_option linter.unusedSimpArgs false

/-- What variables are bound to. -/
abbrev Bn := Int → Option Ty
def Sol (B : Bn) (σ : Int → Inf) : Prop := ∀ n t, B n = some t → σ n = evT σ t
/-- A variable occurs in a type. -/
inductive Occ (v : Int) : Ty → Prop
  | var : Occ v (.node 4 v [])
  | left (k : Int) (a b : Ty) (h : Occ v a) : Occ v (.node k 0 [a, b])
  | right (k : Int) (a b : Ty) (h : Occ v b) : Occ v (.node k 0 [a, b])
structure BOK (N : Int) (B : Bn) : Prop where
  wt : ∀ n t, B n = some t → 0 ≤ n ∧ n < N ∧ Wt N t
  rk : ∃ rk : Int → Nat, ∀ n t, B n = some t → ∀ v, Occ v t → rk v < rk n
theorem bok_none (N : Int) : BOK N (fun _ => none) := ⟨fun n t h => by (cases h), fun _ => 0, fun n t h => by (cases h)⟩
/-- The second type is the first one with all bound variables replaced. -/
inductive Ful (B : Bn) : Ty → Ty → Prop
  | num : Ful B (.node 1 0 []) (.node 1 0 [])
  | free (n : Int) (h : B n = none) : Ful B (.node 4 n []) (.node 4 n [])
  | bound (n : Int) (t u : Ty) (h : B n = some t) (hu : Ful B t u) : Ful B (.node 4 n []) u
  | join (k : Int) (a b a' b' : Ty) (hk : k = 2 ∨ k = 3) (ha : Ful B a a') (hb : Ful B b b') : Ful B (.node k 0 [a, b]) (.node k 0 [a', b'])
theorem ful_unique {B : Bn} {t u : Ty} (h : Ful B t u) : ∀ u', Ful B t u' → u = u' := by
  induction h with
  | num => intro u' h'; cases h' with | num => rfl
  | free n h =>
    intro u' h'
    cases h' with
    | free => rfl
    | bound _ t _ e _ => rw [h] at e; cases e
  | bound n t u h _ ih =>
    intro u' h'
    cases h' with
    | free _ e => rw [h] at e; cases e
    | bound _ t' _ e hu => rw [h] at e; injection e with e; subst e; exact ih u' hu
  | join k a b a' b' hk _ _ iha ihb =>
    intro u' h'
    cases h' with
    | join _ _ _ a2 b2 _ h1 h2 => rw [iha a2 h1, ihb b2 h2]
theorem occ_bound {N : Int} {t : Ty} (h : Wt N t) (rk : Int → Nat) : ∃ r, ∀ v, Occ v t → rk v < r := by
  induction h with
  | num => exact ⟨0, fun v h => by (cases h)⟩
  | var n h0 h1 => exact ⟨rk n + 1, fun v h => by cases h; exact Nat.lt_succ_self _⟩
  | join k a b hk _ _ iha ihb =>
    obtain ⟨r1, h1⟩ := iha
    obtain ⟨r2, h2⟩ := ihb
    refine ⟨r1 + r2, fun v h => ?_⟩
    cases h with
    | left _ _ _ h => have := h1 v h; omega
    | right _ _ _ h => have := h2 v h; omega
theorem ful_exists {N : Int} {B : Bn} (hB : BOK N B) {t : Ty} (ht : Wt N t) : ∃ u, Ful B t u := by
  obtain ⟨rk, hrk⟩ := hB.rk
  have key : ∀ (r : Nat) (t : Ty), Wt N t → (∀ v, Occ v t → rk v < r) → ∃ u, Ful B t u := by
    intro r
    induction r with
    | zero =>
      intro t ht
      induction ht with
      | num => intro _; exact ⟨_, .num⟩
      | var n h0 h1 => intro h; exact absurd (h n .var) (Nat.not_lt_zero _)
      | join k a b hk _ _ iha ihb =>
        intro h
        obtain ⟨a', h1⟩ := iha (fun v hv => h v (.left _ _ _ hv))
        obtain ⟨b', h2⟩ := ihb (fun v hv => h v (.right _ _ _ hv))
        exact ⟨_, .join k a b a' b' hk h1 h2⟩
    | succ r ih =>
      intro t ht
      induction ht with
      | num => intro _; exact ⟨_, .num⟩
      | var n h0 h1 =>
        intro h
        rcases e : B n with _ | t
        · exact ⟨_, .free n e⟩
        · obtain ⟨u, hu⟩ := ih t (hB.wt n t e).2.2 (fun v hv => by have h1 := hrk n t e v hv; have h2 := h n .var; omega)
          exact ⟨u, .bound n t u e hu⟩
      | join k a b hk _ _ iha ihb =>
        intro h
        obtain ⟨a', h1⟩ := iha (fun v hv => h v (.left _ _ _ hv))
        obtain ⟨b', h2⟩ := ihb (fun v hv => h v (.right _ _ _ hv))
        exact ⟨_, .join k a b a' b' hk h1 h2⟩
  obtain ⟨r, hr⟩ := occ_bound ht rk
  exact key r t ht hr
theorem ful_wt {N : Int} {B : Bn} (hB : BOK N B) {t u : Ty} (h : Ful B t u) : Wt N t → Wt N u ∧ ∀ v, Occ v u → B v = none := by
  induction h with
  | num => intro _; exact ⟨.num, fun v h => by (cases h)⟩
  | free n e => intro ht; exact ⟨ht, fun v h => by cases h; exact e⟩
  | bound n t u e _ ih => intro _; exact ih (hB.wt n t e).2.2
  | join k a b a' b' hk _ _ iha ihb =>
    intro ht
    cases ht with
    | join _ _ _ _ wa wb =>
      obtain ⟨p1, p2⟩ := iha wa
      obtain ⟨q1, q2⟩ := ihb wb
      refine ⟨.join k a' b' hk p1 q1, fun v h => ?_⟩
      cases h with
      | left _ _ _ h => exact p2 v h
      | right _ _ _ h => exact q2 v h
theorem ful_ev {B : Bn} {t u : Ty} {σ : Int → Inf} (hs : Sol B σ) (h : Ful B t u) : evT σ t = evT σ u := by
  induction h with
  | num => rfl
  | free n e => rfl
  | bound n t u e _ ih => rw [evT_var, hs n t e, ih]
  | join k a b a' b' hk _ _ iha ihb => rw [evT_join _ _ _ _ hk, evT_join _ _ _ _ hk, iha, ihb]
theorem ev_agree {t : Ty} {N : Int} (ht : Wt N t) {σ θ : Int → Inf} (h : ∀ v, Occ v t → σ v = θ v) : evT σ t = evT θ t := by
  induction ht with
  | num => rw [evT_num, evT_num]
  | var n _ _ => rw [evT_var, evT_var]; exact h n .var
  | join k a b hk _ _ iha ihb =>
    rw [evT_join _ _ _ _ hk, evT_join _ _ _ _ hk, iha (fun v hv => h v (.left _ _ _ hv)), ihb (fun v hv => h v (.right _ _ _ hv))]
open Classical in
theorem sol_ext {N : Int} {B : Bn} (hB : BOK N B) (θ : Int → Inf) : ∃ σ, Sol B σ ∧ ∀ v, B v = none → σ v = θ v := by
  have hex : ∀ n, ∃ X : Inf, ∀ u, Ful B (.node 4 n []) u → X = evT θ u := fun n => by
    by_cases h : ∃ u, Ful B (.node 4 n []) u
    · obtain ⟨u, hu⟩ := h
      exact ⟨evT θ u, fun u' hu' => by rw [ful_unique hu u' hu']⟩
    · exact ⟨fun _ => 0, fun u hu => absurd ⟨u, hu⟩ h⟩
  obtain ⟨σ, hσ⟩ := Classical.axiomOfChoice hex
  have key : ∀ t u, Ful B t u → evT σ t = evT θ u := by
    intro t u h
    induction h with
    | num => rw [evT_num, evT_num]
    | free n e => rw [evT_var]; exact hσ n _ (.free n e)
    | bound n t u e hu ih => rw [evT_var]; exact hσ n _ (.bound n t u e hu)
    | join k a b a' b' hk _ _ iha ihb => rw [evT_join _ _ _ _ hk, evT_join _ _ _ _ hk, iha, ihb]
  refine ⟨σ, fun n t e => ?_, fun v e => ?_⟩
  · obtain ⟨u, hu⟩ := ful_exists hB (hB.wt n t e).2.2
    rw [key t u hu]
    exact hσ n u (.bound n t u e hu)
  · rw [hσ v _ (.free v e), evT_var]
/-- Bound variables followed at the root. -/
inductive Wk (B : Bn) : Ty → Ty → Prop
  | refl (t : Ty) : Wk B t t
  | step (n : Int) (t t' : Ty) (h : B n = some t) (hw : Wk B t t') : Wk B (.node 4 n []) t'
theorem Wk.ful {B : Bn} {t t' u : Ty} (h : Wk B t t') : Ful B t u → Ful B t' u := by
  induction h with
  | refl t => exact id
  | step n t t' e _ ih =>
    intro hf
    cases hf with
    | free _ e' => rw [e] at e'; cases e'
    | bound _ t2 _ e2 hu => rw [e] at e2; injection e2 with e2; subst e2; exact ih hu
theorem Wk.snoc {B : Bn} {t t' : Ty} {n : Int} (h : Wk B t (.node 4 n [])) (e : B n = some t') : Wk B t t' := by
  generalize hx : Ty.node 4 n [] = x at h
  induction h with
  | refl t => subst hx; exact .step n t' t' e (.refl _)
  | step m t2 t3 e2 _ ih => exact .step m t2 t' e2 (ih hx)
theorem Wk.ev {B : Bn} {t t' : Ty} {σ : Int → Inf} (hs : Sol B σ) (h : Wk B t t') : evT σ t = evT σ t' := by
  induction h with
  | refl t => rfl
  | step n t t' e _ ih => rw [evT_var, hs n t e, ih]
theorem Wk.wt {N : Int} {B : Bn} (hB : BOK N B) {t t' : Ty} (h : Wk B t t') : Wt N t → Wt N t' := by
  induction h with
  | refl t => exact id
  | step n t t' e _ ih => intro _; exact ih (hB.wt n t e).2.2
/-- A variable at the root is not bound. -/
def Trm (B : Bn) (t : Ty) : Prop := t.k = 4 → B t.n = none
theorem ful_shape {B : Bn} {t u : Ty} (h : Ful B t u) (ht : Trm B t) : (t = .node 1 0 [] ∧ u = .node 1 0 []) ∨ (∃ n, t = .node 4 n [] ∧ u = .node 4 n [] ∧ B n = none) ∨ ∃ k a b a' b', (k = 2 ∨ k = 3) ∧ t = .node k 0 [a, b] ∧ u = .node k 0 [a', b'] ∧ Ful B a a' ∧ Ful B b b' := by
  cases h with
  | num => exact .inl ⟨rfl, rfl⟩
  | free n e => exact .inr (.inl ⟨n, rfl, rfl, e⟩)
  | bound n t u e hu => have := ht rfl; rw [show (Ty.node 4 n []).n = n from rfl, e] at this; cases this
  | join k a b a' b' hk ha hb => exact .inr (.inr ⟨k, a, b, a', b', hk, rfl, rfl, ha, hb⟩)
theorem ful_occ {B : Bn} {s x : Ty} (h : Ful B s x) : ∀ v, Occ v s → ∃ y, Ful B (.node 4 v []) y ∧ ∀ z, Occ z y → Occ z x := by
  induction h with
  | num => intro v h; cases h
  | free n e => intro v h; cases h; exact ⟨_, .free n e, fun z hz => hz⟩
  | bound n t u e hu _ => intro v h; cases h; exact ⟨u, .bound n t u e hu, fun z hz => hz⟩
  | join k a b a' b' hk _ _ iha ihb =>
    intro v h
    cases h with
    | left _ _ _ h => obtain ⟨y, h1, h2⟩ := iha v h; exact ⟨y, h1, fun z hz => .left _ _ _ (h2 z hz)⟩
    | right _ _ _ h => obtain ⟨y, h1, h2⟩ := ihb v h; exact ⟨y, h1, fun z hz => .right _ _ _ (h2 z hz)⟩
/-- One more variable is bound. -/
def bput (B : Bn) (n : Int) (t : Ty) : Bn := fun m => if m = n then some t else B m
theorem bput_same (B : Bn) (n : Int) (t : Ty) : bput B n t n = some t := by unfold bput; rw [if_pos rfl]
theorem bput_other (B : Bn) {n m : Int} (t : Ty) (h : m ≠ n) : bput B n t m = B m := by unfold bput; rw [if_neg h]
open Classical in
theorem bput_ok {N : Int} {B : Bn} (hB : BOK N B) {n : Int} (h0 : 0 ≤ n) (hN : n < N) (hn : B n = none) {t u : Ty} (ht : Wt N t) (hu : Ful B t u) (ho : ¬ Occ n u) : BOK N (bput B n t) := by
  obtain ⟨rk, hrk⟩ := hB.rk
  obtain ⟨K, hK⟩ := occ_bound ht rk
  refine ⟨fun m s e => ?_, fun m => if ∃ x, Ful B (.node 4 m []) x ∧ Occ n x then rk m + K + 1 else rk m, fun m s e v hv => ?_⟩
  · by_cases hm : m = n
    · subst hm; rw [bput_same] at e; injection e with e; subst e; exact ⟨h0, hN, ht⟩
    · rw [bput_other B t hm] at e; exact hB.wt m s e
  · show (if ∃ x, Ful B (.node 4 v []) x ∧ Occ n x then rk v + K + 1 else rk v) < (if ∃ x, Ful B (.node 4 m []) x ∧ Occ n x then rk m + K + 1 else rk m)
    by_cases hm : m = n
    · subst hm
      rw [bput_same] at e
      injection e with e
      subst e
      have hv' : ¬ ∃ x, Ful B (.node 4 v []) x ∧ Occ m x := by
        rintro ⟨x, hx, hox⟩
        obtain ⟨y, hy, hyx⟩ := ful_occ hu v hv
        rw [ful_unique hx y hy] at hox
        exact ho (hyx m hox)
      rw [if_neg hv', if_pos ⟨_, .free m hn, .var⟩]
      have := hK v hv
      omega
    · rw [bput_other B t hm] at e
      have h1 := hrk m s e v hv
      by_cases hd : ∃ x, Ful B (.node 4 v []) x ∧ Occ n x
      · obtain ⟨x, hx, hox⟩ := hd
        obtain ⟨us, hus⟩ := ful_exists hB (hB.wt m s e).2.2
        obtain ⟨y, hy, hyx⟩ := ful_occ hus v hv
        rw [ful_unique hx y hy] at hox
        rw [if_pos ⟨y, hy, hox⟩, if_pos ⟨us, .bound m s us e hus, hyx n hox⟩]
        omega
      · rw [if_neg hd]
        split
        · omega
        · exact h1
theorem bput_sol {B : Bn} {n : Int} (hn : B n = none) (t : Ty) (σ : Int → Inf) : Sol (bput B n t) σ ↔ Sol B σ ∧ σ n = evT σ t := by
  constructor
  · intro h
    refine ⟨fun m s e => h m s ?_, h n t (bput_same B n t)⟩
    rw [bput_other B t (fun e2 => by rw [e2, hn] at e; cases e)]; exact e
  · rintro ⟨h1, h2⟩ m s e
    by_cases hm : m = n
    · subst hm; rw [bput_same] at e; injection e with e; subst e; exact h2
    · rw [bput_other B t hm] at e; exact h1 m s e
/-- How many variables are not bound. -/
def fr : Nat → Bn → Nat
  | 0, _ => 0
  | N + 1, B => fr N B + if (B (N : Int)).isNone = true then 1 else 0
theorem fr_put (B : Bn) (n : Nat) (t : Ty) (hn : B (n : Int) = none) : ∀ N, (N ≤ n → fr N (bput B n t) = fr N B) ∧ (n < N → fr N (bput B n t) < fr N B) := by
  intro N
  induction N with
  | zero => exact ⟨fun _ => rfl, fun h => absurd h (Nat.not_lt_zero _)⟩
  | succ N ih =>
    obtain ⟨i1, i2⟩ := ih
    constructor
    · intro h
      show fr N _ + _ = fr N _ + _
      rw [i1 (by omega), bput_other B t (by omega)]
    · intro h
      show fr N _ + _ < fr N _ + _
      by_cases e : N = n
      · subst e
        rw [i1 (Nat.le_refl _), bput_same, hn]
        simp
      · rw [bput_other B t (by omega)]
        have := i2 (by omega)
        omega
/-- A tree with an end. -/
def FinT (X : Inf) : Prop := ∃ d, ∀ p : List Bool, d ≤ p.length → X p = 0
theorem FinT.parts {k : Int} {l r : Inf} (h : FinT (ijoin k l r)) : FinT l ∧ FinT r := by
  obtain ⟨d, hd⟩ := h
  exact ⟨⟨d, fun p hp => hd (false :: p) (by simp; omega)⟩, ⟨d, fun p hp => hd (true :: p) (by simp; omega)⟩⟩
theorem fin_ivar {N : Int} {t : Ty} (h : Wt N t) : FinT (evT ivar t) := by
  induction h with
  | num => rw [evT_num]; exact ⟨1, fun p hp => by cases p with | nil => simp at hp | cons => rfl⟩
  | var n _ _ => rw [evT_var]; exact ⟨1, fun p hp => by cases p with | nil => simp at hp | cons => rfl⟩
  | join k a b hk _ _ iha ihb =>
    obtain ⟨d, hd⟩ := iha
    obtain ⟨e, he⟩ := ihb
    rw [evT_join _ _ _ _ hk]
    refine ⟨d + e + 1, fun p hp => ?_⟩
    match p, hp with
    | [], hp => simp at hp
    | false :: p, hp => exact hd p (by simp at hp; omega)
    | true :: p, hp => exact he p (by simp at hp; omega)
theorem occ_place {v : Int} {u : Ty} {N : Int} (hu : Wt N u) (h : Occ v u) (σ : Int → Inf) : ∃ q : List Bool, (u.k ≠ 4 → q ≠ []) ∧ ∀ p, evT σ u (q ++ p) = σ v p := by
  induction hu with
  | num => cases h
  | var n _ _ => cases h; exact ⟨[], fun e => absurd rfl e, fun p => by rw [evT_var]; rfl⟩
  | join k a b hk _ _ iha ihb =>
    rw [evT_join _ _ _ _ hk]
    cases h with
    | left _ _ _ h => obtain ⟨q, _, hq⟩ := iha h; exact ⟨false :: q, fun _ e => by (cases e), fun p => hq p⟩
    | right _ _ _ h => obtain ⟨q, _, hq⟩ := ihb h; exact ⟨true :: q, fun _ e => by (cases e), fun p => hq p⟩
/-- A variable is not equal to a type with an end that contains it. -/
theorem occ_fin {v : Int} {u : Ty} {N : Int} (hu : Wt N u) (h : Occ v u) (hk : u.k ≠ 4) {σ : Int → Inf} (he : σ v = evT σ u) (hf : FinT (σ v)) : False := by
  obtain ⟨q, hq, hp⟩ := occ_place hu h σ
  obtain ⟨d, hd⟩ := hf
  have hq' := hq hk
  have root : σ v [] ≠ 0 := by
    rw [he]
    cases hu with
    | num => cases h
    | var n => exact absurd rfl hk
    | join k a b hk2 _ _ => rw [evT_join _ _ _ _ hk2]; show k ≠ 0; omega
  have key : ∀ i : Nat, ∃ p : List Bool, i ≤ p.length ∧ σ v p = σ v [] := by
    intro i
    induction i with
    | zero => exact ⟨[], Nat.zero_le _, rfl⟩
    | succ i ih =>
      obtain ⟨p, h1, h2⟩ := ih
      refine ⟨q ++ p, ?_, ?_⟩
      · have : 0 < q.length := List.length_pos_iff.2 hq'
        rw [List.length_append]; omega
      · rw [← h2]
        exact (congrFun he (q ++ p)).trans (hp p)
  obtain ⟨p, h1, h2⟩ := key d
  exact root (h2.symm.trans (hd p h1))
/-- What a unification leaves: r says whether there is a way. -/
structure UniOk (N : Nat) (B B' : Bn) (a b : Ty) (r : Bool) : Prop where
  ok : BOK N B'
  fewer : B' = B ∨ fr N B' < fr N B
  yes : r = true → ∀ σ, Sol B' σ ↔ (Sol B σ ∧ evT σ a = evT σ b)
  no : r = false → ∀ σ, Sol B σ → evT σ a = evT σ b → FinT (evT σ a) → False
theorem UniOk.wk {N : Nat} {B B' : Bn} {a b a' b' : Ty} {r : Bool} (ha : Wk B a a') (hb : Wk B b b') (h : UniOk N B B' a' b' r) : UniOk N B B' a b r where
  ok := h.ok
  fewer := h.fewer
  yes := fun e σ => by
    rw [h.yes e σ]
    constructor
    · rintro ⟨h1, h2⟩; exact ⟨h1, by rw [ha.ev h1, hb.ev h1, h2]⟩
    · rintro ⟨h1, h2⟩; exact ⟨h1, by rw [← ha.ev h1, ← hb.ev h1, h2]⟩
  no := fun e σ h1 h2 h3 => h.no e σ h1 (by rw [← ha.ev h1, ← hb.ev h1, h2]) (by rw [← ha.ev h1]; exact h3)
theorem UniOk.swap {N : Nat} {B B' : Bn} {a b : Ty} {r : Bool} (h : UniOk N B B' a b r) : UniOk N B B' b a r where
  ok := h.ok
  fewer := h.fewer
  yes := fun e σ => by rw [h.yes e σ]; exact ⟨fun h => ⟨h.1, h.2.symm⟩, fun h => ⟨h.1, h.2.symm⟩⟩
  no := fun e σ h1 h2 h3 => h.no e σ h1 h2.symm (by rw [← h2]; exact h3)
theorem uni_same {N : Nat} {B : Bn} (hB : BOK N B) (t : Ty) : UniOk N B B t t true :=
  ⟨hB, .inl rfl, fun _ σ => ⟨fun h => ⟨h, rfl⟩, fun h => h.1⟩, fun h => by (cases h)⟩
theorem uni_occ {N : Nat} {B : Bn} (hB : BOK N B) {n : Int} {t u : Ty} (ht : Wt N t) (hu : Ful B t u) (h4 : u.k ≠ 4) (ho : Occ n u) : UniOk N B B (.node 4 n []) t false :=
  ⟨hB, .inl rfl, fun h => by (cases h), fun _ σ h1 h2 h3 => by
    rw [evT_var] at h2 h3
    rw [ful_ev h1 hu] at h2
    exact occ_fin (ful_wt hB hu ht).1 ho h4 h2 h3⟩
theorem uni_bind {N : Nat} {B : Bn} (hB : BOK N B) {n : Nat} (hN : n < N) (hn : B (n : Int) = none) {t u : Ty} (ht : Wt N t) (hu : Ful B t u) (ho : ¬ Occ (n : Int) u) : UniOk N B (bput B n t) (.node 4 n []) t true :=
  ⟨bput_ok hB (by omega) (by omega) hn ht hu ho, .inr ((fr_put B n t hn N).2 hN), fun _ σ => by rw [bput_sol hn t σ, evT_var], fun h => by (cases h)⟩
theorem uni_kind {N : Nat} {B : Bn} (hB : BOK N B) {a b : Ty} (ha : Wt N a) (hb : Wt N b) (a4 : a.k ≠ 4) (b4 : b.k ≠ 4) (hk : a.k ≠ b.k) : UniOk N B B a b false :=
  ⟨hB, .inl rfl, fun h => by (cases h), fun _ σ _ h2 _ => by
    have e : evT σ a [] = evT σ b [] := congrFun h2 []
    simp only [evT, ev, if_neg a4, if_neg b4] at e
    exact hk e⟩
theorem uni_join {N : Nat} {B B1 B2 : Bn} {k : Int} {a b a' b' : Ty} {r : Bool} (hk : k = 2 ∨ k = 3) (h1 : UniOk N B B1 a a' true) (h2 : UniOk N B1 B2 b b' r) : UniOk N B B2 (.node k 0 [a, b]) (.node k 0 [a', b']) r where
  ok := h2.ok
  fewer := by
    rcases h2.fewer with rfl | e2
    · exact h1.fewer
    · rcases h1.fewer with rfl | e1
      · exact .inr e2
      · exact .inr (Nat.lt_trans e2 e1)
  yes := fun e σ => by
    rw [h2.yes e σ, h1.yes rfl σ, evT_join _ _ _ _ hk, evT_join _ _ _ _ hk]
    constructor
    · rintro ⟨⟨p1, p2⟩, p3⟩; exact ⟨p1, by rw [p2, p3]⟩
    · rintro ⟨p1, p2⟩; obtain ⟨_, q1, q2⟩ := ijoin_inj p2; exact ⟨⟨p1, q1⟩, q2⟩
  no := fun e σ p1 p2 p3 => by
    rw [evT_join _ _ _ _ hk] at p2 p3
    rw [evT_join _ _ _ _ hk] at p2
    obtain ⟨_, q1, q2⟩ := ijoin_inj p2
    exact h2.no e σ ((h1.yes rfl σ).2 ⟨p1, q1⟩) q2 p3.parts.2
theorem uni_join_no {N : Nat} {B B1 : Bn} {k : Int} {a b a' b' : Ty} (hk : k = 2 ∨ k = 3) (h1 : UniOk N B B1 a a' false) : UniOk N B B1 (.node k 0 [a, b]) (.node k 0 [a', b']) false where
  ok := h1.ok
  fewer := h1.fewer
  yes := fun h => by (cases h)
  no := fun e σ p1 p2 p3 => by
    rw [evT_join _ _ _ _ hk] at p2 p3
    rw [evT_join _ _ _ _ hk] at p2
    obtain ⟨_, q1, q2⟩ := ijoin_inj p2
    exact h1.no e σ p1 q1 p3.parts.1
/-- The model's result. -/
theorem prin_model {N : Nat} {B : Bn} {a b u : Ty} (ha : Wt N a) (h : UniOk N (fun _ => none) B a b true) (hu : Ful B a u) : Prin a b u where
  wt := ⟨N, (ful_wt h.ok hu ha).1⟩
  one := by
    obtain ⟨σ, h1, h2⟩ := sol_ext h.ok ivar
    obtain ⟨w1, w2⟩ := ful_wt h.ok hu ha
    refine ⟨σ, ((h.yes rfl σ).1 h1).2, ?_⟩
    rw [ful_ev h1 hu]
    exact ev_agree w1 (fun v hv => h2 v (w2 v hv))
  all := fun σ hs => ⟨σ, ful_ev ((h.yes rfl σ).2 ⟨fun n t e => by (cases e), hs⟩) hu⟩
theorem prin_no {N : Nat} {B : Bn} {a b : Ty} (h : UniOk N (fun _ => none) B a b false) {t : Ty} (hp : Prin a b t) : False := by
  obtain ⟨σ, h1, h2⟩ := hp.one
  obtain ⟨M, hw⟩ := hp.wt
  exact h.no rfl σ (fun n t e => by (cases e)) h1 (by rw [h2]; exact fin_ivar hw)
end Go.Proofs.Ytndpoejohpmifaa

namespace Go.Proofs.Ytndpoejohpmifaa
open Go.RowKit
set_option linter.unusedVariables false
set_option linter.unusedSimpArgs false

/-- What a node is. -/
inductive Sh where
  | num
  | var
  | join (k : Int) (l r : Nat)
/-- A graph of M nodes: joins have parts; rep takes a node to the leader of its class. -/
structure GOk (M : Nat) (sh : Nat → Sh) (rep : Nat → Nat) : Prop where
  kid : ∀ n k l r, n < M → sh n = .join k l r → (k = 2 ∨ k = 3) ∧ l < M ∧ r < M
  lt : ∀ n, n < M → rep n < M
  idem : ∀ n, n < M → rep (rep n) = rep n
/-- A value for each node. -/
structure GSol (M : Nat) (sh : Nat → Sh) (rep : Nat → Nat) (τ : Nat → Inf) : Prop where
  eq : ∀ n, n < M → τ n = τ (rep n)
  num : ∀ n, n < M → rep n = n → sh n = .num → τ n = inum
  join : ∀ n k l r, n < M → rep n = n → sh n = .join k l r → τ n = ijoin k (τ l) (τ r)
/-- What stands in the tree at a node, free classes being variables. -/
def gv (sh : Nat → Sh) (rep : Nat → Nat) : List Bool → Nat → Int
  | [], n => match sh (rep n) with
    | .num => 1
    | .var => 4 + (rep n : Int)
    | .join k _ _ => k
  | b :: p, n => match sh (rep n) with
    | .join _ l r => gv sh rep p (if b then r else l)
    | _ => 0
def gvT (sh : Nat → Sh) (rep : Nat → Nat) (n : Nat) : Inf := fun p => gv sh rep p n
theorem gv_sol {M : Nat} {sh : Nat → Sh} {rep : Nat → Nat} (h : GOk M sh rep) : GSol M sh rep (gvT sh rep) where
  eq := fun n hn => by
    funext p
    cases p with
    | nil => simp [gvT, gv, h.idem n hn]
    | cons b p => simp [gvT, gv, h.idem n hn]
  num := fun n hn hr hs => by
    funext p
    cases p with
    | nil => simp [gvT, gv, hr, hs, inum]
    | cons b p => simp [gvT, gv, hr, hs, inum]
  join := fun n k l r hn hr hs => by
    funext p
    match p with
    | [] => simp [gvT, gv, hr, hs, ijoin]
    | false :: p => simp [gvT, gv, hr, hs, ijoin]
    | true :: p => simp [gvT, gv, hr, hs, ijoin]
/-- The type at a node, down to a depth, free classes being variables. -/
def rt (sh : Nat → Sh) (rep : Nat → Nat) : Nat → Nat → Option Ty
  | 0, _ => none
  | d + 1, n => match sh (rep n) with
    | .num => some (.node 1 0 [])
    | .var => some (.node 4 (rep n : Int) [])
    | .join k l r => match rt sh rep d l with
      | none => none
      | some a => match rt sh rep d r with
        | none => none
        | some b => some (.node k 0 [a, b])
theorem rt_num {sh : Nat → Sh} {rep : Nat → Nat} {d n : Nat} (h : sh (rep n) = .num) : rt sh rep (d + 1) n = some (.node 1 0 []) := by simp [rt, h]
theorem rt_var {sh : Nat → Sh} {rep : Nat → Nat} {d n : Nat} (h : sh (rep n) = .var) : rt sh rep (d + 1) n = some (.node 4 (rep n : Int) []) := by simp [rt, h]
theorem rt_left {sh : Nat → Sh} {rep : Nat → Nat} {d n : Nat} {k : Int} {l r : Nat} (h : sh (rep n) = .join k l r) (h1 : rt sh rep d l = none) : rt sh rep (d + 1) n = none := by simp [rt, h, h1]
theorem rt_right {sh : Nat → Sh} {rep : Nat → Nat} {d n : Nat} {k : Int} {l r : Nat} {a : Ty} (h : sh (rep n) = .join k l r) (h1 : rt sh rep d l = some a) (h2 : rt sh rep d r = none) : rt sh rep (d + 1) n = none := by simp [rt, h, h1, h2]
theorem rt_join {sh : Nat → Sh} {rep : Nat → Nat} {d n : Nat} {k : Int} {l r : Nat} {a b : Ty} (h : sh (rep n) = .join k l r) (h1 : rt sh rep d l = some a) (h2 : rt sh rep d r = some b) : rt sh rep (d + 1) n = some (.node k 0 [a, b]) := by simp [rt, h, h1, h2]
theorem rt_is {M : Nat} {sh : Nat → Sh} {rep : Nat → Nat} (hg : GOk M sh rep) {τ : Nat → Inf} (hs : GSol M sh rep τ) : ∀ (d n : Nat) (u : Ty), n < M → rt sh rep d n = some u → Wt M u ∧ Dp d u ∧ τ n = evT (fun v => τ v.toNat) u ∧ gvT sh rep n = evT ivar u := by
  have hgv := gv_sol hg
  intro d
  induction d with
  | zero => intro n u _ h; cases h
  | succ d ih =>
    intro n u hn h
    have hl := hg.lt n hn
    rcases hsh : sh (rep n) with _ | _ | ⟨k, l, r⟩
    · rw [rt_num hsh] at h
      injection h with h
      subst h
      refine ⟨.num, .leaf _ _ _, ?_, ?_⟩
      · rw [hs.eq n hn, hs.num _ hl (hg.idem n hn) hsh, evT_num]
      · rw [hgv.eq n hn, hgv.num _ hl (hg.idem n hn) hsh, evT_num]
    · rw [rt_var hsh] at h
      injection h with h
      subst h
      refine ⟨.var _ (by omega) (by omega), .leaf _ _ _, ?_, ?_⟩
      · rw [evT_var, hs.eq n hn]; rfl
      · rw [evT_var, hgv.eq n hn]
        funext p
        cases p with
        | nil => simp [gvT, gv, hg.idem n hn, hsh, ivar]
        | cons b p => simp [gvT, gv, hg.idem n hn, hsh, ivar]
    · obtain ⟨hk, hl1, hl2⟩ := hg.kid _ k l r hl hsh
      rcases h1 : rt sh rep d l with _ | a
      · rw [rt_left hsh h1] at h; cases h
      · rcases h2 : rt sh rep d r with _ | b
        · rw [rt_right hsh h1 h2] at h; cases h
        · rw [rt_join hsh h1 h2] at h
          injection h with h
          subst h
          obtain ⟨a1, a2, a3, a4⟩ := ih l a hl1 h1
          obtain ⟨b1, b2, b3, b4⟩ := ih r b hl2 h2
          refine ⟨.join k a b hk a1 b1, .join _ _ _ _ _ a2 b2, ?_, ?_⟩
          · rw [evT_join _ _ _ _ hk, hs.eq n hn, hs.join _ k l r hl (hg.idem n hn) hsh, a3, b3]
          · rw [evT_join _ _ _ _ hk, hgv.eq n hn, hgv.join _ k l r hl (hg.idem n hn) hsh, a4, b4]
/-- Where some value is a type that is not deep, there is a type at the node. -/
theorem rt_some {M : Nat} {sh : Nat → Sh} {rep : Nat → Nat} (hg : GOk M sh rep) {τ : Nat → Inf} (hs : GSol M sh rep τ) : ∀ (d n : Nat) (u : Ty) (N : Int), n < M → Wt N u → Dp d u → τ n = evT ivar u → ∃ x, rt sh rep d n = some x := by
  intro d
  induction d with
  | zero => intro n u N _ _ h; cases h
  | succ d ih =>
    intro n u N hn hw hd he
    have hl := hg.lt n hn
    rcases hsh : sh (rep n) with _ | _ | ⟨k, l, r⟩
    · exact ⟨_, rt_num hsh⟩
    · exact ⟨_, rt_var hsh⟩
    · obtain ⟨hk, hl1, hl2⟩ := hg.kid _ k l r hl hsh
      rw [hs.eq n hn, hs.join _ k l r hl (hg.idem n hn) hsh] at he
      cases hw with
      | num => rw [evT_num] at he; exact (ijoin_num hk he).elim
      | var v h0 _ => rw [evT_var] at he; exact (ijoin_var hk h0 he).elim
      | join k' a b hk' wa wb =>
        rw [evT_join _ _ _ _ hk'] at he
        obtain ⟨_, e1, e2⟩ := ijoin_inj he
        cases hd with
        | join _ _ _ _ _ da db =>
          obtain ⟨x, hx⟩ := ih l a N hl1 wa da e1
          obtain ⟨y, hy⟩ := ih r b N hl2 wb db e2
          exact ⟨_, rt_join hsh hx hy⟩
/-- The class of a is put under b. -/
def repU (rep : Nat → Nat) (a b : Nat) : Nat → Nat := fun n => if rep n = a then b else rep n
theorem repU_ok {M : Nat} {sh : Nat → Sh} {rep : Nat → Nat} (h : GOk M sh rep) {a b : Nat} (ha : a < M) (hb : b < M) (hrb : rep b = b) (hab : a ≠ b) : GOk M sh (repU rep a b) where
  kid := h.kid
  lt := fun n hn => by
    unfold repU
    split
    · exact hb
    · exact h.lt n hn
  idem := fun n hn => by
    unfold repU
    by_cases e : rep n = a
    · rw [if_pos e, if_neg (by rw [hrb]; exact fun e => hab e.symm), hrb]
    · rw [if_neg e, if_neg (by rw [h.idem n hn]; exact e), h.idem n hn]
/-- How many classes there are. -/
def cls : Nat → (Nat → Nat) → Nat
  | 0, _ => 0
  | N + 1, rep => cls N rep + if rep N = N then 1 else 0
theorem cls_le {rep rep' : Nat → Nat} : ∀ M, (∀ n, n < M → rep' n = n → rep n = n) → cls M rep' ≤ cls M rep := by
  intro M
  induction M with
  | zero => intro _; exact Nat.le_refl _
  | succ M ih =>
    intro h
    have h1 := ih (fun n hn => h n (by omega))
    show cls M rep' + _ ≤ cls M rep + _
    by_cases e : rep' M = M
    · rw [if_pos e, if_pos (h M (by omega) e)]; omega
    · rw [if_neg e]; omega
theorem cls_lt {rep rep' : Nat → Nat} {a : Nat} (ha : rep a = a) (ha' : rep' a ≠ a) : ∀ M, a < M → (∀ n, n < M → rep' n = n → rep n = n) → cls M rep' < cls M rep := by
  intro M
  induction M with
  | zero => intro h; exact absurd h (Nat.not_lt_zero _)
  | succ M ih =>
    intro hM h
    show cls M rep' + _ < cls M rep + _
    by_cases e : a = M
    · subst e
      have := cls_le (rep := rep) (rep' := rep') a (fun n hn => h n (by omega))
      rw [if_neg ha', if_pos ha]; omega
    · have h1 := ih (by omega) (fun n hn => h n (by omega))
      by_cases e2 : rep' M = M
      · rw [if_pos e2, if_pos (h M (by omega) e2)]; omega
      · rw [if_neg e2]; omega
theorem repU_cls {M : Nat} {rep : Nat → Nat} {a b : Nat} (ha : a < M) (hra : rep a = a) (hrb : rep b = b) (hab : a ≠ b) : cls M (repU rep a b) < cls M rep := by
  refine cls_lt hra ?_ M ha (fun n hn e => ?_)
  · unfold repU; rw [if_pos hra]; exact fun e => hab e.symm
  · unfold repU at e
    by_cases e2 : rep n = a
    · rw [if_pos e2] at e; rw [← e]; exact hrb
    · rw [if_neg e2] at e; exact e
/-- What unify leaves. -/
structure GUni (M : Nat) (sh : Nat → Sh) (rep rep' : Nat → Nat) (a b : Nat) (r : Bool) : Prop where
  ok : GOk M sh rep'
  cl : cls M rep' ≤ cls M rep
  yes : r = true → ∀ τ, GSol M sh rep' τ ↔ (GSol M sh rep τ ∧ τ a = τ b)
  no : r = false → ∀ τ, GSol M sh rep τ → τ a = τ b → False
theorem GUni.lead {M : Nat} {sh : Nat → Sh} {rep rep' : Nat → Nat} {a b : Nat} {r : Bool} (ha : a < M) (hb : b < M) (h : GUni M sh rep rep' (rep a) (rep b) r) : GUni M sh rep rep' a b r where
  ok := h.ok
  cl := h.cl
  yes := fun e τ => by
    rw [h.yes e τ]
    constructor
    · rintro ⟨h1, h2⟩; exact ⟨h1, by rw [h1.eq a ha, h1.eq b hb, h2]⟩
    · rintro ⟨h1, h2⟩; exact ⟨h1, by rw [← h1.eq a ha, ← h1.eq b hb, h2]⟩
  no := fun e τ h1 h2 => h.no e τ h1 (by rw [← h1.eq a ha, ← h1.eq b hb, h2])
theorem GUni.swap {M : Nat} {sh : Nat → Sh} {rep rep' : Nat → Nat} {a b : Nat} {r : Bool} (h : GUni M sh rep rep' a b r) : GUni M sh rep rep' b a r where
  ok := h.ok
  cl := h.cl
  yes := fun e τ => by rw [h.yes e τ]; exact ⟨fun h => ⟨h.1, h.2.symm⟩, fun h => ⟨h.1, h.2.symm⟩⟩
  no := fun e τ h1 h2 => h.no e τ h1 h2.symm
theorem guni_same {M : Nat} {sh : Nat → Sh} {rep : Nat → Nat} (h : GOk M sh rep) (a : Nat) : GUni M sh rep rep a a true :=
  ⟨h, Nat.le_refl _, fun _ τ => ⟨fun h => ⟨h, rfl⟩, fun h => h.1⟩, fun h => by (cases h)⟩
/-- Solutions of the graph in which the class of a is put under b: what a is no longer counts. -/
theorem repU_sol {M : Nat} {sh : Nat → Sh} {rep : Nat → Nat} (h : GOk M sh rep) {a b : Nat} (ha : a < M) (hb : b < M) (hra : rep a = a) (hrb : rep b = b) (hab : a ≠ b) (τ : Nat → Inf) :
    GSol M sh (repU rep a b) τ ↔ (τ a = τ b ∧ (∀ n, n < M → τ n = τ (rep n)) ∧ (∀ n, n < M → rep n = n → n ≠ a → sh n = .num → τ n = inum) ∧ ∀ n k l r, n < M → rep n = n → n ≠ a → sh n = .join k l r → τ n = ijoin k (τ l) (τ r)) := by
  have hu : ∀ n, repU rep a b n = n ↔ (rep n = n ∧ n ≠ a) := fun n => by
    unfold repU
    by_cases e : rep n = a
    · rw [if_pos e]
      constructor
      · intro e2; rw [← e2] at e; rw [hrb] at e; exact absurd e.symm hab
      · rintro ⟨e2, e3⟩; rw [e2] at e; exact absurd e e3
    · rw [if_neg e]
      constructor
      · intro e2; exact ⟨e2, fun e3 => e (by rw [e3]; exact hra)⟩
      · exact fun e2 => e2.1
  constructor
  · intro hs
    have hab2 : τ a = τ b := by
      rw [hs.eq a ha]; unfold repU; rw [if_pos hra]
    refine ⟨hab2, fun n hn => ?_, fun n hn e1 e2 => hs.num n hn ((hu n).2 ⟨e1, e2⟩), fun n k l r hn e1 e2 => hs.join n k l r hn ((hu n).2 ⟨e1, e2⟩)⟩
    rw [hs.eq n hn]
    unfold repU
    by_cases e : rep n = a
    · rw [if_pos e, e]; exact hab2.symm
    · rw [if_neg e]
  · rintro ⟨h1, h2, h3, h4⟩
    refine ⟨fun n hn => ?_, fun n hn e => h3 n hn ((hu n).1 e).1 ((hu n).1 e).2, fun n k l r hn e => h4 n k l r hn ((hu n).1 e).1 ((hu n).1 e).2⟩
    unfold repU
    by_cases e : rep n = a
    · rw [if_pos e, h2 n hn, e]; exact h1
    · rw [if_neg e]; exact h2 n hn
theorem gsol_all {M : Nat} {sh : Nat → Sh} {rep : Nat → Nat} (a : Nat) (τ : Nat → Inf) (h2 : ∀ n, n < M → τ n = τ (rep n)) (h3 : ∀ n, n < M → rep n = n → n ≠ a → sh n = .num → τ n = inum) (h4 : ∀ n k l r, n < M → rep n = n → n ≠ a → sh n = .join k l r → τ n = ijoin k (τ l) (τ r))
    (a3 : sh a = .num → τ a = inum) (a4 : ∀ k l r, sh a = .join k l r → τ a = ijoin k (τ l) (τ r)) : GSol M sh rep τ :=
  ⟨h2, fun n hn e hs => by
    by_cases e2 : n = a
    · subst e2; exact a3 hs
    · exact h3 n hn e e2 hs, fun n k l r hn e hs => by
    by_cases e2 : n = a
    · subst e2; exact a4 k l r hs
    · exact h4 n k l r hn e e2 hs⟩
theorem guni_var {M : Nat} {sh : Nat → Sh} {rep : Nat → Nat} (h : GOk M sh rep) {a b : Nat} (ha : a < M) (hb : b < M) (hra : rep a = a) (hrb : rep b = b) (hab : a ≠ b) (hs : sh a = .var) : GUni M sh rep (repU rep a b) a b true :=
  ⟨repU_ok h ha hb hrb hab, Nat.le_of_lt (repU_cls ha hra hrb hab), fun _ τ => by
    rw [repU_sol h ha hb hra hrb hab τ]
    constructor
    · rintro ⟨h1, h2, h3, h4⟩; exact ⟨gsol_all a τ h2 h3 h4 (fun e => by rw [hs] at e; cases e) (fun k l r e => by rw [hs] at e; cases e), h1⟩
    · rintro ⟨g, e⟩; exact ⟨e, g.eq, fun n hn e1 _ => g.num n hn e1, fun n k l r hn e1 _ => g.join n k l r hn e1⟩, fun h => by (cases h)⟩
theorem guni_num {M : Nat} {sh : Nat → Sh} {rep : Nat → Nat} (h : GOk M sh rep) {a b : Nat} (ha : a < M) (hb : b < M) (hra : rep a = a) (hrb : rep b = b) (hab : a ≠ b) (hs : sh a = .num) (hsb : sh b = .num) : GUni M sh rep (repU rep a b) a b true :=
  ⟨repU_ok h ha hb hrb hab, Nat.le_of_lt (repU_cls ha hra hrb hab), fun _ τ => by
    rw [repU_sol h ha hb hra hrb hab τ]
    constructor
    · rintro ⟨h1, h2, h3, h4⟩; exact ⟨gsol_all a τ h2 h3 h4 (fun e => by rw [h1]; exact h3 b hb hrb (fun e => hab e.symm) hsb) (fun k l r e => by rw [hs] at e; cases e), h1⟩
    · rintro ⟨g, e⟩; exact ⟨e, g.eq, fun n hn e1 _ => g.num n hn e1, fun n k l r hn e1 _ => g.join n k l r hn e1⟩, fun h => by (cases h)⟩
/-- Two shapes that cannot be equal. -/
def Clash : Sh → Sh → Prop
  | .num, .join _ _ _ => True
  | .join _ _ _, .num => True
  | .join k _ _, .join k' _ _ => k ≠ k'
  | _, _ => False
theorem guni_clash {M : Nat} {sh : Nat → Sh} {rep : Nat → Nat} (h : GOk M sh rep) {a b : Nat} (ha : a < M) (hb : b < M) (hra : rep a = a) (hrb : rep b = b) (hab : a ≠ b) (hc : Clash (sh a) (sh b)) : GUni M sh rep (repU rep a b) a b false :=
  ⟨repU_ok h ha hb hrb hab, Nat.le_of_lt (repU_cls ha hra hrb hab), fun h => by (cases h), fun _ τ g e => by
    rcases sa : sh a with _ | _ | ⟨k, l, r⟩
    · rcases sb : sh b with _ | _ | ⟨k', l', r'⟩
      · rw [sa, sb] at hc; exact hc
      · rw [sa, sb] at hc; exact hc
      · rw [g.num a ha hra sa, g.join b k' l' r' hb hrb sb] at e
        exact ijoin_num (h.kid b k' l' r' hb sb).1 e.symm
    · rw [sa] at hc; exact hc
    · rcases sb : sh b with _ | _ | ⟨k', l', r'⟩
      · rw [g.num b hb hrb sb, g.join a k l r ha hra sa] at e
        exact ijoin_num (h.kid a k l r ha sa).1 e
      · rw [sa, sb] at hc; exact hc
      · rw [g.join b k' l' r' hb hrb sb, g.join a k l r ha hra sa] at e
        rw [sa, sb] at hc
        exact hc (ijoin_inj e).1⟩
/-- Two joins of one kind: their parts in turn. -/
theorem guni_join {M : Nat} {sh : Nat → Sh} {rep rep1 rep2 : Nat → Nat} (h : GOk M sh rep) {a b : Nat} (ha : a < M) (hb : b < M) (hra : rep a = a) (hrb : rep b = b) (hab : a ≠ b) {k : Int} {l r l' r' : Nat} {z : Bool} (sa : sh a = .join k l r) (sb : sh b = .join k l' r')
    (h1 : GUni M sh (repU rep a b) rep1 l l' true) (h2 : GUni M sh rep1 rep2 r r' z) : GUni M sh rep rep2 a b z where
  ok := h2.ok
  cl := Nat.le_trans h2.cl (Nat.le_trans h1.cl (Nat.le_of_lt (repU_cls ha hra hrb hab)))
  yes := fun ez τ => by
    rw [h2.yes ez τ, h1.yes rfl τ, repU_sol h ha hb hra hrb hab τ]
    constructor
    · rintro ⟨⟨⟨p1, p2, p3, p4⟩, q⟩, s⟩
      refine ⟨gsol_all a τ p2 p3 p4 (fun e => by rw [sa] at e; cases e) (fun k2 l2 r2 e => ?_), p1⟩
      rw [sa] at e
      injection e with e1 e2 e3
      subst e1 e2 e3
      rw [p1, p4 b k l' r' hb hrb (fun e => hab e.symm) sb, q, s]
    · rintro ⟨g, e⟩
      have e2 := e
      rw [g.join b k l' r' hb hrb sb, g.join a k l r ha hra sa] at e2
      obtain ⟨_, q, s⟩ := ijoin_inj e2
      exact ⟨⟨⟨e, g.eq, fun n hn e1 _ => g.num n hn e1, fun n k l r hn e1 _ => g.join n k l r hn e1⟩, q⟩, s⟩
  no := fun ez τ g e => by
    have e2 := e
    rw [g.join b k l' r' hb hrb sb, g.join a k l r ha hra sa] at e2
    obtain ⟨_, q, s⟩ := ijoin_inj e2
    exact h2.no ez τ ((h1.yes rfl τ).2 ⟨(repU_sol h ha hb hra hrb hab τ).2 ⟨e, g.eq, fun n hn e1 _ => g.num n hn e1, fun n k l r hn e1 _ => g.join n k l r hn e1⟩, q⟩) s
theorem guni_join_no {M : Nat} {sh : Nat → Sh} {rep rep1 : Nat → Nat} (h : GOk M sh rep) {a b : Nat} (ha : a < M) (hb : b < M) (hra : rep a = a) (hrb : rep b = b) (hab : a ≠ b) {k : Int} {l r l' r' : Nat} (sa : sh a = .join k l r) (sb : sh b = .join k l' r')
    (h1 : GUni M sh (repU rep a b) rep1 l l' false) : GUni M sh rep rep1 a b false where
  ok := h1.ok
  cl := Nat.le_trans h1.cl (Nat.le_of_lt (repU_cls ha hra hrb hab))
  yes := fun h => by (cases h)
  no := fun ez τ g e => by
    have e2 := e
    rw [g.join b k l' r' hb hrb sb, g.join a k l r ha hra sa] at e2
    obtain ⟨_, q, s⟩ := ijoin_inj e2
    exact h1.no rfl τ ((repU_sol h ha hb hra hrb hab τ).2 ⟨e, g.eq, fun n hn e1 _ => g.num n hn e1, fun n k l r hn e1 _ => g.join n k l r hn e1⟩) q
/-- A graph in which nothing was made equal; vm has the nodes of variables. -/
structure GAdd (M : Nat) (sh : Nat → Sh) (vm : Int → Option Nat) : Prop where
  kid : ∀ n k l r, n < M → sh n = .join k l r → (k = 2 ∨ k = 3) ∧ l < n ∧ r < n
  vlt : ∀ v m, vm v = some m → m < M ∧ sh m = .var
  inj : ∀ v v' m, vm v = some m → vm v' = some m → v = v'
theorem GAdd.ok {M : Nat} {sh : Nat → Sh} {vm : Int → Option Nat} (h : GAdd M sh vm) : GOk M sh id :=
  ⟨fun n k l r hn e => by obtain ⟨h1, h2, h3⟩ := h.kid n k l r hn e; exact ⟨h1, by omega, by omega⟩, fun n hn => hn, fun n hn => rfl⟩
/-- Any values of the variables are part of a solution. -/
theorem GAdd.ext {sh : Nat → Sh} {vm : Int → Option Nat} (σ : Int → Inf) : ∀ M, GAdd M sh vm → ∃ τ, GSol M sh id τ ∧ ∀ v m, vm v = some m → τ m = σ v := by
  intro M h
  have key : ∀ K, K ≤ M → ∃ τ, GSol K sh id τ ∧ ∀ v m, vm v = some m → m < K → τ m = σ v := by
    intro K
    induction K with
    | zero => intro _; exact ⟨fun _ _ => 0, ⟨fun n hn => absurd hn (Nat.not_lt_zero _), fun n hn => absurd hn (Nat.not_lt_zero _), fun n _ _ _ hn => absurd hn (Nat.not_lt_zero _)⟩, fun v m _ hm => absurd hm (Nat.not_lt_zero _)⟩
    | succ K ih =>
      intro hK
      obtain ⟨τ, h1, h2⟩ := ih (by omega)
      have hX : ∃ X : Inf, (sh K = .num → X = inum) ∧ (∀ k l r, sh K = .join k l r → X = ijoin k (τ l) (τ r)) ∧ ∀ v, vm v = some K → X = σ v := by
        rcases hs : sh K with _ | _ | ⟨k, l, r⟩
        · exact ⟨inum, fun _ => rfl, fun k l r e => by (cases e), fun v e => by rw [(h.vlt v K e).2] at hs; cases hs⟩
        · by_cases e : ∃ v, vm v = some K
          · obtain ⟨v, hv⟩ := e
            exact ⟨σ v, fun e => by (cases e), fun k l r e => by (cases e), fun v' e => by rw [h.inj v v' K hv e]⟩
          · exact ⟨inum, fun _ => rfl, fun k l r e => by (cases e), fun v hv => absurd ⟨v, hv⟩ e⟩
        · refine ⟨ijoin k (τ l) (τ r), fun e => by (cases e), fun k2 l2 r2 e => ?_, fun v e => by rw [(h.vlt v K e).2] at hs; cases hs⟩
          injection e with e1 e2 e3
          subst e1 e2 e3; rfl
      obtain ⟨X, x1, x2, x3⟩ := hX
      have old : ∀ n, n < K → (fun n => if n = K then X else τ n) n = τ n := fun n hn => if_neg (by omega)
      refine ⟨fun n => if n = K then X else τ n, ⟨fun n _ => rfl, fun n hn _ hs => ?_, fun n k l r hn _ hs => ?_⟩, fun v m hv hm => ?_⟩
      · show (if n = K then X else τ n) = _
        by_cases e : n = K
        · subst e; rw [if_pos rfl]; exact x1 hs
        · rw [if_neg e]; exact h1.num n (by omega) rfl hs
      · show (if n = K then X else τ n) = ijoin k (if l = K then X else τ l) (if r = K then X else τ r)
        obtain ⟨_, hl, hr⟩ := h.kid n k l r (by omega) hs
        rw [if_neg (show ¬ l = K by omega), if_neg (show ¬ r = K by omega)]
        by_cases e : n = K
        · subst e; rw [if_pos rfl]; exact x2 k l r hs
        · rw [if_neg e]; exact h1.join n k l r (by omega) rfl hs
      · show (if m = K then X else τ m) = _
        by_cases e : m = K
        · subst e; rw [if_pos rfl]; exact x3 v hv
        · rw [if_neg e]; exact h2 v m hv (by omega)
  obtain ⟨τ, h1, h2⟩ := key M (Nat.le_refl _)
  exact ⟨τ, h1, fun v m hv => h2 v m hv (h.vlt v m hv).1⟩
/-- The node n stands for the type t. -/
inductive Nd (sh : Nat → Sh) (vm : Int → Option Nat) (M : Nat) : Nat → Ty → Prop
  | num (n : Nat) (hn : n < M) (h : sh n = .num) : Nd sh vm M n (.node 1 0 [])
  | var (n : Nat) (v : Int) (hn : n < M) (h : vm v = some n) : Nd sh vm M n (.node 4 v [])
  | join (n l r : Nat) (k : Int) (a b : Ty) (hn : n < M) (h : sh n = .join k l r) (ha : Nd sh vm M l a) (hb : Nd sh vm M r b) : Nd sh vm M n (.node k 0 [a, b])
theorem Nd.lt {sh : Nat → Sh} {vm : Int → Option Nat} {M n : Nat} {t : Ty} (h : Nd sh vm M n t) : n < M := by cases h <;> assumption
theorem Nd.up {sh sh' : Nat → Sh} {vm vm' : Int → Option Nat} {M M' n : Nat} {t : Ty} (h : Nd sh vm M n t) (hM : M ≤ M') (hs : ∀ n, n < M → sh' n = sh n) (hv : ∀ v m, vm v = some m → vm' v = some m) : Nd sh' vm' M' n t := by
  induction h with
  | num n hn h => exact .num n (by omega) ((hs n hn).trans h)
  | var n v hn h => exact .var n v (by omega) (hv v n h)
  | join n l r k a b hn h _ _ iha ihb => exact .join n l r k a b (by omega) ((hs n hn).trans h) iha ihb
theorem Nd.val {sh : Nat → Sh} {vm : Int → Option Nat} {M n : Nat} {t : Ty} (h : Nd sh vm M n t) {rep : Nat → Nat} {τ : Nat → Inf} (hid : GSol M sh id τ) (hk : ∀ n k l r, n < M → sh n = .join k l r → k = 2 ∨ k = 3) {σ : Int → Inf} (hσ : ∀ v m, vm v = some m → τ m = σ v) : τ n = evT σ t := by
  induction h with
  | num n hn h => rw [evT_num]; exact hid.num n hn rfl h
  | var n v hn h => rw [evT_var]; exact hσ v n h
  | join n l r k a b hn h _ _ iha ihb => rw [evT_join _ _ _ _ (hk n k l r hn h), hid.join n k l r hn rfl h, iha, ihb]
/-- The program's result. -/
theorem prin_graph {M : Nat} {sh : Nat → Sh} {vm : Int → Option Nat} {rep : Nat → Nat} {ra rb : Nat} {a b : Ty} (hg : GAdd M sh vm) (hna : Nd sh vm M ra a) (hnb : Nd sh vm M rb b) (h : GUni M sh id rep ra rb true) (d : Nat) :
    (∀ u, rt sh rep d ra = some u → Prin a b u ∧ Dp d u) ∧ (rt sh rep d ra = none → ∀ t, Prin a b t → Dp d t → False) := by
  have hk : ∀ n k l r, n < M → sh n = .join k l r → k = 2 ∨ k = 3 := fun n k l r hn e => (hg.kid n k l r hn e).1
  have back : ∀ τ, GSol M sh rep τ → ∃ σ, evT σ a = evT σ b ∧ τ ra = evT σ a := by
    intro τ hs
    obtain ⟨h1, h2⟩ := (h.yes rfl τ).1 hs
    have hσ : ∀ v m, vm v = some m → τ m = (fun v => match vm v with | some m => τ m | none => inum) v := fun v m e => by simp [e]
    have ea := hna.val (rep := rep) h1 hk hσ
    have eb := hnb.val (rep := rep) h1 hk hσ
    exact ⟨_, by rw [← ea, ← eb, h2], ea⟩
  have forth : ∀ σ, evT σ a = evT σ b → ∃ τ, GSol M sh rep τ ∧ τ ra = evT σ a := by
    intro σ he
    obtain ⟨τ, h1, h2⟩ := GAdd.ext σ M hg
    have ea := hna.val (rep := rep) h1 hk h2
    have eb := hnb.val (rep := rep) h1 hk h2
    exact ⟨τ, (h.yes rfl τ).2 ⟨h1, by rw [ea, eb, he]⟩, ea⟩
  constructor
  · intro u hu
    have g0 := gv_sol h.ok
    obtain ⟨w1, w2, _, w4⟩ := rt_is h.ok g0 d ra u hna.lt hu
    refine ⟨⟨⟨_, w1⟩, ?_, fun σ he => ?_⟩, w2⟩
    · obtain ⟨σ, s1, s2⟩ := back _ g0
      exact ⟨σ, s1, by rw [← s2, w4]⟩
    · obtain ⟨τ, t1, t2⟩ := forth σ he
      exact ⟨_, by rw [← t2]; exact (rt_is h.ok t1 d ra u hna.lt hu).2.2.1⟩
  · intro hn t hp hd
    obtain ⟨N, hw⟩ := hp.wt
    obtain ⟨σ, s1, s2⟩ := hp.one
    obtain ⟨τ, t1, t2⟩ := forth σ s1
    obtain ⟨x, hx⟩ := rt_some h.ok t1 d ra t N hna.lt hw hd (by rw [t2, s2])
    rw [hn] at hx
    cases hx
theorem prin_graph_no {M : Nat} {sh : Nat → Sh} {vm : Int → Option Nat} {rep : Nat → Nat} {ra rb : Nat} {a b : Ty} (hg : GAdd M sh vm) (hna : Nd sh vm M ra a) (hnb : Nd sh vm M rb b) (h : GUni M sh id rep ra rb false) {t : Ty} (hp : Prin a b t) : False := by
  have hk : ∀ n k l r, n < M → sh n = .join k l r → k = 2 ∨ k = 3 := fun n k l r hn e => (hg.kid n k l r hn e).1
  obtain ⟨σ, s1, s2⟩ := hp.one
  obtain ⟨τ, h1, h2⟩ := GAdd.ext σ M hg
  exact h.no rfl τ h1 (by rw [hna.val (rep := rep) h1 hk h2, hnb.val (rep := rep) h1 hk h2, s1])
end Go.Proofs.Ytndpoejohpmifaa

