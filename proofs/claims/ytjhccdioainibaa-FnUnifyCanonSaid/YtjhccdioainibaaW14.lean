/-
A graph of types with classes of nodes, as the program's unification has it: solutions; the type at a node; the most general type. Plain facts.
Maps with keys of a named type of numbers; the union-find over the nodes of a graph of types.
-/
import Derived.Test.YtjhccdioainibaaW13
import Derived.Test.YtjhccdioainibaaW6
import Derived.Test.YtjhccdioainibaaW5
import Derived.Deep.RegionLaw
import Derived.Deep.DeepCutAuto
namespace Go.Proofs.Ytjhccdioainibaa
open Go.RowKit
set_option linter.unusedVariables false
set_option linter.unusedSimpArgs false

/-- What a node is. -/
inductive Sh where
  | num
  | var
  | join (k : Int) (l r : Nat)
/-- A graph of M nodes: joins have parts; rep takes a node to the leader of its class. -/
structure GOk (M : Nat) (sh : Nat → Sh) (rep : Nat → Nat) : Prop where
  kid : ∀ n k l r, n < M → sh n = .join k l r → (k = 2 ∨ k = 3) ∧ l < M ∧ r < M
  lt : ∀ n, n < M → rep n < M
  idem : ∀ n, n < M → rep (rep n) = rep n
/-- A value for each node. -/
structure GSol (M : Nat) (sh : Nat → Sh) (rep : Nat → Nat) (τ : Nat → Inf) : Prop where
  eq : ∀ n, n < M → τ n = τ (rep n)
  num : ∀ n, n < M → rep n = n → sh n = .num → τ n = inum
  join : ∀ n k l r, n < M → rep n = n → sh n = .join k l r → τ n = ijoin k (τ l) (τ r)
/-- What stands in the tree at a node, free classes being variables. -/
def gv (sh : Nat → Sh) (rep : Nat → Nat) : List Bool → Nat → Int
  | [], n => match sh (rep n) with
    | .num => 1
    | .var => 4 + (rep n : Int)
    | .join k _ _ => k
  | b :: p, n => match sh (rep n) with
    | .join _ l r => gv sh rep p (if b then r else l)
    | _ => 0
def gvT (sh : Nat → Sh) (rep : Nat → Nat) (n : Nat) : Inf := fun p => gv sh rep p n
theorem gv_sol {M : Nat} {sh : Nat → Sh} {rep : Nat → Nat} (h : GOk M sh rep) : GSol M sh rep (gvT sh rep) where
  eq := fun n hn => by
    funext p
    cases p with
    | nil => simp [gvT, gv, h.idem n hn]
    | cons b p => simp [gvT, gv, h.idem n hn]
  num := fun n hn hr hs => by
    funext p
    cases p with
    | nil => simp [gvT, gv, hr, hs, inum]
    | cons b p => simp [gvT, gv, hr, hs, inum]
  join := fun n k l r hn hr hs => by
    funext p
    match p with
    | [] => simp [gvT, gv, hr, hs, ijoin]
    | false :: p => simp [gvT, gv, hr, hs, ijoin]
    | true :: p => simp [gvT, gv, hr, hs, ijoin]
/-- The type at a node, down to a depth, free classes being variables. -/
def rt (sh : Nat → Sh) (rep : Nat → Nat) : Nat → Nat → Option Ty
  | 0, _ => none
  | d + 1, n => match sh (rep n) with
    | .num => some (.node 1 0 [])
    | .var => some (.node 4 (rep n : Int) [])
    | .join k l r => match rt sh rep d l with
      | none => none
      | some a => match rt sh rep d r with
        | none => none
        | some b => some (.node k 0 [a, b])
theorem rt_num {sh : Nat → Sh} {rep : Nat → Nat} {d n : Nat} (h : sh (rep n) = .num) : rt sh rep (d + 1) n = some (.node 1 0 []) := by simp [rt, h]
theorem rt_var {sh : Nat → Sh} {rep : Nat → Nat} {d n : Nat} (h : sh (rep n) = .var) : rt sh rep (d + 1) n = some (.node 4 (rep n : Int) []) := by simp [rt, h]
theorem rt_left {sh : Nat → Sh} {rep : Nat → Nat} {d n : Nat} {k : Int} {l r : Nat} (h : sh (rep n) = .join k l r) (h1 : rt sh rep d l = none) : rt sh rep (d + 1) n = none := by simp [rt, h, h1]
theorem rt_right {sh : Nat → Sh} {rep : Nat → Nat} {d n : Nat} {k : Int} {l r : Nat} {a : Ty} (h : sh (rep n) = .join k l r) (h1 : rt sh rep d l = some a) (h2 : rt sh rep d r = none) : rt sh rep (d + 1) n = none := by simp [rt, h, h1, h2]
theorem rt_join {sh : Nat → Sh} {rep : Nat → Nat} {d n : Nat} {k : Int} {l r : Nat} {a b : Ty} (h : sh (rep n) = .join k l r) (h1 : rt sh rep d l = some a) (h2 : rt sh rep d r = some b) : rt sh rep (d + 1) n = some (.node k 0 [a, b]) := by simp [rt, h, h1, h2]
theorem rt_is {M : Nat} {sh : Nat → Sh} {rep : Nat → Nat} (hg : GOk M sh rep) {τ : Nat → Inf} (hs : GSol M sh rep τ) : ∀ (d n : Nat) (u : Ty), n < M → rt sh rep d n = some u → Wt M u ∧ Dp d u ∧ τ n = evT (fun v => τ v.toNat) u ∧ gvT sh rep n = evT ivar u := by
  have hgv := gv_sol hg
  intro d
  induction d with
  | zero => intro n u _ h; cases h
  | succ d ih =>
    intro n u hn h
    have hl := hg.lt n hn
    rcases hsh : sh (rep n) with _ | _ | ⟨k, l, r⟩
    · rw [rt_num hsh] at h
      injection h with h
      subst h
      refine ⟨.num, .leaf _ _ _, ?_, ?_⟩
      · rw [hs.eq n hn, hs.num _ hl (hg.idem n hn) hsh, evT_num]
      · rw [hgv.eq n hn, hgv.num _ hl (hg.idem n hn) hsh, evT_num]
    · rw [rt_var hsh] at h
      injection h with h
      subst h
      refine ⟨.var _ (by omega) (by omega), .leaf _ _ _, ?_, ?_⟩
      · rw [evT_var, hs.eq n hn]; rfl
      · rw [evT_var, hgv.eq n hn]
        funext p
        cases p with
        | nil => simp [gvT, gv, hg.idem n hn, hsh, ivar]
        | cons b p => simp [gvT, gv, hg.idem n hn, hsh, ivar]
    · obtain ⟨hk, hl1, hl2⟩ := hg.kid _ k l r hl hsh
      rcases h1 : rt sh rep d l with _ | a
      · rw [rt_left hsh h1] at h; cases h
      · rcases h2 : rt sh rep d r with _ | b
        · rw [rt_right hsh h1 h2] at h; cases h
        · rw [rt_join hsh h1 h2] at h
          injection h with h
          subst h
          obtain ⟨a1, a2, a3, a4⟩ := ih l a hl1 h1
          obtain ⟨b1, b2, b3, b4⟩ := ih r b hl2 h2
          refine ⟨.join k a b hk a1 b1, .join _ _ _ _ _ a2 b2, ?_, ?_⟩
          · rw [evT_join _ _ _ _ hk, hs.eq n hn, hs.join _ k l r hl (hg.idem n hn) hsh, a3, b3]
          · rw [evT_join _ _ _ _ hk, hgv.eq n hn, hgv.join _ k l r hl (hg.idem n hn) hsh, a4, b4]
/-- Where some value is a type that is not deep, there is a type at the node. -/
theorem rt_some {M : Nat} {sh : Nat → Sh} {rep : Nat → Nat} (hg : GOk M sh rep) {τ : Nat → Inf} (hs : GSol M sh rep τ) : ∀ (d n : Nat) (u : Ty) (N : Int), n < M → Wt N u → Dp d u → τ n = evT ivar u → ∃ x, rt sh rep d n = some x := by
  intro d
  induction d with
  | zero => intro n u N _ _ h; cases h
  | succ d ih =>
    intro n u N hn hw hd he
    have hl := hg.lt n hn
    rcases hsh : sh (rep n) with _ | _ | ⟨k, l, r⟩
    · exact ⟨_, rt_num hsh⟩
    · exact ⟨_, rt_var hsh⟩
    · obtain ⟨hk, hl1, hl2⟩ := hg.kid _ k l r hl hsh
      rw [hs.eq n hn, hs.join _ k l r hl (hg.idem n hn) hsh] at he
      cases hw with
      | num => rw [evT_num] at he; exact (ijoin_num hk he).elim
      | var v h0 _ => rw [evT_var] at he; exact (ijoin_var hk h0 he).elim
      | join k' a b hk' wa wb =>
        rw [evT_join _ _ _ _ hk'] at he
        obtain ⟨_, e1, e2⟩ := ijoin_inj he
        cases hd with
        | join _ _ _ _ _ da db =>
          obtain ⟨x, hx⟩ := ih l a N hl1 wa da e1
          obtain ⟨y, hy⟩ := ih r b N hl2 wb db e2
          exact ⟨_, rt_join hsh hx hy⟩
/-- The class of a is put under b. -/
def repU (rep : Nat → Nat) (a b : Nat) : Nat → Nat := fun n => if rep n = a then b else rep n
theorem repU_ok {M : Nat} {sh : Nat → Sh} {rep : Nat → Nat} (h : GOk M sh rep) {a b : Nat} (ha : a < M) (hb : b < M) (hrb : rep b = b) (hab : a ≠ b) : GOk M sh (repU rep a b) where
  kid := h.kid
  lt := fun n hn => by
    unfold repU
    split
    · exact hb
    · exact h.lt n hn
  idem := fun n hn => by
    unfold repU
    by_cases e : rep n = a
    · rw [if_pos e, if_neg (by rw [hrb]; exact fun e => hab e.symm), hrb]
    · rw [if_neg e, if_neg (by rw [h.idem n hn]; exact e), h.idem n hn]
/-- How many classes there are. -/
def cls : Nat → (Nat → Nat) → Nat
  | 0, _ => 0
  | N + 1, rep => cls N rep + if rep N = N then 1 else 0
theorem cls_le {rep rep' : Nat → Nat} : ∀ M, (∀ n, n < M → rep' n = n → rep n = n) → cls M rep' ≤ cls M rep := by
  intro M
  induction M with
  | zero => intro _; exact Nat.le_refl _
  | succ M ih =>
    intro h
    have h1 := ih (fun n hn => h n (by omega))
    show cls M rep' + _ ≤ cls M rep + _
    by_cases e : rep' M = M
    · rw [if_pos e, if_pos (h M (by omega) e)]; omega
    · rw [if_neg e]; omega
theorem cls_lt {rep rep' : Nat → Nat} {a : Nat} (ha : rep a = a) (ha' : rep' a ≠ a) : ∀ M, a < M → (∀ n, n < M → rep' n = n → rep n = n) → cls M rep' < cls M rep := by
  intro M
  induction M with
  | zero => intro h; exact absurd h (Nat.not_lt_zero _)
  | succ M ih =>
    intro hM h
    show cls M rep' + _ < cls M rep + _
    by_cases e : a = M
    · subst e
      have := cls_le (rep := rep) (rep' := rep') a (fun n hn => h n (by omega))
      rw [if_neg ha', if_pos ha]; omega
    · have h1 := ih (by omega) (fun n hn => h n (by omega))
      by_cases e2 : rep' M = M
      · rw [if_pos e2, if_pos (h M (by omega) e2)]; omega
      · rw [if_neg e2]; omega
theorem repU_cls {M : Nat} {rep : Nat → Nat} {a b : Nat} (ha : a < M) (hra : rep a = a) (hrb : rep b = b) (hab : a ≠ b) : cls M (repU rep a b) < cls M rep := by
  refine cls_lt hra ?_ M ha (fun n hn e => ?_)
  · unfold repU; rw [if_pos hra]; exact fun e => hab e.symm
  · unfold repU at e
    by_cases e2 : rep n = a
    · rw [if_pos e2] at e; rw [← e]; exact hrb
    · rw [if_neg e2] at e; exact e
/-- What unify leaves. -/
structure GUni (M : Nat) (sh : Nat → Sh) (rep rep' : Nat → Nat) (a b : Nat) (r : Bool) : Prop where
  ok : GOk M sh rep'
  cl : cls M rep' ≤ cls M rep
  yes : r = true → ∀ τ, GSol M sh rep' τ ↔ (GSol M sh rep τ ∧ τ a = τ b)
  no : r = false → ∀ τ, GSol M sh rep τ → τ a = τ b → False
theorem GUni.lead {M : Nat} {sh : Nat → Sh} {rep rep' : Nat → Nat} {a b : Nat} {r : Bool} (ha : a < M) (hb : b < M) (h : GUni M sh rep rep' (rep a) (rep b) r) : GUni M sh rep rep' a b r where
  ok := h.ok
  cl := h.cl
  yes := fun e τ => by
    rw [h.yes e τ]
    constructor
    · rintro ⟨h1, h2⟩; exact ⟨h1, by rw [h1.eq a ha, h1.eq b hb, h2]⟩
    · rintro ⟨h1, h2⟩; exact ⟨h1, by rw [← h1.eq a ha, ← h1.eq b hb, h2]⟩
  no := fun e τ h1 h2 => h.no e τ h1 (by rw [← h1.eq a ha, ← h1.eq b hb, h2])
theorem GUni.swap {M : Nat} {sh : Nat → Sh} {rep rep' : Nat → Nat} {a b : Nat} {r : Bool} (h : GUni M sh rep rep' a b r) : GUni M sh rep rep' b a r where
  ok := h.ok
  cl := h.cl
  yes := fun e τ => by rw [h.yes e τ]; exact ⟨fun h => ⟨h.1, h.2.symm⟩, fun h => ⟨h.1, h.2.symm⟩⟩
  no := fun e τ h1 h2 => h.no e τ h1 h2.symm
theorem guni_same {M : Nat} {sh : Nat → Sh} {rep : Nat → Nat} (h : GOk M sh rep) (a : Nat) : GUni M sh rep rep a a true :=
  ⟨h, Nat.le_refl _, fun _ τ => ⟨fun h => ⟨h, rfl⟩, fun h => h.1⟩, fun h => by (cases h)⟩
/-- Solutions of the graph in which the class of a is put under b: what a is no longer counts. -/
theorem repU_sol {M : Nat} {sh : Nat → Sh} {rep : Nat → Nat} (h : GOk M sh rep) {a b : Nat} (ha : a < M) (hb : b < M) (hra : rep a = a) (hrb : rep b = b) (hab : a ≠ b) (τ : Nat → Inf) :
    GSol M sh (repU rep a b) τ ↔ (τ a = τ b ∧ (∀ n, n < M → τ n = τ (rep n)) ∧ (∀ n, n < M → rep n = n → n ≠ a → sh n = .num → τ n = inum) ∧ ∀ n k l r, n < M → rep n = n → n ≠ a → sh n = .join k l r → τ n = ijoin k (τ l) (τ r)) := by
  have hu : ∀ n, repU rep a b n = n ↔ (rep n = n ∧ n ≠ a) := fun n => by
    unfold repU
    by_cases e : rep n = a
    · rw [if_pos e]
      constructor
      · intro e2; rw [← e2] at e; rw [hrb] at e; exact absurd e.symm hab
      · rintro ⟨e2, e3⟩; rw [e2] at e; exact absurd e e3
    · rw [if_neg e]
      constructor
      · intro e2; exact ⟨e2, fun e3 => e (by rw [e3]; exact hra)⟩
      · exact fun e2 => e2.1
  constructor
  · intro hs
    have hab2 : τ a = τ b := by
      rw [hs.eq a ha]; unfold repU; rw [if_pos hra]
    refine ⟨hab2, fun n hn => ?_, fun n hn e1 e2 => hs.num n hn ((hu n).2 ⟨e1, e2⟩), fun n k l r hn e1 e2 => hs.join n k l r hn ((hu n).2 ⟨e1, e2⟩)⟩
    rw [hs.eq n hn]
    unfold repU
    by_cases e : rep n = a
    · rw [if_pos e, e]; exact hab2.symm
    · rw [if_neg e]
  · rintro ⟨h1, h2, h3, h4⟩
    refine ⟨fun n hn => ?_, fun n hn e => h3 n hn ((hu n).1 e).1 ((hu n).1 e).2, fun n k l r hn e => h4 n k l r hn ((hu n).1 e).1 ((hu n).1 e).2⟩
    unfold repU
    by_cases e : rep n = a
    · rw [if_pos e, h2 n hn, e]; exact h1
    · rw [if_neg e]; exact h2 n hn
theorem gsol_all {M : Nat} {sh : Nat → Sh} {rep : Nat → Nat} (a : Nat) (τ : Nat → Inf) (h2 : ∀ n, n < M → τ n = τ (rep n)) (h3 : ∀ n, n < M → rep n = n → n ≠ a → sh n = .num → τ n = inum) (h4 : ∀ n k l r, n < M → rep n = n → n ≠ a → sh n = .join k l r → τ n = ijoin k (τ l) (τ r))
    (a3 : sh a = .num → τ a = inum) (a4 : ∀ k l r, sh a = .join k l r → τ a = ijoin k (τ l) (τ r)) : GSol M sh rep τ :=
  ⟨h2, fun n hn e hs => by
    by_cases e2 : n = a
    · subst e2; exact a3 hs
    · exact h3 n hn e e2 hs, fun n k l r hn e hs => by
    by_cases e2 : n = a
    · subst e2; exact a4 k l r hs
    · exact h4 n k l r hn e e2 hs⟩
theorem guni_var {M : Nat} {sh : Nat → Sh} {rep : Nat → Nat} (h : GOk M sh rep) {a b : Nat} (ha : a < M) (hb : b < M) (hra : rep a = a) (hrb : rep b = b) (hab : a ≠ b) (hs : sh a = .var) : GUni M sh rep (repU rep a b) a b true :=
  ⟨repU_ok h ha hb hrb hab, Nat.le_of_lt (repU_cls ha hra hrb hab), fun _ τ => by
    rw [repU_sol h ha hb hra hrb hab τ]
    constructor
    · rintro ⟨h1, h2, h3, h4⟩; exact ⟨gsol_all a τ h2 h3 h4 (fun e => by rw [hs] at e; cases e) (fun k l r e => by rw [hs] at e; cases e), h1⟩
    · rintro ⟨g, e⟩; exact ⟨e, g.eq, fun n hn e1 _ => g.num n hn e1, fun n k l r hn e1 _ => g.join n k l r hn e1⟩, fun h => by (cases h)⟩
theorem guni_num {M : Nat} {sh : Nat → Sh} {rep : Nat → Nat} (h : GOk M sh rep) {a b : Nat} (ha : a < M) (hb : b < M) (hra : rep a = a) (hrb : rep b = b) (hab : a ≠ b) (hs : sh a = .num) (hsb : sh b = .num) : GUni M sh rep (repU rep a b) a b true :=
  ⟨repU_ok h ha hb hrb hab, Nat.le_of_lt (repU_cls ha hra hrb hab), fun _ τ => by
    rw [repU_sol h ha hb hra hrb hab τ]
    constructor
    · rintro ⟨h1, h2, h3, h4⟩; exact ⟨gsol_all a τ h2 h3 h4 (fun e => by rw [h1]; exact h3 b hb hrb (fun e => hab e.symm) hsb) (fun k l r e => by rw [hs] at e; cases e), h1⟩
    · rintro ⟨g, e⟩; exact ⟨e, g.eq, fun n hn e1 _ => g.num n hn e1, fun n k l r hn e1 _ => g.join n k l r hn e1⟩, fun h => by (cases h)⟩
/-- Two shapes that cannot be equal. -/
def Clash : Sh → Sh → Prop
  | .num, .join _ _ _ => True
  | .join _ _ _, .num => True
  | .join k _ _, .join k' _ _ => k ≠ k'
  | _, _ => False
theorem guni_clash {M : Nat} {sh : Nat → Sh} {rep : Nat → Nat} (h : GOk M sh rep) {a b : Nat} (ha : a < M) (hb : b < M) (hra : rep a = a) (hrb : rep b = b) (hab : a ≠ b) (hc : Clash (sh a) (sh b)) : GUni M sh rep (repU rep a b) a b false :=
  ⟨repU_ok h ha hb hrb hab, Nat.le_of_lt (repU_cls ha hra hrb hab), fun h => by (cases h), fun _ τ g e => by
    rcases sa : sh a with _ | _ | ⟨k, l, r⟩
    · rcases sb : sh b with _ | _ | ⟨k', l', r'⟩
      · rw [sa, sb] at hc; exact hc
      · rw [sa, sb] at hc; exact hc
      · rw [g.num a ha hra sa, g.join b k' l' r' hb hrb sb] at e
        exact ijoin_num (h.kid b k' l' r' hb sb).1 e.symm
    · rw [sa] at hc; exact hc
    · rcases sb : sh b with _ | _ | ⟨k', l', r'⟩
      · rw [g.num b hb hrb sb, g.join a k l r ha hra sa] at e
        exact ijoin_num (h.kid a k l r ha sa).1 e
      · rw [sa, sb] at hc; exact hc
      · rw [g.join b k' l' r' hb hrb sb, g.join a k l r ha hra sa] at e
        rw [sa, sb] at hc
        exact hc (ijoin_inj e).1⟩
/-- Two joins of one kind: their parts in turn. -/
theorem guni_join {M : Nat} {sh : Nat → Sh} {rep rep1 rep2 : Nat → Nat} (h : GOk M sh rep) {a b : Nat} (ha : a < M) (hb : b < M) (hra : rep a = a) (hrb : rep b = b) (hab : a ≠ b) {k : Int} {l r l' r' : Nat} {z : Bool} (sa : sh a = .join k l r) (sb : sh b = .join k l' r')
    (h1 : GUni M sh (repU rep a b) rep1 l l' true) (h2 : GUni M sh rep1 rep2 r r' z) : GUni M sh rep rep2 a b z where
  ok := h2.ok
  cl := Nat.le_trans h2.cl (Nat.le_trans h1.cl (Nat.le_of_lt (repU_cls ha hra hrb hab)))
  yes := fun ez τ => by
    rw [h2.yes ez τ, h1.yes rfl τ, repU_sol h ha hb hra hrb hab τ]
    constructor
    · rintro ⟨⟨⟨p1, p2, p3, p4⟩, q⟩, s⟩
      refine ⟨gsol_all a τ p2 p3 p4 (fun e => by rw [sa] at e; cases e) (fun k2 l2 r2 e => ?_), p1⟩
      rw [sa] at e
      injection e with e1 e2 e3
      subst e1 e2 e3
      rw [p1, p4 b k l' r' hb hrb (fun e => hab e.symm) sb, q, s]
    · rintro ⟨g, e⟩
      have e2 := e
      rw [g.join b k l' r' hb hrb sb, g.join a k l r ha hra sa] at e2
      obtain ⟨_, q, s⟩ := ijoin_inj e2
      exact ⟨⟨⟨e, g.eq, fun n hn e1 _ => g.num n hn e1, fun n k l r hn e1 _ => g.join n k l r hn e1⟩, q⟩, s⟩
  no := fun ez τ g e => by
    have e2 := e
    rw [g.join b k l' r' hb hrb sb, g.join a k l r ha hra sa] at e2
    obtain ⟨_, q, s⟩ := ijoin_inj e2
    exact h2.no ez τ ((h1.yes rfl τ).2 ⟨(repU_sol h ha hb hra hrb hab τ).2 ⟨e, g.eq, fun n hn e1 _ => g.num n hn e1, fun n k l r hn e1 _ => g.join n k l r hn e1⟩, q⟩) s
theorem guni_join_no {M : Nat} {sh : Nat → Sh} {rep rep1 : Nat → Nat} (h : GOk M sh rep) {a b : Nat} (ha : a < M) (hb : b < M) (hra : rep a = a) (hrb : rep b = b) (hab : a ≠ b) {k : Int} {l r l' r' : Nat} (sa : sh a = .join k l r) (sb : sh b = .join k l' r')
    (h1 : GUni M sh (repU rep a b) rep1 l l' false) : GUni M sh rep rep1 a b false where
  ok := h1.ok
  cl := Nat.le_trans h1.cl (Nat.le_of_lt (repU_cls ha hra hrb hab))
  yes := fun h => by (cases h)
  no := fun ez τ g e => by
    have e2 := e
    rw [g.join b k l' r' hb hrb sb, g.join a k l r ha hra sa] at e2
    obtain ⟨_, q, s⟩ := ijoin_inj e2
    exact h1.no rfl τ ((repU_sol h ha hb hra hrb hab τ).2 ⟨e, g.eq, fun n hn e1 _ => g.num n hn e1, fun n k l r hn e1 _ => g.join n k l r hn e1⟩) q
/-- A graph in which nothing was made equal; vm has the nodes of variables. -/
structure GAdd (M : Nat) (sh : Nat → Sh) (vm : Int → Option Nat) : Prop where
  kid : ∀ n k l r, n < M → sh n = .join k l r → (k = 2 ∨ k = 3) ∧ l < n ∧ r < n
  vlt : ∀ v m, vm v = some m → m < M ∧ sh m = .var
  inj : ∀ v v' m, vm v = some m → vm v' = some m → v = v'
theorem GAdd.ok {M : Nat} {sh : Nat → Sh} {vm : Int → Option Nat} (h : GAdd M sh vm) : GOk M sh id :=
  ⟨fun n k l r hn e => by obtain ⟨h1, h2, h3⟩ := h.kid n k l r hn e; exact ⟨h1, by omega, by omega⟩, fun n hn => hn, fun n hn => rfl⟩
/-- Any values of the variables are part of a solution. -/
theorem GAdd.ext {sh : Nat → Sh} {vm : Int → Option Nat} (σ : Int → Inf) : ∀ M, GAdd M sh vm → ∃ τ, GSol M sh id τ ∧ ∀ v m, vm v = some m → τ m = σ v := by
  intro M h
  have key : ∀ K, K ≤ M → ∃ τ, GSol K sh id τ ∧ ∀ v m, vm v = some m → m < K → τ m = σ v := by
    intro K
    induction K with
    | zero => intro _; exact ⟨fun _ _ => 0, ⟨fun n hn => absurd hn (Nat.not_lt_zero _), fun n hn => absurd hn (Nat.not_lt_zero _), fun n _ _ _ hn => absurd hn (Nat.not_lt_zero _)⟩, fun v m _ hm => absurd hm (Nat.not_lt_zero _)⟩
    | succ K ih =>
      intro hK
      obtain ⟨τ, h1, h2⟩ := ih (by omega)
      have hX : ∃ X : Inf, (sh K = .num → X = inum) ∧ (∀ k l r, sh K = .join k l r → X = ijoin k (τ l) (τ r)) ∧ ∀ v, vm v = some K → X = σ v := by
        rcases hs : sh K with _ | _ | ⟨k, l, r⟩
        · exact ⟨inum, fun _ => rfl, fun k l r e => by (cases e), fun v e => by rw [(h.vlt v K e).2] at hs; cases hs⟩
        · by_cases e : ∃ v, vm v = some K
          · obtain ⟨v, hv⟩ := e
            exact ⟨σ v, fun e => by (cases e), fun k l r e => by (cases e), fun v' e => by rw [h.inj v v' K hv e]⟩
          · exact ⟨inum, fun _ => rfl, fun k l r e => by (cases e), fun v hv => absurd ⟨v, hv⟩ e⟩
        · refine ⟨ijoin k (τ l) (τ r), fun e => by (cases e), fun k2 l2 r2 e => ?_, fun v e => by rw [(h.vlt v K e).2] at hs; cases hs⟩
          injection e with e1 e2 e3
          subst e1 e2 e3; rfl
      obtain ⟨X, x1, x2, x3⟩ := hX
      have old : ∀ n, n < K → (fun n => if n = K then X else τ n) n = τ n := fun n hn => if_neg (by omega)
      refine ⟨fun n => if n = K then X else τ n, ⟨fun n _ => rfl, fun n hn _ hs => ?_, fun n k l r hn _ hs => ?_⟩, fun v m hv hm => ?_⟩
      · show (if n = K then X else τ n) = _
        by_cases e : n = K
        · subst e; rw [if_pos rfl]; exact x1 hs
        · rw [if_neg e]; exact h1.num n (by omega) rfl hs
      · show (if n = K then X else τ n) = ijoin k (if l = K then X else τ l) (if r = K then X else τ r)
        obtain ⟨_, hl, hr⟩ := h.kid n k l r (by omega) hs
        rw [if_neg (show ¬ l = K by omega), if_neg (show ¬ r = K by omega)]
        by_cases e : n = K
        · subst e; rw [if_pos rfl]; exact x2 k l r hs
        · rw [if_neg e]; exact h1.join n k l r (by omega) rfl hs
      · show (if m = K then X else τ m) = _
        by_cases e : m = K
        · subst e; rw [if_pos rfl]; exact x3 v hv
        · rw [if_neg e]; exact h2 v m hv (by omega)
  obtain ⟨τ, h1, h2⟩ := key M (Nat.le_refl _)
  exact ⟨τ, h1, fun v m hv => h2 v m hv (h.vlt v m hv).1⟩
/-- The node n stands for the type t. -/
inductive Nd (sh : Nat → Sh) (vm : Int → Option Nat) (M : Nat) : Nat → Ty → Prop
  | num (n : Nat) (hn : n < M) (h : sh n = .num) : Nd sh vm M n (.node 1 0 [])
  | var (n : Nat) (v : Int) (hn : n < M) (h : vm v = some n) : Nd sh vm M n (.node 4 v [])
  | join (n l r : Nat) (k : Int) (a b : Ty) (hn : n < M) (h : sh n = .join k l r) (ha : Nd sh vm M l a) (hb : Nd sh vm M r b) : Nd sh vm M n (.node k 0 [a, b])
theorem Nd.lt {sh : Nat → Sh} {vm : Int → Option Nat} {M n : Nat} {t : Ty} (h : Nd sh vm M n t) : n < M := by cases h <;> assumption
theorem Nd.up {sh sh' : Nat → Sh} {vm vm' : Int → Option Nat} {M M' n : Nat} {t : Ty} (h : Nd sh vm M n t) (hM : M ≤ M') (hs : ∀ n, n < M → sh' n = sh n) (hv : ∀ v m, vm v = some m → vm' v = some m) : Nd sh' vm' M' n t := by
  induction h with
  | num n hn h => exact .num n (by omega) ((hs n hn).trans h)
  | var n v hn h => exact .var n v (by omega) (hv v n h)
  | join n l r k a b hn h _ _ iha ihb => exact .join n l r k a b (by omega) ((hs n hn).trans h) iha ihb
theorem Nd.val {sh : Nat → Sh} {vm : Int → Option Nat} {M n : Nat} {t : Ty} (h : Nd sh vm M n t) {rep : Nat → Nat} {τ : Nat → Inf} (hid : GSol M sh id τ) (hk : ∀ n k l r, n < M → sh n = .join k l r → k = 2 ∨ k = 3) {σ : Int → Inf} (hσ : ∀ v m, vm v = some m → τ m = σ v) : τ n = evT σ t := by
  induction h with
  | num n hn h => rw [evT_num]; exact hid.num n hn rfl h
  | var n v hn h => rw [evT_var]; exact hσ v n h
  | join n l r k a b hn h _ _ iha ihb => rw [evT_join _ _ _ _ (hk n k l r hn h), hid.join n k l r hn rfl h, iha, ihb]
/-- The program's result. -/
theorem prin_graph {M : Nat} {sh : Nat → Sh} {vm : Int → Option Nat} {rep : Nat → Nat} {ra rb : Nat} {a b : Ty} (hg : GAdd M sh vm) (hna : Nd sh vm M ra a) (hnb : Nd sh vm M rb b) (h : GUni M sh id rep ra rb true) (d : Nat) :
    (∀ u, rt sh rep d ra = some u → Prin a b u ∧ Dp d u) ∧ (rt sh rep d ra = none → ∀ t, Prin a b t → Dp d t → False) := by
  have hk : ∀ n k l r, n < M → sh n = .join k l r → k = 2 ∨ k = 3 := fun n k l r hn e => (hg.kid n k l r hn e).1
  have back : ∀ τ, GSol M sh rep τ → ∃ σ, evT σ a = evT σ b ∧ τ ra = evT σ a := by
    intro τ hs
    obtain ⟨h1, h2⟩ := (h.yes rfl τ).1 hs
    have hσ : ∀ v m, vm v = some m → τ m = (fun v => match vm v with | some m => τ m | none => inum) v := fun v m e => by simp [e]
    have ea := hna.val (rep := rep) h1 hk hσ
    have eb := hnb.val (rep := rep) h1 hk hσ
    exact ⟨_, by rw [← ea, ← eb, h2], ea⟩
  have forth : ∀ σ, evT σ a = evT σ b → ∃ τ, GSol M sh rep τ ∧ τ ra = evT σ a := by
    intro σ he
    obtain ⟨τ, h1, h2⟩ := GAdd.ext σ M hg
    have ea := hna.val (rep := rep) h1 hk h2
    have eb := hnb.val (rep := rep) h1 hk h2
    exact ⟨τ, (h.yes rfl τ).2 ⟨h1, by rw [ea, eb, he]⟩, ea⟩
  constructor
  · intro u hu
    have g0 := gv_sol h.ok
    obtain ⟨w1, w2, _, w4⟩ := rt_is h.ok g0 d ra u hna.lt hu
    refine ⟨⟨⟨_, w1⟩, ?_, fun σ he => ?_⟩, w2⟩
    · obtain ⟨σ, s1, s2⟩ := back _ g0
      exact ⟨σ, s1, by rw [← s2, w4]⟩
    · obtain ⟨τ, t1, t2⟩ := forth σ he
      exact ⟨_, by rw [← t2]; exact (rt_is h.ok t1 d ra u hna.lt hu).2.2.1⟩
  · intro hn t hp hd
    obtain ⟨N, hw⟩ := hp.wt
    obtain ⟨σ, s1, s2⟩ := hp.one
    obtain ⟨τ, t1, t2⟩ := forth σ s1
    obtain ⟨x, hx⟩ := rt_some h.ok t1 d ra t N hna.lt hw hd (by rw [t2, s2])
    rw [hn] at hx
    cases hx
theorem prin_graph_no {M : Nat} {sh : Nat → Sh} {vm : Int → Option Nat} {rep : Nat → Nat} {ra rb : Nat} {a b : Ty} (hg : GAdd M sh vm) (hna : Nd sh vm M ra a) (hnb : Nd sh vm M rb b) (h : GUni M sh id rep ra rb false) {t : Ty} (hp : Prin a b t) : False := by
  have hk : ∀ n k l r, n < M → sh n = .join k l r → k = 2 ∨ k = 3 := fun n k l r hn e => (hg.kid n k l r hn e).1
  obtain ⟨σ, s1, s2⟩ := hp.one
  obtain ⟨τ, h1, h2⟩ := GAdd.ext σ M hg
  exact h.no rfl τ h1 (by rw [hna.val (rep := rep) h1 hk h2, hnb.val (rep := rep) h1 hk h2, s1])
end Go.Proofs.Ytjhccdioainibaa

namespace Go.Proofs.Ytjhccdioainibaa.Mx
open Go.Proofs.Ytjhccdioainibaa
open Go.RowKit
set_option linter.unusedVariables false
set_option linter.unusedSimpArgs false

theorem key_runG {kt : TypeId} (hk : Try.prog.underlying kt = some (.int .i64)) (w : World) (x : Int) (es : List MapEntry) (M : List IV) (h : pairs es = vpairs M) : (Instr.findKey kt (ik x) es).run Try.prog w = .ok (fnd x M 0) w :=
  Go.MapKept.run_findKey hk (now_run x es M 0 h)
theorem check_runG {kt : TypeId} (hk : Try.prog.underlying kt = some (.int .i64)) (w : World) (em : Bool) (x : Int) : (Instr.checkKey em 10000 kt (ik x)).run Try.prog w = .ok () w :=
  Go.MapKept.run_checkKey (d := .int .i64) hk (ikey x) em 9999
theorem lookup_runG {mt kt et : TypeId} {z : Value} (hm : Try.prog.underlying mt = some (.map kt et)) (hd : Try.prog.underlying kt = some (.int .i64)) (hz : ∀ w, (zeroValue et).run Try.prog w = .ok z w)
    (w : World) (bm : Nat) (M : List IV) (x : Int) (h : IMap w bm M) : (Instr.lookup mt (.map (some bm)) (ik x) true).run Try.prog w = .ok (.tuple #[(look x M).getD z, .bool (look x M).isSome]) w := by
  obtain ⟨es, clock, h1, h2⟩ := h
  have hk := key_runG hd w x es.toList M h2
  have hc := check_runG hd
  have hfl := fnd_look x M 0
  simp only [Instr.lookup, Sem.run_bind, run_underlying hm, Result.andThen_ok, Go.MapKept.run_getObj_map h1, Sem.run_pure, hc, hk]
  rcases hf : fnd x M 0 with _ | ⟨i, u⟩
  · rw [hf] at hfl
    have hl : look x M = none := hfl.symm
    simp [hl, hz, Result.andThen]
  · rw [hf] at hfl
    have hl : look x M = some u := hfl.symm
    simp [hl]
theorem update_runG {mt kt et : TypeId} (hm : Try.prog.underlying mt = some (.map kt et)) (hd : Try.prog.underlying kt = some (.int .i64))
    (w : World) (bm : Nat) (M : List IV) (x : Int) (v : Value) (h : IMap w bm M) : ∃ w', (Instr.mapUpdate mt (.map (some bm)) (ik x) v).run Try.prog w = .ok () w' ∧ IMap w' bm (upd x v M) ∧ w.grownBy w' (some bm) ∧ w'.heap.size = w.heap.size := by
  obtain ⟨es, clock, h1, h2⟩ := h
  have hk := key_runG hd w x es.toList M h2
  have hc := check_runG hd
  have grown : ∀ (o : Obj), w.grownBy { w with heap := w.heap.setIfInBounds bm o } (some bm) := fun o =>
    ⟨rfl, rfl, rfl, by simp, fun k hk hne => (Go.MapKept.heap_set h1).2 k (fun e => hne (by rw [e]))⟩
  simp only [Instr.mapUpdate, Sem.run_bind, run_underlying hm, Result.andThen_ok, Go.MapKept.run_getObj_map h1, hc, hk]
  rcases hf : fnd x M 0 with _ | ⟨i, u⟩
  · simp only [Go.MapKept.run_setObj_map _ h1]
    refine ⟨_, rfl, ⟨_, _, (Go.MapKept.heap_set h1).1, ?_⟩, grown _, by simp⟩
    rw [fnd_none x v M 0 hf]
    simp only [pairs, vpairs, Array.toList_push, List.map_append, List.map_cons, List.map_nil] at h2 ⊢
    rw [h2]
  · obtain ⟨j, e1, e2, e3, e4⟩ := fnd_some x v M 0 i u hf
    have e1 : i = j := by omega
    subst e1
    have hkey : (((es[i]?).map (·.key)).getD (ik x)) = ik x := by
      have h5 : (pairs es.toList)[i]? = (vpairs M)[i]? := by rw [h2]
      simp only [pairs, vpairs, List.getElem?_map, Array.getElem?_toList] at h5
      rcases hM : M[i]? with _ | q
      · rw [hM] at e3; simp at e3
      · rw [hM] at h5 e3
        simp at e3
        rcases he : es[i]? with _ | e
        · rw [he] at h5; simp at h5
        · rw [he] at h5
          simp at h5
          simp [h5.1, e3]
    simp only [hkey, Sem.run_bind, stays_run, Result.andThen_ok, Go.MapKept.run_setObj_map _ h1]
    refine ⟨_, rfl, ⟨_, _, (Go.MapKept.heap_set h1).1, ?_⟩, grown _, by simp⟩
    rw [e4, Array.toList_modify, pairs_modify, h2]
    simp [vpairs, List.map_set]
theorem zeroN_run (w : World) : (zeroValue 55).run Try.prog w = .ok (.int .i64 0) w := by kernel_rfl
theorem zeroI_run (w : World) : (zeroValue 3).run Try.prog w = .ok (.int .i64 0) w := by kernel_rfl
/-- A look-up among nodes. -/
theorem lookN (w : World) (bm : Nat) (M : List IV) (x : Int) (h : IMap w bm M) : (Instr.lookup 91 (.map (some bm)) (.int .i64 x) true).run Try.prog w = .ok (.tuple #[(look x M).getD (.int .i64 0), .bool (look x M).isSome]) w :=
  lookup_runG Try.underlying91 Try.underlying55 zeroN_run w bm M x h
theorem updN (w : World) (bm : Nat) (M : List IV) (x : Int) (v : Value) (h : IMap w bm M) : ∃ w', (Instr.mapUpdate 91 (.map (some bm)) (.int .i64 x) v).run Try.prog w = .ok () w' ∧ IMap w' bm (upd x v M) ∧ w.grownBy w' (some bm) ∧ w'.heap.size = w.heap.size :=
  update_runG Try.underlying91 Try.underlying55 w bm M x v h
theorem IMap.kept {w w' : World} {bm : Nat} {M : List IV} (h : IMap w bm M) (hb : Below w.heap.size w w') : IMap w' bm M := h.keep (hb.block _ h.lt)

/-- The nodes above nodes lead upward: rep is the leader, dp a depth that grows downward. -/
structure UN (M : List IV) (rep dp : Nat → Nat) : Prop where
  top : ∀ k : Nat, look (k : Int) M = none → rep k = k
  up : ∀ (k : Nat) (v : Value), look (k : Int) M = some v → ∃ p : Nat, v = .int .i64 (p : Int) ∧ rep p = rep k ∧ dp p < dp k
theorem UN.new : UN [] id (fun _ => 0) := ⟨fun _ _ => rfl, fun k v h => by simp [look] at h⟩
theorem UN.halve {M : List IV} {rep dp : Nat → Nat} (h : UN M rep dp) {k p g : Nat} (hk : look (k : Int) M = some (.int .i64 (p : Int))) (hp : look (p : Int) M = some (.int .i64 (g : Int))) : UN (upd (k : Int) (.int .i64 (g : Int)) M) rep dp := by
  obtain ⟨p', e1, a1, a2⟩ := h.up k _ hk
  injection e1 with _ e1
  have e1 : p' = p := by omega
  subst e1
  obtain ⟨g', e2, b1, b2⟩ := h.up p' _ hp
  injection e2 with _ e2
  have e2 : g' = g := by omega
  subst e2
  refine ⟨fun x hx => ?_, fun x y hx => ?_⟩
  · rw [look_upd] at hx
    split at hx
    · cases hx
    · exact h.top x hx
  · rw [look_upd] at hx
    split at hx
    · rename_i e
      injection hx with hx
      have e : x = k := by omega
      subst e
      exact ⟨g', hx.symm, b1.trans a1, by omega⟩
    · exact h.up x y hx
theorem UN.lead {M : List IV} {rep dp : Nat → Nat} (h : UN M rep dp) : ∀ (n k : Nat), dp k < n → look ((rep k : Nat) : Int) M = none := by
  intro n
  induction n with
  | zero => intro k hk; omega
  | succ n ih =>
    intro k hk
    rcases hl : look (k : Int) M with _ | v
    · rw [h.top k hl]; exact hl
    · obtain ⟨p, _, a1, a2⟩ := h.up k v hl
      rw [← a1]; exact ih p (by omega)
theorem UN.rep_rep {M : List IV} {rep dp : Nat → Nat} (h : UN M rep dp) (k : Nat) : look ((rep k : Nat) : Int) M = none ∧ rep (rep k) = rep k := by
  have h1 := h.lead (dp k + 1) k (Nat.lt_succ_self _)
  exact ⟨h1, h.top _ h1⟩
theorem UN.join {M : List IV} {rep dp : Nat → Nat} (h : UN M rep dp) {a b : Nat} (hne : rep a ≠ rep b) : UN (upd ((rep a : Nat) : Int) (.int .i64 ((rep b : Nat) : Int)) M) (repU rep (rep a) (rep b)) (fun k => if rep k = rep a then dp k + dp (rep b) + 1 else dp k) := by
  obtain ⟨a1, a2⟩ := h.rep_rep a
  obtain ⟨b1, b2⟩ := h.rep_rep b
  refine ⟨fun k hk => ?_, fun k v hk => ?_⟩
  · rw [look_upd] at hk
    split at hk
    · cases hk
    · rename_i hka
      have e := h.top k hk
      unfold repU
      rw [e, if_neg (fun e2 => hka (by rw [e2]))]
  · rw [look_upd] at hk
    split at hk
    · rename_i hka
      injection hk with hk
      have hka : k = rep a := by omega
      subst hka
      refine ⟨rep b, hk.symm, ?_, ?_⟩
      · unfold repU; simp only [a2, b2, if_true, if_neg (Ne.symm hne)]
      · simp only [a2, b2, if_true, if_neg (Ne.symm hne)]; omega
    · obtain ⟨p, e0, e1, e2⟩ := h.up k v hk
      refine ⟨p, e0, ?_, ?_⟩
      · unfold repU; simp only [e1]
      · simp only [e1]; split <;> omega

set_option maxRecDepth 100000 in
set_option maxHeartbeats 4000000 in
theorem leaderN_any (bm : Nat) (M0 : List IV) (rep dp : Nat → Nat) (k0 : Nat) (w : World) (hm : IMap w bm M0) (hf : UN M0 rep dp) :
    Calls Try.prog 62 #[.agg #[.map (some bm)], .int .i64 (k0 : Int)] w fun e w' => e = .returned (.int .i64 ((rep k0 : Nat) : Int)) ∧ Inside bm (bm + 1) w w' ∧ ∃ M, IMap w' bm M ∧ UN M rep dp := by
  obtain ⟨S, hS⟩ : ∃ S, w.heap.size = S := ⟨_, rfl⟩
  have hbm : bm < S := by rw [← hS]; exact hm.lt
  obtain ⟨W1, hW1⟩ : ∃ W1, w.alloc (.cells #[.map (some bm)] 93) = W1 := ⟨_, rfl⟩
  have hB1 : Below w.heap.size w W1 := by rw [← hW1]; exact (Below.refl _ _).alloc (Nat.le_refl _) _
  have HM1 := Lib.hid (hm.kept hB1)
  have HF1 := Lib.hid hf
  have HC1 : Hid (W1.cell? ⟨S, 0, none⟩ = some (.map (some bm))) := Lib.hid (by rw [← hW1, ← hS]; exact cell_fresh' w _ _)
  have HI1 : Hid (Inside bm (bm + 1) w W1) := Lib.hid (in_below hB1)
  have hz1 : S < W1.heap.size := by rw [← hW1, ← hS]; simp
  have HW1 := Lib.hid hW1
  have HS := Lib.hid hS
  clear hm hf hB1 hW1
  go_enter Try.func62, Try.ntmps62
  go_wp2_with fail
  rw [HW1.out]
  try rw [HS.out]
  clear hS
  go_loopw [1] (fun kv wr => ∃ (k : Nat) (M : List IV), kv = .int .i64 (k : Int) ∧ Hid (IMap wr bm M) ∧ Hid (UN M rep dp) ∧ Hid (rep k = rep k0) ∧ Hid (wr.cell? ⟨S, 0, none⟩ = some (.map (some bm))) ∧ Hid (Inside bm (bm + 1) w wr) ∧ S < wr.heap.size) (fun kv _ => dp (intOf kv).toNat)
  case atStart => exact ⟨k0, M0, rfl, HM1, HF1, Lib.hid rfl, HC1, HI1, hz1⟩
  case round =>
    obtain ⟨k, M, rfl, him, hun, hrep, hc, hin, hz⟩ := hrel
    have c0 := hc.out
    rcases hl : look (k : Int) M with _ | v
    · have L1 : (Instr.lookup 91 (.map (some bm)) (.int .i64 (k : Int)) true).run Try.prog wr = .ok (.tuple #[.int .i64 0, .bool false]) wr := by
        have h := lookN wr bm M k him.out; rw [hl] at h; exact h
      have HT : Hid (rep k = k) := Lib.hid (hun.out.top k hl)
      clear hl
      go_wp2_with fail
      go_ret
      exact ⟨congrArg (fun n : Nat => Ending.returned (.int .i64 (n : Int))) (HT.out.symm.trans hrep.out), hin.out, M, him.out, hun.out⟩
    · obtain ⟨p, rfl, hp1, hp2⟩ := hun.out.up k v hl
      have L1 : (Instr.lookup 91 (.map (some bm)) (.int .i64 (k : Int)) true).run Try.prog wr = .ok (.tuple #[.int .i64 (p : Int), .bool true]) wr := by
        have h := lookN wr bm M k him.out; rw [hl] at h; exact h
      have HP1 := Lib.hid hp1
      have HP2 := Lib.hid hp2
      clear hp1 hp2
      rcases hl2 : look (p : Int) M with _ | v2
      · have L2 : (Instr.lookup 91 (.map (some bm)) (.int .i64 (p : Int)) true).run Try.prog wr = .ok (.tuple #[.int .i64 0, .bool false]) wr := by
          have h := lookN wr bm M p him.out; rw [hl2] at h; exact h
        clear hl hl2
        go_wp2_with fail
        go_roundw
        case rel => exact ⟨p, M, rfl, him, hun, Lib.hid (HP1.out.trans hrep.out), hc, hin, hz⟩
        case measure => have := HP2.out; simpa [intOf] using this
      · obtain ⟨g, rfl, hg1, hg2⟩ := hun.out.up p v2 hl2
        have L2 : (Instr.lookup 91 (.map (some bm)) (.int .i64 (p : Int)) true).run Try.prog wr = .ok (.tuple #[.int .i64 (g : Int), .bool true]) wr := by
          have h := lookN wr bm M p him.out; rw [hl2] at h; exact h
        have HH := Lib.hid (hun.out.halve hl hl2)
        obtain ⟨w3, L3, him3, hgr3, hz3⟩ := updN wr bm M k (.int .i64 (g : Int)) him.out
        have HM3 := Lib.hid him3
        have hI3 : Inside bm (bm + 1) wr w3 := ⟨hgr3.os, hgr3.tape, hgr3.output, hgr3.size, fun b hb hx => hgr3.block b hb (fun e => by injection e; omega)⟩
        have HC3 : Hid (w3.cell? ⟨S, 0, none⟩ = some (.map (some bm))) := Lib.hid ((cellEq (hI3.block S hz (.inr (by omega)))).trans hc.out)
        have HI3 := Lib.hid (hin.out.trans hI3)
        have HZ3 : Hid (S < w3.heap.size) := Lib.hid (Nat.lt_of_lt_of_le hz hI3.size)
        clear hl hl2 him3 hgr3 hz3 hI3 hg1 hg2
        go_wp2_with fail
        go_roundw
        case rel => exact ⟨p, _, rfl, HM3, HH, Lib.hid (HP1.out.trans hrep.out), HC3, HI3, HZ3.out⟩
        case measure => have := HP2.out; simpa [intOf] using this

theorem newUN_any (w : World) : Calls Try.prog 60 #[] w fun e w' => e = .returned (.agg #[.map (some (w.heap.size + 1))]) ∧ IMap w' (w.heap.size + 1) [] ∧ Below w.heap.size w w' ∧ w'.heap.size = w.heap.size + 2 := by
  have hmm := @run_makeMap Try.prog
  obtain ⟨W1, hW1⟩ : ∃ W1, w.alloc (.cells #[.map (some (w.heap.size + 1))] 93) = W1 := ⟨_, rfl⟩
  have hz : W1.heap.size = w.heap.size + 1 := by rw [← hW1]; simp
  have hu : IMap ((w.alloc (.cells #[.map (some (w.heap.size + 1))] 93)).alloc (.map #[] 0)) (w.heap.size + 1) [] := by
    rw [hW1, ← hz]; exact imap_new W1
  have HU := Lib.hid hu
  clear hu hW1 hz
  go_enter Try.func60, Try.ntmps60
  go_wp2_with fail
  exact bodyPost_ret (v := .agg #[.map (some (w.heap.size + 1))]) (by simp [results, Try.results60, go_sem]) rfl ⟨rfl, HU.out, ((Below.refl _ _).alloc (Nat.le_refl _) _).alloc (by simp) _, by simp⟩

set_option maxRecDepth 100000 in
set_option maxHeartbeats 8000000 in
theorem joinN_any (bm : Nat) (M0 : List IV) (rep dp : Nat → Nat) (a b : Nat) (w : World) (hm : IMap w bm M0) (hf : UN M0 rep dp) :
    Calls Try.prog 63 #[.agg #[.map (some bm)], .int .i64 (a : Int), .int .i64 (b : Int)] w fun e w' => Inside bm (bm + 1) w w' ∧ ((rep a = rep b ∧ e = .returned (.bool false) ∧ ∃ M, IMap w' bm M ∧ UN M rep dp) ∨ (rep a ≠ rep b ∧ e = .returned (.bool true) ∧ ∃ M dp', IMap w' bm M ∧ UN M (repU rep (rep a) (rep b)) dp')) := by
  obtain ⟨S, hS⟩ : ∃ S, w.heap.size = S := ⟨_, rfl⟩
  have hbm : bm < S := by rw [← hS]; exact hm.lt
  obtain ⟨W1, hW1⟩ : ∃ W1, w.alloc (.cells #[.map (some bm)] 93) = W1 := ⟨_, rfl⟩
  have hB1 : Below w.heap.size w W1 := by rw [← hW1]; exact (Below.refl _ _).alloc (Nat.le_refl _) _
  have HM1 := Lib.hid (hm.kept hB1)
  have HF1 := Lib.hid hf
  have c1 : W1.cell? ⟨S, 0, none⟩ = some (.map (some bm)) := by rw [← hW1, ← hS]; exact cell_fresh' w _ _
  have HI1 : Hid (Inside bm (bm + 1) w W1) := Lib.hid (in_below hB1)
  have hz1 : S < W1.heap.size := by rw [← hW1, ← hS]; simp
  have HW1 := Lib.hid hW1
  have HS := Lib.hid hS
  clear hm hf hB1 hW1
  go_enter Try.func63, Try.ntmps63
  go_wp2_with fail
  rw [HW1.out]
  try rw [HS.out]
  clear hS
  go_region_held3 (fun w' => w'.cell? ⟨S, 0, none⟩ = some (.map (some bm))) (go_keep)
    (first
      | (go_at_call 62; have hgd := HM2; clear hgd; refine (leaderN_any bm M2 rep dp b _ (by first | exact HM2.out | exact HM2.out.kept (Below.refl _ _).drew) HF2.out).mono ?_; rintro e w3 ⟨rfl, hin3, M3, hm3, hf3⟩; have hin3' : Inside bm (bm + 1) w2 w3 := (in_below (lo := bm) (hi := bm + 1) (w := w2) (by first | exact Below.refl _ _ | exact (Below.refl _ _).drew)).trans hin3; have HM3 := Lib.hid hm3; have HF3 := Lib.hid hf3; have HI3 := Lib.hid (HI2.out.trans hin3'); have c3 := (cellEq (i := 0) (hin3'.block S hz2 (.inr (by omega)))).trans c2; have hz3 : S < w3.heap.size := Nat.lt_of_lt_of_le hz2 hin3'.size; clear hin3 hin3' hm3 hf3)
      | (go_at_call 62; refine (leaderN_any bm M0 rep dp a _ (by first | exact HM1.out | exact HM1.out.kept (Below.refl _ _).drew) HF1.out).mono ?_; rintro e w2 ⟨rfl, hin2, M2, hm2, hf2⟩; have hin2' : Inside bm (bm + 1) W1 w2 := (in_below (lo := bm) (hi := bm + 1) (w := W1) (by first | exact Below.refl _ _ | exact (Below.refl _ _).drew)).trans hin2; have HM2 := Lib.hid hm2; have HF2 := Lib.hid hf2; have HI2 := Lib.hid (HI1.out.trans hin2'); have c2 := (cellEq (i := 0) (hin2'.block S hz1 (.inr (by omega)))).trans c1; have hz2 : S < w2.heap.size := Nat.lt_of_lt_of_le hz1 hin2'.size; clear hin2 hin2' hm2 hf2))
  all_goals
    by_cases heq : rep a = rep b
    · have hbb : (((rep a : Nat) : Int) == ((rep b : Nat) : Int)) = true := by rw [heq]; simp
      have HEQ := Lib.hid heq
      clear heq
      go_wp2_with fail
      go_ret
      exact ⟨HI3.out, .inl ⟨HEQ.out, rfl, M3, HM3.out, HF3.out⟩⟩
    · have hbb : (((rep a : Nat) : Int) == ((rep b : Nat) : Int)) = false := by rw [beq_eq_false_iff_ne]; omega
      obtain ⟨w4, L4, him4, hgr4, hz4⟩ := updN w3 bm M3 ((rep a : Nat) : Int) (.int .i64 ((rep b : Nat) : Int)) HM3.out
      have HM4 := Lib.hid him4
      have HI4 : Hid (Inside bm (bm + 1) w w4) := Lib.hid (HI3.out.trans ⟨hgr4.os, hgr4.tape, hgr4.output, hgr4.size, fun b hb hx => hgr4.block b hb (fun e => by injection e; omega)⟩)
      have HF4 := Lib.hid (HF3.out.join heq)
      have HEQ := Lib.hid heq
      clear heq him4 hgr4 hz4
      go_wp2_with fail
      go_ret
      exact ⟨HI4.out, .inr ⟨HEQ.out, rfl, _, _, HM4.out, HF4.out⟩⟩

end Go.Proofs.Ytjhccdioainibaa.Mx
