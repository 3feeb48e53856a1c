/-
  Unification is by parts: two functions to a number are unified as their arguments are; a function and a pair never are. Plain facts.
-/
import Derived.Test.YtndpoejohpmifaaQac
import Derived.Test.YtndpoejohpmifaaPg
namespace Go.Proofs.Ytndpoejohpmifaa
open Go.RowKit
set_option linter.unusedVariables false
set_option linter.unusedSimpArgs false

theorem nd_up : ∀ (d : Nat) (t : Ty), shp d t = true → shp (d + 1) t = true ∧ nd (d + 1) t = nd d t := by
  intro d
  induction d with
  | zero => intro t h; cases h
  | succ d ih =>
    intro t h
    have hw := shp_of_wt (wt_of_shp _ t h) (d + 1 + 1) ((dp_of_shp _ t h).up (by omega))
    refine ⟨hw, ?_⟩
    rcases shp_forms h with rfl | ⟨n, h0, h1, rfl⟩ | ⟨k, a, b, hk, rfl, ha, hb⟩
    · rw [nd_leaf, nd_leaf]
    · rw [nd_leaf, nd_leaf]
    · rw [nd_two, nd_two, (ih a ha).2, (ih b hb).2]
theorem rp_up (F : List Int → Int → Ty × List Int) : ∀ (d : Nat) (t : Ty) (st : List Int), shp d t = true → rp F (d + 1) t st = rp F d t st := by
  intro d
  induction d with
  | zero => intro t st h; cases h
  | succ d ih =>
    intro t st h
    rcases shp_forms h with rfl | ⟨n, h0, h1, rfl⟩ | ⟨k, a, b, hk, rfl, ha, hb⟩
    · simp [rp]
    · simp [rp]
    · have hk4 : k ≠ 4 := by omega
      have e : ∀ e, rp F (e + 1) (.node k 0 [a, b]) st = (.node k 0 [(rp F e a st).1, (rp F e b (rp F e a st).2).1], (rp F e b (rp F e a st).2).2) := fun e => by simp [rp, hk4]
      rw [e, e, ih a st ha, ih b _ hb]
/-- A function or a pair of a type and a number. -/
def jn (k : Int) (x : Ty) : Ty := .node k 0 [x, .node 1 0 []]
theorem jn_parts {k : Int} {x : Ty} (hk : k = 2 ∨ k = 3) (h : tvT (jn k x) = true) : shp 15 x = true ∧ tvT x = true := by
  have hs := tvT_shp h
  rcases shp_forms hs with e | ⟨n, _, _, e⟩ | ⟨k', a, b, hk', e, ha, hb⟩
  · unfold jn at e; injection e with e; omega
  · unfold jn at e; injection e with e; omega
  · unfold jn at e
    injection e with e1 e2 e3
    injection e3 with e4 e5
    subst e4
    refine ⟨ha, ?_⟩
    have h1 : shp 16 x = true ∧ nd 16 x = nd 15 x := nd_up 15 x ha
    rw [tvT_yes hs] at h
    have h2 := of_decide_eq_true h
    rw [tvT_yes h1.1, decide_eq_true_eq]
    unfold jn at h2
    rw [nd_two] at h2
    omega
theorem prin_parts {k : Int} {x y u : Ty} (hk : k = 2 ∨ k = 3) (h : Prin (jn k x) (jn k y) u) : ∃ u0, u = jn k u0 ∧ Prin x y u0 := by
  obtain ⟨N, hw⟩ := h.wt
  obtain ⟨σ, e1, e2⟩ := h.one
  unfold jn at e1 e2
  rw [evT_join _ _ _ _ hk, evT_join _ _ _ _ hk] at e1
  rw [evT_join _ _ _ _ hk] at e2
  cases hw with
  | num => rw [evT_num, evT_num] at e2; exact (ijoin_num hk e2).elim
  | var n h0 _ => rw [evT_var] at e2; exact (ijoin_var hk h0 e2).elim
  | join k' a b hk' ha hb =>
    rw [evT_join _ _ _ _ hk'] at e2
    obtain ⟨rfl, f1, f2⟩ := ijoin_inj e2
    rw [evT_num] at f2
    have hbn : b = .node 1 0 [] := by
      cases hb with
      | num => rfl
      | var n h0 _ => rw [evT_var] at f2; exact (inum_var h0 f2).elim
      | join k2 c d hk2 _ _ => rw [evT_join _ _ _ _ hk2] at f2; exact (ijoin_num hk2 f2.symm).elim
    subst hbn
    refine ⟨a, rfl, ⟨N, ha⟩, ⟨σ, (ijoin_inj e1).2.1, f1⟩, fun τ ht => ?_⟩
    have h2 := h.all τ (by unfold jn; rw [evT_join _ _ _ _ hk, evT_join _ _ _ _ hk, ht])
    obtain ⟨θ, h3⟩ := h2
    unfold jn at h3
    rw [evT_join _ _ _ _ hk, evT_join _ _ _ _ hk] at h3
    exact ⟨θ, (ijoin_inj h3).2.1⟩
theorem can_jn {k : Int} {x : Ty} (hk : k = 2 ∨ k = 3) (h : tvT (jn k x) = true) : canT (jn k x) = jn k (canT x) := by
  have hp := jn_parts hk h
  rw [← can_canT (tvT_shp h), ← can_canT (tvT_shp hp.2)]
  unfold can jn
  have hk4 : k ≠ 4 := by omega
  have e : rp fF 16 (.node k 0 [x, .node 1 0 []]) [] = (.node k 0 [(rp fF 15 x []).1, (rp fF 15 (.node 1 0 []) (rp fF 15 x []).2).1], (rp fF 15 (.node 1 0 []) (rp fF 15 x []).2).2) := by simp [rp, hk4]
  rw [e, rp_up fF 15 x [] hp.1]
  simp [rp]
/-- Functions are unified as their arguments are. -/
theorem unT_jn {x y d : Ty} (h : unT (jn 2 x) (jn 2 y) = some d) : ∃ c, unT x y = some c ∧ d = jn 2 c := by
  obtain ⟨h1, h2, _, u, hp, hu, e⟩ := unT_some h
  obtain ⟨u0, rfl, hp0⟩ := prin_parts (.inl rfl) hp
  have hx := jn_parts (.inl rfl) h1
  have hy := jn_parts (.inl rfl) h2
  have hu0 := jn_parts (.inl rfl) hu
  refine ⟨canT u0, ?_, by rw [e, can_jn (.inl rfl) hu]⟩
  rw [unT_ab hx.2 hy.2, uni_res hp0 (tvT_wt hu0.2), if_pos hu0.2]
/-- A function and a pair are never unified. -/
theorem unT_never (x y : Ty) : unT (jn 2 x) (jn 3 y) = none := by
  rcases h : unT (jn 2 x) (jn 3 y) with _ | z
  · rfl
  · obtain ⟨h1, h2⟩ := unT_inst h
    obtain ⟨_, _, σ, e1⟩ := Mx.ev_of_inst h1
    obtain ⟨_, _, τ, e2⟩ := Mx.ev_of_inst h2
    unfold jn at e1 e2
    rw [evT_join _ _ _ _ (.inl rfl)] at e1
    rw [evT_join _ _ _ _ (.inr rfl)] at e2
    have := (ijoin_inj (e1.trans e2.symm)).1
    omega

end Go.Proofs.Ytndpoejohpmifaa
