/-
What the answer of UnifyTypes says: an instance of both types, the most general one, canonical. Plain facts.
-/
import Derived.Test.YtjhccdioainibaaW27
import Derived.Test.YtjhccdioainibaaW28
namespace Go.Proofs.Ytjhccdioainibaa
open Go.RowKit
set_option linter.unusedVariables false
set_option linter.unusedSimpArgs false

theorem ev_inj {N : Int} {x : Ty} (hx : Wt N x) : ∀ (y : Ty) (M : Int), Wt M y → evT ivar x = evT ivar y → x = y := by
  induction hx with
  | num =>
    intro y M hy h
    cases hy with
    | num => rfl
    | var n h0 _ => rw [evT_num, evT_var] at h; exact (inum_var h0 h).elim
    | join k a b hk _ _ => rw [evT_num, evT_join _ _ _ _ hk] at h; exact (ijoin_num hk h.symm).elim
  | var v hv0 _ =>
    intro y M hy h
    cases hy with
    | num => rw [evT_num, evT_var] at h; exact (inum_var hv0 h.symm).elim
    | var w h0 _ => rw [evT_var, evT_var] at h; rw [ivar_inj h]
    | join k a b hk _ _ => rw [evT_var, evT_join _ _ _ _ hk] at h; exact (ijoin_var hk hv0 h.symm).elim
  | join k a b hk _ _ iha ihb =>
    intro y M hy h
    rw [evT_join _ _ _ _ hk] at h
    cases hy with
    | num => rw [evT_num] at h; exact (ijoin_num hk h).elim
    | var w h0 _ => rw [evT_var] at h; exact (ijoin_var hk h0 h).elim
    | join k' a' b' hk' ha' hb' =>
      rw [evT_join _ _ _ _ hk'] at h
      obtain ⟨rfl, e1, e2⟩ := ijoin_inj h
      rw [iha a' M ha' e1, ihb b' M hb' e2]
/-- Renamed types have the same trees under solutions that fit. -/
theorem Rn.ev {r s : Int → Int} {x y : Ty} (h : Rn r s x y) (θ θ' : Int → Inf) (hf : ∀ v, s (r v) = v → θ v = θ' (r v)) : evT θ x = evT θ' y := by
  induction h with
  | num => rw [evT_num, evT_num]
  | var v w h1 h2 => rw [evT_var, evT_var, h1]; exact hf v (by rw [← h1, ← h2])
  | join k a b a' b' hk _ _ iha ihb => rw [evT_join _ _ _ _ hk, evT_join _ _ _ _ hk, iha, ihb]
theorem Rn.back {r s : Int → Int} {x y : Ty} (h : Rn r s x y) (θ : Int → Inf) : evT (fun w => θ (s w)) y = evT θ x :=
  (h.ev θ (fun w => θ (s w)) (fun v e => by show θ v = θ (s (r v)); rw [e])).symm
theorem Rn.fwd {r s : Int → Int} {x y : Ty} (h : Rn r s x y) : evT (fun v => ivar (r v)) x = evT ivar y :=
  h.ev (fun v => ivar (r v)) ivar (fun v e => rfl)
theorem Rn.closed {r s : Int → Int} {x y : Ty} (h : Rn r s x y) (hc : ∀ v, ¬ Occ v x) : y = x := by
  induction h with
  | num => rfl
  | var v w h1 h2 => exact absurd .var (hc v)
  | join k a b a' b' hk _ _ iha ihb => rw [iha (fun v hv => hc v (.left _ _ _ hv)), ihb (fun v hv => hc v (.right _ _ _ hv))]
theorem idx_get {L : List Int} {n : Int} (h : n ∈ L) : L.getD (L.idxOf n) 0 = n := by
  have hl := List.idxOf_lt_length_iff.2 h
  rw [List.getD_eq_getElem?_getD, List.getElem?_eq_getElem hl]
  exact List.getElem_idxOf hl
/-- A type and the one with its variables numbered differ in names only. -/
theorem rn_rp : ∀ (d : Nat) (t : Ty) (st : List Int), shp d t = true → st <+: (rp fF d t st).2 ∧ ∀ L : List Int, (rp fF d t st).2 <+: L → Rn (fun v => ((L.idxOf v : Nat) : Int)) (fun i => L.getD i.toNat 0) t (rp fF d t st).1 := by
  intro d
  induction d with
  | zero => intro t st h; cases h
  | succ d ih =>
    intro t st h
    rcases shp_forms h with rfl | ⟨n, n0, n1, rfl⟩ | ⟨k, a, b, hk, rfl, ha, hb⟩
    · have e : rp fF (d + 1) (.node 1 0 []) st = (.node 1 0 [], st) := by simp [rp]
      rw [e]
      exact ⟨List.prefix_refl _, fun L _ => .num⟩
    · have e : rp fF (d + 1) (.node 4 n []) st = fF st n := by simp [rp]
      rw [e]
      unfold fF
      refine ⟨addV_pre st n, fun L hL => ?_⟩
      have hm : n ∈ addV st n := mem_addV.2 (.inr rfl)
      have hL' : n ∈ L := hL.subset hm
      have e2 : L.idxOf n = (addV st n).idxOf n := by
        obtain ⟨l, rfl⟩ := hL
        rw [List.idxOf_append, if_pos hm]
      refine .var n _ ?_ ?_
      · show ixA st n = ((L.idxOf n : Nat) : Int)
        rw [e2]; rfl
      · show n = L.getD (ixA st n).toNat 0
        have e3 : (ixA st n).toNat = L.idxOf n := by rw [e2]; unfold ixA; simp
        rw [e3, idx_get hL']
    · have hk4 : k ≠ 4 := by omega
      have e : rp fF (d + 1) (.node k 0 [a, b]) st = (.node k 0 [(rp fF d a st).1, (rp fF d b (rp fF d a st).2).1], (rp fF d b (rp fF d a st).2).2) := by simp [rp, hk4]
      rw [e]
      obtain ⟨p1, q1⟩ := ih a st ha
      obtain ⟨p2, q2⟩ := ih b (rp fF d a st).2 hb
      exact ⟨p1.trans p2, fun L hL => .join k _ _ _ _ hk (q1 L (p2.trans hL)) (q2 L hL)⟩
theorem rn_can {t : Ty} (h : shp 16 t = true) : ∃ r s, Rn r s t (canT t) := by
  rw [← rp_can h]
  exact ⟨_, _, (rn_rp 16 t [] h).2 _ (List.prefix_refl _)⟩
theorem canT_twice {t : Ty} (h : shp 16 t = true) : canT (canT t) = canT t := by
  obtain ⟨r, s, hr⟩ := rn_can h
  have e1 := can_canT (canT_nd h).1
  rw [← e1, can_rn hr (dp_of_shp 16 t h), can_canT h]
/-- Walking to the root's end. -/
theorem wk_exists {B : Bn} {t u : Ty} (h : Ful B t u) : ∃ t', Wk B t t' ∧ Trm B t' := by
  induction h with
  | num => exact ⟨_, .refl _, fun e => by cases e⟩
  | free n e => exact ⟨_, .refl _, fun _ => e⟩
  | bound n t u e _ ih => obtain ⟨t', h1, h2⟩ := ih; exact ⟨t', .step n t t' e h1, h2⟩
  | join k a b a' b' hk _ _ => exact ⟨_, .refl _, fun e => by have e' : k = 4 := e; omega⟩
open Classical in
theorem uni_var {N : Nat} {B : Bn} (hB : BOK N B) {n : Int} (h0 : 0 ≤ n) (hN : n < N) (hn : B n = none) {t u : Ty} (ht : Wt N t) (hu : Ful B t u) (hT : Trm B t) : ∃ B' r, UniOk N B B' (.node 4 n []) t r := by
  obtain ⟨m, rfl⟩ : ∃ m : Nat, n = m := ⟨n.toNat, by omega⟩
  by_cases ho : Occ (m : Int) u
  · rcases ful_shape hu hT with ⟨rfl, rfl⟩ | ⟨k, rfl, rfl, _⟩ | ⟨k, a, b, a', b', hk, rfl, rfl, _, _⟩
    · cases ho
    · cases ho
      exact ⟨B, true, uni_same hB _⟩
    · exact ⟨B, false, uni_occ hB ht hu (show k ≠ 4 by omega) ho⟩
  · exact ⟨_, true, uni_bind hB (by omega) hn ht hu ho⟩
theorem uni_step (N f s : Nat) (ihf : ∀ g, g < f → ∀ (B : Bn) (a b : Ty), fr N B ≤ g → BOK N B → Wt N a → Wt N b → ∃ B' r, UniOk N B B' a b r)
    (ihs : ∀ (B : Bn) (a b u : Ty), fr N B ≤ f → BOK N B → Wt N a → Wt N b → Ful B a u → nodes u ≤ s → ∃ B' r, UniOk N B B' a b r)
    (B : Bn) (a b u : Ty) (hf : fr N B ≤ f) (hB : BOK N B) (ha : Wt N a) (hb : Wt N b) (hu : Ful B a u) (hs : nodes u ≤ s + 1) : ∃ B' r, UniOk N B B' a b r := by
  obtain ⟨ub, hub⟩ := ful_exists hB hb
  obtain ⟨a', wa, ta⟩ := wk_exists hu
  obtain ⟨b', wb, tb⟩ := wk_exists hub
  have ha' := wa.wt hB ha
  have hb' := wb.wt hB hb
  have fa := wa.ful hu
  have fb := wb.ful hub
  suffices h : ∃ B' r, UniOk N B B' a' b' r by
    obtain ⟨B', r, h⟩ := h
    exact ⟨B', r, h.wk wa wb⟩
  clear wa wb hu hub ha hb
  have flip : (∃ B' r, UniOk N B B' b' a' r) → ∃ B' r, UniOk N B B' a' b' r := fun ⟨B', r, h⟩ => ⟨B', r, h.swap⟩
  rcases ful_shape fa ta with ⟨rfl, rfl⟩ | ⟨n, rfl, rfl, hn⟩ | ⟨k, a1, a2, u1, u2, hk, rfl, rfl, f1, f2⟩
  · rcases ful_shape fb tb with ⟨rfl, rfl⟩ | ⟨n, rfl, rfl, hn⟩ | ⟨k, b1, b2, v1, v2, hk, rfl, rfl, g1, g2⟩
    · exact ⟨B, true, uni_same hB _⟩
    · cases hb' with
      | var _ h0 h1 => exact flip (uni_var hB h0 h1 hn ha' fa ta)
    · exact ⟨B, false, uni_kind hB ha' hb' (by decide) (show k ≠ 4 by omega) (show (1 : Int) ≠ k by omega)⟩
  · cases ha' with
    | var _ h0 h1 => exact uni_var hB h0 h1 hn hb' fb tb
  · rcases ful_shape fb tb with ⟨rfl, rfl⟩ | ⟨n, rfl, rfl, hn⟩ | ⟨k', b1, b2, v1, v2, hk', rfl, rfl, g1, g2⟩
    · exact ⟨B, false, uni_kind hB ha' hb' (show k ≠ 4 by omega) (by decide) (show k ≠ (1 : Int) by omega)⟩
    · cases hb' with
      | var _ h0 h1 => exact flip (uni_var hB h0 h1 hn ha' fa ta)
    · by_cases e : k = k'
      · subst e
        rw [nodes_two] at hs
        have q1 := nodes_pos u1
        have q2 := nodes_pos u2
        have wa1 : Wt N a1 := by cases ha' with | join _ _ _ _ h _ => exact h
        have wa2 : Wt N a2 := by cases ha' with | join _ _ _ _ _ h => exact h
        have wb1 : Wt N b1 := by cases hb' with | join _ _ _ _ h _ => exact h
        have wb2 : Wt N b2 := by cases hb' with | join _ _ _ _ _ h => exact h
        obtain ⟨B1, r1, h1⟩ := ihs B a1 b1 u1 hf hB wa1 wb1 f1 (by omega)
        rcases r1 with _ | _
        · exact ⟨B1, false, uni_join_no hk h1⟩
        · rcases h1.fewer with e1 | e1
          · subst e1
            obtain ⟨B2, r2, h2⟩ := ihs B1 a2 b2 u2 hf hB wa2 wb2 f2 (by omega)
            exact ⟨B2, r2, uni_join hk h1 h2⟩
          · obtain ⟨B2, r2, h2⟩ := ihf (fr N B1) (by omega) B1 a2 b2 (Nat.le_refl _) h1.ok wa2 wb2
            exact ⟨B2, r2, uni_join hk h1 h2⟩
      · exact ⟨B, false, uni_kind hB ha' hb' (show k ≠ 4 by omega) (show k' ≠ 4 by omega) (show k ≠ k' from e)⟩
/-- Unification comes to an end. -/
theorem uni_exists (N : Nat) : ∀ (f s : Nat) (B : Bn) (a b u : Ty), fr N B ≤ f → BOK N B → Wt N a → Wt N b → Ful B a u → nodes u ≤ s → ∃ B' r, UniOk N B B' a b r := by
  intro f
  induction f with
  | zero =>
    intro s
    induction s with
    | zero => intro B a b u _ _ _ _ _ h; have := nodes_pos u; omega
    | succ s ihs =>
      intro B a b u hf hB ha hb hu hs
      exact uni_step N 0 s (fun g hg => absurd hg (Nat.not_lt_zero _)) ihs B a b u hf hB ha hb hu hs
  | succ f ihf =>
    intro s
    induction s with
    | zero => intro B a b u _ _ _ _ _ h; have := nodes_pos u; omega
    | succ s ihs =>
      intro B a b u hf hB ha hb hu hs
      refine uni_step N (f + 1) s (fun g hg B a b hf2 hB ha hb => ?_) ihs B a b u hf hB ha hb hu hs
      obtain ⟨u2, hu2⟩ := ful_exists hB ha
      exact ihf (nodes u2) B a b u2 (by omega) hB ha hb hu2 (Nat.le_refl _)
theorem uni_full {N : Nat} {a b : Ty} (ha : Wt N a) (hb : Wt N b) : ∃ B' r, UniOk N (fun _ => none) B' a b r := by
  obtain ⟨u, hu⟩ := ful_exists (bok_none N) ha
  exact uni_exists N _ _ _ a b u (Nat.le_refl _) (bok_none N) ha hb hu (Nat.le_refl _)
theorem tvT_wt {t : Ty} (h : tvT t = true) : Wt 26 t := wt_of_shp 16 t (tvT_shp h)
/-- What an answer of UnifyTypes is. -/
theorem unT_some {a b x : Ty} (h : unT a b = some x) : tvT a = true ∧ tvT b = true ∧ tvT x = true ∧ ∃ u, Prin a b u ∧ tvT u = true ∧ x = canT u := by
  unfold unT at h
  split at h
  · rename_i hv
    obtain ⟨B', r, hU⟩ := uni_full (N := 26) (tvT_wt hv.1) (tvT_wt hv.2)
    rcases r with _ | _
    · rw [uni_none (fun t ht => prin_no hU ht)] at h; cases h
    · obtain ⟨u, hu⟩ := ful_exists hU.ok (tvT_wt hv.1)
      have hp := prin_model (tvT_wt hv.1) hU hu
      rw [uni_res hp (ful_wt hU.ok hu (tvT_wt hv.1)).1] at h
      split at h
      · rename_i ht
        injection h with h
        exact ⟨hv.1, hv.2, by rw [← h]; exact canT_valid ht, u, hp, ht, h.symm⟩
      · cases h
  · cases h
/-- Where a replacement of a type's variables yields a type, the parts are types. -/
theorem ev_parts {N : Int} {a : Ty} (ha : Wt N a) : ∀ (u : Ty) (M : Int) (σ : Int → Inf), Wt M u → evT σ a = evT ivar u → ∀ n, Occ n a → ∃ t, Wt M t ∧ σ n = evT ivar t := by
  induction ha with
  | num => intro u M σ hu h n ho; cases ho
  | var v _ _ => intro u M σ hu h n ho; cases ho; rw [evT_var] at h; exact ⟨u, hu, h⟩
  | join k a b hk _ _ iha ihb =>
    intro u M σ hu h n ho
    rw [evT_join _ _ _ _ hk] at h
    cases hu with
    | num => rw [evT_num] at h; exact (ijoin_num hk h).elim
    | var w h0 _ => rw [evT_var] at h; exact (ijoin_var hk h0 h).elim
    | join k' a' b' hk' ha' hb' =>
      rw [evT_join _ _ _ _ hk'] at h
      obtain ⟨_, e1, e2⟩ := ijoin_inj h
      cases ho with
      | left _ _ _ ho => exact iha a' M σ ha' e1 n ho
      | right _ _ _ ho => exact ihb b' M σ hb' e2 n ho
theorem ev_then {N : Int} {a : Ty} (ha : Wt N a) : ∀ (u : Ty) (M : Int) (σ σ' τ : Int → Inf), Wt M u → evT σ a = evT ivar u → (∀ n, Occ n a → ∃ t, Wt M t ∧ σ n = evT ivar t ∧ σ' n = evT τ t) → evT σ' a = evT τ u := by
  induction ha with
  | num =>
    intro u M σ σ' τ hu h _
    cases hu with
    | num => rw [evT_num, evT_num]
    | var n h0 _ => rw [evT_num, evT_var] at h; exact (inum_var h0 h).elim
    | join k a b hk _ _ => rw [evT_num, evT_join _ _ _ _ hk] at h; exact (ijoin_num hk h.symm).elim
  | var v _ _ =>
    intro u M σ σ' τ hu h hσ
    rw [evT_var] at h ⊢
    obtain ⟨t, ht, e1, e2⟩ := hσ v .var
    rw [e2, ev_inj ht u M hu (by rw [← e1, h])]
  | join k a b hk _ _ iha ihb =>
    intro u M σ σ' τ hu h hσ
    rw [evT_join _ _ _ _ hk] at h
    cases hu with
    | num => rw [evT_num] at h; exact (ijoin_num hk h).elim
    | var w h0 _ => rw [evT_var] at h; exact (ijoin_var hk h0 h).elim
    | join k' a' b' hk' ha' hb' =>
      rw [evT_join _ _ _ _ hk'] at h
      obtain ⟨rfl, e1, e2⟩ := ijoin_inj h
      rw [evT_join _ _ _ _ hk, evT_join _ _ _ _ hk, iha a' M σ σ' τ ha' e1 (fun n ho => hσ n (.left _ _ _ ho)), ihb b' M σ σ' τ hb' e2 (fun n ho => hσ n (.right _ _ _ ho))]
open Classical in
/-- An instance of a type, its variables replaced once more. -/
theorem ev_more {N M : Int} {a u : Ty} (ha : Wt N a) (hu : Wt M u) {σ : Int → Inf} (h : evT σ a = evT ivar u) (τ : Int → Inf) : ∃ σ', (∀ b L, Wt L b → evT σ b = evT σ a → (∀ n, Occ n b → ∃ t, Wt M t ∧ σ n = evT ivar t) → evT σ' b = evT τ u) ∧ evT σ' a = evT τ u := by
  have hex : ∀ n, ∃ X : Inf, ∀ t, Wt M t → σ n = evT ivar t → X = evT τ t := fun n => by
    by_cases h : ∃ t, Wt M t ∧ σ n = evT ivar t
    · obtain ⟨t, h1, h2⟩ := h
      exact ⟨evT τ t, fun t' h1' h2' => by rw [ev_inj h1 t' M h1' (by rw [← h2, h2'])]⟩
    · exact ⟨fun _ => 0, fun t h1 h2 => absurd ⟨t, h1, h2⟩ h⟩
  obtain ⟨σ', hσ⟩ := Classical.axiomOfChoice hex
  refine ⟨σ', fun b L hb e hp => ?_, ?_⟩
  · refine ev_then hb u M σ σ' τ hu (e.trans h) (fun n ho => ?_)
    obtain ⟨t, h1, h2⟩ := hp n ho
    exact ⟨t, h1, h2, hσ n t h1 h2⟩
  · refine ev_then ha u M σ σ' τ hu h (fun n ho => ?_)
    obtain ⟨t, h1, h2⟩ := ev_parts ha u M σ hu h n ho
    exact ⟨t, h1, h2, hσ n t h1 h2⟩
theorem ev_rn {a u x : Ty} {N M : Int} (ha : Wt N a) (hu : Wt M u) {r s : Int → Int} (hr : Rn r s u x) {σ : Int → Inf} (h : evT σ a = evT ivar u) : ∃ σ', evT σ' a = evT ivar x := by
  obtain ⟨σ', _, e⟩ := ev_more ha hu h (fun v => ivar (r v))
  exact ⟨σ', e.trans hr.fwd⟩
namespace Mx
/-- The replacements found so far are those of σ. -/
def AgrI (σ : Int → Inf) (M : Asn) : Prop := ∀ n b, alook n M = some b → Wt 26 b ∧ evT ivar b = σ n
theorem mtf_ev (σ : Int → Inf) : ∀ (d : Nat) (g s : Ty) (M : Asn), shp d g = true → Wt 26 s → evT σ g = evT ivar s → AgrI σ M → ∃ M', mtf d g s M = some M' ∧ AgrI σ M' := by
  intro d
  induction d with
  | zero => intro g s M h; cases h
  | succ d ih =>
    intro g s M h hs he hM
    rcases shp_forms h with rfl | ⟨n, n0, n1, rfl⟩ | ⟨k, a, b, hk, rfl, ha, hb⟩
    · rw [evT_num] at he
      cases hs with
      | num => rw [mtf_iter (by decide) rfl]; exact ⟨M, rfl, hM⟩
      | var n h0 _ => rw [evT_var] at he; exact (inum_var h0 he).elim
      | join k a b hk _ _ => rw [evT_join _ _ _ _ hk] at he; exact (ijoin_num hk he.symm).elim
    · rw [evT_var] at he
      rcases hl : alook n M with _ | x
      · refine ⟨_, mtf_new (g := .node 4 n []) rfl hl, fun m y hy => ?_⟩
        rw [show (Ty.node 4 n []).n = n from rfl, alook_snoc m n _ M hl] at hy
        by_cases e : m = n
        · rw [if_pos e] at hy
          injection hy with hy
          subst hy; subst e
          exact ⟨hs, he.symm⟩
        · rw [if_neg e] at hy; exact hM m y hy
      · refine ⟨M, ?_, hM⟩
        obtain ⟨h1, h2⟩ := hM n x hl
        rw [mtf_old (g := .node 4 n []) rfl hl, if_pos (sameB_yes (ev_inj h1 s 26 hs (h2.trans he)))]
    · have h4 : k ≠ 4 := by omega
      rw [evT_join _ _ _ _ hk] at he
      cases hs with
      | num => rw [evT_num] at he; exact (ijoin_num hk he).elim
      | var w h0 _ => rw [evT_var] at he; exact (ijoin_var hk h0 he).elim
      | join k' a' b' hk' ha' hb' =>
        rw [evT_join _ _ _ _ hk'] at he
        obtain ⟨rfl, e1, e2⟩ := ijoin_inj he
        rw [mtf_iter (g := .node k 0 [a, b]) (s := .node k 0 [a', b']) h4 rfl]
        obtain ⟨M1, f1, g1⟩ := ih a a' M ha ha' e1 hM
        obtain ⟨M2, f2, g2⟩ := ih b b' M1 hb hb' e2 g1
        exact ⟨M2, iter_next (iter_next rfl f1) f2, g2⟩
theorem inst_of_ev {a x : Ty} (ha : tvT a = true) (hx : tvT x = true) {σ : Int → Inf} (h : evT σ a = evT ivar x) : instB x a = true := by
  obtain ⟨M', e, _⟩ := mtf_ev σ 16 a x [] (tvT_shp ha) (tvT_wt hx) h (fun n b h => by cases h)
  unfold instB
  rw [ha, hx, e]
  rfl
theorem mtf_grow : ∀ (d : Nat) (g s : Ty) (M M' : Asn), shp d g = true → shp d s = true → mtf d g s M = some M' → (∀ n b, alook n M = some b → alook n M' = some b) ∧ ∀ σ : Int → Inf, (∀ n b, alook n M' = some b → σ n = evT ivar b) → evT σ g = evT ivar s := by
  intro d
  induction d with
  | zero => intro g s M M' h; cases h
  | succ d ih =>
    intro g s M M' h hs hm
    rcases shp_forms h with rfl | ⟨n, n0, n1, rfl⟩ | ⟨k, a, b, hk, rfl, ha, hb⟩
    · by_cases e : s.k = 1
      · rw [mtf_iter (g := .node 1 0 []) (by decide) e] at hm
        have hm : some M = some M' := hm
        injection hm with hm
        subst hm
        refine ⟨fun n b h => h, fun σ _ => ?_⟩
        rcases shp_forms hs with rfl | ⟨m, _, _, rfl⟩ | ⟨k, a, b, hk, rfl, _, _⟩
        · rw [evT_num, evT_num]
        · cases e
        · have e' : k = 1 := e; omega
      · rw [mtf_kind (g := .node 1 0 []) (by decide) e] at hm; cases hm
    · rcases hl : alook n M with _ | x
      · rw [mtf_new (g := .node 4 n []) rfl hl] at hm
        injection hm with hm
        subst hm
        have hl' : alook (Ty.node 4 n []).n M = none := hl
        refine ⟨fun m b hb => ?_, fun σ hσ => ?_⟩
        · rw [alook_snoc m _ _ M hl', if_neg (fun e => by rw [e, hl'] at hb; cases hb)]; exact hb
        · rw [evT_var]; exact hσ n s (by rw [alook_snoc n _ _ M hl']; exact if_pos rfl)
      · rw [mtf_old (g := .node 4 n []) rfl hl] at hm
        split at hm
        · rename_i he
          injection hm with hm
          subst hm
          refine ⟨fun n b h => h, fun σ hσ => ?_⟩
          rw [evT_var, hσ n x hl]
          by_cases e : x = s
          · rw [e]
          · rw [sameB_no e] at he; cases he
        · cases hm
    · have h4 : k ≠ 4 := by omega
      by_cases e : s.k = k
      · rw [mtf_iter (g := .node k 0 [a, b]) h4 e] at hm
        rcases shp_forms hs with rfl | ⟨m, _, _, rfl⟩ | ⟨k', a', b', hk', rfl, ha', hb'⟩
        · have e' : (1 : Int) = k := e; omega
        · have e' : (4 : Int) = k := e; omega
        · have e' : k' = k := e
          subst e'
          rcases h1 : mtf d a a' M with _ | M1
          · have := iter_stop (f := fun i N => mtf d ((Ty.node k' 0 [a, b]).ks.getD i Ty.dummy) ((Ty.node k' 0 [a', b']).ks.getD i Ty.dummy) N) (M := M) (N := M) (j := 0) (n := (Ty.node k' 0 [a, b]).ks.length) rfl h1 (show 0 < 2 by decide)
            rw [this] at hm; cases hm
          · have s1 := iter_next (f := fun i N => mtf d ((Ty.node k' 0 [a, b]).ks.getD i Ty.dummy) ((Ty.node k' 0 [a', b']).ks.getD i Ty.dummy) N) (M := M) (N := M) (j := 0) rfl h1
            rcases h2 : mtf d b b' M1 with _ | M2
            · have := iter_stop (f := fun i N => mtf d ((Ty.node k' 0 [a, b]).ks.getD i Ty.dummy) ((Ty.node k' 0 [a', b']).ks.getD i Ty.dummy) N) (j := 1) (n := (Ty.node k' 0 [a, b]).ks.length) s1 h2 (show 1 < 2 by decide)
              rw [this] at hm; cases hm
            · have s2 := iter_next (f := fun i N => mtf d ((Ty.node k' 0 [a, b]).ks.getD i Ty.dummy) ((Ty.node k' 0 [a', b']).ks.getD i Ty.dummy) N) (j := 1) s1 h2
              have hm : some M2 = some M' := s2.symm.trans hm
              injection hm with hm
              subst hm
              obtain ⟨g1, v1⟩ := ih a a' M M1 ha ha' h1
              obtain ⟨g2, v2⟩ := ih b b' M1 M2 hb hb' h2
              refine ⟨fun n x hx => g2 n x (g1 n x hx), fun σ hσ => ?_⟩
              rw [evT_join _ _ _ _ hk, evT_join _ _ _ _ hk, v1 σ (fun n x hx => hσ n x (g2 n x hx)), v2 σ hσ]
      · rw [mtf_kind (g := .node k 0 [a, b]) h4 e] at hm; cases hm
theorem ev_of_inst {x a : Ty} (h : instB x a = true) : tvT x = true ∧ tvT a = true ∧ ∃ σ, evT σ a = evT ivar x := by
  unfold instB at h
  rw [Bool.and_eq_true, Bool.and_eq_true] at h
  obtain ⟨h1, h2, h3⟩ := h
  refine ⟨h1, h2, ?_⟩
  rcases e : mtf 16 a x [] with _ | M
  · rw [e] at h3; cases h3
  · obtain ⟨_, hv⟩ := mtf_grow 16 a x [] M (tvT_shp h2) (tvT_shp h1) e
    refine ⟨fun n => match alook n M with | some b => evT ivar b | none => ivar n, hv _ (fun n b hb => ?_)⟩
    show (match alook n M with | some b => evT ivar b | none => ivar n) = evT ivar b
    rw [hb]
end Mx
theorem unT_inst {a b x : Ty} (h : unT a b = some x) : Mx.instB x a = true ∧ Mx.instB x b = true := by
  obtain ⟨ha, hb, hx, u, hp, hu, rfl⟩ := unT_some h
  obtain ⟨σ, s1, s2⟩ := hp.one
  obtain ⟨r, s, hr⟩ := rn_can (tvT_shp hu)
  obtain ⟨σ1, e1⟩ := ev_rn (tvT_wt ha) (tvT_wt hu) hr s2
  obtain ⟨σ2, e2⟩ := ev_rn (tvT_wt hb) (tvT_wt hu) hr (s1.symm.trans s2)
  exact ⟨Mx.inst_of_ev ha hx e1, Mx.inst_of_ev hb hx e2⟩
theorem unT_swap (a b : Ty) : unT b a = unT a b := by
  unfold unT
  by_cases h : tvT a = true ∧ tvT b = true
  · rw [if_pos h, if_pos ⟨h.2, h.1⟩, uniT_swap]
  · rw [if_neg h, if_neg (fun e => h ⟨e.2, e.1⟩)]
theorem ev_sb (τ : Int → Inf) (ls : List Ty) : ∀ (d : Nat) (t : Ty), shp d t = true → evT τ (sbT ls d t) = evT (fun n => evT τ (Mx.rv ls n)) t := by
  intro d
  induction d with
  | zero => intro t h; cases h
  | succ d ih =>
    intro t h
    rcases shp_forms h with rfl | ⟨n, n0, n1, rfl⟩ | ⟨k, a, b, hk, rfl, ha, hb⟩
    · rw [Mx.sb_num, evT_num, evT_num]
    · rw [Mx.sb_var, evT_var]
    · rw [sbT_join (by omega), evT_join _ _ _ _ hk, evT_join _ _ _ _ hk, ih a ha, ih b hb]
/-- A type of which a valid type is an instance is not larger. -/
theorem small_of_ev : ∀ (d : Nat) (u X : Ty) (θ : Int → Inf), Wt 26 u → shp d X = true → evT θ u = evT ivar X → shp d u = true ∧ nd d u ≤ nd d X := by
  intro d
  induction d with
  | zero => intro u X θ _ h; cases h
  | succ d ih =>
    intro u X θ hu hX he
    cases hu with
    | num => exact ⟨shp_num d, by rw [nd_leaf]; unfold nd; omega⟩
    | var n h0 h1 => exact ⟨shp_var d n ⟨h0, by omega⟩, by rw [nd_leaf]; unfold nd; omega⟩
    | join k a b hk ha hb =>
      rw [evT_join _ _ _ _ hk] at he
      rcases shp_forms hX with rfl | ⟨m, m0, _, rfl⟩ | ⟨k', a', b', hk', rfl, ha', hb'⟩
      · rw [evT_num] at he; exact (ijoin_num hk he).elim
      · rw [evT_var] at he; exact (ijoin_var hk m0 he).elim
      · rw [evT_join _ _ _ _ hk'] at he
        obtain ⟨rfl, e1, e2⟩ := ijoin_inj he
        obtain ⟨p1, p2⟩ := ih a a' θ ha ha' e1
        obtain ⟨q1, q2⟩ := ih b b' θ hb hb' e2
        refine ⟨shp_two d k a b (by omega) p1 q1, ?_⟩
        rw [nd_two, nd_two]; omega
/-- What makes two types equal makes an instance of the answer. -/
theorem unT_general {a b X : Ty} (ha : tvT a = true) (hb : tvT b = true) (hX : tvT X = true) {σ : Int → Inf} (h1 : evT σ a = evT ivar X) (h2 : evT σ b = evT ivar X) : ∃ x, unT a b = some x ∧ Mx.instB X x = true := by
  obtain ⟨B', r, hU⟩ := uni_full (N := 26) (tvT_wt ha) (tvT_wt hb)
  rcases r with _ | _
  · exact (hU.no rfl σ (fun n t e => by cases e) (h1.trans h2.symm) (by rw [h1]; exact fin_ivar (tvT_wt hX))).elim
  · obtain ⟨u, hu⟩ := ful_exists hU.ok (tvT_wt ha)
    have hp := prin_model (tvT_wt ha) hU hu
    have hw := (ful_wt hU.ok hu (tvT_wt ha)).1
    obtain ⟨θ, hθ⟩ := hp.all σ (h1.trans h2.symm)
    obtain ⟨p1, p2⟩ := small_of_ev 16 u X θ hw (tvT_shp hX) (hθ.symm.trans h1)
    have hv : tvT u = true := by
      unfold tvT at hX ⊢
      rw [Bool.and_eq_true] at hX
      have h3 := of_decide_eq_true hX.2
      rw [p1, Bool.true_and]
      exact decide_eq_true (by omega)
    refine ⟨canT u, by rw [unT_ab ha hb, uni_res hp hw, if_pos hv], ?_⟩
    obtain ⟨r, s, hr⟩ := rn_can p1
    exact Mx.inst_of_ev (canT_valid hv) hX (σ := fun w => θ (s w)) ((hr.back θ).trans (hθ.symm.trans h1))
theorem unT_subst {a b X : Ty} {ls : List Ty} (h1 : svT a ls = some X) (h2 : svT b ls = some X) : ∃ x, unT a b = some x ∧ Mx.instB X x = true := by
  obtain ⟨ha, hX, e1⟩ := Mx.sv_parts h1
  obtain ⟨hb, _, e2⟩ := Mx.sv_parts h2
  refine unT_general ha hb hX (σ := fun n => evT ivar (Mx.rv ls n)) ?_ ?_
  · rw [e1, ev_sb ivar ls 16 a (tvT_shp ha)]
  · rw [e2, ev_sb ivar ls 16 b (tvT_shp hb)]
theorem prin_self {a : Ty} (h : Wt 26 a) : Prin a a a := ⟨⟨26, h⟩, ⟨ivar, rfl, rfl⟩, fun σ _ => ⟨σ, rfl⟩⟩
theorem unT_self (a : Ty) : unT a a = cnT a := by
  unfold cnT
  rcases h : tvT a with _ | _
  · rw [unT_a h]; rfl
  · rw [unT_ab h h, uni_res (prin_self (tvT_wt h)) (tvT_wt h), h]
theorem occ_of : ∀ (d : Nat) (t : Ty) (v : Int), shp d t = true → Occ v t → occ d t v := by
  intro d
  induction d with
  | zero => intro t v h; cases h
  | succ d ih =>
    intro t v h ho
    rcases shp_forms h with rfl | ⟨n, n0, n1, rfl⟩ | ⟨k, a, b, hk, rfl, ha, hb⟩
    · cases ho
    · cases ho; exact .inl ⟨rfl, rfl⟩
    · cases ho with
      | left _ _ _ ho => exact .inr ⟨0, by simp [Ty.ks], ih a v ha ho⟩
      | right _ _ _ ho => exact .inr ⟨1, by simp [Ty.ks], ih b v hb ho⟩
theorem closed_occ {t : Ty} (h : tvT t = true) (hv : varsT t = []) : ∀ v, ¬ Occ v t := fun v ho => by
  rw [varsT_yes h] at hv
  have := (vars_occ 16 t [] v (tvT_shp h)).2 (.inr (occ_of 16 t v (tvT_shp h) ho))
  rw [hv] at this
  cases this
theorem canT_closed {t : Ty} (h : tvT t = true) (hv : varsT t = []) : canT t = t := by
  obtain ⟨r, s, hr⟩ := rn_can (tvT_shp h)
  exact hr.closed (closed_occ h hv)
theorem ev_closed {t : Ty} (h : tvT t = true) (hv : varsT t = []) (σ θ : Int → Inf) : evT σ t = evT θ t := ev_agree (tvT_wt h) (fun v ho => absurd ho (closed_occ h hv v))
/-- A type is unified with an instance without variables to the instance. -/
theorem unT_closed {a b : Ty} (h : Mx.instB b a = true) (hv : varsT b = []) : unT a b = some b := by
  obtain ⟨hb, ha, σ, hσ⟩ := Mx.ev_of_inst h
  have hp : Prin a b b := ⟨⟨26, tvT_wt hb⟩, ⟨σ, by rw [hσ]; exact ev_closed hb hv _ _, hσ⟩, fun τ e => ⟨τ, e⟩⟩
  rw [unT_ab ha hb, uni_res hp (tvT_wt hb), if_pos hb, canT_closed hb hv]
/-- The answer is canonical. -/
theorem unT_canon {a b x : Ty} (h : unT a b = some x) : cnT x = some x := by
  obtain ⟨_, _, hx, u, _, hu, rfl⟩ := unT_some h
  unfold cnT
  rw [if_pos hx, canT_twice (tvT_shp hu)]
theorem unT_left {a b x : Ty} (h : unT a b = some x) (hv : varsT a = []) : x = a := by
  obtain ⟨ha, hb, hx, u, hp, hu, rfl⟩ := unT_some h
  obtain ⟨σ, _, s2⟩ := hp.one
  have e : a = u := ev_inj (tvT_wt ha) u 26 (tvT_wt hu) ((ev_closed ha hv _ _).trans s2)
  rw [← e, canT_closed ha hv]
theorem unT_right {a b x : Ty} (h : unT a b = some x) (hv : varsT b = []) : x = b := unT_left (by rw [unT_swap, h]) hv
end Go.Proofs.Ytjhccdioainibaa
