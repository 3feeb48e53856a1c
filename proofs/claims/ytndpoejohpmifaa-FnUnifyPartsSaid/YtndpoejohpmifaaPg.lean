/-
  A canonical type is the type with its variables replaced by their numbers in order. Plain facts.
-/
import Derived.Test.YtndpoejohpmifaaAl
import Derived.Test.YtndpoejohpmifaaZln
import Derived.Test.YtndpoejohpmifaaPb
namespace Go.Proofs.Ytndpoejohpmifaa
open Go.RowKit

/-- What lies at place q once the first j numbers have been entered. -/
def elT (vs : List Int) (q : Int) : Nat → Ty
  | 0 => .node 1 0 []
  | j + 1 => if vs.getD j 0 = q then .node 4 (j : Int) [] else elT vs q j
theorem elT_form (vs : List Int) (q : Int) : ∀ j, elT vs q j = .node 1 0 [] ∨ ∃ i : Nat, i < j ∧ elT vs q j = .node 4 (i : Int) []
  | 0 => .inl rfl
  | j + 1 => by
    rw [elT]
    by_cases h : vs.getD j 0 = q
    · rw [if_pos h]; exact .inr ⟨j, Nat.lt_succ_self _, rfl⟩
    · rw [if_neg h]
      rcases elT_form vs q j with h | ⟨i, hi, h⟩
      · exact .inl h
      · exact .inr ⟨i, by omega, h⟩
theorem elT_hit (vs : List Int) (q : Int) : ∀ j, (∃ i, i < j ∧ vs.getD i 0 = q) → elT vs q j = .node 4 (lx vs q j) []
  | 0, ⟨i, hi, _⟩ => absurd hi (Nat.not_lt_zero _)
  | j + 1, ⟨i, hi, h⟩ => by
    rw [elT, lx]
    by_cases e : vs.getD j 0 = q
    · rw [if_pos e, if_pos e]
    · rw [if_neg e, if_neg e]
      exact elT_hit vs q j ⟨i, by
        rcases Nat.lt_or_ge i j with h1 | h1
        · exact h1
        · exact absurd (by rw [show j = i by omega]; exact h) e, h⟩
def lsT (vs : List Int) (j : Nat) : List Ty := (List.range 26).map fun (q : Nat) => elT vs (q : Int) j
theorem lsT_len (vs : List Int) (j : Nat) : (lsT vs j).length = 26 := by simp [lsT]
theorem lsT_get (vs : List Int) (j q : Nat) (h : q < 26) : (lsT vs j).getD q Ty.dummy = elT vs (q : Int) j := by simp [lsT, List.getD, h]
theorem mem_getD {vs : List Int} {n : Int} (h : n ∈ vs) : ∃ i, i < vs.length ∧ vs.getD i 0 = n := by
  obtain ⟨i, hi, e⟩ := List.mem_iff_getElem.1 h
  exact ⟨i, hi, by simp [List.getD, hi, e]⟩
theorem mem_addV {acc : List Int} {n m : Int} : m ∈ addV acc n ↔ m ∈ acc ∨ m = n := by
  unfold addV
  split
  · rename_i h
    exact ⟨.inl, fun h' => h'.elim id (fun e => e ▸ h)⟩
  · simp
/-- The variables of a type. -/
def occ : Nat → Ty → Int → Prop
  | 0, _, _ => False
  | d + 1, t, n => (t.k = 4 ∧ t.n = n) ∨ ∃ i, i < t.ks.length ∧ occ d (t.ks.getD i Ty.dummy) n
theorem vars_occ : ∀ (d : Nat) (t : Ty) (acc : List Int) (m : Int), shp d t = true → (m ∈ vars d t acc ↔ m ∈ acc ∨ occ d t m) := by
  intro d
  induction d with
  | zero => intro t acc m h; cases h
  | succ d ih =>
    intro t acc m h
    rcases shp_forms h with rfl | ⟨n, n0, n1, rfl⟩ | ⟨k, a, b, hk, rfl, ha, hb⟩
    · simp [vars, occ, Ty.k, Ty.ks]
    · rw [vars_var rfl rfl, mem_addV]
      simp [occ, Ty.k, Ty.n, Ty.ks, eq_comm]
    · rw [vars_kids (by show k ≠ 4; omega)]
      have e : varsK d (.node k 0 [a, b]) acc (Ty.node k 0 [a, b]).ks.length = vars d b (vars d a acc) := rfl
      have h4 : ¬ k = 4 := by omega
      have e2 : occ (d + 1) (.node k 0 [a, b]) m ↔ occ d a m ∨ occ d b m := by
        simp only [occ, Ty.k, Ty.ks, h4, false_and, false_or]
        constructor
        · rintro ⟨i, hi, ho⟩
          have hi : i < 2 := hi
          obtain rfl | rfl : i = 0 ∨ i = 1 := by omega
          · exact .inl ho
          · exact .inr ho
        · rintro (ho | ho)
          · exact ⟨0, by simp, ho⟩
          · exact ⟨1, by simp, ho⟩
      rw [e, ih b _ m hb, ih a _ m ha, e2, or_assoc]
theorem occ_range : ∀ (d : Nat) (t : Ty) (m : Int), shp d t = true → occ d t m → 0 ≤ m ∧ m ≤ 25 := by
  intro d
  induction d with
  | zero => intro t m h; cases h
  | succ d ih =>
    intro t m h ho
    rcases ho with ⟨hk, hn⟩ | ⟨i, hi, ho⟩
    · rcases shp_forms h with rfl | ⟨n, n0, n1, rfl⟩ | ⟨k, a, b, hk', rfl, ha, hb⟩
      · cases hk
      · have : n = m := hn
        omega
      · have : k = 4 := hk
        omega
    · exact ih _ m ((shp_iff.1 h).2 i hi) ho
theorem sb_ren (vs : List Int) : ∀ (d : Nat) (t : Ty), shp d t = true → (∀ n, occ d t n → n ∈ vs) → sbT (lsT vs vs.length) d t = ren vs d t := by
  intro d
  induction d with
  | zero => intro t h; cases h
  | succ d ih =>
    intro t h ho
    rcases shp_forms h with rfl | ⟨n, n0, n1, rfl⟩ | ⟨k, a, b, hk, rfl, ha, hb⟩
    · simp [sbT, rp, ren]
    · have hm := ho n (.inl ⟨rfl, rfl⟩)
      have e : sF (lsT vs vs.length) [] n = ((lsT vs vs.length).getD n.toNat Ty.dummy, []) := by
        unfold sF; rw [if_pos (by rw [lsT_len]; omega)]
      have e2 : sbT (lsT vs vs.length) (d + 1) (.node 4 n []) = (lsT vs vs.length).getD n.toNat Ty.dummy := by
        show (rp (sF (lsT vs vs.length)) (d + 1) (.node 4 n []) []).1 = _
        simp [rp, e]
      rw [e2, lsT_get _ _ _ (by omega), show ((n.toNat : Nat) : Int) = n by omega, elT_hit _ _ _ (mem_getD hm)]
      simp [ren]
    · have h4 : ¬ k = 4 := by omega
      have oa : ∀ n, occ d a n → n ∈ vs := fun n h => ho n (.inr ⟨0, by simp [Ty.ks], h⟩)
      have ob : ∀ n, occ d b n → n ∈ vs := fun n h => ho n (.inr ⟨1, by simp [Ty.ks], h⟩)
      have ia := ih a ha oa
      have ib := ih b hb ob
      unfold sbT at ia ib ⊢
      rw [rp, if_neg h4, ren, if_neg h4]
      simp only
      rw [(rp_st (lsT vs vs.length) d b _).2, ia, ib]
theorem elT_valid (vs : List Int) (q : Int) (j : Nat) (hj : j ≤ 26) : tvT (elT vs q j) = true := by
  have hs : ∀ t : Ty, t.ks = [] → shp 16 t = true → tvT t = true := fun t h h2 => by
    unfold tvT
    rw [h2, Bool.true_and]
    refine decide_eq_true ?_
    have : nd 16 t = 1 := by
      cases t with
      | node k n ks =>
        have h : ks = [] := h
        subst h
        simp [nd, Ty.ks]
    omega
  rcases elT_form vs q j with h | ⟨i, hi, h⟩
  · rw [h]; exact hs _ rfl (shp_num 15)
  · rw [h]; exact hs _ rfl (shp_var 15 _ ⟨by omega, by omega⟩)

/-- The cells of a row of types without operands. -/
def rw3 (ls : List Ty) : List Value := ls.flatMap fun t => [.int .i64 t.k, .int .i64 t.n, .slice none 0 0]
theorem rw3_snoc (ls : List Ty) (t : Ty) : rw3 (ls ++ [t]) = rw3 ls ++ [.int .i64 t.k, .int .i64 t.n, .slice none 0 0] := by simp [rw3]
theorem rw3_len : ∀ ls : List Ty, (rw3 ls).length = ls.length * 3
  | [] => rfl
  | t :: ls => by
    have := rw3_len ls
    have e : rw3 (t :: ls) = [.int .i64 t.k, .int .i64 t.n, .slice none 0 0] ++ rw3 ls := rfl
    rw [e, List.length_append, this]
    show 3 + ls.length * 3 = (ls.length + 1) * 3
    omega
theorem rw3_set : ∀ (ls : List Ty) (q : Nat) (t : Ty), q < ls.length → rw3 (ls.set q t) = (((rw3 ls).set (q * 3) (.int .i64 t.k)).set (q * 3 + 1) (.int .i64 t.n)).set (q * 3 + 2) (.slice none 0 0)
  | [], q, t, h => absurd h (Nat.not_lt_zero _)
  | x :: ls, 0, t, h => by
    have e : ∀ y, rw3 (y :: ls) = .int .i64 y.k :: .int .i64 y.n :: .slice none 0 0 :: rw3 ls := fun y => rfl
    rw [List.set_cons_zero, e, e]
    rfl
  | x :: ls, q + 1, t, h => by
    have e : ∀ (y : Ty) (l : List Ty), rw3 (y :: l) = .int .i64 y.k :: .int .i64 y.n :: .slice none 0 0 :: rw3 l := fun y l => rfl
    have ih := rw3_set ls q t (by simpa using h)
    rw [List.set_cons_succ, e, e, ih]
    have e1 : (q + 1) * 3 = q * 3 + 1 + 1 + 1 := by omega
    rw [e1]
    simp only [List.set_cons_succ, Nat.add_right_comm _ 1 2]
theorem rw3_get : ∀ (ls : List Ty) (q : Nat), q < ls.length → (rw3 ls)[q * 3]? = some (.int .i64 (ls.getD q Ty.dummy).k) ∧ (rw3 ls)[q * 3 + 1]? = some (.int .i64 (ls.getD q Ty.dummy).n) ∧ (rw3 ls)[q * 3 + 2]? = some (.slice none 0 0)
  | [], q, h => absurd h (Nat.not_lt_zero _)
  | x :: ls, 0, h => ⟨rfl, rfl, rfl⟩
  | x :: ls, q + 1, h => by
    have ih := rw3_get ls q (by simpa using h)
    have e : rw3 (x :: ls) = .int .i64 x.k :: .int .i64 x.n :: .slice none 0 0 :: rw3 ls := rfl
    have e1 : (q + 1) * 3 = q * 3 + 1 + 1 + 1 := by omega
    rw [e, e1]
    exact ih
/-- A row of types without operands is a list in memory. -/
theorem rw3_at {w : World} {B g cap : Nat} {ls : List Ty} (h : w.ownsRow B 25 3 (.slice (some ⟨g, 0, none⟩) ls.length cap) ls.length (rw3 ls)) (hk : ∀ i, i < ls.length → (ls.getD i Ty.dummy).ks = []) (hl : ls.length ≤ 9223372036854775807) : TyAt w (.node 0 0 ls) (.slice (some ⟨g, 0, none⟩) ls.length cap) := by
  have hg := own_low h (g := g) rfl
  have hc : ∀ i, i < ls.length → ∀ q, q < 3 → w.cell? ⟨g, i * 3 + q, none⟩ = (rw3 ls)[i * 3 + q]? := fun i hi q hq => h.cellAt _ (by omega)
  refine .row 0 0 ls g 0 cap (fun _ => .slice none 0 0) hg.2 hl (fun i hi => ?_) (fun i hi => ?_) (fun i hi => ?_) (fun i hi => ?_)
  · rw [Nat.zero_add]; exact (hc i hi 0 (by omega)).trans (rw3_get ls i hi).1
  · rw [Nat.zero_add]; exact (hc i hi 1 (by omega)).trans (rw3_get ls i hi).2.1
  · rw [Nat.zero_add]; exact (hc i hi 2 (by omega)).trans (rw3_get ls i hi).2.2
  · have := hk i hi
    generalize ls.getD i Ty.dummy = y at this
    cases y with
    | node k n ks =>
      have h : ks = [] := this
      subst h
      exact .bare _ _ _ _
theorem lsT_zero (vs : List Int) : lsT vs 0 = List.replicate 26 (.node 1 0 []) := rfl
theorem lsT_succ (vs : List Int) (j q : Nat) (hq : vs.getD j 0 = (q : Int)) : lsT vs (j + 1) = (lsT vs j).set q (.node 4 (j : Int) []) := by
  apply List.ext_getElem (by simp [lsT])
  intro i h1 h2
  simp only [lsT, List.getElem_map, List.getElem_range, List.getElem_set, elT, hq]
  by_cases e : q = i
  · subst e; simp
  · have e2 : ¬ (q : Int) = (i : Int) := by omega
    rw [if_neg e2, if_neg e]
theorem lsT_bare (vs : List Int) (j i : Nat) (hi : i < 26) : ((lsT vs j).getD i Ty.dummy).ks = [] := by
  rw [lsT_get _ _ _ hi]
  rcases elT_form vs i j with h | ⟨k, _, h⟩ <;> rw [h] <;> rfl
theorem lsT_valid (vs : List Int) (j : Nat) (hj : j ≤ 26) : allV (lsT vs j) := fun i hi => by
  rw [lsT_len] at hi
  rw [lsT_get _ _ _ hi]
  exact elT_valid vs i j hj
theorem addV_nd2 {acc : List Int} (n : Int) (h : acc.Nodup) : (addV acc n).Nodup := by
  unfold addV
  split
  · exact h
  · rename_i hn
    rw [List.nodup_append]
    refine ⟨h, by simp, fun a ha b hb => ?_⟩
    rw [List.mem_singleton.1 hb]
    exact fun e => hn (e ▸ ha)
theorem vars_nodup : ∀ (d : Nat) (t : Ty) (acc : List Int), shp d t = true → acc.Nodup → (vars d t acc).Nodup := by
  intro d
  induction d with
  | zero => intro t acc h; cases h
  | succ d ih =>
    intro t acc h ha
    rcases shp_forms h with rfl | ⟨n, n0, n1, rfl⟩ | ⟨k, a, b, hk, rfl, h1, h2⟩
    · simpa [vars, Ty.k, Ty.ks] using ha
    · rw [vars_var rfl rfl]; exact addV_nd2 _ ha
    · rw [vars_kids (by show k ≠ 4; omega)]
      exact ih b _ h2 (ih a _ h1 ha)
theorem nodup_len2 : ∀ (n : Nat) (l : List Int), l.Nodup → (∀ x ∈ l, 0 ≤ x ∧ x < (n : Int)) → l.length ≤ n := by
  intro n
  induction n with
  | zero =>
    intro l _ h
    cases l with
    | nil => exact Nat.le_refl _
    | cons x l => have := h x (List.mem_cons_self ..); omega
  | succ n ih =>
    intro l hn h
    by_cases hm : (n : Int) ∈ l
    · have h1 := ih (l.erase (n : Int)) (hn.erase _) (fun x hx => by
        have h2 := h x (List.mem_of_mem_erase hx)
        have h3 : x ≠ (n : Int) := fun e => by rw [e] at hx; exact hn.not_mem_erase hx
        omega)
      rw [List.length_erase_of_mem hm] at h1
      omega
    · have := ih l hn (fun x hx => by
        have h2 := h x hx
        have h3 : x ≠ (n : Int) := fun e => hm (e ▸ hx)
        omega)
      omega
theorem varsT_small {t : Ty} {vs : List Int} (hv : tvT t = true) (hvs : varsT t = vs) : vs.length ≤ 26 ∧ ∀ j, j < vs.length → ∃ q : Nat, q < 26 ∧ vs.getD j 0 = (q : Int) := by
  have hs := tvT_shp hv
  have e : vars 16 t [] = vs := by rw [← hvs]; unfold varsT; rw [if_pos hv]
  have hr : ∀ x ∈ vs, 0 ≤ x ∧ x < ((26 : Nat) : Int) := fun x hx => by
    rw [← e] at hx
    rcases (vars_occ 16 t [] x hs).1 hx with h | h
    · cases h
    · have := occ_range 16 t x hs h; omega
  refine ⟨nodup_len2 26 vs (by rw [← e]; exact vars_nodup 16 t [] hs List.nodup_nil) hr, fun j hj => ?_⟩
  have h1 : vs.getD j 0 ∈ vs := by simp [List.getD, hj]
  have := hr _ h1
  exact ⟨(vs.getD j 0).toNat, by omega, by omega⟩
theorem lx_small (vs : List Int) (n : Int) : ∀ j, j ≤ 26 → 0 ≤ lx vs n j ∧ lx vs n j ≤ 25
  | 0, _ => by simp [lx]
  | j + 1, h => by
    have := lx_small vs n j (by omega)
    rw [lx]; split <;> omega
theorem nd_leaf (d : Nat) (k n : Int) : nd (d + 1) (.node k n []) = 1 := by simp [nd, Ty.ks]
theorem nd_two (d : Nat) (k n : Int) (a b : Ty) : nd (d + 1) (.node k n [a, b]) = 1 + (nd d a + nd d b) := by simp [nd, Ty.ks, List.range_succ, List.getD]
theorem ren_ok (vs : List Int) (hl : vs.length ≤ 26) : ∀ (d : Nat) (t : Ty), shp d t = true → shp d (ren vs d t) = true ∧ nd d (ren vs d t) = nd d t := by
  intro d
  induction d with
  | zero => intro t h; cases h
  | succ d ih =>
    intro t h
    rcases shp_forms h with rfl | ⟨n, n0, n1, rfl⟩ | ⟨k, a, b, hk, rfl, ha, hb⟩
    · have e : ren vs (d + 1) (.node 1 0 []) = .node 1 0 [] := by simp [ren]
      rw [e]; exact ⟨h, rfl⟩
    · have e : ren vs (d + 1) (.node 4 n []) = .node 4 (lx vs n vs.length) [] := by simp [ren]
      rw [e, nd_leaf, nd_leaf]
      exact ⟨shp_var d _ (lx_small vs n _ hl), rfl⟩
    · have hk4 : k ≠ 4 := by omega
      have e : ren vs (d + 1) (.node k 0 [a, b]) = .node k 0 [ren vs d a, ren vs d b] := by simp [ren, hk4]
      rw [e, nd_two, nd_two, (ih a ha).2, (ih b hb).2]
      exact ⟨shp_two d k _ _ (by omega) (ih a ha).1 (ih b hb).1, rfl⟩
theorem canT_valid {t : Ty} (h : tvT t = true) : tvT (canT t) = true := by
  have hs := tvT_shp h
  obtain ⟨vs, hvs⟩ : ∃ vs, varsT t = vs := ⟨_, rfl⟩
  have e : vars 16 t [] = vs := by rw [← hvs]; unfold varsT; rw [if_pos h]
  have h2 := ren_ok vs (varsT_small h hvs).1 16 t hs
  unfold canT
  rw [e]
  unfold tvT at h ⊢
  rw [h2.1, h2.2]
  rw [hs] at h
  exact h
theorem cnT_valid {t : Ty} (h : (cnT t).isSome = true) : tvT (optT (cnT t)) = true := by
  unfold cnT at h ⊢
  split at h
  · rename_i hv
    rw [if_pos hv]
    exact canT_valid hv
  · cases h
/-- The canonical form by a replacement. -/
theorem canon_sub {t T : Ty} {vs : List Int} (hv : tvT t = true) (hc : canT t = T) (hvs : varsT t = vs) (hT : tvT T = true) (hl : vs.length ≤ 26) : svT t (lsT vs vs.length) = some T := by
  have hs := tvT_shp hv
  have e : vars 16 t [] = vs := by rw [← hvs]; unfold varsT; rw [if_pos hv]
  have h1 : sbT (lsT vs vs.length) 16 t = T := by
    rw [sb_ren vs 16 t hs (fun n h => by rw [← e]; exact (vars_occ 16 t [] n hs).2 (.inr h)), ← hc]
    unfold canT
    rw [e]
  rw [← h1] at hT ⊢
  exact svT_y hv (lsT_valid vs _ hl) hT

end Go.Proofs.Ytndpoejohpmifaa
