/-
A canonical type is the type with its variables replaced by their numbers in order. Plain facts.
matchType: it finds the replacements of the variables of a type that yield another one, in a map; types lie in plain blocks.
InstanceOf of the model and of the program: whether the variables of a type can be replaced so that it becomes another one; what was in memory stays.
-/
import Derived.Test.YtjhccdioainibaaW25
import Derived.Test.YtjhccdioainibaaW11
import Derived.Test.YtjhccdioainibaaW16
import Derived.Test.YtjhccdioainibaaW6
import Derived.Test.YtjhccdioainibaaW22
import Derived.Test.YtjhccdioainibaaW4
namespace Go.Proofs.Ytjhccdioainibaa
open Go.RowKit

/-- What lies at place q once the first j numbers have been entered. -/
def elT (vs : List Int) (q : Int) : Nat → Ty
  | 0 => .node 1 0 []
  | j + 1 => if vs.getD j 0 = q then .node 4 (j : Int) [] else elT vs q j
theorem elT_form (vs : List Int) (q : Int) : ∀ j, elT vs q j = .node 1 0 [] ∨ ∃ i : Nat, i < j ∧ elT vs q j = .node 4 (i : Int) []
  | 0 => .inl rfl
  | j + 1 => by
    rw [elT]
    by_cases h : vs.getD j 0 = q
    · rw [if_pos h]; exact .inr ⟨j, Nat.lt_succ_self _, rfl⟩
    · rw [if_neg h]
      rcases elT_form vs q j with h | ⟨i, hi, h⟩
      · exact .inl h
      · exact .inr ⟨i, by omega, h⟩
theorem elT_hit (vs : List Int) (q : Int) : ∀ j, (∃ i, i < j ∧ vs.getD i 0 = q) → elT vs q j = .node 4 (lx vs q j) []
  | 0, ⟨i, hi, _⟩ => absurd hi (Nat.not_lt_zero _)
  | j + 1, ⟨i, hi, h⟩ => by
    rw [elT, lx]
    by_cases e : vs.getD j 0 = q
    · rw [if_pos e, if_pos e]
    · rw [if_neg e, if_neg e]
      exact elT_hit vs q j ⟨i, by
        rcases Nat.lt_or_ge i j with h1 | h1
        · exact h1
        · exact absurd (by rw [show j = i by omega]; exact h) e, h⟩
def lsT (vs : List Int) (j : Nat) : List Ty := (List.range 26).map fun (q : Nat) => elT vs (q : Int) j
theorem lsT_len (vs : List Int) (j : Nat) : (lsT vs j).length = 26 := by simp [lsT]
theorem lsT_get (vs : List Int) (j q : Nat) (h : q < 26) : (lsT vs j).getD q Ty.dummy = elT vs (q : Int) j := by simp [lsT, List.getD, h]
theorem mem_getD {vs : List Int} {n : Int} (h : n ∈ vs) : ∃ i, i < vs.length ∧ vs.getD i 0 = n := by
  obtain ⟨i, hi, e⟩ := List.mem_iff_getElem.1 h
  exact ⟨i, hi, by simp [List.getD, hi, e]⟩
theorem mem_addV {acc : List Int} {n m : Int} : m ∈ addV acc n ↔ m ∈ acc ∨ m = n := by
  unfold addV
  split
  · rename_i h
    exact ⟨.inl, fun h' => h'.elim id (fun e => e ▸ h)⟩
  · simp
/-- The variables of a type. -/
def occ : Nat → Ty → Int → Prop
  | 0, _, _ => False
  | d + 1, t, n => (t.k = 4 ∧ t.n = n) ∨ ∃ i, i < t.ks.length ∧ occ d (t.ks.getD i Ty.dummy) n
theorem vars_occ : ∀ (d : Nat) (t : Ty) (acc : List Int) (m : Int), shp d t = true → (m ∈ vars d t acc ↔ m ∈ acc ∨ occ d t m) := by
  intro d
  induction d with
  | zero => intro t acc m h; cases h
  | succ d ih =>
    intro t acc m h
    rcases shp_forms h with rfl | ⟨n, n0, n1, rfl⟩ | ⟨k, a, b, hk, rfl, ha, hb⟩
    · simp [vars, occ, Ty.k, Ty.ks]
    · rw [vars_var rfl rfl, mem_addV]
      simp [occ, Ty.k, Ty.n, Ty.ks, eq_comm]
    · rw [vars_kids (by show k ≠ 4; omega)]
      have e : varsK d (.node k 0 [a, b]) acc (Ty.node k 0 [a, b]).ks.length = vars d b (vars d a acc) := rfl
      have h4 : ¬ k = 4 := by omega
      have e2 : occ (d + 1) (.node k 0 [a, b]) m ↔ occ d a m ∨ occ d b m := by
        simp only [occ, Ty.k, Ty.ks, h4, false_and, false_or]
        constructor
        · rintro ⟨i, hi, ho⟩
          have hi : i < 2 := hi
          obtain rfl | rfl : i = 0 ∨ i = 1 := by omega
          · exact .inl ho
          · exact .inr ho
        · rintro (ho | ho)
          · exact ⟨0, by simp, ho⟩
          · exact ⟨1, by simp, ho⟩
      rw [e, ih b _ m hb, ih a _ m ha, e2, or_assoc]
theorem occ_range : ∀ (d : Nat) (t : Ty) (m : Int), shp d t = true → occ d t m → 0 ≤ m ∧ m ≤ 25 := by
  intro d
  induction d with
  | zero => intro t m h; cases h
  | succ d ih =>
    intro t m h ho
    rcases ho with ⟨hk, hn⟩ | ⟨i, hi, ho⟩
    · rcases shp_forms h with rfl | ⟨n, n0, n1, rfl⟩ | ⟨k, a, b, hk', rfl, ha, hb⟩
      · cases hk
      · have : n = m := hn
        omega
      · have : k = 4 := hk
        omega
    · exact ih _ m ((shp_iff.1 h).2 i hi) ho
theorem sb_ren (vs : List Int) : ∀ (d : Nat) (t : Ty), shp d t = true → (∀ n, occ d t n → n ∈ vs) → sbT (lsT vs vs.length) d t = ren vs d t := by
  intro d
  induction d with
  | zero => intro t h; cases h
  | succ d ih =>
    intro t h ho
    rcases shp_forms h with rfl | ⟨n, n0, n1, rfl⟩ | ⟨k, a, b, hk, rfl, ha, hb⟩
    · simp [sbT, rp, ren]
    · have hm := ho n (.inl ⟨rfl, rfl⟩)
      have e : sF (lsT vs vs.length) [] n = ((lsT vs vs.length).getD n.toNat Ty.dummy, []) := by
        unfold sF; rw [if_pos (by rw [lsT_len]; omega)]
      have e2 : sbT (lsT vs vs.length) (d + 1) (.node 4 n []) = (lsT vs vs.length).getD n.toNat Ty.dummy := by
        show (rp (sF (lsT vs vs.length)) (d + 1) (.node 4 n []) []).1 = _
        simp [rp, e]
      rw [e2, lsT_get _ _ _ (by omega), show ((n.toNat : Nat) : Int) = n by omega, elT_hit _ _ _ (mem_getD hm)]
      simp [ren]
    · have h4 : ¬ k = 4 := by omega
      have oa : ∀ n, occ d a n → n ∈ vs := fun n h => ho n (.inr ⟨0, by simp [Ty.ks], h⟩)
      have ob : ∀ n, occ d b n → n ∈ vs := fun n h => ho n (.inr ⟨1, by simp [Ty.ks], h⟩)
      have ia := ih a ha oa
      have ib := ih b hb ob
      unfold sbT at ia ib ⊢
      rw [rp, if_neg h4, ren, if_neg h4]
      simp only
      rw [(rp_st (lsT vs vs.length) d b _).2, ia, ib]
theorem elT_valid (vs : List Int) (q : Int) (j : Nat) (hj : j ≤ 26) : tvT (elT vs q j) = true := by
  have hs : ∀ t : Ty, t.ks = [] → shp 16 t = true → tvT t = true := fun t h h2 => by
    unfold tvT
    rw [h2, Bool.true_and]
    refine decide_eq_true ?_
    have : nd 16 t = 1 := by
      cases t with
      | node k n ks =>
        have h : ks = [] := h
        subst h
        simp [nd, Ty.ks]
    omega
  rcases elT_form vs q j with h | ⟨i, hi, h⟩
  · rw [h]; exact hs _ rfl (shp_num 15)
  · rw [h]; exact hs _ rfl (shp_var 15 _ ⟨by omega, by omega⟩)

/-- The cells of a row of types without operands. -/
def rw3 (ls : List Ty) : List Value := ls.flatMap fun t => [.int .i64 t.k, .int .i64 t.n, .slice none 0 0]
theorem rw3_snoc (ls : List Ty) (t : Ty) : rw3 (ls ++ [t]) = rw3 ls ++ [.int .i64 t.k, .int .i64 t.n, .slice none 0 0] := by simp [rw3]
theorem rw3_len : ∀ ls : List Ty, (rw3 ls).length = ls.length * 3
  | [] => rfl
  | t :: ls => by
    have := rw3_len ls
    have e : rw3 (t :: ls) = [.int .i64 t.k, .int .i64 t.n, .slice none 0 0] ++ rw3 ls := rfl
    rw [e, List.length_append, this]
    show 3 + ls.length * 3 = (ls.length + 1) * 3
    omega
theorem rw3_set : ∀ (ls : List Ty) (q : Nat) (t : Ty), q < ls.length → rw3 (ls.set q t) = (((rw3 ls).set (q * 3) (.int .i64 t.k)).set (q * 3 + 1) (.int .i64 t.n)).set (q * 3 + 2) (.slice none 0 0)
  | [], q, t, h => absurd h (Nat.not_lt_zero _)
  | x :: ls, 0, t, h => by
    have e : ∀ y, rw3 (y :: ls) = .int .i64 y.k :: .int .i64 y.n :: .slice none 0 0 :: rw3 ls := fun y => rfl
    rw [List.set_cons_zero, e, e]
    rfl
  | x :: ls, q + 1, t, h => by
    have e : ∀ (y : Ty) (l : List Ty), rw3 (y :: l) = .int .i64 y.k :: .int .i64 y.n :: .slice none 0 0 :: rw3 l := fun y l => rfl
    have ih := rw3_set ls q t (by simpa using h)
    rw [List.set_cons_succ, e, e, ih]
    have e1 : (q + 1) * 3 = q * 3 + 1 + 1 + 1 := by omega
    rw [e1]
    simp only [List.set_cons_succ, Nat.add_right_comm _ 1 2]
theorem rw3_get : ∀ (ls : List Ty) (q : Nat), q < ls.length → (rw3 ls)[q * 3]? = some (.int .i64 (ls.getD q Ty.dummy).k) ∧ (rw3 ls)[q * 3 + 1]? = some (.int .i64 (ls.getD q Ty.dummy).n) ∧ (rw3 ls)[q * 3 + 2]? = some (.slice none 0 0)
  | [], q, h => absurd h (Nat.not_lt_zero _)
  | x :: ls, 0, h => ⟨rfl, rfl, rfl⟩
  | x :: ls, q + 1, h => by
    have ih := rw3_get ls q (by simpa using h)
    have e : rw3 (x :: ls) = .int .i64 x.k :: .int .i64 x.n :: .slice none 0 0 :: rw3 ls := rfl
    have e1 : (q + 1) * 3 = q * 3 + 1 + 1 + 1 := by omega
    rw [e, e1]
    exact ih
/-- A row of types without operands is a list in memory. -/
theorem rw3_at {w : World} {B g cap : Nat} {ls : List Ty} (h : w.ownsRow B 28 3 (.slice (some ⟨g, 0, none⟩) ls.length cap) ls.length (rw3 ls)) (hk : ∀ i, i < ls.length → (ls.getD i Ty.dummy).ks = []) (hl : ls.length ≤ 9223372036854775807) : TyAt w (.node 0 0 ls) (.slice (some ⟨g, 0, none⟩) ls.length cap) := by
  have hg := own_low h (g := g) rfl
  have hc : ∀ i, i < ls.length → ∀ q, q < 3 → w.cell? ⟨g, i * 3 + q, none⟩ = (rw3 ls)[i * 3 + q]? := fun i hi q hq => h.cellAt _ (by omega)
  refine .row 0 0 ls g 0 cap (fun _ => .slice none 0 0) hg.2 hl (fun i hi => ?_) (fun i hi => ?_) (fun i hi => ?_) (fun i hi => ?_)
  · rw [Nat.zero_add]; exact (hc i hi 0 (by omega)).trans (rw3_get ls i hi).1
  · rw [Nat.zero_add]; exact (hc i hi 1 (by omega)).trans (rw3_get ls i hi).2.1
  · rw [Nat.zero_add]; exact (hc i hi 2 (by omega)).trans (rw3_get ls i hi).2.2
  · have := hk i hi
    generalize ls.getD i Ty.dummy = y at this
    cases y with
    | node k n ks =>
      have h : ks = [] := this
      subst h
      exact .bare _ _ _ _
theorem lsT_zero (vs : List Int) : lsT vs 0 = List.replicate 26 (.node 1 0 []) := rfl
theorem lsT_succ (vs : List Int) (j q : Nat) (hq : vs.getD j 0 = (q : Int)) : lsT vs (j + 1) = (lsT vs j).set q (.node 4 (j : Int) []) := by
  apply List.ext_getElem (by simp [lsT])
  intro i h1 h2
  simp only [lsT, List.getElem_map, List.getElem_range, List.getElem_set, elT, hq]
  by_cases e : q = i
  · subst e; simp
  · have e2 : ¬ (q : Int) = (i : Int) := by omega
    rw [if_neg e2, if_neg e]
theorem lsT_bare (vs : List Int) (j i : Nat) (hi : i < 26) : ((lsT vs j).getD i Ty.dummy).ks = [] := by
  rw [lsT_get _ _ _ hi]
  rcases elT_form vs i j with h | ⟨k, _, h⟩ <;> rw [h] <;> rfl
theorem lsT_valid (vs : List Int) (j : Nat) (hj : j ≤ 26) : allV (lsT vs j) := fun i hi => by
  rw [lsT_len] at hi
  rw [lsT_get _ _ _ hi]
  exact elT_valid vs i j hj
theorem addV_nd2 {acc : List Int} (n : Int) (h : acc.Nodup) : (addV acc n).Nodup := by
  unfold addV
  split
  · exact h
  · rename_i hn
    rw [List.nodup_append]
    refine ⟨h, by simp, fun a ha b hb => ?_⟩
    rw [List.mem_singleton.1 hb]
    exact fun e => hn (e ▸ ha)
theorem vars_nodup : ∀ (d : Nat) (t : Ty) (acc : List Int), shp d t = true → acc.Nodup → (vars d t acc).Nodup := by
  intro d
  induction d with
  | zero => intro t acc h; cases h
  | succ d ih =>
    intro t acc h ha
    rcases shp_forms h with rfl | ⟨n, n0, n1, rfl⟩ | ⟨k, a, b, hk, rfl, h1, h2⟩
    · simpa [vars, Ty.k, Ty.ks] using ha
    · rw [vars_var rfl rfl]; exact addV_nd2 _ ha
    · rw [vars_kids (by show k ≠ 4; omega)]
      exact ih b _ h2 (ih a _ h1 ha)
theorem nodup_len2 : ∀ (n : Nat) (l : List Int), l.Nodup → (∀ x ∈ l, 0 ≤ x ∧ x < (n : Int)) → l.length ≤ n := by
  intro n
  induction n with
  | zero =>
    intro l _ h
    cases l with
    | nil => exact Nat.le_refl _
    | cons x l => have := h x (List.mem_cons_self ..); omega
  | succ n ih =>
    intro l hn h
    by_cases hm : (n : Int) ∈ l
    · have h1 := ih (l.erase (n : Int)) (hn.erase _) (fun x hx => by
        have h2 := h x (List.mem_of_mem_erase hx)
        have h3 : x ≠ (n : Int) := fun e => by rw [e] at hx; exact hn.not_mem_erase hx
        omega)
      rw [List.length_erase_of_mem hm] at h1
      omega
    · have := ih l hn (fun x hx => by
        have h2 := h x hx
        have h3 : x ≠ (n : Int) := fun e => hm (e ▸ hx)
        omega)
      omega
theorem varsT_small {t : Ty} {vs : List Int} (hv : tvT t = true) (hvs : varsT t = vs) : vs.length ≤ 26 ∧ ∀ j, j < vs.length → ∃ q : Nat, q < 26 ∧ vs.getD j 0 = (q : Int) := by
  have hs := tvT_shp hv
  have e : vars 16 t [] = vs := by rw [← hvs]; unfold varsT; rw [if_pos hv]
  have hr : ∀ x ∈ vs, 0 ≤ x ∧ x < ((26 : Nat) : Int) := fun x hx => by
    rw [← e] at hx
    rcases (vars_occ 16 t [] x hs).1 hx with h | h
    · cases h
    · have := occ_range 16 t x hs h; omega
  refine ⟨nodup_len2 26 vs (by rw [← e]; exact vars_nodup 16 t [] hs List.nodup_nil) hr, fun j hj => ?_⟩
  have h1 : vs.getD j 0 ∈ vs := by simp [List.getD, hj]
  have := hr _ h1
  exact ⟨(vs.getD j 0).toNat, by omega, by omega⟩
theorem lx_small (vs : List Int) (n : Int) : ∀ j, j ≤ 26 → 0 ≤ lx vs n j ∧ lx vs n j ≤ 25
  | 0, _ => by simp [lx]
  | j + 1, h => by
    have := lx_small vs n j (by omega)
    rw [lx]; split <;> omega
theorem nd_leaf (d : Nat) (k n : Int) : nd (d + 1) (.node k n []) = 1 := by simp [nd, Ty.ks]
theorem nd_two (d : Nat) (k n : Int) (a b : Ty) : nd (d + 1) (.node k n [a, b]) = 1 + (nd d a + nd d b) := by simp [nd, Ty.ks, List.range_succ, List.getD]
theorem ren_ok (vs : List Int) (hl : vs.length ≤ 26) : ∀ (d : Nat) (t : Ty), shp d t = true → shp d (ren vs d t) = true ∧ nd d (ren vs d t) = nd d t := by
  intro d
  induction d with
  | zero => intro t h; cases h
  | succ d ih =>
    intro t h
    rcases shp_forms h with rfl | ⟨n, n0, n1, rfl⟩ | ⟨k, a, b, hk, rfl, ha, hb⟩
    · have e : ren vs (d + 1) (.node 1 0 []) = .node 1 0 [] := by simp [ren]
      rw [e]; exact ⟨h, rfl⟩
    · have e : ren vs (d + 1) (.node 4 n []) = .node 4 (lx vs n vs.length) [] := by simp [ren]
      rw [e, nd_leaf, nd_leaf]
      exact ⟨shp_var d _ (lx_small vs n _ hl), rfl⟩
    · have hk4 : k ≠ 4 := by omega
      have e : ren vs (d + 1) (.node k 0 [a, b]) = .node k 0 [ren vs d a, ren vs d b] := by simp [ren, hk4]
      rw [e, nd_two, nd_two, (ih a ha).2, (ih b hb).2]
      exact ⟨shp_two d k _ _ (by omega) (ih a ha).1 (ih b hb).1, rfl⟩
theorem canT_valid {t : Ty} (h : tvT t = true) : tvT (canT t) = true := by
  have hs := tvT_shp h
  obtain ⟨vs, hvs⟩ : ∃ vs, varsT t = vs := ⟨_, rfl⟩
  have e : vars 16 t [] = vs := by rw [← hvs]; unfold varsT; rw [if_pos h]
  have h2 := ren_ok vs (varsT_small h hvs).1 16 t hs
  unfold canT
  rw [e]
  unfold tvT at h ⊢
  rw [h2.1, h2.2]
  rw [hs] at h
  exact h
theorem cnT_valid {t : Ty} (h : (cnT t).isSome = true) : tvT (optT (cnT t)) = true := by
  unfold cnT at h ⊢
  split at h
  · rename_i hv
    rw [if_pos hv]
    exact canT_valid hv
  · cases h
/-- The canonical form by a replacement. -/
theorem canon_sub {t T : Ty} {vs : List Int} (hv : tvT t = true) (hc : canT t = T) (hvs : varsT t = vs) (hT : tvT T = true) (hl : vs.length ≤ 26) : svT t (lsT vs vs.length) = some T := by
  have hs := tvT_shp hv
  have e : vars 16 t [] = vs := by rw [← hvs]; unfold varsT; rw [if_pos hv]
  have h1 : sbT (lsT vs vs.length) 16 t = T := by
    rw [sb_ren vs 16 t hs (fun n h => by rw [← e]; exact (vars_occ 16 t [] n hs).2 (.inr h)), ← hc]
    unfold canT
    rw [e]
  rw [← h1] at hT ⊢
  exact svT_y hv (lsT_valid vs _ hl) hT

end Go.Proofs.Ytjhccdioainibaa

namespace Go.Proofs.Ytjhccdioainibaa.Mx
open Go.Proofs.Ytjhccdioainibaa
open Go.RowKit
set_option linter.unusedVariables false
set_option linter.unusedSimpArgs false

theorem grown_in {w w' : World} {bm : Nat} (h : w.grownBy w' (some bm)) : Inside bm (bm + 1) w w' :=
  ⟨h.os, h.tape, h.output, h.size, fun b hb hx => h.block b hb (fun e => by injection e; omega)⟩
/-- Where the loop of matchType stands. -/
structure MS (w0 w : World) (S bm : Nat) (s g : Ty) (vs vg : Value) (d j : Nat) (M : Asn) (wr : World) (N : Asn) (L : List IV) : Prop where
  it : iter (fun i N => mtf d (g.ks.getD i Ty.dummy) (s.ks.getD i Ty.dummy) N) j M = some N
  im : IMap wr bm L
  rl : RelI w0 N L
  hin : Inside bm (bm + 1) w wr
  b0 : Below w0.heap.size w0 wr
  bx : TBox wr S (.int .i64 s.k) (.int .i64 s.n) vs
  by_ : TBox wr (S + 1) (.int .i64 g.k) (.int .i64 g.n) vg
theorem MS.next {w0 w : World} {S bm : Nat} {s g : Ty} {vs vg : Value} {d j : Nat} {M : Asn} {wr : World} {N : Asn} {L : List IV} (h : MS w0 w S bm s g vs vg d j M wr N L) {o : Obj} {w' : World} {N' : Asn} {L' : List IV} (hbm : bm < S) (h0 : w0.heap.size ≤ bm) (hi : Inside bm (bm + 1) (wr.alloc o) w') (hm : mtf d (g.ks.getD j Ty.dummy) (s.ks.getD j Ty.dummy) N = some N') (him : IMap w' bm L') (hr : RelI w0 N' L') : MS w0 w S bm s g vs vg d (j + 1) M w' N' L' := by
  have hA : Inside bm (bm + 1) wr (wr.alloc o) := in_below ((Below.refl _ _).alloc (Nat.le_refl _) _)
  have hI := hA.trans hi
  exact ⟨iter_next h.it hm, him, hr, h.hin.trans hI, hI.below h0 h.b0 h.b0.size, h.bx.aside hI.size (hI.block _ h.bx.sz (.inr (by omega))), h.by_.aside hI.size (hI.block _ h.by_.sz (.inr (by omega)))⟩

set_option maxRecDepth 100000 in
set_option maxHeartbeats 4000000 in
theorem matchType_any (w0 : World) (bm : Nat) (hbm : w0.heap.size ≤ bm) : ∀ (d : Nat) (s g : Ty) (vs vg : Value) (M : Asn) (L : List IV) (w : World), shp d s = true → shp d g = true → nodes s ≤ 1048577 → TyOk w0 s vs → TyOk w0 g vg → Below w0.heap.size w0 w → IMap w bm L → RelI w0 M L →
    Calls Try.prog 40 #[.agg #[.int .i64 s.k, .int .i64 s.n, vs], .agg #[.int .i64 g.k, .int .i64 g.n, vg], .map (some bm)] w fun e w' => e = .returned (.bool (mtf d g s M).isSome) ∧ Inside bm (bm + 1) w w' ∧ ∀ M', mtf d g s M = some M' → ∃ L', IMap w' bm L' ∧ RelI w0 M' L' := by
  intro d
  induction d with
  | zero => intro s g vs vg M L w hs; exact (shp_zero hs).elim
  | succ d ih =>
    intro s g vs vg M L w hs hg hn hvs hvg hb hm hr
    have IH := Lib.hid ih
    obtain ⟨fs, ks⟩ := shp_parts hs
    obtain ⟨fg, kg⟩ := shp_parts hg
    have FS := Lib.hid fs
    have FG := Lib.hid fg
    have KS := Lib.hid ks
    have KG := Lib.hid kg
    have HN := Lib.hid hn
    have HR := Lib.hid hr
    have HVS := Lib.hid hvs
    have HVG := Lib.hid hvg
    obtain ⟨sa, sc, rfl, _⟩ := hvs.at.slice
    obtain ⟨ga, gc, rfl, _⟩ := hvg.at.slice
    have hbw := hm.lt
    obtain ⟨S, hS⟩ : ∃ S, w.heap.size = S := ⟨_, rfl⟩
    rw [hS] at hbw
    obtain ⟨W1, hW1⟩ : ∃ W, (w.alloc (.cells #[.int .i64 s.k, .int .i64 s.n, .slice sa s.ks.length sc] 28)).alloc (.cells #[.int .i64 g.k, .int .i64 g.n, .slice ga g.ks.length gc] 28) = W := ⟨_, rfl⟩
    have hB1 : Below w.heap.size w W1 := by rw [← hW1]; exact ((Below.refl _ _).alloc (Nat.le_refl _) _).alloc (by simp) _
    have HX1 : Hid (TBox W1 S (.int .i64 s.k) (.int .i64 s.n) (.slice sa s.ks.length sc)) := Lib.hid (by
      rw [← hW1, ← hS]; exact (tbox_new w _ _ _ _).kept ((Below.refl _ _).alloc (Nat.le_refl _) _))
    have HY1 : Hid (TBox W1 (S + 1) (.int .i64 g.k) (.int .i64 g.n) (.slice ga g.ks.length gc)) := Lib.hid (by
      have h := tbox_new (w.alloc (.cells #[.int .i64 s.k, .int .i64 s.n, .slice sa s.ks.length sc] 28)) (.int .i64 g.k) (.int .i64 g.n) (.slice ga g.ks.length gc) 28
      rw [hW1, sizeA', hS] at h; exact h)
    have HM1 := Lib.hid (hm.inside hB1)
    have HB1 := Lib.hid hB1
    have HI1 : Hid (Inside bm (bm + 1) w W1) := Lib.hid (in_below hB1)
    have HB0 := Lib.hid (hb.trans (hB1.mono hb.size))
    have HW1 := Lib.hid hW1
    have HS := Lib.hid hS
    clear ih hs hg fs fg ks kg hn hr hvs hvg hb hm hB1 hW1
    by_cases h4 : g.k = 4
    · have H4 := Lib.hid h4
      have e4 : (g.k == 4) = true := by simpa using h4
      have HV := Lib.hid (fields_var FG.out h4)
      clear h4
      rcases ha : alook g.n M with _ | b
      · have hl := HR.out.no _ ha
        have L1 := lookup_run W1 bm L g.n HM1.out
        rw [hl] at L1
        have L1 : (Instr.lookup 73 (.map (some bm)) (.int .i64 g.n) true).run Try.prog ((w.alloc (.cells #[.int .i64 s.k, .int .i64 s.n, .slice sa s.ks.length sc] 28)).alloc (.cells #[.int .i64 g.k, .int .i64 g.n, .slice ga g.ks.length gc] 28)) = .ok (.tuple #[.agg #[.int .i64 0, .int .i64 0, .slice none 0 0], .bool false]) ((w.alloc (.cells #[.int .i64 s.k, .int .i64 s.n, .slice sa s.ks.length sc] 28)).alloc (.cells #[.int .i64 g.k, .int .i64 g.n, .slice ga g.ks.length gc] 28)) := by rw [HW1.out]; exact L1
        have hAz : Below W1.heap.size W1 (W1.alloc (.cells #[.int .i64 0, .int .i64 0, .slice none 0 0] 28)) := (Below.refl _ _).alloc (Nat.le_refl _) _
        obtain ⟨w3, L3, him, hgr⟩ := update_run (W1.alloc (.cells #[.int .i64 0, .int .i64 0, .slice none 0 0] 28)) bm L g.n (.agg #[.int .i64 s.k, .int .i64 s.n, .slice sa s.ks.length sc]) (HM1.out.inside hAz)
        have L3 : (Instr.mapUpdate 73 (.map (some bm)) (.int .i64 g.n) (.agg #[.int .i64 s.k, .int .i64 s.n, .slice sa s.ks.length sc])).run Try.prog (((w.alloc (.cells #[.int .i64 s.k, .int .i64 s.n, .slice sa s.ks.length sc] 28)).alloc (.cells #[.int .i64 g.k, .int .i64 g.n, .slice ga g.ks.length gc] 28)).alloc (.cells #[.int .i64 0, .int .i64 0, .slice none 0 0] 28)) = .ok () w3 := by rw [HW1.out]; exact L3
        have HP : Hid (.returned (.bool true) = Ending.returned (.bool (mtf (d + 1) g s M).isSome) ∧ Inside bm (bm + 1) w w3 ∧ ∀ M', mtf (d + 1) g s M = some M' → ∃ L', IMap w3 bm L' ∧ RelI w0 M' L') := Lib.hid ⟨by rw [mtf_new H4.out ha]; rfl, HI1.out.trans ((in_below hAz).trans (grown_in hgr)), fun M' e => by
          rw [mtf_new H4.out ha] at e
          injection e with e
          subst e
          exact ⟨_, him, HR.out.put ha HVS.out HN.out⟩⟩
        obtain ⟨x0, x1, x2, xz⟩ := HX1.out
        obtain ⟨y0, y1, y2, yz⟩ := HY1.out
        clear hl ha him hgr hAz
        go_enter Try.func40, Try.ntmps40
        go_wp2_with fail
        go_ret
        exact HP.out
      · obtain ⟨vb, hl, hok, hnb⟩ := HR.out.yes _ _ ha
        have L1 := lookup_run W1 bm L g.n HM1.out
        rw [hl] at L1
        have L1 : (Instr.lookup 73 (.map (some bm)) (.int .i64 g.n) true).run Try.prog ((w.alloc (.cells #[.int .i64 s.k, .int .i64 s.n, .slice sa s.ks.length sc] 28)).alloc (.cells #[.int .i64 g.k, .int .i64 g.n, .slice ga g.ks.length gc] 28)) = .ok (.tuple #[.agg #[.int .i64 b.k, .int .i64 b.n, vb], .bool true]) ((w.alloc (.cells #[.int .i64 s.k, .int .i64 s.n, .slice sa s.ks.length sc] 28)).alloc (.cells #[.int .i64 g.k, .int .i64 g.n, .slice ga g.ks.length gc] 28)) := by rw [HW1.out]; exact L1
        obtain ⟨ba, bc, rfl, _⟩ := hok.at.slice
        have HOK := Lib.hid hok
        have hAz : Below W1.heap.size W1 (W1.alloc (.cells #[.int .i64 b.k, .int .i64 b.n, .slice ba b.ks.length bc] 28)) := (Below.refl _ _).alloc (Nat.le_refl _) _
        have HB2 := Lib.hid (HB0.out.trans (hAz.mono HB0.out.size))
        have HM2 := Lib.hid (HM1.out.inside hAz)
        have HI2 : Hid (Inside bm (bm + 1) w _) := Lib.hid (HI1.out.trans (in_below hAz))
        have HMT : Hid (mtf (d + 1) g s M = if sameB b s = true then some M else none) := Lib.hid (mtf_old H4.out ha)
        obtain ⟨x0, x1, x2, xz⟩ := HX1.out
        obtain ⟨y0, y1, y2, yz⟩ := HY1.out
        clear hl hok ha hAz
        rcases hs : sameB b s with _ | _
        · have HSB := Lib.hid hs
          clear hs
          go_enter Try.func40, Try.ntmps40
          go_wp2_with fail
          rw [HW1.out]
          go_at_call 16
          refine (typeSame_impl b s 0 _ _ _ hnb (HOK.out.kept HB2.out) (HVS.out.kept HB2.out)).mono ?_
          rintro e w2 ⟨rfl, hb2⟩
          rw [HSB.out]
          have HI3 := Lib.hid (HI2.out.trans (in_below hb2))
          clear hb2
          go_wp2_with fail
          go_ret
          refine ⟨by rw [HMT.out, HSB.out]; rfl, HI3.out, fun M' e => ?_⟩
          rw [HMT.out, HSB.out] at e
          cases e
        · have HSB := Lib.hid hs
          clear hs
          go_enter Try.func40, Try.ntmps40
          go_wp2_with fail
          rw [HW1.out]
          go_at_call 16
          refine (typeSame_impl b s 0 _ _ _ hnb (HOK.out.kept HB2.out) (HVS.out.kept HB2.out)).mono ?_
          rintro e w2 ⟨rfl, hb2⟩
          rw [HSB.out]
          have HI3 := Lib.hid (HI2.out.trans (in_below hb2))
          have HM3 := Lib.hid (HM2.out.inside hb2)
          clear hb2
          go_wp2_with fail
          go_ret
          refine ⟨by rw [HMT.out, HSB.out]; rfl, HI3.out, fun M' e => ?_⟩
          rw [HMT.out, HSB.out] at e
          injection e with e
          subst e
          exact ⟨L, HM3.out, HR.out⟩
    · have H4 := Lib.hid h4
      have e4 : (g.k == 4) = false := by simpa using h4
      clear h4
      by_cases hk : s.k = g.k
      case neg =>
        have ek : (s.k != g.k) = true := by simpa using hk
        have HP : Hid (mtf (d + 1) g s M = none) := Lib.hid (mtf_kind H4.out hk)
        clear hk
        obtain ⟨x0, x1, x2, xz⟩ := HX1.out
        obtain ⟨y0, y1, y2, yz⟩ := HY1.out
        go_enter Try.func40, Try.ntmps40
        go_wp2_with fail
        rw [HW1.out]
        go_ret
        refine ⟨by rw [HP.out]; rfl, HI1.out, fun M' e => ?_⟩
        rw [HP.out] at e
        cases e
      have HK := Lib.hid hk
      have ek : (s.k != g.k) = false := by simpa using hk
      have HLL : Hid (s.ks.length = g.ks.length) := Lib.hid (fields_len FS.out (by rw [hk]; exact FG.out))
      have HMI : Hid (mtf (d + 1) g s M = iter (fun i N => mtf d (g.ks.getD i Ty.dummy) (s.ks.getD i Ty.dummy) N) g.ks.length M) := Lib.hid (mtf_iter H4.out hk)
      clear hk
      obtain ⟨x0, x1, x2, xz⟩ := HX1.out
      obtain ⟨y0, y1, y2, yz⟩ := HY1.out
      have HMS : Hid (MS w0 w S bm s g (.slice sa s.ks.length sc) (.slice ga g.ks.length gc) d 0 M W1 M L) := Lib.hid ⟨rfl, HM1.out, HR.out, HI1.out, HB0.out, HX1.out, HY1.out⟩
      go_enter Try.func40, Try.ntmps40
      go_wp2_with fail
      rw [HW1.out]
      clear hS
      go_loopw [37] (fun i wr => ∃ (j : Nat) (N : Asn) (LL : List IV), j ≤ g.ks.length ∧ i = .int .i64 j ∧ Hid (MS w0 w S bm s g (.slice sa s.ks.length sc) (.slice ga g.ks.length gc) d j M wr N LL)) (fun i _ => g.ks.length - (intOf i).toNat)
      case atStart => exact ⟨0, M, L, Nat.zero_le _, rfl, HMS⟩
      case round =>
        obtain ⟨j, N, LL, hj, rfl, hms⟩ := hrel
        clear x0 x1 x2 xz y0 y1 y2 yz
        obtain ⟨x0, x1, x2, xz⟩ := hms.out.bx
        obtain ⟨y0, y1, y2, yz⟩ := hms.out.by_
        by_cases hlt : j < g.ks.length
        · have hji : (j : Int) < (g.ks.length : Int) := by omega
          have hlts : j < s.ks.length := by rw [HLL.out]; exact hlt
          have hji2 : (j : Int) < (s.ks.length : Int) := by omega
          obtain ⟨sb, so, rfl, hrs⟩ := HVS.out.row_of (by omega)
          obtain ⟨gb, go', rfl, hrt⟩ := HVG.out.row_of (by omega)
          obtain ⟨b1, g0, g1, g2, go1⟩ := HVS.out.cells j hlts
          obtain ⟨b2, g3, g4, g5, go2⟩ := HVG.out.cells j hlt
          replace g0 := (hms.out.b0.cell (p := ⟨sb, so + j * 3, none⟩) b1).trans g0
          replace g1 := (hms.out.b0.cell (p := ⟨sb, so + j * 3 + 1, none⟩) b1).trans g1
          replace g2 := (hms.out.b0.cell (p := ⟨sb, so + j * 3 + 2, none⟩) b1).trans g2
          replace g3 := (hms.out.b0.cell (p := ⟨gb, go' + j * 3, none⟩) b2).trans g3
          replace g4 := (hms.out.b0.cell (p := ⟨gb, go' + j * 3 + 1, none⟩) b2).trans g4
          replace g5 := (hms.out.b0.cell (p := ⟨gb, go' + j * 3 + 2, none⟩) b2).trans g5
          have HKA : Hid (TyOk w0 (s.ks.getD j Ty.dummy) (kidV w0 (.slice (some ⟨sb, so, none⟩) s.ks.length sc) j)) := Lib.hid (OkR.kid (r := (s, .slice (some ⟨sb, so, none⟩) s.ks.length sc)) HVS.out hlts)
          have HKB : Hid (TyOk w0 (g.ks.getD j Ty.dummy) (kidV w0 (.slice (some ⟨gb, go', none⟩) g.ks.length gc) j)) := Lib.hid (OkR.kid (r := (g, .slice (some ⟨gb, go', none⟩) g.ks.length gc)) HVG.out hlt)
          have HSA := Lib.hid (KS.out j hlts)
          have HSB := Lib.hid (KG.out j hlt)
          have HNA := Lib.hid (Nat.le_trans (nodes_kid hlts) HN.out)
          obtain ⟨A, hA⟩ : ∃ A, s.ks.getD j Ty.dummy = A := ⟨_, rfl⟩
          obtain ⟨B, hB⟩ : ∃ B, g.ks.getD j Ty.dummy = B := ⟨_, rfl⟩
          obtain ⟨va, hva⟩ : ∃ v, kidV w0 (Value.slice (some ⟨sb, so, none⟩) s.ks.length sc) j = v := ⟨_, rfl⟩
          obtain ⟨vb, hvb⟩ : ∃ v, kidV w0 (Value.slice (some ⟨gb, go', none⟩) g.ks.length gc) j = v := ⟨_, rfl⟩
          have HA := Lib.hid hA
          have HB := Lib.hid hB
          rw [hA] at g0 g1 HKA HSA HNA
          rw [hB] at g3 g4 HKB HSB
          rw [hva] at g2 go1 HKA
          rw [hvb] at g5 go2 HKB
          obtain ⟨ua, uc, rfl, _⟩ := HKA.out.at.slice
          obtain ⟨ub, ud, rfl, _⟩ := HKB.out.at.slice
          clear hA hB hva hvb hrs hrt
          have hAl : Below wr.heap.size wr (wr.alloc (.cells #[.int .i64 B.k, .int .i64 B.n, .slice ub B.ks.length ud] 28)) := (Below.refl _ _).alloc (Nat.le_refl _) _
          have HXA := Lib.hid (hms.out.bx.kept hAl)
          have HKB2 : Hid (TBox (wr.alloc (.cells #[.int .i64 B.k, .int .i64 B.n, .slice ub B.ks.length ud] 28)) wr.heap.size (.int .i64 B.k) (.int .i64 B.n) (.slice ub B.ks.length ud)) := Lib.hid (tbox_new wr _ _ _ _)
          have HBA := Lib.hid (hms.out.b0.trans (hAl.mono hms.out.b0.size))
          have HMA := Lib.hid (hms.out.im.inside hAl)
          have HRL := Lib.hid hms.out.rl
          have hsl : sb < (wr.alloc (.cells #[.int .i64 B.k, .int .i64 B.n, .slice ub B.ks.length ud] 28)).heap.size := by
            have := hms.out.b0.size; rw [sizeA']; omega
          have G0 := Lib.hid ((hAl.cell (p := ⟨sb, so + j * 3, none⟩) (by have := hms.out.b0.size; show sb < _; omega)).trans g0)
          have G1 := Lib.hid ((hAl.cell (p := ⟨sb, so + j * 3 + 1, none⟩) (by have := hms.out.b0.size; show sb < _; omega)).trans g1)
          have G2 := Lib.hid ((hAl.cell (p := ⟨sb, so + j * 3 + 2, none⟩) (by have := hms.out.b0.size; show sb < _; omega)).trans g2)
          have hsbm : sb ≠ bm := by omega
          have hwbm : bm + 1 ≤ wr.heap.size := hms.out.im.lt
          have HIA : Hid (Inside bm (bm + 1) wr (wr.alloc (.cells #[.int .i64 B.k, .int .i64 B.n, .slice ub B.ks.length ud] 28))) := Lib.hid (in_below hAl)
          rcases hmt : mtf d B A N with _ | N'
          · have HP : Hid (mtf (d + 1) g s M = none) := Lib.hid (by
              rw [HMI.out]
              exact iter_stop hms.out.it (by show mtf d (g.ks.getD j Ty.dummy) (s.ks.getD j Ty.dummy) N = none; rw [HA.out, HB.out]; exact hmt) hlt)
            have HMT := Lib.hid hmt
            clear hmt hAl
            go_wp2_with fail
            go_region_held3 (fun w' => w'.cell? ⟨S, 2, none⟩ = some (.slice (some ⟨sb, so, none⟩) s.ks.length sc) ∧ w'.cell? ⟨sb, so + j * 3, none⟩ = some (.int .i64 A.k) ∧ w'.cell? ⟨sb, so + j * 3 + 1, none⟩ = some (.int .i64 A.n) ∧ w'.cell? ⟨sb, so + j * 3 + 2, none⟩ = some (.slice ua A.ks.length uc) ∧ w'.cell? ⟨wr.heap.size, 0, none⟩ = some (.int .i64 B.k) ∧ w'.cell? ⟨wr.heap.size, 1, none⟩ = some (.int .i64 B.n) ∧ w'.cell? ⟨wr.heap.size, 2, none⟩ = some (.slice ub B.ks.length ud)) (go_keep)
              (first | (go_at_call 40; refine (IH.out A B _ _ N LL _ HSA.out HSB.out HNA.out HKA.out HKB.out (by first | exact HBA.out | exact HBA.out.drew) (by first | exact HMA.out | exact HMA.out.inside (Below.refl _ _).drew) HRL.out).mono ?_; rintro e w2 ⟨rfl, hi2, hm2⟩; rw [HMT.out]; have hi3 : Inside bm (bm + 1) (wr.alloc (.cells #[.int .i64 B.k, .int .i64 B.n, .slice ub B.ks.length ud] 28)) w2 := (in_below (by first | exact Below.refl _ _ | exact (Below.refl _ _).drew)).trans hi2; have HI2 := Lib.hid hi3; have HII := Lib.hid (hms.out.hin.trans (HIA.out.trans hi3)); have HM2 := Lib.hid hm2; have zx2 := (cellEq (hi3.block S HXA.out.sz (.inr (by omega)))).trans HXA.out.c2; have zg0 := (cellEq (hi3.block sb hsl (by omega))).trans G0.out; have zg1 := (cellEq (hi3.block sb hsl (by omega))).trans G1.out; have zg2 := (cellEq (hi3.block sb hsl (by omega))).trans G2.out; have zk0 := (cellEq (hi3.block wr.heap.size HKB2.out.sz (.inr (by omega)))).trans HKB2.out.c0; have zk1 := (cellEq (hi3.block wr.heap.size HKB2.out.sz (.inr (by omega)))).trans HKB2.out.c1; have zk2 := (cellEq (hi3.block wr.heap.size HKB2.out.sz (.inr (by omega)))).trans HKB2.out.c2; clear hi2 hi3 hm2))
            all_goals go_wp2_with fail
            all_goals go_ret
            all_goals
              refine ⟨by rw [HP.out]; rfl, HII.out, fun M' e => ?_⟩
              rw [HP.out] at e
              cases e
          · have HMT := Lib.hid hmt
            clear hmt hAl
            go_wp2_with fail
            go_region_held3 (fun w' => w'.cell? ⟨S, 2, none⟩ = some (.slice (some ⟨sb, so, none⟩) s.ks.length sc) ∧ w'.cell? ⟨sb, so + j * 3, none⟩ = some (.int .i64 A.k) ∧ w'.cell? ⟨sb, so + j * 3 + 1, none⟩ = some (.int .i64 A.n) ∧ w'.cell? ⟨sb, so + j * 3 + 2, none⟩ = some (.slice ua A.ks.length uc) ∧ w'.cell? ⟨wr.heap.size, 0, none⟩ = some (.int .i64 B.k) ∧ w'.cell? ⟨wr.heap.size, 1, none⟩ = some (.int .i64 B.n) ∧ w'.cell? ⟨wr.heap.size, 2, none⟩ = some (.slice ub B.ks.length ud)) (go_keep)
              (first | (go_at_call 40; refine (IH.out A B _ _ N LL _ HSA.out HSB.out HNA.out HKA.out HKB.out (by first | exact HBA.out | exact HBA.out.drew) (by first | exact HMA.out | exact HMA.out.inside (Below.refl _ _).drew) HRL.out).mono ?_; rintro e w2 ⟨rfl, hi2, hm2⟩; rw [HMT.out]; have hi3 : Inside bm (bm + 1) (wr.alloc (.cells #[.int .i64 B.k, .int .i64 B.n, .slice ub B.ks.length ud] 28)) w2 := (in_below (by first | exact Below.refl _ _ | exact (Below.refl _ _).drew)).trans hi2; have HI2 := Lib.hid hi3; have HII := Lib.hid (hms.out.hin.trans (HIA.out.trans hi3)); have HM2 := Lib.hid hm2; have zx2 := (cellEq (hi3.block S HXA.out.sz (.inr (by omega)))).trans HXA.out.c2; have zg0 := (cellEq (hi3.block sb hsl (by omega))).trans G0.out; have zg1 := (cellEq (hi3.block sb hsl (by omega))).trans G1.out; have zg2 := (cellEq (hi3.block sb hsl (by omega))).trans G2.out; have zk0 := (cellEq (hi3.block wr.heap.size HKB2.out.sz (.inr (by omega)))).trans HKB2.out.c0; have zk1 := (cellEq (hi3.block wr.heap.size HKB2.out.sz (.inr (by omega)))).trans HKB2.out.c1; have zk2 := (cellEq (hi3.block wr.heap.size HKB2.out.sz (.inr (by omega)))).trans HKB2.out.c2; clear hi2 hi3 hm2))
            all_goals obtain ⟨L2, him2, hr2⟩ := HM2.out N' HMT.out
            all_goals have HMS2 := Lib.hid (hms.out.next hbw hbm HI2.out (by rw [HA.out, HB.out]; exact HMT.out) him2 hr2)
            all_goals clear him2 hr2
            all_goals go_wp2_with fail
            all_goals exact ⟨⟨j + 1, N', L2, by omega, by go_num, HMS2⟩, by simp [intOf]; omega⟩
        · obtain rfl : j = g.ks.length := by omega
          have hji : ¬ (g.ks.length : Int) < (g.ks.length : Int) := by omega
          have HP : Hid (mtf (d + 1) g s M = some N) := Lib.hid (by rw [HMI.out]; exact hms.out.it)
          go_wp2_with fail
          go_ret
          refine ⟨by rw [HP.out]; rfl, hms.out.hin, fun M' e => ?_⟩
          rw [HP.out] at e
          injection e with e
          subst e
          exact ⟨LL, hms.out.im, hms.out.rl⟩

end Go.Proofs.Ytjhccdioainibaa.Mx

namespace Go.Proofs.Ytjhccdioainibaa.Mx
open Go.Proofs.Ytjhccdioainibaa
open Go.RowKit
set_option linter.unusedVariables false
set_option linter.unusedSimpArgs false

/-- Whether s is an instance of g. -/
noncomputable def instB (s g : Ty) : Bool := tvT s && (tvT g && (mtf 16 g s []).isSome)
theorem tv_shp {t : Ty} (h : tvT t = true) : shp 16 t = true := by
  rcases hs : shp 16 t with _ | _
  · rw [tvT_no hs] at h; cases h
  · rfl
def rowZ : Array Value := madeCells #[.int .i64 0, .int .i64 0, .slice none 0 0] 78
theorem rowZ_at : ∀ n, n < 26 → rowZ.toList[n * 3]? = some (.int .i64 0) := by
  intro n hn
  have h : n * 3 < 78 := by omega
  have hm : n * 3 % 3 = 0 := by omega
  simp [rowZ, madeCells, h, hm]
theorem rowZ_size : rowZ.size = 26 * 3 := by kernel_rfl
theorem RelS.start (w0 : World) : RelS w0 [] rowZ.toList := ⟨fun n hn _ => rowZ_at n hn, fun n hn t h => by cases h⟩
theorem kr_new (w : World) (kb : Nat) (h : w.heap.size = kb) : KR (w.alloc (.cells rowZ 28)) kb rowZ.toList := by
  subst h
  exact World.ownsRow_lit (e := 28) (size := 3) w rowZ 26 (Nat.le_refl _) (by decide) rowZ_size
theorem make_run (w : World) : (Instr.makeSlice 26 (.int .i64 26) (.int .i64 26)).run Try.prog w = .ok (.slice (some ⟨w.heap.size, 0, none⟩) 26 26) (w.alloc (.cells rowZ 28)) := by
  obtain ⟨i0, hi, hz0, hz1, hz2⟩ := info_parts infoTyp
  have h := run_make (P := Try.prog) w 26 28 i0 _ Try.underlying26 hi hz0 .i64 .i64 26 26 (by decide) (by decide) (by rw [hz2]; decide) (by decide)
  rw [hz1] at h
  exact h

set_option maxRecDepth 100000 in
set_option maxHeartbeats 4000000 in
theorem instanceOf_impl (s g : Ty) (vs vg : Value) (w : World) (hn : nodes s ≤ 1048577) (hs : TyOk w s vs) (hg : TyOk w g vg) :
    Calls Try.prog 17 #[.agg #[.int .i64 s.k, .int .i64 s.n, vs], .agg #[.int .i64 g.k, .int .i64 g.n, vg]] w fun e w' => e = .returned (.bool (instB s g)) ∧ Below w.heap.size w w' := by
  have HVS := Lib.hid hs
  have HVG := Lib.hid hg
  obtain ⟨sa, sc, rfl, _⟩ := hs.at.slice
  obtain ⟨ga, gc, rfl, _⟩ := hg.at.slice
  clear hs hg
  obtain ⟨W1, hW1⟩ : ∃ W, (w.alloc (.cells #[.int .i64 s.k, .int .i64 s.n, .slice sa s.ks.length sc] 28)).alloc (.cells #[.int .i64 g.k, .int .i64 g.n, .slice ga g.ks.length gc] 28) = W := ⟨_, rfl⟩
  have HB1 : Hid (Below w.heap.size w W1) := Lib.hid (by rw [← hW1]; exact ((Below.refl _ _).alloc (Nat.le_refl _) _).alloc (by simp) _)
  have HX1 : Hid (TBox W1 w.heap.size (.int .i64 s.k) (.int .i64 s.n) (.slice sa s.ks.length sc)) := Lib.hid (by
    rw [← hW1]; exact (tbox_new w _ _ _ _).kept ((Below.refl _ _).alloc (Nat.le_refl _) _))
  have HY1 : Hid (TBox W1 (w.heap.size + 1) (.int .i64 g.k) (.int .i64 g.n) (.slice ga g.ks.length gc)) := Lib.hid (by
    have h := tbox_new (w.alloc (.cells #[.int .i64 s.k, .int .i64 s.n, .slice sa s.ks.length sc] 28)) (.int .i64 g.k) (.int .i64 g.n) (.slice ga g.ks.length gc) 28
    rw [hW1, sizeA'] at h; exact h)
  have HW1 := Lib.hid hW1
  clear hW1
  rcases h1 : tvT s with _ | _
  · have H1 := Lib.hid h1
    clear h1
    go_enter Try.func17, Try.ntmps17
    go_wp2_with fail
    rw [HW1.out]
    go_at_call 28
    refine (typeValid_impl s _ W1 (HVS.out.at.kept HB1.out)).mono ?_
    rintro e w2 ⟨rfl, hb2⟩
    rw [H1.out]
    have HB2 := Lib.hid (HB1.out.trans (hb2.mono HB1.out.size))
    clear hb2
    go_wp2_with fail
    go_ret
    exact ⟨by unfold instB; rw [H1.out]; rfl, HB2.out⟩
  have H1 := Lib.hid h1
  rcases h2 : tvT g with _ | _
  · have H2 := Lib.hid h2
    clear h1 h2
    go_enter Try.func17, Try.ntmps17
    go_wp2_with fail
    rw [HW1.out]
    go_at_call 28
    refine (typeValid_impl s _ W1 (HVS.out.at.kept HB1.out)).mono ?_
    rintro e w2 ⟨rfl, hb2⟩
    rw [H1.out]
    have HB2 := Lib.hid (HB1.out.trans (hb2.mono HB1.out.size))
    have HY2 := Lib.hid (HY1.out.kept hb2)
    clear hb2
    obtain ⟨y0, y1, y2, yz⟩ := HY2.out
    go_wp2_with fail
    go_at_call 28
    refine (typeValid_impl g _ w2 (HVG.out.at.kept HB2.out)).mono ?_
    rintro e w3 ⟨rfl, hb3⟩
    rw [H2.out]
    have HB3 := Lib.hid (HB2.out.trans (hb3.mono HB2.out.size))
    clear hb3
    go_wp2_with fail
    go_ret
    exact ⟨by unfold instB; rw [H1.out, H2.out]; rfl, HB3.out⟩
  have H2 := Lib.hid h2
  have HSS := Lib.hid (tv_shp h1)
  have HSG := Lib.hid (tv_shp h2)
  clear h1 h2
  obtain ⟨b, hb⟩ : ∃ b, (mtf 16 g s []).isSome = b := ⟨_, rfl⟩
  have HM := Lib.hid hb
  clear hb
  go_enter Try.func17, Try.ntmps17
  go_wp2_with fail
  rw [HW1.out]
  go_at_call 28
  refine (typeValid_impl s _ W1 (HVS.out.at.kept HB1.out)).mono ?_
  rintro e w2 ⟨rfl, hb2⟩
  rw [H1.out]
  have HB2 := Lib.hid (HB1.out.trans (hb2.mono HB1.out.size))
  have HX2 := Lib.hid (HX1.out.kept hb2)
  have HY2 := Lib.hid (HY1.out.kept hb2)
  clear hb2
  obtain ⟨y0, y1, y2, yz⟩ := HY2.out
  go_wp2_with fail
  go_at_call 28
  refine (typeValid_impl g _ w2 (HVG.out.at.kept HB2.out)).mono ?_
  rintro e w3 ⟨rfl, hb3⟩
  rw [H2.out]
  have HB3 := Lib.hid (HB2.out.trans (hb3.mono HB2.out.size))
  have HX3 := Lib.hid (HX2.out.kept hb3)
  have HY3 := Lib.hid (HY2.out.kept hb3)
  clear hb3 y0 y1 y2 yz
  obtain ⟨x0, x1, x2, xz⟩ := HX3.out
  obtain ⟨y0, y1, y2, yz⟩ := HY3.out
  have hmm := @run_makeMap Try.prog
  go_wp2_with fail
  go_at_call 40
  have hA : Below w3.heap.size w3 (w3.alloc (.map #[] 0)) := (Below.refl _ _).alloc (Nat.le_refl _) _
  refine (matchType_any w3 w3.heap.size (Nat.le_refl _) 16 s g _ _ [] [] _ HSS.out HSG.out hn (HVS.out.kept HB3.out) (HVG.out.kept HB3.out) hA (imap_new w3) (RelI.nil w3)).mono ?_
  rintro e w4 ⟨rfl, hi4, _⟩
  rw [HM.out]
  have HB4 := Lib.hid (HB3.out.trans ((hi4.below (Nat.le_refl _) hA (by rw [sizeA']; omega)).mono HB3.out.size))
  clear hi4 hA
  go_wp2_with fail
  go_ret
  exact ⟨by unfold instB; rw [H1.out, H2.out, HM.out]; rfl, HB4.out⟩

end Go.Proofs.Ytjhccdioainibaa.Mx
