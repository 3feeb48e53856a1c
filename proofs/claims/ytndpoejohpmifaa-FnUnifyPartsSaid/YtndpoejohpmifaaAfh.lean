/-
  l2Subst of the model at every well-formed type; the function that SubstVars of the program gives replaceVars.
  SubstVars of the model and of the program.
  Lists of types in the exact laws: an argument read, its size, its copy, comparison.
-/
import Derived.Test.YtndpoejohpmifaaAe
import Derived.Test.YtndpoejohpmifaaYc
namespace Go.Proofs.Ytndpoejohpmifaa
open Go.RowKit
set_option linter.unusedVariables false
set_option linter.unusedSimpArgs false

/-- What a variable is replaced by. -/
def sF (ls : List Ty) : List Int → Int → Ty × List Int := fun st n => if n < ls.length then (ls.getD n.toNat Ty.dummy, st) else (.node 4 n [], st)
theorem sF_in {ls : List Ty} {st : List Int} {i : Nat} (h : i < ls.length) : sF ls st (i : Int) = (ls.getD i Ty.dummy, st) := by
  unfold sF; rw [if_pos (by omega)]; simp
theorem sF_out {ls : List Ty} {st : List Int} {n : Int} (h : ¬ n < ls.length) : sF ls st n = (.node 4 n [], st) := by unfold sF; rw [if_neg h]
/-- The type with its variables replaced. -/
def sbT (ls : List Ty) (d : Nat) (t : Ty) : Ty := (rp (sF ls) d t []).1
theorem sF_st (ls : List Ty) (st : List Int) (n : Int) : (sF ls st n).2 = st := by unfold sF; split <;> rfl
theorem rp_st (ls : List Ty) : ∀ (d : Nat) (t : Ty) (st : List Int), (rp (sF ls) d t st).2 = st ∧ (rp (sF ls) d t st).1 = (rp (sF ls) d t []).1 := by
  intro d
  induction d with
  | zero => intro t st; exact ⟨rfl, rfl⟩
  | succ d ih =>
    intro t st
    cases t with
    | node k n ks =>
      by_cases h4 : k = 4
      · subst h4
        simp only [rp, if_true]
        refine ⟨sF_st _ _ _, ?_⟩
        unfold sF; split <;> rfl
      · match ks with
        | [] => simp [rp, h4]
        | [a] => simp [rp, h4]
        | [a, b] =>
          have h1 := ih a st; have h2 := ih a []; have h3 := ih b st; have h5 := ih b []
          simp only [rp, if_neg h4]
          rw [h1.1, h2.1, h3.1, h3.2, h1.2]
          exact ⟨rfl, rfl⟩
        | a :: b :: c :: r => simp [rp, h4]
theorem sbT_join {ls : List Ty} {d : Nat} {k : Int} {ta tb : Ty} (h4 : k ≠ 4) : sbT ls (d + 1) (.node k 0 [ta, tb]) = .node k 0 [sbT ls d ta, sbT ls d tb] := by
  unfold sbT
  rw [rp]
  · rw [if_neg h4, (rp_st ls d ta []).1]

set_option maxRecDepth 100000 in
set_option maxHeartbeats 2000000 in
theorem l2Subst_in (ls : List Ty) (i : Nat) (v : Value) (la : Option Addr) (lc : Nat) (w : World) (hx : TyAt w (.node 4 (i : Int) []) v) (hi : i < ls.length) (hl : TyAt w (.node 0 0 ls) (.slice la ls.length lc)) (hs : shp 16 (ls.getD i Ty.dummy) = true) :
    Calls Try.prog 88 #[.agg #[.int .i64 4, .int .i64 (i : Int), v], .slice la ls.length lc] w (TyRet (ls.getD i Ty.dummy) w) := by
  obtain ⟨a, cap, rfl, _⟩ := hx.slice
  have e0 : (Ty.node 4 (i : Int) []).ks.length = 0 := rfl
  rw [e0]
  obtain ⟨b, o, cap2, vi, ex, bl, y0, y1, y2, hkid⟩ := hl.kid i hi
  have hlen : ls.length ≤ 9223372036854775807 := by
    obtain ⟨_, _, he, h9⟩ := hl.slice
    exact h9
  have ex1 : la = some ⟨b, o, none⟩ := by injection ex
  subst ex1
  obtain ⟨x, hxx⟩ : ∃ x, ls.getD i Ty.dummy = x := ⟨_, rfl⟩
  have hxx' : (Ty.node 0 0 ls).ks.getD i Ty.dummy = x := hxx
  rw [hxx'] at y0 y1 hkid
  rw [hxx] at hs ⊢
  obtain ⟨LL, hLL⟩ : ∃ LL, ls.length = LL := ⟨_, rfl⟩
  rw [hLL] at hi hlen ⊢
  obtain ⟨W1, hW1⟩ : ∃ W1, (w.alloc (.cells #[.int .i64 4, .int .i64 (i : Int), .slice a 0 cap] 25)).alloc (.cells #[.int .i64 0, .int .i64 0, .slice none 0 0] 25) = W1 := ⟨_, rfl⟩
  have hB1 : Below w.heap.size w W1 := by rw [← hW1]; exact ((Below.refl _ _).alloc (Nat.le_refl _) _).alloc (by simp) _
  have HT1 : Hid (TBox W1 w.heap.size (.int .i64 4) (.int .i64 (i : Int)) (.slice a 0 cap)) := Lib.hid (by rw [← hW1]; exact (tbox_new w _ _ _ _).kept ((Below.refl _ _).alloc (Nat.le_refl _) _))
  have HR1 : Hid (RB W1 (w.heap.size + 1)) := Lib.hid (by have h := rb_new (w.alloc (.cells #[.int .i64 4, .int .i64 (i : Int), .slice a 0 cap] 25)) 25; rw [sizeA, hW1] at h; exact h)
  have hz1 : W1.heap.size = w.heap.size + 2 := by rw [← hW1]; simp
  replace y0 := (hB1.cell (p := ⟨b, o + i * 3, none⟩) bl).trans y0
  replace y1 := (hB1.cell (p := ⟨b, o + i * 3 + 1, none⟩) bl).trans y1
  replace y2 := (hB1.cell (p := ⟨b, o + i * 3 + 2, none⟩) bl).trans y2
  have HC := Lib.hid (l2Copy_any 16 x vi W1 hs (hkid.kept hB1))
  have HB1 := Lib.hid hB1
  have hi1 : (i : Int) < (LL : Int) := by omega
  obtain ⟨t0, t1, t2, tz⟩ := HT1.out
  clear hx hl hs hkid hB1 ex hxx hxx' hLL
  go_enter Try.func88, Try.ntmps88
  go_wp2_with fail
  go_at_call 114
  refine HC.out.mono ?_
  rintro e w1 ⟨v1, rfl, hty, hb⟩
  obtain ⟨a1, k1, rfl, _⟩ := hty.at.slice
  have HR2 := Lib.hid (HR1.out.kept hb)
  have HB2 := Lib.hid (HB1.out.trans (hb.mono HB1.out.size))
  have HTY := Lib.hid hty
  clear hW1 t0 t1 t2 tz hty hb y0 y1 y2
  obtain ⟨p0, p1, p2, f0, f1, f2, psz⟩ := HR2.out
  go_wp2_with fail
  exact bodyPost_ret (v := .agg #[.int .i64 x.k, .int .i64 x.n, .slice a1 x.ks.length k1]) (by simp [results, Try.results88, go_sem, p0, p1, p2]) rfl ⟨_, rfl, res_ty (HTY.out.wide (by omega) (Nat.le_refl _)) (Nat.le_succ _) _ _ _, Inside.thin (in_res (lo := w.heap.size) (hi := w.heap.size) (Inside.of_below HB2.out) (Nat.le_succ _) _ _ _)⟩

theorem l2Subst_any (ls : List Ty) (la : Option Addr) (lc : Nat) (w0 : World) (hl : TyAt w0 (.node 0 0 ls) (.slice la ls.length lc)) (hv : ∀ i, i < ls.length → shp 16 (ls.getD i Ty.dummy) = true) :
    ∀ (d : Nat) (t : Ty) (v : Value) (w : World), shp d t = true → TyAt w t v → Below w0.heap.size w0 w → Calls Try.prog 88 #[.agg #[.int .i64 t.k, .int .i64 t.n, v], .slice la ls.length lc] w (TyRet (sbT ls d t) w) := by
  intro d
  induction d with
  | zero => intro t v w h; cases h
  | succ d ih =>
    intro t v w h hx hb
    rcases shp_forms h with rfl | ⟨n, h0, h1, rfl⟩ | ⟨k, ta, tb, hk, rfl, ha, hbb⟩
    · have e : sbT ls (d + 1) (.node 1 0 []) = .node 1 0 [] := by simp [sbT, rp]
      rw [e]
      exact l2Subst_no (.node 1 0 []) [] v la ls.length lc w hx rfl (by decide) (by decide) (fun i hi => absurd hi (Nat.not_lt_zero _))
    · have e : sbT ls (d + 1) (.node 4 n []) = (sF ls [] n).1 := by simp [sbT, rp]
      rw [e]
      by_cases hn : n < ls.length
      · obtain ⟨i, rfl⟩ : ∃ i : Nat, n = i := ⟨n.toNat, by omega⟩
        have hi : i < ls.length := by omega
        rw [sF_in hi]
        exact l2Subst_in ls i v la lc w hx hi (hl.kept hb) (hv i hi)
      · rw [sF_out hn]
        exact l2Subst_out (.node 4 n []) [] v la ls.length lc w hx rfl (Nat.zero_le _) rfl hn (fun i hi => absurd hi (Nat.not_lt_zero _))
    · have hk4 : k ≠ 4 := by omega
      rw [sbT_join hk4]
      refine l2Subst_no (.node k 0 [ta, tb]) [sbT ls d ta, sbT ls d tb] v la ls.length lc w hx rfl (show (2 : Nat) ≤ 1000000 by decide) (show (k == 4) = false by simpa using hk4) ?_
      intro i hi vi W hki hbw
      have hi : i < 2 := hi
      have hbW := hb.trans (hbw.mono hb.size)
      obtain rfl | rfl : i = 0 ∨ i = 1 := by omega
      · exact ih ta vi W ha hki hbW
      · exact ih tb vi W hbb hki hbW

/-- The list that the function holds lies in the block q. -/
def HoldsQ (q : Nat) (lv : Value) : List Int → World → Prop := fun _ w => q < w.heap.size ∧ w.cell? ⟨q, 0, none⟩ = some lv
theorem holdsQ_stays (q : Nat) (lv : Value) : Stays (HoldsQ q lv) q (q + 1) :=
  ⟨fun _ _ _ h hs hk => ⟨Nat.lt_of_lt_of_le h.1 hs, (cellEq (hk q (Nat.le_refl _) (Nat.lt_succ_self _))).trans h.2⟩, fun _ _ h => h.1⟩
theorem RvPost.of {r : Ty} {st : List Int} {I : List Int → World → Prop} {lo hi : Nat} (S : Stays I lo hi) {w0 w : World} {e : Ending} {w' : World} (h : TyRet r w e w') (hst : I st w) : RvPost (r, st) I lo hi w e w' := by
  obtain ⟨v, he, ht, hb⟩ := h
  exact ⟨v, he, ht, Inside.of_below hb, S.below hst hb⟩

end Go.Proofs.Ytndpoejohpmifaa

namespace Go.Proofs.Ytndpoejohpmifaa
open Go.RowKit
set_option linter.unusedVariables false
set_option linter.unusedSimpArgs false

/-- Every type of a list is valid. -/
def allV (ls : List Ty) : Prop := ∀ i, i < ls.length → tvT (ls.getD i Ty.dummy) = true
open Classical in
/-- What SubstVars returns. -/
noncomputable def svT (t : Ty) (ls : List Ty) : Option Ty := if tvT t = true ∧ allV ls ∧ tvT (sbT ls 16 t) = true then some (sbT ls 16 t) else none
theorem svT_t {t : Ty} {ls : List Ty} (h : tvT t = false) : svT t ls = none := by unfold svT; rw [if_neg (by simp [h])]
theorem svT_l {t : Ty} {ls : List Ty} {i : Nat} (hi : i < ls.length) (h : tvT (ls.getD i Ty.dummy) = false) : svT t ls = none := by
  unfold svT; rw [if_neg]; rintro ⟨_, hl, _⟩; have := hl i hi; rw [h] at this; cases this
theorem svT_r {t : Ty} {ls : List Ty} (h : tvT (sbT ls 16 t) = false) : svT t ls = none := by unfold svT; rw [if_neg (by simp [h])]
theorem svT_y {t : Ty} {ls : List Ty} (h : tvT t = true) (hl : allV ls) (hr : tvT (sbT ls 16 t) = true) : svT t ls = some (sbT ls 16 t) := by unfold svT; rw [if_pos ⟨h, hl, hr⟩]
theorem allV_shp {ls : List Ty} (h : allV ls) : ∀ i, i < ls.length → shp 16 (ls.getD i Ty.dummy) = true := fun i hi => tvT_shp (h i hi)

theorem holdsQ_new (w : World) (o : Obj) (lv : Value) (T : TypeId) : HoldsQ (w.heap.size + 1) lv [] ((w.alloc o).alloc (.cells #[lv] T)) := by
  refine ⟨by simp, ?_⟩
  have e := sizeA w o
  rw [← e]
  go_simp
end Go.Proofs.Ytndpoejohpmifaa

namespace Go.Proofs.Ytndpoejohpmifaa
open Go.RowKit
set_option linter.unusedVariables false
set_option linter.unusedSimpArgs false

theorem bne_same (b : Bool) : (b != b) = false := by cases b <;> rfl
theorem kids_cnt {ls : List Ty} {c : Nat} (h : Cnt (.node 0 0 ls) c) : ∃ cf : Nat → Nat, c = ls.length + ((List.range ls.length).map cf).sum ∧ ∀ i, i < ls.length → Cnt (ls.getD i Ty.dummy) (cf i) := by
  cases h with
  | node k n ks c h => exact ⟨c, rfl, h⟩
/-- The result of SubstVars is valid or the zero value. -/
theorem svT_cnt (t : Ty) (ls : List Ty) : ∃ c, Cnt (optT (svT t ls)) c ∧ c ≤ 62 := by
  rcases h : svT t ls with _ | y
  · exact ⟨0, .node 0 0 [] (fun _ => 0) (fun i hi => absurd hi (Nat.not_lt_zero _)), by omega⟩
  · refine cnt_valid ?_
    show tvT y = true
    unfold svT at h
    split at h
    · rename_i hq; injection h with h; subst h; exact hq.2.2
    · cases h

end Go.Proofs.Ytndpoejohpmifaa

