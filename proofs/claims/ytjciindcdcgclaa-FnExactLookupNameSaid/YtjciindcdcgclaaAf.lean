/-
  l2Subst of the model at every well-formed type; the function that SubstVars of the program gives replaceVars.
-/
import Derived.Test.YtjciindcdcgclaaAe
namespace Go.Proofs.Ytjciindcdcgclaa
open Go.RowKit
set_option linter.unusedVariables false
set_option linter.unusedSimpArgs false

/-- What a variable is replaced by. -/
def sF (ls : List Ty) : List Int → Int → Ty × List Int := fun st n => if n < ls.length then (ls.getD n.toNat Ty.dummy, st) else (.node 4 n [], st)
theorem sF_in {ls : List Ty} {st : List Int} {i : Nat} (h : i < ls.length) : sF ls st (i : Int) = (ls.getD i Ty.dummy, st) := by
  unfold sF; rw [if_pos (by omega)]; simp
theorem sF_out {ls : List Ty} {st : List Int} {n : Int} (h : ¬ n < ls.length) : sF ls st n = (.node 4 n [], st) := by unfold sF; rw [if_neg h]
/-- The type with its variables replaced. -/
def sbT (ls : List Ty) (d : Nat) (t : Ty) : Ty := (rp (sF ls) d t []).1
theorem sF_st (ls : List Ty) (st : List Int) (n : Int) : (sF ls st n).2 = st := by unfold sF; split <;> rfl
theorem rp_st (ls : List Ty) : ∀ (d : Nat) (t : Ty) (st : List Int), (rp (sF ls) d t st).2 = st ∧ (rp (sF ls) d t st).1 = (rp (sF ls) d t []).1 := by
  intro d
  induction d with
  | zero => intro t st; exact ⟨rfl, rfl⟩
  | succ d ih =>
    intro t st
    cases t with
    | node k n ks =>
      by_cases h4 : k = 4
      · subst h4
        simp only [rp, if_true]
        refine ⟨sF_st _ _ _, ?_⟩
        unfold sF; split <;> rfl
      · match ks with
        | [] => simp [rp, h4]
        | [a] => simp [rp, h4]
        | [a, b] =>
          have h1 := ih a st; have h2 := ih a []; have h3 := ih b st; have h5 := ih b []
          simp only [rp, if_neg h4]
          rw [h1.1, h2.1, h3.1, h3.2, h1.2]
          exact ⟨rfl, rfl⟩
        | a :: b :: c :: r => simp [rp, h4]
theorem sbT_join {ls : List Ty} {d : Nat} {k : Int} {ta tb : Ty} (h4 : k ≠ 4) : sbT ls (d + 1) (.node k 0 [ta, tb]) = .node k 0 [sbT ls d ta, sbT ls d tb] := by
  unfold sbT
  rw [rp]
  · rw [if_neg h4, (rp_st ls d ta []).1]

/-- The list that the function holds lies in the block q. -/
def HoldsQ (q : Nat) (lv : Value) : List Int → World → Prop := fun _ w => q < w.heap.size ∧ w.cell? ⟨q, 0, none⟩ = some lv
theorem holdsQ_stays (q : Nat) (lv : Value) : Stays (HoldsQ q lv) q (q + 1) :=
  ⟨fun _ _ _ h hs hk => ⟨Nat.lt_of_lt_of_le h.1 hs, (cellEq (hk q (Nat.le_refl _) (Nat.lt_succ_self _))).trans h.2⟩, fun _ _ h => h.1⟩
theorem RvPost.of {r : Ty} {st : List Int} {I : List Int → World → Prop} {lo hi : Nat} (S : Stays I lo hi) {w0 w : World} {e : Ending} {w' : World} (h : TyRet r w e w') (hst : I st w) : RvPost (r, st) I lo hi w e w' := by
  obtain ⟨v, he, ht, hb⟩ := h
  exact ⟨v, he, ht, Inside.of_below hb, S.below hst hb⟩

end Go.Proofs.Ytjciindcdcgclaa
