/-
  Plain facts for the laws on functions that return a type: how many nodes lie below a valid type's root, one form for both results.
-/
import Derived.Test.YtiaoopikmkakbaaZx
import Derived.Test.YtiaoopikmkakbaaZq
import Derived.Test.YtiaoopikmkakbaaZh
import Derived.Test.YtiaoopikmkakbaaZg
namespace Go.Proofs.Ytiaoopikmkakbaa
open Go.RowKit
set_option linter.unusedVariables false
set_option linter.unusedSimpArgs false

theorem cnt_shp : ∀ (d : Nat) (t : Ty), shp d t = true → Cnt t (nd d t - 1) := by
  intro d
  induction d with
  | zero => intro t h; cases h
  | succ d ih =>
    intro t h
    obtain ⟨_, hk⟩ := shp_iff.1 h
    have e : nd (d + 1) t - 1 = t.ks.length + ((List.range t.ks.length).map fun i => nd d (t.ks.getD i Ty.dummy) - 1).sum := by
      rw [nd_succ]
      have key : ∀ j, ndk d t j = j + ((List.range j).map fun i => nd d (t.ks.getD i Ty.dummy) - 1).sum := by
        intro j
        induction j with
        | zero => rfl
        | succ j ihj =>
          rw [ndk_succ, sum_succ, ihj]
          have := nd_pos d (t.ks.getD j Ty.dummy)
          omega
      rw [key]; omega
    rw [e]
    cases t with
    | node k n ks => exact .node k n ks _ (fun i hi => ih _ (hk i hi))
theorem cnt_valid {t : Ty} (h : tvT t = true) : ∃ c, Cnt t c ∧ c ≤ 62 := by
  unfold tvT at h
  simp only [Bool.and_eq_true, decide_eq_true_eq] at h
  exact ⟨_, cnt_shp 16 t h.1, by omega⟩
/-- The type that comes with 'some', or the zero value. -/
def optT : Option Ty → Ty
  | some t => t
  | none => .node 0 0 []
theorem OptRet.flat {r : Option Ty} {w : World} {e : Ending} {w' : World} (h : OptRet r w e w') : ∃ v, e = .returned (.tuple #[.agg #[.int .i64 (optT r).k, .int .i64 (optT r).n, v], .bool r.isSome]) ∧ TyIn w' w.heap.size w'.heap.size (optT r) v ∧ Below w.heap.size w w' := by
  cases r with
  | none => exact ⟨_, h.1, .bare _ _ _ _ _ _, h.2⟩
  | some t => exact h
theorem pT_cnt (s : ByteArray) : ∃ c, Cnt (optT (pT s)) c ∧ c ≤ 62 := by
  rcases h : pT s with _ | t
  · exact ⟨0, .node 0 0 [] (fun _ => 0) (fun i hi => absurd hi (Nat.not_lt_zero _)), by omega⟩
  · refine cnt_valid ?_
    show tvT t = true
    rw [pT] at h
    split at h
    · split at h
      · rename_i hq; injection h with h; subst h; exact hq.2
      · cases h
    · cases h
theorem TBox.away {w w' : World} {B lo hi : Nat} {x y z : Value} (h : TBox w B x y z) (hI : Inside lo hi w w') (hB : B < lo ∨ hi ≤ B) : TBox w' B x y z := by
  have e := hI.block B h.sz hB
  exact ⟨(cellEq e).trans h.c0, (cellEq e).trans h.c1, (cellEq e).trans h.c2, Nat.lt_of_lt_of_le h.sz hI.size⟩
theorem TyIn.apart {w w' : World} {lo hi l h : Nat} {t : Ty} {v : Value} (hx : TyIn w l h t v) (hI : Inside lo hi w w') (hd : h ≤ lo ∨ hi ≤ l) : TyIn w' l h t v :=
  hx.keep hI.size (fun b h1 h2 h3 => hI.block b h3 (by omega))

end Go.Proofs.Ytiaoopikmkakbaa
