/-
  The union-find under TypeSame: join, a new one, the key of a row.
-/
import Derived.Test.YtndpoejohpmifaaBc
namespace Go.Proofs.Ytndpoejohpmifaa
open Go.RowKit
set_option linter.unusedVariables false
set_option linter.unusedSimpArgs false

theorem UF.rep_rep {M : List (KV × KV)} {rep : KV → KV} {dp : KV → Nat} (h : UF M rep dp) (k : KV) : look (rep k) M = none ∧ rep (rep k) = rep k := by
  have h1 := h.lead (dp k + 1) k (Nat.lt_succ_self _)
  exact ⟨h1, h.top _ h1⟩
/-- The leaders behind a join. -/
def repJ (rep : KV → KV) (ra rb : KV) : KV → KV := fun k => if rep k = ra then rb else rep k
theorem UF.join {M : List (KV × KV)} {rep : KV → KV} {dp : KV → Nat} (h : UF M rep dp) {a b : KV} (hne : rep a ≠ rep b) : UF (upd (rep a) (rep b) M) (repJ rep (rep a) (rep b)) (fun k => if rep k = rep a then dp k + dp (rep b) + 1 else dp k) := by
  obtain ⟨a1, a2⟩ := h.rep_rep a
  obtain ⟨b1, b2⟩ := h.rep_rep b
  refine ⟨fun k hk => ?_, fun k p hk => ?_⟩
  · rw [look_upd] at hk
    split at hk
    · cases hk
    · rename_i hka
      have e := h.top k hk
      unfold repJ
      rw [e, if_neg hka]
  · rw [look_upd] at hk
    split at hk
    · rename_i hka
      injection hk with hk
      subst hk; subst hka
      unfold repJ
      simp only [a2, b2, if_true, if_neg (Ne.symm hne)]
      exact ⟨trivial, by omega⟩
    · obtain ⟨e1, e2⟩ := h.up k p hk
      unfold repJ
      simp only [e1]
      refine ⟨trivial, ?_⟩
      split <;> omega

theorem newUF_any (w : World) : Calls Try.prog 45 #[] w fun e w' => e = .returned (.agg #[.map (some (w.heap.size + 1))]) ∧ UG w' (w.heap.size + 1) [] ∧ Below w.heap.size w w' := by
  have hmm := @run_makeMap Try.prog
  obtain ⟨W1, hW1⟩ : ∃ W1, w.alloc (.cells #[.map (some (w.heap.size + 1))] 59) = W1 := ⟨_, rfl⟩
  have hz : W1.heap.size = w.heap.size + 1 := by rw [← hW1]; simp
  have hu : UG ((w.alloc (.cells #[.map (some (w.heap.size + 1))] 59)).alloc (.map #[] 0)) (w.heap.size + 1) [] := by
    rw [hW1, ← hz]; exact ⟨umap_new W1, fun p hp => by simp at hp⟩
  have HU := Lib.hid hu
  clear hu hW1 hz
  go_enter Try.func45, Try.ntmps45
  go_wp2_with fail
  exact bodyPost_ret (v := .agg #[.map (some (w.heap.size + 1))]) (by simp [results, Try.results45, go_sem]) rfl ⟨rfl, HU.out, ((Below.refl _ _).alloc (Nat.le_refl _) _).alloc (by simp) _⟩
theorem idOf_any (b o n cap : Nat) (hn : 0 < n) (w : World) : Calls Try.prog 47 #[.slice (some ⟨b, o, none⟩) n cap] w fun e w' => e = .returned (kv (b, o, n)) ∧ Below w.heap.size w w' := by
  have h1 : (0 : Int) < (n : Int) := by omega
  go_enter Try.func47, Try.ntmps47
  go_wp2_with fail
  exact bodyPost_ret (v := kv (b, o, n)) (by simp [results, Try.results47, go_sem, kv]) rfl ⟨rfl, (Below.refl _ _).alloc (Nat.le_refl _) _⟩

end Go.Proofs.Ytndpoejohpmifaa
