/-
  The text of a type read: the plain parser, and the small functions under ParseType of the program and of the model.
-/
import Derived.Test.YtpihopmgckdigaaDoorZe
import Derived.Test.YtpihopmgckdigaaDoorZo
namespace Go.Proofs.YtpihopmgckdigaaDoor
open Go.RowKit

/-- The byte at an offset, 0 at the end. -/
def by8 (s : ByteArray) (i : Nat) : Int := if h : i < s.size then (s[i].toNat : Int) else 0
theorem by8_in {s : ByteArray} {i : Nat} (h : i < s.size) : by8 s i = (s[i].toNat : Int) := by unfold by8; rw [dif_pos h]
theorem by8_end {s : ByteArray} {i : Nat} (h : ¬ i < s.size) : by8 s i = 0 := by unfold by8; rw [dif_neg h]
theorem by8_idx (P : Program) (T : TypeId) (h : P.underlying T = some .string) {s : ByteArray} {i : Nat} (hi : i < s.size) (w : World) :
    (Instr.index T (.string s) (.int .i64 (i : Int))).run P w = .ok (.int .u8 (by8 s i)) w := by
  have ht : ((i : Int)).toNat = i := by omega
  rw [run_index_string _ _ _ _ _ h, dif_pos ⟨by omega, by omega⟩, by8_in hi]
  simp only [ht]
/-- The type at an offset, no deeper than d, and the offset after it. -/
def prs (s : ByteArray) : Nat → Nat → Option (Ty × Nat)
  | 0, _ => none
  | d + 1, i =>
    if i < s.size then
      if by8 s i = 73 then some (.node 1 0 [], i + 1)
      else if 97 ≤ by8 s i ∧ by8 s i ≤ 122 then some (.node 4 (by8 s i - 97) [], i + 1)
      else if by8 s i = 40 then
        match prs s d (i + 1) with
        | none => none
        | some (a, n) =>
          if by8 s n = 42 ∨ by8 s n = 62 then
            match prs s d (n + 1) with
            | none => none
            | some (b, m) => if by8 s m = 41 then some (.node (if by8 s n = 42 then 3 else 2) 0 [a, b], m + 1) else none
          else none
      else none
    else none
theorem prs_le (s : ByteArray) : ∀ (d i : Nat) (t : Ty) (n : Nat), prs s d i = some (t, n) → n ≤ s.size := by
  intro d
  induction d with
  | zero => intro i t n h; cases h
  | succ d ih =>
    intro i t n h
    rw [prs] at h
    split at h
    · rename_i hi
      split at h
      · injection h with h; injection h with _ h; omega
      split at h
      · injection h with h; injection h with _ h; omega
      split at h
      · split at h
        · cases h
        split at h
        · split at h
          · cases h
          · split at h
            · rename_i hm
              injection h with h; injection h with _ h
              by_cases hh : n - 1 < s.size
              · omega
              · exfalso
                rename_i m _ _
                have : by8 s (n - 1) = 41 := by rw [← h]; exact hm
                rw [by8_end hh] at this; omega
            · cases h
        · cases h
      · cases h
    · cases h
/-- Whether a byte stands at an offset. -/
def sgn (s : ByteArray) (i : Nat) (c : Int) : Bool := decide (i < s.size) && (by8 s i == c)
theorem sgn_is {s : ByteArray} {i : Nat} {c : Int} (hc : c ≠ 0) : sgn s i c = (by8 s i == c) := by
  unfold sgn
  by_cases h : i < s.size
  · simp [h]
  · rw [by8_end h]; simp [h]; omega


theorem l2Sign_y (s : ByteArray) (i : Nat) (c : Int) (w : World) (h : i < s.size) (hb : (by8 s i == c) = true) :
    Calls Tryd.prog 64 #[.string s, .int .i64 (i : Int), .int .u8 c] w fun e w' => e = .returned (.bool true) ∧ w' = w := by
  have h1 : (i : Int) < (s.size : Int) := by omega
  have h0 : ¬ (i : Int) < 0 := by omega
  have r1 := by8_idx Tryd.prog 9 Tryd.underlying9 h
  clear h
  go_enter Tryd.func64, Tryd.ntmps64
  go_wp2_with fail
  go_ret
  exact ⟨rfl, rfl⟩

theorem l2Sign_n (s : ByteArray) (i : Nat) (c : Int) (w : World) (h : i < s.size) (hb : (by8 s i == c) = false) :
    Calls Tryd.prog 64 #[.string s, .int .i64 (i : Int), .int .u8 c] w fun e w' => e = .returned (.bool false) ∧ w' = w := by
  have h1 : (i : Int) < (s.size : Int) := by omega
  have h0 : ¬ (i : Int) < 0 := by omega
  have r1 := by8_idx Tryd.prog 9 Tryd.underlying9 h
  clear h
  go_enter Tryd.func64, Tryd.ntmps64
  go_wp2_with fail
  go_ret
  exact ⟨rfl, rfl⟩

theorem l2Sign_e (s : ByteArray) (i : Nat) (c : Int) (w : World) (h : ¬ i < s.size) :
    Calls Tryd.prog 64 #[.string s, .int .i64 (i : Int), .int .u8 c] w fun e w' => e = .returned (.bool false) ∧ w' = w := by
  have h1 : ¬ (i : Int) < (s.size : Int) := by omega
  have h0 : ¬ (i : Int) < 0 := by omega
  clear h
  go_enter Tryd.func64, Tryd.ntmps64
  go_wp2_with fail
  go_ret
  exact ⟨rfl, rfl⟩

theorem l2Sign_any (s : ByteArray) (i : Nat) (c : Int) (b : Bool) (hc : c ≠ 0) (hb : (by8 s i == c) = b) (w : World) :
    Calls Tryd.prog 64 #[.string s, .int .i64 (i : Int), .int .u8 c] w fun e w' => e = .returned (.bool b) ∧ w' = w := by
  by_cases h : i < s.size
  · cases b with
    | true => exact l2Sign_y s i c w h hb
    | false => exact l2Sign_n s i c w h hb
  · have hb' : b = false := by rw [← hb, by8_end h]; simp; omega
    subst hb'
    exact l2Sign_e s i c w h

/-- A type has come back, in blocks of its own. -/
def TyRet (t : Ty) (w : World) (e : Ending) (w' : World) : Prop := ∃ v, e = .returned (.agg #[.int .i64 t.k, .int .i64 t.n, v]) ∧ TyIn w' w.heap.size w'.heap.size t v ∧ Below w.heap.size w w'

theorem l2Num_any (w : World) : Calls Tryd.prog 56 #[] w (TyRet (.node 1 0 []) w) := by
  go_enter Tryd.func56, Tryd.ntmps56
  go_wp2_with fail
  refine bodyPost_ret (v := .agg #[.int .i64 1, .int .i64 0, .slice none 0 0]) (by simp [results, Tryd.results56, go_sem]) rfl ⟨_, rfl, .bare _ _ _ _ _ _, ?_⟩
  exact (Below.refl _ _).alloc (Nat.le_refl _) _

theorem l2Var_any (n : Int) (w : World) : Calls Tryd.prog 81 #[.int .i64 n] w (TyRet (.node 4 n []) w) := by
  go_enter Tryd.func81, Tryd.ntmps81
  go_wp2_with fail
  refine bodyPost_ret (v := .agg #[.int .i64 4, .int .i64 n, .slice none 0 0]) (by simp [results, Tryd.results81, go_sem]) rfl ⟨_, rfl, .bare _ _ _ _ _ _, ?_⟩
  exact (Below.refl _ _).alloc (Nat.le_refl _) _

end Go.Proofs.YtpihopmgckdigaaDoor
