/-
  The forms of expressions read one byte after the other, with and without the bytes that are owed; it is what the plain parser does.
-/
import Derived.Test.YtpaefcdchaemfaaWs
namespace Go.Proofs.Ytpaefcdchaemfaa
open Go.RowKit Go.Proofs.Ytpaefcdchaemfaa.Ox
set_option linter.unusedVariables false
set_option linter.unusedSimpArgs false

/-- What is left of a form, read, where every part checks the bytes that are owed: kind, name, operands and end. -/
def rf (f : Nat → Int → Option (Ex × Nat)) (s : ByteArray) : Nat → Int → Nat → ByteArray → List Ex → Nat → Int → Option (Int × ByteArray × List Ex × Nat)
  | 0, k, j, m, xs, n, O => some (k, m, xs, n)
  | r + 1, k, j, m, xs, n, O =>
    if by8 (formX k) j = 120 then
      if sml (by8 s n) = true ∧ (n : Int) + O ≤ 2000 then rf f s r k (j + 1) (s.extract n (n + 1)) xs (n + 1) (O - 1) else none
    else if by8 (formX k) j = 69 then
      match f n O with
      | none => none
      | some (x, n') => rf f s r k (j + 1) m (xs ++ [x]) n' (O - 1)
    else if fk ((formX k).extract 0 j) (by8 s n) ≠ 0 ∧ (n : Int) + O ≤ 2000 then rf f s r (fk ((formX k).extract 0 j) (by8 s n)) (j + 1) m xs (n + 1) (O - 1) else none
/-- The same, without the bytes that are owed. -/
def rf0 (f : Nat → Rs) (s : ByteArray) : Nat → Int → Nat → ByteArray → List Ex → Nat → Option (Int × ByteArray × List Ex × Nat)
  | 0, k, j, m, xs, n => some (k, m, xs, n)
  | r + 1, k, j, m, xs, n =>
    if by8 (formX k) j = 120 then
      if sml (by8 s n) = true then rf0 f s r k (j + 1) (s.extract n (n + 1)) xs (n + 1) else none
    else if by8 (formX k) j = 69 then
      match f n with
      | .no _ => none
      | .ok x n' => rf0 f s r k (j + 1) m (xs ++ [x]) n'
    else if fk ((formX k).extract 0 j) (by8 s n) ≠ 0 then rf0 f s r (fk ((formX k).extract 0 j) (by8 s n)) (j + 1) m xs (n + 1) else none
theorem rf0_x {f : Nat → Rs} {s : ByteArray} {r : Nat} {k : Int} {j : Nat} {m : ByteArray} {xs : List Ex} {n : Nat} (h : by8 (formX k) j = 120) :
    rf0 f s (r + 1) k j m xs n = if sml (by8 s n) = true then rf0 f s r k (j + 1) (s.extract n (n + 1)) xs (n + 1) else none := by
  rw [rf0, if_pos h]
theorem rf0_E {f : Nat → Rs} {s : ByteArray} {r : Nat} {k : Int} {j : Nat} {m : ByteArray} {xs : List Ex} {n : Nat} (h : by8 (formX k) j = 69) :
    rf0 f s (r + 1) k j m xs n = match f n with
      | .no _ => none
      | .ok x n' => rf0 f s r k (j + 1) m (xs ++ [x]) n' := by
  rw [rf0, if_neg (by omega), if_pos h]
theorem rf0_c {f : Nat → Rs} {s : ByteArray} {r : Nat} {k : Int} {j : Nat} {m : ByteArray} {xs : List Ex} {n : Nat} (h : ¬ by8 (formX k) j = 120) (h2 : ¬ by8 (formX k) j = 69) :
    rf0 f s (r + 1) k j m xs n = if fk ((formX k).extract 0 j) (by8 s n) ≠ 0 then rf0 f s r (fk ((formX k).extract 0 j) (by8 s n)) (j + 1) m xs (n + 1) else none := by
  rw [rf0, if_neg h, if_neg h2]
theorem rf0_s {f : Nat → Rs} {s : ByteArray} {r : Nat} {k : Int} {j : Nat} {m : ByteArray} {xs : List Ex} {n : Nat} (c0 : Int) (h : ¬ by8 (formX k) j = 120) (h2 : ¬ by8 (formX k) j = 69) (hk : k ≠ 0)
    (hf : ∀ c, fk ((formX k).extract 0 j) c = if c = c0 then k else 0) :
    rf0 f s (r + 1) k j m xs n = if by8 s n = c0 then rf0 f s r k (j + 1) m xs (n + 1) else none := by
  rw [rf0_c h h2, hf]
  by_cases hc : by8 s n = c0
  · rw [if_pos hc, if_pos hc, if_pos hk]
  · rw [if_neg hc, if_neg hc, if_neg (by simp)]
theorem form_no0 (k : Int) : ∀ a ∈ (formX k).data.toList, a ≠ 0 := by
  unfold formX
  by_cases h : k = 3; · subst h; decide
  by_cases h : k = 4; · subst h; decide
  by_cases h : k = 5; · subst h; decide
  by_cases h : k = 6; · subst h; decide
  by_cases h : k = 7; · subst h; decide
  by_cases h : k = 8; · subst h; decide
  by_cases h : k = 9; · subst h; decide
  by_cases h : k = 10; · subst h; decide
  simp only [*, if_false]
  decide
theorem trim_mem {l p : List UInt8} {a : UInt8} (h : a ∈ Lib.trimPrefix l p) : a ∈ l := by
  unfold Lib.trimPrefix at h
  split at h
  · exact List.mem_of_mem_drop h
  · exact h
theorem fkB_0 (b : ByteArray) (k : Int) : fkB b 0 k = false := by
  unfold fkB
  cases hr : Lib.trimPrefix (formX k).data.toList b.data.toList with
  | nil => simp
  | cons a t =>
    have ha := form_no0 k a (trim_mem (by rw [hr]; exact List.mem_cons_self ..))
    have : ¬ ((a.toNat : Int) = 0) := fun e => ha (UInt8.toNat_inj.1 (by simpa using e))
    show (_ && decide ((a.toNat : Int) = 0)) = false
    rw [decide_eq_false this, Bool.and_false]
theorem fkF_0 (b : ByteArray) : ∀ (n : Nat) (k : Int), fkF b 0 n k = 0
  | 0, _ => rfl
  | n + 1, k => by rw [fkF_no (fkB_0 b k)]; exact fkF_0 b n (k + 1)
theorem fk_lt {b s : ByteArray} {n : Nat} (h : fk b (by8 s n) ≠ 0) : n < s.size :=
  by8_lt (fun e => h (by rw [e]; exact fkF_0 b 10 1))
theorem rf0_ge {f : Nat → Rs} {s : ByteArray} (hf : ∀ i, i ≤ s.size → (f i).In s.size i) : ∀ (r : Nat) (k : Int) (j : Nat) (m : ByteArray) (xs : List Ex) (n : Nat), n ≤ s.size → ∀ q, rf0 f s r k j m xs n = some q → n + r ≤ q.2.2.2
  | 0, k, j, m, xs, n, _, q, h => by simp only [rf0] at h; injection h with h; subst h; exact Nat.le_refl _
  | r + 1, k, j, m, xs, n, hn, q, h => by
    rw [rf0] at h
    split at h
    · split at h
      · next _ hs =>
        have := rf0_ge hf r _ _ _ _ _ (sml_lt hs) q h
        omega
      · cases h
    · split at h
      · have hi := hf n hn
        cases hx : f n with
        | no e => rw [hx] at h; cases h
        | ok x n' =>
          rw [hx] at h hi
          obtain ⟨h1, h2⟩ := hi
          have := rf0_ge hf r _ _ _ _ _ h2 q h
          omega
      · split at h
        · next _ _ hs =>
          have := rf0_ge hf r _ _ _ _ _ (fk_lt hs) q h
          omega
        · cases h
/-- Where the bytes that are owed fit at the end, they fit at every part. -/
theorem rf_lim {f : Nat → Rs} {s : ByteArray} (hf : ∀ i, i ≤ s.size → (f i).In s.size i) : ∀ (r : Nat) (k : Int) (j : Nat) (m : ByteArray) (xs : List Ex) (n : Nat) (O : Int), n ≤ s.size → (r = 0 → (n : Int) + O ≤ 2000) →
    rf (fun n O => lim O (f n)) s r k j m xs n O = match rf0 f s r k j m xs n with
      | none => none
      | some (k', m', xs', N) => if (N : Int) + O ≤ 2000 + r then some (k', m', xs', N) else none
  | 0, k, j, m, xs, n, O, _, h => by
    have := h rfl
    show some (k, m, xs, n) = if (n : Int) + O ≤ 2000 + (0 : Nat) then _ else none
    rw [if_pos (by omega)]
  | r + 1, k, j, m, xs, n, O, hn, _ => by
    have big : ∀ (k' : Int) (j' : Nat) (m' : ByteArray) (xs' : List Ex), n + 1 ≤ s.size → 2000 < (n : Int) + O →
        (match rf0 f s r k' j' m' xs' (n + 1) with
        | none => none
        | some (k', m', xs', N) => if (N : Int) + O ≤ 2000 + (r + 1 : Nat) then some (k', m', xs', N) else none) = (none : Option (Int × ByteArray × List Ex × Nat)) := by
      intro k' j' m' xs' h1 h2
      cases hq : rf0 f s r k' j' m' xs' (n + 1) with
      | none => rfl
      | some q =>
        obtain ⟨a, b, c, N⟩ := q
        have := rf0_ge hf r _ _ _ _ _ h1 _ hq
        simp only at this
        exact if_neg (by omega)
    have same : ∀ (k' : Int) (j' : Nat) (m' : ByteArray) (xs' : List Ex) (n' : Nat) (O' : Int), n' ≤ s.size → (n' : Int) + O' ≤ 2000 → O' = O - 1 →
        rf (fun n O => lim O (f n)) s r k' j' m' xs' n' O' = (match rf0 f s r k' j' m' xs' n' with
        | none => none
        | some (k', m', xs', N) => if (N : Int) + O ≤ 2000 + (r + 1 : Nat) then some (k', m', xs', N) else none) := by
      intro k' j' m' xs' n' O' h1 h2 h3
      rw [rf_lim hf r k' j' m' xs' n' O' h1 (fun _ => h2)]
      cases hq : rf0 f s r k' j' m' xs' n' with
      | none => rfl
      | some q =>
        obtain ⟨a, b, c, N⟩ := q
        by_cases h : (N : Int) + O' ≤ 2000 + r
        · exact (if_pos h).trans (if_pos (by omega)).symm
        · exact (if_neg h).trans (if_neg (by omega)).symm
    rw [rf, rf0]
    by_cases hx : by8 (formX k) j = 120
    · rw [if_pos hx, if_pos hx]
      by_cases hs : sml (by8 s n) = true
      · rw [if_pos hs]
        by_cases hl : (n : Int) + O ≤ 2000
        · rw [if_pos ⟨hs, hl⟩]; exact same _ _ _ _ _ _ (sml_lt hs) (by omega) rfl
        · rw [if_neg (fun h => hl h.2)]; exact (big _ _ _ _ (sml_lt hs) (by omega)).symm
      · rw [if_neg hs, if_neg (fun h => hs h.1)]
    rw [if_neg hx, if_neg hx]
    by_cases hE : by8 (formX k) j = 69
    · rw [if_pos hE, if_pos hE]
      have hi := hf n hn
      cases hy : f n with
      | no e => rfl
      | ok x n' =>
        rw [hy] at hi
        obtain ⟨h1, h2⟩ := hi
        by_cases hl : (n' : Int) + O ≤ 2001
        · simp only [lim_ok hl]; exact same _ _ _ _ _ _ h2 (by omega) rfl
        · simp only [lim_off (show 2001 < (n' : Int) + O by omega)]
          symm
          cases hq : rf0 f s r k (j + 1) m (xs ++ [x]) n' with
          | none => rfl
          | some q =>
            obtain ⟨a, b, c, N⟩ := q
            have := rf0_ge hf r _ _ _ _ _ h2 _ hq
            simp only at this
            exact if_neg (by omega)
    rw [if_neg hE, if_neg hE]
    by_cases hs : fk ((formX k).extract 0 j) (by8 s n) ≠ 0
    · rw [if_pos hs]
      by_cases hl : (n : Int) + O ≤ 2000
      · rw [if_pos ⟨hs, hl⟩]; exact same _ _ _ _ _ _ (fk_lt hs) (by omega) rfl
      · rw [if_neg (fun h => hl h.2)]; exact (big _ _ _ _ (fk_lt hs) (by omega)).symm
    · rw [if_neg hs, if_neg (fun h => hs h.1)]

end Go.Proofs.Ytpaefcdchaemfaa
