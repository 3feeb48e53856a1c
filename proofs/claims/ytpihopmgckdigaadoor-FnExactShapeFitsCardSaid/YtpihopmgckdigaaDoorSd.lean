/-
  The text of a value of a type, as a plain function of the bytes: numerals from 0 to 99, functions, pairs.
-/
import Derived.Lib.AtoiAll
import Derived.Lib.ItoaNum
import Derived.Lib.ItoaMem
import Derived.Lib.SlTrimSet
import Derived.Test.YtpihopmgckdigaaDoorZe
namespace Go.Proofs.YtpihopmgckdigaaDoor
open Go.RowKit
set_option linter.unusedVariables false
set_option linter.unusedSimpArgs false

/-- A digit. -/
def isDg (b : UInt8) : Bool := decide (48 ≤ b.toNat) && decide (b.toNat ≤ 57)
theorem isDg_iff {b : UInt8} : isDg b = true ↔ 48 ≤ b.toNat ∧ b.toNat ≤ 57 := by unfold isDg; simp
def digS : List UInt8 := [48, 49, 50, 51, 52, 53, 54, 55, 56, 57]
theorem digS_has (b : UInt8) : digS.contains b = isDg b := by
  have key : ∀ n : Fin 256, digS.contains (UInt8.ofNat n.val) = isDg (UInt8.ofNat n.val) := by decide +kernel
  have h := key ⟨b.toNat, UInt8.toNat_lt b⟩
  simpa using h
/-- The digits with which a text begins, and what is behind them. -/
def dsL (l : List UInt8) : List UInt8 := l.takeWhile isDg
def rsL (l : List UInt8) : List UInt8 := l.dropWhile isDg
theorem ds_rs (l : List UInt8) : dsL l ++ rsL l = l := List.takeWhile_append_dropWhile
theorem trim_dig (l : List UInt8) : Lib.trimLeftS l digS = rsL l := by
  unfold Lib.trimLeftS rsL
  congr 1; funext b; exact digS_has b
theorem ds_all (l : List UInt8) : ∀ b ∈ dsL l, isDg b = true := fun b hb => by
  unfold dsL at hb
  have h := List.all_takeWhile (l := l) (p := isDg)
  rw [List.all_eq_true] at h
  exact h b hb
/-- A numeral of a number from 0 to 99. -/
def numOk : List UInt8 → Bool
  | [_] => true
  | [a, _] => a != 48
  | _ => false
def cutN (l : List UInt8) : Option (List UInt8) := if numOk (dsL l) then some (rsL l) else none
def cutC (c : UInt8) : List UInt8 → Option (List UInt8)
  | x :: r => if x = c then some r else none
  | [] => none
def cutF (l : List UInt8) : Option (List UInt8) := if [102, 117, 110].isPrefixOf l then some (l.drop 3) else none
/-- What is behind the text of a value of a type with which a text begins. -/
def cutT : Nat → Ty → List UInt8 → Option (List UInt8)
  | 0, _, _ => none
  | d + 1, t, l => if t.k = 1 then cutN l else if t.k = 2 then cutF l else if t.k = 3 then
      ((((cutC 40 l).bind (cutT d (t.ks.getD 0 Ty.dummy))).bind (cutC 44)).bind (cutT d (t.ks.getD 1 Ty.dummy))).bind (cutC 41)
    else none
theorem cutT_num {d : Nat} {t : Ty} {l : List UInt8} (h : t.k = 1) : cutT (d + 1) t l = cutN l := by rw [cutT, if_pos h]
theorem cutT_fun {d : Nat} {t : Ty} {l : List UInt8} (h : t.k = 2) : cutT (d + 1) t l = cutF l := by rw [cutT, if_neg (by omega), if_pos h]
theorem cutT_var {d : Nat} {t : Ty} {l : List UInt8} (h : t.k = 4) : cutT (d + 1) t l = none := by rw [cutT, if_neg (by omega), if_neg (by omega), if_neg (by omega)]
theorem cutT_pair {d : Nat} {t : Ty} {l : List UInt8} (h : t.k = 3) : cutT (d + 1) t l = ((((cutC 40 l).bind (cutT d (t.ks.getD 0 Ty.dummy))).bind (cutC 44)).bind (cutT d (t.ks.getD 1 Ty.dummy))).bind (cutC 41) := by
  rw [cutT, if_neg (by omega), if_neg (by omega), if_pos h]
/-- What is left is an end of the text. -/
def IsEnd (r l : List UInt8) : Prop := ∃ k, k ≤ l.length ∧ r = l.drop k
theorem IsEnd.trans {a b c : List UInt8} (h : IsEnd a b) (h2 : IsEnd b c) : IsEnd a c := by
  obtain ⟨i, hi, rfl⟩ := h
  obtain ⟨j, hj, rfl⟩ := h2
  rw [List.length_drop] at hi
  exact ⟨j + i, by omega, by rw [List.drop_drop]⟩
theorem cutC_end {c : UInt8} {l r : List UInt8} (h : cutC c l = some r) : IsEnd r l ∧ r.length + 1 = l.length ∧ l[0]? = some c := by
  cases l with
  | nil => cases h
  | cons x t =>
    have e : cutC c (x :: t) = if x = c then some t else none := rfl
    rw [e] at h
    by_cases hx : x = c
    · rw [if_pos hx] at h; injection h with h; subst h; exact ⟨⟨1, by simp, rfl⟩, by simp, by rw [hx]; rfl⟩
    · rw [if_neg hx] at h; cases h
theorem rs_drop (l : List UInt8) : rsL l = l.drop (dsL l).length := by
  have h : (dsL l ++ rsL l).drop (dsL l).length = rsL l := List.drop_left' rfl
  rw [ds_rs] at h
  exact h.symm
theorem cutN_end {l r : List UInt8} (h : cutN l = some r) : IsEnd r l := by
  unfold cutN at h
  by_cases hn : numOk (dsL l) = true
  · rw [if_pos hn] at h; injection h with h; subst h
    exact ⟨(dsL l).length, by have := congrArg List.length (ds_rs l); rw [List.length_append] at this; omega, rs_drop l⟩
  · rw [if_neg hn] at h; cases h
theorem cutF_end {l r : List UInt8} (h : cutF l = some r) : IsEnd r l := by
  unfold cutF at h
  by_cases hn : [102, 117, 110].isPrefixOf l = true
  · rw [if_pos hn] at h; injection h with h; subst h
    have := (List.isPrefixOf_iff_prefix.1 hn).length_le
    exact ⟨3, by simpa using this, rfl⟩
  · rw [if_neg hn] at h; cases h
theorem cutT_end : ∀ (d : Nat) (t : Ty) (l r : List UInt8), cutT d t l = some r → IsEnd r l := by
  intro d
  induction d with
  | zero => intro t l r h; cases h
  | succ d ih =>
    intro t l r h
    unfold cutT at h
    split at h
    · exact cutN_end h
    · split at h
      · exact cutF_end h
      · split at h
        · rcases h1 : cutC 40 l with _ | l1
          · rw [h1] at h; cases h
          · rw [h1] at h
            simp only [Option.bind_some] at h
            rcases h2 : cutT d (t.ks.getD 0 Ty.dummy) l1 with _ | l2
            · rw [h2] at h; cases h
            · rw [h2] at h
              simp only [Option.bind_some] at h
              rcases h3 : cutC 44 l2 with _ | l3
              · rw [h3] at h; cases h
              · rw [h3] at h
                simp only [Option.bind_some] at h
                rcases h4 : cutT d (t.ks.getD 1 Ty.dummy) l3 with _ | l4
                · rw [h4] at h; cases h
                · rw [h4] at h
                  simp only [Option.bind_some] at h
                  exact (((cutC_end h).1.trans (ih _ _ _ h4)).trans ((cutC_end h3).1.trans (ih _ _ _ h2))).trans (cutC_end h1).1
        · cases h
theorem cutC_nil (c : UInt8) : cutC c [] = none := rfl
theorem cutN_nil : cutN [] = none := rfl
theorem cutT_nil (d : Nat) (t : Ty) : cutT d t [] = none := by
  cases d with
  | zero => rfl
  | succ d =>
    unfold cutT
    split
    · rfl
    · split
      · rfl
      · split <;> rfl
/-- What is behind digits is no digit. -/
theorem rs_head {l : List UInt8} {b : UInt8} (h : (rsL l)[0]? = some b) : isDg b = false := by
  unfold rsL at h
  induction l with
  | nil => cases h
  | cons x r ih =>
    rw [List.dropWhile_cons] at h
    by_cases hx : isDg x = true
    · rw [if_pos hx] at h; exact ih h
    · rw [if_neg hx] at h; simp at h; subst h; simpa using hx
/-- How strconv.Atoi ends at digits alone. -/
theorem one_at : ∀ i : Fin 10, Lib.atoiAll [UInt8.ofNat (48 + i.val)] = .ok (i.val : Int) ∧ Lib.itoa (i.val : Int) = [UInt8.ofNat (48 + i.val)] := by decide +kernel
theorem two_at : ∀ i j : Fin 10, i.val ≠ 0 → Lib.atoiAll [UInt8.ofNat (48 + i.val), UInt8.ofNat (48 + j.val)] = .ok ((10 * i.val + j.val : Nat) : Int) ∧ Lib.itoa ((10 * i.val + j.val : Nat) : Int) = [UInt8.ofNat (48 + i.val), UInt8.ofNat (48 + j.val)] := by decide +kernel
theorem itoa_num : ∀ i : Fin 100, numOk (Lib.itoa (i.val : Int)) = true := by decide +kernel
theorem dg_fin {b : UInt8} (h : isDg b = true) : ∃ i : Fin 10, b = UInt8.ofNat (48 + i.val) := by
  obtain ⟨h0, h1⟩ := isDg_iff.1 h
  refine ⟨⟨b.toNat - 48, by omega⟩, ?_⟩
  have : 48 + (b.toNat - 48) = b.toNat := by omega
  show b = UInt8.ofNat (48 + (b.toNat - 48))
  rw [this]; simp
theorem atoi_num {ds : List UInt8} (hd : ∀ b ∈ ds, isDg b = true) (h : numOk ds = true) : ∃ v : Int, Lib.atoiAll ds = .ok v ∧ 0 ≤ v ∧ v ≤ 99 ∧ Lib.itoa v = ds := by
  match ds, hd, h with
  | [a], hd, h =>
    obtain ⟨i, rfl⟩ := dg_fin (hd a (by simp))
    obtain ⟨h1, h2⟩ := one_at i
    exact ⟨_, h1, by omega, by have := i.isLt; omega, h2⟩
  | [a, b], hd, h =>
    obtain ⟨i, rfl⟩ := dg_fin (hd a (by simp))
    obtain ⟨j, rfl⟩ := dg_fin (hd b (by simp))
    have hi : i.val ≠ 0 := by
      intro e
      have : numOk [UInt8.ofNat (48 + i.val), UInt8.ofNat (48 + j.val)] = (UInt8.ofNat (48 + i.val) != 48) := rfl
      rw [this, e] at h; cases h
    obtain ⟨h1, h2⟩ := two_at i j hi
    exact ⟨_, h1, by omega, by have := i.isLt; have := j.isLt; omega, h2⟩
theorem atoi_dig {ds : List UInt8} (hd : ∀ b ∈ ds, isDg b = true) {v : Int} (h : Lib.atoiAll ds = .ok v) : 0 ≤ v := by
  cases ds with
  | nil => cases h
  | cons c r =>
    obtain ⟨h0, h1⟩ := isDg_iff.1 (hd c (by simp))
    have hn : ¬ c.toNat = 45 := by omega
    unfold Lib.atoiAll at h
    simp only at h
    split at h
    · cases h
    · cases h
    · simp only [hn, not_false_eq_true, true_and, false_and, if_false] at h
      split at h
      · cases h
      · injection h with h; omega
theorem num_back {ds : List UInt8} (hd : ∀ b ∈ ds, isDg b = true) {v : Int} (h : Lib.atoiAll ds = .ok v) (h9 : v ≤ 99) (hi : Lib.itoa v = ds) : numOk ds = true := by
  have h0 := atoi_dig hd h
  have := itoa_num ⟨v.toNat, by omega⟩
  rw [show (((⟨v.toNat, by omega⟩ : Fin 100).val : Nat) : Int) = v by show ((v.toNat : Nat) : Int) = v; omega, hi] at this
  exact this
/-- The number that the first digits spell. -/
def dv (ds : List UInt8) : Nat → Nat
  | 0 => 0
  | i + 1 => dv ds i * 10 + ((ds.getD i 0).toNat - 48)
theorem dv_lt {ds : List UInt8} (h : ∀ b ∈ ds, isDg b = true) : ∀ i, i ≤ ds.length → dv ds i < 10 ^ i := by
  intro i
  induction i with
  | zero => intro _; show 0 < 1; omega
  | succ i ih =>
    intro hi
    have h1 := ih (by omega)
    have hm : ds.getD i 0 ∈ ds := by simp [List.getD, show i < ds.length by omega]
    obtain ⟨h2, h3⟩ := isDg_iff.1 (h _ hm)
    rw [dv, Nat.pow_succ]
    omega
theorem dv_ge {ds : List UInt8} (h0 : 49 ≤ (ds.getD 0 0).toNat) : ∀ i, 10 ^ i ≤ dv ds (i + 1) := by
  intro i
  induction i with
  | zero => show 1 ≤ 0 * 10 + ((ds.getD 0 0).toNat - 48); omega
  | succ i ih => rw [dv, Nat.pow_succ]; omega
theorem numOk_iff {ds : List UInt8} : numOk ds = true ↔ ds.length = 1 ∨ (ds.length = 2 ∧ ds.getD 0 0 ≠ 48) := by
  match ds with
  | [] => simp [numOk]
  | [a] => simp [numOk]
  | [a, b] => simp [numOk]
  | a :: b :: c :: r => simp [numOk]
theorem dv_big {ds : List UInt8} (h : ∀ b ∈ ds, isDg b = true) (hl : 3 ≤ ds.length) (h0 : ds.getD 0 0 ≠ 48) : 99 < dv ds ds.length := by
  have hm : ds.getD 0 0 ∈ ds := by simp [List.getD, show 0 < ds.length by omega]
  obtain ⟨h2, h3⟩ := isDg_iff.1 (h _ hm)
  have h4 : (ds.getD 0 0).toNat ≠ 48 := fun e => h0 (UInt8.toNat_inj.1 (by rw [e]; rfl))
  obtain ⟨n, hn⟩ : ∃ n, ds.length = n + 1 := ⟨ds.length - 1, by omega⟩
  have h5 := dv_ge (ds := ds) (by omega) n
  rw [hn]
  have h6 : 10 ^ 2 ≤ 10 ^ n := Nat.pow_le_pow_right (by omega) (by omega)
  omega
theorem dv_small {ds : List UInt8} (h : ∀ b ∈ ds, isDg b = true) (hl : ds.length ≤ 2) : dv ds ds.length ≤ 99 := by
  have h1 := dv_lt h ds.length (Nat.le_refl _)
  have h6 : 10 ^ ds.length ≤ 10 ^ 2 := Nat.pow_le_pow_right (by omega) hl
  omega

end Go.Proofs.YtpihopmgckdigaaDoor
