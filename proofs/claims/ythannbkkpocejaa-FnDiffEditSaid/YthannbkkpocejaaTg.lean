/-
  The common beginning and the common end of two texts, as plain functions on lists of bytes, and the steps by which a loop finds them. No conditions.
-/
import Derived.Test.YthannbkkpocejaaTa
namespace Go.Proofs.Ythannbkkpocejaa
open Go.RowKit

/-- The number of bytes that two lists have in common at their beginning. -/
def cpL : List UInt8 → List UInt8 → Nat
  | x :: xs, y :: ys => if x = y then cpL xs ys + 1 else 0
  | _, _ => 0
theorem cpL_le : ∀ xs ys : List UInt8, cpL xs ys ≤ xs.length ∧ cpL xs ys ≤ ys.length
  | [], ys => by simp [cpL]
  | x :: xs, [] => by simp [cpL]
  | x :: xs, y :: ys => by
    have h := cpL_le xs ys
    unfold cpL
    split <;> simp <;> omega
theorem cpL_comm : ∀ xs ys : List UInt8, cpL xs ys = cpL ys xs
  | [], ys => by cases ys <;> simp [cpL]
  | x :: xs, [] => by simp [cpL]
  | x :: xs, y :: ys => by
    unfold cpL
    rw [cpL_comm xs ys]
    by_cases h : x = y
    · subst h; rfl
    · rw [if_neg h, if_neg (fun e => h e.symm)]
/-- The lists agree up to 'k'. -/
def upto (xs ys : List UInt8) (k : Nat) : Prop := xs.take k = ys.take k ∧ k ≤ xs.length ∧ k ≤ ys.length
theorem upto_zero (xs ys : List UInt8) : upto xs ys 0 := ⟨rfl, Nat.zero_le _, Nat.zero_le _⟩
theorem upto_succ {xs ys : List UInt8} {k : Nat} (h : upto xs ys k) (h1 : k < xs.length) (h2 : k < ys.length) (he : xs[k] = ys[k]) : upto xs ys (k + 1) := by
  refine ⟨?_, h1, h2⟩
  rw [List.take_succ_eq_append_getElem h1, List.take_succ_eq_append_getElem h2, h.1, he]
theorem cpL_take : ∀ (k : Nat) (xs ys : List UInt8), upto xs ys k → cpL xs ys = k + cpL (xs.drop k) (ys.drop k)
  | 0, xs, ys, _ => by simp
  | k + 1, [], ys, h => by have := h.2.1; simp at this
  | k + 1, x :: xs, [], h => by have := h.2.2; simp at this
  | k + 1, x :: xs, y :: ys, h => by
    obtain ⟨h1, h2, h3⟩ := h
    simp at h1 h2 h3
    obtain ⟨rfl, h1⟩ := h1
    have := cpL_take k xs ys ⟨h1, h2, h3⟩
    rw [cpL, if_pos rfl, this, List.drop_succ_cons, List.drop_succ_cons]; omega
theorem cpL_end {xs ys : List UInt8} {k : Nat} (h : upto xs ys k) (hs : k = xs.length ∨ k = ys.length) : cpL xs ys = k := by
  rw [cpL_take k xs ys h]
  rcases hs with hs | hs
  · rw [List.drop_of_length_le (by omega)]; simp [cpL]
  · rw [List.drop_of_length_le (l := ys) (by omega)]; cases xs.drop k <;> simp [cpL]
theorem cpL_stop {xs ys : List UInt8} {k : Nat} (h : upto xs ys k) (h1 : k < xs.length) (h2 : k < ys.length) (he : xs[k] ≠ ys[k]) : cpL xs ys = k := by
  rw [cpL_take k xs ys h, List.drop_eq_getElem_cons h1, List.drop_eq_getElem_cons h2]
  simp [cpL, he]
theorem cpL_upto : ∀ xs ys : List UInt8, upto xs ys (cpL xs ys)
  | [], ys => by simp [cpL, upto]
  | x :: xs, [] => by simp [cpL, upto]
  | x :: xs, y :: ys => by
    have h := cpL_upto xs ys
    unfold cpL
    split
    · rename_i e
      subst e
      exact ⟨by simp [h.1], by simpa using h.2.1, by simpa using h.2.2⟩
    · exact upto_zero _ _
theorem cpL_ne (xs ys : List UInt8) (h1 : cpL xs ys < xs.length) (h2 : cpL xs ys < ys.length) : xs[cpL xs ys] ≠ ys[cpL xs ys] := by
  intro he
  have h := upto_succ (cpL_upto xs ys) h1 h2 he
  have := cpL_take _ _ _ h
  omega

/-- The common beginning of two texts. -/
def cp (a b : ByteArray) : Nat := cpL a.data.toList b.data.toList
/-- The common end of two texts behind 'h'. -/
def ce (a b : ByteArray) (h : Nat) : Nat := cpL (a.data.toList.drop h).reverse (b.data.toList.drop h).reverse
theorem len_size (a : ByteArray) : a.data.toList.length = a.size := by simp
theorem cp_le (a b : ByteArray) : cp a b ≤ a.size ∧ cp a b ≤ b.size := by
  have := cpL_le a.data.toList b.data.toList
  rwa [len_size, len_size] at this
theorem ce_le (a b : ByteArray) (h : Nat) : ce a b h ≤ a.size - h ∧ ce a b h ≤ b.size - h := by
  have := cpL_le (a.data.toList.drop h).reverse (b.data.toList.drop h).reverse
  simpa [ce] using this
theorem get_list (a : ByteArray) (k : Nat) (h : k < a.size) : a.data.toList[k]'(by simpa using h) = a[k] := rfl
theorem byte_eq {x y : UInt8} : ((x.toNat : Int) == (y.toNat : Int)) = decide (x = y) := by
  rw [Bool.eq_iff_iff]
  simp only [beq_iff_eq, decide_eq_true_eq]
  constructor
  · intro h; exact UInt8.toNat_inj.mp (by omega)
  · intro h; rw [h]

/-! the head's loop -/
def upC (a b : ByteArray) (k : Nat) : Prop := upto a.data.toList b.data.toList k
theorem upC_zero (a b : ByteArray) : upC a b 0 := upto_zero _ _
theorem upC_succ {a b : ByteArray} {k : Nat} (h : upC a b k) (h1 : k < a.size) (h2 : k < b.size) (he : ((a[k].toNat : Int) == (b[k].toNat : Int)) = true) : upC a b (k + 1) := by
  rw [byte_eq] at he
  exact upto_succ h (by simpa using h1) (by simpa using h2) (by rw [get_list _ _ h1, get_list _ _ h2]; exact of_decide_eq_true he)
theorem upC_stop {a b : ByteArray} {k : Nat} (h : upC a b k) (h1 : k < a.size) (h2 : k < b.size) (he : ((a[k].toNat : Int) == (b[k].toNat : Int)) = false) : cp a b = k := by
  rw [byte_eq] at he
  exact cpL_stop h (by simpa using h1) (by simpa using h2) (by rw [get_list _ _ h1, get_list _ _ h2]; exact of_decide_eq_false he)
theorem upC_end {a b : ByteArray} {k : Nat} (h : upC a b k) (hs : a.size ≤ k ∨ b.size ≤ k) : cp a b = k := by
  have h2 := h.2
  rw [len_size, len_size] at h2
  refine cpL_end h ?_
  rw [len_size, len_size]
  omega

/-! the end's loop -/
def upE (a b : ByteArray) (h k : Nat) : Prop := upto (a.data.toList.drop h).reverse (b.data.toList.drop h).reverse k
theorem upE_zero (a b : ByteArray) (h : Nat) : upE a b h 0 := upto_zero _ _
theorem get_end (a : ByteArray) (h k : Nat) (hk : k + h < a.size) : (a.data.toList.drop h).reverse[k]'(by simp; omega) = a[a.size - 1 - k] := by
  rw [List.getElem_reverse, List.getElem_drop, ← get_list]
  congr 1
  simp; omega
theorem upE_succ {a b : ByteArray} {h k : Nat} (hu : upE a b h k) (h1 : k + h < a.size) (h2 : k + h < b.size) (he : ((a[a.size - 1 - k].toNat : Int) == (b[b.size - 1 - k].toNat : Int)) = true) : upE a b h (k + 1) := by
  rw [byte_eq] at he
  exact upto_succ hu (by simp; omega) (by simp; omega) (by rw [get_end a h k h1, get_end b h k h2]; exact of_decide_eq_true he)
theorem upE_stop {a b : ByteArray} {h k : Nat} (hu : upE a b h k) (h1 : k + h < a.size) (h2 : k + h < b.size) (he : ((a[a.size - 1 - k].toNat : Int) == (b[b.size - 1 - k].toNat : Int)) = false) : ce a b h = k := by
  rw [byte_eq] at he
  exact cpL_stop hu (by simp; omega) (by simp; omega) (by rw [get_end a h k h1, get_end b h k h2]; exact of_decide_eq_false he)
theorem upE_end {a b : ByteArray} {h k : Nat} (hu : upE a b h k) (hs : a.size ≤ k + h ∨ b.size ≤ k + h) : ce a b h = k := by
  have h2 := hu.2
  simp at h2
  refine cpL_end hu ?_
  simp
  omega
theorem ce_cut (a b : ByteArray) (h : Nat) : ce (a.extract h a.size) (b.extract h b.size) 0 = ce a b h := by
  unfold ce
  simp only [ByteArray.data_extract, Array.toList_extract, List.extract_eq_take_drop, List.drop_zero]
  rw [List.take_of_length_le (by simp), List.take_of_length_le (by simp)]

end Go.Proofs.Ythannbkkpocejaa
