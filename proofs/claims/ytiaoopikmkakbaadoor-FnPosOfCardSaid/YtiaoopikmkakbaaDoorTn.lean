/-
  The place of an offset in a text: the number of newlines before it, and how far it is behind the last of them. Plain facts, for every text and every offset in it.
-/
import Derived.Test.YtiaoopikmkakbaaDoorTa
import Derived.Lib.LastIndexByte
import Derived.Lib.Bytealg
namespace Go.Proofs.YtiaoopikmkakbaaDoor
open Go.RowKit

/-- The line of offset k: the newlines among the first k bytes. -/
def lnN (s : ByteArray) (k : Nat) : Nat := Lib.countByte (s.data.toList.take k) 10
/-- The column of offset k. -/
def colN (s : ByteArray) (k : Nat) : Int := (k : Int) - (Lib.lastIdx s 10 k + 1)
theorem lnN_zero (s : ByteArray) : lnN s 0 = 0 := by unfold lnN Lib.countByte; simp
theorem colN_zero (s : ByteArray) : colN s 0 = 0 := by unfold colN Lib.lastIdx; simp
theorem at_bang (s : ByteArray) (k : Nat) (h : k < s.size) : s.data[k]! = s[k] := by
  rw [getElem!_pos s.data k (by simpa using h)]; rfl
theorem lnN_le (s : ByteArray) (k : Nat) : lnN s k ≤ k := by
  unfold lnN Lib.countByte
  exact Nat.le_trans List.count_le_length (by simp; omega)
theorem lnN_nl (s : ByteArray) (k : Nat) (h : k < s.size) (hb : ((s[k].toNat : Int) == 10) = true) : lnN s (k + 1) = lnN s k + 1 := by
  have e : s[k] = 10 := by
    simp only [beq_iff_eq] at hb
    exact UInt8.toNat_inj.mp (by have : s[k].toNat = 10 := (by omega); rw [this]; rfl)
  unfold lnN Lib.countByte
  rw [take_snoc s k h, List.count_append, e]
  simp
theorem lnN_other (s : ByteArray) (k : Nat) (h : k < s.size) (hb : ((s[k].toNat : Int) == 10) = false) : lnN s (k + 1) = lnN s k := by
  have e : s[k] ≠ 10 := by
    intro e
    rw [e] at hb
    simp at hb
  unfold lnN Lib.countByte
  rw [take_snoc s k h, List.count_append, List.count_singleton, if_neg (by simpa using e)]
  rfl
theorem colN_nl (s : ByteArray) (k : Nat) (h : k < s.size) (hb : ((s[k].toNat : Int) == 10) = true) : colN s (k + 1) = 0 := by
  unfold colN
  rw [Lib.lastIdx, at_bang s k h, if_pos (by simpa using hb)]
  omega
theorem colN_other (s : ByteArray) (k : Nat) (h : k < s.size) (hb : ((s[k].toNat : Int) == 10) = false) : colN s (k + 1) = colN s k + 1 := by
  unfold colN
  rw [Lib.lastIdx, at_bang s k h, if_neg (by simpa using hb)]
  omega
theorem colN_bd (s : ByteArray) : ∀ k : Nat, 0 ≤ colN s k ∧ colN s k ≤ k
  | 0 => by rw [colN_zero]; omega
  | k + 1 => by
    have h := colN_bd s k
    unfold colN at *
    rw [Lib.lastIdx]
    split <;> omega
/-- The same bytes give the same place. -/
theorem lastIdx_cut (s : ByteArray) (n : Nat) (hn : n ≤ s.size) : ∀ k : Nat, k ≤ n → Lib.lastIdx (s.extract 0 n) 10 k = Lib.lastIdx s 10 k
  | 0, _ => rfl
  | k + 1, hk => by
    have ih := lastIdx_cut s n hn k (by omega)
    have hk2 : k < (s.extract 0 n).size := by simp only [ByteArray.size_extract]; omega
    have hk3 : k < s.size := by omega
    have e : (s.extract 0 n).data[k]! = s.data[k]! := by
      rw [at_bang _ k hk2, at_bang s k hk3]
      have h1 : (s.extract 0 n).data.toList[k]? = some (s.extract 0 n)[k] := by rw [List.getElem?_eq_getElem (by rw [ByteArray.size] at hk2; simpa using hk2)]; rfl
      have h2 : s.data.toList[k]? = some s[k] := by rw [List.getElem?_eq_getElem (by simp; omega)]; rfl
      have h3 : (s.extract 0 n).data.toList = s.data.toList.take n := by
        simp only [ByteArray.data_extract, Array.toList_extract, List.extract_eq_take_drop, List.drop_zero, Nat.sub_zero]
      rw [h3, List.getElem?_take_of_lt (by omega), h2] at h1
      exact (Option.some.inj h1).symm
    rw [Lib.lastIdx, Lib.lastIdx, e, ih]
theorem col_cut (s : ByteArray) (n : Nat) (hn : n ≤ s.size) : (n : Int) - (Lib.lastIndexByte (s.extract 0 n) 10 + 1) = colN s n := by
  unfold Lib.lastIndexByte colN
  have e : (s.extract 0 n).size = n := by simp only [ByteArray.size_extract]; omega
  rw [e, lastIdx_cut s n hn n (Nat.le_refl _)]
theorem ln_cut (s : ByteArray) (n : Nat) : Lib.countByte (s.extract 0 n).data.toList 10 = lnN s n := by
  unfold lnN
  simp only [ByteArray.data_extract, Array.toList_extract, List.extract_eq_take_drop, List.drop_zero, Nat.sub_zero]

end Go.Proofs.YtiaoopikmkakbaaDoor
