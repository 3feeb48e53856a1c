/-
  Plain facts on the difference of two texts: its bytes differ at both ends; the difference of a text from itself is empty. For all texts.
-/
import Derived.Test.YthannbkkpocejaaProg
import Derived.Test.YthannbkkpocejaaUh
namespace Go.Proofs.Ythannbkkpocejaa
open Go.RowKit

theorem idx_last (P : Program) (T : TypeId) (h : P.underlying T = some .string) (a : ByteArray) (hk : 0 < a.size) (w : World) :
    (Instr.index T (.string a) (.int .i64 ((a.size : Int) - 1))).run P w = .ok (.int .u8 ((a[a.size - 1]'(by omega)).toNat : Int)) w := by
  have ht : ((a.size : Int) - 1).toNat = a.size - 1 := by omega
  rw [run_index_string _ _ _ _ _ h, dif_pos ⟨by omega, by omega⟩]
  simp only [ht]
theorem get_opt (a : ByteArray) (k : Nat) (h : k < a.size) : a.data.toList[k]? = some a[k] := by
  rw [List.getElem?_eq_getElem (by simpa using h)]; rfl
theorem ext_get (a : ByteArray) (p q k : Nat) (h : k < (a.extract p q).size) (h2 : p + k < a.size) : (a.extract p q)[k] = a[p + k] := by
  have h1 := get_opt (a.extract p q) k h
  have h3 := get_opt a (p + k) h2
  rw [ext_list, List.getElem?_take_of_lt (by simp only [ByteArray.size_extract] at h; omega), List.getElem?_drop, h3] at h1
  exact (Option.some.inj h1).symm
/-- The first bytes differ. -/
theorem dif_first {a b : ByteArray} {f t : Int} {i : ByteArray} (h : Dif a b f t i) (hc : 0 < (a.extract f.toNat t.toNat).size) (hi : 0 < i.size) : (a.extract f.toNat t.toNat)[0] ≠ i[0] := by
  obtain ⟨h0, h1, h2, h3, h4, h5⟩ := h.facts
  have ht := h.ht
  have hle := ce_le a b (cp a b)
  have hc' := hc
  simp only [ByteArray.size_extract] at hc'
  have ka : cp a b < a.size := by omega
  have kb : cp a b < b.size := by omega
  have hne := cpL_ne a.data.toList b.data.toList (by rw [sz_list]; exact ka) (by rw [sz_list]; exact kb)
  obtain ⟨rfl, rfl, rfl⟩ := h
  rw [ext_get a _ _ 0 hc (by omega), ext_get b _ _ 0 hi (by omega)]
  intro he
  apply hne
  show a[cp a b] = b[cp a b]
  simpa using he
/-- The last bytes differ. -/
theorem dif_last {a b : ByteArray} {f t : Int} {i : ByteArray} (h : Dif a b f t i) (hc : 0 < (a.extract f.toNat t.toNat).size) (hi : 0 < i.size) : (a.extract f.toNat t.toNat)[(a.extract f.toNat t.toNat).size - 1] ≠ i[i.size - 1] := by
  obtain ⟨h0, h1, h2, h3, h4, h5⟩ := h.facts
  have ht := h.ht
  have hle := ce_le a b (cp a b)
  have hc' := hc
  simp only [ByteArray.size_extract] at hc'
  have ka : ce a b (cp a b) + cp a b < a.size := by omega
  have kb : ce a b (cp a b) + cp a b < b.size := by omega
  have hne := cpL_ne (a.data.toList.drop (cp a b)).reverse (b.data.toList.drop (cp a b)).reverse (by simp only [List.length_reverse, List.length_drop, sz_list]; show ce a b (cp a b) < _; omega) (by simp only [List.length_reverse, List.length_drop, sz_list]; show ce a b (cp a b) < _; omega)
  have hne2 : a[a.size - 1 - ce a b (cp a b)] ≠ b[b.size - 1 - ce a b (cp a b)] := by
    rw [← get_end a _ _ ka, ← get_end b _ _ kb]
    exact hne
  obtain ⟨rfl, rfl, rfl⟩ := h
  have e1 : ((cp a b : Int)).toNat + ((a.extract ((cp a b : Int)).toNat ((a.size : Int) - ce a b (cp a b)).toNat).size - 1) = a.size - 1 - ce a b (cp a b) := by simp only [ByteArray.size_extract]; omega
  have e2 : cp a b + ((b.extract (cp a b) (b.size - ce a b (cp a b))).size - 1) = b.size - 1 - ce a b (cp a b) := by simp only [ByteArray.size_extract]; omega
  rw [ext_get a _ _ _ (by omega) (by omega), ext_get b _ _ _ (by omega) (by omega)]
  intro he
  apply hne2
  simp only [e1, e2] at he
  exact he
theorem bempty {x : ByteArray} (h : x.size = 0) : x = ⟨#[]⟩ := by
  apply bext
  have : x.data.toList.length = 0 := by rw [sz_list]; exact h
  exact List.length_eq_zero_iff.mp this
theorem dif_same {a : ByteArray} {f t : Int} {i : ByteArray} (h : Dif a a f t i) : i = ⟨#[]⟩ ∧ a.extract f.toNat t.toNat = ⟨#[]⟩ := by
  obtain ⟨h0, h1, h2, h3, h4, h5⟩ := h.facts
  have hcp : cp a a = a.size := by
    have hl := cpL_le a.data.toList a.data.toList
    by_cases hx : cpL a.data.toList a.data.toList < a.data.toList.length
    · exact absurd rfl (cpL_ne a.data.toList a.data.toList hx hx)
    · rw [sz_list] at *; unfold cp; omega
  have hsz : (a.extract f.toNat t.toNat).size = 0 := by simp only [ByteArray.size_extract]; omega
  exact ⟨bempty (by omega), bempty hsz⟩
theorem byte_ne {x y : UInt8} (h : x ≠ y) : ((x.toNat : Int) == (y.toNat : Int)) = false := by rw [byte_eq]; exact decide_eq_false h

end Go.Proofs.Ythannbkkpocejaa
