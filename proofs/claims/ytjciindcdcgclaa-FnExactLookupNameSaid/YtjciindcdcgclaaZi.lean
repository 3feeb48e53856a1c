/-
  FormatType of the program and of the model: for every type in memory, its text; what was in memory stays.
-/
import Derived.Test.YtjciindcdcgclaaZe
import Derived.Laws.IdiomStrings
import Derived.Laws.Concat
import Derived.Maps.AppendAt
import Derived.BigQuiet
import Derived.Deep.RegionHeld3
import Derived.Deep.DeepCutAuto
namespace Go.Proofs.Ytjciindcdcgclaa
open Go.RowKit

/-- The text of a type, down to a depth. -/
def txt : Nat → Ty → ByteArray
  | 0, _ => ⟨#[]⟩
  | d + 1, t => if t.k = 1 then ⟨#[73]⟩ else if t.k = 4 then ⟨#[UInt8.ofNat (97 + t.n.toNat)]⟩
    else ⟨#[40]⟩ ++ txt d (t.ks.getD 0 Ty.dummy) ++ (if t.k = 3 then ⟨#[42]⟩ else ⟨#[62]⟩) ++ txt d (t.ks.getD 1 Ty.dummy) ++ ⟨#[41]⟩
theorem txt_num {d : Nat} {t : Ty} (h : t.k = 1) : txt (d + 1) t = ⟨#[73]⟩ := by rw [txt, if_pos h]
theorem txt_var {d : Nat} {t : Ty} (h : t.k = 4) : txt (d + 1) t = ⟨#[UInt8.ofNat (97 + t.n.toNat)]⟩ := by rw [txt, if_neg (by omega), if_pos h]
theorem txt_fun {d : Nat} {t : Ty} (h : t.k = 2) : txt (d + 1) t = ⟨#[40]⟩ ++ txt d (t.ks.getD 0 Ty.dummy) ++ ⟨#[62]⟩ ++ txt d (t.ks.getD 1 Ty.dummy) ++ ⟨#[41]⟩ := by
  rw [txt, if_neg (by omega), if_neg (by omega), if_neg (by omega)]
theorem txt_pair {d : Nat} {t : Ty} (h : t.k = 3) : txt (d + 1) t = ⟨#[40]⟩ ++ txt d (t.ks.getD 0 Ty.dummy) ++ ⟨#[42]⟩ ++ txt d (t.ks.getD 1 Ty.dummy) ++ ⟨#[41]⟩ := by
  rw [txt, if_neg (by omega), if_neg (by omega), if_pos h]
theorem one_size (c : UInt8) : (⟨#[c]⟩ : ByteArray).size = 1 := rfl
theorem txt_size : ∀ (d : Nat) (t : Ty), shp d t = true → (txt d t).size + 3 ≤ 2 ^ (d + 2) := by
  intro d
  induction d with
  | zero => intro t h; cases h
  | succ d ih =>
    intro t h
    obtain ⟨hf, hk⟩ := shp_iff.1 h
    have hp : 2 ^ (d + 1 + 2) = 2 * 2 ^ (d + 2) := by rw [Nat.pow_succ]; omega
    have h4 : 4 ≤ 2 ^ (d + 2) := by have : 2 ^ 2 ≤ 2 ^ (d + 2) := Nat.pow_le_pow_right (by omega) (by omega); simpa using this
    rcases fieldsB_iff.1 hf with ⟨h1, _, _⟩ | ⟨h1, _, h2⟩ | ⟨h1, _, _, _⟩
    · rw [txt_num h1, one_size]; omega
    · have i0 := ih _ (hk 0 (by omega))
      have i1 := ih _ (hk 1 (by omega))
      rcases h1 with h1 | h1
      · rw [txt_fun h1]; simp only [ByteArray.size_append, one_size]; omega
      · rw [txt_pair h1]; simp only [ByteArray.size_append, one_size]; omega
    · rw [txt_var h1, one_size]; omega
theorem txt_le {d : Nat} {t : Ty} (hd : d ≤ 16) (h : shp d t = true) : (txt d t).size ≤ 262144 := by
  have h1 := txt_size d t h
  have h2 : 2 ^ (d + 2) ≤ 262144 := Nat.le_trans (Nat.pow_le_pow_right (by omega) (show d + 2 ≤ 18 by omega)) (by decide)
  omega
theorem enc_letter {n : Int} (h0 : 0 ≤ n) (h1 : n ≤ 25) : Utf8.encode (97 + n) = ⟨#[UInt8.ofNat (97 + n.toNat)]⟩ := by
  obtain ⟨m, rfl⟩ : ∃ m : Nat, n = m := ⟨n.toNat, by omega⟩
  have key : ∀ m : Fin 26, Utf8.encode (97 + (m.val : Int)) = ⟨#[UInt8.ofNat (97 + (m.val : Int).toNat)]⟩ := by decide
  exact key ⟨m, by omega⟩
structure TBox3 (w : World) (B : Nat) (z : Value) : Prop where
  c2 : w.cell? ⟨B, 2, none⟩ = some z
  sz : B < w.heap.size
theorem TBox3.kept {w w' : World} {B : Nat} {z : Value} (h : TBox3 w B z) (hb : Below w.heap.size w w') : TBox3 w' B z :=
  ⟨(hb.cell (p := ⟨B, 2, none⟩) h.sz).trans h.c2, Nat.lt_of_lt_of_le h.sz hb.size⟩
theorem tbox3_new (w : World) (x y z : Value) (T : TypeId) : TBox3 (w.alloc (.cells #[x, y, z] T)) w.heap.size z := ⟨by go_simp, by simp⟩
def TextIs (s : ByteArray) (w : World) (e : Ending) (w' : World) : Prop := e = .returned (.string s) ∧ Below w.heap.size w w'

end Go.Proofs.Ytjciindcdcgclaa
