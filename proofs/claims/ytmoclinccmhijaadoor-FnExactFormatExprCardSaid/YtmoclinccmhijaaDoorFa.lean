/-
  The text of an expression (plain), and how long it is.
-/
import Derived.Test.YtmoclinccmhijaaDoorOf
import Derived.Test.YtmoclinccmhijaaDoorRb
import Derived.Lib.ItoaNum
namespace Go.Proofs.YtmoclinccmhijaaDoor.Ox
open Go.Proofs.YtmoclinccmhijaaDoor
open Go.RowKit
set_option linter.unusedVariables false
set_option linter.unusedSimpArgs false

/-- A number in decimal. -/
def decB (n : Int) : ByteArray := ⟨(Lib.decDigits n.toNat).toArray⟩
/-- The text of a form: its bytes, with the name and the operands' texts in place. -/
def frmX (f : Ex → ByteArray) (s : ByteArray) : List UInt8 → List Ex → ByteArray
  | [], _ => ⟨#[]⟩
  | c :: bs, ks => if c = 120 then s ++ frmX f s bs ks else if c = 69 then f (ks.headD Ex.dummy) ++ frmX f s bs ks.tail else ⟨#[c]⟩ ++ frmX f s bs ks
/-- The text of an expression, down to a depth. -/
def txE : Nat → Ex → ByteArray
  | 0, _ => ⟨#[]⟩
  | d + 1, .node k n m s ks => if k = 1 then decB n else if k = 2 then (pathB m s) else frmX (txE d) s (formX k).data.toList ks
theorem nd_sum (d : Nat) (k n : Int) (m s : ByteArray) (ks : List Ex) : ndX (d + 1) (.node k n m s ks) = 1 + (ks.map (ndX d)).sum := by
  show 1 + ((List.range ks.length).map fun i => ndX d (ks.getD i Ex.dummy)).sum = _
  congr 2
  apply List.ext_getElem (by simp)
  intro i h1 h2
  simp at h1 h2
  simp [List.getD, h1]
theorem emp_small {s : ByteArray} (h : s.toList.isEmpty = true) : s.size ≤ 1 := by
  have h1 := List.isEmpty_iff.1 h
  have h2 : s.data.toList = [] := by first | (rw [← Lib.toList_data]; exact h1) | (rw [Lib.toList_data] at h1; exact h1)
  have h3 : s.data.toList.length = s.size := by simp
  rw [h2] at h3
  simp at h3
  omega
theorem one_small {lo hi : Int} {s : ByteArray} (h : oneB lo hi s = true) : s.size ≤ 1 := by
  by_cases e : s.size = 1
  · omega
  · rw [oneB_no e] at h; cases h
theorem name_small {b : Bool} {s : ByteArray} (h : nameOk b s = true) : s.size ≤ 1 := by
  unfold nameOk at h
  split at h
  · exact one_small h
  · exact emp_small h
theorem fields_small {k n : Int} {m s : ByteArray} {l : Nat} (h : fieldsX k n m s l = true) : m.size ≤ 1 ∧ s.size ≤ 1 := by
  have hb : ∀ (bx : Bool) (c : Nat), fitB bx c n m s l = true → m.size ≤ 1 ∧ s.size ≤ 1 := by
    intro bx c h
    unfold fitB at h
    simp only [Bool.and_eq_true] at h
    exact ⟨emp_small h.2.1, name_small h.2.2.1⟩
  unfold fieldsX at h
  repeat' split at h
  all_goals first
    | exact hb _ _ h
    | (unfold fit1 at h; simp only [Bool.and_eq_true] at h; exact ⟨emp_small h.2.1, emp_small h.2.2.1⟩)
    | (unfold fit2 at h; simp only [Bool.and_eq_true, Bool.or_eq_true] at h; exact ⟨h.2.1.elim emp_small one_small, one_small h.2.2.1⟩)
    | cases h
/-- The kinds of a right node. -/
theorem fields_kind {k n : Int} {m s : ByteArray} {l : Nat} (h : fieldsX k n m s l = true) :
    (k = 1 ∧ 0 ≤ n ∧ n ≤ 99 ∧ l = 0) ∨ (k = 2 ∧ l = 0) ∨ (k = 3 ∧ l = 1) ∨ (k = 4 ∧ l = 2) ∨ (k = 5 ∧ l = 2) ∨ (k = 6 ∧ l = 2) ∨ (k = 7 ∧ l = 3) ∨ (k = 8 ∧ l = 2) ∨ (k = 9 ∧ l = 1) ∨ (k = 10 ∧ l = 1) := by
  have hb : ∀ (bx : Bool) (c : Nat), fitB bx c n m s l = true → l = c := by
    intro bx c h
    unfold fitB at h
    simp only [Bool.and_eq_true, decide_eq_true_eq] at h
    exact h.2.2.2
  unfold fieldsX at h
  repeat' split at h
  · next e => unfold fit1 inB at h; simp only [Bool.and_eq_true, decide_eq_true_eq] at h; exact .inl ⟨e, by omega, by omega, h.2.2.2⟩
  · next e => unfold fit2 at h; simp only [Bool.and_eq_true, decide_eq_true_eq] at h; exact .inr (.inl ⟨e, h.2.2.2⟩)
  all_goals first
    | (have h1 := hb _ _ h; omega)
    | cases h
theorem dec_one (n : Nat) (h : n < 10) : decB (n : Int) = ⟨#[UInt8.ofNat (48 + n)]⟩ := by
  unfold decB; rw [Int.toNat_natCast, Lib.decDigits_one h]
theorem dec_two (n : Nat) (h1 : 10 ≤ n) (h2 : n < 100) : decB (n : Int) = ⟨#[UInt8.ofNat (48 + n / 10)]⟩ ++ ⟨#[UInt8.ofNat (48 + n % 10)]⟩ := by
  unfold decB; rw [Int.toNat_natCast, Lib.decDigits_two (by omega) h2]; rfl
theorem dec_small (n : Nat) (h : n < 100) : (decB (n : Int)).size ≤ 2 := by
  by_cases h1 : n < 10
  · rw [dec_one n h1]; show 1 ≤ 2; omega
  · rw [dec_two n (by omega) h]; show 2 ≤ 2; omega
theorem frm_size (f : Ex → ByteArray) (s : ByteArray) (hs : s.size ≤ 1) : ∀ (bs : List UInt8) (ks : List Ex), (bs.filter (· = 69)).length ≤ ks.length → (frmX f s bs ks).size ≤ bs.length + (ks.map fun k => (f k).size).sum
  | [], ks, _ => by show 0 ≤ _; omega
  | c :: bs, ks, h => by
    unfold frmX
    by_cases h1 : c = 120
    · subst h1
      have := frm_size f s hs bs ks (by simpa using h)
      rw [if_pos rfl, ByteArray.size_append]
      simp only [List.length_cons]
      omega
    rw [if_neg h1]
    by_cases h2 : c = 69
    · subst h2
      rw [if_pos rfl, ByteArray.size_append]
      cases ks with
      | nil => simp at h
      | cons k ks =>
        have h3 : (bs.filter (· = 69)).length ≤ ks.length := by simp at h; omega
        have := frm_size f s hs bs ks h3
        simp only [List.length_cons, List.map_cons, List.sum_cons, List.headD_cons, List.tail_cons]
        omega
    rw [if_neg h2, ByteArray.size_append]
    have h3 : (bs.filter (· = 69)).length ≤ ks.length := by simpa [h2] using h
    have := frm_size f s hs bs ks h3
    have h4 : (⟨#[c]⟩ : ByteArray).size = 1 := rfl
    simp only [List.length_cons]
    omega
theorem sum_le8 (f : Ex → Nat) (g : Ex → Nat) : ∀ ks : List Ex, (∀ k ∈ ks, f k ≤ 8 * g k) → (ks.map f).sum ≤ 8 * (ks.map g).sum
  | [], _ => by simp
  | k :: ks, h => by
    have h1 := h k (List.mem_cons_self ..)
    have h2 := sum_le8 f g ks (fun x hx => h x (List.mem_cons_of_mem _ hx))
    simp only [List.map_cons, List.sum_cons]
    omega
theorem tx_size : ∀ (d : Nat) (x : Ex), shpX d x = true → (txE d x).size ≤ 8 * ndX d x := by
  intro d
  induction d with
  | zero => intro x h; cases h
  | succ d ih =>
    intro x h
    obtain ⟨hf, hk⟩ := shpX_iff.1 h
    cases x with
    | node k n m s ks =>
      have hf' : fieldsX k n m s ks.length = true := hf
      have hk' : ∀ i, i < ks.length → shpX d (ks.getD i Ex.dummy) = true := hk
      obtain ⟨hm, hs⟩ := fields_small hf'
      have hkm : ∀ y ∈ ks, (txE d y).size ≤ 8 * ndX d y := by
        intro y hy
        obtain ⟨i, hi, rfl⟩ := List.getElem_of_mem hy
        have := ih _ (hk' i hi)
        simpa [List.getD, hi] using this
      have hsum := sum_le8 (fun k => (txE d k).size) (ndX d) ks hkm
      rw [nd_sum]
      unfold txE
      have key : ∀ (F : ByteArray), formX k = F → F.size ≤ 8 → (F.data.toList.filter (· = 69)).length ≤ ks.length → ¬ k = 1 → ¬ k = 2 → (if k = 1 then decB n else if k = 2 then (pathB m s) else frmX (txE d) s (formX k).data.toList ks).size ≤ 8 * (1 + (ks.map (ndX d)).sum) := by
        intro F hF h8 hc h1 h2
        rw [if_neg h1, if_neg h2, hF]
        have := frm_size (txE d) s hs F.data.toList ks hc
        have hl : F.data.toList.length = F.size := by simp
        omega
      rcases fields_kind hf' with ⟨rfl, h0, h9, hl⟩ | ⟨rfl, hl⟩ | ⟨rfl, hl⟩ | ⟨rfl, hl⟩ | ⟨rfl, hl⟩ | ⟨rfl, hl⟩ | ⟨rfl, hl⟩ | ⟨rfl, hl⟩ | ⟨rfl, hl⟩ | ⟨rfl, hl⟩
      · rw [if_pos rfl]
        have := dec_small n.toNat (by omega)
        have e : ((n.toNat : Nat) : Int) = n := by omega
        rw [e] at this
        omega
      · rw [if_neg (by decide), if_pos rfl]
        have h4 : (⟨#[46]⟩ : ByteArray).size = 1 := rfl
        unfold pathB
        split
        · omega
        · rw [ByteArray.size_append, ByteArray.size_append]; omega
      all_goals exact key _ rfl (by decide) (by rw [hl]; decide) (by decide) (by decide)

end Go.Proofs.YtmoclinccmhijaaDoor.Ox
