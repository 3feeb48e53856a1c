/-
  The texts of well-formed types tell them apart. Plain facts.
-/
import Derived.Test.YtncpakpamfocbabAa
import Derived.Test.YtncpakpamfocbabZj
namespace Go.Proofs.Ytncpakpamfocbab
open Go.RowKit

def btl (s : ByteArray) : List UInt8 := s.data.toList
theorem btl_app (a b : ByteArray) : btl (a ++ b) = btl a ++ btl b := by simp [btl, ByteArray.data_append]
theorem btl_one (c : UInt8) : btl ⟨#[c]⟩ = [c] := rfl
theorem btl_num (d : Nat) : btl (txt (d + 1) (.node 1 0 [])) = [73] := by rw [txt_num rfl]; rfl
theorem btl_var (d : Nat) (n : Int) : btl (txt (d + 1) (.node 4 n [])) = [UInt8.ofNat (97 + n.toNat)] := by rw [txt_var rfl]; rfl
def sepOf (k : Int) : UInt8 := if k = 3 then 42 else 62
theorem btl_two (d : Nat) (k : Int) (a b : Ty) (h : k = 2 ∨ k = 3) : btl (txt (d + 1) (.node k 0 [a, b])) = 40 :: (btl (txt d a) ++ (sepOf k :: (btl (txt d b) ++ [41]))) := by
  rcases h with rfl | rfl
  · rw [txt_fun rfl]; simp [btl_app, btl_one, sepOf, Ty.ks, List.getD]
  · rw [txt_pair rfl]; simp [btl_app, btl_one, sepOf, Ty.ks, List.getD]
theorem letter_ne {n : Int} (h0 : 0 ≤ n) (h1 : n ≤ 25) : UInt8.ofNat (97 + n.toNat) ≠ 73 ∧ UInt8.ofNat (97 + n.toNat) ≠ 40 := by
  constructor <;>
  · intro e
    have := congrArg UInt8.toNat e
    rw [UInt8.toNat_ofNat_of_lt' (by show 97 + n.toNat < 256; omega)] at this
    simp at this
    omega
theorem letter_inj {n m : Int} (h0 : 0 ≤ n) (h1 : n ≤ 25) (h2 : 0 ≤ m) (h3 : m ≤ 25) (e : UInt8.ofNat (97 + n.toNat) = UInt8.ofNat (97 + m.toNat)) : n = m := by
  have := congrArg UInt8.toNat e
  rw [UInt8.toNat_ofNat_of_lt' (by show 97 + n.toNat < 256; omega), UInt8.toNat_ofNat_of_lt' (by show 97 + m.toNat < 256; omega)] at this
  omega
theorem sep_inj {k k' : Int} (h : k = 2 ∨ k = 3) (h' : k' = 2 ∨ k' = 3) (e : sepOf k = sepOf k') : k = k' := by
  rcases h with rfl | rfl <;> rcases h' with rfl | rfl <;> simp [sepOf] at e ⊢
/-- The texts are told apart, whatever follows. -/
theorem txt_inj : ∀ (d : Nat) (x y : Ty) (r r' : List UInt8), shp d x = true → shp d y = true → btl (txt d x) ++ r = btl (txt d y) ++ r' → x = y ∧ r = r' := by
  intro d
  induction d with
  | zero => intro x y r r' h; cases h
  | succ d ih =>
    intro x y r r' hx hy e
    rcases shp_forms hx with rfl | ⟨n, n0, n1, rfl⟩ | ⟨k, a, b, hk, rfl, ha, hb⟩ <;> rcases shp_forms hy with rfl | ⟨m, m0, m1, rfl⟩ | ⟨k', a', b', hk', rfl, ha', hb'⟩
    · rw [btl_num] at e; simpa using e
    · rw [btl_num, btl_var] at e
      injection e with e1 _
      exact absurd e1.symm (letter_ne m0 m1).1
    · rw [btl_num, btl_two _ _ _ _ hk'] at e
      injection e with e1 _
      cases e1
    · rw [btl_num, btl_var] at e
      injection e with e1 _
      exact absurd e1 (letter_ne n0 n1).1
    · rw [btl_var, btl_var] at e
      injection e with e1 e2
      have := letter_inj n0 n1 m0 m1 e1
      subst this
      exact ⟨rfl, e2⟩
    · rw [btl_var, btl_two _ _ _ _ hk'] at e
      injection e with e1 _
      exact absurd e1 (letter_ne n0 n1).2
    · rw [btl_num, btl_two _ _ _ _ hk] at e
      injection e with e1 _
      cases e1
    · rw [btl_var, btl_two _ _ _ _ hk] at e
      injection e with e1 _
      exact absurd e1.symm (letter_ne m0 m1).2
    · rw [btl_two _ _ _ _ hk, btl_two _ _ _ _ hk'] at e
      have e2 : btl (txt d a) ++ (sepOf k :: (btl (txt d b) ++ (41 :: r))) = btl (txt d a') ++ (sepOf k' :: (btl (txt d b') ++ (41 :: r'))) := by simpa using e
      obtain ⟨rfl, e3⟩ := ih a a' _ _ ha ha' e2
      injection e3 with e4 e5
      obtain ⟨rfl, e6⟩ := ih b b' _ _ hb hb' e5
      have := sep_inj hk hk' e4
      subst this
      injection e6 with _ e7
      exact ⟨rfl, e7⟩
theorem txt_pos : ∀ (d : Nat) (x : Ty), shp d x = true → btl (txt d x) ≠ [] := by
  intro d x h
  cases d with
  | zero => cases h
  | succ d =>
    rcases shp_forms h with rfl | ⟨n, n0, n1, rfl⟩ | ⟨k, a, b, hk, rfl, ha, hb⟩
    · rw [btl_num]; simp
    · rw [btl_var]; simp
    · rw [btl_two _ _ _ _ hk]; simp
theorem fmtT_empty {t : Ty} (h : fmtT t = ⟨#[]⟩) : tvT t = false := by
  rcases hv : tvT t with _ | _
  · rfl
  · rw [fmtT_yes hv] at h
    exact absurd (congrArg btl h) (txt_pos 16 t (tvT_shp hv))
/-- Types with a text are the same exactly if their texts are. -/
theorem fmtT_inj {x y : Ty} (h : fmtT x = fmtT y) (hx : fmtT x ≠ ⟨#[]⟩) : x = y := by
  rcases hv : tvT x with _ | _
  · exact absurd (fmtT_no hv) hx
  · rcases hw : tvT y with _ | _
    · rw [h] at hx; exact absurd (fmtT_no hw) hx
    · rw [fmtT_yes hv, fmtT_yes hw] at h
      exact (txt_inj 16 x y [] [] (tvT_shp hv) (tvT_shp hw) (by rw [h])).1

end Go.Proofs.Ytncpakpamfocbab
