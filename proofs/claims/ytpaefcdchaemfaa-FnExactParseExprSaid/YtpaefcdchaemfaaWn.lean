/-
  ParseExpr of the model: the valid expression with which the text ends.
-/
import Derived.Test.YtpaefcdchaemfaaWm
import Derived.Test.YtpaefcdchaemfaaOf
namespace Go.Proofs.Ytpaefcdchaemfaa
open Go.RowKit Go.Proofs.Ytpaefcdchaemfaa.Ox
set_option linter.unusedVariables false
set_option linter.unusedSimpArgs false

/-- The valid expression that a text is. -/
def pxE (s : ByteArray) : Option Ex :=
  match px s 12 0 with
  | .ok x n => if n = s.size ∧ okX 12 x = true then some x else none
  | .no _ => none
/-- What ParseExpr returns. -/
def PeRet (w : World) (e : Ending) (w' : World) : Option Ex → Prop
  | some x => ∃ v, e = .returned (.tuple #[.agg #[.int .i64 x.k, .int .i64 x.n, .string x.m, .string x.s, v], .bool true]) ∧ ExIn w' w.heap.size w'.heap.size x v ∧ Below w.heap.size w w'
  | none => e = .returned (.tuple #[.agg #[.int .i64 0, .int .i64 0, .string ⟨#[]⟩, .string ⟨#[]⟩, .slice none 0 0], .bool false]) ∧ Below w.heap.size w w'
theorem PeRet.of {w w' : World} {e : Ending} {r r' : Option Ex} (h : PeRet w e w' r) (hr : r' = r) : PeRet w e w' r' := by rw [hr]; exact h
set_option maxRecDepth 100000 in
set_option maxHeartbeats 8000000 in
theorem pe_no (s : ByteArray) (hs : s.size ≤ 1048576) (w : World) (k : Nat) (HP : Hid (px s 12 0 = .no k)) :
    Calls Try.prog 4 #[.string s] w fun e w' => PeRet w e w' none := by
  obtain ⟨S, hS⟩ : ∃ S, w.heap.size = S := ⟨_, rfl⟩
  have HS := Lib.hid hS
  obtain ⟨W1, hW1⟩ : ∃ W, w.alloc (.cells #[.int .i64 0, .int .i64 0, .string ⟨#[]⟩, .string ⟨#[]⟩, .slice none 0 0] 24) = W := ⟨_, rfl⟩
  have HW1 := Lib.hid hW1
  have HR1 : Hid (R5 W1 S) := Lib.hid (by rw [← hW1, ← hS]; exact r5_new w _)
  have HB1 : Hid (Below S w W1) := Lib.hid (by rw [← hW1, ← hS]; exact (Below.refl _ _).alloc (Nat.le_refl _) _)
  have hz1 : W1.heap.size = S + 1 := by rw [← hW1, ← hS]; simp
  have HT := Lib.hid (pxT_all s hs 12 (by omega))
  clear hW1
  go_enter Try.func4, Try.ntmps4
  go_wp2_with fail
  rw [HW1.out]
  try rw [hS]
  go_at_call 9
  refine (HT.out _ 12 0 0 rfl rfl (Nat.zero_le _)).mono ?_
  rintro e w3 hx
  rw [HP.out] at hx
  obtain ⟨q1, q2, q3, q4, q5, q6, q7, N, hN, rfl, hb⟩ := hx
  have hne : (N == (s.size : Int)) = false := by rw [beq_eq_false_iff_ne]; omega
  have hne2 : (N != (s.size : Int)) = true := by unfold bne; rw [hne]; rfl
  have hne3 : ¬ N = (s.size : Int) := by omega
  have HR3 := Lib.hid (HR1.out.kept hb)
  have HB3 := Lib.hid (HB1.out.trans (hb.mono (by omega)))
  clear hb hN
  obtain ⟨p0, p1, p2, p3, p4, f0, f1, f2, f3, f4, psz⟩ := HR3.out
  go_wp2_with fail
  exact bodyPost_ret (v := .tuple #[.agg #[.int .i64 0, .int .i64 0, .string ⟨#[]⟩, .string ⟨#[]⟩, .slice none 0 0], .bool false]) (by simp [results, Try.results4, go_sem, p0, p1, p2, p3, p4, psz]) rfl ⟨rfl, below6 HS.out HB3.out HR3.out.sz _ _ _ _ _ _⟩
set_option maxRecDepth 100000 in
set_option maxHeartbeats 8000000 in
theorem pe_off (s : ByteArray) (hs : s.size ≤ 1048576) (w : World) (x : Ex) (n : Nat) (HP : Hid (px s 12 0 = .ok x n)) (hn : ¬ n = s.size) :
    Calls Try.prog 4 #[.string s] w fun e w' => PeRet w e w' none := by
  obtain ⟨S, hS⟩ : ∃ S, w.heap.size = S := ⟨_, rfl⟩
  have HS := Lib.hid hS
  obtain ⟨W1, hW1⟩ : ∃ W, w.alloc (.cells #[.int .i64 0, .int .i64 0, .string ⟨#[]⟩, .string ⟨#[]⟩, .slice none 0 0] 24) = W := ⟨_, rfl⟩
  have HW1 := Lib.hid hW1
  have HR1 : Hid (R5 W1 S) := Lib.hid (by rw [← hW1, ← hS]; exact r5_new w _)
  have HB1 : Hid (Below S w W1) := Lib.hid (by rw [← hW1, ← hS]; exact (Below.refl _ _).alloc (Nat.le_refl _) _)
  have hz1 : W1.heap.size = S + 1 := by rw [← hW1, ← hS]; simp
  have HT := Lib.hid (pxT_all s hs 12 (by omega))
  clear hW1
  go_enter Try.func4, Try.ntmps4
  go_wp2_with fail
  rw [HW1.out]
  try rw [hS]
  go_at_call 9
  refine (HT.out _ 12 0 0 rfl rfl (Nat.zero_le _)).mono ?_
  rintro e w3 hx
  rw [HP.out] at hx
  obtain ⟨v, N, hN, rfl, hex, hb⟩ := hx
  obtain ⟨xa, xc, rfl, _⟩ := hex.at.slice
  have HEX := Lib.hid hex
  have HR3 := Lib.hid (HR1.out.kept hb)
  have HB3 := Lib.hid (HB1.out.trans (hb.mono (by omega)))
  clear hb hex
  have hne : (N == (s.size : Int)) = false := by rw [beq_eq_false_iff_ne]; omega
  have hne2 : (N != (s.size : Int)) = true := by unfold bne; rw [hne]; rfl
  have hne3 : ¬ N = (s.size : Int) := by omega
  clear hN hn
  obtain ⟨p0, p1, p2, p3, p4, f0, f1, f2, f3, f4, psz⟩ := HR3.out
  go_wp2_with fail
  exact bodyPost_ret (v := .tuple #[.agg #[.int .i64 0, .int .i64 0, .string ⟨#[]⟩, .string ⟨#[]⟩, .slice none 0 0], .bool false]) (by simp [results, Try.results4, go_sem, p0, p1, p2, p3, p4, psz]) rfl ⟨rfl, below6 HS.out HB3.out HR3.out.sz _ _ _ _ _ _⟩
set_option maxRecDepth 100000 in
set_option maxHeartbeats 8000000 in
theorem pe_bad (s : ByteArray) (hs : s.size ≤ 1048576) (w : World) (x : Ex) (n : Nat) (HP : Hid (px s 12 0 = .ok x n)) (hn : n = s.size) (HV : Hid (okX 12 x = false)) :
    Calls Try.prog 4 #[.string s] w fun e w' => PeRet w e w' none := by
  obtain ⟨S, hS⟩ : ∃ S, w.heap.size = S := ⟨_, rfl⟩
  have HS := Lib.hid hS
  obtain ⟨W1, hW1⟩ : ∃ W, w.alloc (.cells #[.int .i64 0, .int .i64 0, .string ⟨#[]⟩, .string ⟨#[]⟩, .slice none 0 0] 24) = W := ⟨_, rfl⟩
  have HW1 := Lib.hid hW1
  have HR1 : Hid (R5 W1 S) := Lib.hid (by rw [← hW1, ← hS]; exact r5_new w _)
  have HB1 : Hid (Below S w W1) := Lib.hid (by rw [← hW1, ← hS]; exact (Below.refl _ _).alloc (Nat.le_refl _) _)
  have hz1 : W1.heap.size = S + 1 := by rw [← hW1, ← hS]; simp
  have HT := Lib.hid (pxT_all s hs 12 (by omega))
  clear hW1
  go_enter Try.func4, Try.ntmps4
  go_wp2_with fail
  rw [HW1.out]
  try rw [hS]
  go_at_call 9
  refine (HT.out _ 12 0 0 rfl rfl (Nat.zero_le _)).mono ?_
  rintro e w3 hx
  rw [HP.out] at hx
  obtain ⟨v, N, hN, rfl, hex, hb⟩ := hx
  obtain ⟨xa, xc, rfl, _⟩ := hex.at.slice
  have HEX := Lib.hid hex
  have HR3 := Lib.hid (HR1.out.kept hb)
  have HB3 := Lib.hid (HB1.out.trans (hb.mono (by omega)))
  clear hb hex
  have hne : (N == (s.size : Int)) = true := by rw [beq_iff_eq]; omega
  have hne2 : (N != (s.size : Int)) = false := by unfold bne; rw [hne]; rfl
  clear hN hn
  obtain ⟨W4, hW4⟩ : ∃ W, w3.alloc (.cells #[.int .i64 x.k, .int .i64 x.n, .string x.m, .string x.s, .slice xa x.ks.length xc] 24) = W := ⟨_, rfl⟩
  obtain ⟨E, hE⟩ : ∃ E, w3.heap.size = E := ⟨_, rfl⟩
  have hbA : Below w3.heap.size w3 W4 := by rw [← hW4]; exact (Below.refl _ _).alloc (Nat.le_refl _) _
  have HBX := Lib.hid (ebox_new w3 (.int .i64 x.k) (.int .i64 x.n) (.string x.m) (.string x.s) (.slice xa x.ks.length xc) 24)
  rw [hW4, hE] at HBX
  have HR4 := Lib.hid (HR3.out.kept hbA)
  have HB4 := Lib.hid (HB3.out.trans (hbA.mono (by have := HR3.out.sz; omega)))
  have hSE : ¬ E = S := by have := HR3.out.sz; omega
  have hSE2 : ¬ S = E := by omega
  have HW4 := Lib.hid hW4
  obtain ⟨b0, b1, b2, b3, b4, bz⟩ := HBX.out
  have HX4 := Lib.hid (HEX.out.kept hbA)
  clear hW4 hbA
  go_wp2_with fail
  rw [HW4.out]
  try rw [hE]
  go_at_call 10
  refine (exprValid_spec x _ _ HX4.out.at).mono ?_
  rintro e w5 ⟨rfl, hb5⟩
  rw [HV.out]
  have HR5 := Lib.hid (HR4.out.kept hb5)
  have HB5 := Lib.hid (HB4.out.trans (hb5.mono (by have := HR4.out.sz; omega)))
  have HBX5 := Lib.hid (HBX.out.kept hb5)
  have HX5 := Lib.hid (HX4.out.kept hb5)
  have hz5 := hb5.size
  clear hb5 b0 b1 b2 b3 b4 bz
  obtain ⟨b0, b1, b2, b3, b4, bz⟩ := HBX5.out
  obtain ⟨p0, p1, p2, p3, p4, f0, f1, f2, f3, f4, psz⟩ := HR5.out
  go_wp2_with fail
  exact bodyPost_ret (v := .tuple #[.agg #[.int .i64 0, .int .i64 0, .string ⟨#[]⟩, .string ⟨#[]⟩, .slice none 0 0], .bool false]) (by simp [results, Try.results4, go_sem, p0, p1, p2, p3, p4, psz, hSE]) rfl ⟨rfl, below5 HS.out HB5.out _ _ _ _ _⟩
set_option maxRecDepth 100000 in
set_option maxHeartbeats 8000000 in
theorem pe_good (s : ByteArray) (hs : s.size ≤ 1048576) (w : World) (x : Ex) (n : Nat) (HP : Hid (px s 12 0 = .ok x n)) (hn : n = s.size) (HV : Hid (okX 12 x = true)) :
    Calls Try.prog 4 #[.string s] w fun e w' => PeRet w e w' (some x) := by
  obtain ⟨S, hS⟩ : ∃ S, w.heap.size = S := ⟨_, rfl⟩
  have HS := Lib.hid hS
  obtain ⟨W1, hW1⟩ : ∃ W, w.alloc (.cells #[.int .i64 0, .int .i64 0, .string ⟨#[]⟩, .string ⟨#[]⟩, .slice none 0 0] 24) = W := ⟨_, rfl⟩
  have HW1 := Lib.hid hW1
  have HR1 : Hid (R5 W1 S) := Lib.hid (by rw [← hW1, ← hS]; exact r5_new w _)
  have HB1 : Hid (Below S w W1) := Lib.hid (by rw [← hW1, ← hS]; exact (Below.refl _ _).alloc (Nat.le_refl _) _)
  have hz1 : W1.heap.size = S + 1 := by rw [← hW1, ← hS]; simp
  have HT := Lib.hid (pxT_all s hs 12 (by omega))
  clear hW1
  go_enter Try.func4, Try.ntmps4
  go_wp2_with fail
  rw [HW1.out]
  try rw [hS]
  go_at_call 9
  refine (HT.out _ 12 0 0 rfl rfl (Nat.zero_le _)).mono ?_
  rintro e w3 hx
  rw [HP.out] at hx
  obtain ⟨v, N, hN, rfl, hex, hb⟩ := hx
  obtain ⟨xa, xc, rfl, _⟩ := hex.at.slice
  have HEX := Lib.hid hex
  have HR3 := Lib.hid (HR1.out.kept hb)
  have HB3 := Lib.hid (HB1.out.trans (hb.mono (by omega)))
  clear hb hex
  have hne : (N == (s.size : Int)) = true := by rw [beq_iff_eq]; omega
  have hne2 : (N != (s.size : Int)) = false := by unfold bne; rw [hne]; rfl
  clear hN hn
  obtain ⟨W4, hW4⟩ : ∃ W, w3.alloc (.cells #[.int .i64 x.k, .int .i64 x.n, .string x.m, .string x.s, .slice xa x.ks.length xc] 24) = W := ⟨_, rfl⟩
  obtain ⟨E, hE⟩ : ∃ E, w3.heap.size = E := ⟨_, rfl⟩
  have hbA : Below w3.heap.size w3 W4 := by rw [← hW4]; exact (Below.refl _ _).alloc (Nat.le_refl _) _
  have HBX := Lib.hid (ebox_new w3 (.int .i64 x.k) (.int .i64 x.n) (.string x.m) (.string x.s) (.slice xa x.ks.length xc) 24)
  rw [hW4, hE] at HBX
  have HR4 := Lib.hid (HR3.out.kept hbA)
  have HB4 := Lib.hid (HB3.out.trans (hbA.mono (by have := HR3.out.sz; omega)))
  have hSE : ¬ E = S := by have := HR3.out.sz; omega
  have hSE2 : ¬ S = E := by omega
  have HW4 := Lib.hid hW4
  obtain ⟨b0, b1, b2, b3, b4, bz⟩ := HBX.out
  have HX4 := Lib.hid (HEX.out.kept hbA)
  clear hW4 hbA
  go_wp2_with fail
  rw [HW4.out]
  try rw [hE]
  go_at_call 10
  refine (exprValid_spec x _ _ HX4.out.at).mono ?_
  rintro e w5 ⟨rfl, hb5⟩
  rw [HV.out]
  have HR5 := Lib.hid (HR4.out.kept hb5)
  have HB5 := Lib.hid (HB4.out.trans (hb5.mono (by have := HR4.out.sz; omega)))
  have HBX5 := Lib.hid (HBX.out.kept hb5)
  have HX5 := Lib.hid (HX4.out.kept hb5)
  have hz5 := hb5.size
  clear hb5 b0 b1 b2 b3 b4 bz
  obtain ⟨b0, b1, b2, b3, b4, bz⟩ := HBX5.out
  obtain ⟨p0, p1, p2, p3, p4, f0, f1, f2, f3, f4, psz⟩ := HR5.out
  go_wp2_with fail
  exact bodyPost_ret (v := .tuple #[.agg #[.int .i64 x.k, .int .i64 x.n, .string x.m, .string x.s, .slice xa x.ks.length xc], .bool true]) (by simp [results, Try.results4, go_sem, p0, p1, p2, p3, p4, psz, hSE]) rfl ⟨_, rfl, ex5 HS.out ((HX5.out).wide (by omega) (by have := HX5; omega)) _ _ _ _ _, below5 HS.out HB5.out _ _ _ _ _⟩
theorem parseExpr_spec (s : ByteArray) (hs : s.size ≤ 1048576) (w : World) : Calls Try.prog 4 #[.string s] w fun e w' => PeRet w e w' (pxE s) := by
  unfold pxE
  rcases hp : px s 12 0 with ⟨x, n⟩ | k
  case no => exact pe_no s hs w k (Lib.hid hp)
  case ok =>
  dsimp only
  by_cases hn : n = s.size
  case neg => rw [if_neg (fun h => hn h.1)]; exact pe_off s hs w x n (Lib.hid hp) hn
  cases hv : okX 12 x with
  | true => rw [if_pos ⟨hn, rfl⟩]; exact pe_good s hs w x n (Lib.hid hp) hn (Lib.hid hv)
  | false => rw [if_neg (fun h => by cases h.2)]; exact pe_bad s hs w x n (Lib.hid hp) hn (Lib.hid hv)

end Go.Proofs.Ytpaefcdchaemfaa
