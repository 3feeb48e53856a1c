/-
  A function and a binding, read by the model.
-/
import Derived.Test.YtpaefcdchaemfaaWd
namespace Go.Proofs.Ytpaefcdchaemfaa
open Go.RowKit Go.Proofs.Ytpaefcdchaemfaa.Ox
set_option linter.unusedVariables false
set_option linter.unusedSimpArgs false

theorem sml_no {c : Int} (h : ¬ sml c = true) : sml c = false := by cases hs : sml c with | true => exact absurd hs h | false => rfl
set_option maxHeartbeats 1000000 in
theorem bind_no1 (s : ByteArray) (i : Nat) (I : Int) (hI : I = i) (hs : s.size ≤ 1048576) (hi : i ≤ 1048577) (c : Int) (h1 : sml (by8 s i) = false) (w : World) :
    Calls Try.prog 33 #[.string s, .int .i64 I, .int .u8 c] w fun e w' => e = .returned (.tuple #[.string ⟨#[]⟩, .int .i64 (-1 - I)]) ∧ w' = w := by
  have h4 : (0 : Int) ≤ I := by omega
  have h5 : I ≤ 1048577 := by omega
  have s1 : IntKind.i64.wrap (-1 - I) = -1 - I := IntWalk.i64_in _ (by omega)
  have H1 := Lib.hid h1
  have hi2 : i ≤ 1048600 := by omega
  have HI := Lib.hid hI
  clear hI
  go_enter Try.func33, Try.ntmps33
  go_wp2_with fail
  go_at_call 17
  refine (l3IsSmall_any s i I HI.out hs hi2 _).mono ?_
  rintro e w1 ⟨rfl, rfl⟩
  rw [H1.out]
  go_wp2_with fail
  go_ret2
  exact ⟨rfl, rfl⟩
set_option maxHeartbeats 1000000 in
theorem bind_no2 (s : ByteArray) (i : Nat) (I : Int) (hI : I = i) (hs : s.size ≤ 1048576) (hi : i ≤ 1048577) (c : Int) (hc : c ≠ 0) (h1 : sml (by8 s i) = true) (h2 : (by8 s (i + 1) == c) = false) (w : World) :
    Calls Try.prog 33 #[.string s, .int .i64 I, .int .u8 c] w fun e w' => e = .returned (.tuple #[.string ⟨#[]⟩, .int .i64 (-2 - I)]) ∧ w' = w := by
  have h4 : (0 : Int) ≤ I := by omega
  have h5 : I ≤ 1048577 := by omega
  have s1 : IntKind.i64.wrap (-2 - I) = -2 - I := IntWalk.i64_in _ (by omega)
  have s2 : IntKind.i64.wrap (I + 1) = I + 1 := IntWalk.i64_in _ (by omega)
  have H1 := Lib.hid h1
  have H2 := Lib.hid h2
  have HI1 : Hid (I + 1 = ((i + 1 : Nat) : Int)) := Lib.hid (by omega)
  have hi2 : i ≤ 1048600 := by omega
  have HI := Lib.hid hI
  clear hI
  clear h2
  go_enter Try.func33, Try.ntmps33
  go_wp2_with fail
  go_at_call 17
  refine (l3IsSmall_any s i I HI.out hs hi2 _).mono ?_
  rintro e w1 ⟨rfl, rfl⟩
  rw [H1.out]
  go_wp2_with fail
  go_at_call 23
  refine (sign_at s (i + 1) _ HI1.out c false hc H2.out _).mono ?_
  rintro e w1 ⟨rfl, rfl⟩
  go_wp2_with fail
  go_ret2
  exact ⟨rfl, rfl⟩
set_option maxHeartbeats 1000000 in
theorem bind_yes (s : ByteArray) (i : Nat) (I : Int) (hI : I = i) (hs : s.size ≤ 1048576) (hi : i ≤ 1048577) (c : Int) (hc : c ≠ 0) (h1 : sml (by8 s i) = true) (h2 : (by8 s (i + 1) == c) = true) (w : World) :
    Calls Try.prog 33 #[.string s, .int .i64 I, .int .u8 c] w fun e w' => e = .returned (.tuple #[.string (s.extract i (i + 1)), .int .i64 (I + 2)]) ∧ w' = w := by
  have s1 : IntKind.i64.wrap (I + 2) = I + 2 := IntWalk.i64_in _ (by omega)
  have s2 : IntKind.i64.wrap (I + 1) = I + 1 := IntWalk.i64_in _ (by omega)
  have h3 : i < s.size := sml_lt h1
  have h4 : (0 : Int) ≤ I := by omega
  have h5 : I ≤ I + 1 := by omega
  have h6 : I + 1 ≤ (s.size : Int) := by omega
  have HT : Hid (I.toNat = i ∧ (I + 1).toNat = i + 1) := Lib.hid (by omega)
  have H1 := Lib.hid h1
  have H2 := Lib.hid h2
  have HI1 : Hid (I + 1 = ((i + 1 : Nat) : Int)) := Lib.hid (by omega)
  have hi2 : i ≤ 1048600 := by omega
  have HI := Lib.hid hI
  clear h2 hI h3
  go_enter Try.func33, Try.ntmps33
  go_wp2_with fail
  go_at_call 17
  refine (l3IsSmall_any s i I HI.out hs hi2 _).mono ?_
  rintro e w1 ⟨rfl, rfl⟩
  rw [H1.out]
  go_wp2_with fail
  go_at_call 23
  refine (sign_at s (i + 1) _ HI1.out c true hc H2.out _).mono ?_
  rintro e w1 ⟨rfl, rfl⟩
  go_wp2_with fail
  go_ret2
  refine ⟨?_, rfl⟩
  show Ending.returned (.tuple #[.string (s.extract I.toNat (I + 1).toNat), .int .i64 (I + 2)]) = _
  rw [HT.out.1, HT.out.2]

theorem below5 {w W : World} {S : Nat} (hS : w.heap.size = S) (h : Below S w W) (a b c d e : Value) : Below w.heap.size w (put5 W S a b c d e) := by
  subst hS; exact put5_below h (Nat.le_refl _) _ _ _ _ _
theorem ex5 {w W : World} {S : Nat} {t : Ex} {v : Value} (hS : w.heap.size = S) (h : ExIn W (S + 1) W.heap.size t v) (a b c d e : Value) : ExIn (put5 W S a b c d e) w.heap.size (put5 W S a b c d e).heap.size t v := by
  subst hS; exact put5_ex h (Nat.le_refl _) _ _ _ _ _
/-- A row of one expression, laid at once. -/
theorem ex_lit1 {w : World} {lo a b : Nat} {x : Ex} {v : Value} (hx : ExIn w a b x v) (h1 : lo ≤ a) (h2 : b ≤ w.heap.size) (h3 : lo ≤ w.heap.size) (T : TypeId) (k n : Int) (m s : ByteArray) :
    ExIn (w.alloc (.cells #[.int .i64 x.k, .int .i64 x.n, .string x.m, .string x.s, v] T)) lo (w.heap.size + 1) (.node k n m s [x]) (.slice (some ⟨w.heap.size, 0, none⟩) 1 1) := by
  have hb := ebox_new w (.int .i64 x.k) (.int .i64 x.n) (.string x.m) (.string x.s) v T
  refine .row lo (w.heap.size + 1) k n m s [x] w.heap.size 1 (fun _ => v) (fun _ => a) (fun _ => b) h3 (by omega) (row_at (by rfl)) (by simp) (fun i hi => ?_) (fun i hi => ?_) (fun i hi => ⟨h1, by omega, by omega⟩) (fun i j h4 h5 => ?_) (fun i hi => ?_)
  · obtain rfl : i = 0 := by simp at hi; omega
    exact ⟨hb.c0, hb.c1, hb.c2, hb.c3, hb.c4⟩
  · obtain rfl | rfl | rfl | rfl | rfl : i = 0 ∨ i = 1 ∨ i = 2 ∨ i = 3 ∨ i = 4 := by simp at hi; omega
    all_goals go_simp
  · simp at h5; omega
  · obtain rfl : i = 0 := by simp at hi; omega
    exact hx.kept ((Below.refl _ _).alloc (Nat.le_refl _) _)

end Go.Proofs.Ytpaefcdchaemfaa
