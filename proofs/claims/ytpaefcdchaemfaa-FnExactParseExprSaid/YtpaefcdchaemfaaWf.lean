/-
  A function, read by the model.
-/
import Derived.Test.YtpaefcdchaemfaaWe
namespace Go.Proofs.Ytpaefcdchaemfaa
open Go.RowKit Go.Proofs.Ytpaefcdchaemfaa.Ox
set_option linter.unusedVariables false
set_option linter.unusedSimpArgs false

theorem below7 {w W : World} {S : Nat} (hS : w.heap.size = S) (h : Below S w W) (hw : S < W.heap.size) (a b c d e : Value) (o1 o2 : Obj) : Below w.heap.size w (((put5 W S a b c d e).alloc o1).alloc o2) := by
  have h5 := below5 hS h a b c d e
  have hz : (put5 W S a b c d e).heap.size = W.heap.size := by simp [put5]
  exact (h5.alloc (by rw [hz, hS]; omega) _).alloc (by simp; rw [hz, hS]; omega) _
theorem fin_lit1 {w W : World} {S : Nat} {x : Ex} {v : Value} (hS : w.heap.size = S) (hx : ExIn W (S + 1) W.heap.size x v) (hw : S < W.heap.size) (a b c d e : Value) (o1 : Obj) (T : TypeId) (k n : Int) (m s : ByteArray) :
    ExIn (((put5 W S a b c d e).alloc o1).alloc (.cells #[.int .i64 x.k, .int .i64 x.n, .string x.m, .string x.s, v] T)) w.heap.size (((put5 W S a b c d e).alloc o1).alloc (.cells #[.int .i64 x.k, .int .i64 x.n, .string x.m, .string x.s, v] T)).heap.size (.node k n m s [x]) (.slice (some ⟨W.heap.size + 1, 0, none⟩) 1 1) := by
  have hz : (put5 W S a b c d e).heap.size = W.heap.size := by simp [put5]
  have h1 := (ex5 hS hx a b c d e).kept ((Below.refl _ _).alloc (Nat.le_refl _) o1)
  have h2 := ex_lit1 h1 (Nat.le_refl _) (by simp) (by simp; rw [hz, hS]; omega) T k n m s
  have e1 : ((put5 W S a b c d e).alloc o1).heap.size = W.heap.size + 1 := by simp [hz]
  have e2 : (((put5 W S a b c d e).alloc o1).alloc (.cells #[.int .i64 x.k, .int .i64 x.n, .string x.m, .string x.s, v] T)).heap.size = W.heap.size + 1 + 1 := by simp [hz]
  rw [e1] at h2
  rw [e2]
  exact h2
theorem sizeX (w : World) (o : Obj) : (w.alloc o).heap.size = w.heap.size + 1 := by simp
set_option maxRecDepth 100000 in
set_option maxHeartbeats 4000000 in
theorem l3Fun_any (s : ByteArray) (hs : s.size ≤ 1048576) (d : Nat) (D : Int) (hD : D = (d : Int)) (HIH : Hid (PxT s d)) (i : Nat) (I : Int) (hI : I = i) (hi : i ≤ s.size) (w : World) :
    Calls Try.prog 21 #[.string s, .int .i64 I, .int .i64 D] w fun e w' => XRet w e w' (pxF (px s d) s i) := by
  obtain ⟨S, hS⟩ : ∃ S, w.heap.size = S := ⟨_, rfl⟩
  have HS := Lib.hid hS
  obtain ⟨W1, hW1⟩ : ∃ W, w.alloc (.cells #[.int .i64 0, .int .i64 0, .string ⟨#[]⟩, .string ⟨#[]⟩, .slice none 0 0] 24) = W := ⟨_, rfl⟩
  have HW1 := Lib.hid hW1
  have HR1 : Hid (R5 W1 S) := Lib.hid (by rw [← hW1, ← hS]; exact r5_new w _)
  have HB1 : Hid (Below S w W1) := Lib.hid (by rw [← hW1, ← hS]; exact (Below.refl _ _).alloc (Nat.le_refl _) _)
  have hz1 : W1.heap.size = S + 1 := by rw [← hW1, ← hS]; simp
  have HI := Lib.hid hI
  have HD := Lib.hid hD
  have hi2 : i ≤ 1048577 := by omega
  have hin : I ≤ 1048577 ∧ 0 ≤ I := by omega
  obtain ⟨in1, in2⟩ := hin
  unfold pxF
  clear hI hD hW1
  by_cases h1 : sml (by8 s i) = true
  case neg =>
    rw [if_neg h1]
    have H1 := Lib.hid (sml_no h1)
    have HN : Hid (-1 - I = -1 - (i : Int)) := Lib.hid (by rw [HI.out])
    have hneg : -1 - I < 0 := by omega
    clear h1
    go_enter Try.func21, Try.ntmps21
    go_wp2_with fail
    rw [HW1.out]
    try rw [hS]
    go_at_call 33
    refine (bind_no1 s i I HI.out hs hi2 46 H1.out _).mono ?_
    rintro e w2 ⟨rfl, rfl⟩
    obtain ⟨p0, p1, p2, p3, p4, f0, f1, f2, f3, f4, psz⟩ := HR1.out
    go_wp2_with fail
    exact bodyPost_ret (v := .tuple #[.agg #[.int .i64 0, .int .i64 0, .string ⟨#[]⟩, .string ⟨#[]⟩, .slice none 0 0], .int .i64 (-1 - I)]) (by simp [results, Try.results21, go_sem, p0, p1, p2, p3, p4, psz]) rfl ⟨_, _, _, _, _, _, _, _, HN.out, rfl, below5 HS.out HB1.out _ _ _ _ _⟩
  rw [if_pos h1]
  have H1 := Lib.hid h1
  by_cases h2 : by8 s (i + 1) = 46
  case neg =>
    rw [if_neg h2]
    have H2 : Hid ((by8 s (i + 1) == 46) = false) := Lib.hid (beq_eq_false_iff_ne.2 h2)
    have HN : Hid (-2 - I = -1 - ((i + 1 : Nat) : Int)) := Lib.hid (by have := HI.out; omega)
    have hneg : -2 - I < 0 := by omega
    clear h1 h2
    go_enter Try.func21, Try.ntmps21
    go_wp2_with fail
    rw [HW1.out]
    try rw [hS]
    go_at_call 33
    refine (bind_no2 s i I HI.out hs hi2 46 (by omega) H1.out H2.out _).mono ?_
    rintro e w2 ⟨rfl, rfl⟩
    obtain ⟨p0, p1, p2, p3, p4, f0, f1, f2, f3, f4, psz⟩ := HR1.out
    go_wp2_with fail
    exact bodyPost_ret (v := .tuple #[.agg #[.int .i64 0, .int .i64 0, .string ⟨#[]⟩, .string ⟨#[]⟩, .slice none 0 0], .int .i64 (-2 - I)]) (by simp [results, Try.results21, go_sem, p0, p1, p2, p3, p4, psz]) rfl ⟨_, _, _, _, _, _, _, _, HN.out, rfl, below5 HS.out HB1.out _ _ _ _ _⟩
  rw [if_pos h2]
  have H2 : Hid ((by8 s (i + 1) == 46) = true) := Lib.hid (beq_iff_eq.2 h2)
  have hi3 : i + 2 ≤ s.size := by have := by8_lt (s := s) (i := i + 1) (by omega); omega
  have HI2 : Hid (I + 2 = ((i + 2 : Nat) : Int)) := Lib.hid (by have := HI.out; omega)
  have hpos : ¬ I + 2 < 0 := by omega
  clear h1 h2
  rcases hp : px s d (i + 2) with ⟨x, n2⟩ | k
  case no =>
    have HP := Lib.hid hp
    have hin := px_in s d (i + 2) hi3
    rw [hp] at hin
    have hk : k ≤ s.size + 1 := hin
    clear hp hin
    go_enter Try.func21, Try.ntmps21
    go_wp2_with fail
    rw [HW1.out]
    try rw [hS]
    go_at_call 33
    refine (bind_yes s i I HI.out hs hi2 46 (by omega) H1.out H2.out _).mono ?_
    rintro e w2 ⟨rfl, rfl⟩
    go_wp2_with fail
    go_at_call 9
    refine (HIH.out _ D (I + 2) (i + 2) HD.out HI2.out hi3).mono ?_
    rintro e w3 hx
    rw [HP.out] at hx
    obtain ⟨q1, q2, q3, q4, q5, q6, q7, N, hN, rfl, hb⟩ := hx
    have HN := Lib.hid hN
    have HR3 := Lib.hid (HR1.out.kept hb)
    have HB3 := Lib.hid (HB1.out.trans (hb.mono (by omega)))
    have hw3 : S < w3.heap.size := HR3.out.sz
    clear hb hN
    obtain ⟨p0, p1, p2, p3, p4, f0, f1, f2, f3, f4, psz⟩ := HR3.out
    go_wp2_with fail
    exact bodyPost_ret (v := .tuple #[.agg #[.int .i64 3, .int .i64 0, .string ⟨#[]⟩, .string (s.extract i (i + 1)), .slice (some ⟨w3.heap.size + 1, 0, none⟩) 1 1], .int .i64 N]) (by simp [results, Try.results21, go_sem, p0, p1, p2, p3, p4, psz]) rfl ⟨_, _, _, _, _, _, _, _, HN.out, rfl, below7 HS.out HB3.out hw3 _ _ _ _ _ _ _⟩
  case ok =>
    have HP := Lib.hid hp
    clear hp
    go_enter Try.func21, Try.ntmps21
    go_wp2_with fail
    rw [HW1.out]
    try rw [hS]
    go_at_call 33
    refine (bind_yes s i I HI.out hs hi2 46 (by omega) H1.out H2.out _).mono ?_
    rintro e w2 ⟨rfl, rfl⟩
    go_wp2_with fail
    go_at_call 9
    refine (HIH.out _ D (I + 2) (i + 2) HD.out HI2.out hi3).mono ?_
    rintro e w3 hx
    rw [HP.out] at hx
    obtain ⟨v, N, hN, rfl, hex, hb⟩ := hx
    have HEX := Lib.hid hex
    obtain ⟨xa, xc, rfl, _⟩ := hex.at.slice
    have HN := Lib.hid hN
    have HR3 := Lib.hid (HR1.out.kept hb)
    have HB3 := Lib.hid (HB1.out.trans (hb.mono (by omega)))
    have hw3 : S < w3.heap.size := HR3.out.sz
    clear hb hN hex
    obtain ⟨p0, p1, p2, p3, p4, f0, f1, f2, f3, f4, psz⟩ := HR3.out
    go_wp2_with fail
    exact bodyPost_ret (v := .tuple #[.agg #[.int .i64 3, .int .i64 0, .string ⟨#[]⟩, .string (s.extract i (i + 1)), .slice (some ⟨w3.heap.size + 1, 0, none⟩) 1 1], .int .i64 N]) (by simp [results, Try.results21, go_sem, p0, p1, p2, p3, p4, psz]) rfl ⟨_, N, HN.out, rfl, fin_lit1 HS.out (by have h := HEX.out; rw [hz1] at h; exact h) hw3 _ _ _ _ _ _ _ _ _ _ _, below7 HS.out HB3.out hw3 _ _ _ _ _ _ _⟩

end Go.Proofs.Ytpaefcdchaemfaa
