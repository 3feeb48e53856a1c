/-
  A binding, read by the model; a node of operands.
-/
import Derived.Test.YtpaefcdchaemfaaWf
namespace Go.Proofs.Ytpaefcdchaemfaa
open Go.RowKit Go.Proofs.Ytpaefcdchaemfaa.Ox
set_option linter.unusedVariables false
set_option linter.unusedSimpArgs false

theorem sg2 (j : Nat) (hj : j < (⟨#[59, 125]⟩ : ByteArray).size) : by8 ⟨#[59, 125]⟩ j = ([59, 125] : List Int).getD j 0 ∧ ([59, 125] : List Int).getD j 0 ≠ 0 := by
  obtain rfl | rfl : j = 0 ∨ j = 1 := by have : (⟨#[59, 125]⟩ : ByteArray).size = 2 := rfl; omega
  · exact ⟨by decide, by decide⟩
  · exact ⟨by decide, by decide⟩
theorem fin_ser {w W : World} {S : Nat} {t : Ex} {v : Value} (hS : w.heap.size = S) (hx : ExIn W (S + 1) W.heap.size t v) (a b c d e : Value) : ExIn (put5 W S a b c d e) w.heap.size (put5 W S a b c d e).heap.size t v := ex5 hS hx a b c d e
set_option maxRecDepth 100000 in
set_option maxHeartbeats 4000000 in
theorem l3Let_any (s : ByteArray) (hs : s.size ≤ 1048576) (d : Nat) (D : Int) (hD : D = (d : Int)) (HIH : Hid (PxT s d)) (i : Nat) (I : Int) (hI : I = i) (hi : i ≤ s.size) (w : World) :
    Calls Try.prog 22 #[.string s, .int .i64 I, .int .i64 D] w fun e w' => XRet w e w' (pxL (px s d) s i) := by
  obtain ⟨S, hS⟩ : ∃ S, w.heap.size = S := ⟨_, rfl⟩
  have HS := Lib.hid hS
  obtain ⟨W1, hW1⟩ : ∃ W, w.alloc (.cells #[.int .i64 0, .int .i64 0, .string ⟨#[]⟩, .string ⟨#[]⟩, .slice none 0 0] 24) = W := ⟨_, rfl⟩
  have HW1 := Lib.hid hW1
  have HR1 : Hid (R5 W1 S) := Lib.hid (by rw [← hW1, ← hS]; exact r5_new w _)
  have HB1 : Hid (Below S w W1) := Lib.hid (by rw [← hW1, ← hS]; exact (Below.refl _ _).alloc (Nat.le_refl _) _)
  have hz1 : W1.heap.size = S + 1 := by rw [← hW1, ← hS]; simp
  have HI := Lib.hid hI
  have HD := Lib.hid hD
  have hi2 : i ≤ 1048577 := by omega
  have hin : I ≤ 1048577 ∧ 0 ≤ I := by omega
  obtain ⟨in1, in2⟩ := hin
  unfold pxL
  clear hI hD hW1
  by_cases h1 : sml (by8 s i) = true
  case neg =>
    rw [if_neg h1]
    have H1 := Lib.hid (sml_no h1)
    have HN : Hid (-1 - I = -1 - (i : Int)) := Lib.hid (by rw [HI.out])
    have hneg : -1 - I < 0 := by omega
    clear h1
    go_enter Try.func22, Try.ntmps22
    go_wp2_with fail
    rw [HW1.out]
    try rw [hS]
    go_at_call 33
    refine (bind_no1 s i I HI.out hs hi2 61 H1.out _).mono ?_
    rintro e w2 ⟨rfl, rfl⟩
    obtain ⟨p0, p1, p2, p3, p4, f0, f1, f2, f3, f4, psz⟩ := HR1.out
    go_wp2_with fail
    exact bodyPost_ret (v := .tuple #[.agg #[.int .i64 0, .int .i64 0, .string ⟨#[]⟩, .string ⟨#[]⟩, .slice none 0 0], .int .i64 (-1 - I)]) (by simp [results, Try.results22, go_sem, p0, p1, p2, p3, p4, psz]) rfl ⟨_, _, _, _, _, _, _, _, HN.out, rfl, below5 HS.out HB1.out _ _ _ _ _⟩
  rw [if_pos h1]
  have H1 := Lib.hid h1
  by_cases h2 : by8 s (i + 1) = 61
  case neg =>
    rw [if_neg h2]
    have H2 : Hid ((by8 s (i + 1) == 61) = false) := Lib.hid (beq_eq_false_iff_ne.2 h2)
    have HN : Hid (-2 - I = -1 - ((i + 1 : Nat) : Int)) := Lib.hid (by have := HI.out; omega)
    have hneg : -2 - I < 0 := by omega
    clear h1 h2
    go_enter Try.func22, Try.ntmps22
    go_wp2_with fail
    rw [HW1.out]
    try rw [hS]
    go_at_call 33
    refine (bind_no2 s i I HI.out hs hi2 61 (by omega) H1.out H2.out _).mono ?_
    rintro e w2 ⟨rfl, rfl⟩
    obtain ⟨p0, p1, p2, p3, p4, f0, f1, f2, f3, f4, psz⟩ := HR1.out
    go_wp2_with fail
    exact bodyPost_ret (v := .tuple #[.agg #[.int .i64 0, .int .i64 0, .string ⟨#[]⟩, .string ⟨#[]⟩, .slice none 0 0], .int .i64 (-2 - I)]) (by simp [results, Try.results22, go_sem, p0, p1, p2, p3, p4, psz]) rfl ⟨_, _, _, _, _, _, _, _, HN.out, rfl, below5 HS.out HB1.out _ _ _ _ _⟩
  rw [if_pos h2]
  have H2 : Hid ((by8 s (i + 1) == 61) = true) := Lib.hid (beq_iff_eq.2 h2)
  have hi3 : i + 2 ≤ s.size := by have := by8_lt (s := s) (i := i + 1) (by omega); omega
  have HI2 : Hid (I + 2 = ((i + 2 : Nat) : Int)) := Lib.hid (by have := HI.out; omega)
  have hpos : ¬ I + 2 < 0 := by omega
  clear h1 h2
  rcases hp : ser (px s d) s [59, 125] (i + 2) with ⟨xs, n2⟩ | k
  case no =>
    have HP := Lib.hid hp
    have hin := ser_in (px_in s d) [59, 125] (i + 2) (by intro c hc; simp at hc; omega) hi3
    rw [hp] at hin
    have hk : k ≤ s.size + 1 := hin
    clear hp hin
    go_enter Try.func22, Try.ntmps22
    go_wp2_with fail
    rw [HW1.out]
    try rw [hS]
    go_at_call 33
    refine (bind_yes s i I HI.out hs hi2 61 (by omega) H1.out H2.out _).mono ?_
    rintro e w2 ⟨rfl, rfl⟩
    go_wp2_with fail
    go_at_call 24
    refine (l3Series_any s hs d D HD.out HIH ⟨#[59, 125]⟩ [59, 125] rfl (by decide) sg2 (i + 2) (I + 2) HI2.out hi3 _).mono ?_
    rintro e w3 hx
    rw [HP.out] at hx
    obtain ⟨q1, q2, q3, N, hN, rfl, hb⟩ := hx
    have HN := Lib.hid hN
    have HR3 := Lib.hid (HR1.out.kept hb)
    have HB3 := Lib.hid (HB1.out.trans (hb.mono (by omega)))
    have hw3 : S < w3.heap.size := HR3.out.sz
    clear hb hN
    obtain ⟨p0, p1, p2, p3, p4, f0, f1, f2, f3, f4, psz⟩ := HR3.out
    go_wp2_with fail
    exact bodyPost_ret (v := .tuple #[.agg #[.int .i64 6, .int .i64 0, .string ⟨#[]⟩, .string (s.extract i (i + 1)), .slice q1 q2 q3], .int .i64 N]) (by simp [results, Try.results22, go_sem, p0, p1, p2, p3, p4, psz]) rfl ⟨_, _, _, _, _, _, _, _, HN.out, rfl, below5 HS.out HB3.out _ _ _ _ _⟩
  case ok =>
    have HP := Lib.hid hp
    clear hp
    go_enter Try.func22, Try.ntmps22
    go_wp2_with fail
    rw [HW1.out]
    try rw [hS]
    go_at_call 33
    refine (bind_yes s i I HI.out hs hi2 61 (by omega) H1.out H2.out _).mono ?_
    rintro e w2 ⟨rfl, rfl⟩
    go_wp2_with fail
    go_at_call 24
    refine (l3Series_any s hs d D HD.out HIH ⟨#[59, 125]⟩ [59, 125] rfl (by decide) sg2 (i + 2) (I + 2) HI2.out hi3 _).mono ?_
    rintro e w3 hx
    rw [HP.out] at hx
    obtain ⟨g, c, N, hN, rfl, hex, hb⟩ := hx
    have HEX := Lib.hid (hex 6 0 e0 (s.extract i (i + 1)))
    have HN := Lib.hid hN
    have HR3 := Lib.hid (HR1.out.kept hb)
    have HB3 := Lib.hid (HB1.out.trans (hb.mono (by omega)))
    have hw3 : S < w3.heap.size := HR3.out.sz
    clear hb hN hex
    obtain ⟨p0, p1, p2, p3, p4, f0, f1, f2, f3, f4, psz⟩ := HR3.out
    go_wp2_with fail
    exact bodyPost_ret (v := .tuple #[.agg #[.int .i64 6, .int .i64 0, .string ⟨#[]⟩, .string (s.extract i (i + 1)), .slice (some ⟨g, 0, none⟩) xs.length c], .int .i64 N]) (by simp [results, Try.results22, go_sem, p0, p1, p2, p3, p4, psz]) rfl ⟨_, N, HN.out, rfl, fin_ser HS.out (by have h := HEX.out; rw [hz1] at h; exact h) _ _ _ _ _, below5 HS.out HB3.out _ _ _ _ _⟩

end Go.Proofs.Ytpaefcdchaemfaa
