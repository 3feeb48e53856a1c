/-
  The model's parser of expressions answers as the plain one: choices, parts of pairs, what is no expression; every depth.
-/
import Derived.Test.YtpaefcdchaemfaaWk
namespace Go.Proofs.Ytpaefcdchaemfaa
open Go.RowKit Go.Proofs.Ytpaefcdchaemfaa.Ox
set_option linter.unusedVariables false
set_option linter.unusedSimpArgs false

set_option maxRecDepth 100000 in
set_option maxHeartbeats 4000000 in
theorem l3Node_raw (k : Int) (xs : List Value) (n : Nat) (hl : xs.length = n * 5) (hn0 : 0 < n) (hn3 : n ≤ 3) (h1 : ∀ u ∈ xs, u.oneCell' = true) (b cap : Nat) (w : World) (hb : b < w.heap.size)
    (hc : ∀ j u, xs[j]? = some u → w.cell? ((⟨b, 0, none⟩ : Addr).add j) = some u) :
    Calls Try.prog 25 #[.int .i64 k, .slice (some ⟨b, 0, none⟩) n cap] w fun e w' => ∃ g c, e = .returned (.agg #[.int .i64 k, .int .i64 0, .string ⟨#[]⟩, .string ⟨#[]⟩, .slice (some ⟨g, 0, none⟩) n c]) ∧ Below w.heap.size w w' := by
  obtain ⟨S, hS⟩ : ∃ S, w.heap.size = S := ⟨_, rfl⟩
  have HS := Lib.hid hS
  obtain ⟨W2, hW2⟩ : ∃ W, (w.alloc (.cells #[.int .i64 0, .int .i64 0, .string ⟨#[]⟩, .string ⟨#[]⟩, .slice none 0 0] 24)).alloc (.cells #[] 24) = W := ⟨_, rfl⟩
  have hbl : Below S w W2 := by rw [← hW2, ← hS]; exact ((Below.refl _ _).alloc (Nat.le_refl _) _).alloc (by simp) _
  have HB2 := Lib.hid hbl
  have HR2 : Hid (R5 W2 S) := Lib.hid (by rw [← hW2, ← hS]; exact (r5_new w _).kept ((Below.refl _ _).alloc (Nat.le_refl _) _))
  have HO2 : Hid (W2.ownsRow (S + 1) 24 5 (.slice (some ⟨S + 1, 0, none⟩) 0 0) 0 []) := Lib.hid (by
    have h := World.ownsRow_lit (e := 24) (size := 5) (base := S + 1) (w.alloc (.cells #[.int .i64 0, .int .i64 0, .string ⟨#[]⟩, .string ⟨#[]⟩, .slice none 0 0] 24)) #[] 0 (by rw [size_alloc1X, hS]; exact Nat.le_refl _) (by decide) rfl
    rw [hW2, size_alloc1X, hS] at h
    exact h)
  have hz2 : W2.heap.size = S + 2 := by rw [← hW2, ← hS]; simp
  have HC2 : Hid (∀ j u, xs[j]? = some u → W2.cell? ((⟨b, 0, none⟩ : Addr).add j) = some u) := Lib.hid (fun j u hu => by
    have h0 := hc j u hu
    rw [Addr.add_lit] at h0 ⊢
    exact (hbl.cell (p := ⟨b, 0 + j, none⟩) (by show b < S; omega)).trans h0)
  have H1 := Lib.hid h1
  have HFL := Lib.hid hl
  obtain ⟨i0, hi0, hz0, hzz1, hzz2⟩ := info_parts infoEx
  have HW2 := Lib.hid hW2
  clear hc h1 hl hW2 hbl hb
  go_enter Try.func25, Try.ntmps25
  go_wp2_with (at_builtin; suffices hgoal : _ ∧ True from hgoal.1)
  refine ⟨?_, trivial⟩
  rw [HW2.out]
  try rw [hS]
  refine wpList_append_lies _ rfl _ _ 22 rfl (S + 1) 24 i0 _ 5 72 Try.underlying22 hi0 hz0 hzz1 hzz2 rfl (by omega) (.slice (some ⟨S + 1, 0, none⟩) 0 0) 0 [] rfl HO2.out ⟨b, 0, none⟩ n cap xs rfl HFL.out HC2.out H1.out hn0 (by unfold maxLen; omega) (by omega) (by omega) (S + 2) hz2 ?_
  intro g6 cap6 w6 hown6 hgrow6 hat6 hlt6
  have hold : ∀ q, q < S + 1 → w6.heap[q]? = W2.heap[q]? := fun q hq => hgrow6.block q (by omega) (fun e => by have e2 : some q = some (S + 1) := e; injection e2 with e2; omega)
  have hz6 : W2.heap.size ≤ w6.heap.size := hgrow6.size
  have HR6 : Hid (R5 w6 S) := Lib.hid (HR2.out.keep hz6 (hold S (by omega)))
  have HB6 : Hid (Below S w w6) := Lib.hid (by
    have h := HB2.out
    exact ⟨hgrow6.os.trans h.os, hgrow6.tape.trans h.tape, hgrow6.output.trans h.output, Nat.le_trans h.size hz6, fun q hq => (hold q (by omega)).trans (h.block q hq)⟩)
  clear hown6 hgrow6 hat6 hold hS
  obtain ⟨p0, p1, p2, p3, p4, f0, f1, f2, f3, f4, psz⟩ := HR6.out
  go_wp2_with fail
  exact bodyPost_ret (v := .agg #[.int .i64 k, .int .i64 0, .string ⟨#[]⟩, .string ⟨#[]⟩, .slice (some ⟨g6, 0, none⟩) n cap6]) (by simp [results, Try.results25, go_sem, p0, p1, p2, p3, p4, psz]) rfl ⟨g6, cap6, rfl, below5 HS.out HB6.out _ _ _ _ _⟩
theorem raw1 {w w4 : World} {S : Nat} (k q1 q2 : Int) (q3 q4 : ByteArray) (q5 : Option Addr) (q6 q7 : Nat) (HR4 : R5 w4 S) (HB4 : Below S w w4) :
    Calls Try.prog 25 #[.int .i64 k, .slice (some ⟨w4.heap.size, 0, none⟩) 1 1] (w4.alloc (.cells #[.int .i64 q1, .int .i64 q2, .string q3, .string q4, .slice q5 q6 q7] 24)) fun e w9 => ∃ g c, e = .returned (.agg #[.int .i64 k, .int .i64 0, .string ⟨#[]⟩, .string ⟨#[]⟩, .slice (some ⟨g, 0, none⟩) 1 c]) ∧ R5 w9 S ∧ Below S w w9 := by
  have hS4 := HR4.sz
  have hWB : Below w4.heap.size w4 (w4.alloc (.cells #[.int .i64 q1, .int .i64 q2, .string q3, .string q4, .slice q5 q6 q7] 24)) := (Below.refl _ _).alloc (Nat.le_refl _) _
  have hz := hWB.size
  refine (l3Node_raw k [.int .i64 q1, .int .i64 q2, .string q3, .string q4, .slice q5 q6 q7] 1 rfl (by omega) (by omega) (by simp [Value.oneCell']) w4.heap.size 1 _ (by simp) (World.news_of_block (cs := #[.int .i64 q1, .int .i64 q2, .string q3, .string q4, .slice q5 q6 q7]) (t := 24) (fr := (0, 0)) (heap_alloc_new w4 _))).mono ?_
  rintro e w9 ⟨g, c, rfl, hb9⟩
  have hbb : Below w4.heap.size w4 w9 := hWB.trans (hb9.mono hz)
  exact ⟨g, c, rfl, HR4.kept hbb, HB4.trans (hbb.mono (by omega))⟩
theorem node1 {w w4 : World} {S la ha xc : Nat} {x : Ex} {xa : Option Addr} (k : Int) (HR4 : R5 w4 S) (HB4 : Below S w w4) (hx4 : ExIn w4 la ha x (.slice xa x.ks.length xc)) (h1 : S + 1 ≤ la) (h4 : ha ≤ w4.heap.size) :
    Calls Try.prog 25 #[.int .i64 k, .slice (some ⟨w4.heap.size, 0, none⟩) 1 1] (w4.alloc (.cells #[.int .i64 x.k, .int .i64 x.n, .string x.m, .string x.s, .slice xa x.ks.length xc] 24)) fun e w9 => ∃ g c, e = .returned (.agg #[.int .i64 k, .int .i64 0, .string ⟨#[]⟩, .string ⟨#[]⟩, .slice (some ⟨g, 0, none⟩) 1 c]) ∧ R5 w9 S ∧ Below S w w9 ∧ ExIn w9 (S + 1) w9.heap.size (.node k 0 e0 e0 [x]) (.slice (some ⟨g, 0, none⟩) 1 c) := by
  have hS4 := HR4.sz
  have hWB : Below w4.heap.size w4 (w4.alloc (.cells #[.int .i64 x.k, .int .i64 x.n, .string x.m, .string x.s, .slice xa x.ks.length xc] 24)) := (Below.refl _ _).alloc (Nat.le_refl _) _
  have hz := hWB.size
  refine (l3Node_any k [(x, .slice xa x.ks.length xc)] 1 rfl (by omega) (by omega) (by simp [fives, fiveX, Value.oneCell']) w4.heap.size 1 (S + 1) (fun _ => la) (fun _ => ha) _ (by simp) (World.news_of_block (cs := #[.int .i64 x.k, .int .i64 x.n, .string x.m, .string x.s, .slice xa x.ks.length xc]) (t := 24) (fr := (0, 0)) (heap_alloc_new w4 _)) (by omega) (fun i hi => ⟨h1, by omega⟩) (fun i j hij hj => by omega) (fun i hi => ?_)).mono ?_
  · obtain rfl : i = 0 := by omega
    exact hx4.kept hWB
  · rintro e w9 ⟨g, c, rfl, hx, hb9⟩
    have hbb : Below w4.heap.size w4 w9 := hWB.trans (hb9.mono hz)
    exact ⟨g, c, rfl, HR4.kept hbb, HB4.trans (hbb.mono (by omega)), hx⟩
set_option maxRecDepth 100000 in
set_option maxHeartbeats 8000000 in
theorem parse_if_off (s : ByteArray) (hs : s.size ≤ 1048576) (d : Nat) (hd : d ≤ 50) (D : Int) (hD : D = ((d + 1 : Nat) : Int)) (HIH : Hid (PxT s d)) (i : Nat) (I : Int) (hI : I = i) (hi : i < s.size) (c : Int) (hc : by8 s i = c) (w : World) (h0 : c = 63) (H60 : Hid ((by8 s (i + 1) == 60) = false)) :
    Calls Try.prog 9 #[.string s, .int .i64 I, .int .i64 D] w fun e w' => XRet w e w' (.no (i + 1)) := by
  subst h0
  have r1 := by8_idx Try.prog 9 Try.underlying9 hi
  rw [← hI, hc] at r1
  obtain ⟨S, hS⟩ : ∃ S, w.heap.size = S := ⟨_, rfl⟩
  have HS := Lib.hid hS
  obtain ⟨W1, hW1⟩ : ∃ W, w.alloc (.cells #[.int .i64 0, .int .i64 0, .string ⟨#[]⟩, .string ⟨#[]⟩, .slice none 0 0] 24) = W := ⟨_, rfl⟩
  have HW1 := Lib.hid hW1
  have HR1 : Hid (R5 W1 S) := Lib.hid (by rw [← hW1, ← hS]; exact r5_new w _)
  have HB1 : Hid (Below S w W1) := Lib.hid (by rw [← hW1, ← hS]; exact (Below.refl _ _).alloc (Nat.le_refl _) _)
  have hz1 : W1.heap.size = S + 1 := by rw [← hW1, ← hS]; simp
  have HI := Lib.hid hI
  have hi2 : i ≤ 1048600 := by omega
  have g0 : (0 : Int) ≤ I := by omega
  have g1 : I < (s.size : Int) := by omega
  have g2 : I + 1 ≤ (s.size : Int) := by omega
  have g3 : I ≤ I + 1 := by omega
  have g4 : ¬ D < 1 := by omega
  have g5 : ¬ (s.size : Int) ≤ I := by omega
  have g6 : 1 ≤ D := by omega
  have g7 : D ≤ 51 := by omega
  have s1 : IntKind.i64.wrap (I + 1) = I + 1 := IntWalk.i64_in _ (by omega)
  have s2 : IntKind.i64.wrap (I + 2) = I + 2 := IntWalk.i64_in _ (by omega)
  have s3 : IntKind.i64.wrap (D - 1) = D - 1 := IntWalk.i64_in _ (by omega)
  have s4 : IntKind.i64.wrap (-1 - I) = -1 - I := IntWalk.i64_in _ (by omega)
  have s5 : IntKind.i64.wrap (-2 - I) = -2 - I := IntWalk.i64_in _ (by omega)
  have HI1 : Hid (I + 1 = ((i + 1 : Nat) : Int)) := Lib.hid (by omega)
  have HD := Lib.hid (show D - 1 = (d : Int) by omega)
  have HDG := Lib.hid (show dig (by8 s i) = dig 63 by rw [hc])
  have HSM := Lib.hid (show sml (by8 s i) = sml 63 by rw [hc])
  have HT : Hid (I.toNat = i ∧ (I + 1).toNat = i + 1) := Lib.hid (by omega)
  have HBG : Hid (oneB 65 90 (s.extract I.toNat (I + 1).toNat) = bigL 63) := Lib.hid (by rw [HT.out.1, HT.out.2, one_ext hi, hc]; rfl)
  have hi1 : i + 1 ≤ s.size := by omega
  have hiS : i < s.size := hi
  have HII := Lib.hid hi
  have HNR : Hid (-2 - I = -1 - ((i + 1 : Nat) : Int)) := Lib.hid (by omega)
  clear hI hD hW1 hc hi hiS
  go_enter Try.func9, Try.ntmps9
  go_wp2_with fail
  rw [HW1.out]
  try rw [hS]
  go_at_call 15
  refine (l3Digit_any s i I HI.out hs hi2 _).mono ?_
  rintro e wd ⟨rfl, rfl⟩
  rw [HDG.out, show dig 63 = false from rfl]
  go_wp2_with fail
  go_at_call 17
  refine (l3IsSmall_any s i I HI.out hs hi2 _).mono ?_
  rintro e ws ⟨rfl, rfl⟩
  rw [HSM.out, show sml 63 = false from rfl]
  go_wp2_with fail
  go_at_call 18
  refine (l3Big_any _ _).mono ?_
  rintro e wb ⟨rfl, rfl⟩
  rw [HBG.out, show bigL 63 = false from rfl]
  go_wp2_with fail
  go_at_call 23
  refine (sign_at s (i + 1) _ HI1.out 60 false (by omega) H60.out _).mono ?_
  rintro e wx ⟨rfl, rfl⟩
  obtain ⟨p0, p1, p2, p3, p4, f0, f1, f2, f3, f4, psz⟩ := HR1.out
  go_wp2_with fail
  exact bodyPost_ret (v := .tuple #[.agg #[.int .i64 0, .int .i64 0, .string ⟨#[]⟩, .string ⟨#[]⟩, .slice none 0 0], .int .i64 (-2 - I)]) (by simp [results, Try.results9, go_sem, p0, p1, p2, p3, p4, psz]) rfl ⟨_, _, _, _, _, _, _, _, HNR.out, rfl, below5 HS.out HB1.out _ _ _ _ _⟩
set_option maxRecDepth 100000 in
set_option maxHeartbeats 8000000 in
theorem parse_if_no (s : ByteArray) (hs : s.size ≤ 1048576) (d : Nat) (hd : d ≤ 50) (D : Int) (hD : D = ((d + 1 : Nat) : Int)) (HIH : Hid (PxT s d)) (i : Nat) (I : Int) (hI : I = i) (hi : i < s.size) (c : Int) (hc : by8 s i = c) (w : World) (h0 : c = 63) (H60 : Hid ((by8 s (i + 1) == 60) = true)) (hi3 : i + 2 ≤ s.size) (k : Nat) (HP : Hid (ser (px s d) s [44, 44, 62] (i + 2) = .no k)) :
    Calls Try.prog 9 #[.string s, .int .i64 I, .int .i64 D] w fun e w' => XRet w e w' (.no k) := by
  subst h0
  have r1 := by8_idx Try.prog 9 Try.underlying9 hi
  rw [← hI, hc] at r1
  obtain ⟨S, hS⟩ : ∃ S, w.heap.size = S := ⟨_, rfl⟩
  have HS := Lib.hid hS
  obtain ⟨W1, hW1⟩ : ∃ W, w.alloc (.cells #[.int .i64 0, .int .i64 0, .string ⟨#[]⟩, .string ⟨#[]⟩, .slice none 0 0] 24) = W := ⟨_, rfl⟩
  have HW1 := Lib.hid hW1
  have HR1 : Hid (R5 W1 S) := Lib.hid (by rw [← hW1, ← hS]; exact r5_new w _)
  have HB1 : Hid (Below S w W1) := Lib.hid (by rw [← hW1, ← hS]; exact (Below.refl _ _).alloc (Nat.le_refl _) _)
  have hz1 : W1.heap.size = S + 1 := by rw [← hW1, ← hS]; simp
  have HI := Lib.hid hI
  have hi2 : i ≤ 1048600 := by omega
  have g0 : (0 : Int) ≤ I := by omega
  have g1 : I < (s.size : Int) := by omega
  have g2 : I + 1 ≤ (s.size : Int) := by omega
  have g3 : I ≤ I + 1 := by omega
  have g4 : ¬ D < 1 := by omega
  have g5 : ¬ (s.size : Int) ≤ I := by omega
  have g6 : 1 ≤ D := by omega
  have g7 : D ≤ 51 := by omega
  have s1 : IntKind.i64.wrap (I + 1) = I + 1 := IntWalk.i64_in _ (by omega)
  have s2 : IntKind.i64.wrap (I + 2) = I + 2 := IntWalk.i64_in _ (by omega)
  have s3 : IntKind.i64.wrap (D - 1) = D - 1 := IntWalk.i64_in _ (by omega)
  have s4 : IntKind.i64.wrap (-1 - I) = -1 - I := IntWalk.i64_in _ (by omega)
  have s5 : IntKind.i64.wrap (-2 - I) = -2 - I := IntWalk.i64_in _ (by omega)
  have HI1 : Hid (I + 1 = ((i + 1 : Nat) : Int)) := Lib.hid (by omega)
  have HD := Lib.hid (show D - 1 = (d : Int) by omega)
  have HDG := Lib.hid (show dig (by8 s i) = dig 63 by rw [hc])
  have HSM := Lib.hid (show sml (by8 s i) = sml 63 by rw [hc])
  have HT : Hid (I.toNat = i ∧ (I + 1).toNat = i + 1) := Lib.hid (by omega)
  have HBG : Hid (oneB 65 90 (s.extract I.toNat (I + 1).toNat) = bigL 63) := Lib.hid (by rw [HT.out.1, HT.out.2, one_ext hi, hc]; rfl)
  have hi1 : i + 1 ≤ s.size := by omega
  have hiS : i < s.size := hi
  have HII := Lib.hid hi
  have HI2 : Hid (I + 2 = ((i + 2 : Nat) : Int)) := Lib.hid (by omega)
  clear hI hD hW1 hc hi hiS
  go_enter Try.func9, Try.ntmps9
  go_wp2_with fail
  rw [HW1.out]
  try rw [hS]
  go_at_call 15
  refine (l3Digit_any s i I HI.out hs hi2 _).mono ?_
  rintro e wd ⟨rfl, rfl⟩
  rw [HDG.out, show dig 63 = false from rfl]
  go_wp2_with fail
  go_at_call 17
  refine (l3IsSmall_any s i I HI.out hs hi2 _).mono ?_
  rintro e ws ⟨rfl, rfl⟩
  rw [HSM.out, show sml 63 = false from rfl]
  go_wp2_with fail
  go_at_call 18
  refine (l3Big_any _ _).mono ?_
  rintro e wb ⟨rfl, rfl⟩
  rw [HBG.out, show bigL 63 = false from rfl]
  go_wp2_with fail
  go_at_call 23
  refine (sign_at s (i + 1) _ HI1.out 60 true (by omega) H60.out _).mono ?_
  rintro e wx ⟨rfl, rfl⟩
  go_wp2_with fail
  go_at_call 24
  refine (l3Series_any s hs d (D - 1) HD.out HIH ⟨#[44, 44, 62]⟩ [44, 44, 62] rfl (by decide) sg3 (i + 2) (I + 2) HI2.out hi3 _).mono ?_
  rintro e w3 hx
  rw [HP.out] at hx
  obtain ⟨q1, q2, q3, N, hN, rfl, hb⟩ := hx
  have HN := Lib.hid hN
  have HR3 := Lib.hid (HR1.out.kept hb)
  have HB3 := Lib.hid (HB1.out.trans (hb.mono (by omega)))
  clear hb hN
  obtain ⟨p0, p1, p2, p3, p4, f0, f1, f2, f3, f4, psz⟩ := HR3.out
  go_wp2_with fail
  exact bodyPost_ret (v := .tuple #[.agg #[.int .i64 7, .int .i64 0, .string ⟨#[]⟩, .string ⟨#[]⟩, .slice q1 q2 q3], .int .i64 N]) (by simp [results, Try.results9, go_sem, p0, p1, p2, p3, p4, psz]) rfl ⟨_, _, _, _, _, _, _, _, HN.out, rfl, below5 HS.out HB3.out _ _ _ _ _⟩
set_option maxRecDepth 100000 in
set_option maxHeartbeats 8000000 in
theorem parse_if_ok (s : ByteArray) (hs : s.size ≤ 1048576) (d : Nat) (hd : d ≤ 50) (D : Int) (hD : D = ((d + 1 : Nat) : Int)) (HIH : Hid (PxT s d)) (i : Nat) (I : Int) (hI : I = i) (hi : i < s.size) (c : Int) (hc : by8 s i = c) (w : World) (h0 : c = 63) (H60 : Hid ((by8 s (i + 1) == 60) = true)) (hi3 : i + 2 ≤ s.size) (xs : List Ex) (n : Nat) (HP : Hid (ser (px s d) s [44, 44, 62] (i + 2) = .ok xs n)) :
    Calls Try.prog 9 #[.string s, .int .i64 I, .int .i64 D] w fun e w' => XRet w e w' (.ok (.node 7 0 e0 e0 xs) n) := by
  subst h0
  have r1 := by8_idx Try.prog 9 Try.underlying9 hi
  rw [← hI, hc] at r1
  obtain ⟨S, hS⟩ : ∃ S, w.heap.size = S := ⟨_, rfl⟩
  have HS := Lib.hid hS
  obtain ⟨W1, hW1⟩ : ∃ W, w.alloc (.cells #[.int .i64 0, .int .i64 0, .string ⟨#[]⟩, .string ⟨#[]⟩, .slice none 0 0] 24) = W := ⟨_, rfl⟩
  have HW1 := Lib.hid hW1
  have HR1 : Hid (R5 W1 S) := Lib.hid (by rw [← hW1, ← hS]; exact r5_new w _)
  have HB1 : Hid (Below S w W1) := Lib.hid (by rw [← hW1, ← hS]; exact (Below.refl _ _).alloc (Nat.le_refl _) _)
  have hz1 : W1.heap.size = S + 1 := by rw [← hW1, ← hS]; simp
  have HI := Lib.hid hI
  have hi2 : i ≤ 1048600 := by omega
  have g0 : (0 : Int) ≤ I := by omega
  have g1 : I < (s.size : Int) := by omega
  have g2 : I + 1 ≤ (s.size : Int) := by omega
  have g3 : I ≤ I + 1 := by omega
  have g4 : ¬ D < 1 := by omega
  have g5 : ¬ (s.size : Int) ≤ I := by omega
  have g6 : 1 ≤ D := by omega
  have g7 : D ≤ 51 := by omega
  have s1 : IntKind.i64.wrap (I + 1) = I + 1 := IntWalk.i64_in _ (by omega)
  have s2 : IntKind.i64.wrap (I + 2) = I + 2 := IntWalk.i64_in _ (by omega)
  have s3 : IntKind.i64.wrap (D - 1) = D - 1 := IntWalk.i64_in _ (by omega)
  have s4 : IntKind.i64.wrap (-1 - I) = -1 - I := IntWalk.i64_in _ (by omega)
  have s5 : IntKind.i64.wrap (-2 - I) = -2 - I := IntWalk.i64_in _ (by omega)
  have HI1 : Hid (I + 1 = ((i + 1 : Nat) : Int)) := Lib.hid (by omega)
  have HD := Lib.hid (show D - 1 = (d : Int) by omega)
  have HDG := Lib.hid (show dig (by8 s i) = dig 63 by rw [hc])
  have HSM := Lib.hid (show sml (by8 s i) = sml 63 by rw [hc])
  have HT : Hid (I.toNat = i ∧ (I + 1).toNat = i + 1) := Lib.hid (by omega)
  have HBG : Hid (oneB 65 90 (s.extract I.toNat (I + 1).toNat) = bigL 63) := Lib.hid (by rw [HT.out.1, HT.out.2, one_ext hi, hc]; rfl)
  have hi1 : i + 1 ≤ s.size := by omega
  have hiS : i < s.size := hi
  have HII := Lib.hid hi
  have HI2 : Hid (I + 2 = ((i + 2 : Nat) : Int)) := Lib.hid (by omega)
  clear hI hD hW1 hc hi hiS
  go_enter Try.func9, Try.ntmps9
  go_wp2_with fail
  rw [HW1.out]
  try rw [hS]
  go_at_call 15
  refine (l3Digit_any s i I HI.out hs hi2 _).mono ?_
  rintro e wd ⟨rfl, rfl⟩
  rw [HDG.out, show dig 63 = false from rfl]
  go_wp2_with fail
  go_at_call 17
  refine (l3IsSmall_any s i I HI.out hs hi2 _).mono ?_
  rintro e ws ⟨rfl, rfl⟩
  rw [HSM.out, show sml 63 = false from rfl]
  go_wp2_with fail
  go_at_call 18
  refine (l3Big_any _ _).mono ?_
  rintro e wb ⟨rfl, rfl⟩
  rw [HBG.out, show bigL 63 = false from rfl]
  go_wp2_with fail
  go_at_call 23
  refine (sign_at s (i + 1) _ HI1.out 60 true (by omega) H60.out _).mono ?_
  rintro e wx ⟨rfl, rfl⟩
  go_wp2_with fail
  go_at_call 24
  refine (l3Series_any s hs d (D - 1) HD.out HIH ⟨#[44, 44, 62]⟩ [44, 44, 62] rfl (by decide) sg3 (i + 2) (I + 2) HI2.out hi3 _).mono ?_
  rintro e w3 hx
  rw [HP.out] at hx
  obtain ⟨g, c, N, hN, rfl, hex, hb⟩ := hx
  have HEX := Lib.hid (hex 7 0 e0 e0)
  have HN := Lib.hid hN
  have HR3 := Lib.hid (HR1.out.kept hb)
  have HB3 := Lib.hid (HB1.out.trans (hb.mono (by omega)))
  clear hb hN hex
  obtain ⟨p0, p1, p2, p3, p4, f0, f1, f2, f3, f4, psz⟩ := HR3.out
  go_wp2_with fail
  exact bodyPost_ret (v := .tuple #[.agg #[.int .i64 7, .int .i64 0, .string ⟨#[]⟩, .string ⟨#[]⟩, .slice (some ⟨g, 0, none⟩) xs.length c], .int .i64 N]) (by simp [results, Try.results9, go_sem, p0, p1, p2, p3, p4, psz]) rfl ⟨_, N, HN.out, rfl, ex5 HS.out (by have h := HEX.out; rw [hz1] at h; exact h) _ _ _ _ _, below5 HS.out HB3.out _ _ _ _ _⟩
set_option maxRecDepth 100000 in
set_option maxHeartbeats 8000000 in
theorem parse_part9_no (s : ByteArray) (hs : s.size ≤ 1048576) (d : Nat) (hd : d ≤ 50) (D : Int) (hD : D = ((d + 1 : Nat) : Int)) (HIH : Hid (PxT s d)) (i : Nat) (I : Int) (hI : I = i) (hi : i < s.size) (c : Int) (hc : by8 s i = c) (w : World) (h0 : c = 94) (k : Nat) (HP : Hid (px s d (i + 1) = .no k)) :
    Calls Try.prog 9 #[.string s, .int .i64 I, .int .i64 D] w fun e w' => XRet w e w' (.no k) := by
  subst h0
  have r1 := by8_idx Try.prog 9 Try.underlying9 hi
  rw [← hI, hc] at r1
  obtain ⟨S, hS⟩ : ∃ S, w.heap.size = S := ⟨_, rfl⟩
  have HS := Lib.hid hS
  obtain ⟨W1, hW1⟩ : ∃ W, w.alloc (.cells #[.int .i64 0, .int .i64 0, .string ⟨#[]⟩, .string ⟨#[]⟩, .slice none 0 0] 24) = W := ⟨_, rfl⟩
  have HW1 := Lib.hid hW1
  have HR1 : Hid (R5 W1 S) := Lib.hid (by rw [← hW1, ← hS]; exact r5_new w _)
  have HB1 : Hid (Below S w W1) := Lib.hid (by rw [← hW1, ← hS]; exact (Below.refl _ _).alloc (Nat.le_refl _) _)
  have hz1 : W1.heap.size = S + 1 := by rw [← hW1, ← hS]; simp
  have HI := Lib.hid hI
  have hi2 : i ≤ 1048600 := by omega
  have g0 : (0 : Int) ≤ I := by omega
  have g1 : I < (s.size : Int) := by omega
  have g2 : I + 1 ≤ (s.size : Int) := by omega
  have g3 : I ≤ I + 1 := by omega
  have g4 : ¬ D < 1 := by omega
  have g5 : ¬ (s.size : Int) ≤ I := by omega
  have g6 : 1 ≤ D := by omega
  have g7 : D ≤ 51 := by omega
  have s1 : IntKind.i64.wrap (I + 1) = I + 1 := IntWalk.i64_in _ (by omega)
  have s2 : IntKind.i64.wrap (I + 2) = I + 2 := IntWalk.i64_in _ (by omega)
  have s3 : IntKind.i64.wrap (D - 1) = D - 1 := IntWalk.i64_in _ (by omega)
  have s4 : IntKind.i64.wrap (-1 - I) = -1 - I := IntWalk.i64_in _ (by omega)
  have s5 : IntKind.i64.wrap (-2 - I) = -2 - I := IntWalk.i64_in _ (by omega)
  have HI1 : Hid (I + 1 = ((i + 1 : Nat) : Int)) := Lib.hid (by omega)
  have HD := Lib.hid (show D - 1 = (d : Int) by omega)
  have HDG := Lib.hid (show dig (by8 s i) = dig 94 by rw [hc])
  have HSM := Lib.hid (show sml (by8 s i) = sml 94 by rw [hc])
  have HT : Hid (I.toNat = i ∧ (I + 1).toNat = i + 1) := Lib.hid (by omega)
  have HBG : Hid (oneB 65 90 (s.extract I.toNat (I + 1).toNat) = bigL 94) := Lib.hid (by rw [HT.out.1, HT.out.2, one_ext hi, hc]; rfl)
  have hi1 : i + 1 ≤ s.size := by omega
  have hiS : i < s.size := hi
  have HII := Lib.hid hi
  clear hI hD hW1 hc hi hiS
  go_enter Try.func9, Try.ntmps9
  go_wp2_with fail
  rw [HW1.out]
  try rw [hS]
  go_at_call 15
  refine (l3Digit_any s i I HI.out hs hi2 _).mono ?_
  rintro e wd ⟨rfl, rfl⟩
  rw [HDG.out, show dig 94 = false from rfl]
  go_wp2_with fail
  go_at_call 17
  refine (l3IsSmall_any s i I HI.out hs hi2 _).mono ?_
  rintro e ws ⟨rfl, rfl⟩
  rw [HSM.out, show sml 94 = false from rfl]
  go_wp2_with fail
  go_at_call 18
  refine (l3Big_any _ _).mono ?_
  rintro e wb ⟨rfl, rfl⟩
  rw [HBG.out, show bigL 94 = false from rfl]
  go_wp2_with fail
  go_at_call 9
  refine (HIH.out _ (D - 1) (I + 1) (i + 1) HD.out HI1.out hi1).mono ?_
  rintro e w3 hx
  rw [HP.out] at hx
  obtain ⟨q1, q2, q3, q4, q5, q6, q7, N, hN, rfl, hb⟩ := hx
  have HN := Lib.hid hN
  have HR3 := Lib.hid (HR1.out.kept hb)
  have HB3 := Lib.hid (HB1.out.trans (hb.mono (by omega)))
  clear hb hN
  obtain ⟨W4, hW4⟩ : ∃ W, w3.alloc (.cells #[.int .i64 q1, .int .i64 q2, .string q3, .string q4, .slice q5 q6 q7] 24) = W := ⟨_, rfl⟩
  obtain ⟨E, hE⟩ : ∃ E, w3.heap.size = E := ⟨_, rfl⟩
  have hbA : Below w3.heap.size w3 W4 := by rw [← hW4]; exact (Below.refl _ _).alloc (Nat.le_refl _) _
  have HBX := Lib.hid (ebox_new w3 (.int .i64 q1) (.int .i64 q2) (.string q3) (.string q4) (.slice q5 q6 q7) 24)
  rw [hW4, hE] at HBX
  have HR4 := Lib.hid (HR3.out.kept hbA)
  have HB4 := Lib.hid (HB3.out.trans (hbA.mono (by have := HR3.out.sz; omega)))
  have HW4 := Lib.hid hW4
  obtain ⟨b0, b1, b2, b3, b4, bz⟩ := HBX.out
  clear hW4 hbA
  go_wp2_with fail
  rw [HW4.out]
  try rw [hE]
  have hz4 : E + 1 = W4.heap.size := by rw [← HW4.out, ← hE]; simp
  try rw [hz4]
  clear hz4
  go_at_call 25
  refine (raw1 9 q1 q2 q3 q4 q5 q6 q7 HR4.out HB4.out).mono ?_
  rintro e w9 ⟨g9, c9, rfl, hr9, hb9⟩
  have HB9 := Lib.hid hb9
  obtain ⟨p0, p1, p2, p3, p4, f0, f1, f2, f3, f4, psz⟩ := hr9
  clear hb9 b0 b1 b2 b3 b4 bz
  go_wp2_with fail
  exact bodyPost_ret (v := .tuple #[.agg #[.int .i64 9, .int .i64 0, .string ⟨#[]⟩, .string ⟨#[]⟩, .slice (some ⟨g9, 0, none⟩) 1 c9], .int .i64 N]) (by simp [results, Try.results9, go_sem, p0, p1, p2, p3, p4, psz]) rfl ⟨_, _, _, _, _, _, _, _, HN.out, rfl, below5 HS.out HB9.out _ _ _ _ _⟩
set_option maxRecDepth 100000 in
set_option maxHeartbeats 8000000 in
theorem parse_part9_ok (s : ByteArray) (hs : s.size ≤ 1048576) (d : Nat) (hd : d ≤ 50) (D : Int) (hD : D = ((d + 1 : Nat) : Int)) (HIH : Hid (PxT s d)) (i : Nat) (I : Int) (hI : I = i) (hi : i < s.size) (c : Int) (hc : by8 s i = c) (w : World) (h0 : c = 94) (x : Ex) (n : Nat) (HP : Hid (px s d (i + 1) = .ok x n)) :
    Calls Try.prog 9 #[.string s, .int .i64 I, .int .i64 D] w fun e w' => XRet w e w' (.ok (.node 9 0 e0 e0 [x]) n) := by
  subst h0
  have r1 := by8_idx Try.prog 9 Try.underlying9 hi
  rw [← hI, hc] at r1
  obtain ⟨S, hS⟩ : ∃ S, w.heap.size = S := ⟨_, rfl⟩
  have HS := Lib.hid hS
  obtain ⟨W1, hW1⟩ : ∃ W, w.alloc (.cells #[.int .i64 0, .int .i64 0, .string ⟨#[]⟩, .string ⟨#[]⟩, .slice none 0 0] 24) = W := ⟨_, rfl⟩
  have HW1 := Lib.hid hW1
  have HR1 : Hid (R5 W1 S) := Lib.hid (by rw [← hW1, ← hS]; exact r5_new w _)
  have HB1 : Hid (Below S w W1) := Lib.hid (by rw [← hW1, ← hS]; exact (Below.refl _ _).alloc (Nat.le_refl _) _)
  have hz1 : W1.heap.size = S + 1 := by rw [← hW1, ← hS]; simp
  have HI := Lib.hid hI
  have hi2 : i ≤ 1048600 := by omega
  have g0 : (0 : Int) ≤ I := by omega
  have g1 : I < (s.size : Int) := by omega
  have g2 : I + 1 ≤ (s.size : Int) := by omega
  have g3 : I ≤ I + 1 := by omega
  have g4 : ¬ D < 1 := by omega
  have g5 : ¬ (s.size : Int) ≤ I := by omega
  have g6 : 1 ≤ D := by omega
  have g7 : D ≤ 51 := by omega
  have s1 : IntKind.i64.wrap (I + 1) = I + 1 := IntWalk.i64_in _ (by omega)
  have s2 : IntKind.i64.wrap (I + 2) = I + 2 := IntWalk.i64_in _ (by omega)
  have s3 : IntKind.i64.wrap (D - 1) = D - 1 := IntWalk.i64_in _ (by omega)
  have s4 : IntKind.i64.wrap (-1 - I) = -1 - I := IntWalk.i64_in _ (by omega)
  have s5 : IntKind.i64.wrap (-2 - I) = -2 - I := IntWalk.i64_in _ (by omega)
  have HI1 : Hid (I + 1 = ((i + 1 : Nat) : Int)) := Lib.hid (by omega)
  have HD := Lib.hid (show D - 1 = (d : Int) by omega)
  have HDG := Lib.hid (show dig (by8 s i) = dig 94 by rw [hc])
  have HSM := Lib.hid (show sml (by8 s i) = sml 94 by rw [hc])
  have HT : Hid (I.toNat = i ∧ (I + 1).toNat = i + 1) := Lib.hid (by omega)
  have HBG : Hid (oneB 65 90 (s.extract I.toNat (I + 1).toNat) = bigL 94) := Lib.hid (by rw [HT.out.1, HT.out.2, one_ext hi, hc]; rfl)
  have hi1 : i + 1 ≤ s.size := by omega
  have hiS : i < s.size := hi
  have HII := Lib.hid hi
  clear hI hD hW1 hc hi hiS
  go_enter Try.func9, Try.ntmps9
  go_wp2_with fail
  rw [HW1.out]
  try rw [hS]
  go_at_call 15
  refine (l3Digit_any s i I HI.out hs hi2 _).mono ?_
  rintro e wd ⟨rfl, rfl⟩
  rw [HDG.out, show dig 94 = false from rfl]
  go_wp2_with fail
  go_at_call 17
  refine (l3IsSmall_any s i I HI.out hs hi2 _).mono ?_
  rintro e ws ⟨rfl, rfl⟩
  rw [HSM.out, show sml 94 = false from rfl]
  go_wp2_with fail
  go_at_call 18
  refine (l3Big_any _ _).mono ?_
  rintro e wb ⟨rfl, rfl⟩
  rw [HBG.out, show bigL 94 = false from rfl]
  go_wp2_with fail
  go_at_call 9
  refine (HIH.out _ (D - 1) (I + 1) (i + 1) HD.out HI1.out hi1).mono ?_
  rintro e w3 hx
  rw [HP.out] at hx
  obtain ⟨v, N, hN, rfl, hex, hb⟩ := hx
  obtain ⟨xa, xc, rfl, _⟩ := hex.at.slice
  have HEX := Lib.hid hex
  have HN := Lib.hid hN
  have HR3 := Lib.hid (HR1.out.kept hb)
  have HB3 := Lib.hid (HB1.out.trans (hb.mono (by omega)))
  clear hb hN hex
  obtain ⟨W4, hW4⟩ : ∃ W, w3.alloc (.cells #[.int .i64 x.k, .int .i64 x.n, .string x.m, .string x.s, .slice xa x.ks.length xc] 24) = W := ⟨_, rfl⟩
  obtain ⟨E, hE⟩ : ∃ E, w3.heap.size = E := ⟨_, rfl⟩
  have hbA : Below w3.heap.size w3 W4 := by rw [← hW4]; exact (Below.refl _ _).alloc (Nat.le_refl _) _
  have HBX := Lib.hid (ebox_new w3 (.int .i64 x.k) (.int .i64 x.n) (.string x.m) (.string x.s) (.slice xa x.ks.length xc) 24)
  rw [hW4, hE] at HBX
  have HR4 := Lib.hid (HR3.out.kept hbA)
  have HX4 := Lib.hid (HEX.out.kept hbA)
  have HB4 := Lib.hid (HB3.out.trans (hbA.mono (by have := HR3.out.sz; omega)))
  have hE4 : E + 1 = W4.heap.size := by rw [← hW4, ← hE]; simp
  have HZ4 := Lib.hid hE4
  have HW4 := Lib.hid hW4
  obtain ⟨b0, b1, b2, b3, b4, bz⟩ := HBX.out
  clear hW4 hbA hE4
  go_wp2_with fail
  rw [HW4.out]
  try rw [hE]
  try rw [HZ4.out]
  go_at_call 25
  refine (node1 9 HR4.out HB4.out HX4.out (by rw [hz1]; exact Nat.le_refl _) (by have := HZ4.out; omega)).mono ?_
  rintro e w9 ⟨g9, c9, rfl, hr9, hb9, hx9⟩
  have HB9 := Lib.hid hb9
  have HX9 := Lib.hid hx9
  obtain ⟨p0, p1, p2, p3, p4, f0, f1, f2, f3, f4, psz⟩ := hr9
  clear hb9 hx9 b0 b1 b2 b3 b4 bz
  go_wp2_with fail
  exact bodyPost_ret (v := .tuple #[.agg #[.int .i64 9, .int .i64 0, .string ⟨#[]⟩, .string ⟨#[]⟩, .slice (some ⟨g9, 0, none⟩) 1 c9], .int .i64 N]) (by simp [results, Try.results9, go_sem, p0, p1, p2, p3, p4, psz]) rfl ⟨_, N, HN.out, rfl, ex5 HS.out HX9.out _ _ _ _ _, below5 HS.out HB9.out _ _ _ _ _⟩
set_option maxRecDepth 100000 in
set_option maxHeartbeats 8000000 in
theorem parse_part10_no (s : ByteArray) (hs : s.size ≤ 1048576) (d : Nat) (hd : d ≤ 50) (D : Int) (hD : D = ((d + 1 : Nat) : Int)) (HIH : Hid (PxT s d)) (i : Nat) (I : Int) (hI : I = i) (hi : i < s.size) (c : Int) (hc : by8 s i = c) (w : World) (h0 : c = 95) (k : Nat) (HP : Hid (px s d (i + 1) = .no k)) :
    Calls Try.prog 9 #[.string s, .int .i64 I, .int .i64 D] w fun e w' => XRet w e w' (.no k) := by
  subst h0
  have r1 := by8_idx Try.prog 9 Try.underlying9 hi
  rw [← hI, hc] at r1
  obtain ⟨S, hS⟩ : ∃ S, w.heap.size = S := ⟨_, rfl⟩
  have HS := Lib.hid hS
  obtain ⟨W1, hW1⟩ : ∃ W, w.alloc (.cells #[.int .i64 0, .int .i64 0, .string ⟨#[]⟩, .string ⟨#[]⟩, .slice none 0 0] 24) = W := ⟨_, rfl⟩
  have HW1 := Lib.hid hW1
  have HR1 : Hid (R5 W1 S) := Lib.hid (by rw [← hW1, ← hS]; exact r5_new w _)
  have HB1 : Hid (Below S w W1) := Lib.hid (by rw [← hW1, ← hS]; exact (Below.refl _ _).alloc (Nat.le_refl _) _)
  have hz1 : W1.heap.size = S + 1 := by rw [← hW1, ← hS]; simp
  have HI := Lib.hid hI
  have hi2 : i ≤ 1048600 := by omega
  have g0 : (0 : Int) ≤ I := by omega
  have g1 : I < (s.size : Int) := by omega
  have g2 : I + 1 ≤ (s.size : Int) := by omega
  have g3 : I ≤ I + 1 := by omega
  have g4 : ¬ D < 1 := by omega
  have g5 : ¬ (s.size : Int) ≤ I := by omega
  have g6 : 1 ≤ D := by omega
  have g7 : D ≤ 51 := by omega
  have s1 : IntKind.i64.wrap (I + 1) = I + 1 := IntWalk.i64_in _ (by omega)
  have s2 : IntKind.i64.wrap (I + 2) = I + 2 := IntWalk.i64_in _ (by omega)
  have s3 : IntKind.i64.wrap (D - 1) = D - 1 := IntWalk.i64_in _ (by omega)
  have s4 : IntKind.i64.wrap (-1 - I) = -1 - I := IntWalk.i64_in _ (by omega)
  have s5 : IntKind.i64.wrap (-2 - I) = -2 - I := IntWalk.i64_in _ (by omega)
  have HI1 : Hid (I + 1 = ((i + 1 : Nat) : Int)) := Lib.hid (by omega)
  have HD := Lib.hid (show D - 1 = (d : Int) by omega)
  have HDG := Lib.hid (show dig (by8 s i) = dig 95 by rw [hc])
  have HSM := Lib.hid (show sml (by8 s i) = sml 95 by rw [hc])
  have HT : Hid (I.toNat = i ∧ (I + 1).toNat = i + 1) := Lib.hid (by omega)
  have HBG : Hid (oneB 65 90 (s.extract I.toNat (I + 1).toNat) = bigL 95) := Lib.hid (by rw [HT.out.1, HT.out.2, one_ext hi, hc]; rfl)
  have hi1 : i + 1 ≤ s.size := by omega
  have hiS : i < s.size := hi
  have HII := Lib.hid hi
  clear hI hD hW1 hc hi hiS
  go_enter Try.func9, Try.ntmps9
  go_wp2_with fail
  rw [HW1.out]
  try rw [hS]
  go_at_call 15
  refine (l3Digit_any s i I HI.out hs hi2 _).mono ?_
  rintro e wd ⟨rfl, rfl⟩
  rw [HDG.out, show dig 95 = false from rfl]
  go_wp2_with fail
  go_at_call 17
  refine (l3IsSmall_any s i I HI.out hs hi2 _).mono ?_
  rintro e ws ⟨rfl, rfl⟩
  rw [HSM.out, show sml 95 = false from rfl]
  go_wp2_with fail
  go_at_call 18
  refine (l3Big_any _ _).mono ?_
  rintro e wb ⟨rfl, rfl⟩
  rw [HBG.out, show bigL 95 = false from rfl]
  go_wp2_with fail
  go_at_call 9
  refine (HIH.out _ (D - 1) (I + 1) (i + 1) HD.out HI1.out hi1).mono ?_
  rintro e w3 hx
  rw [HP.out] at hx
  obtain ⟨q1, q2, q3, q4, q5, q6, q7, N, hN, rfl, hb⟩ := hx
  have HN := Lib.hid hN
  have HR3 := Lib.hid (HR1.out.kept hb)
  have HB3 := Lib.hid (HB1.out.trans (hb.mono (by omega)))
  clear hb hN
  obtain ⟨W4, hW4⟩ : ∃ W, w3.alloc (.cells #[.int .i64 q1, .int .i64 q2, .string q3, .string q4, .slice q5 q6 q7] 24) = W := ⟨_, rfl⟩
  obtain ⟨E, hE⟩ : ∃ E, w3.heap.size = E := ⟨_, rfl⟩
  have hbA : Below w3.heap.size w3 W4 := by rw [← hW4]; exact (Below.refl _ _).alloc (Nat.le_refl _) _
  have HBX := Lib.hid (ebox_new w3 (.int .i64 q1) (.int .i64 q2) (.string q3) (.string q4) (.slice q5 q6 q7) 24)
  rw [hW4, hE] at HBX
  have HR4 := Lib.hid (HR3.out.kept hbA)
  have HB4 := Lib.hid (HB3.out.trans (hbA.mono (by have := HR3.out.sz; omega)))
  have HW4 := Lib.hid hW4
  obtain ⟨b0, b1, b2, b3, b4, bz⟩ := HBX.out
  clear hW4 hbA
  go_wp2_with fail
  rw [HW4.out]
  try rw [hE]
  have hz4 : E + 1 = W4.heap.size := by rw [← HW4.out, ← hE]; simp
  try rw [hz4]
  clear hz4
  go_at_call 25
  refine (raw1 10 q1 q2 q3 q4 q5 q6 q7 HR4.out HB4.out).mono ?_
  rintro e w9 ⟨g9, c9, rfl, hr9, hb9⟩
  have HB9 := Lib.hid hb9
  obtain ⟨p0, p1, p2, p3, p4, f0, f1, f2, f3, f4, psz⟩ := hr9
  clear hb9 b0 b1 b2 b3 b4 bz
  go_wp2_with fail
  exact bodyPost_ret (v := .tuple #[.agg #[.int .i64 10, .int .i64 0, .string ⟨#[]⟩, .string ⟨#[]⟩, .slice (some ⟨g9, 0, none⟩) 1 c9], .int .i64 N]) (by simp [results, Try.results9, go_sem, p0, p1, p2, p3, p4, psz]) rfl ⟨_, _, _, _, _, _, _, _, HN.out, rfl, below5 HS.out HB9.out _ _ _ _ _⟩
set_option maxRecDepth 100000 in
set_option maxHeartbeats 8000000 in
theorem parse_part10_ok (s : ByteArray) (hs : s.size ≤ 1048576) (d : Nat) (hd : d ≤ 50) (D : Int) (hD : D = ((d + 1 : Nat) : Int)) (HIH : Hid (PxT s d)) (i : Nat) (I : Int) (hI : I = i) (hi : i < s.size) (c : Int) (hc : by8 s i = c) (w : World) (h0 : c = 95) (x : Ex) (n : Nat) (HP : Hid (px s d (i + 1) = .ok x n)) :
    Calls Try.prog 9 #[.string s, .int .i64 I, .int .i64 D] w fun e w' => XRet w e w' (.ok (.node 10 0 e0 e0 [x]) n) := by
  subst h0
  have r1 := by8_idx Try.prog 9 Try.underlying9 hi
  rw [← hI, hc] at r1
  obtain ⟨S, hS⟩ : ∃ S, w.heap.size = S := ⟨_, rfl⟩
  have HS := Lib.hid hS
  obtain ⟨W1, hW1⟩ : ∃ W, w.alloc (.cells #[.int .i64 0, .int .i64 0, .string ⟨#[]⟩, .string ⟨#[]⟩, .slice none 0 0] 24) = W := ⟨_, rfl⟩
  have HW1 := Lib.hid hW1
  have HR1 : Hid (R5 W1 S) := Lib.hid (by rw [← hW1, ← hS]; exact r5_new w _)
  have HB1 : Hid (Below S w W1) := Lib.hid (by rw [← hW1, ← hS]; exact (Below.refl _ _).alloc (Nat.le_refl _) _)
  have hz1 : W1.heap.size = S + 1 := by rw [← hW1, ← hS]; simp
  have HI := Lib.hid hI
  have hi2 : i ≤ 1048600 := by omega
  have g0 : (0 : Int) ≤ I := by omega
  have g1 : I < (s.size : Int) := by omega
  have g2 : I + 1 ≤ (s.size : Int) := by omega
  have g3 : I ≤ I + 1 := by omega
  have g4 : ¬ D < 1 := by omega
  have g5 : ¬ (s.size : Int) ≤ I := by omega
  have g6 : 1 ≤ D := by omega
  have g7 : D ≤ 51 := by omega
  have s1 : IntKind.i64.wrap (I + 1) = I + 1 := IntWalk.i64_in _ (by omega)
  have s2 : IntKind.i64.wrap (I + 2) = I + 2 := IntWalk.i64_in _ (by omega)
  have s3 : IntKind.i64.wrap (D - 1) = D - 1 := IntWalk.i64_in _ (by omega)
  have s4 : IntKind.i64.wrap (-1 - I) = -1 - I := IntWalk.i64_in _ (by omega)
  have s5 : IntKind.i64.wrap (-2 - I) = -2 - I := IntWalk.i64_in _ (by omega)
  have HI1 : Hid (I + 1 = ((i + 1 : Nat) : Int)) := Lib.hid (by omega)
  have HD := Lib.hid (show D - 1 = (d : Int) by omega)
  have HDG := Lib.hid (show dig (by8 s i) = dig 95 by rw [hc])
  have HSM := Lib.hid (show sml (by8 s i) = sml 95 by rw [hc])
  have HT : Hid (I.toNat = i ∧ (I + 1).toNat = i + 1) := Lib.hid (by omega)
  have HBG : Hid (oneB 65 90 (s.extract I.toNat (I + 1).toNat) = bigL 95) := Lib.hid (by rw [HT.out.1, HT.out.2, one_ext hi, hc]; rfl)
  have hi1 : i + 1 ≤ s.size := by omega
  have hiS : i < s.size := hi
  have HII := Lib.hid hi
  clear hI hD hW1 hc hi hiS
  go_enter Try.func9, Try.ntmps9
  go_wp2_with fail
  rw [HW1.out]
  try rw [hS]
  go_at_call 15
  refine (l3Digit_any s i I HI.out hs hi2 _).mono ?_
  rintro e wd ⟨rfl, rfl⟩
  rw [HDG.out, show dig 95 = false from rfl]
  go_wp2_with fail
  go_at_call 17
  refine (l3IsSmall_any s i I HI.out hs hi2 _).mono ?_
  rintro e ws ⟨rfl, rfl⟩
  rw [HSM.out, show sml 95 = false from rfl]
  go_wp2_with fail
  go_at_call 18
  refine (l3Big_any _ _).mono ?_
  rintro e wb ⟨rfl, rfl⟩
  rw [HBG.out, show bigL 95 = false from rfl]
  go_wp2_with fail
  go_at_call 9
  refine (HIH.out _ (D - 1) (I + 1) (i + 1) HD.out HI1.out hi1).mono ?_
  rintro e w3 hx
  rw [HP.out] at hx
  obtain ⟨v, N, hN, rfl, hex, hb⟩ := hx
  obtain ⟨xa, xc, rfl, _⟩ := hex.at.slice
  have HEX := Lib.hid hex
  have HN := Lib.hid hN
  have HR3 := Lib.hid (HR1.out.kept hb)
  have HB3 := Lib.hid (HB1.out.trans (hb.mono (by omega)))
  clear hb hN hex
  obtain ⟨W4, hW4⟩ : ∃ W, w3.alloc (.cells #[.int .i64 x.k, .int .i64 x.n, .string x.m, .string x.s, .slice xa x.ks.length xc] 24) = W := ⟨_, rfl⟩
  obtain ⟨E, hE⟩ : ∃ E, w3.heap.size = E := ⟨_, rfl⟩
  have hbA : Below w3.heap.size w3 W4 := by rw [← hW4]; exact (Below.refl _ _).alloc (Nat.le_refl _) _
  have HBX := Lib.hid (ebox_new w3 (.int .i64 x.k) (.int .i64 x.n) (.string x.m) (.string x.s) (.slice xa x.ks.length xc) 24)
  rw [hW4, hE] at HBX
  have HR4 := Lib.hid (HR3.out.kept hbA)
  have HX4 := Lib.hid (HEX.out.kept hbA)
  have HB4 := Lib.hid (HB3.out.trans (hbA.mono (by have := HR3.out.sz; omega)))
  have hE4 : E + 1 = W4.heap.size := by rw [← hW4, ← hE]; simp
  have HZ4 := Lib.hid hE4
  have HW4 := Lib.hid hW4
  obtain ⟨b0, b1, b2, b3, b4, bz⟩ := HBX.out
  clear hW4 hbA hE4
  go_wp2_with fail
  rw [HW4.out]
  try rw [hE]
  try rw [HZ4.out]
  go_at_call 25
  refine (node1 10 HR4.out HB4.out HX4.out (by rw [hz1]; exact Nat.le_refl _) (by have := HZ4.out; omega)).mono ?_
  rintro e w9 ⟨g9, c9, rfl, hr9, hb9, hx9⟩
  have HB9 := Lib.hid hb9
  have HX9 := Lib.hid hx9
  obtain ⟨p0, p1, p2, p3, p4, f0, f1, f2, f3, f4, psz⟩ := hr9
  clear hb9 hx9 b0 b1 b2 b3 b4 bz
  go_wp2_with fail
  exact bodyPost_ret (v := .tuple #[.agg #[.int .i64 10, .int .i64 0, .string ⟨#[]⟩, .string ⟨#[]⟩, .slice (some ⟨g9, 0, none⟩) 1 c9], .int .i64 N]) (by simp [results, Try.results9, go_sem, p0, p1, p2, p3, p4, psz]) rfl ⟨_, N, HN.out, rfl, ex5 HS.out HX9.out _ _ _ _ _, below5 HS.out HB9.out _ _ _ _ _⟩
set_option maxRecDepth 100000 in
set_option maxHeartbeats 8000000 in
theorem parse_off (s : ByteArray) (hs : s.size ≤ 1048576) (d : Nat) (hd : d ≤ 50) (D : Int) (hD : D = ((d + 1 : Nat) : Int)) (HIH : Hid (PxT s d)) (i : Nat) (I : Int) (hI : I = i) (hi : i < s.size) (c : Int) (hc : by8 s i = c) (w : World) (h1 : dig c = false) (h2 : sml c = false) (h3 : bigL c = false) (k1 : (c == 40) = false) (k2 : (c == 92) = false) (k3 : (c == 123) = false) (k4 : (c == 63) = false) (k5 : (c == 94) = false) (k6 : (c == 95) = false) :
    Calls Try.prog 9 #[.string s, .int .i64 I, .int .i64 D] w fun e w' => XRet w e w' (.no i) := by
  have r1 := by8_idx Try.prog 9 Try.underlying9 hi
  rw [← hI, hc] at r1
  obtain ⟨S, hS⟩ : ∃ S, w.heap.size = S := ⟨_, rfl⟩
  have HS := Lib.hid hS
  obtain ⟨W1, hW1⟩ : ∃ W, w.alloc (.cells #[.int .i64 0, .int .i64 0, .string ⟨#[]⟩, .string ⟨#[]⟩, .slice none 0 0] 24) = W := ⟨_, rfl⟩
  have HW1 := Lib.hid hW1
  have HR1 : Hid (R5 W1 S) := Lib.hid (by rw [← hW1, ← hS]; exact r5_new w _)
  have HB1 : Hid (Below S w W1) := Lib.hid (by rw [← hW1, ← hS]; exact (Below.refl _ _).alloc (Nat.le_refl _) _)
  have hz1 : W1.heap.size = S + 1 := by rw [← hW1, ← hS]; simp
  have HI := Lib.hid hI
  have hi2 : i ≤ 1048600 := by omega
  have g0 : (0 : Int) ≤ I := by omega
  have g1 : I < (s.size : Int) := by omega
  have g2 : I + 1 ≤ (s.size : Int) := by omega
  have g3 : I ≤ I + 1 := by omega
  have g4 : ¬ D < 1 := by omega
  have g5 : ¬ (s.size : Int) ≤ I := by omega
  have g6 : 1 ≤ D := by omega
  have g7 : D ≤ 51 := by omega
  have s1 : IntKind.i64.wrap (I + 1) = I + 1 := IntWalk.i64_in _ (by omega)
  have s2 : IntKind.i64.wrap (I + 2) = I + 2 := IntWalk.i64_in _ (by omega)
  have s3 : IntKind.i64.wrap (D - 1) = D - 1 := IntWalk.i64_in _ (by omega)
  have s4 : IntKind.i64.wrap (-1 - I) = -1 - I := IntWalk.i64_in _ (by omega)
  have s5 : IntKind.i64.wrap (-2 - I) = -2 - I := IntWalk.i64_in _ (by omega)
  have HI1 : Hid (I + 1 = ((i + 1 : Nat) : Int)) := Lib.hid (by omega)
  have HD := Lib.hid (show D - 1 = (d : Int) by omega)
  have HDG := Lib.hid (show dig (by8 s i) = dig c by rw [hc])
  have HSM := Lib.hid (show sml (by8 s i) = sml c by rw [hc])
  have HT : Hid (I.toNat = i ∧ (I + 1).toNat = i + 1) := Lib.hid (by omega)
  have HBG : Hid (oneB 65 90 (s.extract I.toNat (I + 1).toNat) = bigL c) := Lib.hid (by rw [HT.out.1, HT.out.2, one_ext hi, hc]; rfl)
  have hi1 : i + 1 ≤ s.size := by omega
  have hiS : i < s.size := hi
  have HII := Lib.hid hi
  have HNR : Hid (-1 - I = -1 - (i : Int)) := Lib.hid (by omega)
  clear hI hD hW1 hc hi hiS
  go_enter Try.func9, Try.ntmps9
  go_wp2_with fail
  rw [HW1.out]
  try rw [hS]
  go_at_call 15
  refine (l3Digit_any s i I HI.out hs hi2 _).mono ?_
  rintro e wd ⟨rfl, rfl⟩
  rw [HDG.out, h1]
  go_wp2_with fail
  go_at_call 17
  refine (l3IsSmall_any s i I HI.out hs hi2 _).mono ?_
  rintro e ws ⟨rfl, rfl⟩
  rw [HSM.out, h2]
  go_wp2_with fail
  go_at_call 18
  refine (l3Big_any _ _).mono ?_
  rintro e wb ⟨rfl, rfl⟩
  rw [HBG.out, h3]
  obtain ⟨p0, p1, p2, p3, p4, f0, f1, f2, f3, f4, psz⟩ := HR1.out
  go_wp2_with fail
  exact bodyPost_ret (v := .tuple #[.agg #[.int .i64 0, .int .i64 0, .string ⟨#[]⟩, .string ⟨#[]⟩, .slice none 0 0], .int .i64 (-1 - I)]) (by simp [results, Try.results9, go_sem, p0, p1, p2, p3, p4, psz]) rfl ⟨_, _, _, _, _, _, _, _, HNR.out, rfl, below5 HS.out HB1.out _ _ _ _ _⟩

end Go.Proofs.Ytpaefcdchaemfaa
