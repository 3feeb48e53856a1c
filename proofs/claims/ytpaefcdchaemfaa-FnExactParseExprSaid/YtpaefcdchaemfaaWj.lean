/-
  A call, a sum or a pair, read by the model, to its end.
-/
import Derived.Test.YtpaefcdchaemfaaWi
namespace Go.Proofs.Ytpaefcdchaemfaa
open Go.RowKit Go.Proofs.Ytpaefcdchaemfaa.Ox
set_option linter.unusedVariables false
set_option linter.unusedSimpArgs false

/-- Two operands, laid in a row at once, are copied into a node; the result's box stays. -/
theorem node2 {w w4 WL : World} {S la ha lb hb' ac bc : Nat} {a b : Ex} {aa ba : Option Addr} (k : Int) (hS : w.heap.size = S) (HR4 : R5 w4 S) (HB4 : Below S w w4) (ha4 : ExIn w4 la ha a (.slice aa a.ks.length ac)) (hb4 : ExIn w4 lb hb' b (.slice ba b.ks.length bc))
    (h1 : S + 1 ≤ la) (h2 : ha ≤ lb) (h3 : hb' ≤ w4.heap.size) (h4 : ha ≤ w4.heap.size) (h5 : S + 1 ≤ lb)
    (hWB : Below w4.heap.size w4 WL) (hblk : WL.heap[w4.heap.size]? = some (.cells #[.int .i64 a.k, .int .i64 a.n, .string a.m, .string a.s, .slice aa a.ks.length ac, .int .i64 b.k, .int .i64 b.n, .string b.m, .string b.s, .slice ba b.ks.length bc] 24 (0, 0))) :
    Calls Try.prog 25 #[.int .i64 k, .slice (some ⟨w4.heap.size, 0, none⟩) 2 2] WL fun e w9 => ∃ g c, e = .returned (.agg #[.int .i64 k, .int .i64 0, .string ⟨#[]⟩, .string ⟨#[]⟩, .slice (some ⟨g, 0, none⟩) 2 c]) ∧ R5 w9 S ∧ Below S w w9 ∧ ExIn w9 (S + 1) w9.heap.size (.node k 0 e0 e0 [a, b]) (.slice (some ⟨g, 0, none⟩) 2 c) := by
  have hS4 := HR4.sz
  have hz := hWB.size
  refine (l3Node_any k [(a, .slice aa a.ks.length ac), (b, .slice ba b.ks.length bc)] 2 rfl (by omega) (by omega) (by simp [fives, fiveX, Value.oneCell']) w4.heap.size 2 (S + 1) (fun i => if i = 0 then la else lb) (fun i => if i = 0 then ha else hb') WL
    (Array.getElem?_eq_some_iff.1 hblk).1 (World.news_of_block (cs := #[.int .i64 a.k, .int .i64 a.n, .string a.m, .string a.s, .slice aa a.ks.length ac, .int .i64 b.k, .int .i64 b.n, .string b.m, .string b.s, .slice ba b.ks.length bc]) (t := 24) (fr := (0, 0)) hblk) (by omega) ?_ ?_ ?_).mono ?_
  · intro i hi
    by_cases h0 : i = 0
    · simp only [h0, if_true]; exact ⟨h1, by omega⟩
    · simp only [h0, if_false]; exact ⟨h5, by omega⟩
  · intro i j hij hj
    obtain rfl : i = 0 := by omega
    have : ¬ j = 0 := by omega
    simp only [this, if_true, if_false]
    exact h2
  · intro i hi
    by_cases h0 : i = 0
    · simp only [h0, if_true]; exact ha4.kept hWB
    · obtain rfl : i = 1 := by omega
      simp only [h0, if_false]; exact hb4.kept hWB
  · rintro e w9 ⟨g, c, rfl, hx, hb9⟩
    have hbb : Below w4.heap.size w4 w9 := hWB.trans (hb9.mono hz)
    exact ⟨g, c, rfl, HR4.kept hbb, HB4.trans (hbb.mono (by omega)), hx⟩
set_option maxRecDepth 100000 in
set_option maxHeartbeats 8000000 in
theorem round_yes4 (s : ByteArray) (hs : s.size ≤ 1048576) (d : Nat) (D : Int) (hD : D = (d : Int)) (HIH : Hid (PxT s d)) (i : Nat) (I : Int) (hI : I = i) (hi : i ≤ s.size) (w : World) (a : Ex) (n : Nat) (HP : Hid (px s d i = .ok a n)) (hn : n + 1 ≤ s.size) (H32 : Hid ((by8 s n == 32) = true)) (b : Ex) (m : Nat) (HQ : Hid (ser (px s d) s [41] (n + 1) = .ok [b] m)) :
    Calls Try.prog 20 #[.string s, .int .i64 I, .int .i64 D] w fun e w' => XRet w e w' (.ok (.node 4 0 e0 e0 [a, b]) m) := by
  obtain ⟨S, hS⟩ : ∃ S, w.heap.size = S := ⟨_, rfl⟩
  have HS := Lib.hid hS
  obtain ⟨W1, hW1⟩ : ∃ W, w.alloc (.cells #[.int .i64 0, .int .i64 0, .string ⟨#[]⟩, .string ⟨#[]⟩, .slice none 0 0] 24) = W := ⟨_, rfl⟩
  have HW1 := Lib.hid hW1
  have HR1 : Hid (R5 W1 S) := Lib.hid (by rw [← hW1, ← hS]; exact r5_new w _)
  have HB1 : Hid (Below S w W1) := Lib.hid (by rw [← hW1, ← hS]; exact (Below.refl _ _).alloc (Nat.le_refl _) _)
  have hz1 : W1.heap.size = S + 1 := by rw [← hW1, ← hS]; simp
  have HI := Lib.hid hI
  have HD := Lib.hid hD
  clear hI hD hW1
  go_enter Try.func20, Try.ntmps20
  go_wp2_with fail
  rw [HW1.out]
  try rw [hS]
  go_at_call 9
  refine (HIH.out _ D I i HD.out HI.out hi).mono ?_
  rintro e w2 hx
  rw [HP.out] at hx
  obtain ⟨va, N, hN, rfl, hex, hb⟩ := hx
  obtain ⟨aa, ac, rfl, _⟩ := hex.at.slice
  have hN0 : ¬ N < 0 := by omega
  have hN1 : 0 ≤ N := by omega
  have hN2 : N ≤ 1048576 := by omega
  have s1 : IntKind.i64.wrap (N + 1) = N + 1 := IntWalk.i64_in _ (by omega)
  have s2 : IntKind.i64.wrap (-1 - N) = -1 - N := IntWalk.i64_in _ (by omega)
  have HN := Lib.hid hN
  have HN1 : Hid (N + 1 = ((n + 1 : Nat) : Int)) := Lib.hid (by omega)
  have HNR : Hid (-1 - N = -1 - (n : Int)) := Lib.hid (by omega)
  have HA2 := Lib.hid hex
  have HR2 := Lib.hid (HR1.out.kept hb)
  have HB2 := Lib.hid (HB1.out.trans (hb.mono (by omega)))
  have hw2 : S + 1 ≤ w2.heap.size := by have := hb.size; omega
  clear hb hN hex
  obtain ⟨W3, hW3⟩ : ∃ W, w2.alloc (.cells #[.int .i64 a.k, .int .i64 a.n, .string a.m, .string a.s, .slice aa a.ks.length ac] 24) = W := ⟨_, rfl⟩
  obtain ⟨E, hE⟩ : ∃ E, w2.heap.size = E := ⟨_, rfl⟩
  have hbA : Below w2.heap.size w2 W3 := by rw [← hW3]; exact (Below.refl _ _).alloc (Nat.le_refl _) _
  have HBX := Lib.hid (ebox_new w2 (.int .i64 a.k) (.int .i64 a.n) (.string a.m) (.string a.s) (.slice aa a.ks.length ac) 24)
  rw [hW3, hE] at HBX
  have HR3 := Lib.hid (HR2.out.kept hbA)
  have HA3 := Lib.hid (HA2.out.kept hbA)
  have HB3 := Lib.hid (HB2.out.trans (hbA.mono (by omega)))
  have hz3 : W3.heap.size = E + 1 := by rw [← hW3, ← hE]; simp
  have HW3 := Lib.hid hW3
  clear hW3 hbA
  go_wp2_with fail
  rw [HW3.out]
  try rw [hE]
  go_at_call 23
  refine (sign_at s n N HN.out 32 true (by omega) H32.out _).mono ?_
  rintro e wq ⟨rfl, rfl⟩
  go_wp2_with fail
  go_at_call 24
  refine (l3Series_any s hs d D HD.out HIH ⟨#[41]⟩ [41] rfl (by decide) sg1 (n + 1) (N + 1) HN1.out hn _).mono ?_
  rintro e w4 hx
  rw [HQ.out] at hx
  obtain ⟨g, c, M, hM, rfl, hex, hb⟩ := hx
  have hex1 : ExIn w4 wq.heap.size w4.heap.size (.node 0 0 e0 e0 [b]) (.slice (some ⟨g, 0, none⟩) 1 c) := hex 0 0 e0 e0
  obtain ⟨vb, lb, hb', hfd, hr1, hr2, hexb⟩ := one_of hex1
  obtain ⟨ba, bc, rfl, _⟩ := hexb.at.slice
  have hM0 : ¬ M < 0 := by omega
  have HM := Lib.hid hM
  have HR4 := Lib.hid (HR3.out.kept hb)
  have HB4 := Lib.hid (HB3.out.trans (hb.mono (by omega)))
  have HX4 := Lib.hid (HBX.out.kept hb)
  have HA4 := Lib.hid (HA3.out.kept hb)
  have HE4 := Lib.hid hexb
  have hz4 : wq.heap.size ≤ w4.heap.size := hb.size
  obtain ⟨c0, c1, c2, c3, c4⟩ := hfd
  have hEw : E < w4.heap.size := HX4.out.sz
  have hgw : g < w4.heap.size := World.block_lt_of_cell? w4 _ c0
  rw [Nat.zero_add] at c1 c2 c3 c4
  clear hb hM hex hex1 hexb
  obtain ⟨b0, b1, b2, b3, b4, bz⟩ := HX4.out
  obtain ⟨p0, p1, p2, p3, p4, f0, f1, f2, f3, f4, psz⟩ := HR4.out
  go_wp2_with fail
  go_region_law (first
    | (go_simp; go_at_call 25; refine (node2 4 HS.out HR4.out HB4.out HA4.out HE4.out (by omega) (by omega) hr2 (by omega) (by omega) (by first | exact ((Below.refl _ w4).alloc (Nat.le_refl _) _).drew | exact (Below.refl _ w4).alloc (Nat.le_refl _) _ | exact ((Below.refl _ w4).drew.alloc (Nat.le_refl _) _)) (by exact heap_alloc_new w4 _)).mono ?_; rintro e w9 ⟨g9, c9, rfl, hr9, hb9, hx9⟩; have HB9 := Lib.hid hb9; have HX9 := Lib.hid hx9; clear p0 p1 p2 p3 p4 f0 f1 f2 f3 f4 psz; obtain ⟨p0, p1, p2, p3, p4, f0, f1, f2, f3, f4, psz⟩ := hr9; clear hb9 hx9)
    | fail)
  all_goals go_wp2_with fail
  all_goals exact bodyPost_ret (v := .tuple #[.agg #[.int .i64 4, .int .i64 0, .string ⟨#[]⟩, .string ⟨#[]⟩, .slice (some ⟨g9, 0, none⟩) 2 c9], .int .i64 M]) (by simp [results, Try.results20, go_sem, p0, p1, p2, p3, p4, psz]) rfl ⟨_, M, HM.out, rfl, by first | exact ex5 HS.out HX9.out _ _ _ _ _ | exact (ex5 HS.out HX9.out _ _ _ _ _).kept (Below.refl _ _).drew, by first | exact below5 HS.out HB9.out _ _ _ _ _ | exact (below5 HS.out HB9.out _ _ _ _ _).drew⟩
set_option maxRecDepth 100000 in
set_option maxHeartbeats 8000000 in
theorem round_yes5 (s : ByteArray) (hs : s.size ≤ 1048576) (d : Nat) (D : Int) (hD : D = (d : Int)) (HIH : Hid (PxT s d)) (i : Nat) (I : Int) (hI : I = i) (hi : i ≤ s.size) (w : World) (a : Ex) (n : Nat) (HP : Hid (px s d i = .ok a n)) (hn : n + 1 ≤ s.size) (H32 : Hid ((by8 s n == 32) = false)) (H43 : Hid ((by8 s n == 43) = true)) (b : Ex) (m : Nat) (HQ : Hid (ser (px s d) s [41] (n + 1) = .ok [b] m)) :
    Calls Try.prog 20 #[.string s, .int .i64 I, .int .i64 D] w fun e w' => XRet w e w' (.ok (.node 5 0 e0 e0 [a, b]) m) := by
  obtain ⟨S, hS⟩ : ∃ S, w.heap.size = S := ⟨_, rfl⟩
  have HS := Lib.hid hS
  obtain ⟨W1, hW1⟩ : ∃ W, w.alloc (.cells #[.int .i64 0, .int .i64 0, .string ⟨#[]⟩, .string ⟨#[]⟩, .slice none 0 0] 24) = W := ⟨_, rfl⟩
  have HW1 := Lib.hid hW1
  have HR1 : Hid (R5 W1 S) := Lib.hid (by rw [← hW1, ← hS]; exact r5_new w _)
  have HB1 : Hid (Below S w W1) := Lib.hid (by rw [← hW1, ← hS]; exact (Below.refl _ _).alloc (Nat.le_refl _) _)
  have hz1 : W1.heap.size = S + 1 := by rw [← hW1, ← hS]; simp
  have HI := Lib.hid hI
  have HD := Lib.hid hD
  clear hI hD hW1
  go_enter Try.func20, Try.ntmps20
  go_wp2_with fail
  rw [HW1.out]
  try rw [hS]
  go_at_call 9
  refine (HIH.out _ D I i HD.out HI.out hi).mono ?_
  rintro e w2 hx
  rw [HP.out] at hx
  obtain ⟨va, N, hN, rfl, hex, hb⟩ := hx
  obtain ⟨aa, ac, rfl, _⟩ := hex.at.slice
  have hN0 : ¬ N < 0 := by omega
  have hN1 : 0 ≤ N := by omega
  have hN2 : N ≤ 1048576 := by omega
  have s1 : IntKind.i64.wrap (N + 1) = N + 1 := IntWalk.i64_in _ (by omega)
  have s2 : IntKind.i64.wrap (-1 - N) = -1 - N := IntWalk.i64_in _ (by omega)
  have HN := Lib.hid hN
  have HN1 : Hid (N + 1 = ((n + 1 : Nat) : Int)) := Lib.hid (by omega)
  have HNR : Hid (-1 - N = -1 - (n : Int)) := Lib.hid (by omega)
  have HA2 := Lib.hid hex
  have HR2 := Lib.hid (HR1.out.kept hb)
  have HB2 := Lib.hid (HB1.out.trans (hb.mono (by omega)))
  have hw2 : S + 1 ≤ w2.heap.size := by have := hb.size; omega
  clear hb hN hex
  obtain ⟨W3, hW3⟩ : ∃ W, w2.alloc (.cells #[.int .i64 a.k, .int .i64 a.n, .string a.m, .string a.s, .slice aa a.ks.length ac] 24) = W := ⟨_, rfl⟩
  obtain ⟨E, hE⟩ : ∃ E, w2.heap.size = E := ⟨_, rfl⟩
  have hbA : Below w2.heap.size w2 W3 := by rw [← hW3]; exact (Below.refl _ _).alloc (Nat.le_refl _) _
  have HBX := Lib.hid (ebox_new w2 (.int .i64 a.k) (.int .i64 a.n) (.string a.m) (.string a.s) (.slice aa a.ks.length ac) 24)
  rw [hW3, hE] at HBX
  have HR3 := Lib.hid (HR2.out.kept hbA)
  have HA3 := Lib.hid (HA2.out.kept hbA)
  have HB3 := Lib.hid (HB2.out.trans (hbA.mono (by omega)))
  have hz3 : W3.heap.size = E + 1 := by rw [← hW3, ← hE]; simp
  have HW3 := Lib.hid hW3
  clear hW3 hbA
  go_wp2_with fail
  rw [HW3.out]
  try rw [hE]
  go_at_call 23
  refine (sign_at s n N HN.out 32 false (by omega) H32.out _).mono ?_
  rintro e wq ⟨rfl, rfl⟩
  go_wp2_with fail
  go_at_call 23
  refine (sign_at s n N HN.out 43 true (by omega) H43.out _).mono ?_
  rintro e wq ⟨rfl, rfl⟩
  go_wp2_with fail
  go_at_call 24
  refine (l3Series_any s hs d D HD.out HIH ⟨#[41]⟩ [41] rfl (by decide) sg1 (n + 1) (N + 1) HN1.out hn _).mono ?_
  rintro e w4 hx
  rw [HQ.out] at hx
  obtain ⟨g, c, M, hM, rfl, hex, hb⟩ := hx
  have hex1 : ExIn w4 wq.heap.size w4.heap.size (.node 0 0 e0 e0 [b]) (.slice (some ⟨g, 0, none⟩) 1 c) := hex 0 0 e0 e0
  obtain ⟨vb, lb, hb', hfd, hr1, hr2, hexb⟩ := one_of hex1
  obtain ⟨ba, bc, rfl, _⟩ := hexb.at.slice
  have hM0 : ¬ M < 0 := by omega
  have HM := Lib.hid hM
  have HR4 := Lib.hid (HR3.out.kept hb)
  have HB4 := Lib.hid (HB3.out.trans (hb.mono (by omega)))
  have HX4 := Lib.hid (HBX.out.kept hb)
  have HA4 := Lib.hid (HA3.out.kept hb)
  have HE4 := Lib.hid hexb
  have hz4 : wq.heap.size ≤ w4.heap.size := hb.size
  obtain ⟨c0, c1, c2, c3, c4⟩ := hfd
  have hEw : E < w4.heap.size := HX4.out.sz
  have hgw : g < w4.heap.size := World.block_lt_of_cell? w4 _ c0
  rw [Nat.zero_add] at c1 c2 c3 c4
  clear hb hM hex hex1 hexb
  obtain ⟨b0, b1, b2, b3, b4, bz⟩ := HX4.out
  obtain ⟨p0, p1, p2, p3, p4, f0, f1, f2, f3, f4, psz⟩ := HR4.out
  go_wp2_with fail
  go_region_law (first
    | (go_simp; go_at_call 25; refine (node2 5 HS.out HR4.out HB4.out HA4.out HE4.out (by omega) (by omega) hr2 (by omega) (by omega) (by first | exact ((Below.refl _ w4).alloc (Nat.le_refl _) _).drew | exact (Below.refl _ w4).alloc (Nat.le_refl _) _ | exact ((Below.refl _ w4).drew.alloc (Nat.le_refl _) _)) (by exact heap_alloc_new w4 _)).mono ?_; rintro e w9 ⟨g9, c9, rfl, hr9, hb9, hx9⟩; have HB9 := Lib.hid hb9; have HX9 := Lib.hid hx9; clear p0 p1 p2 p3 p4 f0 f1 f2 f3 f4 psz; obtain ⟨p0, p1, p2, p3, p4, f0, f1, f2, f3, f4, psz⟩ := hr9; clear hb9 hx9)
    | fail)
  all_goals go_wp2_with fail
  all_goals exact bodyPost_ret (v := .tuple #[.agg #[.int .i64 5, .int .i64 0, .string ⟨#[]⟩, .string ⟨#[]⟩, .slice (some ⟨g9, 0, none⟩) 2 c9], .int .i64 M]) (by simp [results, Try.results20, go_sem, p0, p1, p2, p3, p4, psz]) rfl ⟨_, M, HM.out, rfl, by first | exact ex5 HS.out HX9.out _ _ _ _ _ | exact (ex5 HS.out HX9.out _ _ _ _ _).kept (Below.refl _ _).drew, by first | exact below5 HS.out HB9.out _ _ _ _ _ | exact (below5 HS.out HB9.out _ _ _ _ _).drew⟩
set_option maxRecDepth 100000 in
set_option maxHeartbeats 8000000 in
theorem round_yes8 (s : ByteArray) (hs : s.size ≤ 1048576) (d : Nat) (D : Int) (hD : D = (d : Int)) (HIH : Hid (PxT s d)) (i : Nat) (I : Int) (hI : I = i) (hi : i ≤ s.size) (w : World) (a : Ex) (n : Nat) (HP : Hid (px s d i = .ok a n)) (hn : n + 1 ≤ s.size) (H32 : Hid ((by8 s n == 32) = false)) (H43 : Hid ((by8 s n == 43) = false)) (H44 : Hid ((by8 s n == 44) = true)) (b : Ex) (m : Nat) (HQ : Hid (ser (px s d) s [41] (n + 1) = .ok [b] m)) :
    Calls Try.prog 20 #[.string s, .int .i64 I, .int .i64 D] w fun e w' => XRet w e w' (.ok (.node 8 0 e0 e0 [a, b]) m) := by
  obtain ⟨S, hS⟩ : ∃ S, w.heap.size = S := ⟨_, rfl⟩
  have HS := Lib.hid hS
  obtain ⟨W1, hW1⟩ : ∃ W, w.alloc (.cells #[.int .i64 0, .int .i64 0, .string ⟨#[]⟩, .string ⟨#[]⟩, .slice none 0 0] 24) = W := ⟨_, rfl⟩
  have HW1 := Lib.hid hW1
  have HR1 : Hid (R5 W1 S) := Lib.hid (by rw [← hW1, ← hS]; exact r5_new w _)
  have HB1 : Hid (Below S w W1) := Lib.hid (by rw [← hW1, ← hS]; exact (Below.refl _ _).alloc (Nat.le_refl _) _)
  have hz1 : W1.heap.size = S + 1 := by rw [← hW1, ← hS]; simp
  have HI := Lib.hid hI
  have HD := Lib.hid hD
  clear hI hD hW1
  go_enter Try.func20, Try.ntmps20
  go_wp2_with fail
  rw [HW1.out]
  try rw [hS]
  go_at_call 9
  refine (HIH.out _ D I i HD.out HI.out hi).mono ?_
  rintro e w2 hx
  rw [HP.out] at hx
  obtain ⟨va, N, hN, rfl, hex, hb⟩ := hx
  obtain ⟨aa, ac, rfl, _⟩ := hex.at.slice
  have hN0 : ¬ N < 0 := by omega
  have hN1 : 0 ≤ N := by omega
  have hN2 : N ≤ 1048576 := by omega
  have s1 : IntKind.i64.wrap (N + 1) = N + 1 := IntWalk.i64_in _ (by omega)
  have s2 : IntKind.i64.wrap (-1 - N) = -1 - N := IntWalk.i64_in _ (by omega)
  have HN := Lib.hid hN
  have HN1 : Hid (N + 1 = ((n + 1 : Nat) : Int)) := Lib.hid (by omega)
  have HNR : Hid (-1 - N = -1 - (n : Int)) := Lib.hid (by omega)
  have HA2 := Lib.hid hex
  have HR2 := Lib.hid (HR1.out.kept hb)
  have HB2 := Lib.hid (HB1.out.trans (hb.mono (by omega)))
  have hw2 : S + 1 ≤ w2.heap.size := by have := hb.size; omega
  clear hb hN hex
  obtain ⟨W3, hW3⟩ : ∃ W, w2.alloc (.cells #[.int .i64 a.k, .int .i64 a.n, .string a.m, .string a.s, .slice aa a.ks.length ac] 24) = W := ⟨_, rfl⟩
  obtain ⟨E, hE⟩ : ∃ E, w2.heap.size = E := ⟨_, rfl⟩
  have hbA : Below w2.heap.size w2 W3 := by rw [← hW3]; exact (Below.refl _ _).alloc (Nat.le_refl _) _
  have HBX := Lib.hid (ebox_new w2 (.int .i64 a.k) (.int .i64 a.n) (.string a.m) (.string a.s) (.slice aa a.ks.length ac) 24)
  rw [hW3, hE] at HBX
  have HR3 := Lib.hid (HR2.out.kept hbA)
  have HA3 := Lib.hid (HA2.out.kept hbA)
  have HB3 := Lib.hid (HB2.out.trans (hbA.mono (by omega)))
  have hz3 : W3.heap.size = E + 1 := by rw [← hW3, ← hE]; simp
  have HW3 := Lib.hid hW3
  clear hW3 hbA
  go_wp2_with fail
  rw [HW3.out]
  try rw [hE]
  go_at_call 23
  refine (sign_at s n N HN.out 32 false (by omega) H32.out _).mono ?_
  rintro e wq ⟨rfl, rfl⟩
  go_wp2_with fail
  go_at_call 23
  refine (sign_at s n N HN.out 43 false (by omega) H43.out _).mono ?_
  rintro e wq ⟨rfl, rfl⟩
  go_wp2_with fail
  go_at_call 23
  refine (sign_at s n N HN.out 44 true (by omega) H44.out _).mono ?_
  rintro e wq ⟨rfl, rfl⟩
  go_wp2_with fail
  go_at_call 24
  refine (l3Series_any s hs d D HD.out HIH ⟨#[41]⟩ [41] rfl (by decide) sg1 (n + 1) (N + 1) HN1.out hn _).mono ?_
  rintro e w4 hx
  rw [HQ.out] at hx
  obtain ⟨g, c, M, hM, rfl, hex, hb⟩ := hx
  have hex1 : ExIn w4 wq.heap.size w4.heap.size (.node 0 0 e0 e0 [b]) (.slice (some ⟨g, 0, none⟩) 1 c) := hex 0 0 e0 e0
  obtain ⟨vb, lb, hb', hfd, hr1, hr2, hexb⟩ := one_of hex1
  obtain ⟨ba, bc, rfl, _⟩ := hexb.at.slice
  have hM0 : ¬ M < 0 := by omega
  have HM := Lib.hid hM
  have HR4 := Lib.hid (HR3.out.kept hb)
  have HB4 := Lib.hid (HB3.out.trans (hb.mono (by omega)))
  have HX4 := Lib.hid (HBX.out.kept hb)
  have HA4 := Lib.hid (HA3.out.kept hb)
  have HE4 := Lib.hid hexb
  have hz4 : wq.heap.size ≤ w4.heap.size := hb.size
  obtain ⟨c0, c1, c2, c3, c4⟩ := hfd
  have hEw : E < w4.heap.size := HX4.out.sz
  have hgw : g < w4.heap.size := World.block_lt_of_cell? w4 _ c0
  rw [Nat.zero_add] at c1 c2 c3 c4
  clear hb hM hex hex1 hexb
  obtain ⟨b0, b1, b2, b3, b4, bz⟩ := HX4.out
  obtain ⟨p0, p1, p2, p3, p4, f0, f1, f2, f3, f4, psz⟩ := HR4.out
  go_wp2_with fail
  go_region_law (first
    | (go_simp; go_at_call 25; refine (node2 8 HS.out HR4.out HB4.out HA4.out HE4.out (by omega) (by omega) hr2 (by omega) (by omega) (by first | exact ((Below.refl _ w4).alloc (Nat.le_refl _) _).drew | exact (Below.refl _ w4).alloc (Nat.le_refl _) _ | exact ((Below.refl _ w4).drew.alloc (Nat.le_refl _) _)) (by exact heap_alloc_new w4 _)).mono ?_; rintro e w9 ⟨g9, c9, rfl, hr9, hb9, hx9⟩; have HB9 := Lib.hid hb9; have HX9 := Lib.hid hx9; clear p0 p1 p2 p3 p4 f0 f1 f2 f3 f4 psz; obtain ⟨p0, p1, p2, p3, p4, f0, f1, f2, f3, f4, psz⟩ := hr9; clear hb9 hx9)
    | fail)
  all_goals go_wp2_with fail
  all_goals exact bodyPost_ret (v := .tuple #[.agg #[.int .i64 8, .int .i64 0, .string ⟨#[]⟩, .string ⟨#[]⟩, .slice (some ⟨g9, 0, none⟩) 2 c9], .int .i64 M]) (by simp [results, Try.results20, go_sem, p0, p1, p2, p3, p4, psz]) rfl ⟨_, M, HM.out, rfl, by first | exact ex5 HS.out HX9.out _ _ _ _ _ | exact (ex5 HS.out HX9.out _ _ _ _ _).kept (Below.refl _ _).drew, by first | exact below5 HS.out HB9.out _ _ _ _ _ | exact (below5 HS.out HB9.out _ _ _ _ _).drew⟩
theorem l3Round_any (s : ByteArray) (hs : s.size ≤ 1048576) (d : Nat) (D : Int) (hD : D = (d : Int)) (HIH : Hid (PxT s d)) (i : Nat) (I : Int) (hI : I = i) (hi : i ≤ s.size) (w : World) :
    Calls Try.prog 20 #[.string s, .int .i64 I, .int .i64 D] w fun e w' => XRet w e w' (pxR (px s d) s i) := by
  unfold pxR
  have hin := px_in s d i hi
  rcases hp : px s d i with ⟨a, n⟩ | k
  case no =>
    rw [hp] at hin
    exact round_no s hs d D hD HIH i I hI hi w k (Lib.hid hp) hin
  case ok =>
  rw [hp] at hin
  obtain ⟨hn1, hn2⟩ : i < n ∧ n ≤ s.size := hin
  dsimp only
  by_cases hc : by8 s n = 32
  case pos =>
    have HK : knd (by8 s n) = 4 := by rw [hc]; rfl
    rw [HK, if_neg (by omega)]
    have hn1 : n + 1 ≤ s.size := by have := by8_lt (s := s) (i := n) (by omega); omega
    rcases hq : ser (px s d) s [41] (n + 1) with ⟨xs, m⟩ | k
    case no =>
      have hin := ser_in (px_in s d) [41] (n + 1) (by intro c hc; simp at hc; omega) hn1
      rw [hq] at hin
      exact round_no4 s hs d D hD HIH i I hI hi w a n (Lib.hid hp) hn1 (Lib.hid (by rw [hc]; rfl)) k (Lib.hid hq) hin
    case ok =>
      obtain ⟨b, rfl⟩ := ser_one hq
      exact round_yes4 s hs d D hD HIH i I hI hi w a n (Lib.hid hp) hn1 (Lib.hid (by rw [hc]; rfl)) b m (Lib.hid hq)
  have g32 : Hid ((by8 s n == 32) = false) := Lib.hid (beq_eq_false_iff_ne.2 hc)
  have k32 := hc
  clear hc
  by_cases hc : by8 s n = 43
  case pos =>
    have HK : knd (by8 s n) = 5 := by rw [hc]; rfl
    rw [HK, if_neg (by omega)]
    have hn1 : n + 1 ≤ s.size := by have := by8_lt (s := s) (i := n) (by omega); omega
    rcases hq : ser (px s d) s [41] (n + 1) with ⟨xs, m⟩ | k
    case no =>
      have hin := ser_in (px_in s d) [41] (n + 1) (by intro c hc; simp at hc; omega) hn1
      rw [hq] at hin
      exact round_no5 s hs d D hD HIH i I hI hi w a n (Lib.hid hp) hn1 (Lib.hid (by rw [hc]; rfl)) (Lib.hid (by rw [hc]; rfl)) k (Lib.hid hq) hin
    case ok =>
      obtain ⟨b, rfl⟩ := ser_one hq
      exact round_yes5 s hs d D hD HIH i I hI hi w a n (Lib.hid hp) hn1 (Lib.hid (by rw [hc]; rfl)) (Lib.hid (by rw [hc]; rfl)) b m (Lib.hid hq)
  have g43 : Hid ((by8 s n == 43) = false) := Lib.hid (beq_eq_false_iff_ne.2 hc)
  have k43 := hc
  clear hc
  by_cases hc : by8 s n = 44
  case pos =>
    have HK : knd (by8 s n) = 8 := by rw [hc]; rfl
    rw [HK, if_neg (by omega)]
    have hn1 : n + 1 ≤ s.size := by have := by8_lt (s := s) (i := n) (by omega); omega
    rcases hq : ser (px s d) s [41] (n + 1) with ⟨xs, m⟩ | k
    case no =>
      have hin := ser_in (px_in s d) [41] (n + 1) (by intro c hc; simp at hc; omega) hn1
      rw [hq] at hin
      exact round_no8 s hs d D hD HIH i I hI hi w a n (Lib.hid hp) hn1 (Lib.hid (by rw [hc]; rfl)) (Lib.hid (by rw [hc]; rfl)) (Lib.hid (by rw [hc]; rfl)) k (Lib.hid hq) hin
    case ok =>
      obtain ⟨b, rfl⟩ := ser_one hq
      exact round_yes8 s hs d D hD HIH i I hI hi w a n (Lib.hid hp) hn1 (Lib.hid (by rw [hc]; rfl)) (Lib.hid (by rw [hc]; rfl)) (Lib.hid (by rw [hc]; rfl)) b m (Lib.hid hq)
  have HK : knd (by8 s n) = 0 := by unfold knd; rw [if_neg k32, if_neg k43, if_neg hc]
  rw [if_pos HK]
  exact round_off s hs d D hD HIH i I hI hi w a n (Lib.hid hp) hn2 g32 g43 (Lib.hid (beq_eq_false_iff_ne.2 hc))

end Go.Proofs.Ytpaefcdchaemfaa
