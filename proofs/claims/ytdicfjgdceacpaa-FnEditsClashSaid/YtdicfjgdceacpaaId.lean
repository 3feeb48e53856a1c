/-
  What TransformEdit, EditsClash and MergeEdits return, in the program and in the model: for every text of at most maxLen bytes and any two edits; what was in memory stays.
-/
import Derived.Test.YtdicfjgdceacpaaProg
import Derived.Test.YtdicfjgdceacpaaIb
import Derived.Deep.RegionWith
namespace Go.Proofs.Ytdicfjgdceacpaa
open Go.RowKit
set_option linter.unusedVariables false
set_option linter.unusedSimpArgs false

theorem sizeE (w : World) (o : Obj) : (w.alloc o).heap.size = w.heap.size + 1 := by simp
/-- Two edits in variables of their own. -/
structure TA (v w : World) (f t : Int) (i : ByteArray) (g u : Int) (j : ByteArray) : Prop where
  a : EdAt w v.heap.size f t i
  b : EdAt w (v.heap.size + 1) g u j
  bel : Below v.heap.size v w
theorem TA.below {v w w' : World} {f t : Int} {i : ByteArray} {g u : Int} {j : ByteArray} (h : TA v w f t i g u j) (hb : Below w.heap.size w w') : TA v w' f t i g u j :=
  ⟨h.a.below hb, h.b.below hb, h.bel.trans (hb.mono h.bel.size)⟩
theorem TA.drew {v w : World} {f t : Int} {i : ByteArray} {g u : Int} {j : ByteArray} (h : TA v w f t i g u j) : TA v w.drew f t i g u j := ⟨h.a.drew, h.b.drew, h.bel.drew⟩
theorem TA.new (w : World) (f t : Int) (i : ByteArray) (g u : Int) (j : ByteArray) : TA w ((w.alloc (.cells #[.int .i64 f, .int .i64 t, .string i] 24)).alloc (.cells #[.int .i64 g, .int .i64 u, .string j] 24)) f t i g u j := by
  refine ⟨(edAt_new w f t i 24).below ((Below.refl _ _).alloc (Nat.le_refl _) _), ?_, ((Below.refl _ _).alloc (Nat.le_refl _) _).alloc (by simp) _⟩
  have h := edAt_new (w.alloc (.cells #[.int .i64 f, .int .i64 t, .string i] 24)) g u j 24
  rw [sizeE] at h
  exact h
/-- Two edits, and an empty one behind them, in variables of their own. -/
structure TB (v w : World) (f t : Int) (i : ByteArray) (g u : Int) (j : ByteArray) : Prop where
  a : EdAt w v.heap.size f t i
  b : EdAt w (v.heap.size + 1) g u j
  z : EdAt w (v.heap.size + 1 + 1) 0 0 ⟨#[]⟩
  bel : Below v.heap.size v w
theorem TB.below {v w w' : World} {f t : Int} {i : ByteArray} {g u : Int} {j : ByteArray} (h : TB v w f t i g u j) (hb : Below w.heap.size w w') : TB v w' f t i g u j :=
  ⟨h.a.below hb, h.b.below hb, h.z.below hb, h.bel.trans (hb.mono h.bel.size)⟩
theorem TB.drew {v w : World} {f t : Int} {i : ByteArray} {g u : Int} {j : ByteArray} (h : TB v w f t i g u j) : TB v w.drew f t i g u j := ⟨h.a.drew, h.b.drew, h.z.drew, h.bel.drew⟩
theorem TB.new (w : World) (f t : Int) (i : ByteArray) (g u : Int) (j : ByteArray) : TB w (((w.alloc (.cells #[.int .i64 f, .int .i64 t, .string i] 24)).alloc (.cells #[.int .i64 g, .int .i64 u, .string j] 24)).alloc (.cells #[.int .i64 0, .int .i64 0, .string ⟨#[]⟩] 24)) f t i g u j := by
  have h0 := (TA.new w f t i g u j).below (w' := ((w.alloc (.cells #[.int .i64 f, .int .i64 t, .string i] 24)).alloc (.cells #[.int .i64 g, .int .i64 u, .string j] 24)).alloc (.cells #[.int .i64 0, .int .i64 0, .string ⟨#[]⟩] 24)) ((Below.refl _ _).alloc (Nat.le_refl _) _)
  refine ⟨h0.a, h0.b, ?_, h0.bel⟩
  have h := edAt_new ((w.alloc (.cells #[.int .i64 f, .int .i64 t, .string i] 24)).alloc (.cells #[.int .i64 g, .int .i64 u, .string j] 24)) 0 0 ⟨#[]⟩ 24
  rw [sizeE, sizeE] at h
  exact h
/-- The same, and one more edit in a variable at block X. -/
structure TM (v w : World) (X : Nat) (f t : Int) (i : ByteArray) (g u : Int) (j : ByteArray) (p q : Int) (k : ByteArray) : Prop where
  a : EdAt w v.heap.size f t i
  b : EdAt w (v.heap.size + 1) g u j
  z : EdAt w (v.heap.size + 1 + 1) 0 0 ⟨#[]⟩
  m : EdAt w X p q k
  x : v.heap.size + 1 + 1 < X
  bel : Below v.heap.size v w
theorem TM.below {v w w' : World} {X : Nat} {f t : Int} {i : ByteArray} {g u : Int} {j : ByteArray} {p q : Int} {k : ByteArray} (h : TM v w X f t i g u j p q k) (hb : Below w.heap.size w w') : TM v w' X f t i g u j p q k :=
  ⟨h.a.below hb, h.b.below hb, h.z.below hb, h.m.below hb, h.x, h.bel.trans (hb.mono h.bel.size)⟩
theorem TM.drew {v w : World} {X : Nat} {f t : Int} {i : ByteArray} {g u : Int} {j : ByteArray} {p q : Int} {k : ByteArray} (h : TM v w X f t i g u j p q k) : TM v w.drew X f t i g u j p q k := ⟨h.a.drew, h.b.drew, h.z.drew, h.m.drew, h.x, h.bel.drew⟩
theorem TM.set0 {v w : World} {X : Nat} {f t : Int} {i : ByteArray} {g u : Int} {j : ByteArray} {p q : Int} {k : ByteArray} (h : TM v w X f t i g u j p q k) (n : Int) : TM v (w.setCell ⟨X, 0, none⟩ (.int .i64 n)) X f t i g u j n q k := by
  have hx := h.x
  exact ⟨h.a.other (by omega) _ _, h.b.other (by omega) _ _, h.z.other (by omega) _ _, h.m.set0 n, hx, h.bel.setCell (p := ⟨X, 0, none⟩) (by show v.heap.size ≤ X; omega) _⟩
theorem TM.set1 {v w : World} {X : Nat} {f t : Int} {i : ByteArray} {g u : Int} {j : ByteArray} {p q : Int} {k : ByteArray} (h : TM v w X f t i g u j p q k) (n : Int) : TM v (w.setCell ⟨X, 1, none⟩ (.int .i64 n)) X f t i g u j p n k := by
  have hx := h.x
  exact ⟨h.a.other (by omega) _ _, h.b.other (by omega) _ _, h.z.other (by omega) _ _, h.m.set1 n, hx, h.bel.setCell (p := ⟨X, 1, none⟩) (by show v.heap.size ≤ X; omega) _⟩
theorem TB.more {v w : World} {f t : Int} {i : ByteArray} {g u : Int} {j : ByteArray} (h : TB v w f t i g u j) (p q : Int) (k : ByteArray) : TM v (w.alloc (.cells #[.int .i64 p, .int .i64 q, .string k] 24)) w.heap.size f t i g u j p q k := by
  have hb : Below w.heap.size w (w.alloc (.cells #[.int .i64 p, .int .i64 q, .string k] 24)) := (Below.refl _ _).alloc (Nat.le_refl _) _
  exact ⟨h.a.below hb, h.b.below hb, h.z.below hb, edAt_new w p q k _, h.z.sz, h.bel.trans (hb.mono h.bel.size)⟩

theorem mv_range {f t g u : Int} {j : ByteArray} {c : Bool} (k0 : 0 ≤ g) (k1 : g ≤ u) (k2 : u ≤ 2000) (hj : j.size ≤ 2000) : -2000 ≤ mv f t g u j c ∧ mv f t g u j c ≤ 2000 := by
  unfold mv grw
  rcases bhB f t g u c with _ | _
  · simp
  · simp only [if_true]; omega
set_option maxHeartbeats 4000000 in
theorem after_any (f t : Int) (i : ByteArray) (g u : Int) (j : ByteArray) (c : Bool) (d : Int) (hd : mv f t g u j c = d) (h0 : 0 ≤ f) (h1 : f ≤ t) (h2 : t ≤ 2000) (k0 : 0 ≤ g) (k1 : g ≤ u) (k2 : u ≤ 2000) (hi : i.size ≤ 2000) (hj : j.size ≤ 2000) (w : World) :
    Calls Try.prog 50 #[.agg #[.int .i64 f, .int .i64 t, .string i], .agg #[.int .i64 g, .int .i64 u, .string j], .bool c] w fun e w' => e = .returned (.agg #[.int .i64 (f + d), .int .i64 (t + d), .string i]) ∧ Below w.heap.size w w' := by
  have hr := mv_range (f := f) (t := t) (c := c) k0 k1 k2 hj
  rw [hd] at hr
  obtain ⟨hr1, hr2⟩ := hr
  rcases hv : bhB f t g u c with _ | _
  · have HV := Lib.hid hv
    have hd0 : d = 0 := by rw [← hd]; unfold mv; rw [hv]; rfl
    subst hd0
    rw [Int.add_zero, Int.add_zero]
    clear hd hv
    obtain ⟨W3, hW3⟩ : ∃ W, ((w.alloc (.cells #[.int .i64 f, .int .i64 t, .string i] 24)).alloc (.cells #[.int .i64 g, .int .i64 u, .string j] 24)).alloc (.cells #[.int .i64 0, .int .i64 0, .string ⟨#[]⟩] 24) = W := ⟨_, rfl⟩
    have HT0 : Hid (TB w W3 f t i g u j) := Lib.hid (hW3 ▸ TB.new w f t i g u j)
    have HW3 := Lib.hid hW3
    clear hW3
    go_enter Try.func50, Try.ntmps50
    go_wp2_with fail
    rw [HW3.out]
    obtain ⟨⟨a0, a1, a2, a3, a4, a5, a6⟩, ⟨b0, b1, b2, b3, b4, b5, b6⟩, ⟨z0, z1, z2, z3, z4, z5, z6⟩, _⟩ := HT0.out
    go_at_call 67
    refine (behind_any f t i g u j c _ HV.out _).mono ?_
    rintro e w1 ⟨rfl, hb1⟩
    clear a0 a1 a2 a3 a4 a5 a6 b0 b1 b2 b3 b4 b5 b6 z0 z1 z2 z3 z4 z5 z6
    have HT1 := Lib.hid (HT0.out.below hb1)
    clear hb1
    obtain ⟨⟨a0, a1, a2, a3, a4, a5, a6⟩, ⟨b0, b1, b2, b3, b4, b5, b6⟩, ⟨z0, z1, z2, z3, z4, z5, z6⟩, _⟩ := HT1.out
    go_wp2_with fail
    exact bodyPost_ret (v := .agg #[.int .i64 f, .int .i64 t, .string i]) (by simp [results, Try.results50, go_sem, z0, z1, z2]) rfl ⟨rfl, below_set3 HT1.out.bel (by omega)⟩
  · have HV := Lib.hid hv
    have HD : Hid (grw g u j = d) := Lib.hid (by rw [← hd]; unfold mv; rw [hv]; rfl)
    clear hd hv
    obtain ⟨W3, hW3⟩ : ∃ W, ((w.alloc (.cells #[.int .i64 f, .int .i64 t, .string i] 24)).alloc (.cells #[.int .i64 g, .int .i64 u, .string j] 24)).alloc (.cells #[.int .i64 0, .int .i64 0, .string ⟨#[]⟩] 24) = W := ⟨_, rfl⟩
    have HT0 : Hid (TB w W3 f t i g u j) := Lib.hid (hW3 ▸ TB.new w f t i g u j)
    have HW3 := Lib.hid hW3
    clear hW3
    go_enter Try.func50, Try.ntmps50
    go_wp2_with fail
    rw [HW3.out]
    obtain ⟨⟨a0, a1, a2, a3, a4, a5, a6⟩, ⟨b0, b1, b2, b3, b4, b5, b6⟩, ⟨z0, z1, z2, z3, z4, z5, z6⟩, _⟩ := HT0.out
    go_at_call 67
    refine (behind_any f t i g u j c _ HV.out _).mono ?_
    rintro e w1 ⟨rfl, hb1⟩
    clear a0 a1 a2 a3 a4 a5 a6 b0 b1 b2 b3 b4 b5 b6 z0 z1 z2 z3 z4 z5 z6
    have HT1 := Lib.hid (HT0.out.below hb1)
    clear hb1
    obtain ⟨⟨a0, a1, a2, a3, a4, a5, a6⟩, ⟨b0, b1, b2, b3, b4, b5, b6⟩, ⟨z0, z1, z2, z3, z4, z5, z6⟩, _⟩ := HT1.out
    go_wp2_with fail
    have HT1d := Lib.hid HT1.out.drew
    have n1 : ¬ w.heap.size + 1 + 1 = w.heap.size := by omega
    have n2 : ¬ w.heap.size = w.heap.size + 1 + 1 := by omega
    have n3 : ¬ w.heap.size + 1 + 1 = w.heap.size + 1 := by omega
    have n4 : ¬ w.heap.size + 1 = w.heap.size + 1 + 1 := by omega
    go_region_held3 (fun w' => w'.cell? ⟨w.heap.size, 0, none⟩ = some (.int .i64 f) ∧ w'.cell? ⟨w.heap.size, 1, none⟩ = some (.int .i64 t) ∧ w'.cell? ⟨w.heap.size, 2, none⟩ = some (.string i) ∧ w'.cell? ⟨w.heap.size + 1, 0, none⟩ = some (.int .i64 g) ∧ w'.cell? ⟨w.heap.size + 1, 1, none⟩ = some (.int .i64 u) ∧ w'.cell? ⟨w.heap.size + 1, 2, none⟩ = some (.string j)) (first | go_keep | go_simp)
      (first | (go_at_call 60; refine (growth_at g u j d HD.out k0 k1 (by omega) (by omega) _).mono ?_; rintro e w5 ⟨rfl, hb5⟩; have HT5 := Lib.hid (HT1d.out.below hb5); clear hb5; obtain ⟨⟨x0p, x1p, x2p, x3p, x4p, x5p, x6p⟩, ⟨y0p, y1p, y2p, y3p, y4p, y5p, y6p⟩, ⟨r0p, r1p, r2p, r3p, r4p, r5p, r6p⟩, _⟩ := HT5.out) | (go_at_call 68; refine (shifted_any f t i d (by omega) (by omega) (by omega) (by omega) (by omega) (by omega) _).mono ?_; rintro e w6 ⟨rfl, hb6⟩; have HT6 := Lib.hid (HT5.out.below hb6); clear hb6; obtain ⟨⟨x0q, x1q, x2q, x3q, x4q, x5q, x6q⟩, ⟨y0q, y1q, y2q, y3q, y4q, y5q, y6q⟩, ⟨r0q, r1q, r2q, r3q, r4q, r5q, r6q⟩, _⟩ := HT6.out))
    all_goals go_wp2_with fail
    all_goals exact bodyPost_ret (v := .agg #[.int .i64 (f + d), .int .i64 (t + d), .string i]) (by simp [results, Try.results50, go_sem, r0q, r1q, r2q]) rfl ⟨rfl, below_set3 HT6.out.bel (by omega)⟩

theorem applied_at (s : ByteArray) (f t : Int) (i y : ByteArray) (hy : ap s f t i = y) (h0 : 0 ≤ f) (h1 : f ≤ t) (h2 : t ≤ s.size) (hs : s.size ≤ 2000) (hi : i.size ≤ 2000) (w : World) :
    Calls Try.prog 51 #[.agg #[.int .i64 f, .int .i64 t, .string i], .string s] w fun e w' => e = .returned (.string y) ∧ Below w.heap.size w w' := by
  subst hy; exact applied_any s f t i h0 h1 h2 hs hi w
theorem l1Apply_at (s : ByteArray) (f t : Int) (i y : ByteArray) (hy : ap s f t i = y) (h0 : 0 ≤ f) (h1 : f ≤ t) (h2 : t ≤ s.size) (hs : s.size ≤ 2000) (hi : i.size ≤ 2000) (w : World) :
    Calls Try.prog 56 #[.string s, .agg #[.int .i64 f, .int .i64 t, .string i]] w fun e w' => e = .returned (.string y) ∧ Below w.heap.size w w' := by
  subst hy; exact l1Apply_any s f t i h0 h1 h2 hs hi w
set_option maxHeartbeats 8000000 in
theorem transform_impl_no (s : ByteArray) (f t : Int) (i : ByteArray) (g u : Int) (j : ByteArray) (c : Bool) (hb : trB s f t i g u j c = false) (hs : s.size ≤ maxLen) (hi : i.size ≤ maxLen) (hj : j.size ≤ maxLen) (w : World) :
    Calls Try.prog 18 #[.string s, .agg #[.int .i64 f, .int .i64 t, .string i], .agg #[.int .i64 g, .int .i64 u, .string j], .bool c] w fun e w' => e = .returned (.tuple #[.agg #[.int .i64 0, .int .i64 0, .string ⟨#[]⟩], .bool false]) ∧ Below w.heap.size w w' := by
  have HSL := Lib.hid hs
  have HIL := Lib.hid hi
  have HJL := Lib.hid hj
  clear hs hi hj
  rcases ha : fitsB s f t i with _ | _
  · have HA := Lib.hid ha
    clear ha hb
    obtain ⟨W3, hW3⟩ : ∃ W, ((w.alloc (.cells #[.int .i64 f, .int .i64 t, .string i] 24)).alloc (.cells #[.int .i64 g, .int .i64 u, .string j] 24)).alloc (.cells #[.int .i64 0, .int .i64 0, .string ⟨#[]⟩] 24) = W := ⟨_, rfl⟩
    have HT0 : Hid (TB w W3 f t i g u j) := Lib.hid (hW3 ▸ TB.new w f t i g u j)
    have HW3 := Lib.hid hW3
    clear hW3
    go_enter Try.func18, Try.ntmps18
    go_wp2_with fail
    rw [HW3.out]
    obtain ⟨⟨a0, a1, a2, a3, a4, a5, a6⟩, ⟨b0, b1, b2, b3, b4, b5, b6⟩, ⟨z0, z1, z2, z3, z4, z5, z6⟩, _⟩ := HT0.out
    go_at_call 48
    refine (fits_any s f t i _ HA.out HSL.out HIL.out _).mono ?_
    rintro e w1 ⟨rfl, hb1⟩
    clear a0 a1 a2 a3 a4 a5 a6 b0 b1 b2 b3 b4 b5 b6 z0 z1 z2 z3 z4 z5 z6
    have HT1 := Lib.hid (HT0.out.below hb1)
    clear hb1
    obtain ⟨⟨a0, a1, a2, a3, a4, a5, a6⟩, ⟨b0, b1, b2, b3, b4, b5, b6⟩, ⟨z0, z1, z2, z3, z4, z5, z6⟩, _⟩ := HT1.out
    go_wp2_with fail
    exact bodyPost_ret (v := .tuple #[.agg #[.int .i64 0, .int .i64 0, .string ⟨#[]⟩], .bool false]) (by simp [results, Try.results18, go_sem, z0, z1, z2]) rfl ⟨rfl, below_set3 HT1.out.bel (by omega)⟩
  rcases hg : fitsB s g u j with _ | _
  · have HA := Lib.hid ha
    have HB := Lib.hid hg
    clear ha hb hg
    obtain ⟨W3, hW3⟩ : ∃ W, ((w.alloc (.cells #[.int .i64 f, .int .i64 t, .string i] 24)).alloc (.cells #[.int .i64 g, .int .i64 u, .string j] 24)).alloc (.cells #[.int .i64 0, .int .i64 0, .string ⟨#[]⟩] 24) = W := ⟨_, rfl⟩
    have HT0 : Hid (TB w W3 f t i g u j) := Lib.hid (hW3 ▸ TB.new w f t i g u j)
    have HW3 := Lib.hid hW3
    clear hW3
    go_enter Try.func18, Try.ntmps18
    go_wp2_with fail
    rw [HW3.out]
    obtain ⟨⟨a0, a1, a2, a3, a4, a5, a6⟩, ⟨b0, b1, b2, b3, b4, b5, b6⟩, ⟨z0, z1, z2, z3, z4, z5, z6⟩, _⟩ := HT0.out
    go_at_call 48
    refine (fits_any s f t i _ HA.out HSL.out HIL.out _).mono ?_
    rintro e w1 ⟨rfl, hb1⟩
    clear a0 a1 a2 a3 a4 a5 a6 b0 b1 b2 b3 b4 b5 b6 z0 z1 z2 z3 z4 z5 z6
    have HT1 := Lib.hid (HT0.out.below hb1)
    clear hb1
    obtain ⟨⟨a0, a1, a2, a3, a4, a5, a6⟩, ⟨b0, b1, b2, b3, b4, b5, b6⟩, ⟨z0, z1, z2, z3, z4, z5, z6⟩, _⟩ := HT1.out
    go_wp2_with fail
    go_at_call 48
    refine (fits_any s g u j _ HB.out HSL.out HJL.out _).mono ?_
    rintro e w2 ⟨rfl, hb2⟩
    clear a0 a1 a2 a3 a4 a5 a6 b0 b1 b2 b3 b4 b5 b6 z0 z1 z2 z3 z4 z5 z6
    have HT2 := Lib.hid (HT1.out.below hb2)
    clear hb2
    obtain ⟨⟨a0, a1, a2, a3, a4, a5, a6⟩, ⟨b0, b1, b2, b3, b4, b5, b6⟩, ⟨z0, z1, z2, z3, z4, z5, z6⟩, _⟩ := HT2.out
    go_wp2_with fail
    exact bodyPost_ret (v := .tuple #[.agg #[.int .i64 0, .int .i64 0, .string ⟨#[]⟩], .bool false]) (by simp [results, Try.results18, go_sem, z0, z1, z2]) rfl ⟨rfl, below_set3 HT2.out.bel (by omega)⟩
  have hf1 := (fitsB_iff.mp ha).2.2.2.1
  have hg1 := (fitsB_iff.mp hg).2.2.2.1
  rcases hcl : clB f t g u with _ | _
  case true =>
    have HA := Lib.hid ha
    have HB := Lib.hid hg
    have HC := Lib.hid hcl
    clear ha hb hg hcl
    obtain ⟨W3, hW3⟩ : ∃ W, ((w.alloc (.cells #[.int .i64 f, .int .i64 t, .string i] 24)).alloc (.cells #[.int .i64 g, .int .i64 u, .string j] 24)).alloc (.cells #[.int .i64 0, .int .i64 0, .string ⟨#[]⟩] 24) = W := ⟨_, rfl⟩
    have HT0 : Hid (TB w W3 f t i g u j) := Lib.hid (hW3 ▸ TB.new w f t i g u j)
    have HW3 := Lib.hid hW3
    clear hW3
    go_enter Try.func18, Try.ntmps18
    go_wp2_with fail
    rw [HW3.out]
    obtain ⟨⟨a0, a1, a2, a3, a4, a5, a6⟩, ⟨b0, b1, b2, b3, b4, b5, b6⟩, ⟨z0, z1, z2, z3, z4, z5, z6⟩, _⟩ := HT0.out
    go_at_call 48
    refine (fits_any s f t i _ HA.out HSL.out HIL.out _).mono ?_
    rintro e w1 ⟨rfl, hb1⟩
    clear a0 a1 a2 a3 a4 a5 a6 b0 b1 b2 b3 b4 b5 b6 z0 z1 z2 z3 z4 z5 z6
    have HT1 := Lib.hid (HT0.out.below hb1)
    clear hb1
    obtain ⟨⟨a0, a1, a2, a3, a4, a5, a6⟩, ⟨b0, b1, b2, b3, b4, b5, b6⟩, ⟨z0, z1, z2, z3, z4, z5, z6⟩, _⟩ := HT1.out
    go_wp2_with fail
    go_at_call 48
    refine (fits_any s g u j _ HB.out HSL.out HJL.out _).mono ?_
    rintro e w2 ⟨rfl, hb2⟩
    clear a0 a1 a2 a3 a4 a5 a6 b0 b1 b2 b3 b4 b5 b6 z0 z1 z2 z3 z4 z5 z6
    have HT2 := Lib.hid (HT1.out.below hb2)
    clear hb2
    obtain ⟨⟨a0, a1, a2, a3, a4, a5, a6⟩, ⟨b0, b1, b2, b3, b4, b5, b6⟩, ⟨z0, z1, z2, z3, z4, z5, z6⟩, _⟩ := HT2.out
    go_wp2_with fail
    go_at_call 49
    refine (clashes_any f t i g u j _ HC.out _).mono ?_
    rintro e w3 ⟨rfl, hb3⟩
    clear a0 a1 a2 a3 a4 a5 a6 b0 b1 b2 b3 b4 b5 b6 z0 z1 z2 z3 z4 z5 z6
    have HT3 := Lib.hid (HT2.out.below hb3)
    clear hb3
    obtain ⟨⟨a0, a1, a2, a3, a4, a5, a6⟩, ⟨b0, b1, b2, b3, b4, b5, b6⟩, ⟨z0, z1, z2, z3, z4, z5, z6⟩, _⟩ := HT3.out
    go_wp2_with fail
    exact bodyPost_ret (v := .tuple #[.agg #[.int .i64 0, .int .i64 0, .string ⟨#[]⟩], .bool false]) (by simp [results, Try.results18, go_sem, z0, z1, z2]) rfl ⟨rfl, below_set3 HT3.out.bel (by omega)⟩
  obtain ⟨hv1, hv2, h0, h1, h2, h3⟩ := fitsB_iff.mp ha
  obtain ⟨_, hv4, k0, k1, k2, k3⟩ := fitsB_iff.mp hg
  have hs := tv_size hv1
  have hi := tv_size hv2
  have hj := tv_size hv4
  obtain ⟨d, hd⟩ : ∃ d, mv f t g u j c = d := ⟨_, rfl⟩
  obtain ⟨x, hx⟩ : ∃ x, ap s g u j = x := ⟨_, rfl⟩
  have hm : fitsB x (f + d) (t + d) i = false := by
    rcases h : fitsB x (f + d) (t + d) i with _ | _
    · rfl
    · exact absurd (trB_iff.mpr ⟨ha, hg, hcl, by rw [hx, hd]; exact h⟩) (by rw [hb]; simp)
  have hxz := tv_size (tv_ap' hg)
  rw [hx] at hxz
  have HA := Lib.hid ha
  have HB := Lib.hid hg
  have HC := Lib.hid hcl
  have HD := Lib.hid hd
  have HX := Lib.hid hx
  have HM := Lib.hid hm
  have HXL : Hid (x.size ≤ maxLen) := Lib.hid (by unfold maxLen; omega)
  have hmr := mv_range (f := f) (t := t) (c := c) k0 k1 (by omega) hj
  rw [hd] at hmr
  obtain ⟨hmr1, hmr2⟩ := hmr
  clear ha hg hcl hd hx hm hb hv1 hv2 hv4
  obtain ⟨W3, hW3⟩ : ∃ W, ((w.alloc (.cells #[.int .i64 f, .int .i64 t, .string i] 24)).alloc (.cells #[.int .i64 g, .int .i64 u, .string j] 24)).alloc (.cells #[.int .i64 0, .int .i64 0, .string ⟨#[]⟩] 24) = W := ⟨_, rfl⟩
  have HT0 : Hid (TB w W3 f t i g u j) := Lib.hid (hW3 ▸ TB.new w f t i g u j)
  have HW3 := Lib.hid hW3
  clear hW3
  go_enter Try.func18, Try.ntmps18
  go_wp2_with fail
  rw [HW3.out]
  obtain ⟨⟨a0, a1, a2, a3, a4, a5, a6⟩, ⟨b0, b1, b2, b3, b4, b5, b6⟩, ⟨z0, z1, z2, z3, z4, z5, z6⟩, _⟩ := HT0.out
  go_at_call 48
  refine (fits_any s f t i _ HA.out HSL.out HIL.out _).mono ?_
  rintro e w1 ⟨rfl, hb1⟩
  clear a0 a1 a2 a3 a4 a5 a6 b0 b1 b2 b3 b4 b5 b6 z0 z1 z2 z3 z4 z5 z6
  have HT1 := Lib.hid (HT0.out.below hb1)
  clear hb1
  obtain ⟨⟨a0, a1, a2, a3, a4, a5, a6⟩, ⟨b0, b1, b2, b3, b4, b5, b6⟩, ⟨z0, z1, z2, z3, z4, z5, z6⟩, _⟩ := HT1.out
  go_wp2_with fail
  go_at_call 48
  refine (fits_any s g u j _ HB.out HSL.out HJL.out _).mono ?_
  rintro e w2 ⟨rfl, hb2⟩
  clear a0 a1 a2 a3 a4 a5 a6 b0 b1 b2 b3 b4 b5 b6 z0 z1 z2 z3 z4 z5 z6
  have HT2 := Lib.hid (HT1.out.below hb2)
  clear hb2
  obtain ⟨⟨a0, a1, a2, a3, a4, a5, a6⟩, ⟨b0, b1, b2, b3, b4, b5, b6⟩, ⟨z0, z1, z2, z3, z4, z5, z6⟩, _⟩ := HT2.out
  go_wp2_with fail
  go_at_call 49
  refine (clashes_any f t i g u j _ HC.out _).mono ?_
  rintro e w3 ⟨rfl, hb3⟩
  clear a0 a1 a2 a3 a4 a5 a6 b0 b1 b2 b3 b4 b5 b6 z0 z1 z2 z3 z4 z5 z6
  have HT3 := Lib.hid (HT2.out.below hb3)
  clear hb3
  obtain ⟨⟨a0, a1, a2, a3, a4, a5, a6⟩, ⟨b0, b1, b2, b3, b4, b5, b6⟩, ⟨z0, z1, z2, z3, z4, z5, z6⟩, _⟩ := HT3.out
  go_wp2_with fail
  go_at_call 50
  refine (after_any f t i g u j c d HD.out h0 h1 (by omega) k0 k1 (by omega) hi hj _).mono ?_
  rintro e w4 ⟨rfl, hb4⟩
  clear a0 a1 a2 a3 a4 a5 a6 b0 b1 b2 b3 b4 b5 b6 z0 z1 z2 z3 z4 z5 z6
  have HT4 := Lib.hid (HT3.out.below hb4)
  clear hb4
  obtain ⟨⟨a0, a1, a2, a3, a4, a5, a6⟩, ⟨b0, b1, b2, b3, b4, b5, b6⟩, ⟨z0, z1, z2, z3, z4, z5, z6⟩, _⟩ := HT4.out
  clear a0 a1 a2 a3 a4 a5 a6 b0 b1 b2 b3 b4 b5 b6 z0 z1 z2 z3 z4 z5 z6
  have HT5 := Lib.hid (HT4.out.more (f + d) (t + d) i)
  go_wp2_with fail
  generalize w4.alloc _ = w5 at *
  generalize w4.heap.size = X at *
  obtain ⟨⟨a0, a1, a2, a3, a4, a5, a6⟩, ⟨b0, b1, b2, b3, b4, b5, b6⟩, ⟨z0, z1, z2, z3, z4, z5, z6⟩, ⟨m0, m1, m2, m3, m4, m5, m6⟩, hx, _⟩ := HT5.out
  have HTd := Lib.hid HT5.out.drew
  go_cut [36] (fun s36 wx => s36 = .bool true ∧ Hid (TM w wx X f t i g u j (f + d) (t + d) i))
  case first =>
    go_region_held3 (fun w' => w'.cell? ⟨X, 0, none⟩ = some (.int .i64 (f + d)) ∧ w'.cell? ⟨X, 1, none⟩ = some (.int .i64 (t + d)) ∧ w'.cell? ⟨X, 2, none⟩ = some (.string i) ∧ w'.cell? ⟨w.heap.size + 1, 0, none⟩ = some (.int .i64 g) ∧ w'.cell? ⟨w.heap.size + 1, 1, none⟩ = some (.int .i64 u) ∧ w'.cell? ⟨w.heap.size + 1, 2, none⟩ = some (.string j)) (first | go_keep | go_simp)
      (first | (go_at_call 51; refine (applied_at s g u j x HX.out k0 k1 k2 hs hj _).mono ?_; rintro e w8 ⟨rfl, hb8⟩; have HT8 := Lib.hid (HTd.out.below hb8); clear hb8; obtain ⟨⟨x0p, x1p, x2p, x3p, x4p, x5p, x6p⟩, ⟨y0p, y1p, y2p, y3p, y4p, y5p, y6p⟩, ⟨r0p, r1p, r2p, r3p, r4p, r5p, r6p⟩, ⟨n0p, n1p, n2p, n3p, n4p, n5p, n6p⟩, _, _⟩ := HT8.out) | (go_at_call 48; refine (fits_any x (f + d) (t + d) i _ HM.out HXL.out HIL.out _).mono ?_; rintro e w9 ⟨rfl, hb9⟩; have HT9 := Lib.hid (HT8.out.below hb9); clear hb9; obtain ⟨⟨x0r, x1r, x2r, x3r, x4r, x5r, x6r⟩, ⟨y0r, y1r, y2r, y3r, y4r, y5r, y6r⟩, ⟨r0r, r1r, r2r, r3r, r4r, r5r, r6r⟩, ⟨n0r, n1r, n2r, n3r, n4r, n5r, n6r⟩, _, _⟩ := HT9.out))
    all_goals
      go_wp2_with fail
      go_meet
      exact ⟨rfl, HT9⟩
  case rest =>
    obtain ⟨rfl, HTc⟩ := hcut
    clear a0 a1 a2 a3 a4 a5 a6 b0 b1 b2 b3 b4 b5 b6 z0 z1 z2 z3 z4 z5 z6 m0 m1 m2 m3 m4 m5 m6 hx
    obtain ⟨⟨a0, a1, a2, a3, a4, a5, a6⟩, ⟨b0, b1, b2, b3, b4, b5, b6⟩, ⟨z0, z1, z2, z3, z4, z5, z6⟩, ⟨m0, m1, m2, m3, m4, m5, m6⟩, hx, _⟩ := HTc.out
    have x1 : ¬ X = w.heap.size + 1 + 1 := by omega
    have x2 : ¬ w.heap.size + 1 + 1 = X := by omega
    go_wp2_with fail
    exact bodyPost_ret (v := .tuple #[.agg #[.int .i64 0, .int .i64 0, .string ⟨#[]⟩], .bool false]) (by simp [results, Try.results18, go_sem, z0, z1, z2]) rfl ⟨rfl, below_set3 HTc.out.bel (by omega)⟩

set_option maxHeartbeats 8000000 in
theorem transform_impl_yes (s : ByteArray) (f t : Int) (i : ByteArray) (g u : Int) (j : ByteArray) (c : Bool) (p q : Int) (hb : trB s f t i g u j c = true) (hp : f + mv f t g u j c = p) (hq : t + mv f t g u j c = q) (w : World) :
    Calls Try.prog 18 #[.string s, .agg #[.int .i64 f, .int .i64 t, .string i], .agg #[.int .i64 g, .int .i64 u, .string j], .bool c] w fun e w' => e = .returned (.tuple #[.agg #[.int .i64 p, .int .i64 q, .string i], .bool true]) ∧ Below w.heap.size w w' := by
  subst hp hq
  obtain ⟨ha, hg, hcl, hm⟩ := trB_iff.mp hb
  obtain ⟨hv1, hv2, h0, h1, h2, h3⟩ := fitsB_iff.mp ha
  obtain ⟨_, hv4, k0, k1, k2, k3⟩ := fitsB_iff.mp hg
  have hs := tv_size hv1
  have hi := tv_size hv2
  have hj := tv_size hv4
  obtain ⟨d, hd⟩ : ∃ d, mv f t g u j c = d := ⟨_, rfl⟩
  obtain ⟨x, hx⟩ : ∃ x, ap s g u j = x := ⟨_, rfl⟩
  rw [hx, hd] at hm
  rw [hd]
  have hxz := tv_size (tv_ap' hg)
  rw [hx] at hxz
  have HA := Lib.hid ha
  have HB := Lib.hid hg
  have HC := Lib.hid hcl
  have HD := Lib.hid hd
  have HX := Lib.hid hx
  have HM := Lib.hid hm
  have HSL : Hid (s.size ≤ maxLen) := Lib.hid (by unfold maxLen; omega)
  have HIL : Hid (i.size ≤ maxLen) := Lib.hid (by unfold maxLen; omega)
  have HJL : Hid (j.size ≤ maxLen) := Lib.hid (by unfold maxLen; omega)
  have HXL : Hid (x.size ≤ maxLen) := Lib.hid (by unfold maxLen; omega)
  have hmr := mv_range (f := f) (t := t) (c := c) k0 k1 (by omega) hj
  rw [hd] at hmr
  obtain ⟨hmr1, hmr2⟩ := hmr
  clear ha hg hcl hd hx hm hb hv1 hv2 hv4
  obtain ⟨W3, hW3⟩ : ∃ W, ((w.alloc (.cells #[.int .i64 f, .int .i64 t, .string i] 24)).alloc (.cells #[.int .i64 g, .int .i64 u, .string j] 24)).alloc (.cells #[.int .i64 0, .int .i64 0, .string ⟨#[]⟩] 24) = W := ⟨_, rfl⟩
  have HT0 : Hid (TB w W3 f t i g u j) := Lib.hid (hW3 ▸ TB.new w f t i g u j)
  have HW3 := Lib.hid hW3
  clear hW3
  go_enter Try.func18, Try.ntmps18
  go_wp2_with fail
  rw [HW3.out]
  obtain ⟨⟨a0, a1, a2, a3, a4, a5, a6⟩, ⟨b0, b1, b2, b3, b4, b5, b6⟩, ⟨z0, z1, z2, z3, z4, z5, z6⟩, _⟩ := HT0.out
  go_at_call 48
  refine (fits_any s f t i _ HA.out HSL.out HIL.out _).mono ?_
  rintro e w1 ⟨rfl, hb1⟩
  clear a0 a1 a2 a3 a4 a5 a6 b0 b1 b2 b3 b4 b5 b6 z0 z1 z2 z3 z4 z5 z6
  have HT1 := Lib.hid (HT0.out.below hb1)
  clear hb1
  obtain ⟨⟨a0, a1, a2, a3, a4, a5, a6⟩, ⟨b0, b1, b2, b3, b4, b5, b6⟩, ⟨z0, z1, z2, z3, z4, z5, z6⟩, _⟩ := HT1.out
  go_wp2_with fail
  go_at_call 48
  refine (fits_any s g u j _ HB.out HSL.out HJL.out _).mono ?_
  rintro e w2 ⟨rfl, hb2⟩
  clear a0 a1 a2 a3 a4 a5 a6 b0 b1 b2 b3 b4 b5 b6 z0 z1 z2 z3 z4 z5 z6
  have HT2 := Lib.hid (HT1.out.below hb2)
  clear hb2
  obtain ⟨⟨a0, a1, a2, a3, a4, a5, a6⟩, ⟨b0, b1, b2, b3, b4, b5, b6⟩, ⟨z0, z1, z2, z3, z4, z5, z6⟩, _⟩ := HT2.out
  go_wp2_with fail
  go_at_call 49
  refine (clashes_any f t i g u j _ HC.out _).mono ?_
  rintro e w3 ⟨rfl, hb3⟩
  clear a0 a1 a2 a3 a4 a5 a6 b0 b1 b2 b3 b4 b5 b6 z0 z1 z2 z3 z4 z5 z6
  have HT3 := Lib.hid (HT2.out.below hb3)
  clear hb3
  obtain ⟨⟨a0, a1, a2, a3, a4, a5, a6⟩, ⟨b0, b1, b2, b3, b4, b5, b6⟩, ⟨z0, z1, z2, z3, z4, z5, z6⟩, _⟩ := HT3.out
  go_wp2_with fail
  go_at_call 50
  refine (after_any f t i g u j c d HD.out h0 h1 (by omega) k0 k1 (by omega) hi hj _).mono ?_
  rintro e w4 ⟨rfl, hb4⟩
  clear a0 a1 a2 a3 a4 a5 a6 b0 b1 b2 b3 b4 b5 b6 z0 z1 z2 z3 z4 z5 z6
  have HT4 := Lib.hid (HT3.out.below hb4)
  clear hb4
  obtain ⟨⟨a0, a1, a2, a3, a4, a5, a6⟩, ⟨b0, b1, b2, b3, b4, b5, b6⟩, ⟨z0, z1, z2, z3, z4, z5, z6⟩, _⟩ := HT4.out
  clear a0 a1 a2 a3 a4 a5 a6 b0 b1 b2 b3 b4 b5 b6 z0 z1 z2 z3 z4 z5 z6
  have HT5 := Lib.hid (HT4.out.more (f + d) (t + d) i)
  go_wp2_with fail
  generalize w4.alloc _ = w5 at *
  generalize w4.heap.size = X at *
  obtain ⟨⟨a0, a1, a2, a3, a4, a5, a6⟩, ⟨b0, b1, b2, b3, b4, b5, b6⟩, ⟨z0, z1, z2, z3, z4, z5, z6⟩, ⟨m0, m1, m2, m3, m4, m5, m6⟩, hx, _⟩ := HT5.out
  have HTd := Lib.hid HT5.out.drew
  go_cut [36] (fun s36 wx => s36 = .bool false ∧ Hid (TM w wx X f t i g u j (f + d) (t + d) i))
  case first =>
    go_region_held3 (fun w' => w'.cell? ⟨X, 0, none⟩ = some (.int .i64 (f + d)) ∧ w'.cell? ⟨X, 1, none⟩ = some (.int .i64 (t + d)) ∧ w'.cell? ⟨X, 2, none⟩ = some (.string i) ∧ w'.cell? ⟨w.heap.size + 1, 0, none⟩ = some (.int .i64 g) ∧ w'.cell? ⟨w.heap.size + 1, 1, none⟩ = some (.int .i64 u) ∧ w'.cell? ⟨w.heap.size + 1, 2, none⟩ = some (.string j)) (first | go_keep | go_simp)
      (first | (go_at_call 51; refine (applied_at s g u j x HX.out k0 k1 k2 hs hj _).mono ?_; rintro e w8 ⟨rfl, hb8⟩; have HT8 := Lib.hid (HTd.out.below hb8); clear hb8; obtain ⟨⟨x0p, x1p, x2p, x3p, x4p, x5p, x6p⟩, ⟨y0p, y1p, y2p, y3p, y4p, y5p, y6p⟩, ⟨r0p, r1p, r2p, r3p, r4p, r5p, r6p⟩, ⟨n0p, n1p, n2p, n3p, n4p, n5p, n6p⟩, _, _⟩ := HT8.out) | (go_at_call 48; refine (fits_any x (f + d) (t + d) i _ HM.out HXL.out HIL.out _).mono ?_; rintro e w9 ⟨rfl, hb9⟩; have HT9 := Lib.hid (HT8.out.below hb9); clear hb9; obtain ⟨⟨x0r, x1r, x2r, x3r, x4r, x5r, x6r⟩, ⟨y0r, y1r, y2r, y3r, y4r, y5r, y6r⟩, ⟨r0r, r1r, r2r, r3r, r4r, r5r, r6r⟩, ⟨n0r, n1r, n2r, n3r, n4r, n5r, n6r⟩, _, _⟩ := HT9.out))
    all_goals
      go_wp2_with fail
      go_meet
      exact ⟨rfl, HT9⟩
  case rest =>
    obtain ⟨rfl, HTc⟩ := hcut
    clear a0 a1 a2 a3 a4 a5 a6 b0 b1 b2 b3 b4 b5 b6 z0 z1 z2 z3 z4 z5 z6 m0 m1 m2 m3 m4 m5 m6 hx
    obtain ⟨⟨a0, a1, a2, a3, a4, a5, a6⟩, ⟨b0, b1, b2, b3, b4, b5, b6⟩, ⟨z0, z1, z2, z3, z4, z5, z6⟩, ⟨m0, m1, m2, m3, m4, m5, m6⟩, hx, _⟩ := HTc.out
    have x1 : ¬ X = w.heap.size + 1 + 1 := by omega
    have x2 : ¬ w.heap.size + 1 + 1 = X := by omega
    go_wp2_with fail
    exact bodyPost_ret (v := .tuple #[.agg #[.int .i64 (f + d), .int .i64 (t + d), .string i], .bool true]) (by simp [results, Try.results18, go_sem, z0, z1, z2]) rfl ⟨rfl, below_set3 HTc.out.bel (by omega)⟩

set_option maxHeartbeats 8000000 in
theorem transform_spec_no (s : ByteArray) (f t : Int) (i : ByteArray) (g u : Int) (j : ByteArray) (c : Bool) (hb : trB s f t i g u j c = false) (hs : s.size ≤ maxLen) (hi : i.size ≤ maxLen) (hj : j.size ≤ maxLen) (w : World) :
    Calls Try.prog 19 #[.string s, .agg #[.int .i64 f, .int .i64 t, .string i], .agg #[.int .i64 g, .int .i64 u, .string j], .bool c] w fun e w' => e = .returned (.tuple #[.agg #[.int .i64 0, .int .i64 0, .string ⟨#[]⟩], .bool false]) ∧ Below w.heap.size w w' := by
  have HSL := Lib.hid hs
  have HIL := Lib.hid hi
  have HJL := Lib.hid hj
  clear hs hi hj
  rcases ha : fitsB s f t i with _ | _
  · have HA := Lib.hid ha
    clear ha hb
    obtain ⟨W3, hW3⟩ : ∃ W, ((w.alloc (.cells #[.int .i64 f, .int .i64 t, .string i] 24)).alloc (.cells #[.int .i64 g, .int .i64 u, .string j] 24)).alloc (.cells #[.int .i64 0, .int .i64 0, .string ⟨#[]⟩] 24) = W := ⟨_, rfl⟩
    have HT0 : Hid (TB w W3 f t i g u j) := Lib.hid (hW3 ▸ TB.new w f t i g u j)
    have HW3 := Lib.hid hW3
    clear hW3
    go_enter Try.func19, Try.ntmps19
    go_wp2_with fail
    rw [HW3.out]
    obtain ⟨⟨a0, a1, a2, a3, a4, a5, a6⟩, ⟨b0, b1, b2, b3, b4, b5, b6⟩, ⟨z0, z1, z2, z3, z4, z5, z6⟩, _⟩ := HT0.out
    go_at_call 52
    refine (editValid_spec s f t i _ HA.out HSL.out HIL.out _).mono ?_
    rintro e w1 ⟨rfl, hb1⟩
    clear a0 a1 a2 a3 a4 a5 a6 b0 b1 b2 b3 b4 b5 b6 z0 z1 z2 z3 z4 z5 z6
    have HT1 := Lib.hid (HT0.out.below hb1)
    clear hb1
    obtain ⟨⟨a0, a1, a2, a3, a4, a5, a6⟩, ⟨b0, b1, b2, b3, b4, b5, b6⟩, ⟨z0, z1, z2, z3, z4, z5, z6⟩, _⟩ := HT1.out
    go_wp2_with fail
    exact bodyPost_ret (v := .tuple #[.agg #[.int .i64 0, .int .i64 0, .string ⟨#[]⟩], .bool false]) (by simp [results, Try.results19, go_sem, z0, z1, z2]) rfl ⟨rfl, below_set3 HT1.out.bel (by omega)⟩
  rcases hg : fitsB s g u j with _ | _
  · have HA := Lib.hid ha
    have HB := Lib.hid hg
    clear ha hb hg
    obtain ⟨W3, hW3⟩ : ∃ W, ((w.alloc (.cells #[.int .i64 f, .int .i64 t, .string i] 24)).alloc (.cells #[.int .i64 g, .int .i64 u, .string j] 24)).alloc (.cells #[.int .i64 0, .int .i64 0, .string ⟨#[]⟩] 24) = W := ⟨_, rfl⟩
    have HT0 : Hid (TB w W3 f t i g u j) := Lib.hid (hW3 ▸ TB.new w f t i g u j)
    have HW3 := Lib.hid hW3
    clear hW3
    go_enter Try.func19, Try.ntmps19
    go_wp2_with fail
    rw [HW3.out]
    obtain ⟨⟨a0, a1, a2, a3, a4, a5, a6⟩, ⟨b0, b1, b2, b3, b4, b5, b6⟩, ⟨z0, z1, z2, z3, z4, z5, z6⟩, _⟩ := HT0.out
    go_at_call 52
    refine (editValid_spec s f t i _ HA.out HSL.out HIL.out _).mono ?_
    rintro e w1 ⟨rfl, hb1⟩
    clear a0 a1 a2 a3 a4 a5 a6 b0 b1 b2 b3 b4 b5 b6 z0 z1 z2 z3 z4 z5 z6
    have HT1 := Lib.hid (HT0.out.below hb1)
    clear hb1
    obtain ⟨⟨a0, a1, a2, a3, a4, a5, a6⟩, ⟨b0, b1, b2, b3, b4, b5, b6⟩, ⟨z0, z1, z2, z3, z4, z5, z6⟩, _⟩ := HT1.out
    go_wp2_with fail
    go_at_call 52
    refine (editValid_spec s g u j _ HB.out HSL.out HJL.out _).mono ?_
    rintro e w2 ⟨rfl, hb2⟩
    clear a0 a1 a2 a3 a4 a5 a6 b0 b1 b2 b3 b4 b5 b6 z0 z1 z2 z3 z4 z5 z6
    have HT2 := Lib.hid (HT1.out.below hb2)
    clear hb2
    obtain ⟨⟨a0, a1, a2, a3, a4, a5, a6⟩, ⟨b0, b1, b2, b3, b4, b5, b6⟩, ⟨z0, z1, z2, z3, z4, z5, z6⟩, _⟩ := HT2.out
    go_wp2_with fail
    exact bodyPost_ret (v := .tuple #[.agg #[.int .i64 0, .int .i64 0, .string ⟨#[]⟩], .bool false]) (by simp [results, Try.results19, go_sem, z0, z1, z2]) rfl ⟨rfl, below_set3 HT2.out.bel (by omega)⟩
  have hf1 := (fitsB_iff.mp ha).2.2.2.1
  have hg1 := (fitsB_iff.mp hg).2.2.2.1
  rcases hcl : clB f t g u with _ | _
  case true =>
    have HA := Lib.hid ha
    have HB := Lib.hid hg
    have HC := Lib.hid hcl
    clear ha hb hg hcl
    obtain ⟨W3, hW3⟩ : ∃ W, ((w.alloc (.cells #[.int .i64 f, .int .i64 t, .string i] 24)).alloc (.cells #[.int .i64 g, .int .i64 u, .string j] 24)).alloc (.cells #[.int .i64 0, .int .i64 0, .string ⟨#[]⟩] 24) = W := ⟨_, rfl⟩
    have HT0 : Hid (TB w W3 f t i g u j) := Lib.hid (hW3 ▸ TB.new w f t i g u j)
    have HW3 := Lib.hid hW3
    clear hW3
    go_enter Try.func19, Try.ntmps19
    go_wp2_with fail
    rw [HW3.out]
    obtain ⟨⟨a0, a1, a2, a3, a4, a5, a6⟩, ⟨b0, b1, b2, b3, b4, b5, b6⟩, ⟨z0, z1, z2, z3, z4, z5, z6⟩, _⟩ := HT0.out
    go_at_call 52
    refine (editValid_spec s f t i _ HA.out HSL.out HIL.out _).mono ?_
    rintro e w1 ⟨rfl, hb1⟩
    clear a0 a1 a2 a3 a4 a5 a6 b0 b1 b2 b3 b4 b5 b6 z0 z1 z2 z3 z4 z5 z6
    have HT1 := Lib.hid (HT0.out.below hb1)
    clear hb1
    obtain ⟨⟨a0, a1, a2, a3, a4, a5, a6⟩, ⟨b0, b1, b2, b3, b4, b5, b6⟩, ⟨z0, z1, z2, z3, z4, z5, z6⟩, _⟩ := HT1.out
    go_wp2_with fail
    go_at_call 52
    refine (editValid_spec s g u j _ HB.out HSL.out HJL.out _).mono ?_
    rintro e w2 ⟨rfl, hb2⟩
    clear a0 a1 a2 a3 a4 a5 a6 b0 b1 b2 b3 b4 b5 b6 z0 z1 z2 z3 z4 z5 z6
    have HT2 := Lib.hid (HT1.out.below hb2)
    clear hb2
    obtain ⟨⟨a0, a1, a2, a3, a4, a5, a6⟩, ⟨b0, b1, b2, b3, b4, b5, b6⟩, ⟨z0, z1, z2, z3, z4, z5, z6⟩, _⟩ := HT2.out
    go_wp2_with fail
    go_at_call 53
    refine (l8Clash_any f t i g u j _ HC.out hf1 hg1 _).mono ?_
    rintro e w3 ⟨rfl, hb3⟩
    clear a0 a1 a2 a3 a4 a5 a6 b0 b1 b2 b3 b4 b5 b6 z0 z1 z2 z3 z4 z5 z6
    have HT3 := Lib.hid (HT2.out.below hb3)
    clear hb3
    obtain ⟨⟨a0, a1, a2, a3, a4, a5, a6⟩, ⟨b0, b1, b2, b3, b4, b5, b6⟩, ⟨z0, z1, z2, z3, z4, z5, z6⟩, _⟩ := HT3.out
    go_wp2_with fail
    exact bodyPost_ret (v := .tuple #[.agg #[.int .i64 0, .int .i64 0, .string ⟨#[]⟩], .bool false]) (by simp [results, Try.results19, go_sem, z0, z1, z2]) rfl ⟨rfl, below_set3 HT3.out.bel (by omega)⟩
  obtain ⟨hv1, hv2, h0, h1, h2, h3⟩ := fitsB_iff.mp ha
  obtain ⟨_, hv4, k0, k1, k2, k3⟩ := fitsB_iff.mp hg
  have hs := tv_size hv1
  have hi := tv_size hv2
  have hj := tv_size hv4
  obtain ⟨d, hd⟩ : ∃ d, mv f t g u j c = d := ⟨_, rfl⟩
  obtain ⟨x, hx⟩ : ∃ x, ap s g u j = x := ⟨_, rfl⟩
  have hm : fitsB x (f + d) (t + d) i = false := by
    rcases h : fitsB x (f + d) (t + d) i with _ | _
    · rfl
    · exact absurd (trB_iff.mpr ⟨ha, hg, hcl, by rw [hx, hd]; exact h⟩) (by rw [hb]; simp)
  have hxz := tv_size (tv_ap' hg)
  rw [hx] at hxz
  have HA := Lib.hid ha
  have HB := Lib.hid hg
  have HC := Lib.hid hcl
  have HD := Lib.hid hd
  have HX := Lib.hid hx
  have HM := Lib.hid hm
  have HXL : Hid (x.size ≤ maxLen) := Lib.hid (by unfold maxLen; omega)
  have hmr := mv_range (f := f) (t := t) (c := c) k0 k1 (by omega) hj
  rw [hd] at hmr
  obtain ⟨hmr1, hmr2⟩ := hmr
  clear ha hg hcl hd hx hm hb hv1 hv2 hv4
  obtain ⟨W3, hW3⟩ : ∃ W, ((w.alloc (.cells #[.int .i64 f, .int .i64 t, .string i] 24)).alloc (.cells #[.int .i64 g, .int .i64 u, .string j] 24)).alloc (.cells #[.int .i64 0, .int .i64 0, .string ⟨#[]⟩] 24) = W := ⟨_, rfl⟩
  have HT0 : Hid (TB w W3 f t i g u j) := Lib.hid (hW3 ▸ TB.new w f t i g u j)
  have HW3 := Lib.hid hW3
  clear hW3
  go_enter Try.func19, Try.ntmps19
  go_wp2_with fail
  rw [HW3.out]
  obtain ⟨⟨a0, a1, a2, a3, a4, a5, a6⟩, ⟨b0, b1, b2, b3, b4, b5, b6⟩, ⟨z0, z1, z2, z3, z4, z5, z6⟩, _⟩ := HT0.out
  go_at_call 52
  refine (editValid_spec s f t i _ HA.out HSL.out HIL.out _).mono ?_
  rintro e w1 ⟨rfl, hb1⟩
  clear a0 a1 a2 a3 a4 a5 a6 b0 b1 b2 b3 b4 b5 b6 z0 z1 z2 z3 z4 z5 z6
  have HT1 := Lib.hid (HT0.out.below hb1)
  clear hb1
  obtain ⟨⟨a0, a1, a2, a3, a4, a5, a6⟩, ⟨b0, b1, b2, b3, b4, b5, b6⟩, ⟨z0, z1, z2, z3, z4, z5, z6⟩, _⟩ := HT1.out
  go_wp2_with fail
  go_at_call 52
  refine (editValid_spec s g u j _ HB.out HSL.out HJL.out _).mono ?_
  rintro e w2 ⟨rfl, hb2⟩
  clear a0 a1 a2 a3 a4 a5 a6 b0 b1 b2 b3 b4 b5 b6 z0 z1 z2 z3 z4 z5 z6
  have HT2 := Lib.hid (HT1.out.below hb2)
  clear hb2
  obtain ⟨⟨a0, a1, a2, a3, a4, a5, a6⟩, ⟨b0, b1, b2, b3, b4, b5, b6⟩, ⟨z0, z1, z2, z3, z4, z5, z6⟩, _⟩ := HT2.out
  go_wp2_with fail
  go_at_call 53
  refine (l8Clash_any f t i g u j _ HC.out h1 k1 _).mono ?_
  rintro e w3 ⟨rfl, hb3⟩
  clear a0 a1 a2 a3 a4 a5 a6 b0 b1 b2 b3 b4 b5 b6 z0 z1 z2 z3 z4 z5 z6
  have HT3 := Lib.hid (HT2.out.below hb3)
  clear hb3
  obtain ⟨⟨a0, a1, a2, a3, a4, a5, a6⟩, ⟨b0, b1, b2, b3, b4, b5, b6⟩, ⟨z0, z1, z2, z3, z4, z5, z6⟩, _⟩ := HT3.out
  have HT4 := Lib.hid (HT3.out.more (f) (t) i)
  obtain ⟨⟨x0, x1, x2, x3, x4, x5, x6⟩, ⟨y0, y1, y2, y3, y4, y5, y6⟩, ⟨r0, r1, r2, r3, r4, r5, r6⟩, ⟨n0, n1, n2, n3, n4, n5, n6⟩, hy, _⟩ := HT4.out
  go_wp2_with fail
  clear a0 a1 a2 a3 a4 a5 a6 b0 b1 b2 b3 b4 b5 b6 z0 z1 z2 z3 z4 z5 z6
  clear x0 x1 x2 x3 x4 x5 x6 y0 y1 y2 y3 y4 y5 y6 r0 r1 r2 r3 r4 r5 r6 n0 n1 n2 n3 n4 n5 n6 hy
  generalize w3.alloc _ = w4 at *
  generalize w3.heap.size = X at *
  obtain ⟨⟨a0, a1, a2, a3, a4, a5, a6⟩, ⟨b0, b1, b2, b3, b4, b5, b6⟩, ⟨z0, z1, z2, z3, z4, z5, z6⟩, ⟨m0, m1, m2, m3, m4, m5, m6⟩, hx, _⟩ := HT4.out
  have x1 : ¬ X = w.heap.size + 1 + 1 := by omega
  have x2 : ¬ w.heap.size + 1 + 1 = X := by omega
  have x3 : ¬ X = w.heap.size + 1 := by omega
  have x4 : ¬ w.heap.size + 1 = X := by omega
  have x5 : ¬ X = w.heap.size := by omega
  have x6 : ¬ w.heap.size = X := by omega
  rcases hv : bhB f t g u c with _ | _
  case false =>
    have HV := Lib.hid hv
    have hd0 : d = 0 := by rw [← HD.out]; unfold mv; rw [hv]; rfl
    subst hd0
    clear hv
    go_at_call 54
    refine (l8Behind_any f t i g u j c _ HV.out h1 k1 HC.out _).mono ?_
    rintro e w5 ⟨rfl, hb5⟩
    clear a0 a1 a2 a3 a4 a5 a6 b0 b1 b2 b3 b4 b5 b6 z0 z1 z2 z3 z4 z5 z6 m0 m1 m2 m3 m4 m5 m6 hx
    have HT5 := Lib.hid (HT4.out.below hb5)
    clear hb5
    obtain ⟨⟨a0, a1, a2, a3, a4, a5, a6⟩, ⟨b0, b1, b2, b3, b4, b5, b6⟩, ⟨z0, z1, z2, z3, z4, z5, z6⟩, ⟨m0, m1, m2, m3, m4, m5, m6⟩, hx, _⟩ := HT5.out
    go_wp2_with fail
    have hm0 := HM.out
    rw [Int.add_zero, Int.add_zero] at hm0
    have HM0 := Lib.hid hm0
    clear hm0
    have HTd := Lib.hid HT5.out.drew
    go_cut [49] (fun s49 wx => s49 = .bool true ∧ Hid (TM w wx X f t i g u j f t i))
    case first =>
      go_region_held3 (fun w' => w'.cell? ⟨X, 0, none⟩ = some (.int .i64 f) ∧ w'.cell? ⟨X, 1, none⟩ = some (.int .i64 t) ∧ w'.cell? ⟨X, 2, none⟩ = some (.string i) ∧ w'.cell? ⟨w.heap.size + 1, 0, none⟩ = some (.int .i64 g) ∧ w'.cell? ⟨w.heap.size + 1, 1, none⟩ = some (.int .i64 u) ∧ w'.cell? ⟨w.heap.size + 1, 2, none⟩ = some (.string j)) (first | go_keep | go_simp)
        (first | (go_at_call 56; refine (l1Apply_at s g u j x HX.out k0 k1 k2 hs hj _).mono ?_; rintro e w8 ⟨rfl, hb8⟩; have HT8 := Lib.hid (HTd.out.below hb8); clear hb8; obtain ⟨⟨x0p, x1p, x2p, x3p, x4p, x5p, x6p⟩, ⟨y0p, y1p, y2p, y3p, y4p, y5p, y6p⟩, ⟨r0p, r1p, r2p, r3p, r4p, r5p, r6p⟩, ⟨n0p, n1p, n2p, n3p, n4p, n5p, n6p⟩, _, _⟩ := HT8.out) | (go_at_call 52; refine (editValid_spec x f t i _ HM0.out HXL.out HIL.out _).mono ?_; rintro e w9 ⟨rfl, hb9⟩; have HT9 := Lib.hid (HT8.out.below hb9); clear hb9; obtain ⟨⟨x0r, x1r, x2r, x3r, x4r, x5r, x6r⟩, ⟨y0r, y1r, y2r, y3r, y4r, y5r, y6r⟩, ⟨r0r, r1r, r2r, r3r, r4r, r5r, r6r⟩, ⟨n0r, n1r, n2r, n3r, n4r, n5r, n6r⟩, _, _⟩ := HT9.out))
      all_goals
        go_wp2_with fail
        go_meet
        exact ⟨rfl, HT9⟩
    case rest =>
      obtain ⟨rfl, HTc⟩ := hcut
      clear a0 a1 a2 a3 a4 a5 a6 b0 b1 b2 b3 b4 b5 b6 z0 z1 z2 z3 z4 z5 z6 m0 m1 m2 m3 m4 m5 m6 hx
      obtain ⟨⟨a0, a1, a2, a3, a4, a5, a6⟩, ⟨b0, b1, b2, b3, b4, b5, b6⟩, ⟨z0, z1, z2, z3, z4, z5, z6⟩, ⟨m0, m1, m2, m3, m4, m5, m6⟩, hx, _⟩ := HTc.out
      go_wp2_with fail
      exact bodyPost_ret (v := .tuple #[.agg #[.int .i64 0, .int .i64 0, .string ⟨#[]⟩], .bool false]) (by simp [results, Try.results19, go_sem, z0, z1, z2]) rfl ⟨rfl, below_set3 HTc.out.bel (by omega)⟩
  case true =>
    have HV := Lib.hid hv
    have HG : Hid (grw g u j = d) := Lib.hid (by rw [← HD.out]; unfold mv; rw [hv]; rfl)
    clear hv
    go_at_call 54
    refine (l8Behind_any f t i g u j c _ HV.out h1 k1 HC.out _).mono ?_
    rintro e w5 ⟨rfl, hb5⟩
    clear a0 a1 a2 a3 a4 a5 a6 b0 b1 b2 b3 b4 b5 b6 z0 z1 z2 z3 z4 z5 z6 m0 m1 m2 m3 m4 m5 m6 hx
    have HT5 := Lib.hid (HT4.out.below hb5)
    clear hb5
    obtain ⟨⟨a0, a1, a2, a3, a4, a5, a6⟩, ⟨b0, b1, b2, b3, b4, b5, b6⟩, ⟨z0, z1, z2, z3, z4, z5, z6⟩, ⟨m0, m1, m2, m3, m4, m5, m6⟩, hx, _⟩ := HT5.out
    go_wp2_with fail
    have HTg := Lib.hid HT5.out.drew
    go_cut [] (fun wx => Hid (TM w wx X f t i g u j (f + d) t i))
    case first =>
      go_region_held3 (fun w' => w'.cell? ⟨w.heap.size, 0, none⟩ = some (.int .i64 f) ∧ w'.cell? ⟨w.heap.size + 1, 0, none⟩ = some (.int .i64 g) ∧ w'.cell? ⟨w.heap.size + 1, 1, none⟩ = some (.int .i64 u) ∧ w'.cell? ⟨w.heap.size + 1, 2, none⟩ = some (.string j)) (first | go_keep | go_simp)
        (first | (go_at_call 55; refine (l8Grow_any g u j d HG.out k0 k1 (by omega) (by omega) _).mono ?_; rintro e w7 ⟨rfl, hb7⟩; have HT7 := Lib.hid (HTg.out.below hb7); clear hb7; obtain ⟨⟨x0p, x1p, x2p, x3p, x4p, x5p, x6p⟩, ⟨y0p, y1p, y2p, y3p, y4p, y5p, y6p⟩, ⟨r0p, r1p, r2p, r3p, r4p, r5p, r6p⟩, ⟨n0p, n1p, n2p, n3p, n4p, n5p, n6p⟩, _, _⟩ := HT7.out))
      all_goals
        go_wp2_with fail
        go_meet
        rw [IntWalk.i64_in _ (by omega)]
        exact Lib.hid (HT7.out.set0 _)
    case rest =>
      have HTe := hcut
      clear hcut
      clear a0 a1 a2 a3 a4 a5 a6 b0 b1 b2 b3 b4 b5 b6 z0 z1 z2 z3 z4 z5 z6 m0 m1 m2 m3 m4 m5 m6 hx
      obtain ⟨⟨a0, a1, a2, a3, a4, a5, a6⟩, ⟨b0, b1, b2, b3, b4, b5, b6⟩, ⟨z0, z1, z2, z3, z4, z5, z6⟩, ⟨m0, m1, m2, m3, m4, m5, m6⟩, hx, _⟩ := HTe.out
      go_wp2_with fail
      have HTg := Lib.hid HTe.out.drew
      go_cut [] (fun wx => Hid (TM w wx X f t i g u j (f + d) (t + d) i))
      case first =>
        go_region_held3 (fun w' => w'.cell? ⟨w.heap.size, 1, none⟩ = some (.int .i64 t) ∧ w'.cell? ⟨w.heap.size + 1, 0, none⟩ = some (.int .i64 g) ∧ w'.cell? ⟨w.heap.size + 1, 1, none⟩ = some (.int .i64 u) ∧ w'.cell? ⟨w.heap.size + 1, 2, none⟩ = some (.string j)) (first | go_keep | go_simp)
          (first | (go_at_call 55; refine (l8Grow_any g u j d HG.out k0 k1 (by omega) (by omega) _).mono ?_; rintro e w7 ⟨rfl, hb7⟩; have HT7 := Lib.hid (HTg.out.below hb7); clear hb7; obtain ⟨⟨x0p, x1p, x2p, x3p, x4p, x5p, x6p⟩, ⟨y0p, y1p, y2p, y3p, y4p, y5p, y6p⟩, ⟨r0p, r1p, r2p, r3p, r4p, r5p, r6p⟩, ⟨n0p, n1p, n2p, n3p, n4p, n5p, n6p⟩, _, _⟩ := HT7.out))
        all_goals
          go_wp2_with fail
          go_meet
          rw [IntWalk.i64_in _ (by omega)]
          exact Lib.hid (HT7.out.set1 _)
      case rest =>
        have HTh := hcut
        clear hcut
        clear a0 a1 a2 a3 a4 a5 a6 b0 b1 b2 b3 b4 b5 b6 z0 z1 z2 z3 z4 z5 z6 m0 m1 m2 m3 m4 m5 m6 hx
        obtain ⟨⟨a0, a1, a2, a3, a4, a5, a6⟩, ⟨b0, b1, b2, b3, b4, b5, b6⟩, ⟨z0, z1, z2, z3, z4, z5, z6⟩, ⟨m0, m1, m2, m3, m4, m5, m6⟩, hx, _⟩ := HTh.out
        go_wp2_with fail
        have HTd := Lib.hid HTh.out.drew
        go_cut [49] (fun s49 wx => s49 = .bool true ∧ Hid (TM w wx X f t i g u j (f + d) (t + d) i))
        case first =>
          go_region_held3 (fun w' => w'.cell? ⟨X, 0, none⟩ = some (.int .i64 (f + d)) ∧ w'.cell? ⟨X, 1, none⟩ = some (.int .i64 (t + d)) ∧ w'.cell? ⟨X, 2, none⟩ = some (.string i) ∧ w'.cell? ⟨w.heap.size + 1, 0, none⟩ = some (.int .i64 g) ∧ w'.cell? ⟨w.heap.size + 1, 1, none⟩ = some (.int .i64 u) ∧ w'.cell? ⟨w.heap.size + 1, 2, none⟩ = some (.string j)) (first | go_keep | go_simp)
            (first | (go_at_call 56; refine (l1Apply_at s g u j x HX.out k0 k1 k2 hs hj _).mono ?_; rintro e w8 ⟨rfl, hb8⟩; have HT8 := Lib.hid (HTd.out.below hb8); clear hb8; obtain ⟨⟨x0p, x1p, x2p, x3p, x4p, x5p, x6p⟩, ⟨y0p, y1p, y2p, y3p, y4p, y5p, y6p⟩, ⟨r0p, r1p, r2p, r3p, r4p, r5p, r6p⟩, ⟨n0p, n1p, n2p, n3p, n4p, n5p, n6p⟩, _, _⟩ := HT8.out) | (go_at_call 52; refine (editValid_spec x (f + d) (t + d) i _ HM.out HXL.out HIL.out _).mono ?_; rintro e w9 ⟨rfl, hb9⟩; have HT9 := Lib.hid (HT8.out.below hb9); clear hb9; obtain ⟨⟨x0r, x1r, x2r, x3r, x4r, x5r, x6r⟩, ⟨y0r, y1r, y2r, y3r, y4r, y5r, y6r⟩, ⟨r0r, r1r, r2r, r3r, r4r, r5r, r6r⟩, ⟨n0r, n1r, n2r, n3r, n4r, n5r, n6r⟩, _, _⟩ := HT9.out))
          all_goals
            go_wp2_with fail
            go_meet
            exact ⟨rfl, HT9⟩
        case rest =>
          obtain ⟨rfl, HTc⟩ := hcut
          clear a0 a1 a2 a3 a4 a5 a6 b0 b1 b2 b3 b4 b5 b6 z0 z1 z2 z3 z4 z5 z6 m0 m1 m2 m3 m4 m5 m6 hx
          obtain ⟨⟨a0, a1, a2, a3, a4, a5, a6⟩, ⟨b0, b1, b2, b3, b4, b5, b6⟩, ⟨z0, z1, z2, z3, z4, z5, z6⟩, ⟨m0, m1, m2, m3, m4, m5, m6⟩, hx, _⟩ := HTc.out
          go_wp2_with fail
          exact bodyPost_ret (v := .tuple #[.agg #[.int .i64 0, .int .i64 0, .string ⟨#[]⟩], .bool false]) (by simp [results, Try.results19, go_sem, z0, z1, z2]) rfl ⟨rfl, below_set3 HTc.out.bel (by omega)⟩

set_option maxHeartbeats 8000000 in
theorem transform_spec_yes (s : ByteArray) (f t : Int) (i : ByteArray) (g u : Int) (j : ByteArray) (c : Bool) (p q : Int) (hb : trB s f t i g u j c = true) (hp : f + mv f t g u j c = p) (hq : t + mv f t g u j c = q) (w : World) :
    Calls Try.prog 19 #[.string s, .agg #[.int .i64 f, .int .i64 t, .string i], .agg #[.int .i64 g, .int .i64 u, .string j], .bool c] w fun e w' => e = .returned (.tuple #[.agg #[.int .i64 p, .int .i64 q, .string i], .bool true]) ∧ Below w.heap.size w w' := by
  subst hp hq
  obtain ⟨ha, hg, hcl, hm⟩ := trB_iff.mp hb
  obtain ⟨hv1, hv2, h0, h1, h2, h3⟩ := fitsB_iff.mp ha
  obtain ⟨_, hv4, k0, k1, k2, k3⟩ := fitsB_iff.mp hg
  have hs := tv_size hv1
  have hi := tv_size hv2
  have hj := tv_size hv4
  obtain ⟨d, hd⟩ : ∃ d, mv f t g u j c = d := ⟨_, rfl⟩
  obtain ⟨x, hx⟩ : ∃ x, ap s g u j = x := ⟨_, rfl⟩
  rw [hx, hd] at hm
  rw [hd]
  have hxz := tv_size (tv_ap' hg)
  rw [hx] at hxz
  have HA := Lib.hid ha
  have HB := Lib.hid hg
  have HC := Lib.hid hcl
  have HD := Lib.hid hd
  have HX := Lib.hid hx
  have HM := Lib.hid hm
  have HSL : Hid (s.size ≤ maxLen) := Lib.hid (by unfold maxLen; omega)
  have HIL : Hid (i.size ≤ maxLen) := Lib.hid (by unfold maxLen; omega)
  have HJL : Hid (j.size ≤ maxLen) := Lib.hid (by unfold maxLen; omega)
  have HXL : Hid (x.size ≤ maxLen) := Lib.hid (by unfold maxLen; omega)
  have hmr := mv_range (f := f) (t := t) (c := c) k0 k1 (by omega) hj
  rw [hd] at hmr
  obtain ⟨hmr1, hmr2⟩ := hmr
  clear ha hg hcl hd hx hm hb hv1 hv2 hv4
  obtain ⟨W3, hW3⟩ : ∃ W, ((w.alloc (.cells #[.int .i64 f, .int .i64 t, .string i] 24)).alloc (.cells #[.int .i64 g, .int .i64 u, .string j] 24)).alloc (.cells #[.int .i64 0, .int .i64 0, .string ⟨#[]⟩] 24) = W := ⟨_, rfl⟩
  have HT0 : Hid (TB w W3 f t i g u j) := Lib.hid (hW3 ▸ TB.new w f t i g u j)
  have HW3 := Lib.hid hW3
  clear hW3
  go_enter Try.func19, Try.ntmps19
  go_wp2_with fail
  rw [HW3.out]
  obtain ⟨⟨a0, a1, a2, a3, a4, a5, a6⟩, ⟨b0, b1, b2, b3, b4, b5, b6⟩, ⟨z0, z1, z2, z3, z4, z5, z6⟩, _⟩ := HT0.out
  go_at_call 52
  refine (editValid_spec s f t i _ HA.out HSL.out HIL.out _).mono ?_
  rintro e w1 ⟨rfl, hb1⟩
  clear a0 a1 a2 a3 a4 a5 a6 b0 b1 b2 b3 b4 b5 b6 z0 z1 z2 z3 z4 z5 z6
  have HT1 := Lib.hid (HT0.out.below hb1)
  clear hb1
  obtain ⟨⟨a0, a1, a2, a3, a4, a5, a6⟩, ⟨b0, b1, b2, b3, b4, b5, b6⟩, ⟨z0, z1, z2, z3, z4, z5, z6⟩, _⟩ := HT1.out
  go_wp2_with fail
  go_at_call 52
  refine (editValid_spec s g u j _ HB.out HSL.out HJL.out _).mono ?_
  rintro e w2 ⟨rfl, hb2⟩
  clear a0 a1 a2 a3 a4 a5 a6 b0 b1 b2 b3 b4 b5 b6 z0 z1 z2 z3 z4 z5 z6
  have HT2 := Lib.hid (HT1.out.below hb2)
  clear hb2
  obtain ⟨⟨a0, a1, a2, a3, a4, a5, a6⟩, ⟨b0, b1, b2, b3, b4, b5, b6⟩, ⟨z0, z1, z2, z3, z4, z5, z6⟩, _⟩ := HT2.out
  go_wp2_with fail
  go_at_call 53
  refine (l8Clash_any f t i g u j _ HC.out h1 k1 _).mono ?_
  rintro e w3 ⟨rfl, hb3⟩
  clear a0 a1 a2 a3 a4 a5 a6 b0 b1 b2 b3 b4 b5 b6 z0 z1 z2 z3 z4 z5 z6
  have HT3 := Lib.hid (HT2.out.below hb3)
  clear hb3
  obtain ⟨⟨a0, a1, a2, a3, a4, a5, a6⟩, ⟨b0, b1, b2, b3, b4, b5, b6⟩, ⟨z0, z1, z2, z3, z4, z5, z6⟩, _⟩ := HT3.out
  have HT4 := Lib.hid (HT3.out.more (f) (t) i)
  obtain ⟨⟨x0, x1, x2, x3, x4, x5, x6⟩, ⟨y0, y1, y2, y3, y4, y5, y6⟩, ⟨r0, r1, r2, r3, r4, r5, r6⟩, ⟨n0, n1, n2, n3, n4, n5, n6⟩, hy, _⟩ := HT4.out
  go_wp2_with fail
  clear a0 a1 a2 a3 a4 a5 a6 b0 b1 b2 b3 b4 b5 b6 z0 z1 z2 z3 z4 z5 z6
  clear x0 x1 x2 x3 x4 x5 x6 y0 y1 y2 y3 y4 y5 y6 r0 r1 r2 r3 r4 r5 r6 n0 n1 n2 n3 n4 n5 n6 hy
  generalize w3.alloc _ = w4 at *
  generalize w3.heap.size = X at *
  obtain ⟨⟨a0, a1, a2, a3, a4, a5, a6⟩, ⟨b0, b1, b2, b3, b4, b5, b6⟩, ⟨z0, z1, z2, z3, z4, z5, z6⟩, ⟨m0, m1, m2, m3, m4, m5, m6⟩, hx, _⟩ := HT4.out
  have x1 : ¬ X = w.heap.size + 1 + 1 := by omega
  have x2 : ¬ w.heap.size + 1 + 1 = X := by omega
  have x3 : ¬ X = w.heap.size + 1 := by omega
  have x4 : ¬ w.heap.size + 1 = X := by omega
  have x5 : ¬ X = w.heap.size := by omega
  have x6 : ¬ w.heap.size = X := by omega
  rcases hv : bhB f t g u c with _ | _
  case false =>
    have HV := Lib.hid hv
    have hd0 : d = 0 := by rw [← HD.out]; unfold mv; rw [hv]; rfl
    subst hd0
    clear hv
    go_at_call 54
    refine (l8Behind_any f t i g u j c _ HV.out h1 k1 HC.out _).mono ?_
    rintro e w5 ⟨rfl, hb5⟩
    clear a0 a1 a2 a3 a4 a5 a6 b0 b1 b2 b3 b4 b5 b6 z0 z1 z2 z3 z4 z5 z6 m0 m1 m2 m3 m4 m5 m6 hx
    have HT5 := Lib.hid (HT4.out.below hb5)
    clear hb5
    obtain ⟨⟨a0, a1, a2, a3, a4, a5, a6⟩, ⟨b0, b1, b2, b3, b4, b5, b6⟩, ⟨z0, z1, z2, z3, z4, z5, z6⟩, ⟨m0, m1, m2, m3, m4, m5, m6⟩, hx, _⟩ := HT5.out
    go_wp2_with fail
    have hm0 := HM.out
    rw [Int.add_zero, Int.add_zero] at hm0
    have HM0 := Lib.hid hm0
    clear hm0
    have HTd := Lib.hid HT5.out.drew
    go_cut [49] (fun s49 wx => s49 = .bool false ∧ Hid (TM w wx X f t i g u j f t i))
    case first =>
      go_region_held3 (fun w' => w'.cell? ⟨X, 0, none⟩ = some (.int .i64 f) ∧ w'.cell? ⟨X, 1, none⟩ = some (.int .i64 t) ∧ w'.cell? ⟨X, 2, none⟩ = some (.string i) ∧ w'.cell? ⟨w.heap.size + 1, 0, none⟩ = some (.int .i64 g) ∧ w'.cell? ⟨w.heap.size + 1, 1, none⟩ = some (.int .i64 u) ∧ w'.cell? ⟨w.heap.size + 1, 2, none⟩ = some (.string j)) (first | go_keep | go_simp)
        (first | (go_at_call 56; refine (l1Apply_at s g u j x HX.out k0 k1 k2 hs hj _).mono ?_; rintro e w8 ⟨rfl, hb8⟩; have HT8 := Lib.hid (HTd.out.below hb8); clear hb8; obtain ⟨⟨x0p, x1p, x2p, x3p, x4p, x5p, x6p⟩, ⟨y0p, y1p, y2p, y3p, y4p, y5p, y6p⟩, ⟨r0p, r1p, r2p, r3p, r4p, r5p, r6p⟩, ⟨n0p, n1p, n2p, n3p, n4p, n5p, n6p⟩, _, _⟩ := HT8.out) | (go_at_call 52; refine (editValid_spec x f t i _ HM0.out HXL.out HIL.out _).mono ?_; rintro e w9 ⟨rfl, hb9⟩; have HT9 := Lib.hid (HT8.out.below hb9); clear hb9; obtain ⟨⟨x0r, x1r, x2r, x3r, x4r, x5r, x6r⟩, ⟨y0r, y1r, y2r, y3r, y4r, y5r, y6r⟩, ⟨r0r, r1r, r2r, r3r, r4r, r5r, r6r⟩, ⟨n0r, n1r, n2r, n3r, n4r, n5r, n6r⟩, _, _⟩ := HT9.out))
      all_goals
        go_wp2_with fail
        go_meet
        exact ⟨rfl, HT9⟩
    case rest =>
      obtain ⟨rfl, HTc⟩ := hcut
      clear a0 a1 a2 a3 a4 a5 a6 b0 b1 b2 b3 b4 b5 b6 z0 z1 z2 z3 z4 z5 z6 m0 m1 m2 m3 m4 m5 m6 hx
      obtain ⟨⟨a0, a1, a2, a3, a4, a5, a6⟩, ⟨b0, b1, b2, b3, b4, b5, b6⟩, ⟨z0, z1, z2, z3, z4, z5, z6⟩, ⟨m0, m1, m2, m3, m4, m5, m6⟩, hx, _⟩ := HTc.out
      go_wp2_with fail
      exact bodyPost_ret (v := .tuple #[.agg #[.int .i64 f, .int .i64 t, .string i], .bool true]) (by simp [results, Try.results19, go_sem, z0, z1, z2]) rfl ⟨by rw [Int.add_zero, Int.add_zero], below_set3 HTc.out.bel (by omega)⟩
  case true =>
    have HV := Lib.hid hv
    have HG : Hid (grw g u j = d) := Lib.hid (by rw [← HD.out]; unfold mv; rw [hv]; rfl)
    clear hv
    go_at_call 54
    refine (l8Behind_any f t i g u j c _ HV.out h1 k1 HC.out _).mono ?_
    rintro e w5 ⟨rfl, hb5⟩
    clear a0 a1 a2 a3 a4 a5 a6 b0 b1 b2 b3 b4 b5 b6 z0 z1 z2 z3 z4 z5 z6 m0 m1 m2 m3 m4 m5 m6 hx
    have HT5 := Lib.hid (HT4.out.below hb5)
    clear hb5
    obtain ⟨⟨a0, a1, a2, a3, a4, a5, a6⟩, ⟨b0, b1, b2, b3, b4, b5, b6⟩, ⟨z0, z1, z2, z3, z4, z5, z6⟩, ⟨m0, m1, m2, m3, m4, m5, m6⟩, hx, _⟩ := HT5.out
    go_wp2_with fail
    have HTg := Lib.hid HT5.out.drew
    go_cut [] (fun wx => Hid (TM w wx X f t i g u j (f + d) t i))
    case first =>
      go_region_held3 (fun w' => w'.cell? ⟨w.heap.size, 0, none⟩ = some (.int .i64 f) ∧ w'.cell? ⟨w.heap.size + 1, 0, none⟩ = some (.int .i64 g) ∧ w'.cell? ⟨w.heap.size + 1, 1, none⟩ = some (.int .i64 u) ∧ w'.cell? ⟨w.heap.size + 1, 2, none⟩ = some (.string j)) (first | go_keep | go_simp)
        (first | (go_at_call 55; refine (l8Grow_any g u j d HG.out k0 k1 (by omega) (by omega) _).mono ?_; rintro e w7 ⟨rfl, hb7⟩; have HT7 := Lib.hid (HTg.out.below hb7); clear hb7; obtain ⟨⟨x0p, x1p, x2p, x3p, x4p, x5p, x6p⟩, ⟨y0p, y1p, y2p, y3p, y4p, y5p, y6p⟩, ⟨r0p, r1p, r2p, r3p, r4p, r5p, r6p⟩, ⟨n0p, n1p, n2p, n3p, n4p, n5p, n6p⟩, _, _⟩ := HT7.out))
      all_goals
        go_wp2_with fail
        go_meet
        rw [IntWalk.i64_in _ (by omega)]
        exact Lib.hid (HT7.out.set0 _)
    case rest =>
      have HTe := hcut
      clear hcut
      clear a0 a1 a2 a3 a4 a5 a6 b0 b1 b2 b3 b4 b5 b6 z0 z1 z2 z3 z4 z5 z6 m0 m1 m2 m3 m4 m5 m6 hx
      obtain ⟨⟨a0, a1, a2, a3, a4, a5, a6⟩, ⟨b0, b1, b2, b3, b4, b5, b6⟩, ⟨z0, z1, z2, z3, z4, z5, z6⟩, ⟨m0, m1, m2, m3, m4, m5, m6⟩, hx, _⟩ := HTe.out
      go_wp2_with fail
      have HTg := Lib.hid HTe.out.drew
      go_cut [] (fun wx => Hid (TM w wx X f t i g u j (f + d) (t + d) i))
      case first =>
        go_region_held3 (fun w' => w'.cell? ⟨w.heap.size, 1, none⟩ = some (.int .i64 t) ∧ w'.cell? ⟨w.heap.size + 1, 0, none⟩ = some (.int .i64 g) ∧ w'.cell? ⟨w.heap.size + 1, 1, none⟩ = some (.int .i64 u) ∧ w'.cell? ⟨w.heap.size + 1, 2, none⟩ = some (.string j)) (first | go_keep | go_simp)
          (first | (go_at_call 55; refine (l8Grow_any g u j d HG.out k0 k1 (by omega) (by omega) _).mono ?_; rintro e w7 ⟨rfl, hb7⟩; have HT7 := Lib.hid (HTg.out.below hb7); clear hb7; obtain ⟨⟨x0p, x1p, x2p, x3p, x4p, x5p, x6p⟩, ⟨y0p, y1p, y2p, y3p, y4p, y5p, y6p⟩, ⟨r0p, r1p, r2p, r3p, r4p, r5p, r6p⟩, ⟨n0p, n1p, n2p, n3p, n4p, n5p, n6p⟩, _, _⟩ := HT7.out))
        all_goals
          go_wp2_with fail
          go_meet
          rw [IntWalk.i64_in _ (by omega)]
          exact Lib.hid (HT7.out.set1 _)
      case rest =>
        have HTh := hcut
        clear hcut
        clear a0 a1 a2 a3 a4 a5 a6 b0 b1 b2 b3 b4 b5 b6 z0 z1 z2 z3 z4 z5 z6 m0 m1 m2 m3 m4 m5 m6 hx
        obtain ⟨⟨a0, a1, a2, a3, a4, a5, a6⟩, ⟨b0, b1, b2, b3, b4, b5, b6⟩, ⟨z0, z1, z2, z3, z4, z5, z6⟩, ⟨m0, m1, m2, m3, m4, m5, m6⟩, hx, _⟩ := HTh.out
        go_wp2_with fail
        have HTd := Lib.hid HTh.out.drew
        go_cut [49] (fun s49 wx => s49 = .bool false ∧ Hid (TM w wx X f t i g u j (f + d) (t + d) i))
        case first =>
          go_region_held3 (fun w' => w'.cell? ⟨X, 0, none⟩ = some (.int .i64 (f + d)) ∧ w'.cell? ⟨X, 1, none⟩ = some (.int .i64 (t + d)) ∧ w'.cell? ⟨X, 2, none⟩ = some (.string i) ∧ w'.cell? ⟨w.heap.size + 1, 0, none⟩ = some (.int .i64 g) ∧ w'.cell? ⟨w.heap.size + 1, 1, none⟩ = some (.int .i64 u) ∧ w'.cell? ⟨w.heap.size + 1, 2, none⟩ = some (.string j)) (first | go_keep | go_simp)
            (first | (go_at_call 56; refine (l1Apply_at s g u j x HX.out k0 k1 k2 hs hj _).mono ?_; rintro e w8 ⟨rfl, hb8⟩; have HT8 := Lib.hid (HTd.out.below hb8); clear hb8; obtain ⟨⟨x0p, x1p, x2p, x3p, x4p, x5p, x6p⟩, ⟨y0p, y1p, y2p, y3p, y4p, y5p, y6p⟩, ⟨r0p, r1p, r2p, r3p, r4p, r5p, r6p⟩, ⟨n0p, n1p, n2p, n3p, n4p, n5p, n6p⟩, _, _⟩ := HT8.out) | (go_at_call 52; refine (editValid_spec x (f + d) (t + d) i _ HM.out HXL.out HIL.out _).mono ?_; rintro e w9 ⟨rfl, hb9⟩; have HT9 := Lib.hid (HT8.out.below hb9); clear hb9; obtain ⟨⟨x0r, x1r, x2r, x3r, x4r, x5r, x6r⟩, ⟨y0r, y1r, y2r, y3r, y4r, y5r, y6r⟩, ⟨r0r, r1r, r2r, r3r, r4r, r5r, r6r⟩, ⟨n0r, n1r, n2r, n3r, n4r, n5r, n6r⟩, _, _⟩ := HT9.out))
          all_goals
            go_wp2_with fail
            go_meet
            exact ⟨rfl, HT9⟩
        case rest =>
          obtain ⟨rfl, HTc⟩ := hcut
          clear a0 a1 a2 a3 a4 a5 a6 b0 b1 b2 b3 b4 b5 b6 z0 z1 z2 z3 z4 z5 z6 m0 m1 m2 m3 m4 m5 m6 hx
          obtain ⟨⟨a0, a1, a2, a3, a4, a5, a6⟩, ⟨b0, b1, b2, b3, b4, b5, b6⟩, ⟨z0, z1, z2, z3, z4, z5, z6⟩, ⟨m0, m1, m2, m3, m4, m5, m6⟩, hx, _⟩ := HTc.out
          go_wp2_with fail
          exact bodyPost_ret (v := .tuple #[.agg #[.int .i64 (f + d), .int .i64 (t + d), .string i], .bool true]) (by simp [results, Try.results19, go_sem, z0, z1, z2]) rfl ⟨rfl, below_set3 HTc.out.bel (by omega)⟩


end Go.Proofs.Ytdicfjgdceacpaa
