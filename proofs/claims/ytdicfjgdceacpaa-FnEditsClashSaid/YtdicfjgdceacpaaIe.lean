/-
  What EditsClash and MergeEdits return, in the program and in the model: for every text of at most maxLen bytes and any two edits; what was in memory stays.
-/
import Derived.Test.YtdicfjgdceacpaaProg
import Derived.Test.YtdicfjgdceacpaaId
import Derived.Deep.RegionWith
namespace Go.Proofs.Ytdicfjgdceacpaa
open Go.RowKit
set_option linter.unusedVariables false
set_option linter.unusedSimpArgs false

/-- Two edits in variables, and one more at block X. -/
structure TN (v w : World) (X : Nat) (f t : Int) (i : ByteArray) (g u : Int) (j : ByteArray) (p q : Int) (k : ByteArray) : Prop where
  a : EdAt w v.heap.size f t i
  b : EdAt w (v.heap.size + 1) g u j
  m : EdAt w X p q k
  x : v.heap.size + 1 < X
  bel : Below v.heap.size v w
theorem TN.below {v w w' : World} {X : Nat} {f t : Int} {i : ByteArray} {g u : Int} {j : ByteArray} {p q : Int} {k : ByteArray} (h : TN v w X f t i g u j p q k) (hb : Below w.heap.size w w') : TN v w' X f t i g u j p q k :=
  ⟨h.a.below hb, h.b.below hb, h.m.below hb, h.x, h.bel.trans (hb.mono h.bel.size)⟩
theorem TN.drew {v w : World} {X : Nat} {f t : Int} {i : ByteArray} {g u : Int} {j : ByteArray} {p q : Int} {k : ByteArray} (h : TN v w X f t i g u j p q k) : TN v w.drew X f t i g u j p q k := ⟨h.a.drew, h.b.drew, h.m.drew, h.x, h.bel.drew⟩
theorem TA.more {v w : World} {f t : Int} {i : ByteArray} {g u : Int} {j : ByteArray} (h : TA v w f t i g u j) (p q : Int) (k : ByteArray) : TN v (w.alloc (.cells #[.int .i64 p, .int .i64 q, .string k] 24)) w.heap.size f t i g u j p q k := by
  have hb : Below w.heap.size w (w.alloc (.cells #[.int .i64 p, .int .i64 q, .string k] 24)) := (Below.refl _ _).alloc (Nat.le_refl _) _
  exact ⟨h.a.below hb, h.b.below hb, edAt_new w p q k _, h.b.sz, h.bel.trans (hb.mono h.bel.size)⟩
/-- Whether two edits of a text are valid and clash. -/
def ecB (s : ByteArray) (f t : Int) (i : ByteArray) (g u : Int) (j : ByteArray) : Bool := fitsB s f t i && (fitsB s g u j && clB f t g u)

set_option maxHeartbeats 4000000 in
theorem editsClash_impl (s : ByteArray) (f t : Int) (i : ByteArray) (g u : Int) (j : ByteArray) (b : Bool) (hb : ecB s f t i g u j = b) (hs : s.size ≤ maxLen) (hi : i.size ≤ maxLen) (hj : j.size ≤ maxLen) (w : World) :
    Calls Try.prog 22 #[.string s, .agg #[.int .i64 f, .int .i64 t, .string i], .agg #[.int .i64 g, .int .i64 u, .string j]] w fun e w' => e = .returned (.bool b) ∧ Below w.heap.size w w' := by
  subst hb
  have HSL := Lib.hid hs
  have HIL := Lib.hid hi
  have HJL := Lib.hid hj
  clear hs hi hj
  rcases ha : fitsB s f t i with _ | _
  · have HA := Lib.hid ha
    have HV : Hid (ecB s f t i g u j = false) := Lib.hid (by unfold ecB; rw [ha]; rfl)
    clear ha
    obtain ⟨W3, hW3⟩ : ∃ W, (w.alloc (.cells #[.int .i64 f, .int .i64 t, .string i] 24)).alloc (.cells #[.int .i64 g, .int .i64 u, .string j] 24) = W := ⟨_, rfl⟩
    have HT0 : Hid (TA w W3 f t i g u j) := Lib.hid (hW3 ▸ TA.new w f t i g u j)
    have HW3 := Lib.hid hW3
    clear hW3
    go_enter Try.func22, Try.ntmps22
    go_wp2_with fail
    rw [HW3.out]
    obtain ⟨⟨a0, a1, a2, a3, a4, a5, a6⟩, ⟨b0, b1, b2, b3, b4, b5, b6⟩, _⟩ := HT0.out
    go_at_call 48
    refine (fits_any s f t i _ HA.out HSL.out HIL.out _).mono ?_
    rintro e w1 ⟨rfl, hb1⟩
    clear a0 a1 a2 a3 a4 a5 a6 b0 b1 b2 b3 b4 b5 b6
    have HT1 := Lib.hid (HT0.out.below hb1)
    clear hb1
    obtain ⟨⟨a0, a1, a2, a3, a4, a5, a6⟩, ⟨b0, b1, b2, b3, b4, b5, b6⟩, _⟩ := HT1.out
    go_wp2_with fail
    go_ret
    exact ⟨ret_bool HV.out.symm, HT1.out.bel⟩
  rcases hg : fitsB s g u j with _ | _
  · have HA := Lib.hid ha
    have HB := Lib.hid hg
    have HV : Hid (ecB s f t i g u j = false) := Lib.hid (by unfold ecB; rw [ha, hg]; rfl)
    clear ha hg
    obtain ⟨W3, hW3⟩ : ∃ W, (w.alloc (.cells #[.int .i64 f, .int .i64 t, .string i] 24)).alloc (.cells #[.int .i64 g, .int .i64 u, .string j] 24) = W := ⟨_, rfl⟩
    have HT0 : Hid (TA w W3 f t i g u j) := Lib.hid (hW3 ▸ TA.new w f t i g u j)
    have HW3 := Lib.hid hW3
    clear hW3
    go_enter Try.func22, Try.ntmps22
    go_wp2_with fail
    rw [HW3.out]
    obtain ⟨⟨a0, a1, a2, a3, a4, a5, a6⟩, ⟨b0, b1, b2, b3, b4, b5, b6⟩, _⟩ := HT0.out
    go_at_call 48
    refine (fits_any s f t i _ HA.out HSL.out HIL.out _).mono ?_
    rintro e w1 ⟨rfl, hb1⟩
    clear a0 a1 a2 a3 a4 a5 a6 b0 b1 b2 b3 b4 b5 b6
    have HT1 := Lib.hid (HT0.out.below hb1)
    clear hb1
    obtain ⟨⟨a0, a1, a2, a3, a4, a5, a6⟩, ⟨b0, b1, b2, b3, b4, b5, b6⟩, _⟩ := HT1.out
    go_wp2_with fail
    go_at_call 48
    refine (fits_any s g u j _ HB.out HSL.out HJL.out _).mono ?_
    rintro e w2 ⟨rfl, hb2⟩
    clear a0 a1 a2 a3 a4 a5 a6 b0 b1 b2 b3 b4 b5 b6
    have HT2 := Lib.hid (HT1.out.below hb2)
    clear hb2
    obtain ⟨⟨a0, a1, a2, a3, a4, a5, a6⟩, ⟨b0, b1, b2, b3, b4, b5, b6⟩, _⟩ := HT2.out
    go_wp2_with fail
    go_ret
    exact ⟨ret_bool HV.out.symm, HT2.out.bel⟩
  have hf1 := (fitsB_iff.mp ha).2.2.2.1
  have hg1 := (fitsB_iff.mp hg).2.2.2.1
  obtain ⟨c, hc⟩ : ∃ c, clB f t g u = c := ⟨_, rfl⟩
  have HA := Lib.hid ha
  have HB := Lib.hid hg
  have HC := Lib.hid hc
  have HV : Hid (ecB s f t i g u j = c) := Lib.hid (by unfold ecB; rw [ha, hg, hc]; rfl)
  clear ha hg hc
  obtain ⟨W3, hW3⟩ : ∃ W, (w.alloc (.cells #[.int .i64 f, .int .i64 t, .string i] 24)).alloc (.cells #[.int .i64 g, .int .i64 u, .string j] 24) = W := ⟨_, rfl⟩
  have HT0 : Hid (TA w W3 f t i g u j) := Lib.hid (hW3 ▸ TA.new w f t i g u j)
  have HW3 := Lib.hid hW3
  clear hW3
  go_enter Try.func22, Try.ntmps22
  go_wp2_with fail
  rw [HW3.out]
  obtain ⟨⟨a0, a1, a2, a3, a4, a5, a6⟩, ⟨b0, b1, b2, b3, b4, b5, b6⟩, _⟩ := HT0.out
  go_at_call 48
  refine (fits_any s f t i _ HA.out HSL.out HIL.out _).mono ?_
  rintro e w1 ⟨rfl, hb1⟩
  clear a0 a1 a2 a3 a4 a5 a6 b0 b1 b2 b3 b4 b5 b6
  have HT1 := Lib.hid (HT0.out.below hb1)
  clear hb1
  obtain ⟨⟨a0, a1, a2, a3, a4, a5, a6⟩, ⟨b0, b1, b2, b3, b4, b5, b6⟩, _⟩ := HT1.out
  go_wp2_with fail
  go_at_call 48
  refine (fits_any s g u j _ HB.out HSL.out HJL.out _).mono ?_
  rintro e w2 ⟨rfl, hb2⟩
  clear a0 a1 a2 a3 a4 a5 a6 b0 b1 b2 b3 b4 b5 b6
  have HT2 := Lib.hid (HT1.out.below hb2)
  clear hb2
  obtain ⟨⟨a0, a1, a2, a3, a4, a5, a6⟩, ⟨b0, b1, b2, b3, b4, b5, b6⟩, _⟩ := HT2.out
  go_wp2_with fail
  go_at_call 49
  refine (clashes_any f t i g u j _ HC.out _).mono ?_
  rintro e w3 ⟨rfl, hb3⟩
  clear a0 a1 a2 a3 a4 a5 a6 b0 b1 b2 b3 b4 b5 b6
  have HT3 := Lib.hid (HT2.out.below hb3)
  clear hb3
  obtain ⟨⟨a0, a1, a2, a3, a4, a5, a6⟩, ⟨b0, b1, b2, b3, b4, b5, b6⟩, _⟩ := HT3.out
  go_wp2_with fail
  go_ret
  exact ⟨ret_bool HV.out.symm, HT3.out.bel⟩

set_option maxHeartbeats 4000000 in
theorem editsClash_spec (s : ByteArray) (f t : Int) (i : ByteArray) (g u : Int) (j : ByteArray) (b : Bool) (hb : ecB s f t i g u j = b) (hs : s.size ≤ maxLen) (hi : i.size ≤ maxLen) (hj : j.size ≤ maxLen) (w : World) :
    Calls Try.prog 23 #[.string s, .agg #[.int .i64 f, .int .i64 t, .string i], .agg #[.int .i64 g, .int .i64 u, .string j]] w fun e w' => e = .returned (.bool b) ∧ Below w.heap.size w w' := by
  subst hb
  have HSL := Lib.hid hs
  have HIL := Lib.hid hi
  have HJL := Lib.hid hj
  clear hs hi hj
  rcases ha : fitsB s f t i with _ | _
  · have HA := Lib.hid ha
    have HV : Hid (ecB s f t i g u j = false) := Lib.hid (by unfold ecB; rw [ha]; rfl)
    clear ha
    obtain ⟨W3, hW3⟩ : ∃ W, (w.alloc (.cells #[.int .i64 f, .int .i64 t, .string i] 24)).alloc (.cells #[.int .i64 g, .int .i64 u, .string j] 24) = W := ⟨_, rfl⟩
    have HT0 : Hid (TA w W3 f t i g u j) := Lib.hid (hW3 ▸ TA.new w f t i g u j)
    have HW3 := Lib.hid hW3
    clear hW3
    go_enter Try.func23, Try.ntmps23
    go_wp2_with fail
    rw [HW3.out]
    obtain ⟨⟨a0, a1, a2, a3, a4, a5, a6⟩, ⟨b0, b1, b2, b3, b4, b5, b6⟩, _⟩ := HT0.out
    go_at_call 52
    refine (editValid_spec s f t i _ HA.out HSL.out HIL.out _).mono ?_
    rintro e w1 ⟨rfl, hb1⟩
    clear a0 a1 a2 a3 a4 a5 a6 b0 b1 b2 b3 b4 b5 b6
    have HT1 := Lib.hid (HT0.out.below hb1)
    clear hb1
    obtain ⟨⟨a0, a1, a2, a3, a4, a5, a6⟩, ⟨b0, b1, b2, b3, b4, b5, b6⟩, _⟩ := HT1.out
    go_wp2_with fail
    go_ret
    exact ⟨ret_bool HV.out.symm, HT1.out.bel⟩
  rcases hg : fitsB s g u j with _ | _
  · have HA := Lib.hid ha
    have HB := Lib.hid hg
    have HV : Hid (ecB s f t i g u j = false) := Lib.hid (by unfold ecB; rw [ha, hg]; rfl)
    clear ha hg
    obtain ⟨W3, hW3⟩ : ∃ W, (w.alloc (.cells #[.int .i64 f, .int .i64 t, .string i] 24)).alloc (.cells #[.int .i64 g, .int .i64 u, .string j] 24) = W := ⟨_, rfl⟩
    have HT0 : Hid (TA w W3 f t i g u j) := Lib.hid (hW3 ▸ TA.new w f t i g u j)
    have HW3 := Lib.hid hW3
    clear hW3
    go_enter Try.func23, Try.ntmps23
    go_wp2_with fail
    rw [HW3.out]
    obtain ⟨⟨a0, a1, a2, a3, a4, a5, a6⟩, ⟨b0, b1, b2, b3, b4, b5, b6⟩, _⟩ := HT0.out
    go_at_call 52
    refine (editValid_spec s f t i _ HA.out HSL.out HIL.out _).mono ?_
    rintro e w1 ⟨rfl, hb1⟩
    clear a0 a1 a2 a3 a4 a5 a6 b0 b1 b2 b3 b4 b5 b6
    have HT1 := Lib.hid (HT0.out.below hb1)
    clear hb1
    obtain ⟨⟨a0, a1, a2, a3, a4, a5, a6⟩, ⟨b0, b1, b2, b3, b4, b5, b6⟩, _⟩ := HT1.out
    go_wp2_with fail
    go_at_call 52
    refine (editValid_spec s g u j _ HB.out HSL.out HJL.out _).mono ?_
    rintro e w2 ⟨rfl, hb2⟩
    clear a0 a1 a2 a3 a4 a5 a6 b0 b1 b2 b3 b4 b5 b6
    have HT2 := Lib.hid (HT1.out.below hb2)
    clear hb2
    obtain ⟨⟨a0, a1, a2, a3, a4, a5, a6⟩, ⟨b0, b1, b2, b3, b4, b5, b6⟩, _⟩ := HT2.out
    go_wp2_with fail
    go_ret
    exact ⟨ret_bool HV.out.symm, HT2.out.bel⟩
  have hf1 := (fitsB_iff.mp ha).2.2.2.1
  have hg1 := (fitsB_iff.mp hg).2.2.2.1
  obtain ⟨c, hc⟩ : ∃ c, clB f t g u = c := ⟨_, rfl⟩
  have HA := Lib.hid ha
  have HB := Lib.hid hg
  have HC := Lib.hid hc
  have HV : Hid (ecB s f t i g u j = c) := Lib.hid (by unfold ecB; rw [ha, hg, hc]; rfl)
  clear ha hg hc
  obtain ⟨W3, hW3⟩ : ∃ W, (w.alloc (.cells #[.int .i64 f, .int .i64 t, .string i] 24)).alloc (.cells #[.int .i64 g, .int .i64 u, .string j] 24) = W := ⟨_, rfl⟩
  have HT0 : Hid (TA w W3 f t i g u j) := Lib.hid (hW3 ▸ TA.new w f t i g u j)
  have HW3 := Lib.hid hW3
  clear hW3
  go_enter Try.func23, Try.ntmps23
  go_wp2_with fail
  rw [HW3.out]
  obtain ⟨⟨a0, a1, a2, a3, a4, a5, a6⟩, ⟨b0, b1, b2, b3, b4, b5, b6⟩, _⟩ := HT0.out
  go_at_call 52
  refine (editValid_spec s f t i _ HA.out HSL.out HIL.out _).mono ?_
  rintro e w1 ⟨rfl, hb1⟩
  clear a0 a1 a2 a3 a4 a5 a6 b0 b1 b2 b3 b4 b5 b6
  have HT1 := Lib.hid (HT0.out.below hb1)
  clear hb1
  obtain ⟨⟨a0, a1, a2, a3, a4, a5, a6⟩, ⟨b0, b1, b2, b3, b4, b5, b6⟩, _⟩ := HT1.out
  go_wp2_with fail
  go_at_call 52
  refine (editValid_spec s g u j _ HB.out HSL.out HJL.out _).mono ?_
  rintro e w2 ⟨rfl, hb2⟩
  clear a0 a1 a2 a3 a4 a5 a6 b0 b1 b2 b3 b4 b5 b6
  have HT2 := Lib.hid (HT1.out.below hb2)
  clear hb2
  obtain ⟨⟨a0, a1, a2, a3, a4, a5, a6⟩, ⟨b0, b1, b2, b3, b4, b5, b6⟩, _⟩ := HT2.out
  go_wp2_with fail
  go_at_call 53
  refine (l8Clash_any f t i g u j _ HC.out hf1 hg1 _).mono ?_
  rintro e w3 ⟨rfl, hb3⟩
  clear a0 a1 a2 a3 a4 a5 a6 b0 b1 b2 b3 b4 b5 b6
  have HT3 := Lib.hid (HT2.out.below hb3)
  clear hb3
  obtain ⟨⟨a0, a1, a2, a3, a4, a5, a6⟩, ⟨b0, b1, b2, b3, b4, b5, b6⟩, _⟩ := HT3.out
  go_wp2_with fail
  go_ret
  exact ⟨ret_bool HV.out.symm, HT3.out.bel⟩

set_option maxHeartbeats 4000000 in
theorem mergeEdits_impl_no (s : ByteArray) (f t : Int) (i : ByteArray) (g u : Int) (j : ByteArray) (hb : trB s g u j f t i false = false) (hs : s.size ≤ maxLen) (hi : i.size ≤ maxLen) (hj : j.size ≤ maxLen) (w : World) :
    Calls Try.prog 26 #[.string s, .agg #[.int .i64 f, .int .i64 t, .string i], .agg #[.int .i64 g, .int .i64 u, .string j]] w fun e w' => e = .returned (.tuple #[.string ⟨#[]⟩, .bool false]) ∧ Below w.heap.size w w' := by
  have HT := Lib.hid hb
  clear hb
  have HSL := Lib.hid hs
  have HIL := Lib.hid hi
  have HJL := Lib.hid hj
  clear hs hi hj
  obtain ⟨W3, hW3⟩ : ∃ W, (w.alloc (.cells #[.int .i64 f, .int .i64 t, .string i] 24)).alloc (.cells #[.int .i64 g, .int .i64 u, .string j] 24) = W := ⟨_, rfl⟩
  have HT0 : Hid (TA w W3 f t i g u j) := Lib.hid (hW3 ▸ TA.new w f t i g u j)
  have HW3 := Lib.hid hW3
  clear hW3
  go_enter Try.func26, Try.ntmps26
  go_wp2_with fail
  rw [HW3.out]
  obtain ⟨⟨a0, a1, a2, a3, a4, a5, a6⟩, ⟨b0, b1, b2, b3, b4, b5, b6⟩, _⟩ := HT0.out
  go_at_call 18
  refine (transform_impl_no s g u j f t i false HT.out HSL.out HJL.out HIL.out _).mono ?_
  rintro e w1 ⟨rfl, hb1⟩
  clear a0 a1 a2 a3 a4 a5 a6 b0 b1 b2 b3 b4 b5 b6
  have HT1 := Lib.hid (HT0.out.below hb1)
  clear hb1
  obtain ⟨⟨a0, a1, a2, a3, a4, a5, a6⟩, ⟨b0, b1, b2, b3, b4, b5, b6⟩, _⟩ := HT1.out
  go_wp2_with fail
  go_ret2
  exact ⟨rfl, by first | exact HT1.out.bel | exact HT1.out.bel.alloc HT1.out.bel.size _⟩

set_option maxHeartbeats 8000000 in
theorem mergeEdits_impl_yes (s : ByteArray) (f t : Int) (i : ByteArray) (g u : Int) (j : ByteArray) (p q : Int) (z : ByteArray) (hb : trB s g u j f t i false = true) (hp : g + mv g u f t i false = p) (hq : u + mv g u f t i false = q) (hz : ap (ap s f t i) p q j = z) (w : World) :
    Calls Try.prog 26 #[.string s, .agg #[.int .i64 f, .int .i64 t, .string i], .agg #[.int .i64 g, .int .i64 u, .string j]] w fun e w' => e = .returned (.tuple #[.string z, .bool true]) ∧ Below w.heap.size w w' := by
  obtain ⟨hg, ha, hcl, hm⟩ := trB_iff.mp hb
  obtain ⟨hv1, hv2, h0, h1, h2, h3⟩ := fitsB_iff.mp ha
  have hs := tv_size hv1
  have hi := tv_size hv2
  have hj := tv_size (fitsB_iff.mp hg).2.1
  obtain ⟨x, hx⟩ : ∃ x, ap s f t i = x := ⟨_, rfl⟩
  rw [hx, hp, hq] at hm
  rw [hx] at hz
  obtain ⟨_, _, k0, k1, k2, _⟩ := fitsB_iff.mp hm
  have hxz := tv_size (tv_ap' ha)
  rw [hx] at hxz
  have HA := Lib.hid ha
  have HT := Lib.hid hb
  have HP := Lib.hid hp
  have HQ := Lib.hid hq
  have HX := Lib.hid hx
  have HZ := Lib.hid hz
  have HM := Lib.hid hm
  clear ha hg hcl hx hm hb hv1 hv2 hp hq hz
  obtain ⟨W3, hW3⟩ : ∃ W, (w.alloc (.cells #[.int .i64 f, .int .i64 t, .string i] 24)).alloc (.cells #[.int .i64 g, .int .i64 u, .string j] 24) = W := ⟨_, rfl⟩
  have HT0 : Hid (TA w W3 f t i g u j) := Lib.hid (hW3 ▸ TA.new w f t i g u j)
  have HW3 := Lib.hid hW3
  clear hW3
  go_enter Try.func26, Try.ntmps26
  go_wp2_with fail
  rw [HW3.out]
  obtain ⟨⟨a0, a1, a2, a3, a4, a5, a6⟩, ⟨b0, b1, b2, b3, b4, b5, b6⟩, _⟩ := HT0.out
  go_at_call 18
  refine (transform_impl_yes s g u j f t i false p q HT.out HP.out HQ.out _).mono ?_
  rintro e w1 ⟨rfl, hb1⟩
  clear a0 a1 a2 a3 a4 a5 a6 b0 b1 b2 b3 b4 b5 b6
  have HT1 := Lib.hid (HT0.out.below hb1)
  clear hb1
  obtain ⟨⟨a0, a1, a2, a3, a4, a5, a6⟩, ⟨b0, b1, b2, b3, b4, b5, b6⟩, _⟩ := HT1.out
  clear a0 a1 a2 a3 a4 a5 a6 b0 b1 b2 b3 b4 b5 b6
  have HTm := Lib.hid (HT1.out.more p q j)
  go_wp2_with fail
  generalize w1.alloc _ = w2 at *
  generalize w1.heap.size = X at *
  obtain ⟨⟨a0, a1, a2, a3, a4, a5, a6⟩, ⟨b0, b1, b2, b3, b4, b5, b6⟩, ⟨m0, m1, m2, m3, m4, m5, m6⟩, hx, _⟩ := HTm.out
  (try go_wp2_with fail)
  have HTd := Lib.hid HTm.out.drew
  go_region_held3 (fun w' => w'.cell? ⟨X, 0, none⟩ = some (.int .i64 p) ∧ w'.cell? ⟨X, 1, none⟩ = some (.int .i64 q) ∧ w'.cell? ⟨X, 2, none⟩ = some (.string j) ∧ w'.cell? ⟨w.heap.size, 0, none⟩ = some (.int .i64 f) ∧ w'.cell? ⟨w.heap.size, 1, none⟩ = some (.int .i64 t) ∧ w'.cell? ⟨w.heap.size, 2, none⟩ = some (.string i)) (first | go_keep | go_simp)
    (first | (go_at_call_of 51 (Value.agg #[.int IntKind.i64 f, .int IntKind.i64 t, .string i]); refine (applied_at s f t i x HX.out h0 h1 h2 hs hi _).mono ?_; rintro e w8 ⟨rfl, hb8⟩; have HT8 := Lib.hid (HTd.out.below hb8); clear hb8; obtain ⟨⟨x0p, x1p, x2p, x3p, x4p, x5p, x6p⟩, ⟨y0p, y1p, y2p, y3p, y4p, y5p, y6p⟩, ⟨n0p, n1p, n2p, n3p, n4p, n5p, n6p⟩, _, _⟩ := HT8.out) | (go_at_call_of 51 (Value.agg #[.int IntKind.i64 p, .int IntKind.i64 q, .string j]); refine (applied_at x p q j z HZ.out k0 k1 k2 hxz hj _).mono ?_; rintro e w9 ⟨rfl, hb9⟩; have HT9 := Lib.hid (HT8.out.below hb9); clear hb9; obtain ⟨⟨x0r, x1r, x2r, x3r, x4r, x5r, x6r⟩, ⟨y0r, y1r, y2r, y3r, y4r, y5r, y6r⟩, ⟨n0r, n1r, n2r, n3r, n4r, n5r, n6r⟩, _, _⟩ := HT9.out))
  all_goals go_wp2_with fail
  all_goals go_ret2
  all_goals exact ⟨rfl, HT9.out.bel⟩

theorem applyEdit_spec_at (s : ByteArray) (f t : Int) (i y : ByteArray) (hb : fitsB s f t i = true) (hy : ap s f t i = y) (w : World) :
    Calls Try.prog 57 #[.string s, .agg #[.int .i64 f, .int .i64 t, .string i]] w fun e w' => e = .returned (.tuple #[.string y, .bool true]) ∧ Below w.heap.size w w' := by
  subst hy; exact applyEdit_spec_yes s f t i hb w

set_option maxHeartbeats 4000000 in
theorem mergeEdits_spec_no (s : ByteArray) (f t : Int) (i : ByteArray) (g u : Int) (j : ByteArray) (hb : trB s g u j f t i false = false) (hs : s.size ≤ maxLen) (hi : i.size ≤ maxLen) (hj : j.size ≤ maxLen) (w : World) :
    Calls Try.prog 27 #[.string s, .agg #[.int .i64 f, .int .i64 t, .string i], .agg #[.int .i64 g, .int .i64 u, .string j]] w fun e w' => e = .returned (.tuple #[.string ⟨#[]⟩, .bool false]) ∧ Below w.heap.size w w' := by
  have HT := Lib.hid hb
  clear hb
  have HSL := Lib.hid hs
  have HIL := Lib.hid hi
  have HJL := Lib.hid hj
  clear hs hi hj
  obtain ⟨W3, hW3⟩ : ∃ W, (w.alloc (.cells #[.int .i64 f, .int .i64 t, .string i] 24)).alloc (.cells #[.int .i64 g, .int .i64 u, .string j] 24) = W := ⟨_, rfl⟩
  have HT0 : Hid (TA w W3 f t i g u j) := Lib.hid (hW3 ▸ TA.new w f t i g u j)
  have HW3 := Lib.hid hW3
  clear hW3
  go_enter Try.func27, Try.ntmps27
  go_wp2_with fail
  rw [HW3.out]
  obtain ⟨⟨a0, a1, a2, a3, a4, a5, a6⟩, ⟨b0, b1, b2, b3, b4, b5, b6⟩, _⟩ := HT0.out
  go_at_call 19
  refine (transform_spec_no s g u j f t i false HT.out HSL.out HJL.out HIL.out _).mono ?_
  rintro e w1 ⟨rfl, hb1⟩
  clear a0 a1 a2 a3 a4 a5 a6 b0 b1 b2 b3 b4 b5 b6
  have HT1 := Lib.hid (HT0.out.below hb1)
  clear hb1
  obtain ⟨⟨a0, a1, a2, a3, a4, a5, a6⟩, ⟨b0, b1, b2, b3, b4, b5, b6⟩, _⟩ := HT1.out
  go_wp2_with fail
  go_ret2
  exact ⟨rfl, by first | exact HT1.out.bel | exact HT1.out.bel.alloc HT1.out.bel.size _⟩

set_option maxHeartbeats 8000000 in
theorem mergeEdits_spec_yes (s : ByteArray) (f t : Int) (i : ByteArray) (g u : Int) (j : ByteArray) (p q : Int) (z : ByteArray) (hb : trB s g u j f t i false = true) (hp : g + mv g u f t i false = p) (hq : u + mv g u f t i false = q) (hz : ap (ap s f t i) p q j = z) (w : World) :
    Calls Try.prog 27 #[.string s, .agg #[.int .i64 f, .int .i64 t, .string i], .agg #[.int .i64 g, .int .i64 u, .string j]] w fun e w' => e = .returned (.tuple #[.string z, .bool true]) ∧ Below w.heap.size w w' := by
  obtain ⟨hg, ha, hcl, hm⟩ := trB_iff.mp hb
  obtain ⟨hv1, hv2, h0, h1, h2, h3⟩ := fitsB_iff.mp ha
  have hs := tv_size hv1
  have hi := tv_size hv2
  have hj := tv_size (fitsB_iff.mp hg).2.1
  obtain ⟨x, hx⟩ : ∃ x, ap s f t i = x := ⟨_, rfl⟩
  rw [hx, hp, hq] at hm
  rw [hx] at hz
  obtain ⟨_, _, k0, k1, k2, _⟩ := fitsB_iff.mp hm
  have hxz := tv_size (tv_ap' ha)
  rw [hx] at hxz
  have HA := Lib.hid ha
  have HT := Lib.hid hb
  have HP := Lib.hid hp
  have HQ := Lib.hid hq
  have HX := Lib.hid hx
  have HZ := Lib.hid hz
  have HM := Lib.hid hm
  clear ha hg hcl hx hm hb hv1 hv2 hp hq hz
  obtain ⟨W3, hW3⟩ : ∃ W, (w.alloc (.cells #[.int .i64 f, .int .i64 t, .string i] 24)).alloc (.cells #[.int .i64 g, .int .i64 u, .string j] 24) = W := ⟨_, rfl⟩
  have HT0 : Hid (TA w W3 f t i g u j) := Lib.hid (hW3 ▸ TA.new w f t i g u j)
  have HW3 := Lib.hid hW3
  clear hW3
  go_enter Try.func27, Try.ntmps27
  go_wp2_with fail
  rw [HW3.out]
  obtain ⟨⟨a0, a1, a2, a3, a4, a5, a6⟩, ⟨b0, b1, b2, b3, b4, b5, b6⟩, _⟩ := HT0.out
  go_at_call 19
  refine (transform_spec_yes s g u j f t i false p q HT.out HP.out HQ.out _).mono ?_
  rintro e w1 ⟨rfl, hb1⟩
  clear a0 a1 a2 a3 a4 a5 a6 b0 b1 b2 b3 b4 b5 b6
  have HT1 := Lib.hid (HT0.out.below hb1)
  clear hb1
  obtain ⟨⟨a0, a1, a2, a3, a4, a5, a6⟩, ⟨b0, b1, b2, b3, b4, b5, b6⟩, _⟩ := HT1.out
  clear a0 a1 a2 a3 a4 a5 a6 b0 b1 b2 b3 b4 b5 b6
  have HTm := Lib.hid (HT1.out.more p q j)
  go_wp2_with fail
  generalize w1.alloc _ = w2 at *
  generalize w1.heap.size = X at *
  obtain ⟨⟨a0, a1, a2, a3, a4, a5, a6⟩, ⟨b0, b1, b2, b3, b4, b5, b6⟩, ⟨m0, m1, m2, m3, m4, m5, m6⟩, hx, _⟩ := HTm.out
  (try go_wp2_with fail)
  have HTd := Lib.hid HTm.out.drew
  go_region_held3 (fun w' => w'.cell? ⟨X, 0, none⟩ = some (.int .i64 p) ∧ w'.cell? ⟨X, 1, none⟩ = some (.int .i64 q) ∧ w'.cell? ⟨X, 2, none⟩ = some (.string j) ∧ w'.cell? ⟨w.heap.size, 0, none⟩ = some (.int .i64 f) ∧ w'.cell? ⟨w.heap.size, 1, none⟩ = some (.int .i64 t) ∧ w'.cell? ⟨w.heap.size, 2, none⟩ = some (.string i)) (first | go_keep | go_simp)
    (first | (go_at_call_of 56 (Value.string s); refine (l1Apply_at s f t i x HX.out h0 h1 h2 hs hi _).mono ?_; rintro e w8 ⟨rfl, hb8⟩; have HT8 := Lib.hid (HTd.out.below hb8); clear hb8; obtain ⟨⟨x0p, x1p, x2p, x3p, x4p, x5p, x6p⟩, ⟨y0p, y1p, y2p, y3p, y4p, y5p, y6p⟩, ⟨n0p, n1p, n2p, n3p, n4p, n5p, n6p⟩, _, _⟩ := HT8.out) | (go_at_call_of 57 (Value.string x); refine (applyEdit_spec_at x p q j z HM.out HZ.out _).mono ?_; rintro e w9 ⟨rfl, hb9⟩; have HT9 := Lib.hid (HT8.out.below hb9); clear hb9; obtain ⟨⟨x0r, x1r, x2r, x3r, x4r, x5r, x6r⟩, ⟨y0r, y1r, y2r, y3r, y4r, y5r, y6r⟩, ⟨n0r, n1r, n2r, n3r, n4r, n5r, n6r⟩, _, _⟩ := HT9.out))
  all_goals go_wp2_with fail
  all_goals go_ret2
  all_goals exact ⟨rfl, HT9.out.bel⟩


end Go.Proofs.Ytdicfjgdceacpaa
