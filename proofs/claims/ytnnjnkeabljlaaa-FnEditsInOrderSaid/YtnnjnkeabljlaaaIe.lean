/-
  What EditsClash and MergeEdits return, in the program and in the model: for every text of at most maxLen bytes and any two edits; what was in memory stays.
-/
import Derived.Test.YtnnjnkeabljlaaaProg
import Derived.Test.YtnnjnkeabljlaaaId
import Derived.Deep.RegionWith
namespace Go.Proofs.Ytnnjnkeabljlaaa
open Go.RowKit
set_option linter.unusedVariables false
set_option linter.unusedSimpArgs false

/-- Two edits in variables, and one more at block X. -/
structure TN (v w : World) (X : Nat) (f t : Int) (i : ByteArray) (g u : Int) (j : ByteArray) (p q : Int) (k : ByteArray) : Prop where
  a : EdAt w v.heap.size f t i
  b : EdAt w (v.heap.size + 1) g u j
  m : EdAt w X p q k
  x : v.heap.size + 1 < X
  bel : Below v.heap.size v w
theorem TN.below {v w w' : World} {X : Nat} {f t : Int} {i : ByteArray} {g u : Int} {j : ByteArray} {p q : Int} {k : ByteArray} (h : TN v w X f t i g u j p q k) (hb : Below w.heap.size w w') : TN v w' X f t i g u j p q k :=
  ⟨h.a.below hb, h.b.below hb, h.m.below hb, h.x, h.bel.trans (hb.mono h.bel.size)⟩
theorem TN.drew {v w : World} {X : Nat} {f t : Int} {i : ByteArray} {g u : Int} {j : ByteArray} {p q : Int} {k : ByteArray} (h : TN v w X f t i g u j p q k) : TN v w.drew X f t i g u j p q k := ⟨h.a.drew, h.b.drew, h.m.drew, h.x, h.bel.drew⟩
theorem TA.more {v w : World} {f t : Int} {i : ByteArray} {g u : Int} {j : ByteArray} (h : TA v w f t i g u j) (p q : Int) (k : ByteArray) : TN v (w.alloc (.cells #[.int .i64 p, .int .i64 q, .string k] 30)) w.heap.size f t i g u j p q k := by
  have hb : Below w.heap.size w (w.alloc (.cells #[.int .i64 p, .int .i64 q, .string k] 30)) := (Below.refl _ _).alloc (Nat.le_refl _) _
  exact ⟨h.a.below hb, h.b.below hb, edAt_new w p q k _, h.b.sz, h.bel.trans (hb.mono h.bel.size)⟩
/-- Whether two edits of a text are valid and clash. -/
def ecB (s : ByteArray) (f t : Int) (i : ByteArray) (g u : Int) (j : ByteArray) : Bool := fitsB s f t i && (fitsB s g u j && clB f t g u)

set_option maxRecDepth 100000 in
set_option maxHeartbeats 4000000 in
theorem editsClash_impl (s : ByteArray) (f t : Int) (i : ByteArray) (g u : Int) (j : ByteArray) (b : Bool) (hb : ecB s f t i g u j = b) (hs : s.size ≤ maxLen) (hi : i.size ≤ maxLen) (hj : j.size ≤ maxLen) (w : World) :
    Calls Try.prog 13 #[.string s, .agg #[.int .i64 f, .int .i64 t, .string i], .agg #[.int .i64 g, .int .i64 u, .string j]] w fun e w' => e = .returned (.bool b) ∧ Below w.heap.size w w' := by
  subst hb
  have HSL := Lib.hid hs
  have HIL := Lib.hid hi
  have HJL := Lib.hid hj
  clear hs hi hj
  rcases ha : fitsB s f t i with _ | _
  · have HA := Lib.hid ha
    have HV : Hid (ecB s f t i g u j = false) := Lib.hid (by unfold ecB; rw [ha]; rfl)
    clear ha
    obtain ⟨W3, hW3⟩ : ∃ W, (w.alloc (.cells #[.int .i64 f, .int .i64 t, .string i] 30)).alloc (.cells #[.int .i64 g, .int .i64 u, .string j] 30) = W := ⟨_, rfl⟩
    have HT0 : Hid (TA w W3 f t i g u j) := Lib.hid (hW3 ▸ TA.new w f t i g u j)
    have HW3 := Lib.hid hW3
    clear hW3
    go_enter Try.func13, Try.ntmps13
    go_wp2_with fail
    rw [HW3.out]
    obtain ⟨⟨a0, a1, a2, a3, a4, a5, a6⟩, ⟨b0, b1, b2, b3, b4, b5, b6⟩, _⟩ := HT0.out
    go_at_call 24
    refine (fits_any s f t i _ HA.out HSL.out HIL.out _).mono ?_
    rintro e w1 ⟨rfl, hb1⟩
    clear a0 a1 a2 a3 a4 a5 a6 b0 b1 b2 b3 b4 b5 b6
    have HT1 := Lib.hid (HT0.out.below hb1)
    clear hb1
    obtain ⟨⟨a0, a1, a2, a3, a4, a5, a6⟩, ⟨b0, b1, b2, b3, b4, b5, b6⟩, _⟩ := HT1.out
    go_wp2_with fail
    go_ret
    exact ⟨ret_bool HV.out.symm, HT1.out.bel⟩
  rcases hg : fitsB s g u j with _ | _
  · have HA := Lib.hid ha
    have HB := Lib.hid hg
    have HV : Hid (ecB s f t i g u j = false) := Lib.hid (by unfold ecB; rw [ha, hg]; rfl)
    clear ha hg
    obtain ⟨W3, hW3⟩ : ∃ W, (w.alloc (.cells #[.int .i64 f, .int .i64 t, .string i] 30)).alloc (.cells #[.int .i64 g, .int .i64 u, .string j] 30) = W := ⟨_, rfl⟩
    have HT0 : Hid (TA w W3 f t i g u j) := Lib.hid (hW3 ▸ TA.new w f t i g u j)
    have HW3 := Lib.hid hW3
    clear hW3
    go_enter Try.func13, Try.ntmps13
    go_wp2_with fail
    rw [HW3.out]
    obtain ⟨⟨a0, a1, a2, a3, a4, a5, a6⟩, ⟨b0, b1, b2, b3, b4, b5, b6⟩, _⟩ := HT0.out
    go_at_call 24
    refine (fits_any s f t i _ HA.out HSL.out HIL.out _).mono ?_
    rintro e w1 ⟨rfl, hb1⟩
    clear a0 a1 a2 a3 a4 a5 a6 b0 b1 b2 b3 b4 b5 b6
    have HT1 := Lib.hid (HT0.out.below hb1)
    clear hb1
    obtain ⟨⟨a0, a1, a2, a3, a4, a5, a6⟩, ⟨b0, b1, b2, b3, b4, b5, b6⟩, _⟩ := HT1.out
    go_wp2_with fail
    go_at_call 24
    refine (fits_any s g u j _ HB.out HSL.out HJL.out _).mono ?_
    rintro e w2 ⟨rfl, hb2⟩
    clear a0 a1 a2 a3 a4 a5 a6 b0 b1 b2 b3 b4 b5 b6
    have HT2 := Lib.hid (HT1.out.below hb2)
    clear hb2
    obtain ⟨⟨a0, a1, a2, a3, a4, a5, a6⟩, ⟨b0, b1, b2, b3, b4, b5, b6⟩, _⟩ := HT2.out
    go_wp2_with fail
    go_ret
    exact ⟨ret_bool HV.out.symm, HT2.out.bel⟩
  have hf1 := (fitsB_iff.mp ha).2.2.2.1
  have hg1 := (fitsB_iff.mp hg).2.2.2.1
  obtain ⟨c, hc⟩ : ∃ c, clB f t g u = c := ⟨_, rfl⟩
  have HA := Lib.hid ha
  have HB := Lib.hid hg
  have HC := Lib.hid hc
  have HV : Hid (ecB s f t i g u j = c) := Lib.hid (by unfold ecB; rw [ha, hg, hc]; rfl)
  clear ha hg hc
  obtain ⟨W3, hW3⟩ : ∃ W, (w.alloc (.cells #[.int .i64 f, .int .i64 t, .string i] 30)).alloc (.cells #[.int .i64 g, .int .i64 u, .string j] 30) = W := ⟨_, rfl⟩
  have HT0 : Hid (TA w W3 f t i g u j) := Lib.hid (hW3 ▸ TA.new w f t i g u j)
  have HW3 := Lib.hid hW3
  clear hW3
  go_enter Try.func13, Try.ntmps13
  go_wp2_with fail
  rw [HW3.out]
  obtain ⟨⟨a0, a1, a2, a3, a4, a5, a6⟩, ⟨b0, b1, b2, b3, b4, b5, b6⟩, _⟩ := HT0.out
  go_at_call 24
  refine (fits_any s f t i _ HA.out HSL.out HIL.out _).mono ?_
  rintro e w1 ⟨rfl, hb1⟩
  clear a0 a1 a2 a3 a4 a5 a6 b0 b1 b2 b3 b4 b5 b6
  have HT1 := Lib.hid (HT0.out.below hb1)
  clear hb1
  obtain ⟨⟨a0, a1, a2, a3, a4, a5, a6⟩, ⟨b0, b1, b2, b3, b4, b5, b6⟩, _⟩ := HT1.out
  go_wp2_with fail
  go_at_call 24
  refine (fits_any s g u j _ HB.out HSL.out HJL.out _).mono ?_
  rintro e w2 ⟨rfl, hb2⟩
  clear a0 a1 a2 a3 a4 a5 a6 b0 b1 b2 b3 b4 b5 b6
  have HT2 := Lib.hid (HT1.out.below hb2)
  clear hb2
  obtain ⟨⟨a0, a1, a2, a3, a4, a5, a6⟩, ⟨b0, b1, b2, b3, b4, b5, b6⟩, _⟩ := HT2.out
  go_wp2_with fail
  go_at_call 35
  refine (clashes_any f t i g u j _ HC.out _).mono ?_
  rintro e w3 ⟨rfl, hb3⟩
  clear a0 a1 a2 a3 a4 a5 a6 b0 b1 b2 b3 b4 b5 b6
  have HT3 := Lib.hid (HT2.out.below hb3)
  clear hb3
  obtain ⟨⟨a0, a1, a2, a3, a4, a5, a6⟩, ⟨b0, b1, b2, b3, b4, b5, b6⟩, _⟩ := HT3.out
  go_wp2_with fail
  go_ret
  exact ⟨ret_bool HV.out.symm, HT3.out.bel⟩

end Go.Proofs.Ytnnjnkeabljlaaa
