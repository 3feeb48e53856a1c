/-
  What ApplyAll of the model returns: for every text of at most maxLen bytes and every list of edits; what was in memory stays.
-/
import Derived.Test.YtnnjnkeabljlaaaProg
import Derived.Test.YtnnjnkeabljlaaaIh
namespace Go.Proofs.Ytnnjnkeabljlaaa
open Go.RowKit
set_option linter.unusedVariables false
set_option linter.unusedSimpArgs false

set_option maxRecDepth 100000 in
set_option maxHeartbeats 400000 in
theorem l1Apply_wide (s : ByteArray) (f t : Int) (i y : ByteArray) (hy : ap s f t i = y) (h0 : 0 ≤ f) (h1 : f ≤ t) (h2 : t ≤ s.size) (hs : s.size ≤ 4000) (hi : i.size ≤ 2000) (w : World) :
    Calls Try.prog 23 #[.string s, .agg #[.int .i64 f, .int .i64 t, .string i]] w fun e w' => e = .returned (.string y) ∧ Below w.heap.size w w' := by
  subst hy
  go_enter Try.func23, Try.ntmps23
  go_wp2
  go_quiet (fail)
  go_wp2
  go_ret
  exact ⟨rfl, below_drewN ((Below.refl _ _).alloc (Nat.le_refl _) _) _⟩

/-- What ApplyAll answers. -/
def alV (s : ByteArray) (ls : List Ed) : Value := .tuple #[.string (if ordB s ls = true then apR s ls else ⟨#[]⟩), .bool (ordB s ls)]

set_option maxRecDepth 100000 in
set_option maxHeartbeats 4000000 in
theorem applyAll_spec_no (s : ByteArray) (ls : List Ed) (v : Value) (hb : ordB s ls = false) (hs : s.size ≤ maxLen) (hz : EdSz ls) (w : World) (hx : EsAt w ls v) :
    Calls Try.prog 9 #[.string s, v] w fun e w' => e = .returned (.tuple #[.string ⟨#[]⟩, .bool false]) ∧ Below w.heap.size w w' := by
  have HSL := Lib.hid hs
  have HX := Lib.hid hx
  have HB := Lib.hid hb
  have HZ : Hid (EdSz ls) := Lib.hid hz
  clear hs hx hb hz
  go_enter Try.func9, Try.ntmps9
  go_wp2_with fail
  go_at_call 12
  refine (editsInOrder_spec s ls v _ HB.out HSL.out HZ.out _ HX.out).mono ?_
  rintro e w1 ⟨rfl, hb1⟩
  go_wp2_with fail
  go_ret2
  exact ⟨rfl, hb1⟩

set_option maxRecDepth 100000 in
set_option maxHeartbeats 4000000 in
theorem applyAll_spec_yes (s : ByteArray) (ls : List Ed) (v : Value) (y : ByteArray) (hb : ordB s ls = true) (hy : apR s ls = y) (hs : s.size ≤ maxLen) (hz : EdSz ls) (w : World) (hx : EsAt w ls v) :
    Calls Try.prog 9 #[.string s, v] w fun e w' => e = .returned (.tuple #[.string y, .bool true]) ∧ Below w.heap.size w w' := by
  have HSL := Lib.hid hs
  have HX := Lib.hid hx
  have HB := Lib.hid hb
  have HY := Lib.hid hy
  have HZ : Hid (EdSz ls) := Lib.hid hz
  obtain ⟨a, cap, rfl, hlen⟩ := hx.slice
  obtain ⟨L, hL⟩ : ∃ L, ls.length = L := ⟨_, rfl⟩
  have HL := Lib.hid hL
  rw [hL] at hlen HX ⊢
  clear hs hx hb hz hL hy
  go_enter Try.func9, Try.ntmps9
  go_wp2_with fail
  go_at_call 12
  refine (editsInOrder_spec s ls _ _ HB.out HSL.out HZ.out _ HX.out).mono ?_
  rintro e w1 ⟨rfl, hb1⟩
  have HB1 := Lib.hid hb1
  clear hb1
  go_wp2_with fail
  go_loopw [6, 7] (fun lo li wr => ∃ (j : Nat) (c : ByteArray), j ≤ L ∧ li = .int .i64 ((j : Int) - 1) ∧ lo = .string c ∧ Hid (c = apR s (ls.drop j)) ∧ Below w.heap.size w wr) (fun _ i _ => (intOf i + 1).toNat)
  case atStart => exact ⟨L, s, Nat.le_refl _, by go_num, rfl, Lib.hid (by rw [List.drop_of_length_le (by rw [HL.out]; omega)]; rfl), HB1.out⟩
  case round =>
    obtain ⟨j, c, hj, rfl, rfl, hc, hBl⟩ := hrel
    have HBl := Lib.hid hBl
    clear hBl
    by_cases hj0 : j = 0
    · subst hj0
      have hcy : c = y := by rw [hc.out, ← HY.out]; rfl
      subst hcy
      go_wp2_with fail
      go_ret2
      exact ⟨rfl, HBl.out⟩
    · obtain ⟨k, rfl⟩ : ∃ k, j = k + 1 := ⟨j - 1, by omega⟩
      have hkl : k < L := by omega
      have e1 : ((k + 1 : Nat) : Int) - 1 = (k : Int) := by omega
      rw [e1]
      have hki : (k : Int) < (L : Int) := by omega
      have hk0 : (0 : Int) ≤ (k : Int) := by omega
      have s1 : IntKind.i64.wrap ((k : Int) - 1) = (k : Int) - 1 := IntWalk.i64_in _ (by omega)
      obtain ⟨xb, xo, cap2, ex, bl, ⟨x0, x1, x2⟩⟩ := (HX.out.kept HBl.out).kid k (by rw [HL.out]; exact hkl)
      have ex1 : a = some ⟨xb, xo, none⟩ := by injection ex
      subst ex1
      have hst := apR_step HB.out (k := k) (by rw [HL.out]; exact hkl)
      obtain ⟨xk, hxk⟩ : ∃ x, ls.getD k Ed.dummy = x := ⟨_, rfl⟩
      rw [hxk] at x0 x1 x2
      simp only [hxk] at hst
      rw [← hc.out] at hst
      obtain ⟨h1, h2, h3, h4, h5, h6⟩ := hst
      have HN := Lib.hid h1
      clear ex hxk h1 e1 hj0
      go_wp2_with fail
      go_at_call 23
      refine (l1Apply_wide c xk.f xk.t xk.i _ rfl h2 h3 h4 h5 h6 _).mono ?_
      rintro e w2 ⟨rfl, hb2⟩
      have HB2 := Lib.hid (HBl.out.trans (hb2.mono HBl.out.size))
      clear hb2
      go_wp2_with fail
      go_roundw
      case rel => exact ⟨k, _, by omega, rfl, rfl, Lib.hid HN.out.symm, HB2.out⟩
      case measure => simp [intOf]

end Go.Proofs.Ytnnjnkeabljlaaa
