/-
  FnComposeEdits returns true for every slice of bytes, and the slice reads as it did: edits compose. No conditions.
-/
import Derived.Test.YthannbkkpocejaaRows
import Derived.ProofKit
import Derived.OpenShut
import Derived.ShutString
import Derived.ChangeOld
import Derived.Below
import Derived.Lib.SmallJoins
import Derived.Test.YthannbkkpocejaaUj
import Derived.Test.YthannbkkpocejaaUh
import Derived.Test.YthannbkkpocejaaTm
namespace Go.Proofs.Ythannbkkpocejaa.fnComposeEdits
open Go.Proofs.Ythannbkkpocejaa
open Go.ChangeShapes Go.WideShapes Go.ChangeAt Go.RowKit Go.Joins
open Go.ChangeMaps (open_string shut_string)
set_option linter.unusedVariables false

theorem own : ownKnob Try.prog.godebug = none := by kernel_rfl
theorem laidOut : laidOutB Try.prog = true := by kernel_rfl

theorem applyEdit_impl_at (s : ByteArray) (f t : Int) (i y : ByteArray) (hb : fitsB s f t i = true) (hy : ap s f t i = y) (w : World) :
    Calls Try.prog 15 #[.string s, .agg #[.int .i64 f, .int .i64 t, .string i]] w fun e w' => e = .returned (.tuple #[.string y, .bool true]) ∧ Below w.heap.size w w' := by
  subst hy; exact applyEdit_impl_yes s f t i hb w
theorem compose_impl_at (s : ByteArray) (f t : Int) (i : ByteArray) (g u : Int) (j x y : ByteArray) (cf ct : Int) (ci : ByteArray) (hb : fitsB s f t i = true) (hx : ap s f t i = x) (hc : fitsB x g u j = true) (hy : ap x g u j = y) (hd : Dif s y cf ct ci) (hs : s.size ≤ maxLen) (hi : i.size ≤ maxLen) (hj : j.size ≤ maxLen) (w : World) :
    Calls Try.prog 23 #[.string s, .agg #[.int .i64 f, .int .i64 t, .string i], .agg #[.int .i64 g, .int .i64 u, .string j]] w fun e w' => e = .returned (.tuple #[.agg #[.int .i64 cf, .int .i64 ct, .string ci], .bool true]) ∧ Below w.heap.size w w' := by
  subst hx; subst hy
  obtain ⟨rfl, rfl, rfl⟩ := hd
  exact compose_impl_3 s f t i g u j hb hc hs hi hj w
theorem compose_impl_no (s : ByteArray) (f t : Int) (i : ByteArray) (g u : Int) (j : ByteArray) (h : fitsB s f t i = false ∨ (fitsB s f t i = true ∧ fitsB (ap s f t i) g u j = false)) (hs : s.size ≤ maxLen) (hi : i.size ≤ maxLen) (hj : j.size ≤ maxLen) (w : World) :
    Calls Try.prog 23 #[.string s, .agg #[.int .i64 f, .int .i64 t, .string i], .agg #[.int .i64 g, .int .i64 u, .string j]] w fun e w' => e = .returned (.tuple #[.agg #[.int .i64 0, .int .i64 0, .string ⟨#[]⟩], .bool false]) ∧ Below w.heap.size w w' := by
  rcases h with h | ⟨h, h2⟩
  · exact compose_impl_1 s f t i g u j h hs hi hj w
  · exact compose_impl_2 s f t i g u j h h2 hs hi hj w
theorem compose_spec_at (s : ByteArray) (f t : Int) (i : ByteArray) (g u : Int) (j x y : ByteArray) (cf ct : Int) (ci : ByteArray) (hb : fitsB s f t i = true) (hx : ap s f t i = x) (hc : fitsB x g u j = true) (hy : ap x g u j = y) (hd : Dif s y cf ct ci) (hs : s.size ≤ maxLen) (hi : i.size ≤ maxLen) (hj : j.size ≤ maxLen) (w : World) :
    Calls Try.prog 24 #[.string s, .agg #[.int .i64 f, .int .i64 t, .string i], .agg #[.int .i64 g, .int .i64 u, .string j]] w fun e w' => e = .returned (.tuple #[.agg #[.int .i64 cf, .int .i64 ct, .string ci], .bool true]) ∧ Below w.heap.size w w' := by
  subst hx; subst hy
  obtain ⟨rfl, rfl, rfl⟩ := hd
  exact compose_spec_3 s f t i g u j hb hc hs hi hj w
theorem compose_spec_no (s : ByteArray) (f t : Int) (i : ByteArray) (g u : Int) (j : ByteArray) (h : fitsB s f t i = false ∨ (fitsB s f t i = true ∧ fitsB (ap s f t i) g u j = false)) (hs : s.size ≤ maxLen) (hi : i.size ≤ maxLen) (hj : j.size ≤ maxLen) (w : World) :
    Calls Try.prog 24 #[.string s, .agg #[.int .i64 f, .int .i64 t, .string i], .agg #[.int .i64 g, .int .i64 u, .string j]] w fun e w' => e = .returned (.tuple #[.agg #[.int .i64 0, .int .i64 0, .string ⟨#[]⟩], .bool false]) ∧ Below w.heap.size w w' := by
  rcases h with h | ⟨h, h2⟩
  · exact compose_spec_1 s f t i g u j h hs hi hj w
  · exact compose_spec_2 s f t i g u j h h2 hs hi hj w

set_option maxHeartbeats 8000000 in
theorem walk (a0 : Option Addr) (len cap : Nat) (zs : List Int) (w : World) (hrow : IsRow w a0 len cap zs) :
    Calls Try.prog 6 #[.slice a0 len cap] w fun e w' => e = .returned (.bool true) ∧ Below w.heap.size w w' := by
  have HRow := Lib.hid hrow
  have hm := hrow.len
  unfold maxLen at hm
  clear hrow
  by_cases hl : len ≤ 1048576
  case neg =>
    go_enter Try.func6, Try.ntmps6
    go_wp2
    go_ret
    exact ⟨rfl, Below.refl _ _⟩
  go_enter Try.func6, Try.ntmps6
  go_wp2_with fail
  go_at_call 22
  refine (drawComposeEdits_any a0 len cap zs _ HRow.out).mono ?_
  rintro e w0 ⟨s, f, t, i, g, u, j, hs, hi, hj, rfl, hb0⟩
  have HB0 := Lib.hid hb0
  have HSL : Hid (s.size ≤ maxLen) := Lib.hid (by unfold maxLen; omega)
  have HIL : Hid (i.size ≤ maxLen) := Lib.hid (by unfold maxLen; omega)
  have HJL : Hid (j.size ≤ maxLen) := Lib.hid (by unfold maxLen; omega)
  clear hb0
  by_cases hn : fitsB s f t i = false ∨ (fitsB s f t i = true ∧ fitsB (ap s f t i) g u j = false)
  case pos =>
    have HN := Lib.hid hn
    clear hn
    have HB1 := Lib.hid (HB0.out.alloc HB0.out.size (.cells #[.int .i64 f, .int .i64 t, .string i] 24))
    have HE1 := Lib.hid (edAt_new w0 f t i 24)
    have HB2 := Lib.hid (HB1.out.alloc HB1.out.size (.cells #[.int .i64 g, .int .i64 u, .string j] 24))
    have HE2 := Lib.hid (HE1.out.below ((Below.refl _ _).alloc (Nat.le_refl _) (.cells #[.int .i64 g, .int .i64 u, .string j] 24)))
    have HF2 := Lib.hid (by have h := edAt_new (w0.alloc (.cells #[.int .i64 f, .int .i64 t, .string i] 24)) g u j 24; rw [size_alloc1] at h; exact h)
    obtain ⟨fa1, fb1, fc1, _, _, _, fz1⟩ := HE2.out
    obtain ⟨fa2, fb2, fc2, _, _, _, fz2⟩ := HF2.out
    go_wp2_with fail
    go_at_call 23
    refine (compose_impl_no s f t i g u j HN.out HSL.out HIL.out HJL.out _).mono ?_
    rintro e w3 ⟨rfl, hb3⟩
    have HB3 := Lib.hid (HB2.out.trans (hb3.mono HB2.out.size))
    have HE3 := Lib.hid (HE2.out.below hb3)
    have HF3 := Lib.hid (HF2.out.below hb3)
    clear hb3
    clear fa1 fb1 fc1 fz1 fa2 fb2 fc2 fz2
    have HB4 := Lib.hid (HB3.out.alloc HB3.out.size (.cells #[.int .i64 0, .int .i64 0, .string ⟨#[]⟩] 24))
    have HE4 := Lib.hid (HE3.out.below ((Below.refl _ _).alloc (Nat.le_refl _) (.cells #[.int .i64 0, .int .i64 0, .string ⟨#[]⟩] 24)))
    have HF4 := Lib.hid (HF3.out.below ((Below.refl _ _).alloc (Nat.le_refl _) (.cells #[.int .i64 0, .int .i64 0, .string ⟨#[]⟩] 24)))
    have HC4 := Lib.hid (edAt_new w3 0 0 ⟨#[]⟩ 24)
    obtain ⟨fa1, fb1, fc1, _, _, _, fz1⟩ := HE4.out
    obtain ⟨fa2, fb2, fc2, _, _, _, fz2⟩ := HF4.out
    obtain ⟨fa3, fb3, fc3, _, _, _, fz3⟩ := HC4.out
    go_wp2_with fail
    go_at_call 24
    refine (compose_spec_no s f t i g u j HN.out HSL.out HIL.out HJL.out _).mono ?_
    rintro e w5 ⟨rfl, hb5⟩
    have HB5 := Lib.hid (HB4.out.trans (hb5.mono HB4.out.size))
    have HE5 := Lib.hid (HE4.out.below hb5)
    have HF5 := Lib.hid (HF4.out.below hb5)
    have HC5 := Lib.hid (HC4.out.below hb5)
    clear hb5
    clear fa1 fb1 fc1 fz1 fa2 fb2 fc2 fz2 fa3 fb3 fc3 fz3
    have HB6 := Lib.hid (HB5.out.alloc HB5.out.size (.cells #[.int .i64 0, .int .i64 0, .string ⟨#[]⟩] 24))
    have HE6 := Lib.hid (HE5.out.below ((Below.refl _ _).alloc (Nat.le_refl _) (.cells #[.int .i64 0, .int .i64 0, .string ⟨#[]⟩] 24)))
    have HF6 := Lib.hid (HF5.out.below ((Below.refl _ _).alloc (Nat.le_refl _) (.cells #[.int .i64 0, .int .i64 0, .string ⟨#[]⟩] 24)))
    have HC6 := Lib.hid (HC5.out.below ((Below.refl _ _).alloc (Nat.le_refl _) (.cells #[.int .i64 0, .int .i64 0, .string ⟨#[]⟩] 24)))
    have HD6 := Lib.hid (edAt_new w5 0 0 ⟨#[]⟩ 24)
    obtain ⟨fa1, fb1, fc1, _, _, _, fz1⟩ := HE6.out
    obtain ⟨fa2, fb2, fc2, _, _, _, fz2⟩ := HF6.out
    obtain ⟨fa3, fb3, fc3, _, _, _, fz3⟩ := HC6.out
    obtain ⟨fa4, fb4, fc4, _, _, _, fz4⟩ := HD6.out
    go_wp2_with fail
    go_ret
    exact ⟨rfl, HB6.out⟩
  have hf1 : fitsB s f t i = true := by rcases h : fitsB s f t i with _ | _ <;> simp_all
  have hf2 : fitsB (ap s f t i) g u j = true := by rcases h : fitsB (ap s f t i) g u j with _ | _ <;> simp_all
  obtain ⟨x, hx⟩ : ∃ x, ap s f t i = x := ⟨_, rfl⟩
  rw [hx] at hf2
  obtain ⟨y, hy⟩ : ∃ y, ap x g u j = y := ⟨_, rfl⟩
  obtain ⟨cf, ct, ci, hd⟩ := dif_mk s y
  have hvs := (fitsB_iff.mp hf1).1
  have hvy := tv_ap' hf2
  rw [hy] at hvy
  have HB := Lib.hid hf1
  have HX := Lib.hid hx
  have HC := Lib.hid hf2
  have HY := Lib.hid hy
  have HD := Lib.hid hd
  have HCF := Lib.hid (dif_fits hvs hvy hd)
  have HCA := Lib.hid (dif_ap hd)
  clear hn hf1 hf2 hx hy hd hvs hvy
  have HB1 := Lib.hid (HB0.out.alloc HB0.out.size (.cells #[.int .i64 f, .int .i64 t, .string i] 24))
  have HE1 := Lib.hid (edAt_new w0 f t i 24)
  have HB2 := Lib.hid (HB1.out.alloc HB1.out.size (.cells #[.int .i64 g, .int .i64 u, .string j] 24))
  have HE2 := Lib.hid (HE1.out.below ((Below.refl _ _).alloc (Nat.le_refl _) (.cells #[.int .i64 g, .int .i64 u, .string j] 24)))
  have HF2 := Lib.hid (by have h := edAt_new (w0.alloc (.cells #[.int .i64 f, .int .i64 t, .string i] 24)) g u j 24; rw [size_alloc1] at h; exact h)
  obtain ⟨fa1, fb1, fc1, _, _, _, fz1⟩ := HE2.out
  obtain ⟨fa2, fb2, fc2, _, _, _, fz2⟩ := HF2.out
  go_wp2_with fail
  go_at_call 23
  refine (compose_impl_at s f t i g u j x y cf ct ci HB.out HX.out HC.out HY.out HD.out HSL.out HIL.out HJL.out _).mono ?_
  rintro e w3 ⟨rfl, hb3⟩
  have HB3 := Lib.hid (HB2.out.trans (hb3.mono HB2.out.size))
  have HE3 := Lib.hid (HE2.out.below hb3)
  have HF3 := Lib.hid (HF2.out.below hb3)
  clear hb3
  clear fa1 fb1 fc1 fz1 fa2 fb2 fc2 fz2
  have HB4 := Lib.hid (HB3.out.alloc HB3.out.size (.cells #[.int .i64 cf, .int .i64 ct, .string ci] 24))
  have HE4 := Lib.hid (HE3.out.below ((Below.refl _ _).alloc (Nat.le_refl _) (.cells #[.int .i64 cf, .int .i64 ct, .string ci] 24)))
  have HF4 := Lib.hid (HF3.out.below ((Below.refl _ _).alloc (Nat.le_refl _) (.cells #[.int .i64 cf, .int .i64 ct, .string ci] 24)))
  have HC4 := Lib.hid (edAt_new w3 cf ct ci 24)
  obtain ⟨fa1, fb1, fc1, _, _, _, fz1⟩ := HE4.out
  obtain ⟨fa2, fb2, fc2, _, _, _, fz2⟩ := HF4.out
  obtain ⟨fa3, fb3, fc3, _, _, _, fz3⟩ := HC4.out
  go_wp2_with fail
  go_at_call 24
  refine (compose_spec_at s f t i g u j x y cf ct ci HB.out HX.out HC.out HY.out HD.out HSL.out HIL.out HJL.out _).mono ?_
  rintro e w5 ⟨rfl, hb5⟩
  have HB5 := Lib.hid (HB4.out.trans (hb5.mono HB4.out.size))
  have HE5 := Lib.hid (HE4.out.below hb5)
  have HF5 := Lib.hid (HF4.out.below hb5)
  have HC5 := Lib.hid (HC4.out.below hb5)
  clear hb5
  clear fa1 fb1 fc1 fz1 fa2 fb2 fc2 fz2 fa3 fb3 fc3 fz3
  have HB6 := Lib.hid (HB5.out.alloc HB5.out.size (.cells #[.int .i64 cf, .int .i64 ct, .string ci] 24))
  have HE6 := Lib.hid (HE5.out.below ((Below.refl _ _).alloc (Nat.le_refl _) (.cells #[.int .i64 cf, .int .i64 ct, .string ci] 24)))
  have HF6 := Lib.hid (HF5.out.below ((Below.refl _ _).alloc (Nat.le_refl _) (.cells #[.int .i64 cf, .int .i64 ct, .string ci] 24)))
  have HC6 := Lib.hid (HC5.out.below ((Below.refl _ _).alloc (Nat.le_refl _) (.cells #[.int .i64 cf, .int .i64 ct, .string ci] 24)))
  have HD6 := Lib.hid (edAt_new w5 cf ct ci 24)
  obtain ⟨fa1, fb1, fc1, _, _, _, fz1⟩ := HE6.out
  obtain ⟨fa2, fb2, fc2, _, _, _, fz2⟩ := HF6.out
  obtain ⟨fa3, fb3, fc3, _, _, _, fz3⟩ := HC6.out
  obtain ⟨fa4, fb4, fc4, _, _, _, fz4⟩ := HD6.out
  go_wp2_with fail
  go_at_call 15
  refine (applyEdit_impl_at s f t i x HB.out HX.out _).mono ?_
  rintro e w7 ⟨rfl, hb7⟩
  have HB7 := Lib.hid (HB6.out.trans (hb7.mono HB6.out.size))
  have HE7 := Lib.hid (HE6.out.below hb7)
  have HF7 := Lib.hid (HF6.out.below hb7)
  have HC7 := Lib.hid (HC6.out.below hb7)
  have HD7 := Lib.hid (HD6.out.below hb7)
  clear hb7
  clear fa1 fb1 fc1 fz1 fa2 fb2 fc2 fz2 fa3 fb3 fc3 fz3 fa4 fb4 fc4 fz4
  obtain ⟨fa1, fb1, fc1, _, _, _, fz1⟩ := HE7.out
  obtain ⟨fa2, fb2, fc2, _, _, _, fz2⟩ := HF7.out
  obtain ⟨fa3, fb3, fc3, _, _, _, fz3⟩ := HC7.out
  obtain ⟨fa4, fb4, fc4, _, _, _, fz4⟩ := HD7.out
  go_wp2_with fail
  go_at_call 15
  refine (applyEdit_impl_at x g u j y HC.out HY.out _).mono ?_
  rintro e w8 ⟨rfl, hb8⟩
  have HB8 := Lib.hid (HB7.out.trans (hb8.mono HB7.out.size))
  have HE8 := Lib.hid (HE7.out.below hb8)
  have HF8 := Lib.hid (HF7.out.below hb8)
  have HC8 := Lib.hid (HC7.out.below hb8)
  have HD8 := Lib.hid (HD7.out.below hb8)
  clear hb8
  clear fa1 fb1 fc1 fz1 fa2 fb2 fc2 fz2 fa3 fb3 fc3 fz3 fa4 fb4 fc4 fz4
  obtain ⟨fa1, fb1, fc1, _, _, _, fz1⟩ := HE8.out
  obtain ⟨fa2, fb2, fc2, _, _, _, fz2⟩ := HF8.out
  obtain ⟨fa3, fb3, fc3, _, _, _, fz3⟩ := HC8.out
  obtain ⟨fa4, fb4, fc4, _, _, _, fz4⟩ := HD8.out
  go_wp2_with fail
  go_at_call 15
  refine (applyEdit_impl_at s cf ct ci y HCF.out HCA.out _).mono ?_
  rintro e w9 ⟨rfl, hb9⟩
  have HB9 := Lib.hid (HB8.out.trans (hb9.mono HB8.out.size))
  have HE9 := Lib.hid (HE8.out.below hb9)
  have HF9 := Lib.hid (HF8.out.below hb9)
  have HC9 := Lib.hid (HC8.out.below hb9)
  have HD9 := Lib.hid (HD8.out.below hb9)
  clear hb9
  clear fa1 fb1 fc1 fz1 fa2 fb2 fc2 fz2 fa3 fb3 fc3 fz3 fa4 fb4 fc4 fz4
  obtain ⟨fa1, fb1, fc1, _, _, _, fz1⟩ := HE9.out
  obtain ⟨fa2, fb2, fc2, _, _, _, fz2⟩ := HF9.out
  obtain ⟨fa3, fb3, fc3, _, _, _, fz3⟩ := HC9.out
  obtain ⟨fa4, fb4, fc4, _, _, _, fz4⟩ := HD9.out
  go_wp2_with fail
  go_ret
  exact ⟨rfl, HB9.out⟩

set_option maxRecDepth 100000 in
theorem lifted (os : Os) (started : os.Started) (H : Type) (enc : TypeId × Value → H) :
    ReturnsInHanded {} Try.checked os 6 .any (Rows.fnComposeEditsSpec.pre6 enc Try.prog Try.f6 Rows.fnComposeEditsRow.domain false) (Rows.fnComposeEditsSpec.post enc Try.prog Try.f6 false true false false) := by
  refine returnsInHanded_of_change (C := Try.checked) own started (by kernel_rfl) Try.func6
    (ChangeSpec.witness6 (enc := enc) (C := Try.checked) false ⟨#[], #[.slice none 0 0], []⟩ 8 (by kernel_rfl) (by kernel_rfl) (by kernel_rfl) (by kernel_rfl)) ?_
  intro W base args ds gs before hval0 hW hcnd _
  have hval : ∀ (j : Nat) t v, Try.f6.params[j]? = some t → args[j]? = some v → Value.okWide Try.prog W .any base t v := hval0
  have hW' := hW
  obtain ⟨p, q, hA0, hV, rfl, hfz, hnd⟩ := hW
  have hA : DataW.TrodAll enc Try.prog W 0 (fun _ => true) true Try.f6.params.toList args.toList ds p := hA0
  rw [Try.params6] at hA hval
  obtain ⟨v0, vs0, d0, ds0, p0, q0, hargs, rfl, rfl, h0, r0⟩ := trodAll_cons hA
  obtain ⟨rfl, rfl, rfl⟩ := trodAll_nil r0
  obtain rfl : args = #[v0] := by cases args; simp_all
  obtain ⟨rfl, rfl⟩ := trodVars_none hV
  have k0 := h0
  have lt0 : ∀ x ∈ p0, x.block < W.heap.size := by obtain ⟨m, hm⟩ := k0; exact DataW.trod_lt m _ _ _ hm
  obtain ⟨a0, len0, cap0, rfl⟩ := okWide_slice Try.underlying22 (hval 0 22 v0 rfl rfl)
  obtain ⟨z0, w0⟩ : ∃ zs, IsRow W a0 len0 cap0 zs := by
    obtain ⟨fuel, hf⟩ := h0
    rcases open_ints Try.underlying22 Try.underlying5 (by kernel_rfl) hf with ⟨hcs, _⟩ | ⟨x, l, c, zs, hcs, _, hl, hm, hz, _, hcell, hwz⟩
    · simp [Value.cells] at hcs
      obtain ⟨rfl, rfl, rfl⟩ := hcs
      exact ⟨[], .inl ⟨rfl, rfl, rfl, rfl⟩⟩
    · simp [Value.cells] at hcs
      obtain ⟨rfl, rfl, rfl⟩ := hcs
      exact ⟨zs, .inr ⟨_, rfl, hl, hm, by simpa using hz, hcell, hwz⟩⟩
  clear hA0 hval0
  refine (walk a0 len0 cap0 z0 W w0).mono fun e W' ⟨he, bel⟩ => ?_
  subst he
  exact ⟨_, rfl, _, _, _, [], _, [], hW', trodAll_mk1 (shut_bool Try.underlying4 _), (trodAll_cons_mk (Below.trod laidOut (by kernel_rfl) (of_decide_eq_true (by kernel_rfl)) k0 bel lt0) trodAll_mk0), rfl, bel.frame _, fun h => by cases h⟩

theorem over : Rows.fnComposeEditsRow.holds Try.pinned (OpenSpec.ofChange Rows.fnComposeEditsSpec) :=
  OpenClaim.holds_of_wide 6 Try.f6 rfl rfl rfl rfl rfl rfl rfl ⟨rfl, rfl, rfl, rfl, rfl⟩ rfl rfl rfl rfl rfl (by kernel_rfl) Try.func6 (by kernel_rfl)
    (of_decide_eq_true (by kernel_rfl)) (by unfold Func.isWrapper; first | (rw [if_pos (by decide +kernel)]; kernel_rfl) | (rw [if_neg (by decide +kernel)]; exact ⟨rfl, rfl⟩))
    (fun os started H enc _ => lifted os started H enc)

/-- The given statement. -/
theorem proved : Rows.FnComposeEditsSaid := over
end Go.Proofs.Ythannbkkpocejaa.fnComposeEdits
