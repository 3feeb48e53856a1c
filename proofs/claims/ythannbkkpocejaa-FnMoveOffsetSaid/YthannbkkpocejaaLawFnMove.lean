/-
  FnMoveOffset returns true for every two slices of bytes, and they read as they did: offsets move. No conditions.
-/
import Derived.Test.YthannbkkpocejaaRows
import Derived.ProofKit
import Derived.OpenShut
import Derived.ShutString
import Derived.ChangeOld
import Derived.Below
import Derived.Lib.SmallJoins
import Derived.Test.YthannbkkpocejaaUf
import Derived.Test.YthannbkkpocejaaUe
import Derived.Test.YthannbkkpocejaaTk
import Derived.Deep.QuietTactic
import Derived.BigQuiet
namespace Go.Proofs.Ythannbkkpocejaa.fnMoveOffset
open Go.Proofs.Ythannbkkpocejaa
open Go.ChangeShapes Go.WideShapes Go.ChangeAt Go.RowKit Go.Joins
open Go.ChangeMaps (open_string shut_string)
set_option linter.unusedVariables false

theorem own : ownKnob Try.prog.godebug = none := by kernel_rfl
theorem laidOut : laidOutB Try.prog = true := by kernel_rfl

theorem applyEdit_impl_at (s : ByteArray) (f t : Int) (i y : ByteArray) (hb : fitsB s f t i = true) (hy : ap s f t i = y) (w : World) :
    Calls Try.prog 15 #[.string s, .agg #[.int .i64 f, .int .i64 t, .string i]] w fun e w' => e = .returned (.tuple #[.string y, .bool true]) ∧ Below w.heap.size w w' := by
  subst hy; exact applyEdit_impl_yes s f t i hb w
theorem moveOffset_spec_at (s : ByteArray) (f t : Int) (i : ByteArray) (n m : Int) (ok : Bool) (hq : mv s f t i n = (m, ok)) (hs : s.size ≤ maxLen) (hi : i.size ≤ maxLen) (w : World) :
    Calls Try.prog 27 #[.string s, .agg #[.int .i64 f, .int .i64 t, .string i], .int .i64 n] w fun e w' => e = .returned (.tuple #[.int .i64 m, .bool ok]) ∧ Below w.heap.size w w' := by
  have h := moveOffset_spec s f t i n hs hi w
  rwa [hq] at h
theorem moveOffset_impl_at (s : ByteArray) (f t : Int) (i : ByteArray) (n m : Int) (ok : Bool) (hq : mv s f t i n = (m, ok)) (hs : s.size ≤ maxLen) (hi : i.size ≤ maxLen) (w : World) :
    Calls Try.prog 26 #[.string s, .agg #[.int .i64 f, .int .i64 t, .string i], .int .i64 n] w fun e w' => e = .returned (.tuple #[.int .i64 m, .bool ok]) ∧ Below w.heap.size w w' := by
  have h := moveOffset_impl s f t i n hs hi w
  rwa [hq] at h
theorem mv_yes {s : ByteArray} {f t : Int} {i : ByteArray} {n v : Int} (h : mv s f t i n = (v, true)) : fitsB s f t i = true ∧ 0 ≤ n ∧ n ≤ s.size ∧ ((n < f ∧ v = n) ∨ (f ≤ n ∧ t ≤ n ∧ v = n - t + f + i.size)) := by
  unfold mv at h
  split at h
  · rename_i h1
    split at h
    · rename_i h2
      simp only [Prod.mk.injEq] at h
      exact ⟨h1.1, h1.2.1, h1.2.2, .inl ⟨h2, h.1.symm⟩⟩
    · rename_i h2
      split at h
      · rename_i h3
        simp only [Prod.mk.injEq] at h
        exact ⟨h1.1, h1.2.1, h1.2.2, .inr ⟨by omega, h3, h.1.symm⟩⟩
      · simp at h
  · simp at h
theorem get_opt (a : ByteArray) (k : Nat) (h : k < a.size) : a.data.toList[k]? = some a[k] := by
  rw [List.getElem?_eq_getElem (by simpa using h)]; rfl
theorem mv_byte {s : ByteArray} {f t : Int} {i : ByteArray} {n v : Int} (h : mv s f t i n = (v, true)) (hn : n < s.size) : 0 ≤ v ∧ v < (ap s f t i).size ∧ (ap s f t i).data.toList[v.toNat]? = s.data.toList[n.toNat]? := by
  obtain ⟨hf, h0, h1, hc⟩ := mv_yes h
  obtain ⟨_, _, g0, g1, g2, g3⟩ := fitsB_iff.mp hf
  have hz := ap_sz (i := i) g0 g1 g2
  have hl : f.toNat ≤ s.data.toList.length := by rw [sz_list]; omega
  have ht : (s.data.toList.take f.toNat).length = f.toNat := by rw [List.length_take]; omega
  rcases hc with ⟨c1, rfl⟩ | ⟨c1, c2, rfl⟩
  · refine ⟨h0, by omega, ?_⟩
    rw [ap_list', List.getElem?_append_left (by rw [ht]; omega), List.getElem?_take_of_lt (by omega)]
  · refine ⟨by omega, by omega, ?_⟩
    rw [ap_list', List.getElem?_append_right (by rw [ht]; omega), ht, List.getElem?_append_right (by rw [sz_list]; omega), sz_list, List.getElem?_drop]
    congr 1
    omega

set_option maxHeartbeats 16000000 in
theorem walk (a : Option Addr) (len cap : Nat) (zs : List Int) (a2 : Option Addr) (len2 cap2 : Nat) (zs2 : List Int) (w : World) (hrow : IsRow w a len cap zs) (hrow2 : IsRow w a2 len2 cap2 zs2) :
    Calls Try.prog 7 #[.slice a len cap, .slice a2 len2 cap2] w fun e w' => e = .returned (.bool true) ∧ Below w.heap.size w w' := by
  have HRow := Lib.hid hrow
  have hm := hrow.len
  have hm2 := hrow2.len
  unfold maxLen at hm hm2
  clear hrow hrow2
  by_cases hl : len ≤ 1048576
  case neg =>
    go_enter Try.func7, Try.ntmps7
    go_wp2
    go_ret
    exact ⟨rfl, Below.refl _ _⟩
  by_cases hl2 : len2 ≤ 1048576
  case neg =>
    go_enter Try.func7, Try.ntmps7
    go_wp2
    go_ret
    exact ⟨rfl, Below.refl _ _⟩
  go_enter Try.func7, Try.ntmps7
  go_wp2_with fail
  go_at_call 25
  refine (drawMoveOffset_any a len cap zs _ HRow.out).mono ?_
  rintro e w0 ⟨s, f, t, i, n, hs, hi, hn, rfl, hb0⟩
  have HB0 := Lib.hid hb0
  have HSL : Hid (s.size ≤ maxLen) := Lib.hid (by unfold maxLen; omega)
  have HIL : Hid (i.size ≤ maxLen) := Lib.hid (by unfold maxLen; omega)
  clear hb0 hn
  rcases hmv : mv s f t i n with ⟨v, _ | _⟩
  · have HM := Lib.hid hmv
    clear hmv
    have HB1 := Lib.hid (HB0.out.alloc HB0.out.size (.cells #[.int .i64 f, .int .i64 t, .string i] 24))
    have HE1 := Lib.hid (edAt_new w0 f t i 24)
    obtain ⟨fa1, fb1, fc1, _, _, _, fz1⟩ := HE1.out
    go_wp2_with fail
    go_at_call 26
    refine (moveOffset_impl_at s f t i n v _ HM.out HSL.out HIL.out _).mono ?_
    rintro e w2 ⟨rfl, hb2⟩
    have HB2 := Lib.hid (HB1.out.trans (hb2.mono HB1.out.size))
    have HE2 := Lib.hid (HE1.out.below hb2)
    clear hb2
    clear fa1 fb1 fc1 fz1
    obtain ⟨fa1, fb1, fc1, _, _, _, fz1⟩ := HE2.out
    go_wp2_with fail
    go_at_call 27
    refine (moveOffset_spec_at s f t i n v _ HM.out HSL.out HIL.out _).mono ?_
    rintro e w3 ⟨rfl, hb3⟩
    have HB3 := Lib.hid (HB2.out.trans (hb3.mono HB2.out.size))
    have HE3 := Lib.hid (HE2.out.below hb3)
    clear hb3
    clear fa1 fb1 fc1 fz1
    obtain ⟨fa1, fb1, fc1, _, _, _, fz1⟩ := HE3.out
    go_wp2_with fail
    go_ret
    exact ⟨rfl, HB3.out⟩
  have hy := mv_yes hmv
  obtain ⟨hfit, n0, n1, hcase⟩ := hy
  obtain ⟨x, hx⟩ : ∃ x, ap s f t i = x := ⟨_, rfl⟩
  obtain ⟨hv1, hv2, h0, h1, h2, h3⟩ := fitsB_iff.mp hfit
  have hz := ap_sz (i := i) h0 h1 h2
  have hbyte := fun hn => mv_byte hmv hn
  rw [hx] at hz hbyte
  have hsz := tv_size hv1
  obtain ⟨K, hK⟩ : ∃ K : Int, ((len2 % (s.size + 1) : Nat) : Int) = K := ⟨_, rfl⟩
  have f1 : (len2 : Int) % ((s.size : Int) + 1) = K := by rw [← hK]; push_cast; rfl
  have f2 : (len2 : Int).tmod ((s.size : Int) + 1) = K := by rw [Int.tmod_eq_emod_of_nonneg (by omega)]; exact f1
  have HM := Lib.hid hmv
  have HX := Lib.hid hx
  have HF := Lib.hid hfit
  clear hx hfit hv1 hv2 hK
  rcases hmk : mv s f t i K with ⟨m, fine⟩
  have HK := Lib.hid hmk
  have hord : fine = true → (K < n ∧ m < v) ∨ (n ≤ K ∧ v ≤ m) := by
    intro hf
    subst hf
    obtain ⟨_, k0, k1, kc⟩ := mv_yes hmk
    by_cases hkn : K < n
    · exact .inl ⟨hkn, by omega⟩
    · exact .inr ⟨by omega, by omega⟩
  have HO := Lib.hid hord
  have HCASE := Lib.hid hcase
  have HZ := Lib.hid hz
  have HBY := Lib.hid hbyte
  clear hmv hmk hord hcase hz hbyte
  by_cases hnend : n = s.size
  · have HN := Lib.hid hnend
    clear hnend
    rcases fine with _ | _
    · have HB1 := Lib.hid (HB0.out.alloc HB0.out.size (.cells #[.int .i64 f, .int .i64 t, .string i] 24))
      have HE1 := Lib.hid (edAt_new w0 f t i 24)
      obtain ⟨fa1, fb1, fc1, _, _, _, fz1⟩ := HE1.out
      go_wp2_with fail
      go_at_call 26
      refine (moveOffset_impl_at s f t i n v _ HM.out HSL.out HIL.out _).mono ?_
      rintro e w2 ⟨rfl, hb2⟩
      have HB2 := Lib.hid (HB1.out.trans (hb2.mono HB1.out.size))
      have HE2 := Lib.hid (HE1.out.below hb2)
      clear hb2
      clear fa1 fb1 fc1 fz1
      obtain ⟨fa1, fb1, fc1, _, _, _, fz1⟩ := HE2.out
      go_wp2_with fail
      go_at_call 27
      refine (moveOffset_spec_at s f t i n v _ HM.out HSL.out HIL.out _).mono ?_
      rintro e w3 ⟨rfl, hb3⟩
      have HB3 := Lib.hid (HB2.out.trans (hb3.mono HB2.out.size))
      have HE3 := Lib.hid (HE2.out.below hb3)
      clear hb3
      clear fa1 fb1 fc1 fz1
      obtain ⟨fa1, fb1, fc1, _, _, _, fz1⟩ := HE3.out
      go_wp2_with fail
      go_at_call 15
      refine (applyEdit_impl_at s f t i x HF.out HX.out _).mono ?_
      rintro e w4 ⟨rfl, hb4⟩
      have HB4 := Lib.hid (HB3.out.trans (hb4.mono HB3.out.size))
      have HE4 := Lib.hid (HE3.out.below hb4)
      clear hb4
      clear fa1 fb1 fc1 fz1
      obtain ⟨fa1, fb1, fc1, _, _, _, fz1⟩ := HE4.out
      go_wp2_with fail
      go_at_call 26
      refine (moveOffset_impl_at s f t i K m _ HK.out HSL.out HIL.out _).mono ?_
      rintro e w5 ⟨rfl, hb5⟩
      have HB5 := Lib.hid (HB4.out.trans (hb5.mono HB4.out.size))
      have HE5 := Lib.hid (HE4.out.below hb5)
      clear hb5
      clear fa1 fb1 fc1 fz1
      clear f1 f2
      have p1 : (n == (s.size : Int)) = true := by simpa using HN.out
      have p2 : (v == (x.size : Int)) = true := by
        have := HN.out
        have := HCASE.out
        have := HZ.out
        simp
        omega
      go_wp2_with fail
      go_quiet (fail)
      go_wp2_with fail
      go_ret
      exact ⟨rfl, below_drewN HB5.out _⟩
    · rcases HO.out rfl with ⟨o1, o2⟩ | ⟨o1, o2⟩
      · have HB1 := Lib.hid (HB0.out.alloc HB0.out.size (.cells #[.int .i64 f, .int .i64 t, .string i] 24))
        have HE1 := Lib.hid (edAt_new w0 f t i 24)
        obtain ⟨fa1, fb1, fc1, _, _, _, fz1⟩ := HE1.out
        go_wp2_with fail
        go_at_call 26
        refine (moveOffset_impl_at s f t i n v _ HM.out HSL.out HIL.out _).mono ?_
        rintro e w2 ⟨rfl, hb2⟩
        have HB2 := Lib.hid (HB1.out.trans (hb2.mono HB1.out.size))
        have HE2 := Lib.hid (HE1.out.below hb2)
        clear hb2
        clear fa1 fb1 fc1 fz1
        obtain ⟨fa1, fb1, fc1, _, _, _, fz1⟩ := HE2.out
        go_wp2_with fail
        go_at_call 27
        refine (moveOffset_spec_at s f t i n v _ HM.out HSL.out HIL.out _).mono ?_
        rintro e w3 ⟨rfl, hb3⟩
        have HB3 := Lib.hid (HB2.out.trans (hb3.mono HB2.out.size))
        have HE3 := Lib.hid (HE2.out.below hb3)
        clear hb3
        clear fa1 fb1 fc1 fz1
        obtain ⟨fa1, fb1, fc1, _, _, _, fz1⟩ := HE3.out
        go_wp2_with fail
        go_at_call 15
        refine (applyEdit_impl_at s f t i x HF.out HX.out _).mono ?_
        rintro e w4 ⟨rfl, hb4⟩
        have HB4 := Lib.hid (HB3.out.trans (hb4.mono HB3.out.size))
        have HE4 := Lib.hid (HE3.out.below hb4)
        clear hb4
        clear fa1 fb1 fc1 fz1
        obtain ⟨fa1, fb1, fc1, _, _, _, fz1⟩ := HE4.out
        go_wp2_with fail
        go_at_call 26
        refine (moveOffset_impl_at s f t i K m _ HK.out HSL.out HIL.out _).mono ?_
        rintro e w5 ⟨rfl, hb5⟩
        have HB5 := Lib.hid (HB4.out.trans (hb5.mono HB4.out.size))
        have HE5 := Lib.hid (HE4.out.below hb5)
        clear hb5
        clear fa1 fb1 fc1 fz1
        clear f1 f2
        have p1 : (n == (s.size : Int)) = true := by simpa using HN.out
        have p2 : (v == (x.size : Int)) = true := by
          have := HN.out
          have := HCASE.out
          have := HZ.out
          simp
          omega
        go_wp2_with fail
        go_quiet (fail)
        go_wp2_with fail
        go_ret
        exact ⟨rfl, below_drewN HB5.out _⟩
      · have HB1 := Lib.hid (HB0.out.alloc HB0.out.size (.cells #[.int .i64 f, .int .i64 t, .string i] 24))
        have HE1 := Lib.hid (edAt_new w0 f t i 24)
        obtain ⟨fa1, fb1, fc1, _, _, _, fz1⟩ := HE1.out
        go_wp2_with fail
        go_at_call 26
        refine (moveOffset_impl_at s f t i n v _ HM.out HSL.out HIL.out _).mono ?_
        rintro e w2 ⟨rfl, hb2⟩
        have HB2 := Lib.hid (HB1.out.trans (hb2.mono HB1.out.size))
        have HE2 := Lib.hid (HE1.out.below hb2)
        clear hb2
        clear fa1 fb1 fc1 fz1
        obtain ⟨fa1, fb1, fc1, _, _, _, fz1⟩ := HE2.out
        go_wp2_with fail
        go_at_call 27
        refine (moveOffset_spec_at s f t i n v _ HM.out HSL.out HIL.out _).mono ?_
        rintro e w3 ⟨rfl, hb3⟩
        have HB3 := Lib.hid (HB2.out.trans (hb3.mono HB2.out.size))
        have HE3 := Lib.hid (HE2.out.below hb3)
        clear hb3
        clear fa1 fb1 fc1 fz1
        obtain ⟨fa1, fb1, fc1, _, _, _, fz1⟩ := HE3.out
        go_wp2_with fail
        go_at_call 15
        refine (applyEdit_impl_at s f t i x HF.out HX.out _).mono ?_
        rintro e w4 ⟨rfl, hb4⟩
        have HB4 := Lib.hid (HB3.out.trans (hb4.mono HB3.out.size))
        have HE4 := Lib.hid (HE3.out.below hb4)
        clear hb4
        clear fa1 fb1 fc1 fz1
        obtain ⟨fa1, fb1, fc1, _, _, _, fz1⟩ := HE4.out
        go_wp2_with fail
        go_at_call 26
        refine (moveOffset_impl_at s f t i K m _ HK.out HSL.out HIL.out _).mono ?_
        rintro e w5 ⟨rfl, hb5⟩
        have HB5 := Lib.hid (HB4.out.trans (hb5.mono HB4.out.size))
        have HE5 := Lib.hid (HE4.out.below hb5)
        clear hb5
        clear fa1 fb1 fc1 fz1
        clear f1 f2
        have p1 : (n == (s.size : Int)) = true := by simpa using HN.out
        have p2 : (v == (x.size : Int)) = true := by
          have := HN.out
          have := HCASE.out
          have := HZ.out
          simp
          omega
        go_wp2_with fail
        go_quiet (fail)
        go_wp2_with fail
        go_ret
        exact ⟨ret_bool (by have a1 : ¬ K < n := (by omega); have a2 : ¬ m < v := (by omega); rw [decide_eq_false a1, decide_eq_false a2]; rfl), below_drewN HB5.out _⟩
  · have HN := Lib.hid hnend
    clear hnend
    rcases fine with _ | _
    · have HB1 := Lib.hid (HB0.out.alloc HB0.out.size (.cells #[.int .i64 f, .int .i64 t, .string i] 24))
      have HE1 := Lib.hid (edAt_new w0 f t i 24)
      obtain ⟨fa1, fb1, fc1, _, _, _, fz1⟩ := HE1.out
      go_wp2_with fail
      go_at_call 26
      refine (moveOffset_impl_at s f t i n v _ HM.out HSL.out HIL.out _).mono ?_
      rintro e w2 ⟨rfl, hb2⟩
      have HB2 := Lib.hid (HB1.out.trans (hb2.mono HB1.out.size))
      have HE2 := Lib.hid (HE1.out.below hb2)
      clear hb2
      clear fa1 fb1 fc1 fz1
      obtain ⟨fa1, fb1, fc1, _, _, _, fz1⟩ := HE2.out
      go_wp2_with fail
      go_at_call 27
      refine (moveOffset_spec_at s f t i n v _ HM.out HSL.out HIL.out _).mono ?_
      rintro e w3 ⟨rfl, hb3⟩
      have HB3 := Lib.hid (HB2.out.trans (hb3.mono HB2.out.size))
      have HE3 := Lib.hid (HE2.out.below hb3)
      clear hb3
      clear fa1 fb1 fc1 fz1
      obtain ⟨fa1, fb1, fc1, _, _, _, fz1⟩ := HE3.out
      go_wp2_with fail
      go_at_call 15
      refine (applyEdit_impl_at s f t i x HF.out HX.out _).mono ?_
      rintro e w4 ⟨rfl, hb4⟩
      have HB4 := Lib.hid (HB3.out.trans (hb4.mono HB3.out.size))
      have HE4 := Lib.hid (HE3.out.below hb4)
      clear hb4
      clear fa1 fb1 fc1 fz1
      obtain ⟨fa1, fb1, fc1, _, _, _, fz1⟩ := HE4.out
      go_wp2_with fail
      go_at_call 26
      refine (moveOffset_impl_at s f t i K m _ HK.out HSL.out HIL.out _).mono ?_
      rintro e w5 ⟨rfl, hb5⟩
      have HB5 := Lib.hid (HB4.out.trans (hb5.mono HB4.out.size))
      have HE5 := Lib.hid (HE4.out.below hb5)
      clear hb5
      clear fa1 fb1 fc1 fz1
      clear f1 f2
      have hlt : n < (s.size : Int) := by have := HN.out; omega
      have p1 : (n == (s.size : Int)) = false := by simpa using HN.out
      obtain ⟨v0, v1, hb⟩ := HBY.out hlt
      have ni : n.toNat < s.size := by omega
      have vi : v.toNat < x.size := by omega
      have p3 : ((s[n.toNat].toNat : Int) == (x[v.toNat].toNat : Int)) = true := by
        rw [get_opt _ _ vi, get_opt _ _ ni] at hb
        have hb2 := Option.some.inj hb
        rw [hb2]; simp
      clear hb
      go_wp2_with fail
      go_quiet (fail)
      go_wp2_with fail
      go_ret
      exact ⟨rfl, below_drewN HB5.out _⟩
    · rcases HO.out rfl with ⟨o1, o2⟩ | ⟨o1, o2⟩
      · have HB1 := Lib.hid (HB0.out.alloc HB0.out.size (.cells #[.int .i64 f, .int .i64 t, .string i] 24))
        have HE1 := Lib.hid (edAt_new w0 f t i 24)
        obtain ⟨fa1, fb1, fc1, _, _, _, fz1⟩ := HE1.out
        go_wp2_with fail
        go_at_call 26
        refine (moveOffset_impl_at s f t i n v _ HM.out HSL.out HIL.out _).mono ?_
        rintro e w2 ⟨rfl, hb2⟩
        have HB2 := Lib.hid (HB1.out.trans (hb2.mono HB1.out.size))
        have HE2 := Lib.hid (HE1.out.below hb2)
        clear hb2
        clear fa1 fb1 fc1 fz1
        obtain ⟨fa1, fb1, fc1, _, _, _, fz1⟩ := HE2.out
        go_wp2_with fail
        go_at_call 27
        refine (moveOffset_spec_at s f t i n v _ HM.out HSL.out HIL.out _).mono ?_
        rintro e w3 ⟨rfl, hb3⟩
        have HB3 := Lib.hid (HB2.out.trans (hb3.mono HB2.out.size))
        have HE3 := Lib.hid (HE2.out.below hb3)
        clear hb3
        clear fa1 fb1 fc1 fz1
        obtain ⟨fa1, fb1, fc1, _, _, _, fz1⟩ := HE3.out
        go_wp2_with fail
        go_at_call 15
        refine (applyEdit_impl_at s f t i x HF.out HX.out _).mono ?_
        rintro e w4 ⟨rfl, hb4⟩
        have HB4 := Lib.hid (HB3.out.trans (hb4.mono HB3.out.size))
        have HE4 := Lib.hid (HE3.out.below hb4)
        clear hb4
        clear fa1 fb1 fc1 fz1
        obtain ⟨fa1, fb1, fc1, _, _, _, fz1⟩ := HE4.out
        go_wp2_with fail
        go_at_call 26
        refine (moveOffset_impl_at s f t i K m _ HK.out HSL.out HIL.out _).mono ?_
        rintro e w5 ⟨rfl, hb5⟩
        have HB5 := Lib.hid (HB4.out.trans (hb5.mono HB4.out.size))
        have HE5 := Lib.hid (HE4.out.below hb5)
        clear hb5
        clear fa1 fb1 fc1 fz1
        clear f1 f2
        have hlt : n < (s.size : Int) := by have := HN.out; omega
        have p1 : (n == (s.size : Int)) = false := by simpa using HN.out
        obtain ⟨v0, v1, hb⟩ := HBY.out hlt
        have ni : n.toNat < s.size := by omega
        have vi : v.toNat < x.size := by omega
        have p3 : ((s[n.toNat].toNat : Int) == (x[v.toNat].toNat : Int)) = true := by
          rw [get_opt _ _ vi, get_opt _ _ ni] at hb
          have hb2 := Option.some.inj hb
          rw [hb2]; simp
        clear hb
        go_wp2_with fail
        go_quiet (fail)
        go_wp2_with fail
        go_ret
        exact ⟨rfl, below_drewN HB5.out _⟩
      · have HB1 := Lib.hid (HB0.out.alloc HB0.out.size (.cells #[.int .i64 f, .int .i64 t, .string i] 24))
        have HE1 := Lib.hid (edAt_new w0 f t i 24)
        obtain ⟨fa1, fb1, fc1, _, _, _, fz1⟩ := HE1.out
        go_wp2_with fail
        go_at_call 26
        refine (moveOffset_impl_at s f t i n v _ HM.out HSL.out HIL.out _).mono ?_
        rintro e w2 ⟨rfl, hb2⟩
        have HB2 := Lib.hid (HB1.out.trans (hb2.mono HB1.out.size))
        have HE2 := Lib.hid (HE1.out.below hb2)
        clear hb2
        clear fa1 fb1 fc1 fz1
        obtain ⟨fa1, fb1, fc1, _, _, _, fz1⟩ := HE2.out
        go_wp2_with fail
        go_at_call 27
        refine (moveOffset_spec_at s f t i n v _ HM.out HSL.out HIL.out _).mono ?_
        rintro e w3 ⟨rfl, hb3⟩
        have HB3 := Lib.hid (HB2.out.trans (hb3.mono HB2.out.size))
        have HE3 := Lib.hid (HE2.out.below hb3)
        clear hb3
        clear fa1 fb1 fc1 fz1
        obtain ⟨fa1, fb1, fc1, _, _, _, fz1⟩ := HE3.out
        go_wp2_with fail
        go_at_call 15
        refine (applyEdit_impl_at s f t i x HF.out HX.out _).mono ?_
        rintro e w4 ⟨rfl, hb4⟩
        have HB4 := Lib.hid (HB3.out.trans (hb4.mono HB3.out.size))
        have HE4 := Lib.hid (HE3.out.below hb4)
        clear hb4
        clear fa1 fb1 fc1 fz1
        obtain ⟨fa1, fb1, fc1, _, _, _, fz1⟩ := HE4.out
        go_wp2_with fail
        go_at_call 26
        refine (moveOffset_impl_at s f t i K m _ HK.out HSL.out HIL.out _).mono ?_
        rintro e w5 ⟨rfl, hb5⟩
        have HB5 := Lib.hid (HB4.out.trans (hb5.mono HB4.out.size))
        have HE5 := Lib.hid (HE4.out.below hb5)
        clear hb5
        clear fa1 fb1 fc1 fz1
        clear f1 f2
        have hlt : n < (s.size : Int) := by have := HN.out; omega
        have p1 : (n == (s.size : Int)) = false := by simpa using HN.out
        obtain ⟨v0, v1, hb⟩ := HBY.out hlt
        have ni : n.toNat < s.size := by omega
        have vi : v.toNat < x.size := by omega
        have p3 : ((s[n.toNat].toNat : Int) == (x[v.toNat].toNat : Int)) = true := by
          rw [get_opt _ _ vi, get_opt _ _ ni] at hb
          have hb2 := Option.some.inj hb
          rw [hb2]; simp
        clear hb
        go_wp2_with fail
        go_quiet (fail)
        go_wp2_with fail
        go_ret
        exact ⟨ret_bool (by have a1 : ¬ K < n := (by omega); have a2 : ¬ m < v := (by omega); rw [decide_eq_false a1, decide_eq_false a2]; rfl), below_drewN HB5.out _⟩

set_option maxRecDepth 100000 in
theorem lifted (os : Os) (started : os.Started) (H : Type) (enc : TypeId × Value → H) :
    ReturnsInHanded {} Try.checked os 7 .any (Rows.fnMoveOffsetSpec.pre6 enc Try.prog Try.f7 Rows.fnMoveOffsetRow.domain false) (Rows.fnMoveOffsetSpec.post enc Try.prog Try.f7 false true false false) := by
  refine returnsInHanded_of_change (C := Try.checked) own started (by kernel_rfl) Try.func7
    (ChangeSpec.witness6 (enc := enc) (C := Try.checked) false ⟨#[], #[.slice none 0 0, .slice none 0 0], []⟩ 8 (by kernel_rfl) (by kernel_rfl) (by kernel_rfl) (by kernel_rfl)) ?_
  intro W base args ds gs before hval0 hW hcnd _
  have hval : ∀ (j : Nat) t v, Try.f7.params[j]? = some t → args[j]? = some v → Value.okWide Try.prog W .any base t v := hval0
  have hW' := hW
  obtain ⟨p, q, hA0, hV, rfl, hfz, hnd⟩ := hW
  have hA : DataW.TrodAll enc Try.prog W 0 (fun _ => true) true Try.f7.params.toList args.toList ds p := hA0
  rw [Try.params7] at hA hval
  obtain ⟨v0, vs0, d0, ds0, p0, q0, hargs, rfl, rfl, h0, r0⟩ := trodAll_cons hA
  obtain ⟨v1, vs1, d1, ds1, p1, q1, rfl, rfl, rfl, h1, r1⟩ := trodAll_cons r0
  obtain ⟨rfl, rfl, rfl⟩ := trodAll_nil r1
  obtain rfl : args = #[v0, v1] := by cases args; simp_all
  obtain ⟨rfl, rfl⟩ := trodVars_none hV
  have k0 := h0
  have lt0 : ∀ x ∈ p0, x.block < W.heap.size := by obtain ⟨m, hm⟩ := k0; exact DataW.trod_lt m _ _ _ hm
  have k1 := h1
  have lt1 : ∀ x ∈ p1, x.block < W.heap.size := by obtain ⟨m, hm⟩ := k1; exact DataW.trod_lt m _ _ _ hm
  obtain ⟨a0, len0, cap0, rfl⟩ := okWide_slice Try.underlying22 (hval 0 22 v0 rfl rfl)
  obtain ⟨z0, w0⟩ : ∃ zs, IsRow W a0 len0 cap0 zs := by
    obtain ⟨fuel, hf⟩ := h0
    rcases open_ints Try.underlying22 Try.underlying5 (by kernel_rfl) hf with ⟨hcs, _⟩ | ⟨x, l, c, zs, hcs, _, hl, hm, hz, _, hcell, hwz⟩
    · simp [Value.cells] at hcs
      obtain ⟨rfl, rfl, rfl⟩ := hcs
      exact ⟨[], .inl ⟨rfl, rfl, rfl, rfl⟩⟩
    · simp [Value.cells] at hcs
      obtain ⟨rfl, rfl, rfl⟩ := hcs
      exact ⟨zs, .inr ⟨_, rfl, hl, hm, by simpa using hz, hcell, hwz⟩⟩
  obtain ⟨a1, len1, cap1, rfl⟩ := okWide_slice Try.underlying22 (hval 1 22 v1 rfl rfl)
  obtain ⟨z1, w1⟩ : ∃ zs, IsRow W a1 len1 cap1 zs := by
    obtain ⟨fuel, hf⟩ := h1
    rcases open_ints Try.underlying22 Try.underlying5 (by kernel_rfl) hf with ⟨hcs, _⟩ | ⟨x, l, c, zs, hcs, _, hl, hm, hz, _, hcell, hwz⟩
    · simp [Value.cells] at hcs
      obtain ⟨rfl, rfl, rfl⟩ := hcs
      exact ⟨[], .inl ⟨rfl, rfl, rfl, rfl⟩⟩
    · simp [Value.cells] at hcs
      obtain ⟨rfl, rfl, rfl⟩ := hcs
      exact ⟨zs, .inr ⟨_, rfl, hl, hm, by simpa using hz, hcell, hwz⟩⟩
  clear hA0 hval0
  refine (walk a0 len0 cap0 z0 a1 len1 cap1 z1 W w0 w1).mono fun e W' ⟨he, bel⟩ => ?_
  subst he
  exact ⟨_, rfl, _, _, _, [], _, [], hW', trodAll_mk1 (shut_bool Try.underlying4 _), (trodAll_cons_mk (Below.trod laidOut (by kernel_rfl) (of_decide_eq_true (by kernel_rfl)) k0 bel lt0) (trodAll_cons_mk (Below.trod laidOut (by kernel_rfl) (of_decide_eq_true (by kernel_rfl)) k1 bel lt1) trodAll_mk0)), rfl, bel.frame _, fun h => by cases h⟩

theorem over : Rows.fnMoveOffsetRow.holds Try.pinned (OpenSpec.ofChange Rows.fnMoveOffsetSpec) :=
  OpenClaim.holds_of_wide 7 Try.f7 rfl rfl rfl rfl rfl rfl rfl ⟨rfl, rfl, rfl, rfl, rfl⟩ rfl rfl rfl rfl rfl (by kernel_rfl) Try.func7 (by kernel_rfl)
    (of_decide_eq_true (by kernel_rfl)) (by unfold Func.isWrapper; first | (rw [if_pos (by decide +kernel)]; kernel_rfl) | (rw [if_neg (by decide +kernel)]; exact ⟨rfl, rfl⟩))
    (fun os started H enc _ => lifted os started H enc)

/-- The given statement. -/
theorem proved : Rows.FnMoveOffsetSaid := over
end Go.Proofs.Ythannbkkpocejaa.fnMoveOffset
