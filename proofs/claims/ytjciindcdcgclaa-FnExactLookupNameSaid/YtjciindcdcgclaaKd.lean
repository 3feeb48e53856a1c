/-
  Names with types that are valid: EnvValid of the model and of the program.
-/
import Derived.Test.YtjciindcdcgclaaKc
import Derived.Test.YtjciindcdcgclaaOa
import Derived.Test.YtjciindcdcgclaaZe
namespace Go.Proofs.Ytjciindcdcgclaa
open Go.RowKit
open Go.Proofs.Ytjciindcdcgclaa.Ox (oneB oneB_is oneB_no inB isValueName_any isFileName_any l3Small_any l3Big_any)
set_option linter.unusedVariables false
set_option linter.unusedSimpArgs false

theorem ret_b {a b : Bool} (h : a = b) : Ending.returned (.bool a) = .returned (.bool b) := by rw [h]
/-- The name of a file, a dot, the name of a value. -/
def fullB (s : ByteArray) : Bool := if h : s.size = 3 then oneB 65 90 (s.extract 0 1) && (decide ((((s[1]'(by omega)).toNat : Nat) : Int) = 46) && oneB 97 122 (s.extract 2 3)) else false
def nameB (s : ByteArray) : Bool := oneB 97 122 s || fullB s
set_option maxRecDepth 100000 in
set_option maxHeartbeats 2000000 in
theorem isFullName_any (s : ByteArray) (hz : s.size ≤ 9223372036854775807) (w : World) : Calls Try.prog 43 #[.string s] w fun e w' => e = .returned (.bool (fullB s)) ∧ w' = w := by
  by_cases hs : s.size = 3
  case neg =>
    have HF : Hid (fullB s = false) := Lib.hid (by unfold fullB; rw [dif_neg hs])
    have hs1 : ((s.size : Int) == 3) = false := by rw [beq_eq_false_iff_ne]; omega
    clear hs
    go_enter Try.func43, Try.ntmps43
    go_wp2_with fail
    go_ret
    exact ⟨ret_b HF.out.symm, rfl⟩
  have h1 : 1 < s.size := by omega
  have hs1 : ((s.size : Int) == 3) = true := by rw [beq_iff_eq]; omega
  obtain ⟨c, hc⟩ : ∃ c, (s[1]'h1).toNat = c := ⟨_, rfl⟩
  have HF0 : Hid (fullB s = (oneB 65 90 (s.extract 0 1) && (decide ((c : Int) = 46) && oneB 97 122 (s.extract 2 3)))) := Lib.hid (by unfold fullB; rw [dif_pos hs, ← hc])
  rcases ha : oneB 65 90 (s.extract 0 1) with _ | _
  · have HA := Lib.hid ha
    have HF : Hid (fullB s = false) := Lib.hid (by rw [HF0.out, ha]; rfl)
    clear ha
    go_enter Try.func43, Try.ntmps43
    go_wp2_with fail
    go_at_call 76
    refine (isFileName_any _ _).mono ?_
    rintro e w1 ⟨rfl, rfl⟩
    rw [HA.out]
    go_wp2_with fail
    go_ret
    exact ⟨ret_b HF.out.symm, rfl⟩
  have HA := Lib.hid ha
  by_cases hd : (c : Int) = 46
  case neg =>
    have hd2 : ((c : Int) == 46) = false := by simpa using hd
    have HF : Hid (fullB s = false) := Lib.hid (by rw [HF0.out, ha, decide_eq_false hd]; rfl)
    clear ha hd
    go_enter Try.func43, Try.ntmps43
    go_wp2_with fail
    go_at_call 76
    refine (isFileName_any _ _).mono ?_
    rintro e w1 ⟨rfl, rfl⟩
    rw [HA.out]
    go_wp2_with fail
    go_ret
    exact ⟨ret_b HF.out.symm, rfl⟩
  have hd2 : ((c : Int) == 46) = true := by simpa using hd
  rcases hb : oneB 97 122 (s.extract 2 3) with _ | _
  · have HB := Lib.hid hb
    have HF : Hid (fullB s = false) := Lib.hid (by rw [HF0.out, ha, decide_eq_true hd, hb]; rfl)
    clear ha hb hd
    go_enter Try.func43, Try.ntmps43
    go_wp2_with fail
    go_at_call 76
    refine (isFileName_any _ _).mono ?_
    rintro e w1 ⟨rfl, rfl⟩
    rw [HA.out]
    go_wp2_with fail
    go_at_call 42
    refine (isValueName_any _ _).mono ?_
    rintro e w1 ⟨rfl, rfl⟩
    rw [HB.out]
    go_wp2_with fail
    go_ret
    exact ⟨ret_b HF.out.symm, rfl⟩
  · have HB := Lib.hid hb
    have HF : Hid (fullB s = true) := Lib.hid (by rw [HF0.out, ha, decide_eq_true hd, hb]; rfl)
    clear ha hb hd
    go_enter Try.func43, Try.ntmps43
    go_wp2_with fail
    go_at_call 76
    refine (isFileName_any _ _).mono ?_
    rintro e w1 ⟨rfl, rfl⟩
    rw [HA.out]
    go_wp2_with fail
    go_at_call 42
    refine (isValueName_any _ _).mono ?_
    rintro e w1 ⟨rfl, rfl⟩
    rw [HB.out]
    go_wp2_with fail
    go_ret
    exact ⟨ret_b HF.out.symm, rfl⟩
set_option maxRecDepth 100000 in
set_option maxHeartbeats 2000000 in
theorem l4Name_any (s : ByteArray) (hz : s.size ≤ 9223372036854775807) (w : World) : Calls Try.prog 45 #[.string s] w fun e w' => e = .returned (.bool (nameB s)) ∧ w' = w := by
  rcases hv : oneB 97 122 s with _ | _
  case true =>
    have HV := Lib.hid hv
    have HR : Hid (nameB s = true) := Lib.hid (by unfold nameB; rw [hv]; rfl)
    clear hv
    go_enter Try.func45, Try.ntmps45
    go_wp2_with fail
    go_at_call 78
    refine (l3Small_any _ _).mono ?_
    rintro e w1 ⟨rfl, rfl⟩
    rw [HV.out]
    go_wp2_with fail
    go_ret
    exact ⟨ret_b HR.out.symm, rfl⟩
  have HV := Lib.hid hv
  have HR : Hid (nameB s = fullB s) := Lib.hid (by unfold nameB; rw [hv]; rfl)
  clear hv
  by_cases hs : s.size = 3
  case neg =>
    have HF : Hid (fullB s = false) := Lib.hid (by unfold fullB; rw [dif_neg hs])
    have hs1 : ((s.size : Int) == 3) = false := by rw [beq_eq_false_iff_ne]; omega
    clear hs
    go_enter Try.func45, Try.ntmps45
    go_wp2_with fail
    go_at_call 78
    refine (l3Small_any _ _).mono ?_
    rintro e w1 ⟨rfl, rfl⟩
    rw [HV.out]
    go_wp2_with fail
    go_ret
    exact ⟨ret_b (by rw [HR.out, HF.out]), rfl⟩
  have h1 : 1 < s.size := by omega
  have hs1 : ((s.size : Int) == 3) = true := by rw [beq_iff_eq]; omega
  obtain ⟨c, hc⟩ : ∃ c, (s[1]'h1).toNat = c := ⟨_, rfl⟩
  have HF0 : Hid (fullB s = (oneB 65 90 (s.extract 0 1) && (decide ((c : Int) = 46) && oneB 97 122 (s.extract 2 3)))) := Lib.hid (by unfold fullB; rw [dif_pos hs, ← hc])
  rcases ha : oneB 65 90 (s.extract 0 1) with _ | _
  · have HA := Lib.hid ha
    have HF : Hid (fullB s = false) := Lib.hid (by rw [HF0.out, ha]; rfl)
    clear ha
    go_enter Try.func45, Try.ntmps45
    go_wp2_with fail
    go_at_call 78
    refine (l3Small_any _ _).mono ?_
    rintro e w1 ⟨rfl, rfl⟩
    rw [HV.out]
    go_wp2_with fail
    go_at_call 79
    refine (l3Big_any _ _).mono ?_
    rintro e w1 ⟨rfl, rfl⟩
    rw [HA.out]
    go_wp2_with fail
    go_ret
    exact ⟨ret_b (by rw [HR.out, HF.out]), rfl⟩
  have HA := Lib.hid ha
  by_cases hd : (c : Int) = 46
  case neg =>
    have hd2 : ((c : Int) == 46) = false := by simpa using hd
    have HF : Hid (fullB s = false) := Lib.hid (by rw [HF0.out, ha, decide_eq_false hd]; rfl)
    clear ha hd
    go_enter Try.func45, Try.ntmps45
    go_wp2_with fail
    go_at_call 78
    refine (l3Small_any _ _).mono ?_
    rintro e w1 ⟨rfl, rfl⟩
    rw [HV.out]
    go_wp2_with fail
    go_at_call 79
    refine (l3Big_any _ _).mono ?_
    rintro e w1 ⟨rfl, rfl⟩
    rw [HA.out]
    go_wp2_with fail
    go_ret
    exact ⟨ret_b (by rw [HR.out, HF.out]), rfl⟩
  have hd2 : ((c : Int) == 46) = true := by simpa using hd
  rcases hb : oneB 97 122 (s.extract 2 3) with _ | _
  · have HB := Lib.hid hb
    have HF : Hid (fullB s = false) := Lib.hid (by rw [HF0.out, ha, decide_eq_true hd, hb]; rfl)
    clear ha hb hd
    go_enter Try.func45, Try.ntmps45
    go_wp2_with fail
    go_at_call 78
    refine (l3Small_any _ _).mono ?_
    rintro e w1 ⟨rfl, rfl⟩
    rw [HV.out]
    go_wp2_with fail
    go_at_call 79
    refine (l3Big_any _ _).mono ?_
    rintro e w1 ⟨rfl, rfl⟩
    rw [HA.out]
    go_wp2_with fail
    go_at_call 78
    refine (l3Small_any _ _).mono ?_
    rintro e w1 ⟨rfl, rfl⟩
    rw [HB.out]
    go_wp2_with fail
    go_ret
    exact ⟨ret_b (by rw [HR.out, HF.out]), rfl⟩
  · have HB := Lib.hid hb
    have HF : Hid (fullB s = true) := Lib.hid (by rw [HF0.out, ha, decide_eq_true hd, hb]; rfl)
    clear ha hb hd
    go_enter Try.func45, Try.ntmps45
    go_wp2_with fail
    go_at_call 78
    refine (l3Small_any _ _).mono ?_
    rintro e w1 ⟨rfl, rfl⟩
    rw [HV.out]
    go_wp2_with fail
    go_at_call 79
    refine (l3Big_any _ _).mono ?_
    rintro e w1 ⟨rfl, rfl⟩
    rw [HA.out]
    go_wp2_with fail
    go_at_call 78
    refine (l3Small_any _ _).mono ?_
    rintro e w1 ⟨rfl, rfl⟩
    rw [HB.out]
    go_wp2_with fail
    go_ret
    exact ⟨ret_b (by rw [HR.out, HF.out]), rfl⟩

/-- Whether an element is valid; whether a list is. -/
def okK (x : Kn) : Bool := nameB x.s && tvT x.t
def envB (ls : List Kn) : Bool := decide (ls.length ≤ 60) && (List.range ls.length).all fun i => okK (ls.getD i Kn.dummy)
theorem envB_long {ls : List Kn} (h : ¬ ls.length ≤ 60) : envB ls = false := by unfold envB; rw [decide_eq_false h]; rfl
theorem envB_bad {ls : List Kn} {i : Nat} (hi : i < ls.length) (h : okK (ls.getD i Kn.dummy) = false) : envB ls = false := by
  rcases e : envB ls with _ | _
  · rfl
  · unfold envB at e
    rw [Bool.and_eq_true, List.all_eq_true] at e
    have := e.2 i (List.mem_range.2 hi)
    rw [h] at this; cases this
theorem envB_good {ls : List Kn} (h : ls.length ≤ 60) (ha : ∀ i, i < ls.length → okK (ls.getD i Kn.dummy) = true) : envB ls = true := by
  unfold envB
  rw [decide_eq_true h, Bool.true_and, List.all_eq_true]
  exact fun i hi => ha i (List.mem_range.1 hi)
theorem envB_all {ls : List Kn} (h : envB ls = true) : ls.length ≤ 60 ∧ ∀ i, i < ls.length → okK (ls.getD i Kn.dummy) = true := by
  unfold envB at h
  rw [Bool.and_eq_true, List.all_eq_true] at h
  exact ⟨of_decide_eq_true h.1, fun i hi => h.2 i (List.mem_range.2 hi)⟩
/-- Names are no longer than a length can say. -/
def KnSz (ls : List Kn) : Prop := ∀ i, i < ls.length → (ls.getD i Kn.dummy).s.size ≤ maxLen

set_option maxRecDepth 100000 in
set_option maxHeartbeats 4000000 in
theorem envValid_spec (ls : List Kn) (v : Value) (w : World) (hz : KnSz ls) (hx : KnAt w ls v) :
    Calls Try.prog 12 #[v] w fun e w' => e = .returned (.bool (envB ls)) ∧ Below w.heap.size w w' := by
  have HX := Lib.hid hx
  have HZ := Lib.hid hz
  obtain ⟨a, cap, rfl, hlen⟩ := hx.slice
  obtain ⟨L, hL⟩ : ∃ L, ls.length = L := ⟨_, rfl⟩
  have HL := Lib.hid hL
  rw [hL] at hlen ⊢
  clear hx hz hL
  go_enter Try.func12, Try.ntmps12
  go_wp2_with fail
  go_loopw [3] (fun i wr => ∃ j : Nat, j ≤ L ∧ j ≤ 61 ∧ i = .int .i64 j ∧ Hid (∀ q, q < j → okK (ls.getD q Kn.dummy) = true) ∧ Below w.heap.size w wr) (fun i _ => L - (intOf i).toNat)
  case atStart => exact ⟨0, Nat.zero_le _, Nat.zero_le _, rfl, Lib.hid (fun q hq => absurd hq (Nat.not_lt_zero _)), Below.refl _ _⟩
  case round =>
    obtain ⟨j, hj, hj61, rfl, hpre, hB⟩ := hrel
    have HB := Lib.hid hB
    clear hB
    by_cases hlt : j < L
    · have hji : (j : Int) < (L : Int) := by omega
      by_cases h60 : j ≤ 60
      · have hj60 : (j : Int) ≤ 60 := by omega
        have hjl : j < ls.length := by rw [HL.out]; exact hlt
        obtain ⟨b, o, cap2, vi, ex, bl, ⟨x0, x1, x2, x3⟩, hkid⟩ := (HX.out.kept HB.out).kid j hjl
        have ex1 : a = some ⟨b, o, none⟩ := by injection ex
        subst ex1
        clear ex
        have hsz := HZ.out j hjl
        unfold maxLen at hsz
        have HJL := Lib.hid hjl
        obtain ⟨x, hxx⟩ : ∃ x, ls.getD j Kn.dummy = x := ⟨_, rfl⟩
        have HXX := Lib.hid hxx
        rw [hxx] at x0 x1 x2 hkid hsz
        have HKID := Lib.hid hkid
        obtain ⟨ti, tc, rfl, _⟩ := hkid.slice
        have hs2 : x.s.size ≤ 9223372036854775807 := by omega
        clear hjl hxx hkid hsz
        rcases hn : nameB x.s with _ | _
        · have HN := Lib.hid hn
          have HR : Hid (envB ls = false) := Lib.hid (envB_bad HJL.out (by rw [HXX.out]; unfold okK; rw [hn]; rfl))
          clear hn
          go_wp2_with fail
          go_at_call 45
          refine (l4Name_any x.s hs2 _).mono ?_
          rintro e w1 ⟨rfl, rfl⟩
          rw [HN.out]
          go_wp2_with fail
          go_ret
          exact ⟨ret_b HR.out.symm, HB.out⟩
        have HN := Lib.hid hn
        rcases ht : tvT x.t with _ | _
        · have HT := Lib.hid ht
          have HR : Hid (envB ls = false) := Lib.hid (envB_bad HJL.out (by rw [HXX.out]; unfold okK; rw [hn, ht]; rfl))
          clear hn ht
          go_wp2_with fail
          go_at_call 45
          refine (l4Name_any x.s hs2 _).mono ?_
          rintro e w1 ⟨rfl, rfl⟩
          rw [HN.out]
          go_wp2_with fail
          go_at_call 46
          refine (typeValid_spec x.t _ _ HKID.out).mono ?_
          rintro e w2 ⟨rfl, hb2⟩
          rw [HT.out]
          have HB2 := Lib.hid (HB.out.trans (hb2.mono HB.out.size))
          clear hb2
          go_wp2_with fail
          go_ret
          exact ⟨ret_b HR.out.symm, HB2.out⟩
        · have HT := Lib.hid ht
          have HPRE : Hid (∀ q, q < j + 1 → okK (ls.getD q Kn.dummy) = true) := Lib.hid (fun q hq => by
            by_cases e : q = j
            · rw [e, HXX.out]; unfold okK; rw [hn, ht]; rfl
            · exact hpre.out q (by omega))
          clear hn ht
          go_wp2_with fail
          go_at_call 45
          refine (l4Name_any x.s hs2 _).mono ?_
          rintro e w1 ⟨rfl, rfl⟩
          rw [HN.out]
          go_wp2_with fail
          go_at_call 46
          refine (typeValid_spec x.t _ _ HKID.out).mono ?_
          rintro e w2 ⟨rfl, hb2⟩
          rw [HT.out]
          have HB2 := Lib.hid (HB.out.trans (hb2.mono HB.out.size))
          clear hb2
          go_wp2_with fail
          go_roundw
          case rel => exact ⟨j + 1, by omega, by omega, by go_num, HPRE, HB2.out⟩
          case measure => simp [intOf]; omega
      · have hj60 : ¬ (j : Int) ≤ 60 := by omega
        have hL60 : ¬ (L : Int) ≤ 60 := by omega
        have HR : Hid (envB ls = false) := Lib.hid (envB_long (by rw [HL.out]; omega))
        clear h60
        go_wp2_with fail
        go_ret
        exact ⟨ret_b HR.out.symm, HB.out⟩
    · have hji : ¬ (j : Int) < (L : Int) := by omega
      have hjl : j = L := by omega
      by_cases hL6 : L ≤ 60
      · have hL60 : (L : Int) ≤ 60 := by omega
        have HR : Hid (envB ls = true) := Lib.hid (envB_good (by rw [HL.out]; exact hL6) (fun i hi => hpre.out i (by rw [HL.out] at hi; omega)))
        clear hlt hjl hL6
        go_wp2_with fail
        go_ret
        exact ⟨ret_b HR.out.symm, HB.out⟩
      · have hL60 : ¬ (L : Int) ≤ 60 := by omega
        have HR : Hid (envB ls = false) := Lib.hid (envB_long (by rw [HL.out]; exact hL6))
        clear hlt hjl hL6
        go_wp2_with fail
        go_ret
        exact ⟨ret_b HR.out.symm, HB.out⟩

set_option maxRecDepth 100000 in
set_option maxHeartbeats 4000000 in
theorem envValid_impl (ls : List Kn) (v : Value) (w : World) (hz : KnSz ls) (hx : KnAt w ls v) :
    Calls Try.prog 11 #[v] w fun e w' => e = .returned (.bool (envB ls)) ∧ Below w.heap.size w w' := by
  have HX := Lib.hid hx
  have HZ := Lib.hid hz
  obtain ⟨a, cap, rfl, hlen⟩ := hx.slice
  obtain ⟨L, hL⟩ : ∃ L, ls.length = L := ⟨_, rfl⟩
  have HL := Lib.hid hL
  rw [hL] at hlen ⊢
  clear hx hz hL
  by_cases hL6 : L ≤ 60
  case neg =>
    have hg : (L : Int) > 60 := by omega
    have HR : Hid (envB ls = false) := Lib.hid (envB_long (by rw [HL.out]; exact hL6))
    clear hL6
    go_enter Try.func11, Try.ntmps11
    go_wp2_with fail
    go_ret
    exact ⟨ret_b HR.out.symm, Below.refl _ _⟩
  have hg : ¬ (L : Int) > 60 := by omega
  have hg2 : ¬ 60 < (L : Int) := by omega
  go_enter Try.func11, Try.ntmps11
  go_wp2_with fail
  go_loopw [10] (fun i wr => ∃ j : Nat, j ≤ L ∧ i = .int .i64 j ∧ Hid (∀ q, q < j → okK (ls.getD q Kn.dummy) = true) ∧ Below w.heap.size w wr) (fun i _ => L - (intOf i).toNat)
  case atStart => exact ⟨0, Nat.zero_le _, rfl, Lib.hid (fun q hq => absurd hq (Nat.not_lt_zero _)), Below.refl _ _⟩
  case round =>
    obtain ⟨j, hj, rfl, hpre, hB⟩ := hrel
    have HB := Lib.hid hB
    clear hB
    by_cases hlt : j < L
    · have hji : (j : Int) < (L : Int) := by omega
      have hjl : j < ls.length := by rw [HL.out]; exact hlt
      obtain ⟨b, o, cap2, vi, ex, bl, ⟨x0, x1, x2, x3⟩, hkid⟩ := (HX.out.kept HB.out).kid j hjl
      have ex1 : a = some ⟨b, o, none⟩ := by injection ex
      subst ex1
      clear ex
      have hsz := HZ.out j hjl
      unfold maxLen at hsz
      have HJL := Lib.hid hjl
      obtain ⟨x, hxx⟩ : ∃ x, ls.getD j Kn.dummy = x := ⟨_, rfl⟩
      have HXX := Lib.hid hxx
      rw [hxx] at x0 x1 x2 hkid hsz
      have HKID := Lib.hid hkid
      obtain ⟨ti, tc, rfl, _⟩ := hkid.slice
      have hs2 : x.s.size ≤ 9223372036854775807 := by omega
      clear hjl hxx hkid hsz
      obtain ⟨W1, hW1⟩ : ∃ W, wr.alloc (.cells #[.string x.s, .int .i64 x.t.k, .int .i64 x.t.n, .slice ti x.t.ks.length tc] 34) = W := ⟨_, rfl⟩
      have HA1 : Hid (Below wr.heap.size wr W1) := Lib.hid (by rw [← hW1]; exact (Below.refl _ _).alloc (Nat.le_refl _) _)
      have HB1 := Lib.hid (HB.out.trans (HA1.out.mono HB.out.size))
      have HK1 : Hid (KBox W1 wr.heap.size (.string x.s) (.int .i64 x.t.k) (.int .i64 x.t.n) (.slice ti x.t.ks.length tc)) := Lib.hid (by rw [← hW1]; exact kbox_new wr _ _ _ _ _)
      have HW1 := Lib.hid hW1
      clear hW1
      rcases hn : oneB 97 122 x.s with _ | _
      · have HN := Lib.hid hn
        rcases hf : fullB x.s with _ | _
        · have HFU := Lib.hid hf
          have HR : Hid (envB ls = false) := Lib.hid (envB_bad HJL.out (by rw [HXX.out]; unfold okK nameB; rw [hn, hf]; rfl))
          clear hn hf
          go_wp2_with fail
          rw [HW1.out]
          obtain ⟨b0, b1, b2, b3, bz⟩ := HK1.out
          go_wp2_with fail
          go_at_call 42
          refine (isValueName_any x.s _).mono ?_
          rintro e w1 ⟨rfl, rfl⟩
          rw [HN.out]
          go_wp2_with fail
          go_at_call 43
          refine (isFullName_any x.s hs2 _).mono ?_
          rintro e w1 ⟨rfl, rfl⟩
          rw [HFU.out]
          go_wp2_with fail
          go_ret
          exact ⟨ret_b HR.out.symm, HB1.out⟩
        have HFU := Lib.hid hf
        rcases ht : tvT x.t with _ | _
        · have HT := Lib.hid ht
          have HR : Hid (envB ls = false) := Lib.hid (envB_bad HJL.out (by rw [HXX.out]; unfold okK; rw [ht, Bool.and_false]))
          clear hn hf ht
          go_wp2_with fail
          rw [HW1.out]
          obtain ⟨b0, b1, b2, b3, bz⟩ := HK1.out
          go_wp2_with fail
          go_at_call 42
          refine (isValueName_any x.s _).mono ?_
          rintro e w1 ⟨rfl, rfl⟩
          rw [HN.out]
          go_wp2_with fail
          go_at_call 43
          refine (isFullName_any x.s hs2 _).mono ?_
          rintro e w1 ⟨rfl, rfl⟩
          rw [HFU.out]
          go_wp2_with fail
          go_at_call 44
          refine (typeValid_impl x.t _ _ (HKID.out.kept HA1.out)).mono ?_
          rintro e w2 ⟨rfl, hb2⟩
          rw [HT.out]
          have HB2 := Lib.hid (HB1.out.trans (hb2.mono HB1.out.size))
          clear hb2 b0 b1 b2 b3 bz
          go_wp2_with fail
          go_ret
          exact ⟨ret_b HR.out.symm, HB2.out⟩
        · have HT := Lib.hid ht
          have HPRE : Hid (∀ q, q < j + 1 → okK (ls.getD q Kn.dummy) = true) := Lib.hid (fun q hq => by
            by_cases e : q = j
            · rw [e, HXX.out]; unfold okK nameB; rw [hn, hf, ht]; rfl
            · exact hpre.out q (by omega))
          clear hn hf ht
          go_wp2_with fail
          rw [HW1.out]
          obtain ⟨b0, b1, b2, b3, bz⟩ := HK1.out
          go_wp2_with fail
          go_at_call 42
          refine (isValueName_any x.s _).mono ?_
          rintro e w1 ⟨rfl, rfl⟩
          rw [HN.out]
          go_wp2_with fail
          go_at_call 43
          refine (isFullName_any x.s hs2 _).mono ?_
          rintro e w1 ⟨rfl, rfl⟩
          rw [HFU.out]
          go_wp2_with fail
          go_at_call 44
          refine (typeValid_impl x.t _ _ (HKID.out.kept HA1.out)).mono ?_
          rintro e w2 ⟨rfl, hb2⟩
          rw [HT.out]
          have HB2 := Lib.hid (HB1.out.trans (hb2.mono HB1.out.size))
          clear hb2 b0 b1 b2 b3 bz
          go_wp2_with fail
          go_roundw
          case rel => exact ⟨j + 1, by omega, by go_num, HPRE, HB2.out⟩
          case measure => simp [intOf]; omega
      · have HN := Lib.hid hn
        rcases ht : tvT x.t with _ | _
        · have HT := Lib.hid ht
          have HR : Hid (envB ls = false) := Lib.hid (envB_bad HJL.out (by rw [HXX.out]; unfold okK; rw [ht, Bool.and_false]))
          clear hn ht
          go_wp2_with fail
          rw [HW1.out]
          obtain ⟨b0, b1, b2, b3, bz⟩ := HK1.out
          go_wp2_with fail
          go_at_call 42
          refine (isValueName_any x.s _).mono ?_
          rintro e w1 ⟨rfl, rfl⟩
          rw [HN.out]
          go_wp2_with fail
          go_at_call 44
          refine (typeValid_impl x.t _ _ (HKID.out.kept HA1.out)).mono ?_
          rintro e w2 ⟨rfl, hb2⟩
          rw [HT.out]
          have HB2 := Lib.hid (HB1.out.trans (hb2.mono HB1.out.size))
          clear hb2 b0 b1 b2 b3 bz
          go_wp2_with fail
          go_ret
          exact ⟨ret_b HR.out.symm, HB2.out⟩
        · have HT := Lib.hid ht
          have HPRE : Hid (∀ q, q < j + 1 → okK (ls.getD q Kn.dummy) = true) := Lib.hid (fun q hq => by
            by_cases e : q = j
            · rw [e, HXX.out]; unfold okK nameB; rw [hn, ht]; rfl
            · exact hpre.out q (by omega))
          clear hn ht
          go_wp2_with fail
          rw [HW1.out]
          obtain ⟨b0, b1, b2, b3, bz⟩ := HK1.out
          go_wp2_with fail
          go_at_call 42
          refine (isValueName_any x.s _).mono ?_
          rintro e w1 ⟨rfl, rfl⟩
          rw [HN.out]
          go_wp2_with fail
          go_at_call 44
          refine (typeValid_impl x.t _ _ (HKID.out.kept HA1.out)).mono ?_
          rintro e w2 ⟨rfl, hb2⟩
          rw [HT.out]
          have HB2 := Lib.hid (HB1.out.trans (hb2.mono HB1.out.size))
          clear hb2 b0 b1 b2 b3 bz
          go_wp2_with fail
          go_roundw
          case rel => exact ⟨j + 1, by omega, by go_num, HPRE, HB2.out⟩
          case measure => simp [intOf]; omega
    · have hji : ¬ (j : Int) < (L : Int) := by omega
      have hjl : j = L := by omega
      have HR : Hid (envB ls = true) := Lib.hid (envB_good (by rw [HL.out]; exact hL6) (fun i hi => hpre.out i (by rw [HL.out] at hi; omega)))
      clear hlt hjl
      go_wp2_with fail
      go_ret
      exact ⟨ret_b HR.out.symm, HB.out⟩

end Go.Proofs.Ytjciindcdcgclaa
