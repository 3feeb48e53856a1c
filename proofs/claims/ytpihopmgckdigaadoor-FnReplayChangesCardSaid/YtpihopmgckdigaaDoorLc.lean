/-
  isFileText of the program; l5Text, l5Find and FilesValid of the model: for every list of files in memory; what was in memory stays.
-/
import Derived.Test.YtpihopmgckdigaaDoorLa
import Derived.Test.YtpihopmgckdigaaDoorOa
import Derived.Test.YtpihopmgckdigaaDoorVf
import Derived.Test.YtpihopmgckdigaaDoorVa
import Derived.BigQuiet
import Derived.Deep.DeepCutAuto
namespace Go.Proofs.YtpihopmgckdigaaDoor
open Go.RowKit
set_option linter.unusedVariables false
set_option linter.unusedSimpArgs false

/-- The text of a file. -/
def ftB (s : ByteArray) : Bool := tv s && decide ((cut s 10).length ≤ 40)
theorem ft_no {s : ByteArray} (h : tv s = false) : ftB s = false := by unfold ftB; rw [h]; rfl
theorem ft_is {s : ByteArray} (h : tv s = true) : ftB s = decide ((cut s 10).length ≤ 40) := by unfold ftB; rw [h]; rfl
theorem ret_bl {a b : Bool} (h : a = b) : Ending.returned (.bool a) = .returned (.bool b) := by rw [h]
theorem dec_int (n : Nat) : decide ((n : Int) ≤ 40) = decide (n ≤ 40) := by simp only [decide_eq_decide]; omega
theorem own_slice {W : World} {n0 sz n : Nat} {e : TypeId} {v : Value} {xs : List Value} (h : W.ownsRow n0 e sz v n xs) : ∃ a cap, v = .slice a n cap := owns_slice h
set_option maxRecDepth 100000 in
set_option maxHeartbeats 1000000 in
theorem isFileText_any (s : ByteArray) (hs : s.size ≤ maxLen) (w : World) : Calls Tryd.prog 53 #[.string s] w fun e w' => e = .returned (.bool (ftB s)) ∧ Below w.heap.size w w' := by
  have HS := Lib.hid hs
  obtain ⟨b, hb⟩ : ∃ b, tv s = b := ⟨_, rfl⟩
  have HB := Lib.hid hb
  clear hs hb
  cases b with
  | false =>
    have HR := Lib.hid (ft_no HB.out)
    go_enter Tryd.func53, Tryd.ntmps53
    go_wp2_with fail
    go_at_call 79
    refine (textValid_impl s false HB.out HS.out _).mono ?_
    rintro e w1 ⟨rfl, rfl⟩
    go_wp2_with fail
    go_ret
    exact ⟨ret_bl HR.out.symm, Below.refl _ _⟩
  | true =>
    have HR := Lib.hid (ft_is HB.out)
    obtain ⟨n, hn⟩ : ∃ n, (cut s 10).length = n := ⟨_, rfl⟩
    have HN := Lib.hid hn
    go_enter Tryd.func53, Tryd.ntmps53
    go_wp2_with fail
    go_at_call 79
    refine (textValid_impl s true HB.out HS.out _).mono ?_
    rintro e w1 ⟨rfl, rfl⟩
    go_wp2_with fail
    go_at_call 80
    refine (linesOf_yes s HB.out _).mono ?_
    rintro e w2 ⟨v, rfl, hrow, hb2⟩
    obtain ⟨a, cap, rfl⟩ := own_slice hrow
    rw [hn]
    have HB2 := Lib.hid hb2
    clear hrow hb2 hn
    have hR2 : Hid (ftB s = decide (n ≤ 40)) := Lib.hid (by rw [HR.out, HN.out])
    go_wp2_with fail
    go_ret
    exact ⟨ret_bl ((dec_int n).trans hR2.out.symm), HB2.out⟩
set_option maxRecDepth 100000 in
set_option maxHeartbeats 1000000 in
theorem l5Text_any (s : ByteArray) (hs : s.size ≤ maxLen) (w : World) : Calls Tryd.prog 44 #[.string s] w fun e w' => e = .returned (.bool (ftB s)) ∧ Below w.heap.size w w' := by
  have HS := Lib.hid hs
  obtain ⟨b, hb⟩ : ∃ b, tv s = b := ⟨_, rfl⟩
  have HB := Lib.hid hb
  clear hs hb
  cases b with
  | false =>
    have HR := Lib.hid (ft_no HB.out)
    go_enter Tryd.func44, Tryd.ntmps44
    go_wp2_with fail
    go_at_call 69
    refine (textValid_spec s false HB.out HS.out _).mono ?_
    rintro e w1 ⟨rfl, rfl⟩
    go_wp2_with fail
    go_ret
    exact ⟨ret_bl HR.out.symm, Below.refl _ _⟩
  | true =>
    have HR := Lib.hid (ft_is HB.out)
    obtain ⟨n, hn⟩ : ∃ n, (cut s 10).length = n := ⟨_, rfl⟩
    have HN := Lib.hid hn
    have HS2 : Hid (s.size ≤ 1000000) := Lib.hid (by have := tv_size HB.out; omega)
    go_enter Tryd.func44, Tryd.ntmps44
    go_wp2_with fail
    go_at_call 69
    refine (textValid_spec s true HB.out HS.out _).mono ?_
    rintro e w1 ⟨rfl, rfl⟩
    go_wp2_with fail
    go_at_call 70
    refine (l16Cut_any s 10 HS2.out _).mono ?_
    rintro e w2 ⟨v, rfl, hrow, hb2⟩
    obtain ⟨a, cap, rfl⟩ := own_slice hrow
    rw [hn]
    have HB2 := Lib.hid hb2
    clear hrow hb2 hn
    have hR2 : Hid (ftB s = decide (n ≤ 40)) := Lib.hid (by rw [HR.out, HN.out])
    go_wp2_with fail
    go_ret
    exact ⟨ret_bl ((dec_int n).trans hR2.out.symm), HB2.out⟩
/-- Where a name is first found. -/
def FdR (ls : List Fl) (s : ByteArray) (r : Int) : Prop := (r = -1 ∧ ∀ i, i < ls.length → ¬ (ls.getD i Fl.dummy).n.toList = s.toList) ∨ ∃ k : Nat, k < ls.length ∧ r = k ∧ (ls.getD k Fl.dummy).n.toList = s.toList ∧ ∀ i, i < k → ¬ (ls.getD i Fl.dummy).n.toList = s.toList
set_option maxRecDepth 100000 in
set_option maxHeartbeats 1000000 in
theorem l5Find_any (ls : List Fl) (hl : ls.length ≤ 2000000) (v : Value) (s : ByteArray) (w : World) (h : FsAt w ls v) :
    Calls Tryd.prog 45 #[v, .string s] w fun e w' => ∃ r, e = .returned (.int .i64 r) ∧ FdR ls s r ∧ w' = w := by
  have H := Lib.hid h
  obtain ⟨a, c, rfl, _⟩ := h.slice
  clear h
  obtain ⟨L, hL⟩ : ∃ L, ls.length = L := ⟨_, rfl⟩
  have HL := Lib.hid hL
  rw [hL] at hl ⊢
  clear hL
  go_enter Tryd.func45, Tryd.ntmps45
  go_wp2_with fail
  go_loopw [5] (fun i wr => ∃ k : Nat, k ≤ L ∧ i = .int .i64 k ∧ wr = w ∧ Hid (∀ i, i < k → ¬ (ls.getD i Fl.dummy).n.toList = s.toList)) (fun i _ => L - (intOf i).toNat)
  case atStart => exact ⟨0, Nat.zero_le _, rfl, rfl, Lib.hid (fun i hi => absurd hi (Nat.not_lt_zero _))⟩
  case round =>
    obtain ⟨k, hk, rfl, rfl, hpre⟩ := hrel
    by_cases hlt : k < L
    · obtain ⟨b1, o1, d1, e1, l1, ⟨x0, x1⟩⟩ := H.out.kid k (by rw [HL.out]; exact hlt)
      have f1 : a = some ⟨b1, o1, none⟩ := by injection e1
      subst f1
      clear e1
      have hki : (k : Int) < (L : Int) := by omega
      obtain ⟨y, hy⟩ : ∃ y, ls.getD k Fl.dummy = y := ⟨_, rfl⟩
      have HY := Lib.hid hy
      rw [hy] at x0 x1
      clear hy
      by_cases hs : y.n.toList = s.toList
      · have hsb : (y.n.toList == s.toList) = true := by rw [beq_iff_eq]; exact hs
        have hR := Lib.hid (show FdR ls s k from .inr ⟨k, by rw [HL.out]; exact hlt, rfl, by rw [HY.out]; exact hs, hpre.out⟩)
        clear hpre hs
        go_wp2_with fail
        go_ret
        exact ⟨_, rfl, hR.out, rfl⟩
      · have hsb : (y.n.toList == s.toList) = false := by rw [beq_eq_false_iff_ne]; exact hs
        have HP : Hid (∀ i, i < k + 1 → ¬ (ls.getD i Fl.dummy).n.toList = s.toList) := Lib.hid (fun i hi => by
          rcases Nat.lt_or_ge i k with h | h
          · exact hpre.out i h
          · have hij : i = k := by omega
            rw [hij, HY.out]; exact hs)
        clear hpre hs
        go_wp2_with fail
        go_roundw
        case rel => exact ⟨k + 1, by omega, by go_num, by first | rfl | trivial, HP⟩
        case measure => simp [intOf]; omega
    · have hki : ¬ (k : Int) < (L : Int) := by omega
      have hR := Lib.hid (show FdR ls s (-1) from .inl ⟨rfl, fun i hi => hpre.out i (by rw [HL.out] at hi; omega)⟩)
      clear hpre hlt
      go_wp2_with fail
      go_ret
      exact ⟨_, rfl, hR.out, rfl⟩

theorem fdR_uniq {ls : List Fl} {s : ByteArray} {r q : Int} (h : FdR ls s r) (g : FdR ls s q) : r = q := by
  rcases h with ⟨rfl, h1⟩ | ⟨k, hk, rfl, h1, h2⟩
  · rcases g with ⟨rfl, _⟩ | ⟨j, hj, rfl, g1, _⟩
    · rfl
    · exact absurd g1 (h1 j hj)
  · rcases g with ⟨rfl, g1⟩ | ⟨j, hj, rfl, g1, g2⟩
    · exact absurd h1 (g1 k hk)
    · rcases Nat.lt_trichotomy k j with h | h | h
      · exact absurd h1 (g2 k h)
      · rw [h]
      · exact absurd g1 (h2 j h)
theorem fdR_ex (ls : List Fl) (s : ByteArray) : ∃ r, FdR ls s r := by
  by_cases hk : ls.findIdx (fun y => decide (y.n.toList = s.toList)) < ls.length
  · refine ⟨_, .inr ⟨_, hk, rfl, ?_, fun i hi => ?_⟩⟩
    · have := List.findIdx_getElem (xs := ls) (p := fun y => decide (y.n.toList = s.toList)) (w := hk)
      simpa [List.getD, hk] using this
    · have := List.not_of_lt_findIdx hi
      have hil : i < ls.length := by omega
      simpa [List.getD, hil] using this
  · refine ⟨-1, .inl ⟨rfl, fun i hi => ?_⟩⟩
    have h1 : ls.findIdx (fun y => decide (y.n.toList = s.toList)) = ls.length := Nat.le_antisymm List.findIdx_le_length (by omega)
    have h2 := List.findIdx_eq_length.1 h1 ls[i] (List.getElem_mem hi)
    simpa [List.getD, hi] using h2
theorem l5Find_at (ls : List Fl) (hl : ls.length ≤ 2000000) (v : Value) (s : ByteArray) (r : Int) (hr : FdR ls s r) (w : World) (h : FsAt w ls v) :
    Calls Tryd.prog 45 #[v, .string s] w fun e w' => e = .returned (.int .i64 r) ∧ w' = w := by
  refine (l5Find_any ls hl v s w h).mono ?_
  rintro e w' ⟨q, rfl, hq, rfl⟩
  exact ⟨by rw [fdR_uniq hq hr], rfl⟩
theorem l3Big_at (s : ByteArray) (b : Bool) (hb : Ox.oneB 65 90 s = b) (w : World) : Calls Tryd.prog 50 #[.string s] w fun e w' => e = .returned (.bool b) ∧ w' = w := by
  rw [← hb]; exact Ox.l3Big_any s w
theorem l5Text_at (s : ByteArray) (b : Bool) (hb : ftB s = b) (hs : s.size ≤ maxLen) (w : World) : Calls Tryd.prog 44 #[.string s] w fun e w' => e = .returned (.bool b) ∧ Below w.heap.size w w' := by
  rw [← hb]; exact l5Text_any s hs w
theorem wp_region_quiet_litF {P : Program} {C : World → Prop} {id : Nat} {Q : Exit → Act → World → Prop} {a : Act} {w : World} {l : List Oper} (hm : P.follows .mixedOrders = true) (hB : Region.lexB .any l.toArray = true) (hC : C w.drew)
    (h : wpQuiet P l.toArray C (fun a' => ∀ w', C w' → Q .normal a' w') l a) : (Code.region id l.toArray true).wp P Q a w :=
  wp_region_quiet (C := C) hm hB hC (by simpa using h)
/-- A file that is right beside those before it. -/
def okF (ls : List Fl) (i : Nat) : Bool := Ox.oneB 65 90 (ls.getD i Fl.dummy).n && (!((List.range i).any fun j => decide ((ls.getD j Fl.dummy).n.toList = (ls.getD i Fl.dummy).n.toList)) && ftB (ls.getD i Fl.dummy).t)
/-- A list of files that is valid. -/
def filesB (ls : List Fl) : Bool := decide (ls.length ≤ 4) && (List.range ls.length).all (okF ls)
theorem filesB_no {ls : List Fl} {i : Nat} (hi : i < ls.length) (h : okF ls i = false) : filesB ls = false := by
  rcases hc : filesB ls with _ | _
  · rfl
  · unfold filesB at hc
    simp only [Bool.and_eq_true, List.all_eq_true, List.mem_range] at hc
    rw [hc.2 i hi] at h; cases h
theorem filesB_long {ls : List Fl} (h : 4 < ls.length) : filesB ls = false := by
  unfold filesB; rw [decide_eq_false (by omega)]; rfl
theorem filesB_is {ls : List Fl} (h : ∀ i, i < ls.length → okF ls i = true) : filesB ls = decide (ls.length ≤ 4) := by
  unfold filesB
  have : (List.range ls.length).all (okF ls) = true := by simp only [List.all_eq_true, List.mem_range]; exact h
  rw [this, Bool.and_true]
theorem okF_no1 {ls : List Fl} {i : Nat} {y : Fl} (hy : ls.getD i Fl.dummy = y) (h : Ox.oneB 65 90 y.n = false) : okF ls i = false := by unfold okF; rw [hy, h]; rfl
theorem okF_no2 {ls : List Fl} {i : Nat} {y : Fl} (hy : ls.getD i Fl.dummy = y) {k : Nat} (hk : k < i) (h : (ls.getD k Fl.dummy).n.toList = y.n.toList) : okF ls i = false := by
  have : ((List.range i).any fun j => decide ((ls.getD j Fl.dummy).n.toList = (ls.getD i Fl.dummy).n.toList)) = true := by
    rw [List.any_eq_true]; exact ⟨k, List.mem_range.2 hk, by rw [hy]; exact decide_eq_true h⟩
  unfold okF; rw [this]; simp
theorem okF_is {ls : List Fl} {i : Nat} {y : Fl} (hy : ls.getD i Fl.dummy = y) (h1 : Ox.oneB 65 90 y.n = true) (h2 : ∀ k, k < i → ¬ (ls.getD k Fl.dummy).n.toList = y.n.toList) : okF ls i = ftB y.t := by
  have : ((List.range i).any fun j => decide ((ls.getD j Fl.dummy).n.toList = (ls.getD i Fl.dummy).n.toList)) = false := by
    rw [List.any_eq_false]; intro j hj; rw [hy]; simpa using h2 j (List.mem_range.1 hj)
  unfold okF; rw [this, hy, h1]; rfl
theorem take_getD {ls : List Fl} {k i : Nat} (h : i < k) : (ls.take k).getD i Fl.dummy = ls.getD i Fl.dummy := by simp [List.getD, List.getElem?_take, h]
theorem FsAt.take {w : World} {ls : List Fl} {b o L cap : Nat} (h : FsAt w ls (.slice (some ⟨b, o, none⟩) L cap)) (k cap2 : Nat) (hk : k ≤ ls.length) : FsAt w (ls.take k) (.slice (some ⟨b, o, none⟩) k cap2) := by
  by_cases h0 : k = 0
  · subst h0; exact .bare _ _
  have hl : (ls.take k).length = k := by rw [List.length_take]; omega
  obtain ⟨b', o', cap', e, hb, _⟩ := h.kid 0 (by omega)
  obtain ⟨rfl, rfl⟩ : b = b' ∧ o = o' := by injection e with h1 h2 h3; injection h1 with h4; injection h4 with h5 h6; exact ⟨h5, h6⟩
  have h2 := h.slice
  obtain ⟨_, _, _, hlen⟩ := h2
  have := FsAt.row (w := w) (ls.take k) b o cap2 hb (by rw [hl]; omega) (fun i hi => by
    rw [hl] at hi
    rw [take_getD hi]
    obtain ⟨b', o', cap', e, _, hf⟩ := h.kid i (by omega)
    obtain ⟨rfl, rfl⟩ : b = b' ∧ o = o' := by injection e with h1 h2 h3; injection h1 with h4; injection h4 with h5 h6; exact ⟨h5, h6⟩
    exact hf)
  rwa [hl] at this
set_option maxRecDepth 100000 in
set_option maxHeartbeats 4000000 in
theorem filesValid_spec (ls : List Fl) (a : Option Addr) (cap : Nat) (w : World) (hl : ls.length ≤ 2000000) (hcap : ls.length ≤ cap) (hcm : cap ≤ 9223372036854775807) (hz : FlSz ls) (h : FsAt w ls (.slice a ls.length cap)) :
    Calls Tryd.prog 27 #[.slice a ls.length cap] w fun e w' => e = .returned (.bool (filesB ls)) ∧ Below w.heap.size w w' := by
  have H := Lib.hid h
  have HZ : Hid (FlSz ls) := Lib.hid hz
  clear h hz
  obtain ⟨L, hL⟩ : ∃ L, ls.length = L := ⟨_, rfl⟩
  have HL := Lib.hid hL
  rw [hL] at hl hcap H ⊢
  clear hL
  go_enter Tryd.func27, Tryd.ntmps27
  go_wp2_with fail
  go_loopw [3] (fun i wr => ∃ k : Nat, k ≤ L ∧ k ≤ 5 ∧ i = .int .i64 k ∧ Hid (∀ i, i < k → okF ls i = true) ∧ Hid (Below w.heap.size w wr)) (fun i _ => L - (intOf i).toNat)
  case atStart => exact ⟨0, Nat.zero_le _, by omega, rfl, Lib.hid (fun i hi => absurd hi (Nat.not_lt_zero _)), Lib.hid (Below.refl _ _)⟩
  case round =>
    obtain ⟨k, hk, hk5, rfl, hpre, HB⟩ := hrel
    by_cases hlt : k < L ∧ k ≤ 4
    · obtain ⟨hlt, hk4⟩ := hlt
      obtain ⟨b1, o1, d1, e1, l1, ⟨x0, x1⟩⟩ := (H.out.kept HB.out).kid k (by rw [HL.out]; exact hlt)
      have f1 : a = some ⟨b1, o1, none⟩ := by injection e1
      subst f1
      clear e1
      have hki : (k : Int) < (L : Int) := by omega
      have hki4 : (k : Int) ≤ 4 := by omega
      have hkc : k ≤ cap := by omega
      have hkc2 : (k : Int) ≤ (cap : Int) := by omega
      obtain ⟨y, hy⟩ : ∃ y, ls.getD k Fl.dummy = y := ⟨_, rfl⟩
      have HY := Lib.hid hy
      have HZY : Hid (y.t.size ≤ maxLen) := Lib.hid (by rw [← hy]; exact (HZ.out k (by rw [HL.out]; exact hlt)).2)
      have HT := Lib.hid ((H.out.kept HB.out).take k (cap) (by rw [HL.out]; omega))
      have HT2 := Lib.hid (fun c => (H.out.kept HB.out).take k c (by rw [HL.out]; omega))
      have HKL : Hid (k < ls.length) := Lib.hid (by rw [HL.out]; exact hlt)
      rw [hy] at x0 x1
      obtain ⟨b, hb⟩ : ∃ b, Ox.oneB 65 90 y.n = b := ⟨_, rfl⟩
      have HBN := Lib.hid hb
      clear hy hb
      obtain ⟨r, hr⟩ := fdR_ex (ls.take k) y.n
      have HFR : Hid (FdR (ls.take k) y.n r) := Lib.hid hr
      have HTL : Hid ((ls.take k).length ≤ 2000000) := Lib.hid (by rw [List.length_take]; have := HL.out; omega)
      have HTD : Hid (∀ c, FsAt wr.drew (ls.take k) (.slice (some ⟨b1, o1, none⟩) k c)) := Lib.hid (fun c => (HT2.out c).kept (Below.refl _ _).drew)
      clear hr
      cases b with
      | false =>
        have HR := Lib.hid (filesB_no HKL.out (okF_no1 HY.out HBN.out))
        go_wp2_with fail
        go_cut [41] (fun p wx => p = .bool true ∧ Hid (Below w.heap.size w wx))
        case first =>
          refine wp_region_quiet_litF (C := fun w' => Below w.heap.size w w' ∧ w'.cell? ⟨b1, o1 + k * 2, none⟩ = some (.string y.n) ∧ w'.cell? ⟨b1, o1 + k * 2 + 1, none⟩ = some (.string y.t) ∧ (∀ c, FsAt w' (ls.take k) (.slice (some ⟨b1, o1, none⟩) k c)) ∧ wr.heap.size ≤ w'.heap.size) (by kernel_rfl) (by kernel_rfl) ⟨HB.out.drew, x0, x1, HTD.out, Nat.le_refl _⟩ ?_
          iterate 28 (first | go_big_quiet_skip | (go_big_quiet_want; first | (go_big_quiet_op; go_big_quiet_on) | (apply Exists.intro; refine ⟨fun w' hC => ?_, ?_⟩; (obtain ⟨cB, c0, c1, cF, cX⟩ := hC; go_simp; first | done | rfl | exact ⟨rfl, rfl⟩ | (go_at_call 50; refine (l3Big_at y.n _ HBN.out _).mono ?_; rintro e w3 ⟨rfl, rfl⟩; exact ⟨rfl, cB, c0, c1, cF, cX⟩) | (go_at_call 45; refine (l5Find_at (ls.take k) HTL.out _ y.n _ HFR.out _ (cF _)).mono ?_; rintro e w3 ⟨rfl, rfl⟩; exact ⟨rfl, cB, c0, c1, cF, cX⟩) | (go_at_call 44; refine (l5Text_at y.t _ HFB.out HZY.out _).mono ?_; rintro e w3 ⟨rfl, hb3⟩; exact ⟨rfl, cB.trans (hb3.mono cB.size), (hb3.cell (Nat.lt_of_lt_of_le l1 cX)).trans c0, (hb3.cell (Nat.lt_of_lt_of_le l1 cX)).trans c1, fun c => (cF c).kept hb3, Nat.le_trans cX hb3.size⟩)); (simp only [Act.put, List.setIfInBounds_toArray, List.set_cons_zero, List.set_cons_succ]); go_big_quiet_on)))
          refine wpQuiet_nil ?_
          intro w3 hC
          go_wp2_with fail
          go_meet
          exact ⟨by first | rfl | exact congrArg Value.bool (decide_eq_true (by omega)), Lib.hid hC.1⟩
        case rest =>
          obtain ⟨rfl, HBc⟩ := hcut
          go_wp2_with fail
          go_ret
          exact ⟨ret_bl HR.out.symm, HBc.out⟩
      | true =>
        by_cases hr0 : r ≥ 0
        · have HR : Hid (filesB ls = false) := Lib.hid (by
            rcases HFR.out with ⟨rfl, _⟩ | ⟨j, hj, rfl, he, _⟩
            · omega
            · rw [List.length_take] at hj
              rw [take_getD (by omega)] at he
              exact filesB_no HKL.out (okF_no2 HY.out (by omega) he))
          go_wp2_with fail
          go_cut [41] (fun p wx => p = .bool true ∧ Hid (Below w.heap.size w wx))
          case first =>
            refine wp_region_quiet_litF (C := fun w' => Below w.heap.size w w' ∧ w'.cell? ⟨b1, o1 + k * 2, none⟩ = some (.string y.n) ∧ w'.cell? ⟨b1, o1 + k * 2 + 1, none⟩ = some (.string y.t) ∧ (∀ c, FsAt w' (ls.take k) (.slice (some ⟨b1, o1, none⟩) k c)) ∧ wr.heap.size ≤ w'.heap.size) (by kernel_rfl) (by kernel_rfl) ⟨HB.out.drew, x0, x1, HTD.out, Nat.le_refl _⟩ ?_
            iterate 28 (first | go_big_quiet_skip | (go_big_quiet_want; first | (go_big_quiet_op; go_big_quiet_on) | (apply Exists.intro; refine ⟨fun w' hC => ?_, ?_⟩; (obtain ⟨cB, c0, c1, cF, cX⟩ := hC; go_simp; first | done | rfl | exact ⟨rfl, rfl⟩ | (go_at_call 50; refine (l3Big_at y.n _ HBN.out _).mono ?_; rintro e w3 ⟨rfl, rfl⟩; exact ⟨rfl, cB, c0, c1, cF, cX⟩) | (go_at_call 45; refine (l5Find_at (ls.take k) HTL.out _ y.n _ HFR.out _ (cF _)).mono ?_; rintro e w3 ⟨rfl, rfl⟩; exact ⟨rfl, cB, c0, c1, cF, cX⟩) | (go_at_call 44; refine (l5Text_at y.t _ HFB.out HZY.out _).mono ?_; rintro e w3 ⟨rfl, hb3⟩; exact ⟨rfl, cB.trans (hb3.mono cB.size), (hb3.cell (Nat.lt_of_lt_of_le l1 cX)).trans c0, (hb3.cell (Nat.lt_of_lt_of_le l1 cX)).trans c1, fun c => (cF c).kept hb3, Nat.le_trans cX hb3.size⟩)); (simp only [Act.put, List.setIfInBounds_toArray, List.set_cons_zero, List.set_cons_succ]); go_big_quiet_on)))
            refine wpQuiet_nil ?_
            intro w3 hC
            go_wp2_with fail
            go_meet
            exact ⟨by first | rfl | exact congrArg Value.bool (decide_eq_true (by omega)), Lib.hid hC.1⟩
          case rest =>
            obtain ⟨rfl, HBc⟩ := hcut
            go_wp2_with fail
            go_ret
            exact ⟨ret_bl HR.out.symm, HBc.out⟩
        · have HOK : Hid (okF ls k = ftB y.t) := Lib.hid (by
            rcases HFR.out with ⟨_, hn⟩ | ⟨j, _, rfl, _⟩
            · refine okF_is HY.out HBN.out (fun j hj => ?_)
              have h1 := hn j (by rw [List.length_take]; have := HKL.out; omega)
              rw [take_getD hj] at h1; exact h1
            · omega)
          obtain rfl : r = -1 := by
            rcases HFR.out with ⟨h, _⟩ | ⟨j, _, rfl, _⟩
            · exact h
            · omega
          obtain ⟨b, hb⟩ : ∃ b, ftB y.t = b := ⟨_, rfl⟩
          have HFB := Lib.hid hb
          rw [hb] at HOK
          clear hb hr0
          cases b with
          | false =>
            have HR := Lib.hid (filesB_no HKL.out HOK.out)
            go_wp2_with fail
            go_cut [41] (fun p wx => p = .bool true ∧ Hid (Below w.heap.size w wx))
            case first =>
              refine wp_region_quiet_litF (C := fun w' => Below w.heap.size w w' ∧ w'.cell? ⟨b1, o1 + k * 2, none⟩ = some (.string y.n) ∧ w'.cell? ⟨b1, o1 + k * 2 + 1, none⟩ = some (.string y.t) ∧ (∀ c, FsAt w' (ls.take k) (.slice (some ⟨b1, o1, none⟩) k c)) ∧ wr.heap.size ≤ w'.heap.size) (by kernel_rfl) (by kernel_rfl) ⟨HB.out.drew, x0, x1, HTD.out, Nat.le_refl _⟩ ?_
              iterate 28 (first | go_big_quiet_skip | (go_big_quiet_want; first | (go_big_quiet_op; go_big_quiet_on) | (apply Exists.intro; refine ⟨fun w' hC => ?_, ?_⟩; (obtain ⟨cB, c0, c1, cF, cX⟩ := hC; go_simp; first | done | rfl | exact ⟨rfl, rfl⟩ | (go_at_call 50; refine (l3Big_at y.n _ HBN.out _).mono ?_; rintro e w3 ⟨rfl, rfl⟩; exact ⟨rfl, cB, c0, c1, cF, cX⟩) | (go_at_call 45; refine (l5Find_at (ls.take k) HTL.out _ y.n _ HFR.out _ (cF _)).mono ?_; rintro e w3 ⟨rfl, rfl⟩; exact ⟨rfl, cB, c0, c1, cF, cX⟩) | (go_at_call 44; refine (l5Text_at y.t _ HFB.out HZY.out _).mono ?_; rintro e w3 ⟨rfl, hb3⟩; exact ⟨rfl, cB.trans (hb3.mono cB.size), (hb3.cell (Nat.lt_of_lt_of_le l1 cX)).trans c0, (hb3.cell (Nat.lt_of_lt_of_le l1 cX)).trans c1, fun c => (cF c).kept hb3, Nat.le_trans cX hb3.size⟩)); (simp only [Act.put, List.setIfInBounds_toArray, List.set_cons_zero, List.set_cons_succ]); go_big_quiet_on)))
              refine wpQuiet_nil ?_
              intro w3 hC
              go_wp2_with fail
              go_meet
              exact ⟨by first | rfl | exact congrArg Value.bool (decide_eq_true (by omega)), Lib.hid hC.1⟩
            case rest =>
              obtain ⟨rfl, HBc⟩ := hcut
              go_wp2_with fail
              go_ret
              exact ⟨ret_bl HR.out.symm, HBc.out⟩
          | true =>
            have HP : Hid (∀ i, i < k + 1 → okF ls i = true) := Lib.hid (fun i hi => by
              rcases Nat.lt_or_ge i k with h | h
              · exact hpre.out i h
              · have hij : i = k := by omega
                rw [hij]; exact HOK.out)
            clear hpre
            go_wp2_with fail
            go_cut [41] (fun p wx => p = .bool false ∧ Hid (Below w.heap.size w wx))
            case first =>
              refine wp_region_quiet_litF (C := fun w' => Below w.heap.size w w' ∧ w'.cell? ⟨b1, o1 + k * 2, none⟩ = some (.string y.n) ∧ w'.cell? ⟨b1, o1 + k * 2 + 1, none⟩ = some (.string y.t) ∧ (∀ c, FsAt w' (ls.take k) (.slice (some ⟨b1, o1, none⟩) k c)) ∧ wr.heap.size ≤ w'.heap.size) (by kernel_rfl) (by kernel_rfl) ⟨HB.out.drew, x0, x1, HTD.out, Nat.le_refl _⟩ ?_
              iterate 28 (first | go_big_quiet_skip | (go_big_quiet_want; first | (go_big_quiet_op; go_big_quiet_on) | (apply Exists.intro; refine ⟨fun w' hC => ?_, ?_⟩; (obtain ⟨cB, c0, c1, cF, cX⟩ := hC; go_simp; first | done | rfl | exact ⟨rfl, rfl⟩ | (go_at_call 50; refine (l3Big_at y.n _ HBN.out _).mono ?_; rintro e w3 ⟨rfl, rfl⟩; exact ⟨rfl, cB, c0, c1, cF, cX⟩) | (go_at_call 45; refine (l5Find_at (ls.take k) HTL.out _ y.n _ HFR.out _ (cF _)).mono ?_; rintro e w3 ⟨rfl, rfl⟩; exact ⟨rfl, cB, c0, c1, cF, cX⟩) | (go_at_call 44; refine (l5Text_at y.t _ HFB.out HZY.out _).mono ?_; rintro e w3 ⟨rfl, hb3⟩; exact ⟨rfl, cB.trans (hb3.mono cB.size), (hb3.cell (Nat.lt_of_lt_of_le l1 cX)).trans c0, (hb3.cell (Nat.lt_of_lt_of_le l1 cX)).trans c1, fun c => (cF c).kept hb3, Nat.le_trans cX hb3.size⟩)); (simp only [Act.put, List.setIfInBounds_toArray, List.set_cons_zero, List.set_cons_succ]); go_big_quiet_on)))
              refine wpQuiet_nil ?_
              intro w3 hC
              go_wp2_with fail
              go_meet
              exact ⟨by first | rfl | exact congrArg Value.bool (decide_eq_true (by omega)), Lib.hid hC.1⟩
            case rest =>
              obtain ⟨rfl, HBc⟩ := hcut
              clear x0 x1
              go_wp2_with fail
              go_roundw
              case rel => exact ⟨k + 1, by omega, by omega, by go_num, HP, HBc⟩
              case measure => simp [intOf]; omega
    · by_cases hk4 : (k : Int) < (L : Int)
      · have hki4 : ¬ (k : Int) ≤ 4 := by omega
        have HR : Hid (filesB ls = decide ((L : Int) ≤ 4)) := Lib.hid (by rw [filesB_long (by rw [HL.out]; omega)]; exact (decide_eq_false (by omega)).symm)
        clear hpre hlt
        go_wp2_with fail
        go_ret
        exact ⟨ret_bl HR.out.symm, HB.out⟩
      · have HR : Hid (filesB ls = decide ((L : Int) ≤ 4)) := Lib.hid (by rw [filesB_is (fun i hi => hpre.out i (by rw [HL.out] at hi; omega)), HL.out]; simp only [decide_eq_decide]; omega)
        clear hpre hlt
        go_wp2_with fail
        go_ret
        exact ⟨ret_bl HR.out.symm, HB.out⟩

end Go.Proofs.YtpihopmgckdigaaDoor
