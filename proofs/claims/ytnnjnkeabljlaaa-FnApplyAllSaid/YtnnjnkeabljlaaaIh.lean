/-
  What EditsInOrder returns, in the program and in the model: for every text of at most maxLen bytes and every list of edits; what was in memory stays.
-/
import Derived.Test.YtnnjnkeabljlaaaProg
import Derived.Test.YtnnjnkeabljlaaaId
import Derived.Test.YtnnjnkeabljlaaaIg
import Derived.LoopN
import Derived.Deep.RegionLaw
import Derived.BigQuiet
namespace Go.Proofs.Ytnnjnkeabljlaaa
open Go.RowKit
set_option linter.unusedVariables false
set_option linter.unusedSimpArgs false

theorem drop_at {ls : List Ed} {k : Nat} (hk : k < ls.length) : ls.drop k = ls.getD k Ed.dummy :: ls.drop (k + 1) := by
  have : ls.getD k Ed.dummy = ls[k] := by simp [List.getD, hk]
  rw [this]; exact List.drop_eq_getElem_cons hk
theorem io_no1 {s : ByteArray} {e n : Int} {x : Ed} {r : List Ed} (h : fitsB s x.f x.t x.i = false) : ioB s e n (x :: r) = false := by
  show (fitsB s x.f x.t x.i && _) = false; rw [h]; rfl
theorem io_no2 {s : ByteArray} {e n : Int} {x : Ed} {r : List Ed} (h : x.f < e) : ioB s e n (x :: r) = false := by
  rcases hb : ioB s e n (x :: r) with _ | _
  · rfl
  · have := (ioB_cons.mp hb).2.1; omega
theorem io_no3 {s : ByteArray} {e n : Int} {x : Ed} {r : List Ed} (h : 2000 < n + x.g) : ioB s e n (x :: r) = false := by
  rcases hb : ioB s e n (x :: r) with _ | _
  · rfl
  · have := (ioB_cons.mp hb).2.2.1; omega
theorem io_yes {s : ByteArray} {e n : Int} {x : Ed} {r : List Ed} (h1 : fitsB s x.f x.t x.i = true) (h2 : e ≤ x.f) (h3 : n + x.g ≤ 2000) : ioB s e n (x :: r) = ioB s x.t (n + x.g) r := by
  show (fitsB s x.f x.t x.i && (decide (e ≤ x.f) && (decide (n + x.g ≤ 2000) && ioB s x.t (n + x.g) r))) = _
  rw [h1, decide_eq_true h2, decide_eq_true h3]; rfl
theorem textValid_at (s : ByteArray) (b : Bool) (hb : tv s = b) (hs : s.size ≤ maxLen) (w : World) :
    Calls Try.prog 15 #[.string s] w fun e w' => e = .returned (.bool b) ∧ Below w.heap.size w w' :=
  (textValid_impl s b hb hs w).mono (by rintro e w' ⟨h1, h2⟩; subst h2; exact ⟨h1, Below.refl _ _⟩)
theorem textValid_spec_at (s : ByteArray) (b : Bool) (hb : tv s = b) (hs : s.size ≤ maxLen) (w : World) :
    Calls Try.prog 34 #[.string s] w fun e w' => e = .returned (.bool b) ∧ Below w.heap.size w w' :=
  (textValid_spec s b hb hs w).mono (by rintro e w' ⟨h1, h2⟩; subst h2; exact ⟨h1, Below.refl _ _⟩)

set_option maxRecDepth 100000 in
set_option maxHeartbeats 8000000 in
theorem editsInOrder_impl (s : ByteArray) (ls : List Ed) (v : Value) (b : Bool) (hb : ordB s ls = b) (hs : s.size ≤ maxLen) (hz : EdSz ls) (w : World) (hx : EsAt w ls v) :
    Calls Try.prog 10 #[.string s, v] w fun e w' => e = .returned (.bool b) ∧ Below w.heap.size w w' := by
  subst hb
  have HSL := Lib.hid hs
  have HX := Lib.hid hx
  have HZ : Hid (EdSz ls) := Lib.hid hz
  obtain ⟨a, cap, rfl, hlen⟩ := hx.slice
  obtain ⟨L, hL⟩ : ∃ L, ls.length = L := ⟨_, rfl⟩
  have HL := Lib.hid hL
  rw [hL] at hlen ⊢
  clear hx hz hL hs
  rcases hv : tv s with _ | _
  · have HV := Lib.hid hv
    have HR : Hid (ordB s ls = false) := Lib.hid (by unfold ordB; rw [hv]; rfl)
    clear hv
    go_enter Try.func10, Try.ntmps10
    go_wp2_with fail
    go_at_call 15
    refine (textValid_at s _ HV.out HSL.out _).mono ?_
    rintro e w1 ⟨rfl, hb1⟩
    go_wp2_with fail
    go_ret
    exact ⟨ret_bool HR.out.symm, hb1⟩
  have HV := Lib.hid hv
  have hsz := tv_size hv
  have HO : Hid (ordB s ls = ioB s 0 s.size ls) := Lib.hid (by unfold ordB; rw [hv]; rfl)
  clear hv
  go_enter Try.func10, Try.ntmps10
  go_wp2_with fail
  go_at_call 15
  refine (textValid_at s _ HV.out HSL.out _).mono ?_
  rintro e w1 ⟨rfl, hb1⟩
  have HB1 := Lib.hid hb1
  clear hb1
  go_wp2_with fail
  go_loopw [5, 6, 16] (fun le ln li wr => ∃ (k : Nat) (e n : Int), k ≤ L ∧ li = .int .i64 k ∧ le = .int .i64 e ∧ ln = .int .i64 n ∧ 0 ≤ e ∧ e ≤ s.size ∧ (s.size : Int) - e ≤ n ∧ n ≤ 2000 ∧ Hid (ioB s 0 s.size ls = ioB s e n (ls.drop k)) ∧ Below w.heap.size w wr) (fun _ _ i _ => L - (intOf i).toNat)
  case atStart => exact ⟨0, 0, s.size, Nat.zero_le _, rfl, rfl, rfl, Int.le_refl _, by omega, by omega, by omega, Lib.hid rfl, HB1.out⟩
  case round =>
    obtain ⟨k, e, n, hk, rfl, rfl, rfl, e0, e1, n0, n1, HI, hB⟩ := hrel
    have HB := Lib.hid hB
    clear hB
    by_cases hlt : k < L
    · have hki : (k : Int) < (L : Int) := by omega
      obtain ⟨xb, xo, cap2, ex, bl, ⟨x0, x1, x2⟩⟩ := (HX.out.kept HB.out).kid k (by rw [HL.out]; exact hlt)
      have ex1 : a = some ⟨xb, xo, none⟩ := by injection ex
      subst ex1
      have HIX := Lib.hid (HZ.out k (by rw [HL.out]; exact hlt))
      have hdr := drop_at (ls := ls) (k := k) (by rw [HL.out]; exact hlt)
      obtain ⟨xk, hxk⟩ : ∃ x, ls.getD k Ed.dummy = x := ⟨_, rfl⟩
      rw [hxk] at x0 x1 x2 HIX hdr
      have HDR := Lib.hid hdr
      have HE2 := Lib.hid (edAt_new wr xk.f xk.t xk.i 30)
      have HB2 := Lib.hid (HB.out.alloc HB.out.size (.cells #[.int .i64 xk.f, .int .i64 xk.t, .string xk.i] 30))
      obtain ⟨e0a, e1a, e2a, e3a, e4a, e5a, e6a⟩ := HE2.out
      clear ex hxk hdr
      rcases hf : fitsB s xk.f xk.t xk.i with _ | _
      · have HF := Lib.hid hf
        have HR : Hid (ordB s ls = false) := Lib.hid (by rw [HO.out, HI.out, HDR.out]; exact io_no1 hf)
        clear hf
        go_wp2_with fail
        go_at_call 24
        refine (fits_any s xk.f xk.t xk.i _ HF.out HSL.out HIX.out _).mono ?_
        rintro e w3 ⟨rfl, hb3⟩
        have HB3 := Lib.hid (HB2.out.trans (hb3.mono HB2.out.size))
        have HE3 := Lib.hid (HE2.out.below hb3)
        clear hb3
        obtain ⟨e0b, e1b, e2b, e3b, e4b, e5b, e6b⟩ := HE3.out
        go_wp2_with fail
        go_ret
        exact ⟨ret_bool HR.out.symm, HB3.out⟩
      have HF := Lib.hid hf
      obtain ⟨_, hvi, a0, a1, a2, a3⟩ := fitsB_iff.mp hf
      have hiz := tv_size hvi
      obtain ⟨d, hd⟩ : ∃ d, grw xk.f xk.t xk.i = d := ⟨_, rfl⟩
      have HD := Lib.hid hd
      have hdv : d = (xk.i.size : Int) - (xk.t - xk.f) := hd.symm
      have hg : xk.g = d := hd
      have s1 : IntKind.i64.wrap (n + d) = n + d := IntWalk.i64_in _ (by omega)
      clear hf hvi hd
      by_cases hlo : xk.f < e
      · have HR : Hid (ordB s ls = false) := Lib.hid (by rw [HO.out, HI.out, HDR.out]; exact io_no2 hlo)
        clear hg hdv
        go_wp2_with fail
        go_at_call 24
        refine (fits_any s xk.f xk.t xk.i _ HF.out HSL.out HIX.out _).mono ?_
        rintro e w3 ⟨rfl, hb3⟩
        have HB3 := Lib.hid (HB2.out.trans (hb3.mono HB2.out.size))
        have HE3 := Lib.hid (HE2.out.below hb3)
        clear hb3
        obtain ⟨e0b, e1b, e2b, e3b, e4b, e5b, e6b⟩ := HE3.out
        go_wp2_with fail
        go_at_call 25
        refine (growth_at xk.f xk.t xk.i d HD.out a0 a1 (by omega) (by omega) _).mono ?_
        rintro e w4 ⟨rfl, hb4⟩
        have HB4 := Lib.hid (HB3.out.trans (hb4.mono HB3.out.size))
        have HE4 := Lib.hid (HE3.out.below hb4)
        clear hb4
        obtain ⟨e0c, e1c, e2c, e3c, e4c, e5c, e6c⟩ := HE4.out
        go_wp2_with fail
        go_ret
        exact ⟨ret_bool HR.out.symm, HB4.out⟩
      by_cases hbig : 2000 < n + d
      · have HR : Hid (ordB s ls = false) := Lib.hid (by rw [HO.out, HI.out, HDR.out]; exact io_no3 (by rw [hg]; exact hbig))
        clear hg hdv
        go_wp2_with fail
        go_at_call 24
        refine (fits_any s xk.f xk.t xk.i _ HF.out HSL.out HIX.out _).mono ?_
        rintro e w3 ⟨rfl, hb3⟩
        have HB3 := Lib.hid (HB2.out.trans (hb3.mono HB2.out.size))
        have HE3 := Lib.hid (HE2.out.below hb3)
        clear hb3
        obtain ⟨e0b, e1b, e2b, e3b, e4b, e5b, e6b⟩ := HE3.out
        go_wp2_with fail
        go_at_call 25
        refine (growth_at xk.f xk.t xk.i d HD.out a0 a1 (by omega) (by omega) _).mono ?_
        rintro e w4 ⟨rfl, hb4⟩
        have HB4 := Lib.hid (HB3.out.trans (hb4.mono HB3.out.size))
        have HE4 := Lib.hid (HE3.out.below hb4)
        clear hb4
        obtain ⟨e0c, e1c, e2c, e3c, e4c, e5c, e6c⟩ := HE4.out
        go_wp2_with fail
        go_ret
        exact ⟨ret_bool HR.out.symm, HB4.out⟩
      have HN : Hid (ioB s 0 s.size ls = ioB s xk.t (n + d) (ls.drop (k + 1))) := Lib.hid (by rw [HI.out, HDR.out, io_yes HF.out (by omega) (by rw [hg]; omega), hg])
      have n0' : (s.size : Int) - xk.t ≤ n + d := by omega
      have et0 : 0 ≤ xk.t := by omega
      clear hg hdv
      go_wp2_with fail
      go_at_call 24
      refine (fits_any s xk.f xk.t xk.i _ HF.out HSL.out HIX.out _).mono ?_
      rintro e w3 ⟨rfl, hb3⟩
      have HB3 := Lib.hid (HB2.out.trans (hb3.mono HB2.out.size))
      have HE3 := Lib.hid (HE2.out.below hb3)
      clear hb3
      obtain ⟨e0b, e1b, e2b, e3b, e4b, e5b, e6b⟩ := HE3.out
      go_wp2_with fail
      go_at_call 25
      refine (growth_at xk.f xk.t xk.i d HD.out a0 a1 (by omega) (by omega) _).mono ?_
      rintro e w4 ⟨rfl, hb4⟩
      have HB4 := Lib.hid (HB3.out.trans (hb4.mono HB3.out.size))
      have HE4 := Lib.hid (HE3.out.below hb4)
      clear hb4
      obtain ⟨e0c, e1c, e2c, e3c, e4c, e5c, e6c⟩ := HE4.out
      go_wp2_with fail
      go_roundw
      case rel => exact ⟨k + 1, xk.t, n + d, by omega, by go_num, rfl, rfl, et0, a2, n0', by omega, HN, HB4.out⟩
      case measure => simp [intOf]; omega
    · have hki : ¬ (k : Int) < (L : Int) := by omega
      have HR : Hid (ordB s ls = true) := Lib.hid (by
        rw [HO.out, HI.out, List.drop_of_length_le (by rw [HL.out]; omega)]; rfl)
      clear hlt
      go_wp2_with fail
      go_ret
      exact ⟨ret_bool HR.out.symm, HB.out⟩

theorem wp_region_quiet_litC {P : Program} {C : World → Prop} {id : Nat} {Q : Exit → Act → World → Prop} {a : Act} {w : World} {l : List Oper} (hm : P.follows .mixedOrders = true) (hB : Region.lexB .any l.toArray = true) (hC : C w.drew)
    (h : wpQuiet P l.toArray C (fun a' => ∀ w', C w' → Q .normal a' w') l a) : (Code.region id l.toArray true).wp P Q a w :=
  wp_region_quiet (C := C) hm hB hC (by simpa using h)

set_option maxRecDepth 100000 in
set_option maxHeartbeats 8000000 in
theorem editsInOrder_spec (s : ByteArray) (ls : List Ed) (v : Value) (b : Bool) (hb : ordB s ls = b) (hs : s.size ≤ maxLen) (hz : EdSz ls) (w : World) (hx : EsAt w ls v) :
    Calls Try.prog 12 #[.string s, v] w fun e w' => e = .returned (.bool b) ∧ Below w.heap.size w w' := by
  subst hb
  have HSL := Lib.hid hs
  have HX := Lib.hid hx
  have HZ : Hid (EdSz ls) := Lib.hid hz
  obtain ⟨a, cap, rfl, hlen⟩ := hx.slice
  obtain ⟨L, hL⟩ : ∃ L, ls.length = L := ⟨_, rfl⟩
  have HL := Lib.hid hL
  rw [hL] at hlen ⊢
  unfold maxLen at hs
  clear hx hz hL
  go_enter Try.func12, Try.ntmps12
  go_wp2_with fail
  go_loopw [5, 6] (fun lg li wr => ∃ (k : Nat) (e n : Int), k ≤ L ∧ li = .int .i64 k ∧ lg = .int .i64 (n - s.size) ∧ (k = 0 ∨ s.size ≤ 2000) ∧ 0 ≤ e ∧ e ≤ s.size ∧ (s.size : Int) - e ≤ n ∧ (n = s.size ∨ n ≤ 2000) ∧ Hid (k = 0 ∧ e = 0 ∨ ∃ m, k = m + 1 ∧ e = (ls.getD m Ed.dummy).t) ∧ Hid (tv s = false ∨ ioB s 0 s.size ls = ioB s e n (ls.drop k)) ∧ Below w.heap.size w wr) (fun _ i _ => L - (intOf i).toNat)
  case atStart => exact ⟨0, 0, s.size, Nat.zero_le _, rfl, by rw [Int.sub_self], .inl rfl, Int.le_refl _, by omega, by omega, .inl rfl, Lib.hid (.inl ⟨rfl, rfl⟩), Lib.hid (.inr rfl), Below.refl _ _⟩
  case round =>
    obtain ⟨k, e, n, hk, rfl, rfl, hks, e0, e1, n0, n1, HPE, HI, hB⟩ := hrel
    have HB := Lib.hid hB
    clear hB
    by_cases hlt : k < L
    case neg =>
      have hki : ¬ (k : Int) < (L : Int) := by omega
      obtain ⟨b, hb⟩ : ∃ b, tv s = b := ⟨_, rfl⟩
      have HV := Lib.hid hb
      have HR : Hid (ordB s ls = b) := Lib.hid (by
        unfold ordB
        rcases HI.out with h | h
        · rw [← hb, h]; rfl
        · rw [h, List.drop_of_length_le (by rw [HL.out]; omega), hb]; show (b && true) = b; cases b <;> rfl)
      clear hlt hb hks n1
      go_wp2_with fail
      go_at_call 34
      refine (textValid_spec_at s _ HV.out HSL.out _).mono ?_
      rintro e w2 ⟨rfl, hb2⟩
      have HB2 := Lib.hid (HB.out.trans (hb2.mono HB.out.size))
      clear hb2
      go_wp2_with fail
      go_ret
      exact ⟨ret_bool HR.out.symm, HB2.out⟩
    have hki : (k : Int) < (L : Int) := by omega
    obtain ⟨xb, xo, cap2, ex, bl, ⟨x0, x1, x2⟩⟩ := (HX.out.kept HB.out).kid k (by rw [HL.out]; exact hlt)
    have ex1 : a = some ⟨xb, xo, none⟩ := by injection ex
    subst ex1
    have HIX := Lib.hid (HZ.out k (by rw [HL.out]; exact hlt))
    have hdr := drop_at (ls := ls) (k := k) (by rw [HL.out]; exact hlt)
    obtain ⟨xk, hxk⟩ : ∃ x, ls.getD k Ed.dummy = x := ⟨_, rfl⟩
    rw [hxk] at x0 x1 x2 HIX hdr
    have HXK := Lib.hid hxk
    have HDR := Lib.hid hdr
    clear ex hxk hdr
    rcases hf : fitsB s xk.f xk.t xk.i with _ | _
    · have HF := Lib.hid hf
      have HR : Hid (ordB s ls = false) := Lib.hid (by
        unfold ordB
        rcases HI.out with h | h
        · rw [h]; rfl
        · rw [h, HDR.out, io_no1 hf]; cases tv s <;> rfl)
      clear hf hks n1
      go_wp2_with fail
      go_cut [37] (fun p wx => p = .bool true ∧ Hid (Below w.heap.size w wx))
      case first =>
        refine wp_region_quiet_litC (C := fun w' => Below w.heap.size w w' ∧ w'.cell? ⟨xb, xo + k * 3, none⟩ = some (.int .i64 xk.f) ∧ w'.cell? ⟨xb, xo + k * 3 + 1, none⟩ = some (.int .i64 xk.t) ∧ w'.cell? ⟨xb, xo + k * 3 + 2, none⟩ = some (.string xk.i) ∧ wr.heap.size ≤ w'.heap.size) (by kernel_rfl) (by kernel_rfl) ⟨HB.out.drew, x0, x1, x2, Nat.le_refl _⟩ ?_
        iterate 25 (first | go_big_quiet_skip | (go_big_quiet_want; first | (go_big_quiet_op; go_big_quiet_on) | (apply Exists.intro; refine ⟨fun w' hC => ?_, ?_⟩; (obtain ⟨cB, c0, c1, c2, cX⟩ := hC; go_simp; first | done | rfl | exact ⟨rfl, rfl⟩ | (go_at_call 32; refine (editValid_spec s xk.f xk.t xk.i _ HF.out HSL.out HIX.out _).mono ?_; rintro e w3 ⟨rfl, hb3⟩; exact ⟨rfl, cB.trans (hb3.mono cB.size), (hb3.cell (Nat.lt_of_lt_of_le bl cX)).trans c0, (hb3.cell (Nat.lt_of_lt_of_le bl cX)).trans c1, (hb3.cell (Nat.lt_of_lt_of_le bl cX)).trans c2, Nat.le_trans cX hb3.size⟩)); (simp only [Act.put, List.setIfInBounds_toArray, List.set_cons_zero, List.set_cons_succ]); go_big_quiet_on)))
        refine wpQuiet_nil ?_
        intro w3 hC
        go_wp2_with fail
        go_meet
        exact ⟨by first | rfl | exact congrArg Value.bool (decide_eq_false (by omega)), Lib.hid hC.1⟩
      case rest =>
        obtain ⟨rfl, HBc⟩ := hcut
        go_wp2_with fail
        go_ret
        exact ⟨ret_bool HR.out.symm, HBc.out⟩
    have HF := Lib.hid hf
    obtain ⟨hva, hvi, a0, a1, a2, a3⟩ := fitsB_iff.mp hf
    have hsz := tv_size hva
    have hiz := tv_size hvi
    have hn2 : n ≤ 2000 := by rcases n1 with h | h <;> omega
    have hI : ioB s 0 s.size ls = ioB s e n (ls.drop k) := by
      rcases HI.out with h | h
      · rw [hva] at h; exact absurd h (by simp)
      · exact h
    have HO : Hid (ordB s ls = ioB s e n (ls.drop k)) := Lib.hid (by unfold ordB; rw [hva, hI]; rfl)
    have HI0 := Lib.hid hI
    obtain ⟨d, hd⟩ : ∃ d, grw xk.f xk.t xk.i = d := ⟨_, rfl⟩
    have HD := Lib.hid hd
    have hdv : d = (xk.i.size : Int) - (xk.t - xk.f) := hd.symm
    have hg : xk.g = d := hd
    have s1 : IntKind.i64.wrap (n - s.size + d) = n + d - s.size := by rw [IntWalk.i64_in _ (by omega)]; omega
    have s2 : IntKind.i64.wrap ((s.size : Int) + (n + d - s.size)) = n + d := by rw [IntWalk.i64_in _ (by omega)]; omega
    have HDV := Lib.hid hdv
    have hd1 : -2000 ≤ d := by omega
    have hd2 : d ≤ 2000 := by omega
    have et0 : 0 ≤ xk.t := by omega
    have HG : Hid (xk.g = d) := Lib.hid hg
    clear hf hva hvi hI hd n1 hks hdv hg
    rcases hpe : HPE.out with ⟨rfl, rfl⟩ | ⟨m, hkm, hem⟩
    · clear hpe
      have HLO : Hid ((0 : Int) ≤ xk.f) := Lib.hid a0
      rw [Nat.zero_mul, Nat.add_zero] at x0 x1 x2
      go_wp2_with fail
      go_cut [37] (fun p wx => p = .bool false ∧ Hid (Below w.heap.size w wx))
      case first =>
        refine wp_region_quiet_litC (C := fun w' => Below w.heap.size w w' ∧ w'.cell? ⟨xb, xo, none⟩ = some (.int .i64 xk.f) ∧ w'.cell? ⟨xb, xo + 1, none⟩ = some (.int .i64 xk.t) ∧ w'.cell? ⟨xb, xo + 2, none⟩ = some (.string xk.i) ∧ wr.heap.size ≤ w'.heap.size) (by kernel_rfl) (by kernel_rfl) ⟨HB.out.drew, x0, x1, x2, Nat.le_refl _⟩ ?_
        iterate 25 (first | go_big_quiet_skip | (go_big_quiet_want; first | (go_big_quiet_op; go_big_quiet_on) | (apply Exists.intro; refine ⟨fun w' hC => ?_, ?_⟩; (obtain ⟨cB, c0, c1, c2, cX⟩ := hC; go_simp; first | done | rfl | exact ⟨rfl, rfl⟩ | (go_at_call 32; refine (editValid_spec s xk.f xk.t xk.i _ HF.out HSL.out HIX.out _).mono ?_; rintro e w3 ⟨rfl, hb3⟩; exact ⟨rfl, cB.trans (hb3.mono cB.size), (hb3.cell (Nat.lt_of_lt_of_le bl cX)).trans c0, (hb3.cell (Nat.lt_of_lt_of_le bl cX)).trans c1, (hb3.cell (Nat.lt_of_lt_of_le bl cX)).trans c2, Nat.le_trans cX hb3.size⟩)); (simp only [Act.put, List.setIfInBounds_toArray, List.set_cons_zero, List.set_cons_succ]); go_big_quiet_on)))
        refine wpQuiet_nil ?_
        intro w3 hC
        go_wp2_with fail
        go_meet
        exact ⟨by first | rfl | exact congrArg Value.bool (decide_eq_false (by omega)), Lib.hid hC.1⟩
      case rest =>
        obtain ⟨rfl, HBc⟩ := hcut
        obtain ⟨xb2, xo2, cap4, ex2, bl2, ⟨v0, v1, v2⟩⟩ := (HX.out.kept HBc.out).kid (0) (by rw [HL.out]; exact hlt)
        obtain ⟨rfl, rfl⟩ : xb = xb2 ∧ xo = xo2 := by injection ex2 with h1; injection h1 with h2; injection h2 with h3 h4; exact ⟨h3, h4⟩
        rw [HXK.out] at v0 v1 v2
        rw [Nat.zero_mul, Nat.add_zero] at v0 v1 v2
        clear ex2 x0 x1 x2
        by_cases hbig : 2000 < n + d
        · have HR : Hid (ordB s ls = false) := Lib.hid (by rw [HO.out, HDR.out]; exact io_no3 (by rw [HG.out]; exact hbig))
          go_wp2_with fail
          go_at_call 33
          refine (l8Grow_any xk.f xk.t xk.i d HD.out a0 a1 (by omega) (by omega) _).mono ?_
          rintro e w5 ⟨rfl, hb5⟩
          have HB5 := Lib.hid (HBc.out.trans (hb5.mono HBc.out.size))
          clear hb5 v0 v1 v2
          go_wp2_with fail
          go_ret
          exact ⟨ret_bool HR.out.symm, HB5.out⟩
        · have n0' : (s.size : Int) - xk.t ≤ n + d := by have h1 := HLO.out; have h2 := HDV.out; omega
          have HN : Hid (tv s = false ∨ ioB s 0 s.size ls = ioB s xk.t (n + d) (ls.drop (0 + 1))) := Lib.hid (.inr (by rw [HI0.out, HDR.out, io_yes HF.out HLO.out (by rw [HG.out]; omega), HG.out]))
          go_wp2_with fail
          go_at_call 33
          refine (l8Grow_any xk.f xk.t xk.i d HD.out a0 a1 (by omega) (by omega) _).mono ?_
          rintro e w5 ⟨rfl, hb5⟩
          have HB5 := Lib.hid (HBc.out.trans (hb5.mono HBc.out.size))
          clear hb5 v0 v1 v2
          go_wp2_with fail
          go_roundw
          case rel => exact ⟨0 + 1, xk.t, n + d, by omega, by go_num, rfl, .inr hsz, et0, a2, n0', .inr (by omega), Lib.hid (.inr ⟨0, rfl, by rw [HXK.out]⟩), HN, HB5.out⟩
          case measure => simp [intOf]; omega
    · clear hpe
      have hml : m < L := by omega
      obtain ⟨yb, yo, cap3, ey, _, ⟨y0, y1, y2⟩⟩ := (HX.out.kept HB.out).kid m (by rw [HL.out]; exact hml)
      obtain ⟨rfl, rfl⟩ : xb = yb ∧ xo = yo := by injection ey with h1; injection h1 with h2; injection h2 with h3 h4; exact ⟨h3, h4⟩
      obtain ⟨yk, hyk⟩ : ∃ y, ls.getD m Ed.dummy = y := ⟨_, rfl⟩
      rw [hyk] at y0 y1 y2 hem
      subst hem
      clear ey hyk y0 y2
      have hk1 : IntKind.i64.wrap ((k : Int) - 1) = (m : Int) := by rw [IntWalk.i64_in _ (by omega)]; omega
      have hk2 : (k : Int) - 1 = (m : Int) := by omega
      have hmw : IntKind.i64.wrap (m : Int) = (m : Int) := IntWalk.i64_in _ (by omega)
      have hm0 : (0 : Int) ≤ (m : Int) := by omega
      have hk0 : (0 : Int) < (k : Int) := by omega
      have hk0n : 0 < k := by omega
      have hk0d : decide ((0 : Int) < (k : Int)) = true := decide_eq_true hk0
      have hk0e : decide (0 < k) = true := decide_eq_true hk0n
      have hk3 : (0 : Int) ≤ (k : Int) - 1 := by omega
      have hml2 : (m : Int) < (L : Int) := by omega
      have HKM := Lib.hid hkm
      clear hkm
      by_cases hlo : xk.f < yk.t
      · have HR : Hid (ordB s ls = false) := Lib.hid (by rw [HO.out, HDR.out]; exact io_no2 hlo)
        go_wp2_with fail
        go_cut [37] (fun p wx => p = .bool true ∧ Hid (Below w.heap.size w wx))
        case first =>
          refine wp_region_quiet_litC (C := fun w' => Below w.heap.size w w' ∧ w'.cell? ⟨xb, xo + k * 3, none⟩ = some (.int .i64 xk.f) ∧ w'.cell? ⟨xb, xo + k * 3 + 1, none⟩ = some (.int .i64 xk.t) ∧ w'.cell? ⟨xb, xo + k * 3 + 2, none⟩ = some (.string xk.i) ∧ w'.cell? ⟨xb, xo + m * 3 + 1, none⟩ = some (.int .i64 yk.t) ∧ wr.heap.size ≤ w'.heap.size) (by kernel_rfl) (by kernel_rfl) ⟨HB.out.drew, x0, x1, x2, y1, Nat.le_refl _⟩ ?_
          iterate 25 (first | go_big_quiet_skip | (go_big_quiet_want; first | (go_big_quiet_op; go_big_quiet_on) | (apply Exists.intro; refine ⟨fun w' hC => ?_, ?_⟩; (obtain ⟨cB, c0, c1, c2, c3, cX⟩ := hC; go_simp; first | done | rfl | exact ⟨rfl, rfl⟩ | (go_at_call 32; refine (editValid_spec s xk.f xk.t xk.i _ HF.out HSL.out HIX.out _).mono ?_; rintro e w3 ⟨rfl, hb3⟩; exact ⟨rfl, cB.trans (hb3.mono cB.size), (hb3.cell (Nat.lt_of_lt_of_le bl cX)).trans c0, (hb3.cell (Nat.lt_of_lt_of_le bl cX)).trans c1, (hb3.cell (Nat.lt_of_lt_of_le bl cX)).trans c2, (hb3.cell (Nat.lt_of_lt_of_le bl cX)).trans c3, Nat.le_trans cX hb3.size⟩)); (simp only [Act.put, List.setIfInBounds_toArray, List.set_cons_zero, List.set_cons_succ]); go_big_quiet_on)))
          refine wpQuiet_nil ?_
          intro w3 hC
          go_wp2_with fail
          go_meet
          exact ⟨by first | rfl | exact congrArg Value.bool (decide_eq_false (by omega)), Lib.hid hC.1⟩
        case rest =>
          obtain ⟨rfl, HBc⟩ := hcut
          go_wp2_with fail
          go_ret
          exact ⟨ret_bool HR.out.symm, HBc.out⟩
      have HLO : Hid (yk.t ≤ xk.f) := Lib.hid (by omega)
      go_wp2_with fail
      go_cut [37] (fun p wx => p = .bool false ∧ Hid (Below w.heap.size w wx))
      case first =>
        refine wp_region_quiet_litC (C := fun w' => Below w.heap.size w w' ∧ w'.cell? ⟨xb, xo + k * 3, none⟩ = some (.int .i64 xk.f) ∧ w'.cell? ⟨xb, xo + k * 3 + 1, none⟩ = some (.int .i64 xk.t) ∧ w'.cell? ⟨xb, xo + k * 3 + 2, none⟩ = some (.string xk.i) ∧ w'.cell? ⟨xb, xo + m * 3 + 1, none⟩ = some (.int .i64 yk.t) ∧ wr.heap.size ≤ w'.heap.size) (by kernel_rfl) (by kernel_rfl) ⟨HB.out.drew, x0, x1, x2, y1, Nat.le_refl _⟩ ?_
        iterate 25 (first | go_big_quiet_skip | (go_big_quiet_want; first | (go_big_quiet_op; go_big_quiet_on) | (apply Exists.intro; refine ⟨fun w' hC => ?_, ?_⟩; (obtain ⟨cB, c0, c1, c2, c3, cX⟩ := hC; go_simp; first | done | rfl | exact ⟨rfl, rfl⟩ | (go_at_call 32; refine (editValid_spec s xk.f xk.t xk.i _ HF.out HSL.out HIX.out _).mono ?_; rintro e w3 ⟨rfl, hb3⟩; exact ⟨rfl, cB.trans (hb3.mono cB.size), (hb3.cell (Nat.lt_of_lt_of_le bl cX)).trans c0, (hb3.cell (Nat.lt_of_lt_of_le bl cX)).trans c1, (hb3.cell (Nat.lt_of_lt_of_le bl cX)).trans c2, (hb3.cell (Nat.lt_of_lt_of_le bl cX)).trans c3, Nat.le_trans cX hb3.size⟩)); (simp only [Act.put, List.setIfInBounds_toArray, List.set_cons_zero, List.set_cons_succ]); go_big_quiet_on)))
        refine wpQuiet_nil ?_
        intro w3 hC
        go_wp2_with fail
        go_meet
        exact ⟨by first | rfl | exact congrArg Value.bool (decide_eq_false (by omega)), Lib.hid hC.1⟩
      case rest =>
        obtain ⟨rfl, HBc⟩ := hcut
        obtain ⟨xb2, xo2, cap4, ex2, bl2, ⟨v0, v1, v2⟩⟩ := (HX.out.kept HBc.out).kid (k) (by rw [HL.out]; exact hlt)
        obtain ⟨rfl, rfl⟩ : xb = xb2 ∧ xo = xo2 := by injection ex2 with h1; injection h1 with h2; injection h2 with h3 h4; exact ⟨h3, h4⟩
        rw [HXK.out] at v0 v1 v2
        clear ex2 x0 x1 x2
        by_cases hbig : 2000 < n + d
        · have HR : Hid (ordB s ls = false) := Lib.hid (by rw [HO.out, HDR.out]; exact io_no3 (by rw [HG.out]; exact hbig))
          go_wp2_with fail
          go_at_call 33
          refine (l8Grow_any xk.f xk.t xk.i d HD.out a0 a1 (by omega) (by omega) _).mono ?_
          rintro e w5 ⟨rfl, hb5⟩
          have HB5 := Lib.hid (HBc.out.trans (hb5.mono HBc.out.size))
          clear hb5 v0 v1 v2
          go_wp2_with fail
          go_ret
          exact ⟨ret_bool HR.out.symm, HB5.out⟩
        · have n0' : (s.size : Int) - xk.t ≤ n + d := by have h1 := HLO.out; have h2 := HDV.out; omega
          have HN : Hid (tv s = false ∨ ioB s 0 s.size ls = ioB s xk.t (n + d) (ls.drop (k + 1))) := Lib.hid (.inr (by rw [HI0.out, HDR.out, io_yes HF.out HLO.out (by rw [HG.out]; omega), HG.out]))
          go_wp2_with fail
          go_at_call 33
          refine (l8Grow_any xk.f xk.t xk.i d HD.out a0 a1 (by omega) (by omega) _).mono ?_
          rintro e w5 ⟨rfl, hb5⟩
          have HB5 := Lib.hid (HBc.out.trans (hb5.mono HBc.out.size))
          clear hb5 v0 v1 v2
          go_wp2_with fail
          go_roundw
          case rel => exact ⟨k + 1, xk.t, n + d, by omega, by go_num, rfl, .inr hsz, et0, a2, n0', .inr (by omega), Lib.hid (.inr ⟨k, rfl, by rw [HXK.out]⟩), HN, HB5.out⟩
          case measure => simp [intOf]; omega


end Go.Proofs.Ytnnjnkeabljlaaa
