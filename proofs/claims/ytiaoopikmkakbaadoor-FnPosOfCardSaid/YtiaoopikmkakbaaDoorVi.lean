/-
  OffsetOf of the program and of the model, for every string and every place.
-/
import Derived.Test.YtiaoopikmkakbaaDoorVg
import Derived.Test.YtiaoopikmkakbaaDoorVh
namespace Go.Proofs.YtiaoopikmkakbaaDoor
open Go.RowKit Go.Shelf

/-- What both functions return. -/
def offRes (s : ByteArray) (ln col : Int) : Int × Bool := if tv s = true then offOf (cut s 10) ln col else (0, false)
theorem offRes_no {s : ByteArray} {ln col : Int} (h : tv s = false) : offRes s ln col = (0, false) := by unfold offRes; rw [if_neg (by rw [h]; decide)]
theorem offRes_yes {s : ByteArray} {ln col : Int} (h : tv s = true) : offRes s ln col = offOf (cut s 10) ln col := by unfold offRes; rw [if_pos h]
def OfsPost (s : ByteArray) (ln col : Int) (w : World) (e : Ending) (w' : World) : Prop := e = .returned (.tuple #[.int .i64 (offRes s ln col).1, .bool (offRes s ln col).2]) ∧ Below w.heap.size w w'

theorem offsetOf_impl (s : ByteArray) (ln col : Int) (hs : s.size ≤ maxLen) (w : World) : Calls Tryd.prog 12 #[.string s, .agg #[.int .i64 ln, .int .i64 col]] w (OfsPost s ln col w) := by
  rcases hv : tv s with _ | _
  · refine (offsetOf_no s ln col hv hs w).mono ?_
    rintro e w' ⟨rfl, h⟩
    exact ⟨by rw [offRes_no hv], h⟩
  · refine (offsetOf_yes s ln col hv w).mono ?_
    rintro e w' ⟨rfl, h⟩
    exact ⟨by rw [offRes_yes hv], h⟩

theorem lenSum_take_succ : ∀ (l : List ByteArray) (k : Nat), k < l.length → lenSum (l.take (k + 1)) = lenSum (l.take k) + (l.getD k ⟨#[]⟩).size + 1
  | [], _, h => absurd h (Nat.not_lt_zero _)
  | x :: l, 0, _ => by simp [lenSum]
  | x :: l, k + 1, h => by
    simp only [List.take_succ_cons, lenSum, List.getD_cons_succ]
    have := lenSum_take_succ l k (by simpa using h)
    omega

set_option maxHeartbeats 2000000 in
theorem offsetOf_spec (s : ByteArray) (ln col : Int) (hs : s.size ≤ maxLen) (w : World) : Calls Tryd.prog 14 #[.string s, .agg #[.int .i64 ln, .int .i64 col]] w (OfsPost s ln col w) := by
  have HSL := Lib.hid hs
  have HSL := Lib.hid hs
  rcases hv : tv s with _ | _
  · have HV := Lib.hid hv
    have H := Lib.hid (offRes_no (ln := ln) (col := col) hv)
    clear hv hs
    go_enter Tryd.func14, Tryd.ntmps14
    go_wp2_with (go_at_call 20; refine (textValid_spec s false HV.out HSL.out _).mono ?_; rintro e w1 ⟨rfl, rfl⟩)
    exact bodyPost_ret (v := .tuple #[.int .i64 0, .bool false]) (by simp [results, Tryd.results14, go_sem]) rfl ⟨by rw [H.out], (Below.refl _ _).alloc (Nat.le_refl _) _⟩
  have HV := Lib.hid hv
  have hs2 := tv_size hv
  have HR := Lib.hid (offRes_yes (ln := ln) (col := col) hv)
  obtain ⟨L, hL⟩ : ∃ L, (cut s 10).length = L := ⟨_, rfl⟩
  have hL1 : L ≤ 2001 := by have h2 := (cutN_le s 10 (s.size + 1)).2; rw [← hL]; unfold cut; omega
  have HL := Lib.hid hL
  clear hv hs
  by_cases hln : ln < 0
  · have H : Hid (offRes s ln col = (0, false)) := Lib.hid (by rw [HR.out]; exact offOf_no (by omega))
    clear hL
    go_enter Tryd.func14, Tryd.ntmps14
    go_wp2_with (go_at_call 20; refine (textValid_spec s true HV.out HSL.out _).mono ?_; rintro e w1 ⟨rfl, rfl⟩)
    exact bodyPost_ret (v := .tuple #[.int .i64 0, .bool false]) (by simp [results, Tryd.results14, go_sem]) rfl ⟨by rw [H.out], (Below.refl _ _).alloc (Nat.le_refl _) _⟩
  obtain ⟨k, rfl⟩ : ∃ k : Nat, ln = k := ⟨ln.toNat, by omega⟩
  clear hln
  by_cases hcol : col < 0
  · have H : Hid (offRes s k col = (0, false)) := Lib.hid (by
      rw [HR.out]
      by_cases h : (k : Int) < ((cut s 10).length : Int)
      · rw [offOf_at (by omega)]; exact offAt_no (.inl hcol)
      · exact offOf_no (by omega))
    clear hL
    go_enter Tryd.func14, Tryd.ntmps14
    go_wp2_with (go_at_call 20; refine (textValid_spec s true HV.out HSL.out _).mono ?_; rintro e w1 ⟨rfl, rfl⟩)
    exact bodyPost_ret (v := .tuple #[.int .i64 0, .bool false]) (by simp [results, Tryd.results14, go_sem]) rfl ⟨by rw [H.out], (Below.refl _ _).alloc (Nat.le_refl _) _⟩
  have hcol0 : 0 ≤ col := by omega
  have c0 : (w.alloc (.cells #[.int .i64 k, .int .i64 col] 26)).cell? ⟨w.heap.size, 0, none⟩ = some (.int .i64 k) := by go_simp
  have c1 : (w.alloc (.cells #[.int .i64 k, .int .i64 col] 26)).cell? ⟨w.heap.size, 1, none⟩ = some (.int .i64 col) := by go_simp
  by_cases hk : L ≤ k
  · have H : Hid (offRes s k col = (0, false)) := Lib.hid (by rw [HR.out]; exact offOf_no (by omega))
    have hki : (L : Int) ≤ (k : Int) := by omega
    clear hL hcol hk
    go_enter Tryd.func14, Tryd.ntmps14
    go_wp2_with (first | (go_at_call 20; refine (textValid_spec s true HV.out HSL.out _).mono ?_; rintro e w1 ⟨rfl, rfl⟩) | (go_at_call 33; refine (l16Cut_any s 10 (by omega) _).mono ?_; rintro e w1 ⟨v, rfl, hown, hb⟩; obtain ⟨a, c, rfl⟩ := owns_slice hown; rw [HL.out]; have z0 := (hb.cell (p := ⟨w.heap.size, 0, none⟩) (by simp)).trans c0; have z1 := (hb.cell (p := ⟨w.heap.size, 1, none⟩) (by simp)).trans c1; have HB : Hid (Below w.heap.size w w1) := Lib.hid (((Below.refl _ _).alloc (Nat.le_refl _) _).trans (hb.mono (by simp))); have hz : w.heap.size < w1.heap.size := (by have hq := hb.size; rw [World.size_alloc] at hq; omega); have HOWN := Lib.hid hown; clear hown hb))
    go_quiet (fail)
    go_wp2_with fail
    exact bodyPost_ret (v := .tuple #[.int .i64 0, .bool false]) (by simp [results, Tryd.results14, go_sem]) rfl ⟨by rw [H.out], below_drewN HB.out _⟩
  have hk' : k < L := by omega
  have hkn : ¬ (L : Int) ≤ (k : Int) := by omega
  have hki : (k : Int) < (L : Int) := by omega
  clear hk
  obtain ⟨x, hx⟩ : ∃ x, (cut s 10).getD k ⟨#[]⟩ = x := ⟨_, rfl⟩
  have HX := Lib.hid hx
  by_cases hc : (x.size : Int) < col
  · have H : Hid (offRes s k col = (0, false)) := Lib.hid (by rw [HR.out, offOf_at (by omega), hx]; exact offAt_no (.inr hc))
    clear hL hcol hx
    go_enter Tryd.func14, Tryd.ntmps14
    go_wp2_with (first | (go_at_call 20; refine (textValid_spec s true HV.out HSL.out _).mono ?_; rintro e w1 ⟨rfl, rfl⟩) | (go_at_call 33; refine (l16Cut_any s 10 (by omega) _).mono ?_; rintro e w1 ⟨v, rfl, hown, hb⟩; obtain ⟨a, c, rfl⟩ := owns_slice hown; rw [HL.out]; have z0 := (hb.cell (p := ⟨w.heap.size, 0, none⟩) (by simp)).trans c0; have z1 := (hb.cell (p := ⟨w.heap.size, 1, none⟩) (by simp)).trans c1; have HB : Hid (Below w.heap.size w w1) := Lib.hid (((Below.refl _ _).alloc (Nat.le_refl _) _).trans (hb.mono (by simp))); have hz : w.heap.size < w1.heap.size := (by have hq := hb.size; rw [World.size_alloc] at hq; omega); have HOWN := Lib.hid hown; clear hown hb))
    obtain ⟨b1, d1, e1, n1, l1, x1⟩ := row_at HOWN.out k (by rw [HL.out]; exact hk')
    have f1 : a = some ⟨b1, 0, none⟩ := by injection e1
    subst f1
    rw [HX.out] at x1
    clear e1
    go_quiet (fail)
    go_wp2_with fail
    exact bodyPost_ret (v := .tuple #[.int .i64 0, .bool false]) (by simp [results, Tryd.results14, go_sem]) rfl ⟨by rw [H.out], below_drewN HB.out _⟩
  · have hcx : col ≤ (x.size : Int) := by omega
    have hbig : lenSum (cut s 10) ≤ s.size + 1 := lenSum_le (List.prefix_refl _)
    have hxs := size_lenSum (cut s 10) k (by omega)
    rw [hx] at hxs
    have hc1 : col ≤ 1000000 := by omega
    have H : Hid (offRes s k col = (lenSum ((cut s 10).take k) + col, true)) := Lib.hid (by rw [HR.out, offOf_at (by omega), hx]; exact offAt_yes hcol0 hcx)
    have HBIG : Hid (∀ j, lenSum ((cut s 10).take j) ≤ 2001) := Lib.hid (fun j => by have := lenSum_take (cut s 10) j; omega)
    clear hL hcol hx hc hbig hxs
    go_enter Tryd.func14, Tryd.ntmps14
    go_wp2_with (first | (go_at_call 20; refine (textValid_spec s true HV.out HSL.out _).mono ?_; rintro e w1 ⟨rfl, rfl⟩) | (go_at_call 33; refine (l16Cut_any s 10 (by omega) _).mono ?_; rintro e w1 ⟨v, rfl, hown, hb⟩; obtain ⟨a, c, rfl⟩ := owns_slice hown; rw [HL.out]; have z0 := (hb.cell (p := ⟨w.heap.size, 0, none⟩) (by simp)).trans c0; have z1 := (hb.cell (p := ⟨w.heap.size, 1, none⟩) (by simp)).trans c1; have HB : Hid (Below w.heap.size w w1) := Lib.hid (((Below.refl _ _).alloc (Nat.le_refl _) _).trans (hb.mono (by simp))); have hz : w.heap.size < w1.heap.size := (by have hq := hb.size; rw [World.size_alloc] at hq; omega); have HOWN := Lib.hid hown; clear hown hb))
    obtain ⟨b1, d1, e1, n1, l1, x1⟩ := row_at HOWN.out k (by rw [HL.out]; exact hk')
    have f1 : a = some ⟨b1, 0, none⟩ := by injection e1
    subst f1
    rw [HX.out] at x1
    clear e1
    go_quiet (fail)
    go_wp2_with fail
    go_loopw [7, 8] (fun m i wr => ∃ (j : Nat) (n : Int), j ≤ k ∧ i = .int .i64 j ∧ m = .int .i64 n ∧ 0 ≤ n ∧ n ≤ 2000000 ∧ Hid (n = col + lenSum ((cut s 10).take j)) ∧ Below w1.heap.size w1 wr) (fun _ i _ => k - (intOf i).toNat)
    case atStart => exact ⟨0, col, Nat.zero_le _, rfl, rfl, hcol0, by omega, Lib.hid (by simp [lenSum]), below_drewN (Below.refl _ _) _⟩
    case round =>
      obtain ⟨j, n, hj, rfl, rfl, hn0, hn1, hn, hbw⟩ := hrel
      have q0 := (hbw.cell (p := ⟨w.heap.size, 0, none⟩) (by have := HB.out.size; show w.heap.size < _; omega)).trans z0
      have HBW := Lib.hid hbw
      clear hbw
      by_cases hlt : j < k
      · obtain ⟨b2, d2, e2, n2, l2, x2⟩ := row_at HOWN.out j (by rw [HL.out]; omega)
        have f2 : b1 = b2 := by injection e2 with e2 _ _; injection e2 with e2; injection e2
        subst f2
        have x3 := (HBW.out.cell (p := ⟨b1, j, none⟩) l2).trans x2
        obtain ⟨xj, hxj⟩ : ∃ xj, (cut s 10).getD j ⟨#[]⟩ = xj := ⟨_, rfl⟩
        rw [hxj] at x3
        have hts := lenSum_take_succ (cut s 10) j (by rw [HL.out]; omega)
        rw [hxj] at hts
        have hnn := lenSum_nonneg ((cut s 10).take j)
        have hbb := HBIG.out (j + 1)
        have hn2 := hn.out
        have hxs : (xj.size : Int) ≤ 2001 := by omega
        have hnb : n + (xj.size : Int) + 1 ≤ 1002001 := by omega
        have HN : Hid (n + (xj.size : Int) + 1 = col + lenSum ((cut s 10).take (j + 1))) := Lib.hid (by omega)
        have hji : (j : Int) < (k : Int) := by omega
        have hjL : (j : Int) < (L : Int) := by omega
        clear e2 x2 hts hnn hbb hn2 hxj hn
        go_wp2_with fail
        refine ⟨⟨j + 1, _, by omega, by go_num, rfl, by omega, by omega, HN, HBW.out⟩, by simp [intOf]; omega⟩
      · have hji : ¬ (j : Int) < (k : Int) := by omega
        have hjk : j = k := by omega
        have H2 : Hid (n = lenSum ((cut s 10).take k) + col) := Lib.hid (by have := hn.out; rw [hjk] at this; omega)
        clear hlt hjk hn
        go_wp2_with fail
        exact bodyPost_ret (v := .tuple #[.int .i64 n, .bool true]) (by simp [results, Tryd.results14, go_sem]) rfl ⟨by rw [H.out, H2.out], HB.out.trans (HBW.out.mono (by omega))⟩
end Go.Proofs.YtiaoopikmkakbaaDoor
