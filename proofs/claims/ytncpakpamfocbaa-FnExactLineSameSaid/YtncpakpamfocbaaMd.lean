/-
  LineSame of the model and of the program: whether two lines are the same; what was in memory stays.
-/
import Derived.Test.YtncpakpamfocbaaMc
import Derived.Test.YtncpakpamfocbaaBh
import Derived.Test.YtncpakpamfocbaaEk
namespace Go.Proofs.Ytncpakpamfocbaa
open Go.RowKit

open Classical in
/-- Whether two lines are the same. -/
noncomputable def sameN (x y : Ln) : Bool := decide (x = y)
open Classical in
theorem sameN_no {x y : Ln} (h : x ≠ y) : sameN x y = false := by unfold sameN; exact decide_eq_false h
open Classical in
theorem sameN_yes {x y : Ln} (h : x = y) : sameN x y = true := by unfold sameN; exact decide_eq_true h
theorem samen_parts {x y : Ln} (hk : x.k = y.k) (hs : x.s = y.s) (hc : x.c = y.c) (ht : sameB x.t y.t = true) : sameN x y = sameX x.e y.e := by
  have ht' : x.t = y.t := by
    by_cases e : x.t = y.t
    · exact e
    · rw [sameB_no e] at ht; cases ht
  by_cases he : x.e = y.e
  · rw [sameX_yes he]
    exact sameN_yes (by cases x; cases y; simp_all)
  · rw [sameX_no he]
    exact sameN_no (fun e => he (by rw [e]))
theorem samen_t {x y : Ln} (ht : sameB x.t y.t = false) : sameN x y = false := by
  refine sameN_no (fun e => ?_)
  rw [e, sameB_yes rfl] at ht
  cases ht

set_option maxRecDepth 100000 in
set_option maxHeartbeats 8000000 in
theorem lineSame_spec (x y : Ln) (vt ve ut ue : Value) (w : World) (hx1 : TyAt w x.t vt) (hx2 : ExAt w x.e ve) (hy1 : TyAt w y.t ut) (hy2 : ExAt w y.e ue) :
    Calls Try.prog 25 #[.agg #[.int .i64 x.k, .string x.s, .int .i64 x.t.k, .int .i64 x.t.n, vt, .int .i64 x.e.k, .int .i64 x.e.n, .string x.e.m, .string x.e.s, ve, .int .i64 x.c], .agg #[.int .i64 y.k, .string y.s, .int .i64 y.t.k, .int .i64 y.t.n, ut, .int .i64 y.e.k, .int .i64 y.e.n, .string y.e.m, .string y.e.s, ue, .int .i64 y.c]] w fun e w' => e = .returned (.bool (sameN x y)) ∧ Below w.heap.size w w' := by
  have HX1 := Lib.hid hx1
  have HX2 := Lib.hid hx2
  have HY1 := Lib.hid hy1
  have HY2 := Lib.hid hy2
  obtain ⟨ta, tc, rfl, _⟩ := hx1.slice
  obtain ⟨ea, ec, rfl, _⟩ := hx2.slice
  obtain ⟨tb, td, rfl, _⟩ := hy1.slice
  obtain ⟨eb, ed, rfl, _⟩ := hy2.slice
  clear hx1 hx2 hy1 hy2
  obtain ⟨W1, hW1⟩ : ∃ W, (w.alloc (.cells #[.int .i64 x.k, .string x.s, .int .i64 x.t.k, .int .i64 x.t.n, .slice ta x.t.ks.length tc, .int .i64 x.e.k, .int .i64 x.e.n, .string x.e.m, .string x.e.s, .slice ea x.e.ks.length ec, .int .i64 x.c] 53)).alloc (.cells #[.int .i64 y.k, .string y.s, .int .i64 y.t.k, .int .i64 y.t.n, .slice tb y.t.ks.length td, .int .i64 y.e.k, .int .i64 y.e.n, .string y.e.m, .string y.e.s, .slice eb y.e.ks.length ed, .int .i64 y.c] 53) = W := ⟨_, rfl⟩
  have HBA : Hid (Below w.heap.size w W1) := Lib.hid (by rw [← hW1]; exact ((Below.refl _ _).alloc (Nat.le_refl _) _).alloc (by simp) _)
  have HX0 : Hid (LBox W1 w.heap.size (.int .i64 x.k) (.string x.s) (.int .i64 x.t.k) (.int .i64 x.t.n) (.slice ta x.t.ks.length tc) (.int .i64 x.e.k) (.int .i64 x.e.n) (.string x.e.m) (.string x.e.s) (.slice ea x.e.ks.length ec) (.int .i64 x.c)) := Lib.hid (by rw [← hW1]; exact (lbox_new w _ _ _ _ _ _ _ _ _ _ _ _).kept ((Below.refl _ _).alloc (Nat.le_refl _) _))
  have HY0 : Hid (LBox W1 (w.heap.size + 1) (.int .i64 y.k) (.string y.s) (.int .i64 y.t.k) (.int .i64 y.t.n) (.slice tb y.t.ks.length td) (.int .i64 y.e.k) (.int .i64 y.e.n) (.string y.e.m) (.string y.e.s) (.slice eb y.e.ks.length ed) (.int .i64 y.c)) := Lib.hid (by
    have h := lbox_new (w.alloc (.cells #[.int .i64 x.k, .string x.s, .int .i64 x.t.k, .int .i64 x.t.n, .slice ta x.t.ks.length tc, .int .i64 x.e.k, .int .i64 x.e.n, .string x.e.m, .string x.e.s, .slice ea x.e.ks.length ec, .int .i64 x.c] 53)) (.int .i64 y.k) (.string y.s) (.int .i64 y.t.k) (.int .i64 y.t.n) (.slice tb y.t.ks.length td) (.int .i64 y.e.k) (.int .i64 y.e.n) (.string y.e.m) (.string y.e.s) (.slice eb y.e.ks.length ed) (.int .i64 y.c) 53
    rw [hW1, sizeA2] at h; exact h)
  have HW1 := Lib.hid hW1
  clear hW1
  by_cases hk : x.k = y.k
  case neg =>
    have HS := Lib.hid (sameN_no (x := x) (y := y) (fun e => hk (by rw [e])))
    have e_k : (x.k == y.k) = false := by simpa using hk
    clear hk
    go_enter Try.func25, Try.ntmps25
    go_wp2_with fail
    rw [HW1.out]
    obtain ⟨p0, p1, p2, p3, p4, p5, p6, p7, p8, p9, p10, pz⟩ := HX0.out
    obtain ⟨q0, q1, q2, q3, q4, q5, q6, q7, q8, q9, q10, qz⟩ := HY0.out
    go_wp2_with fail
    go_ret
    exact ⟨ret_b HS.out.symm, HBA.out⟩
  by_cases hs : x.s = y.s
  case neg =>
    have HS := Lib.hid (sameN_no (x := x) (y := y) (fun e => hs (by rw [e])))
    have e_s : (x.s.toList == y.s.toList) = false := bytes_ne hs
    have e_k : (x.k == y.k) = true := by simpa using hk
    clear hs hk
    go_enter Try.func25, Try.ntmps25
    go_wp2_with fail
    rw [HW1.out]
    obtain ⟨p0, p1, p2, p3, p4, p5, p6, p7, p8, p9, p10, pz⟩ := HX0.out
    obtain ⟨q0, q1, q2, q3, q4, q5, q6, q7, q8, q9, q10, qz⟩ := HY0.out
    go_wp2_with fail
    go_ret
    exact ⟨ret_b HS.out.symm, HBA.out⟩
  by_cases hc : x.c = y.c
  case neg =>
    have HS := Lib.hid (sameN_no (x := x) (y := y) (fun e => hc (by rw [e])))
    have e_c : (x.c == y.c) = false := by simpa using hc
    have e_k : (x.k == y.k) = true := by simpa using hk
    have e_s : (x.s.toList == y.s.toList) = true := bytes_eq hs
    clear hc hk hs
    go_enter Try.func25, Try.ntmps25
    go_wp2_with fail
    rw [HW1.out]
    obtain ⟨p0, p1, p2, p3, p4, p5, p6, p7, p8, p9, p10, pz⟩ := HX0.out
    obtain ⟨q0, q1, q2, q3, q4, q5, q6, q7, q8, q9, q10, qz⟩ := HY0.out
    go_wp2_with fail
    go_ret
    exact ⟨ret_b HS.out.symm, HBA.out⟩
  have e_k : (x.k == y.k) = true := by simpa using hk
  have e_s : (x.s.toList == y.s.toList) = true := bytes_eq hs
  have e_c : (x.c == y.c) = true := by simpa using hc
  have HK := Lib.hid hk
  have HS := Lib.hid hs
  have HC := Lib.hid hc
  clear hk hs hc
  rcases ht : sameB x.t y.t with _ | _
  · have HF := Lib.hid (samen_t ht)
    have HT := Lib.hid ht
    clear ht
    go_enter Try.func25, Try.ntmps25
    go_wp2_with fail
    rw [HW1.out]
    obtain ⟨p0, p1, p2, p3, p4, p5, p6, p7, p8, p9, p10, pz⟩ := HX0.out
    obtain ⟨q0, q1, q2, q3, q4, q5, q6, q7, q8, q9, q10, qz⟩ := HY0.out
    go_wp2_with fail
    go_at_call 46
    refine (typeSame_spec _ x.t y.t _ _ _ (Nat.lt_succ_self _) (HX1.out.kept HBA.out) (HY1.out.kept HBA.out)).mono ?_
    rintro e w2 ⟨rfl, hb2⟩
    rw [HT.out]
    have HB2 := Lib.hid (HBA.out.trans (hb2.mono HBA.out.size))
    clear hb2
    go_wp2_with fail
    go_ret
    exact ⟨ret_b HF.out.symm, HB2.out⟩
  · have HF := Lib.hid (samen_parts HK.out HS.out HC.out ht)
    have HT := Lib.hid ht
    clear ht
    go_enter Try.func25, Try.ntmps25
    go_wp2_with fail
    rw [HW1.out]
    obtain ⟨p0, p1, p2, p3, p4, p5, p6, p7, p8, p9, p10, pz⟩ := HX0.out
    obtain ⟨q0, q1, q2, q3, q4, q5, q6, q7, q8, q9, q10, qz⟩ := HY0.out
    go_wp2_with fail
    go_at_call 46
    refine (typeSame_spec _ x.t y.t _ _ _ (Nat.lt_succ_self _) (HX1.out.kept HBA.out) (HY1.out.kept HBA.out)).mono ?_
    rintro e w2 ⟨rfl, hb2⟩
    rw [HT.out]
    have HXB2 := Lib.hid (HX0.out.kept hb2)
    have HYB2 := Lib.hid (HY0.out.kept hb2)
    have HB2 := Lib.hid (HBA.out.trans (hb2.mono HBA.out.size))
    clear hb2 p0 p1 p2 p3 p4 p5 p6 p7 p8 p9 p10 pz q0 q1 q2 q3 q4 q5 q6 q7 q8 q9 q10 qz
    obtain ⟨p0, p1, p2, p3, p4, p5, p6, p7, p8, p9, p10, pz⟩ := HXB2.out
    obtain ⟨q0, q1, q2, q3, q4, q5, q6, q7, q8, q9, q10, qz⟩ := HYB2.out
    go_wp2_with fail
    go_at_call 13
    refine (Ox.exprSame_spec _ x.e y.e _ _ _ (Nat.lt_succ_self _) (HX2.out.kept HB2.out) (HY2.out.kept HB2.out)).mono ?_
    rintro e w3 ⟨rfl, hb3⟩
    have HB3 := Lib.hid (HB2.out.trans (hb3.mono HB2.out.size))
    clear hb3
    go_wp2_with fail
    go_ret
    exact ⟨ret_b HF.out.symm, HB3.out⟩

set_option maxRecDepth 100000 in
set_option maxHeartbeats 8000000 in
theorem lineSame_impl (x y : Ln) (vt ve ut ue : Value) (w : World) (hn1 : nodes x.t ≤ 1048577) (hn2 : Ox.nodes x.e ≤ 1048577) (hx1 : TyOk w x.t vt) (hx2 : ExOk w x.e ve) (hy1 : TyOk w y.t ut) (hy2 : ExOk w y.e ue) :
    Calls Try.prog 27 #[.agg #[.int .i64 x.k, .string x.s, .int .i64 x.t.k, .int .i64 x.t.n, vt, .int .i64 x.e.k, .int .i64 x.e.n, .string x.e.m, .string x.e.s, ve, .int .i64 x.c], .agg #[.int .i64 y.k, .string y.s, .int .i64 y.t.k, .int .i64 y.t.n, ut, .int .i64 y.e.k, .int .i64 y.e.n, .string y.e.m, .string y.e.s, ue, .int .i64 y.c]] w fun e w' => e = .returned (.bool (sameN x y)) ∧ Below w.heap.size w w' := by
  have HX1 := Lib.hid hx1
  have HX2 := Lib.hid hx2
  have HY1 := Lib.hid hy1
  have HY2 := Lib.hid hy2
  obtain ⟨ta, tc, rfl, _⟩ := hx1.at.slice
  obtain ⟨ea, ec, rfl, _⟩ := hx2.at.slice
  obtain ⟨tb, td, rfl, _⟩ := hy1.at.slice
  obtain ⟨eb, ed, rfl, _⟩ := hy2.at.slice
  clear hx1 hx2 hy1 hy2
  obtain ⟨W1, hW1⟩ : ∃ W, (w.alloc (.cells #[.int .i64 x.k, .string x.s, .int .i64 x.t.k, .int .i64 x.t.n, .slice ta x.t.ks.length tc, .int .i64 x.e.k, .int .i64 x.e.n, .string x.e.m, .string x.e.s, .slice ea x.e.ks.length ec, .int .i64 x.c] 53)).alloc (.cells #[.int .i64 y.k, .string y.s, .int .i64 y.t.k, .int .i64 y.t.n, .slice tb y.t.ks.length td, .int .i64 y.e.k, .int .i64 y.e.n, .string y.e.m, .string y.e.s, .slice eb y.e.ks.length ed, .int .i64 y.c] 53) = W := ⟨_, rfl⟩
  have HBA : Hid (Below w.heap.size w W1) := Lib.hid (by rw [← hW1]; exact ((Below.refl _ _).alloc (Nat.le_refl _) _).alloc (by simp) _)
  have HX0 : Hid (LBox W1 w.heap.size (.int .i64 x.k) (.string x.s) (.int .i64 x.t.k) (.int .i64 x.t.n) (.slice ta x.t.ks.length tc) (.int .i64 x.e.k) (.int .i64 x.e.n) (.string x.e.m) (.string x.e.s) (.slice ea x.e.ks.length ec) (.int .i64 x.c)) := Lib.hid (by rw [← hW1]; exact (lbox_new w _ _ _ _ _ _ _ _ _ _ _ _).kept ((Below.refl _ _).alloc (Nat.le_refl _) _))
  have HY0 : Hid (LBox W1 (w.heap.size + 1) (.int .i64 y.k) (.string y.s) (.int .i64 y.t.k) (.int .i64 y.t.n) (.slice tb y.t.ks.length td) (.int .i64 y.e.k) (.int .i64 y.e.n) (.string y.e.m) (.string y.e.s) (.slice eb y.e.ks.length ed) (.int .i64 y.c)) := Lib.hid (by
    have h := lbox_new (w.alloc (.cells #[.int .i64 x.k, .string x.s, .int .i64 x.t.k, .int .i64 x.t.n, .slice ta x.t.ks.length tc, .int .i64 x.e.k, .int .i64 x.e.n, .string x.e.m, .string x.e.s, .slice ea x.e.ks.length ec, .int .i64 x.c] 53)) (.int .i64 y.k) (.string y.s) (.int .i64 y.t.k) (.int .i64 y.t.n) (.slice tb y.t.ks.length td) (.int .i64 y.e.k) (.int .i64 y.e.n) (.string y.e.m) (.string y.e.s) (.slice eb y.e.ks.length ed) (.int .i64 y.c) 53
    rw [hW1, sizeA2] at h; exact h)
  have HW1 := Lib.hid hW1
  clear hW1
  by_cases hk : x.k = y.k
  case neg =>
    have HS := Lib.hid (sameN_no (x := x) (y := y) (fun e => hk (by rw [e])))
    have e_k : (x.k == y.k) = false := by simpa using hk
    clear hk
    go_enter Try.func27, Try.ntmps27
    go_wp2_with fail
    rw [HW1.out]
    obtain ⟨p0, p1, p2, p3, p4, p5, p6, p7, p8, p9, p10, pz⟩ := HX0.out
    obtain ⟨q0, q1, q2, q3, q4, q5, q6, q7, q8, q9, q10, qz⟩ := HY0.out
    go_wp2_with fail
    go_ret
    exact ⟨ret_b HS.out.symm, HBA.out⟩
  by_cases hs : x.s = y.s
  case neg =>
    have HS := Lib.hid (sameN_no (x := x) (y := y) (fun e => hs (by rw [e])))
    have e_s : (x.s.toList == y.s.toList) = false := bytes_ne hs
    have e_k : (x.k == y.k) = true := by simpa using hk
    clear hs hk
    go_enter Try.func27, Try.ntmps27
    go_wp2_with fail
    rw [HW1.out]
    obtain ⟨p0, p1, p2, p3, p4, p5, p6, p7, p8, p9, p10, pz⟩ := HX0.out
    obtain ⟨q0, q1, q2, q3, q4, q5, q6, q7, q8, q9, q10, qz⟩ := HY0.out
    go_wp2_with fail
    go_ret
    exact ⟨ret_b HS.out.symm, HBA.out⟩
  by_cases hc : x.c = y.c
  case neg =>
    have HS := Lib.hid (sameN_no (x := x) (y := y) (fun e => hc (by rw [e])))
    have e_c : (x.c == y.c) = false := by simpa using hc
    have e_k : (x.k == y.k) = true := by simpa using hk
    have e_s : (x.s.toList == y.s.toList) = true := bytes_eq hs
    clear hc hk hs
    go_enter Try.func27, Try.ntmps27
    go_wp2_with fail
    rw [HW1.out]
    obtain ⟨p0, p1, p2, p3, p4, p5, p6, p7, p8, p9, p10, pz⟩ := HX0.out
    obtain ⟨q0, q1, q2, q3, q4, q5, q6, q7, q8, q9, q10, qz⟩ := HY0.out
    go_wp2_with fail
    go_ret
    exact ⟨ret_b HS.out.symm, HBA.out⟩
  have e_k : (x.k == y.k) = true := by simpa using hk
  have e_s : (x.s.toList == y.s.toList) = true := bytes_eq hs
  have e_c : (x.c == y.c) = true := by simpa using hc
  have HK := Lib.hid hk
  have HS := Lib.hid hs
  have HC := Lib.hid hc
  clear hk hs hc
  rcases ht : sameB x.t y.t with _ | _
  · have HF := Lib.hid (samen_t ht)
    have HT := Lib.hid ht
    clear ht
    go_enter Try.func27, Try.ntmps27
    go_wp2_with fail
    rw [HW1.out]
    obtain ⟨p0, p1, p2, p3, p4, p5, p6, p7, p8, p9, p10, pz⟩ := HX0.out
    obtain ⟨q0, q1, q2, q3, q4, q5, q6, q7, q8, q9, q10, qz⟩ := HY0.out
    go_wp2_with fail
    go_at_call 48
    refine (typeSame_impl x.t y.t 0 _ _ _ hn1 (HX1.out.kept HBA.out) (HY1.out.kept HBA.out)).mono ?_
    rintro e w2 ⟨rfl, hb2⟩
    rw [HT.out]
    have HB2 := Lib.hid (HBA.out.trans (hb2.mono HBA.out.size))
    clear hb2
    go_wp2_with fail
    go_ret
    exact ⟨ret_b HF.out.symm, HB2.out⟩
  · have HF := Lib.hid (samen_parts HK.out HS.out HC.out ht)
    have HT := Lib.hid ht
    clear ht
    go_enter Try.func27, Try.ntmps27
    go_wp2_with fail
    rw [HW1.out]
    obtain ⟨p0, p1, p2, p3, p4, p5, p6, p7, p8, p9, p10, pz⟩ := HX0.out
    obtain ⟨q0, q1, q2, q3, q4, q5, q6, q7, q8, q9, q10, qz⟩ := HY0.out
    go_wp2_with fail
    go_at_call 48
    refine (typeSame_impl x.t y.t 0 _ _ _ hn1 (HX1.out.kept HBA.out) (HY1.out.kept HBA.out)).mono ?_
    rintro e w2 ⟨rfl, hb2⟩
    rw [HT.out]
    have HXB2 := Lib.hid (HX0.out.kept hb2)
    have HYB2 := Lib.hid (HY0.out.kept hb2)
    have HB2 := Lib.hid (HBA.out.trans (hb2.mono HBA.out.size))
    clear hb2 p0 p1 p2 p3 p4 p5 p6 p7 p8 p9 p10 pz q0 q1 q2 q3 q4 q5 q6 q7 q8 q9 q10 qz
    obtain ⟨p0, p1, p2, p3, p4, p5, p6, p7, p8, p9, p10, pz⟩ := HXB2.out
    obtain ⟨q0, q1, q2, q3, q4, q5, q6, q7, q8, q9, q10, qz⟩ := HYB2.out
    go_wp2_with fail
    go_at_call 14
    refine (Ox.exprSame_impl x.e y.e 0 _ _ _ hn2 (HX2.out.kept HB2.out) (HY2.out.kept HB2.out)).mono ?_
    rintro e w3 ⟨rfl, hb3⟩
    have HB3 := Lib.hid (HB2.out.trans (hb3.mono HB2.out.size))
    clear hb3
    go_wp2_with fail
    go_ret
    exact ⟨ret_b HF.out.symm, HB3.out⟩

end Go.Proofs.Ytncpakpamfocbaa
