/-
  What the checks of an edit return, in the program and in the model of it: for every text of at most maxLen bytes and every edit, whether it fits; what was in memory stays.
-/
import Derived.Test.YtpihopmgckdigaaDoorProg
import Derived.Test.YtpihopmgckdigaaDoorTa
import Derived.Test.YtpihopmgckdigaaDoorTb
import Derived.Deep.RegionWith
namespace Go.Proofs.YtpihopmgckdigaaDoor
open Go.RowKit

set_option maxRecDepth 100000 in
set_option maxHeartbeats 400000 in
theorem growth_any (f t : Int) (i : ByteArray) (h0 : 0 ≤ f) (h1 : f ≤ t) (h2 : t ≤ 1000000) (hi : i.size ≤ 1000000) (w : World) :
    Calls Tryd.prog 106 #[.agg #[.int .i64 f, .int .i64 t, .string i]] w fun e w' => e = .returned (.int .i64 ((i.size : Int) - (t - f))) ∧ Below w.heap.size w w' := by
  go_enter Tryd.func106, Tryd.ntmps106
  go_wp2
  go_ret
  exact ⟨rfl, (Below.refl _ _).alloc (Nat.le_refl _) _⟩

theorem fits_1 {s : ByteArray} {f t : Int} {i : ByteArray} (h : tv s = false) : fitsB s f t i = false := by
  rcases hb : fitsB s f t i with _ | _
  · rfl
  · have := fitsB_iff.mp hb; simp [h] at this
theorem fits_2 {s : ByteArray} {f t : Int} {i : ByteArray} (h : tv i = false) : fitsB s f t i = false := by
  rcases hb : fitsB s f t i with _ | _
  · rfl
  · have := fitsB_iff.mp hb; simp [h] at this
theorem fits_3 {s : ByteArray} {f t : Int} {i : ByteArray} (h : f < 0) : fitsB s f t i = false := by
  rcases hb : fitsB s f t i with _ | _
  · rfl
  · have := fitsB_iff.mp hb; omega
theorem fits_4 {s : ByteArray} {f t : Int} {i : ByteArray} (h : t < f) : fitsB s f t i = false := by
  rcases hb : fitsB s f t i with _ | _
  · rfl
  · have := fitsB_iff.mp hb; omega
theorem fits_5 {s : ByteArray} {f t : Int} {i : ByteArray} (h : s.size < t) : fitsB s f t i = false := by
  rcases hb : fitsB s f t i with _ | _
  · rfl
  · have := fitsB_iff.mp hb; omega
theorem fits_6 {s : ByteArray} {f t : Int} {i : ByteArray} (h : 2000 < (s.size : Int) + (i.size - (t - f))) : fitsB s f t i = false := by
  rcases hb : fitsB s f t i with _ | _
  · rfl
  · have := fitsB_iff.mp hb; omega
theorem fits_7 {s : ByteArray} {f t : Int} {i : ByteArray} (h1 : tv s = true) (h2 : tv i = true) (h3 : 0 ≤ f) (h4 : f ≤ t) (h5 : t ≤ s.size) (h : (s.size : Int) + (i.size - (t - f)) ≤ 2000) : fitsB s f t i = true :=
  fitsB_iff.mpr ⟨h1, h2, h3, h4, h5, h⟩

set_option maxRecDepth 100000 in
set_option maxHeartbeats 1000000 in
theorem fits_any (s : ByteArray) (f t : Int) (i : ByteArray) (b : Bool) (hb : fitsB s f t i = b) (hs : s.size ≤ maxLen) (hi : i.size ≤ maxLen) (w : World) :
    Calls Tryd.prog 89 #[.agg #[.int .i64 f, .int .i64 t, .string i], .string s] w fun e w' => e = .returned (.bool b) ∧ Below w.heap.size w w' := by
  subst hb
  have HSL := Lib.hid hs
  have HIL := Lib.hid hi
  unfold maxLen at hs hi
  rcases hv1 : tv s with _ | _
  · have HS := Lib.hid hv1
    clear hv1
    have HF := Lib.hid (fits_1 (f := f) (t := t) (i := i) HS.out)
    go_enter Tryd.func89, Tryd.ntmps89
    go_wp2_with (first | (go_at_call_of 79 (Value.string s); refine (textValid_impl s _ HS.out HSL.out _).mono ?_; rintro e w1 ⟨rfl, rfl⟩) | (go_at_call_of 79 (Value.string i); refine (textValid_impl i _ HI.out HIL.out _).mono ?_; rintro e w1 ⟨rfl, rfl⟩))
    go_ret
    exact ⟨ret_bool (by first | exact HF.out.symm | (rw [HF.out]; exact decide_eq_false (by omega)) | (rw [HF.out]; exact decide_eq_true (by omega))), (Below.refl _ _).alloc (Nat.le_refl _) _⟩
  have HS := Lib.hid hv1
  have hz1 := tv_size hv1
  clear hv1
  rcases hv2 : tv i with _ | _
  · have HI := Lib.hid hv2
    clear hv2
    have HF := Lib.hid (fits_2 (s := s) (f := f) (t := t) HI.out)
    go_enter Tryd.func89, Tryd.ntmps89
    go_wp2_with (first | (go_at_call_of 79 (Value.string s); refine (textValid_impl s _ HS.out HSL.out _).mono ?_; rintro e w1 ⟨rfl, rfl⟩) | (go_at_call_of 79 (Value.string i); refine (textValid_impl i _ HI.out HIL.out _).mono ?_; rintro e w1 ⟨rfl, rfl⟩))
    go_ret
    exact ⟨ret_bool (by first | exact HF.out.symm | (rw [HF.out]; exact decide_eq_false (by omega)) | (rw [HF.out]; exact decide_eq_true (by omega))), (Below.refl _ _).alloc (Nat.le_refl _) _⟩
  have HI := Lib.hid hv2
  have hz2 := tv_size hv2
  clear hv2
  by_cases h3 : 0 ≤ f
  case neg =>
    have HF := Lib.hid (fits_3 (s := s) (t := t) (i := i) (by omega : f < 0))
    go_enter Tryd.func89, Tryd.ntmps89
    go_wp2_with (first | (go_at_call_of 79 (Value.string s); refine (textValid_impl s _ HS.out HSL.out _).mono ?_; rintro e w1 ⟨rfl, rfl⟩) | (go_at_call_of 79 (Value.string i); refine (textValid_impl i _ HI.out HIL.out _).mono ?_; rintro e w1 ⟨rfl, rfl⟩))
    go_ret
    exact ⟨ret_bool (by first | exact HF.out.symm | (rw [HF.out]; exact decide_eq_false (by omega)) | (rw [HF.out]; exact decide_eq_true (by omega))), (Below.refl _ _).alloc (Nat.le_refl _) _⟩
  by_cases h4 : f ≤ t
  case neg =>
    have HF := Lib.hid (fits_4 (s := s) (i := i) (by omega : t < f))
    go_enter Tryd.func89, Tryd.ntmps89
    go_wp2_with (first | (go_at_call_of 79 (Value.string s); refine (textValid_impl s _ HS.out HSL.out _).mono ?_; rintro e w1 ⟨rfl, rfl⟩) | (go_at_call_of 79 (Value.string i); refine (textValid_impl i _ HI.out HIL.out _).mono ?_; rintro e w1 ⟨rfl, rfl⟩))
    go_ret
    exact ⟨ret_bool (by first | exact HF.out.symm | (rw [HF.out]; exact decide_eq_false (by omega)) | (rw [HF.out]; exact decide_eq_true (by omega))), (Below.refl _ _).alloc (Nat.le_refl _) _⟩
  by_cases h5 : t ≤ s.size
  case neg =>
    have HF := Lib.hid (fits_5 (f := f) (i := i) (by omega : (s.size : Int) < t))
    go_enter Tryd.func89, Tryd.ntmps89
    go_wp2_with (first | (go_at_call_of 79 (Value.string s); refine (textValid_impl s _ HS.out HSL.out _).mono ?_; rintro e w1 ⟨rfl, rfl⟩) | (go_at_call_of 79 (Value.string i); refine (textValid_impl i _ HI.out HIL.out _).mono ?_; rintro e w1 ⟨rfl, rfl⟩))
    go_ret
    exact ⟨ret_bool (by first | exact HF.out.symm | (rw [HF.out]; exact decide_eq_false (by omega)) | (rw [HF.out]; exact decide_eq_true (by omega))), (Below.refl _ _).alloc (Nat.le_refl _) _⟩
  by_cases h6 : (s.size : Int) + (i.size - (t - f)) ≤ 2000
  case neg =>
    have HF := Lib.hid (fits_6 (s := s) (f := f) (t := t) (i := i) (by omega))
    go_enter Tryd.func89, Tryd.ntmps89
    go_wp2_with (first | (go_at_call_of 79 (Value.string s); refine (textValid_impl s _ HS.out HSL.out _).mono ?_; rintro e w1 ⟨rfl, rfl⟩) | (go_at_call_of 79 (Value.string i); refine (textValid_impl i _ HI.out HIL.out _).mono ?_; rintro e w1 ⟨rfl, rfl⟩) | (go_at_call 106; refine (growth_any f t i h3 h4 (by omega) (by omega) _).mono ?_; rintro e w1 ⟨rfl, hb1⟩))
    go_ret
    exact ⟨ret_bool (by first | exact HF.out.symm | (rw [HF.out]; exact decide_eq_false (by omega)) | (rw [HF.out]; exact decide_eq_true (by omega))), ((Below.refl _ _).alloc (Nat.le_refl _) _).trans (hb1.mono (by simp))⟩
  have HF := Lib.hid (fits_7 (s := s) (f := f) (t := t) (i := i) HS.out HI.out h3 h4 h5 h6)
  go_enter Tryd.func89, Tryd.ntmps89
  go_wp2_with (first | (go_at_call_of 79 (Value.string s); refine (textValid_impl s _ HS.out HSL.out _).mono ?_; rintro e w1 ⟨rfl, rfl⟩) | (go_at_call_of 79 (Value.string i); refine (textValid_impl i _ HI.out HIL.out _).mono ?_; rintro e w1 ⟨rfl, rfl⟩) | (go_at_call 106; refine (growth_any f t i h3 h4 (by omega) (by omega) _).mono ?_; rintro e w1 ⟨rfl, hb1⟩))
  go_ret
  exact ⟨ret_bool (by first | exact HF.out.symm | (rw [HF.out]; exact decide_eq_false (by omega)) | (rw [HF.out]; exact decide_eq_true (by omega))), ((Below.refl _ _).alloc (Nat.le_refl _) _).trans (hb1.mono (by simp))⟩

set_option maxRecDepth 100000 in
set_option maxHeartbeats 1000000 in
theorem editValid_spec (s : ByteArray) (f t : Int) (i : ByteArray) (b : Bool) (hb : fitsB s f t i = b) (hs : s.size ≤ maxLen) (hi : i.size ≤ maxLen) (w : World) :
    Calls Tryd.prog 66 #[.string s, .agg #[.int .i64 f, .int .i64 t, .string i]] w fun e w' => e = .returned (.bool b) ∧ Below w.heap.size w w' := by
  subst hb
  have HSL := Lib.hid hs
  have HIL := Lib.hid hi
  unfold maxLen at hs hi
  rcases hv1 : tv s with _ | _
  · have HS := Lib.hid hv1
    clear hv1
    have HF := Lib.hid (fits_1 (f := f) (t := t) (i := i) HS.out)
    go_enter Tryd.func66, Tryd.ntmps66
    go_wp2_with (first | (go_at_call_of 69 (Value.string s); refine (textValid_spec s _ HS.out HSL.out _).mono ?_; rintro e w1 ⟨rfl, rfl⟩) | (go_at_call_of 69 (Value.string i); refine (textValid_spec i _ HI.out HIL.out _).mono ?_; rintro e w1 ⟨rfl, rfl⟩))
    go_ret
    exact ⟨ret_bool (by first | exact HF.out.symm | (rw [HF.out]; exact decide_eq_false (by omega)) | (rw [HF.out]; exact decide_eq_true (by omega))), (Below.refl _ _).alloc (Nat.le_refl _) _⟩
  have HS := Lib.hid hv1
  have hz1 := tv_size hv1
  clear hv1
  by_cases h3 : 0 ≤ f
  case neg =>
    have HF := Lib.hid (fits_3 (s := s) (t := t) (i := i) (by omega : f < 0))
    go_enter Tryd.func66, Tryd.ntmps66
    go_wp2_with (first | (go_at_call_of 69 (Value.string s); refine (textValid_spec s _ HS.out HSL.out _).mono ?_; rintro e w1 ⟨rfl, rfl⟩) | (go_at_call_of 69 (Value.string i); refine (textValid_spec i _ HI.out HIL.out _).mono ?_; rintro e w1 ⟨rfl, rfl⟩))
    go_ret
    exact ⟨ret_bool (by first | exact HF.out.symm | (rw [HF.out]; exact decide_eq_false (by omega)) | (rw [HF.out]; exact decide_eq_true (by omega))), (Below.refl _ _).alloc (Nat.le_refl _) _⟩
  by_cases h4 : f ≤ t
  case neg =>
    have HF := Lib.hid (fits_4 (s := s) (i := i) (by omega : t < f))
    go_enter Tryd.func66, Tryd.ntmps66
    go_wp2_with (first | (go_at_call_of 69 (Value.string s); refine (textValid_spec s _ HS.out HSL.out _).mono ?_; rintro e w1 ⟨rfl, rfl⟩) | (go_at_call_of 69 (Value.string i); refine (textValid_spec i _ HI.out HIL.out _).mono ?_; rintro e w1 ⟨rfl, rfl⟩))
    go_ret
    exact ⟨ret_bool (by first | exact HF.out.symm | (rw [HF.out]; exact decide_eq_false (by omega)) | (rw [HF.out]; exact decide_eq_true (by omega))), (Below.refl _ _).alloc (Nat.le_refl _) _⟩
  by_cases h5 : t ≤ s.size
  case neg =>
    have HF := Lib.hid (fits_5 (f := f) (i := i) (by omega : (s.size : Int) < t))
    go_enter Tryd.func66, Tryd.ntmps66
    go_wp2_with (first | (go_at_call_of 69 (Value.string s); refine (textValid_spec s _ HS.out HSL.out _).mono ?_; rintro e w1 ⟨rfl, rfl⟩) | (go_at_call_of 69 (Value.string i); refine (textValid_spec i _ HI.out HIL.out _).mono ?_; rintro e w1 ⟨rfl, rfl⟩))
    go_ret
    exact ⟨ret_bool (by first | exact HF.out.symm | (rw [HF.out]; exact decide_eq_false (by omega)) | (rw [HF.out]; exact decide_eq_true (by omega))), (Below.refl _ _).alloc (Nat.le_refl _) _⟩
  rcases hv2 : tv i with _ | _
  · have HI := Lib.hid hv2
    clear hv2
    have HF := Lib.hid (fits_2 (s := s) (f := f) (t := t) HI.out)
    go_enter Tryd.func66, Tryd.ntmps66
    go_wp2_with (first | (go_at_call_of 69 (Value.string s); refine (textValid_spec s _ HS.out HSL.out _).mono ?_; rintro e w1 ⟨rfl, rfl⟩) | (go_at_call_of 69 (Value.string i); refine (textValid_spec i _ HI.out HIL.out _).mono ?_; rintro e w1 ⟨rfl, rfl⟩))
    go_ret
    exact ⟨ret_bool (by first | exact HF.out.symm | (rw [HF.out]; exact decide_eq_false (by omega)) | (rw [HF.out]; exact decide_eq_true (by omega))), (Below.refl _ _).alloc (Nat.le_refl _) _⟩
  have HI := Lib.hid hv2
  have hz2 := tv_size hv2
  clear hv2
  by_cases h6 : (s.size : Int) + (i.size - (t - f)) ≤ 2000
  case neg =>
    have HF := Lib.hid (fits_6 (s := s) (f := f) (t := t) (i := i) (by omega))
    go_enter Tryd.func66, Tryd.ntmps66
    go_wp2_with (first | (go_at_call_of 69 (Value.string s); refine (textValid_spec s _ HS.out HSL.out _).mono ?_; rintro e w1 ⟨rfl, rfl⟩) | (go_at_call_of 69 (Value.string i); refine (textValid_spec i _ HI.out HIL.out _).mono ?_; rintro e w1 ⟨rfl, rfl⟩))
    go_ret
    exact ⟨ret_bool (by first | exact HF.out.symm | (rw [HF.out]; exact decide_eq_false (by omega)) | (rw [HF.out]; exact decide_eq_true (by omega))), (Below.refl _ _).alloc (Nat.le_refl _) _⟩
  have HF := Lib.hid (fits_7 (s := s) (f := f) (t := t) (i := i) HS.out HI.out h3 h4 h5 h6)
  go_enter Tryd.func66, Tryd.ntmps66
  go_wp2_with (first | (go_at_call_of 69 (Value.string s); refine (textValid_spec s _ HS.out HSL.out _).mono ?_; rintro e w1 ⟨rfl, rfl⟩) | (go_at_call_of 69 (Value.string i); refine (textValid_spec i _ HI.out HIL.out _).mono ?_; rintro e w1 ⟨rfl, rfl⟩))
  go_ret
  exact ⟨ret_bool (by first | exact HF.out.symm | (rw [HF.out]; exact decide_eq_false (by omega)) | (rw [HF.out]; exact decide_eq_true (by omega))), (Below.refl _ _).alloc (Nat.le_refl _) _⟩

end Go.Proofs.YtpihopmgckdigaaDoor
