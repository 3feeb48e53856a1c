/-
  What the exact laws' helpers, ApplyEdit and InvertEdit return, in the program and in the model: for every text of at most maxLen bytes and every edit; what was in memory stays.
-/
import Derived.Test.YtpihopmgckdigaaDoorProg
import Derived.Test.YtpihopmgckdigaaDoorTc
import Derived.Deep.QuietTactic
import Derived.BigQuiet
import Derived.RegionTactic
import Derived.ChangeAlike
namespace Go.Proofs.YtpihopmgckdigaaDoor
open Go.RowKit

/-- The text behind an edit that fits. -/
def ap (s : ByteArray) (f t : Int) (i : ByteArray) : ByteArray := s.extract 0 f.toNat ++ i ++ s.extract t.toNat s.size

set_option maxRecDepth 100000 in
set_option maxHeartbeats 400000 in
theorem applied_any (s : ByteArray) (f t : Int) (i : ByteArray) (h0 : 0 ≤ f) (h1 : f ≤ t) (h2 : t ≤ s.size) (hs : s.size ≤ 2000) (hi : i.size ≤ 2000) (w : World) :
    Calls Tryd.prog 90 #[.agg #[.int .i64 f, .int .i64 t, .string i], .string s] w fun e w' => e = .returned (.string (ap s f t i)) ∧ Below w.heap.size w w' := by
  go_enter Tryd.func90, Tryd.ntmps90
  go_wp2
  go_quiet (fail)
  go_wp2
  go_ret
  exact ⟨rfl, below_drewN ((Below.refl _ _).alloc (Nat.le_refl _) _) _⟩

set_option maxRecDepth 100000 in
set_option maxHeartbeats 400000 in
theorem l1Apply_any (s : ByteArray) (f t : Int) (i : ByteArray) (h0 : 0 ≤ f) (h1 : f ≤ t) (h2 : t ≤ s.size) (hs : s.size ≤ 2000) (hi : i.size ≤ 2000) (w : World) :
    Calls Tryd.prog 67 #[.string s, .agg #[.int .i64 f, .int .i64 t, .string i]] w fun e w' => e = .returned (.string (ap s f t i)) ∧ Below w.heap.size w w' := by
  go_enter Tryd.func67, Tryd.ntmps67
  go_wp2
  go_quiet (fail)
  go_wp2
  go_ret
  exact ⟨rfl, below_drewN ((Below.refl _ _).alloc (Nat.le_refl _) _) _⟩

set_option maxRecDepth 100000 in
set_option maxHeartbeats 400000 in
theorem inverse_any (s : ByteArray) (f t : Int) (i : ByteArray) (h0 : 0 ≤ f) (h1 : f ≤ t) (h2 : t ≤ s.size) (hs : s.size ≤ 2000) (hi : i.size ≤ 2000) (w : World) :
    Calls Tryd.prog 74 #[.agg #[.int .i64 f, .int .i64 t, .string i], .string s] w fun e w' => e = .returned (.agg #[.int .i64 f, .int .i64 (f + i.size), .string (s.extract f.toNat t.toNat)]) ∧ Below w.heap.size w w' := by
  go_enter Tryd.func74, Tryd.ntmps74
  go_wp2
  go_region
  all_goals go_wp2
  all_goals exact bodyPost_ret (v := .agg #[.int .i64 f, .int .i64 (f + i.size), .string (s.extract f.toNat t.toNat)]) (by simp [results, Tryd.results74, go_sem]) rfl ⟨rfl, (((Below.refl _ _).alloc (Nat.le_refl _) _).alloc (by simp) _).drew⟩


set_option maxRecDepth 100000 in
set_option maxHeartbeats 400000 in
theorem applyEdit_impl_no (s : ByteArray) (f t : Int) (i : ByteArray) (hb : fitsB s f t i = false) (hs : s.size ≤ maxLen) (hi : i.size ≤ maxLen) (w : World) :
    Calls Tryd.prog 73 #[.string s, .agg #[.int .i64 f, .int .i64 t, .string i]] w fun e w' => e = .returned (.tuple #[.string ⟨#[]⟩, .bool false]) ∧ Below w.heap.size w w' := by
  have HSL := Lib.hid hs
  have HIL := Lib.hid hi
  have HB := Lib.hid hb
  unfold maxLen at hs hi
  clear hb
  go_enter Tryd.func73, Tryd.ntmps73
  go_wp2_with (go_at_call 89; refine (fits_any s f t i _ HB.out HSL.out HIL.out _).mono ?_; rintro e w1 ⟨rfl, hb1⟩)
  go_ret2
  exact ⟨rfl, ((Below.refl _ _).alloc (Nat.le_refl _) _).trans (hb1.mono (by simp))⟩
set_option maxRecDepth 100000 in
set_option maxHeartbeats 400000 in
theorem applyEdit_impl_yes (s : ByteArray) (f t : Int) (i : ByteArray) (hb : fitsB s f t i = true) (w : World) :
    Calls Tryd.prog 73 #[.string s, .agg #[.int .i64 f, .int .i64 t, .string i]] w fun e w' => e = .returned (.tuple #[.string (ap s f t i), .bool true]) ∧ Below w.heap.size w w' := by
  have HB := Lib.hid hb
  obtain ⟨hv1, hv2, h0, h1, h2, h3⟩ := fitsB_iff.mp hb
  have hs := tv_size hv1
  have hi := tv_size hv2
  clear hb hv1 hv2
  go_enter Tryd.func73, Tryd.ntmps73
  go_wp2_with (first | (go_at_call 89; refine (fits_any s f t i _ HB.out (by unfold maxLen; omega) (by unfold maxLen; omega) _).mono ?_; rintro e w1 ⟨rfl, hb1⟩; obtain ⟨hc1, hf1⟩ := bcell hb1; have hz1 := hb1.size; simp at hz1) | (go_at_call 90; refine (applied_any s f t i h0 h1 h2 hs hi _).mono ?_; rintro e w2 ⟨rfl, hb2⟩))
  go_ret2
  exact ⟨rfl, (((Below.refl _ _).alloc (Nat.le_refl _) _).trans (hb1.mono (by simp))).trans (hb2.mono (by omega))⟩


set_option maxRecDepth 100000 in
set_option maxHeartbeats 400000 in
theorem applyEdit_spec_no (s : ByteArray) (f t : Int) (i : ByteArray) (hb : fitsB s f t i = false) (hs : s.size ≤ maxLen) (hi : i.size ≤ maxLen) (w : World) :
    Calls Tryd.prog 42 #[.string s, .agg #[.int .i64 f, .int .i64 t, .string i]] w fun e w' => e = .returned (.tuple #[.string ⟨#[]⟩, .bool false]) ∧ Below w.heap.size w w' := by
  have HSL := Lib.hid hs
  have HIL := Lib.hid hi
  have HB := Lib.hid hb
  unfold maxLen at hs hi
  clear hb
  go_enter Tryd.func42, Tryd.ntmps42
  go_wp2_with (go_at_call 66; refine (editValid_spec s f t i _ HB.out HSL.out HIL.out _).mono ?_; rintro e w1 ⟨rfl, hb1⟩)
  go_ret2
  exact ⟨rfl, ((Below.refl _ _).alloc (Nat.le_refl _) _).trans (hb1.mono (by simp))⟩
set_option maxRecDepth 100000 in
set_option maxHeartbeats 400000 in
theorem applyEdit_spec_yes (s : ByteArray) (f t : Int) (i : ByteArray) (hb : fitsB s f t i = true) (w : World) :
    Calls Tryd.prog 42 #[.string s, .agg #[.int .i64 f, .int .i64 t, .string i]] w fun e w' => e = .returned (.tuple #[.string (ap s f t i), .bool true]) ∧ Below w.heap.size w w' := by
  have HB := Lib.hid hb
  obtain ⟨hv1, hv2, h0, h1, h2, h3⟩ := fitsB_iff.mp hb
  have hs := tv_size hv1
  have hi := tv_size hv2
  clear hb hv1 hv2
  go_enter Tryd.func42, Tryd.ntmps42
  go_wp2_with (first | (go_at_call 66; refine (editValid_spec s f t i _ HB.out (by unfold maxLen; omega) (by unfold maxLen; omega) _).mono ?_; rintro e w1 ⟨rfl, hb1⟩; obtain ⟨hc1, hf1⟩ := bcell hb1; have hz1 := hb1.size; simp at hz1) | (go_at_call 67; refine (l1Apply_any s f t i h0 h1 h2 hs hi _).mono ?_; rintro e w2 ⟨rfl, hb2⟩))
  go_ret2
  exact ⟨rfl, (((Below.refl _ _).alloc (Nat.le_refl _) _).trans (hb1.mono (by simp))).trans (hb2.mono (by omega))⟩

end Go.Proofs.YtpihopmgckdigaaDoor
