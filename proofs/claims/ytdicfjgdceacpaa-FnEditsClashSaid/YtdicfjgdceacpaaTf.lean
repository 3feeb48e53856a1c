/-
  What InvertEdit returns, in the program and in the model: for every text of at most maxLen bytes and every edit; what was in memory stays.
-/
import Derived.Test.YtdicfjgdceacpaaProg
import Derived.Test.YtdicfjgdceacpaaTd
import Derived.RegionTactic
import Derived.ChangeAlike
namespace Go.Proofs.Ytdicfjgdceacpaa
open Go.RowKit

theorem below_set3 {B : Nat} {a w : World} (h : Below B a w) {b o1 o2 o3 : Nat} {x y z : Value} (hp : B ≤ b) : Below B a (((w.setCell ⟨b, o1, none⟩ x).setCell ⟨b, o2, none⟩ y).setCell ⟨b, o3, none⟩ z) :=
  ((h.setCell (p := ⟨b, o1, none⟩) hp x).setCell (p := ⟨b, o2, none⟩) hp y).setCell (p := ⟨b, o3, none⟩) hp z

set_option maxRecDepth 100000 in
set_option maxHeartbeats 400000 in
theorem invertEdit_impl_no (s : ByteArray) (f t : Int) (i : ByteArray) (hb : fitsB s f t i = false) (hs : s.size ≤ maxLen) (hi : i.size ≤ maxLen) (w : World) :
    Calls Try.prog 36 #[.string s, .agg #[.int .i64 f, .int .i64 t, .string i]] w fun e w' => e = .returned (.tuple #[.agg #[.int .i64 0, .int .i64 0, .string ⟨#[]⟩], .bool false]) ∧ Below w.heap.size w w' := by
  have HSL := Lib.hid hs
  have HIL := Lib.hid hi
  have HB := Lib.hid hb
  unfold maxLen at hs hi
  clear hb
  go_enter Try.func36, Try.ntmps36
  go_wp2_with fail
  go_at_call 48
  refine (fits_any s f t i _ HB.out HSL.out HIL.out _).mono ?_
  rintro e w1 ⟨rfl, hb1⟩
  obtain ⟨hc1, hf1⟩ := bcell hb1
  have hz1 : w.heap.size + 1 < w1.heap.size := by have := hb1.size; (try simp at this); omega
  go_wp2
  exact bodyPost_ret (v := .tuple #[.agg #[.int .i64 0, .int .i64 0, .string ⟨#[]⟩], .bool false]) (by simp [results, Try.results36, go_sem, hc1]) rfl ⟨rfl, below_set3 ((((Below.refl _ _).alloc (Nat.le_refl _) _).alloc (by simp) _).trans (hb1.mono (by first | omega | (simp; done) | (simp; omega)))) (by simp)⟩
set_option maxRecDepth 100000 in
set_option maxHeartbeats 400000 in
theorem invertEdit_impl_yes (s : ByteArray) (f t : Int) (i : ByteArray) (hb : fitsB s f t i = true) (w : World) :
    Calls Try.prog 36 #[.string s, .agg #[.int .i64 f, .int .i64 t, .string i]] w fun e w' => e = .returned (.tuple #[.agg #[.int .i64 f, .int .i64 (f + i.size), .string (s.extract f.toNat t.toNat)], .bool true]) ∧ Below w.heap.size w w' := by
  have HB := Lib.hid hb
  obtain ⟨hv1, hv2, h0, h1, h2, h3⟩ := fitsB_iff.mp hb
  have hs := tv_size hv1
  have hi := tv_size hv2
  clear hb hv1 hv2
  go_enter Try.func36, Try.ntmps36
  go_wp2_with fail
  go_at_call 48
  refine (fits_any s f t i _ HB.out (by unfold maxLen; omega) (by unfold maxLen; omega) _).mono ?_
  rintro e w1 ⟨rfl, hb1⟩
  obtain ⟨hc1, hf1⟩ := bcell hb1
  have hz1 : w.heap.size + 1 < w1.heap.size := by have := hb1.size; (try simp at this); omega
  have H1 : Below w.heap.size w w1 := (((Below.refl _ _).alloc (Nat.le_refl _) _).alloc (by simp) _).trans (hb1.mono (by first | omega | (simp; done) | (simp; omega)))
  go_wp2_with fail
  go_at_call 64
  refine (inverse_any s f t i h0 h1 h2 hs hi _).mono ?_
  rintro e w2 ⟨rfl, hb2⟩
  obtain ⟨hc2, hf2⟩ := bcell hb2
  have hz2 : w.heap.size + 1 < w2.heap.size := by have := hb2.size; omega
  have H2 : Below w.heap.size w w2 := H1.trans (hb2.mono (by omega))
  go_wp2
  exact bodyPost_ret (v := .tuple #[.agg #[.int .i64 f, .int .i64 (f + i.size), .string (s.extract f.toNat t.toNat)], .bool true]) (by simp [results, Try.results36, go_sem, hc2, hc1, hz1]) rfl ⟨rfl, below_set3 H2 (by simp)⟩

end Go.Proofs.Ytdicfjgdceacpaa
