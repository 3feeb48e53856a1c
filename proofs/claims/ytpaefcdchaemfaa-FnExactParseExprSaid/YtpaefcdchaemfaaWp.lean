/-
  The program's reader: the point of a name with its file.
-/
import Derived.Test.YtpaefcdchaemfaaWo
import Derived.RegionCalls
import Derived.Deep.RegionHeld3
namespace Go.Proofs.Ytpaefcdchaemfaa
open Go.RowKit
set_option linter.unusedVariables false
set_option linter.unusedSimpArgs false

theorem LR.at0 {w : World} {p : Nat} {s : ByteArray} {I O J Q : Int} (h : LR w p s I O) (h1 : I = J) (h2 : O = Q) : LR w p s J Q := by subst h1; subst h2; exact h

theorem take_is (b : Bool) (hb : b = true) (s : ByteArray) (hs : s.size ≤ 1048576) (p i : Nat) (I O M : Int) (hI : I = (i : Int)) (hi : i < s.size) (hO : -10 ≤ O) (hO2 : O ≤ 1048576) (hM : -10 ≤ M) (hM2 : M ≤ 10) (hl : I + O + M ≤ 2000) (w : World) (hp : LR w p s I O) :
    Calls Try.prog 40 #[.pointer (some ⟨p, 0, none⟩), .bool b, .int .i64 M] w fun e w' => e = .returned (.tuple #[.string (s.extract i (i + 1)), .nilIface]) ∧ LR w' p s (I + 1) (O - 1 + M) ∧ Inside p (p + 1) w w' := by
  subst hb; exact take_ok s hs p i I O M hI hi hO hO2 hM hM2 hl w hp

set_option maxRecDepth 100000 in
set_option maxHeartbeats 4000000 in
theorem point_ok (s : ByteArray) (hs : s.size ≤ 1048576) (p i : Nat) (I O : Int) (hI : I = (i : Int)) (hi : i < s.size) (hO : -10 ≤ O) (hO2 : O ≤ 1048576) (hl : I + O ≤ 2000) (hb : by8 s i = 46) (w : World) (hp : LR w p s I O) :
    Calls Try.prog 47 #[.pointer (some ⟨p, 0, none⟩), .string ⟨#[46]⟩] w fun e w' => e = .returned .nilIface ∧ LR w' p s (I + 1) (O - 1) ∧ Inside p (p + 1) w w' := by
  have HP := Lib.hid hp
  have HI := Lib.hid hI
  have HLI := Lib.hid hi
  have HL := Lib.hid hl
  have HB := Lib.hid hb
  have HTK : Hid (∀ (b : Bool) (hb : b = true) (W : World) (hp : LR W p s I O), Calls Try.prog 40 #[.pointer (some ⟨p, 0, none⟩), .bool b, .int .i64 0] W fun e w' => e = .returned (.tuple #[.string (s.extract i (i + 1)), .nilIface]) ∧ LR w' p s (I + 1) (O - 1) ∧ Inside p (p + 1) W w') :=
    Lib.hid (fun b hb W hp => (take_is b hb s hs p i I O 0 hI hi hO hO2 (by omega) (by omega) (by omega) W hp).mono (fun e w' h => ⟨h.1, h.2.1.at0 rfl (by omega), h.2.2⟩))
  clear hp hI hi hl hb
  go_enter Try.func47, Try.ntmps47
  go_wp2_with fail
  go_loopw [10] (fun jv wr => ∃ j : Nat, jv = .int .i64 (j : Int) ∧ j ≤ 1 ∧ (j = 0 → wr = w) ∧ Hid (j = 1 → LR wr p s (I + 1) (O - 1) ∧ Inside p (p + 1) w wr)) (fun j _ => 1 - (intOf j).toNat)
  case atStart => exact ⟨0, rfl, by omega, fun _ => rfl, Lib.hid (fun h => by omega)⟩
  case round =>
    obtain ⟨j, rfl, hj, h0, H1⟩ := hrel
    by_cases hlt : j = 1
    · subst hlt
      obtain ⟨HL1, HN1⟩ := H1.out rfl
      have HL1 := Lib.hid HL1
      have HN1 := Lib.hid HN1
      clear h0
      go_wp2_with fail
      go_ret
      exact ⟨rfl, HL1.out, HN1.out⟩
    obtain rfl : j = 0 := by omega
    obtain rfl := h0 rfl
    clear h0 H1 hj hlt
    go_wp2_with fail
    go_region_with (first | (go_at_call 36; refine (peek_any s hs p i I O HI.out (Nat.le_of_lt HLI.out) _ (HP.out.kept (Below.refl _ _).drew)).mono ?_; rintro e w1 ⟨rfl, hb1⟩; have HP1 := Lib.hid ((HP.out.kept (Below.refl _ _).drew).kept hb1); have HN1 := Lib.hid (in_below (lo := p) (hi := p + 1) ((Below.refl wr.heap.size wr).drew.trans (hb1.mono (Nat.le_refl _)))); rw [HB.out]; clear hb1) | (go_at_call 40; (refine (HTK.out _ (by first | rfl | decide) _ HP1.out).mono ?_; rintro e w2 ⟨rfl, hl2, hn2⟩; have HL2 := Lib.hid hl2; have HN2 := Lib.hid (HN1.out.trans hn2); clear hl2 hn2)))
    all_goals (try go_wp2_with fail)
    all_goals (try go_roundw)
    all_goals (first | exact ⟨1, rfl, by omega, fun h => by omega, Lib.hid (fun _ => ⟨HL2.out, HN2.out⟩)⟩ | (simp [intOf]; done) | exact ⟨⟨1, rfl, by omega, fun h => by omega, Lib.hid (fun _ => ⟨HL2.out, HN2.out⟩)⟩, by simp [intOf]⟩)

end Go.Proofs.Ytpaefcdchaemfaa
