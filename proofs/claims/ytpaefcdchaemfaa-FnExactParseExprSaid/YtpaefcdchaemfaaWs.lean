/-
  The program's reader: the first kind whose form begins with these bytes and this one.
-/
import Derived.Test.YtpaefcdchaemfaaWr
import Derived.Test.YtpaefcdchaemfaaOb
import Derived.Test.YtpaefcdchaemfaaShelfB
namespace Go.Proofs.Ytpaefcdchaemfaa
open Go.RowKit Go.Proofs.Ytpaefcdchaemfaa.Ox
set_option linter.unusedVariables false
set_option linter.unusedSimpArgs false

/-- Whether the form of a kind begins with these bytes and this one. -/
def fkB (b : ByteArray) (c : Int) (k : Int) : Bool :=
  Lib.hasPrefix (formX k).data.toList b.data.toList && (match Lib.trimPrefix (formX k).data.toList b.data.toList with | [] => false | a :: _ => decide ((a.toNat : Int) = c))
/-- The first such kind from k on. -/
def fkF (b : ByteArray) (c : Int) : Nat → Int → Int
  | 0, _ => 0
  | n + 1, k => if fkB b c k = true then k else fkF b c n (k + 1)
def fk (b : ByteArray) (c : Int) : Int := fkF b c 10 1
theorem fkF_yes {b : ByteArray} {c : Int} {n : Nat} {k : Int} (h : fkB b c k = true) : fkF b c (n + 1) k = k := if_pos h
theorem fkF_no {b : ByteArray} {c : Int} {n : Nat} {k : Int} (h : fkB b c k = false) : fkF b c (n + 1) k = fkF b c n (k + 1) := if_neg (by rw [h]; exact Bool.false_ne_true)

set_option maxRecDepth 100000 in
set_option maxHeartbeats 4000000 in
theorem formKind_any (b : ByteArray) (c : Int) (w : World) :
    Calls Try.prog 48 #[.func (.func 44) #[] #[], .string b, .int .u8 c] w fun e w' => e = .returned (.int .i64 (fk b c)) ∧ w' = w := by
  go_enter Try.func48, Try.ntmps48
  go_wp2_with fail
  go_loopw [7] (fun kv wr => ∃ k : Nat, kv = .int .i64 (k : Int) ∧ 1 ≤ k ∧ k ≤ 11 ∧ Hid (fk b c = fkF b c (11 - k) k) ∧ wr = w) (fun k _ => 20 - (intOf k).toNat)
  case atStart => exact ⟨1, rfl, by omega, by omega, Lib.hid rfl, rfl⟩
  case round =>
    obtain ⟨k, rfl, hk1, hk2, HE, rfl⟩ := hrel
    by_cases hlt : k ≤ 10
    case neg =>
      obtain rfl : k = 11 := by omega
      have HR : Hid (fk b c = 0) := Lib.hid HE.out
      clear HE
      go_wp2_with fail
      go_ret
      exact ⟨by rw [HR.out]; rfl, rfl⟩
    have hki : (k : Int) ≤ 10 := by omega
    have s1 : IntKind.i64.wrap ((k : Int) + 1) = (k : Int) + 1 := IntWalk.i64_in _ (by omega)
    have HE2 : Hid (fk b c = fkF b c ((10 - k) + 1) k) := Lib.hid (by rw [HE.out, show 11 - k = (10 - k) + 1 by omega])
    have HE3 : Hid (10 - k = 11 - (k + 1)) := Lib.hid (by omega)
    obtain ⟨F, hF⟩ : ∃ F, formX (k : Int) = F := ⟨_, rfl⟩
    have HF := Lib.hid hF
    go_wp2_with fail
    go_at_call 44
    refine (exprForm_any _ _).mono ?_
    rintro e wq ⟨rfl, rfl⟩
    rw [HF.out]
    go_wp2_with fail
    go_at_call 50
    refine (Try.strings_CutPrefix _ _ _).mono ?_
    rintro e wq ⟨rfl, rfl⟩
    cases hpre : Lib.hasPrefix F.data.toList b.data.toList with
    | false =>
      have HN : Hid (fkB b c k = false) := Lib.hid (by unfold fkB; rw [hF, hpre]; rfl)
      go_wp2_with fail
      exact ⟨⟨k + 1, rfl, by omega, by omega, Lib.hid (by rw [HE2.out, fkF_no HN.out, HE3.out]; rfl), by first | trivial | rfl⟩, by simp [intOf]; omega⟩
    | true => 
      cases hr : Lib.trimPrefix F.data.toList b.data.toList with
      | nil =>
        have HN : Hid (fkB b c k = false) := Lib.hid (by unfold fkB; rw [hF, hpre, hr]; rfl)
        go_wp2_with fail
        exact ⟨⟨k + 1, rfl, by omega, by omega, Lib.hid (by rw [HE2.out, fkF_no HN.out, HE3.out]; rfl), by first | trivial | rfl⟩, by simp [intOf]; omega⟩
      | cons a t =>
        have hx0 : (0 : Int) < ((⟨(a :: t).toArray⟩ : ByteArray).size : Int) := by simp [ByteArray.size]
        have hx1 : 0 < (⟨(a :: t).toArray⟩ : ByteArray).size := by simp [ByteArray.size]
        go_wp2_with fail
        · rename_i h
          have h2 : ((a.toNat : Int) == c) = true := h
          have HY : Hid (fkB b c k = true) := Lib.hid (by unfold fkB; rw [hF, hpre, hr]; show (true && decide ((a.toNat : Int) = c)) = true; rw [decide_eq_true (beq_iff_eq.1 h2)]; rfl)
          go_ret
          exact ⟨by rw [HE2.out, fkF_yes HY.out]; rfl, rfl⟩
        · rename_i h
          have h2 : ((a.toNat : Int) == c) = false := h
          have HN : Hid (fkB b c k = false) := Lib.hid (by unfold fkB; rw [hF, hpre, hr]; show (true && decide ((a.toNat : Int) = c)) = false; rw [decide_eq_false (beq_eq_false_iff_ne.1 h2)]; rfl)
          exact ⟨⟨k + 1, rfl, by omega, by omega, Lib.hid (by rw [HE2.out, fkF_no HN.out, HE3.out]; rfl), by first | trivial | rfl⟩, by simp [intOf]; omega⟩

end Go.Proofs.Ytpaefcdchaemfaa
