/-
  The model's parser of expressions answers as the plain one, at every depth.
-/
import Derived.Test.YtpaefcdchaemfaaWl
namespace Go.Proofs.Ytpaefcdchaemfaa
open Go.RowKit Go.Proofs.Ytpaefcdchaemfaa.Ox
set_option linter.unusedVariables false
set_option linter.unusedSimpArgs false

theorem beq_off {a b : Int} (h : ¬ a = b) : (a == b) = false := beq_eq_false_iff_ne.2 h
theorem pxT_all (s : ByteArray) (hs : s.size ≤ 1048576) : ∀ d, d ≤ 50 → PxT s d := by
  intro d
  induction d with
  | zero =>
    intro _ w D I i hD hI hi
    exact parse_end s hs D i I hI hi (.inl (by omega)) (by omega) (by omega) w
  | succ d ih =>
    intro hd w D I i hD hI hi
    have HIH := Lib.hid (ih (by omega))
    have hd' : d ≤ 50 := by omega
    by_cases hl : i < s.size
    case neg =>
      have h := parse_end s hs D i I hI hi (.inr hl) (by omega) (by omega) w
      refine h.mono (fun e w' hx => hx.of ?_)
      unfold px; rw [if_neg hl]
    have hi1 : i + 1 ≤ s.size := by omega
    obtain ⟨c, hc⟩ : ∃ c, by8 s i = c := ⟨_, rfl⟩
    have hpx : px s (d + 1) i = if dig c = true then pxN s i else if sml c = true then .ok (.node 2 0 e0 (s.extract i (i + 1)) []) (i + 1) else if bigL c = true then pxD s i
      else if c = 40 then pxR (px s d) s (i + 1) else if c = 92 then pxF (px s d) s (i + 1) else if c = 123 then pxL (px s d) s (i + 1) else if c = 63 then pxI (px s d) s i
      else if c = 94 then pxP (px s d) 9 (i + 1) else if c = 95 then pxP (px s d) 10 (i + 1) else .no i := by
      conv => lhs; unfold px
      rw [if_pos hl, hc]
    suffices h : Calls Try.prog 9 #[.string s, .int .i64 I, .int .i64 D] w fun e w' => XRet w e w' (if dig c = true then pxN s i else if sml c = true then .ok (.node 2 0 e0 (s.extract i (i + 1)) []) (i + 1) else if bigL c = true then pxD s i
      else if c = 40 then pxR (px s d) s (i + 1) else if c = 92 then pxF (px s d) s (i + 1) else if c = 123 then pxL (px s d) s (i + 1) else if c = 63 then pxI (px s d) s i
      else if c = 94 then pxP (px s d) 9 (i + 1) else if c = 95 then pxP (px s d) 10 (i + 1) else .no i) from h.mono (fun e w' hx => hx.of hpx)
    clear hpx
    by_cases h1 : dig c = true
    · rw [if_pos h1]
      obtain ⟨x, n, hx⟩ := pxN_ok s i
      rw [hx]
      exact parse_dig s hs d hd' D hD HIH i I hI hl c hc w h1 x n (Lib.hid hx)
    rw [if_neg h1]
    have h1' : dig c = false := by cases h : dig c with | true => exact absurd h h1 | false => rfl
    by_cases h2 : sml c = true
    · rw [if_pos h2]
      exact parse_sml s hs d hd' D hD HIH i I hI hl c hc w h1' h2
    rw [if_neg h2]
    have h2' := sml_no h2
    by_cases h3 : bigL c = true
    · rw [if_pos h3]
      rcases hx : pxD s i with ⟨x, n⟩ | k
      case ok => exact parse_big_ok s hs d hd' D hD HIH i I hI hl c hc w h1' h2' h3 x n (Lib.hid hx)
      case no => exact parse_big_no s hs d hd' D hD HIH i I hI hl c hc w h1' h2' h3 k (Lib.hid hx)
    rw [if_neg h3]
    have h3' : bigL c = false := by cases h : bigL c with | true => exact absurd h h3 | false => rfl
    by_cases k1 : c = 40
    · rw [if_pos k1]
      rcases hx : pxR (px s d) s (i + 1) with ⟨x, n⟩ | k
      case ok => exact parse_rnd_ok s hs d hd' D hD HIH i I hI hl c hc w k1 x n (Lib.hid hx)
      case no => exact parse_rnd_no s hs d hd' D hD HIH i I hI hl c hc w k1 k (Lib.hid hx)
    rw [if_neg k1]
    by_cases k2 : c = 92
    · rw [if_pos k2]
      rcases hx : pxF (px s d) s (i + 1) with ⟨x, n⟩ | k
      case ok => exact parse_fun_ok s hs d hd' D hD HIH i I hI hl c hc w k2 x n (Lib.hid hx)
      case no => exact parse_fun_no s hs d hd' D hD HIH i I hI hl c hc w k2 k (Lib.hid hx)
    rw [if_neg k2]
    by_cases k3 : c = 123
    · rw [if_pos k3]
      rcases hx : pxL (px s d) s (i + 1) with ⟨x, n⟩ | k
      case ok => exact parse_let_ok s hs d hd' D hD HIH i I hI hl c hc w k3 x n (Lib.hid hx)
      case no => exact parse_let_no s hs d hd' D hD HIH i I hI hl c hc w k3 k (Lib.hid hx)
    rw [if_neg k3]
    by_cases k4 : c = 63
    · rw [if_pos k4]
      unfold pxI
      by_cases h60 : by8 s (i + 1) = 60
      case neg => rw [if_neg h60]; exact parse_if_off s hs d hd' D hD HIH i I hI hl c hc w k4 (Lib.hid (beq_off h60))
      rw [if_pos h60]
      have h60' := Lib.hid (show (by8 s (i + 1) == 60) = true from beq_iff_eq.2 h60)
      have hi3 : i + 2 ≤ s.size := by have := by8_lt (s := s) (i := i + 1) (by omega); omega
      rcases hx : ser (px s d) s [44, 44, 62] (i + 2) with ⟨xs, n⟩ | k
      case ok => exact parse_if_ok s hs d hd' D hD HIH i I hI hl c hc w k4 h60' hi3 xs n (Lib.hid hx)
      case no => exact parse_if_no s hs d hd' D hD HIH i I hI hl c hc w k4 h60' hi3 k (Lib.hid hx)
    rw [if_neg k4]
    by_cases k5 : c = 94
    · rw [if_pos k5]
      unfold pxP
      rcases hx : px s d (i + 1) with ⟨x, n⟩ | k
      case ok => exact parse_part9_ok s hs d hd' D hD HIH i I hI hl c hc w k5 x n (Lib.hid hx)
      case no => exact parse_part9_no s hs d hd' D hD HIH i I hI hl c hc w k5 k (Lib.hid hx)
    rw [if_neg k5]
    by_cases k6 : c = 95
    · rw [if_pos k6]
      unfold pxP
      rcases hx : px s d (i + 1) with ⟨x, n⟩ | k
      case ok => exact parse_part10_ok s hs d hd' D hD HIH i I hI hl c hc w k6 x n (Lib.hid hx)
      case no => exact parse_part10_no s hs d hd' D hD HIH i I hI hl c hc w k6 k (Lib.hid hx)
    rw [if_neg k6]
    exact parse_off s hs d hd' D hD HIH i I hI hl c hc w h1' h2' h3' (beq_off k1) (beq_off k2) (beq_off k3) (beq_off k4) (beq_off k5) (beq_off k6)

end Go.Proofs.Ytpaefcdchaemfaa
