/-
  Names in lists: whether a list has one; the text of a name.
-/
import Derived.Test.YtlgbkhkmfgdehaaRa
namespace Go.Proofs.Ytlgbkhkmfgdehaa
open Go.RowKit
set_option linter.unusedVariables false
set_option linter.unusedSimpArgs false

/-- The list of strings lies in a row of its own, or there is none. -/
def SR (w : World) (n0 : Nat) (v : Value) (l : List ByteArray) : Prop := w.ownsRow n0 9 1 v l.length (l.map Value.string)
theorem SR.below {w w' : World} {n0 : Nat} {v : Value} {l : List ByteArray} (h : SR w n0 v l) (hb : Below w.heap.size w w') : SR w' n0 v l := owns_below h hb
/-- Whether the list has the string. -/
def hasB (l : List ByteArray) (s : ByteArray) : Bool := l.any fun y => decide (y.toList = s.toList)
theorem hasB_yes {l : List ByteArray} {s : ByteArray} {j : Nat} (hj : j < l.length) (h : (l.getD j ⟨#[]⟩).toList = s.toList) : hasB l s = true := by
  unfold hasB
  rw [List.any_eq_true]
  refine ⟨l[j], List.getElem_mem hj, ?_⟩
  have e : l.getD j ⟨#[]⟩ = l[j] := by simp [List.getD, hj]
  rw [e] at h
  exact decide_eq_true h
theorem hasB_no {l : List ByteArray} {s : ByteArray} (h : ∀ i, i < l.length → ¬ (l.getD i ⟨#[]⟩).toList = s.toList) : hasB l s = false := by
  rcases e : hasB l s with _ | _
  · rfl
  · unfold hasB at e
    rw [List.any_eq_true] at e
    obtain ⟨y, hy, hd⟩ := e
    obtain ⟨i, hi, rfl⟩ := List.mem_iff_getElem.1 hy
    exact absurd (of_decide_eq_true hd) (by have := h i hi; simpa [List.getD, hi] using this)
set_option maxRecDepth 100000 in
set_option maxHeartbeats 2000000 in
theorem l3Has_any (n0 : Nat) (l : List ByteArray) (hl : l.length ≤ 1000000) (v : Value) (s : ByteArray) (w : World) (h : SR w n0 v l) :
    Calls Try.prog 83 #[v, .string s] w fun e w' => e = .returned (.bool (hasB l s)) ∧ w' = w := by
  have H := Lib.hid h
  obtain ⟨a, c, rfl⟩ := owns_slice h
  clear h
  obtain ⟨L, hL⟩ : ∃ L, l.length = L := ⟨_, rfl⟩
  have HL := Lib.hid hL
  rw [hL] at hl ⊢
  clear hL
  go_enter Try.func83, Try.ntmps83
  go_wp2_with fail
  go_loopw [5] (fun i wr => ∃ k : Nat, k ≤ L ∧ i = .int .i64 k ∧ wr = w ∧ Hid (∀ i, i < k → ¬ (l.getD i ⟨#[]⟩).toList = s.toList)) (fun i _ => L - (intOf i).toNat)
  case atStart => exact ⟨0, Nat.zero_le _, rfl, rfl, Lib.hid (fun i hi => absurd hi (Nat.not_lt_zero _))⟩
  case round =>
    obtain ⟨k, hk, rfl, rfl, hpre⟩ := hrel
    by_cases hlt : k < L
    · obtain ⟨b1, d1, e1, _, l1, x1⟩ := row_str H.out k (by rw [HL.out]; exact hlt)
      have f1 : a = some ⟨b1, 0, none⟩ := by injection e1
      subst f1
      clear e1
      have hki : (k : Int) < (L : Int) := by omega
      obtain ⟨y, hy⟩ : ∃ y, l.getD k ⟨#[]⟩ = y := ⟨_, rfl⟩
      have HY := Lib.hid hy
      rw [hy] at x1
      clear hy
      by_cases hs : y.toList = s.toList
      · have hsb : (y.toList == s.toList) = true := by rw [beq_iff_eq]; exact hs
        have hR := Lib.hid (hasB_yes (s := s) (by rw [HL.out]; exact hlt : k < l.length) (by rw [HY.out]; exact hs))
        go_wp2_with fail
        go_ret
        exact ⟨ret_bz hR.out.symm, rfl⟩
      · have hsb : (y.toList == s.toList) = false := by rw [beq_eq_false_iff_ne]; exact hs
        have HP : Hid (∀ i, i < k + 1 → ¬ (l.getD i ⟨#[]⟩).toList = s.toList) := Lib.hid (fun i hi => by
          rcases Nat.lt_or_ge i k with h | h
          · exact hpre.out i h
          · have hij : i = k := by omega
            rw [hij, HY.out]; exact hs)
        clear hpre hs
        go_wp2_with fail
        go_roundw
        case rel => exact ⟨k + 1, by omega, by go_num, by first | rfl | trivial, HP⟩
        case measure => simp [intOf]; omega
    · have hki : ¬ (k : Int) < (L : Int) := by omega
      have hkl : k = L := by omega
      have hR := Lib.hid (hasB_no (fun i hi => hpre.out i (by rw [HL.out] at hi; omega)))
      clear hlt hkl hpre
      go_wp2_with fail
      go_ret
      exact ⟨ret_bz hR.out.symm, rfl⟩
set_option maxRecDepth 100000 in
set_option maxHeartbeats 2000000 in
theorem sIndex_any (n0 : Nat) (l : List ByteArray) (hl : l.length ≤ 1000000) (v : Value) (s : ByteArray) (w : World) (h : SR w n0 v l) :
    Calls Try.prog 109 #[v, .string s] w fun e w' => ∃ r : Int, e = .returned (.int .i64 r) ∧ decide (0 ≤ r) = hasB l s ∧ -1 ≤ r ∧ r ≤ 1000000 ∧ w' = w := by
  have H := Lib.hid h
  obtain ⟨a, c, rfl⟩ := owns_slice h
  clear h
  obtain ⟨L, hL⟩ : ∃ L, l.length = L := ⟨_, rfl⟩
  have HL := Lib.hid hL
  rw [hL] at hl ⊢
  clear hL
  go_enter Try.func109, Try.ntmps109
  go_wp2_with fail
  go_loopw [8] (fun i wr => ∃ k : Nat, k ≤ L ∧ i = .int .i64 k ∧ wr = w ∧ Hid (∀ i, i < k → ¬ (l.getD i ⟨#[]⟩).toList = s.toList)) (fun i _ => L - (intOf i).toNat)
  case atStart => exact ⟨0, Nat.zero_le _, rfl, rfl, Lib.hid (fun i hi => absurd hi (Nat.not_lt_zero _))⟩
  case round =>
    obtain ⟨k, hk, rfl, rfl, hpre⟩ := hrel
    by_cases hlt : k < L
    · obtain ⟨b1, d1, e1, _, l1, x1⟩ := row_str H.out k (by rw [HL.out]; exact hlt)
      have f1 : a = some ⟨b1, 0, none⟩ := by injection e1
      subst f1
      clear e1
      have hki : (k : Int) < (L : Int) := by omega
      obtain ⟨y, hy⟩ : ∃ y, l.getD k ⟨#[]⟩ = y := ⟨_, rfl⟩
      have HY := Lib.hid hy
      rw [hy] at x1
      clear hy
      by_cases hs : s.toList = y.toList
      · have hsb : (s.toList == y.toList) = true := by rw [beq_iff_eq]; exact hs
        have hR := Lib.hid (hasB_yes (s := s) (by rw [HL.out]; exact hlt : k < l.length) (by rw [HY.out]; exact hs.symm))
        go_wp2_with fail
        go_ret
        exact ⟨k, rfl, by rw [hR.out]; exact decide_eq_true (by omega), by omega, by omega, rfl⟩
      · have hsb : (s.toList == y.toList) = false := by rw [beq_eq_false_iff_ne]; exact hs
        have HP : Hid (∀ i, i < k + 1 → ¬ (l.getD i ⟨#[]⟩).toList = s.toList) := Lib.hid (fun i hi => by
          rcases Nat.lt_or_ge i k with h | h
          · exact hpre.out i h
          · have hij : i = k := by omega
            rw [hij, HY.out]; exact fun e => hs e.symm)
        clear hpre hs
        go_wp2_with fail
        go_roundw
        case rel => exact ⟨k + 1, by omega, by go_num, by first | rfl | trivial, HP⟩
        case measure => simp [intOf]; omega
    · have hki : ¬ (k : Int) < (L : Int) := by omega
      have hkl : k = L := by omega
      have hR := Lib.hid (hasB_no (fun i hi => hpre.out i (by rw [HL.out] at hi; omega)))
      clear hlt hkl hpre
      go_wp2_with fail
      go_ret
      exact ⟨-1, rfl, by rw [hR.out]; rfl, by omega, by omega, rfl⟩
theorem sContains_any (n0 : Nat) (l : List ByteArray) (hl : l.length ≤ 1000000) (v : Value) (s : ByteArray) (w : World) (h : SR w n0 v l) :
    Calls Try.prog 87 #[v, .string s] w fun e w' => e = .returned (.bool (hasB l s)) ∧ w' = w := by
  have H := Lib.hid h
  go_enter Try.func87, Try.ntmps87
  go_wp2_with fail
  go_at_call 109
  refine (sIndex_any n0 l hl _ s _ H.out).mono ?_
  rintro e w1 ⟨r, rfl, hr, hr1, hr2, rfl⟩
  have HR := Lib.hid hr
  clear hr
  go_wp2_with fail
  go_ret
  exact ⟨ret_bz HR.out, rfl⟩
/-- The text of a name. -/
def pathB (m s : ByteArray) : ByteArray := if m.toList.isEmpty = true then s else (m ++ ⟨#[46]⟩) ++ s
set_option maxRecDepth 100000 in
set_option maxHeartbeats 1000000 in
theorem l3Path_any (m s : ByteArray) (hm : m.size ≤ 1) (hs : s.size ≤ 1) (w : World) : Calls Try.prog 82 #[.string m, .string s] w fun e w' => e = .returned (.string (pathB m s)) ∧ w' = w := by
  rcases he : m.toList.isEmpty with _ | _
  · have h1 := Ox.empty_not he
    have HP : Hid (pathB m s = (m ++ ⟨#[46]⟩) ++ s) := Lib.hid (by unfold pathB; rw [if_neg (by rw [he]; decide)])
    go_enter Try.func82, Try.ntmps82
    go_wp2_with fail
    go_ret
    exact ⟨by rw [HP.out]; rfl, rfl⟩
  · have h1 := Ox.empty_is he
    have HP : Hid (pathB m s = s) := Lib.hid (by unfold pathB; rw [if_pos he])
    go_enter Try.func82, Try.ntmps82
    go_wp2_with fail
    go_ret
    exact ⟨by rw [HP.out]; rfl, rfl⟩
set_option maxRecDepth 100000 in
set_option maxHeartbeats 1000000 in
theorem nameText_any (k n : Int) (m s : ByteArray) (v : Value) (hm : m.size ≤ 1) (hs : s.size ≤ 1) (a : Option Addr) (l cap : Nat) (w : World) : Calls Try.prog 85 #[.agg #[.int .i64 k, .int .i64 n, .string m, .string s, .slice a l cap]] w fun e w' => e = .returned (.string (pathB m s)) ∧ Below w.heap.size w w' := by
  rcases he : m.toList.isEmpty with _ | _
  · have h1 := Ox.empty_not he
    have HP : Hid (pathB m s = (m ++ ⟨#[46]⟩) ++ s) := Lib.hid (by unfold pathB; rw [if_neg (by rw [he]; decide)])
    go_enter Try.func85, Try.ntmps85
    go_wp2_with fail
    go_ret
    exact ⟨by rw [HP.out]; rfl, (Below.refl _ _).alloc (Nat.le_refl _) _⟩
  · have h1 := Ox.empty_is he
    have HP : Hid (pathB m s = s) := Lib.hid (by unfold pathB; rw [if_pos he])
    go_enter Try.func85, Try.ntmps85
    go_wp2_with fail
    go_ret
    exact ⟨by rw [HP.out]; rfl, (Below.refl _ _).alloc (Nat.le_refl _) _⟩

end Go.Proofs.Ytlgbkhkmfgdehaa
