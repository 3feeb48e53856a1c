/-
  Changes in two parts: what a list of changes makes of valid files is what its second part makes of what its first part makes of them. Rows of changes cut at a place.
  Two lists of files that are equal: laws.lvFiles returns true.
-/
import Derived.Test.YtpihopmgckdigaaDoorJhx
import Derived.Deep.Quiet
namespace Go.Proofs.YtpihopmgckdigaaDoor
open Go.RowKit
set_option linter.unusedVariables false
set_option linter.unusedSimpArgs false

theorem rpC_app : ∀ (a b : List Ch) (ls : List Fl), rpC ls (a ++ b) = (rpC ls a).bind (fun ys => rpC ys b)
  | [], b, ls => rfl
  | x :: a, b, ls => by
    have e1 : rpC ls ((x :: a) ++ b) = if okC ls x then rpC (upC ls x) (a ++ b) else none := rfl
    have e2 : rpC ls (x :: a) = if okC ls x then rpC (upC ls x) a else none := rfl
    rw [e1, e2]
    by_cases h : okC ls x = true
    · rw [if_pos h, if_pos h]; exact rpC_app a b _
    · rw [if_neg h, if_neg h]; rfl
theorem getD_out {l : List Fl} {i : Nat} (h : ¬ i < l.length) : l.getD i Fl.dummy = Fl.dummy := by
  simp [List.getD, List.getElem?_eq_none (Nat.le_of_not_lt h)]
theorem upC_nm (ls : List Fl) (x : Ch) (i : Nat) : ((upC ls x).getD i Fl.dummy).n = (ls.getD i Fl.dummy).n := by
  unfold upC
  by_cases hi : i < ls.length
  · by_cases he : (fdI ls x.n).toNat = i
    · subst he; simp [List.getD, hi]
    · simp [List.getD, List.getElem?_set_ne he]
  · have h1 : ¬ i < (ls.set (fdI ls x.n).toNat ⟨(ls.getD (fdI ls x.n).toNat Fl.dummy).n, ap (ls.getD (fdI ls x.n).toNat Fl.dummy).t x.f x.t x.i⟩).length := by simpa using hi
    rw [getD_out h1, getD_out hi]
theorem upC_ft {ls : List Fl} {x : Ch} (h : okC ls x = true) {i : Nat} (ht : ftB (ls.getD i Fl.dummy).t = true) (hi : i < ls.length) : ftB ((upC ls x).getD i Fl.dummy).t = true := by
  unfold okC at h
  simp only [Bool.and_eq_true] at h
  unfold upC
  by_cases he : (fdI ls x.n).toNat = i
  · subst he; simp [List.getD, hi]; simpa [List.getD, hi] using h.2.2
  · simp only [List.getD, List.getElem?_set_ne he]; exact ht
theorem upC_valid {ls : List Fl} {x : Ch} (hv : filesB ls = true) (h : okC ls x = true) : filesB (upC ls x) = true := by
  unfold filesB at hv ⊢
  simp only [Bool.and_eq_true, List.all_eq_true, List.mem_range] at hv ⊢
  refine ⟨by rw [upC_len]; exact hv.1, fun i hi => ?_⟩
  rw [upC_len] at hi
  have h1 := hv.2 i hi
  unfold okF at h1 ⊢
  simp only [Bool.and_eq_true] at h1 ⊢
  simp only [upC_nm]
  exact ⟨h1.1, h1.2.1, upC_ft h h1.2.2 hi⟩
theorem rpC_valid : ∀ (cs : List Ch) (ls fs : List Fl), filesB ls = true → rpC ls cs = some fs → filesB fs = true
  | [], ls, fs, hv, h => by injection h with h; rw [← h]; exact hv
  | x :: r, ls, fs, hv, h => by
    unfold rpC at h
    by_cases hk : okC ls x = true
    · rw [if_pos hk] at h; exact rpC_valid r _ _ (upC_valid hv hk) h
    · rw [if_neg hk] at h; cases h
theorem rpC_sz : ∀ (cs : List Ch) (ls fs : List Fl), FlSz ls → rpC ls cs = some fs → FlSz fs
  | [], ls, fs, hv, h => by injection h with h; rw [← h]; exact hv
  | x :: r, ls, fs, hv, h => by
    unfold rpC at h
    by_cases hk : okC ls x = true
    · rw [if_pos hk] at h; exact rpC_sz r _ _ (upC_sz hv hk) h
    · rw [if_neg hk] at h; cases h
/-- Changes in two parts. -/
theorem rpR_parts {ls fs : List Fl} {cs : List Ch} (h : rpR ls cs = some fs) (hz : FlSz ls) (k : Nat) :
    ∃ ys, rpR ls (cs.take k) = some ys ∧ rpR ys (cs.drop k) = some fs ∧ FlSz ys ∧ FlSz fs ∧ ys.length ≤ 4 ∧ fs.length ≤ 4 ∧ filesB fs = true := by
  unfold rpR at h
  by_cases hc : (filesB ls && decide (cs.length ≤ 100)) = true
  · rw [if_pos hc] at h
    simp only [Bool.and_eq_true, decide_eq_true_eq] at hc
    have h2 := h
    rw [← List.take_append_drop k cs, rpC_app] at h2
    rcases hy : rpC ls (cs.take k) with _ | ys
    · rw [hy] at h2; cases h2
    · rw [hy] at h2
      have hvy := rpC_valid _ _ _ hc.1 hy
      have hvf := rpC_valid _ _ _ hc.1 h
      refine ⟨ys, ?_, ?_, rpC_sz _ _ _ hz hy, rpC_sz _ _ _ hz h, ?_, ?_, hvf⟩
      · rw [rpR_is hc.1 (by rw [List.length_take]; omega)]; exact hy
      · rw [rpR_is hvy (by rw [List.length_drop]; omega)]; exact h2
      · unfold filesB at hvy; simp only [Bool.and_eq_true, decide_eq_true_eq] at hvy; exact hvy.1
      · unfold filesB at hvf; simp only [Bool.and_eq_true, decide_eq_true_eq] at hvf; exact hvf.1
  · rw [if_neg hc] at h; cases h
theorem rpB_some {ls fs : List Fl} {cs : List Ch} (h : rpR ls cs = some fs) : rpB ls cs = true := by unfold rpB; rw [h]; rfl
theorem rpF_some {ls fs : List Fl} {cs : List Ch} (h : rpR ls cs = some fs) : rpF ls cs = fs := by unfold rpF; rw [h]; rfl
theorem rpR_of {ls : List Fl} {cs : List Ch} (h : rpB ls cs = true) : rpR ls cs = some (rpF ls cs) := by
  unfold rpB at h; unfold rpF
  rcases hr : rpR ls cs with _ | fs
  · rw [hr] at h; cases h
  · rfl
theorem CsAt.kidAt {w : World} {ls : List Ch} {b o L cap : Nat} (h : CsAt w ls (.slice (some ⟨b, o, none⟩) L cap)) (i : Nat) (hi : i < ls.length) : b < w.heap.size ∧ CFd w b (o + i * 4) (ls.getD i Ch.dummy) := by
  obtain ⟨b', o', cap', e, hb, hf⟩ := h.kid i hi
  obtain ⟨rfl, rfl⟩ : b = b' ∧ o = o' := by injection e with h1 h2 h3; injection h1 with h4; injection h4 with h5 h6; exact ⟨h5, h6⟩
  exact ⟨hb, hf⟩
theorem CsAt.take {w : World} {ls : List Ch} {b o L cap : Nat} (h : CsAt w ls (.slice (some ⟨b, o, none⟩) L cap)) (k cap2 : Nat) (hk : k ≤ ls.length) : CsAt w (ls.take k) (.slice (some ⟨b, o, none⟩) k cap2) := by
  by_cases h0 : k = 0
  · subst h0; exact .bare _ _
  have hl : (ls.take k).length = k := by rw [List.length_take]; omega
  have hb := (h.kidAt 0 (by omega)).1
  obtain ⟨_, _, _, hlen⟩ := h.slice
  have := CsAt.row (w := w) (ls.take k) b o cap2 hb (by rw [hl]; omega) (fun i hi => by
    rw [hl] at hi
    have e : (ls.take k).getD i Ch.dummy = ls.getD i Ch.dummy := by simp [List.getD, List.getElem?_take, hi]
    rw [e]
    exact (h.kidAt i (by omega)).2)
  rwa [hl] at this
theorem CsAt.drop {w : World} {ls : List Ch} {b o L cap : Nat} (h : CsAt w ls (.slice (some ⟨b, o, none⟩) L cap)) (k n cap2 : Nat) (hk : k ≤ ls.length) (hn : n = ls.length - k) : CsAt w (ls.drop k) (.slice (some ⟨b, o + k * 4, none⟩) n cap2) := by
  subst hn
  by_cases h0 : k = ls.length
  · subst h0
    rw [List.drop_length, Nat.sub_self]
    exact .bare _ _
  have hl : (ls.drop k).length = ls.length - k := List.length_drop
  have hb := (h.kidAt 0 (by omega)).1
  obtain ⟨_, _, _, hlen⟩ := h.slice
  have := CsAt.row (w := w) (ls.drop k) b (o + k * 4) cap2 hb (by rw [hl]; omega) (fun i hi => by
    rw [hl] at hi
    have e : (ls.drop k).getD i Ch.dummy = ls.getD (k + i) Ch.dummy := by simp [List.getD, List.getElem?_drop]
    rw [e, show o + k * 4 + i * 4 = o + (k + i) * 4 by omega]
    exact (h.kidAt (k + i) (by omega)).2)
  rwa [hl] at this

end Go.Proofs.YtpihopmgckdigaaDoor

namespace Go.Proofs.YtpihopmgckdigaaDoor
open Go.RowKit
set_option linter.unusedVariables false
set_option linter.unusedSimpArgs false

set_option maxRecDepth 100000 in
set_option maxHeartbeats 1000000 in
theorem lvFiles_any (ls : List Fl) (m : Nat) (hm : ls.length = m) (hl : m ≤ 1000000) (a1 a2 : Option Addr) (c1 c2 : Nat) (w : World) (h1 : FsAt w ls (.slice a1 m c1)) (h2 : FsAt w ls (.slice a2 m c2)) :
    Calls Tryd.prog 9 #[.slice a1 m c1, .slice a2 m c2] w fun e w' => e = .returned (.bool true) ∧ Below w.heap.size w w' := by
  have H1 := Lib.hid h1
  have H2 := Lib.hid h2
  have HL := Lib.hid hm
  clear h1 h2 hm
  go_enter Tryd.func9, Tryd.ntmps9
  go_wp2_with fail
  go_loopw [5] (fun i wr => ∃ k : Nat, k ≤ m ∧ i = .int .i64 k ∧ Below w.heap.size w wr) (fun i _ => m - (intOf i).toNat)
  case atStart => exact ⟨0, Nat.zero_le _, rfl, Below.refl _ _⟩
  case round =>
    obtain ⟨k, hk, rfl, hB⟩ := hrel
    have HB := Lib.hid hB
    by_cases hlt : k < m
    · have hki : (k : Int) < (m : Int) := by omega
      obtain ⟨bx, ox, capx, ex, bxl, ⟨x0, x1⟩⟩ := (H1.out.kept hB).kid k (by rw [HL.out]; exact hlt)
      obtain ⟨b2, o2, cap2, ey, b2l, ⟨y0, y1⟩⟩ := (H2.out.kept hB).kid k (by rw [HL.out]; exact hlt)
      have ex1 : a1 = some ⟨bx, ox, none⟩ := by injection ex
      have ey1 : a2 = some ⟨b2, o2, none⟩ := by injection ey
      subst ex1
      subst ey1
      obtain ⟨xk, hxe⟩ : ∃ x, ls.getD k Fl.dummy = x := ⟨_, rfl⟩
      rw [hxe] at x0 x1 y0 y1
      clear ex ey hB hxe
      go_wp2_with fail
      go_quiet (fail)
      go_wp2_with fail
      refine ⟨⟨k + 1, by omega, by go_num, ?_⟩, by simp [intOf]; omega⟩
      exact below_drewN HB.out _
    · have hki : ¬ (k : Int) < (m : Int) := by omega
      clear hB hlt
      go_wp2_with fail
      go_ret
      exact ⟨rfl, HB.out⟩

end Go.Proofs.YtpihopmgckdigaaDoor

