/-
  The exact laws' functions on slices of strings: equal ones, marks.
-/
import Derived.Test.YtlgbkhkmfgdehaaOf
import Derived.BigQuiet
import Derived.Deep.RegionHeld3
import Derived.Deep.DeepCutAuto
namespace Go.Proofs.Ytlgbkhkmfgdehaa
open Go.RowKit Go.Shelf
set_option linter.unusedVariables false
set_option linter.unusedSimpArgs false

theorem owns_slice {W : World} {n0 sz n : Nat} {e : TypeId} {v : Value} {xs : List Value} (h : W.ownsRow n0 e sz v n xs) : ∃ a cap, v = .slice a n cap := by
  obtain ⟨hl, ⟨rfl, rfl⟩ | ⟨g, cap, cur, rfl, hb', ho, h1, h2, h3, h4⟩⟩ := h
  · exact ⟨none, 0, rfl⟩
  · exact ⟨_, cap, rfl⟩
theorem owns_below {w w' : World} {n0 sz n : Nat} {e : TypeId} {v : Value} {xs : List Value} (h : w.ownsRow n0 e sz v n xs) (hb : Below w.heap.size w w') : w'.ownsRow n0 e sz v n xs := by
  obtain ⟨hl, h | ⟨g, cap, cur, rfl, hb', ho, h1, h2, h3, h4⟩⟩ := h
  · exact ⟨hl, .inl h⟩
  · exact ⟨hl, .inr ⟨g, cap, cur, rfl, hb', (hb.block g (Array.getElem?_eq_some_iff.1 ho).1).trans ho, h1, h2, h3, h4⟩⟩
theorem row_str {w : World} {n0 : Nat} {v : Value} {l : List ByteArray} (h : w.ownsRow n0 9 1 v l.length (l.map Value.string)) (k : Nat) (hk : k < l.length) :
    ∃ b cap, v = .slice (some ⟨b, 0, none⟩) l.length cap ∧ n0 ≤ b ∧ b < w.heap.size ∧ w.cell? ⟨b, k, none⟩ = some (.string (l.getD k ⟨#[]⟩)) := by
  have h' := h
  obtain ⟨hl, ⟨rfl, h0⟩ | ⟨g, cap, cur, rfl, hb', ho, h1, h2, h3, h4⟩⟩ := h
  · omega
  · refine ⟨g, cap, rfl, hb', (Array.getElem?_eq_some_iff.1 ho).1, ?_⟩
    rw [h'.cellAt k (by omega)]
    simp [List.getD, hk]

set_option maxRecDepth 100000 in
set_option maxHeartbeats 1000000 in
theorem eqStringS_same (n1 n2 : Nat) (l : List ByteArray) (hl : l.length ≤ 1000000) (v1 v2 : Value) (w : World) (h1 : w.ownsRow n1 9 1 v1 l.length (l.map Value.string)) (h2 : w.ownsRow n2 9 1 v2 l.length (l.map Value.string)) :
    Calls Try.prog 21 #[v1, v2] w fun e w' => e = .returned (.bool true) ∧ Below w.heap.size w w' := by
  have H1 := Lib.hid h1
  have H2 := Lib.hid h2
  obtain ⟨a1, c1, rfl⟩ := owns_slice h1
  obtain ⟨a2, c2, rfl⟩ := owns_slice h2
  clear h1 h2
  obtain ⟨L, hL⟩ : ∃ L, l.length = L := ⟨_, rfl⟩
  have HL := Lib.hid hL
  rw [hL] at hl ⊢
  clear hL
  go_enter Try.func21, Try.ntmps21
  go_wp2
  go_loopw [5] (fun i wr => ∃ k : Nat, k ≤ L ∧ i = .int .i64 k ∧ Below w.heap.size w wr) (fun i _ => L - (intOf i).toNat)
  case atStart => exact ⟨0, Nat.zero_le _, rfl, Below.refl _ _⟩
  case round =>
    obtain ⟨k, hk, rfl, hB⟩ := hrel
    by_cases hlt : k < L
    · obtain ⟨b1, d1, e1, _, l1, x1⟩ := row_str H1.out k (by rw [HL.out]; exact hlt)
      obtain ⟨b2, d2, e2, _, l2, x2⟩ := row_str H2.out k (by rw [HL.out]; exact hlt)
      have f1 : a1 = some ⟨b1, 0, none⟩ := by injection e1
      have f2 : a2 = some ⟨b2, 0, none⟩ := by injection e2
      subst f1 f2
      clear e1 e2
      have y1 := (hB.cell (p := ⟨b1, k, none⟩) l1).trans x1
      have y2 := (hB.cell (p := ⟨b2, k, none⟩) l2).trans x2
      have HB := Lib.hid hB
      have hki : (k : Int) < (L : Int) := by omega
      clear x1 x2 hB
      go_wp2_with fail
      go_quiet (fail)
      go_wp2_with fail
      refine ⟨⟨k + 1, by omega, by go_num, ?_⟩, by simp [intOf]; omega⟩
      exact below_drewN HB.out _
    · have hki : ¬ (k : Int) < (L : Int) := by omega
      go_wp2_with fail
      go_ret
      exact ⟨rfl, hB⟩
/-- The digits of a number, put ahead of a text. -/
def mtF : Nat → Nat → ByteArray → ByteArray
  | 0, _, out => out
  | f + 1, k, out => if k = 0 then out else mtF f (k / 10) (⟨#[UInt8.ofNat (48 + k % 10)]⟩ ++ out)
/-- The text of a mark. -/
def mkT (k : Nat) : ByteArray := ⟨#[109]⟩ ++ mtF 20 k ⟨#[]⟩

set_option maxRecDepth 100000 in
set_option maxHeartbeats 1000000 in
theorem markText_any (K : Nat) (h0 : 0 < K) (h1 : K ≤ 10000000) (w : World) :
    Calls Try.prog 50 #[.int .i64 K] w fun e w' => e = .returned (.string (mkT K)) ∧ Below w.heap.size w w' := by
  have hn : ¬ (K : Int) ≤ 0 := by omega
  have HM : Hid (mkT K = ⟨#[109]⟩ ++ mtF 20 K ⟨#[]⟩) := Lib.hid rfl
  go_enter Try.func50, Try.ntmps50
  go_wp2
  go_loopw [0, 3] (fun i o wr => ∃ (f j : Nat) (x : ByteArray), j ≤ 10000000 ∧ f ≤ 20 ∧ i = .int .i64 j ∧ o = .string x ∧ Hid (mtF f j x = mtF 20 K ⟨#[]⟩) ∧ j < 10 ^ f ∧ x.size + f = 20 ∧ Below w.heap.size w wr) (fun i _ _ => (intOf i).toNat)
  case atStart => exact ⟨20, K, ⟨#[]⟩, h1, by omega, rfl, rfl, Lib.hid rfl, by omega, rfl, Below.refl _ _⟩
  case round =>
    obtain ⟨f, j, x, hj, hf, rfl, rfl, hm, hjf, hx, hB⟩ := hrel
    have HB := Lib.hid hB
    clear hB
    by_cases hjz : j = 0
    · have hng : ¬ (0 : Int) < (j : Int) := by omega
      have HX : Hid (x = mtF 20 K ⟨#[]⟩) := Lib.hid (by
        rw [← hm.out, hjz]
        cases f with
        | zero => rfl
        | succ f => rw [mtF, if_pos rfl])
      clear hjz hjf
      go_wp2_with fail
      go_ret
      exact ⟨by rw [HM.out, HX.out]; rfl, HB.out⟩
    · have hg : (0 : Int) < (j : Int) := by omega
      go_wp2_with fail
      have hc0 : ((UInt8.ofNat (48 + j % 10)).toNat : Int) = 48 + (j : Int) % 10 := by
        have : (UInt8.ofNat (48 + j % 10)).toNat = 48 + j % 10 := by simp; omega
        rw [this]; push_cast; rfl
      have HQ0 : ∀ f', f = f' + 1 → mtF f' (j / 10) (⟨#[UInt8.ofNat (48 + j % 10)]⟩ ++ x) = mtF 20 K ⟨#[]⟩ := fun f' e => by rw [← hm.out, e, mtF, if_neg hjz]
      obtain ⟨c, hcd⟩ : ∃ c, UInt8.ofNat (48 + j % 10) = c := ⟨_, rfl⟩
      rw [hcd] at hc0 HQ0
      have hc := hc0
      have E : (convert 22 9 (.slice (some ⟨wr.heap.size, 0, none⟩) 1 1)).run Try.prog (wr.alloc (.cells #[.int .u8 (48 + (j : Int) % 10)] 5)) = .ok (.string ⟨#[c]⟩) (wr.alloc (.cells #[.int .u8 (48 + (j : Int) % 10)] 5)) :=
        run_convert_bytes_back _ _ _ 5 _ _ [c] Try.underlying22 Try.underlying5 Try.underlying9 (fun i hi => by
          have hi0 : i = 0 := by simpa using hi
          subst hi0
          have := cell_one_new wr (.int .u8 (48 + (j : Int) % 10)) 5
          rw [List.getElem_cons_zero, hc]
          exact this 0 _ rfl)
      rw [E]
      obtain ⟨f', rfl⟩ : ∃ f', f = f' + 1 := ⟨f - 1, by
        rcases Nat.eq_zero_or_pos f with h | h
        · subst h; omega
        · omega⟩
      have HQ : Hid (mtF f' (j / 10) (⟨#[c]⟩ ++ x) = mtF 20 K ⟨#[]⟩) := Lib.hid (HQ0 f' rfl)
      have hj10 : j / 10 < 10 ^ f' := by rw [Nat.pow_succ] at hjf; omega
      have hxs : x.size ≤ 20 := by omega
      clear hm E hc hc0 HQ0 hcd hjf
      go_wp2_with fail
      refine ⟨⟨f', j / 10, _, by omega, by omega, by go_num, rfl, HQ, hj10, ?_, HB.out.alloc HB.out.size _⟩, by simp [intOf]; omega⟩
      rw [ByteArray.size_append]
      show 1 + x.size + f' = 20
      omega

set_option maxRecDepth 100000 in
set_option maxHeartbeats 1000000 in
theorem markStringS_any (n0 K : Nat) (l : List ByteArray) (hl : l.length ≤ 1000000) (hK : 0 < K ∧ K ≤ 1000000) (v : Value) (w : World) (h : w.ownsRow n0 9 1 v l.length (l.map Value.string)) :
    Calls Try.prog 22 #[v, .int .i64 K] w fun e w' => e = .returned (.int .i64 ((K + l.length : Nat) : Int)) ∧ w'.ownsRow n0 9 1 v l.length (((List.range l.length).map fun i => mkT (K + i)).map Value.string) ∧ Below n0 w w' := by
  obtain ⟨hK0, hK1⟩ := hK
  have H := Lib.hid h
  obtain ⟨a, c, rfl⟩ := owns_slice h
  clear h
  obtain ⟨L, hL⟩ : ∃ L, l.length = L := ⟨_, rfl⟩
  have HL := Lib.hid hL
  rw [hL] at hl ⊢
  clear hL
  go_enter Try.func22, Try.ntmps22
  go_wp2
  go_loopw [1, 5] (fun m i wr => ∃ (k : Nat) (l' : List ByteArray), k ≤ L ∧ i = .int .i64 k ∧ m = .int .i64 ((K + k : Nat) : Int) ∧ l'.length = L ∧ Hid (∀ i, i < k → l'.getD i ⟨#[]⟩ = mkT (K + i)) ∧ wr.ownsRow n0 9 1 (.slice a L c) l'.length (l'.map Value.string) ∧ Below n0 w wr) (fun _ i _ => L - (intOf i).toNat)
  case atStart => exact ⟨0, l, Nat.zero_le _, rfl, rfl, HL.out, Lib.hid (fun i hi => absurd hi (Nat.not_lt_zero _)), by have := H.out; rw [HL.out] at this ⊢; exact this, Below.refl _ _⟩
  case round =>
    obtain ⟨k, l', hk, rfl, rfl, hl', hm, hown, hB⟩ := hrel
    have HOWN := Lib.hid hown
    have HB := Lib.hid hB
    have HLL := Lib.hid hl'
    by_cases hlt : k < L
    · obtain ⟨b1, d1, e1, n1, l1, x1⟩ := row_str hown k (by rw [hl']; exact hlt)
      have f1 : a = some ⟨b1, 0, none⟩ := by injection e1
      subst f1
      have hki : (k : Int) < (L : Int) := by omega
      clear e1 hown hB hl' x1
      go_wp2_with fail
      go_at_call 50
      refine (markText_any (K + k) (by omega) (by omega) _).mono ?_
      rintro e w1 ⟨rfl, hb1⟩
      have hown1 := owns_below HOWN.out hb1
      have hfz : w1.frozen? ⟨b1, k, none⟩ = false := (hb1.frozen (p := ⟨b1, k, none⟩) l1).trans (by have h2 := HOWN.out; rw [HLL.out] at h2; exact h2.frozenAt k)
      have hcl : w1.cell? ⟨b1, k, none⟩ = some (.string (l'.getD k ⟨#[]⟩)) := by
        obtain ⟨b2, d2, e2, n2, l2, x2⟩ := row_str hown1 k (by rw [HLL.out]; exact hlt)
        have f2 : b1 = b2 := by injection e2 with e2 _ _; injection e2 with e2; injection e2
        rw [f2]; exact x2
      have HOW1 := Lib.hid hown1
      have HB1 := Lib.hid (HB.out.trans (hb1.mono (by omega)))
      clear hown1 hb1
      go_wp2_with fail
      have h2 := HOW1.out
      rw [HLL.out] at h2
      have h3 := (h2.stored k (.string (mkT (K + k)))).1
      refine ⟨⟨k + 1, l'.set k (mkT (K + k)), by omega, by go_num, by push_cast; rw [Int.add_assoc], by rw [List.length_set]; exact HLL.out, Lib.hid ?_, ?_, HB1.out.setCell (p := ⟨b1, k, none⟩) n1 _⟩, by simp [intOf]; omega⟩
      · intro i hi
        by_cases hik : i = k
        · subst hik; simp [List.getD, HLL.out, hlt]
        · have := hm.out i (by omega)
          simp only [List.getD] at this ⊢
          rw [List.getElem?_set_ne (by omega)]
          exact this
      · rw [List.length_set, HLL.out, List.map_set]
        exact h3
    · have hki : ¬ (k : Int) < (L : Int) := by omega
      have hkl : k = L := by omega
      clear hB hown hl' hlt
      go_wp2_with fail
      go_ret
      refine ⟨rfl, ?_, HB.out⟩
      have h2 := HOWN.out
      have e : l' = (List.range L).map fun i => mkT (K + i) := by
        apply List.ext_getElem (by simp [HLL.out])
        intro i h1 h3
        have := hm.out i (by rw [HLL.out] at h1; omega)
        simpa [List.getD, h1] using this
      rw [HLL.out, e] at h2
      simpa using h2

set_option maxRecDepth 100000 in
set_option maxHeartbeats 1000000 in
theorem heldStringS_any (n0 K : Nat) (L : Nat) (hl : L ≤ 1000000) (hK : 0 < K ∧ K ≤ 1000000) (v : Value) (w : World) (h : w.ownsRow n0 9 1 v L (((List.range L).map fun i => mkT (K + i)).map Value.string)) :
    Calls Try.prog 23 #[v, .int .i64 K] w fun e w' => e = .returned (.int .i64 ((K + L : Nat) : Int)) ∧ Below w.heap.size w w' := by
  obtain ⟨hK0, hK1⟩ := hK
  have H : Hid (w.ownsRow n0 9 1 v ((List.range L).map fun i => mkT (K + i)).length (((List.range L).map fun i => mkT (K + i)).map Value.string)) := Lib.hid (by simpa using h)
  obtain ⟨a, c, rfl⟩ := owns_slice h
  clear h
  go_enter Try.func23, Try.ntmps23
  go_wp2
  go_loopw [1, 5] (fun m i wr => ∃ (k : Nat), k ≤ L ∧ i = .int .i64 k ∧ m = .int .i64 ((K + k : Nat) : Int) ∧ Below w.heap.size w wr) (fun _ i _ => L - (intOf i).toNat)
  case atStart => exact ⟨0, Nat.zero_le _, rfl, rfl, Below.refl _ _⟩
  case round =>
    obtain ⟨k, hk, rfl, rfl, hB⟩ := hrel
    have HB := Lib.hid hB
    by_cases hlt : k < L
    · obtain ⟨b1, d1, e1, n1, l1, x1⟩ := row_str H.out k (by simpa using hlt)
      have f1 : a = some ⟨b1, 0, none⟩ := by injection e1
      subst f1
      have hki : (k : Int) < (L : Int) := by omega
      have hx1 : wr.cell? ⟨b1, k, none⟩ = some (.string (mkT (K + k))) := by
        refine (hB.cell (p := ⟨b1, k, none⟩) l1).trans (x1.trans ?_)
        simp [List.getD, hlt]
      have l2 : b1 < wr.heap.size := Nat.lt_of_lt_of_le l1 hB.size
      clear e1 hB x1
      go_wp2_with fail
      go_region_held3 (fun w' => w'.cell? ⟨b1, k, none⟩ = some (.string (mkT (K + k)))) (go_keep)
        (first | (go_at_call 50; refine (markText_any (K + k) (by omega) (by omega) _).mono ?_; rintro e w5 ⟨rfl, hb5⟩; have HB5 := Lib.hid (HB.out.drew.trans (hb5.mono (by exact HB.out.size))); have z1 := (hb5.cell (p := ⟨b1, k, none⟩) l2).trans hx1; clear hb5))
      all_goals
        go_wp2_with fail
      all_goals exact ⟨⟨k + 1, by omega, by go_num, by push_cast; rw [Int.add_assoc], HB5.out⟩, by simp [intOf]; omega⟩
    · have hki : ¬ (k : Int) < (L : Int) := by omega
      have hkl : k = L := by omega
      clear hB hlt
      go_wp2_with fail
      go_ret
      exact ⟨rfl, HB.out⟩

end Go.Proofs.Ytlgbkhkmfgdehaa
