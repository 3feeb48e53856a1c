/-
  The exact laws' functions on slices of strings: equal ones, marks.
-/
import Derived.Test.YtkekghdkbbjhpaaGreatDoorOf
import Derived.BigQuiet
import Derived.Deep.RegionHeld3
import Derived.Deep.DeepCutAuto
namespace Go.Proofs.YtkekghdkbbjhpaaGreatDoor
open Go.RowKit Go.Shelf
set_option linter.unusedVariables false
set_option linter.unusedSimpArgs false

theorem owns_slice {W : World} {n0 sz n : Nat} {e : TypeId} {v : Value} {xs : List Value} (h : W.ownsRow n0 e sz v n xs) : ∃ a cap, v = .slice a n cap := by
  obtain ⟨hl, ⟨rfl, rfl⟩ | ⟨g, cap, cur, rfl, hb', ho, h1, h2, h3, h4⟩⟩ := h
  · exact ⟨none, 0, rfl⟩
  · exact ⟨_, cap, rfl⟩
theorem owns_below {w w' : World} {n0 sz n : Nat} {e : TypeId} {v : Value} {xs : List Value} (h : w.ownsRow n0 e sz v n xs) (hb : Below w.heap.size w w') : w'.ownsRow n0 e sz v n xs := by
  obtain ⟨hl, h | ⟨g, cap, cur, rfl, hb', ho, h1, h2, h3, h4⟩⟩ := h
  · exact ⟨hl, .inl h⟩
  · exact ⟨hl, .inr ⟨g, cap, cur, rfl, hb', (hb.block g (Array.getElem?_eq_some_iff.1 ho).1).trans ho, h1, h2, h3, h4⟩⟩
theorem row_str {w : World} {n0 : Nat} {v : Value} {l : List ByteArray} (h : w.ownsRow n0 9 1 v l.length (l.map Value.string)) (k : Nat) (hk : k < l.length) :
    ∃ b cap, v = .slice (some ⟨b, 0, none⟩) l.length cap ∧ n0 ≤ b ∧ b < w.heap.size ∧ w.cell? ⟨b, k, none⟩ = some (.string (l.getD k ⟨#[]⟩)) := by
  have h' := h
  obtain ⟨hl, ⟨rfl, h0⟩ | ⟨g, cap, cur, rfl, hb', ho, h1, h2, h3, h4⟩⟩ := h
  · omega
  · refine ⟨g, cap, rfl, hb', (Array.getElem?_eq_some_iff.1 ho).1, ?_⟩
    rw [h'.cellAt k (by omega)]
    simp [List.getD, hk]

/-- The digits of a number, put ahead of a text. -/
def mtF : Nat → Nat → ByteArray → ByteArray
  | 0, _, out => out
  | f + 1, k, out => if k = 0 then out else mtF f (k / 10) (⟨#[UInt8.ofNat (48 + k % 10)]⟩ ++ out)
/-- The text of a mark. -/
def mkT (k : Nat) : ByteArray := ⟨#[109]⟩ ++ mtF 20 k ⟨#[]⟩

set_option maxRecDepth 100000 in
set_option maxHeartbeats 1000000 in
theorem markText_any (K : Nat) (h0 : 0 < K) (h1 : K ≤ 10000000) (w : World) :
    Calls Tryz.prog 62 #[.int .i64 K] w fun e w' => e = .returned (.string (mkT K)) ∧ Below w.heap.size w w' := by
  have hn : ¬ (K : Int) ≤ 0 := by omega
  have HM : Hid (mkT K = ⟨#[109]⟩ ++ mtF 20 K ⟨#[]⟩) := Lib.hid rfl
  go_enter Tryz.func62, Tryz.ntmps62
  go_wp2
  go_loopw [0, 3] (fun i o wr => ∃ (f j : Nat) (x : ByteArray), j ≤ 10000000 ∧ f ≤ 20 ∧ i = .int .i64 j ∧ o = .string x ∧ Hid (mtF f j x = mtF 20 K ⟨#[]⟩) ∧ j < 10 ^ f ∧ x.size + f = 20 ∧ Below w.heap.size w wr) (fun i _ _ => (intOf i).toNat)
  case atStart => exact ⟨20, K, ⟨#[]⟩, h1, by omega, rfl, rfl, Lib.hid rfl, by omega, rfl, Below.refl _ _⟩
  case round =>
    obtain ⟨f, j, x, hj, hf, rfl, rfl, hm, hjf, hx, hB⟩ := hrel
    have HB := Lib.hid hB
    clear hB
    by_cases hjz : j = 0
    · have hng : ¬ (0 : Int) < (j : Int) := by omega
      have HX : Hid (x = mtF 20 K ⟨#[]⟩) := Lib.hid (by
        rw [← hm.out, hjz]
        cases f with
        | zero => rfl
        | succ f => rw [mtF, if_pos rfl])
      clear hjz hjf
      go_wp2_with fail
      go_ret
      exact ⟨by rw [HM.out, HX.out]; rfl, HB.out⟩
    · have hg : (0 : Int) < (j : Int) := by omega
      go_wp2_with fail
      have hc0 : ((UInt8.ofNat (48 + j % 10)).toNat : Int) = 48 + (j : Int) % 10 := by
        have : (UInt8.ofNat (48 + j % 10)).toNat = 48 + j % 10 := by simp; omega
        rw [this]; push_cast; rfl
      have HQ0 : ∀ f', f = f' + 1 → mtF f' (j / 10) (⟨#[UInt8.ofNat (48 + j % 10)]⟩ ++ x) = mtF 20 K ⟨#[]⟩ := fun f' e => by rw [← hm.out, e, mtF, if_neg hjz]
      obtain ⟨c, hcd⟩ : ∃ c, UInt8.ofNat (48 + j % 10) = c := ⟨_, rfl⟩
      rw [hcd] at hc0 HQ0
      have hc := hc0
      have E : (convert 56 9 (.slice (some ⟨wr.heap.size, 0, none⟩) 1 1)).run Tryz.prog (wr.alloc (.cells #[.int .u8 (48 + (j : Int) % 10)] 5)) = .ok (.string ⟨#[c]⟩) (wr.alloc (.cells #[.int .u8 (48 + (j : Int) % 10)] 5)) :=
        run_convert_bytes_back _ _ _ 5 _ _ [c] Tryz.underlying56 Tryz.underlying5 Tryz.underlying9 (fun i hi => by
          have hi0 : i = 0 := by simpa using hi
          subst hi0
          have := cell_one_new wr (.int .u8 (48 + (j : Int) % 10)) 5
          rw [List.getElem_cons_zero, hc]
          exact this 0 _ rfl)
      rw [E]
      obtain ⟨f', rfl⟩ : ∃ f', f = f' + 1 := ⟨f - 1, by
        rcases Nat.eq_zero_or_pos f with h | h
        · subst h; omega
        · omega⟩
      have HQ : Hid (mtF f' (j / 10) (⟨#[c]⟩ ++ x) = mtF 20 K ⟨#[]⟩) := Lib.hid (HQ0 f' rfl)
      have hj10 : j / 10 < 10 ^ f' := by rw [Nat.pow_succ] at hjf; omega
      have hxs : x.size ≤ 20 := by omega
      clear hm E hc hc0 HQ0 hcd hjf
      go_wp2_with fail
      refine ⟨⟨f', j / 10, _, by omega, by omega, by go_num, rfl, HQ, hj10, ?_, HB.out.alloc HB.out.size _⟩, by simp [intOf]; omega⟩
      rw [ByteArray.size_append]
      show 1 + x.size + f' = 20
      omega

end Go.Proofs.YtkekghdkbbjhpaaGreatDoor
