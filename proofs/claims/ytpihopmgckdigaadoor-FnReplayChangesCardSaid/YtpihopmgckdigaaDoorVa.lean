/-
  What l16Cut of the model returns: the pieces of a string between the bytes c, in a new slice; what was in memory stays. Condition: at most 1000000 bytes.
-/
import Derived.Test.YtpihopmgckdigaaDoorProg
import Derived.Test.YtpihopmgckdigaaDoorTa
import Derived.Maps.AppendAt
import Derived.BigCall
namespace Go.Proofs.YtpihopmgckdigaaDoor
open Go.RowKit

/-- The pieces that are whole among the first k bytes (the end counts as a byte c), and where the next one begins. -/
def cutN (s : ByteArray) (c : Int) : Nat → List ByteArray × Nat
  | 0 => ([], 0)
  | k + 1 => if k = s.size ∨ ((s.data[k]!).toNat : Int) = c then ((cutN s c k).1 ++ [s.extract (cutN s c k).2 k], k + 1) else cutN s c k
theorem cutN_le (s : ByteArray) (c : Int) : ∀ k : Nat, (cutN s c k).2 ≤ k ∧ (cutN s c k).1.length ≤ k
  | 0 => ⟨Nat.le_refl _, Nat.le_refl _⟩
  | k + 1 => by
    have h := cutN_le s c k
    unfold cutN
    split
    · simp; omega
    · omega
theorem cutN_hit (s : ByteArray) (c : Int) (k : Nat) (h : k = s.size ∨ ((s.data[k]!).toNat : Int) = c) : cutN s c (k + 1) = ((cutN s c k).1 ++ [s.extract (cutN s c k).2 k], k + 1) := by
  rw [cutN, if_pos h]
theorem cutN_miss (s : ByteArray) (c : Int) (k : Nat) (h : ¬ (k = s.size ∨ ((s.data[k]!).toNat : Int) = c)) : cutN s c (k + 1) = cutN s c k := by
  rw [cutN, if_neg h]
/-- The pieces. -/
def cut (s : ByteArray) (c : Int) : List ByteArray := (cutN s c (s.size + 1)).1
theorem at_bang' (s : ByteArray) (k : Nat) (h : k < s.size) : s.data[k]! = s[k] := by
  rw [getElem!_pos s.data k (by simpa using h)]; rfl

theorem Tryd.infoStr : (Tryd.prog.info? 9).map (fun i => (i.zero, i.size, i.bytes)) = some (some (.string ByteArray.empty), 1, 16) := by kernel_rfl

/-- What it leaves. -/
def CutPost (w : World) (l : List ByteArray) (e : Ending) (w' : World) : Prop :=
  ∃ v, e = .returned v ∧ w'.ownsRow w.heap.size 9 1 v l.length (l.map Value.string) ∧ Below w.heap.size w w'

set_option maxRecDepth 100000 in
set_option maxHeartbeats 2000000 in
theorem l16Cut_any (s : ByteArray) (c : Int) (hs : s.size ≤ 1000000) (w : World) :
    Calls Tryd.prog 70 #[.string s, .int .u8 c] w (CutPost w (cut s c)) := by
  obtain ⟨i0, hi, hz0, hz1, hz2⟩ := info_parts Tryd.infoStr
  go_enter Tryd.func70, Tryd.ntmps70
  go_wp2
  go_loopw [5, 6, 7] (fun v f i wr => ∃ k : Nat, k ≤ s.size + 1 ∧ i = .int .i64 k ∧ f = .int .i64 (cutN s c k).2 ∧ wr.ownsRow w.heap.size 9 1 v (cutN s c k).1.length ((cutN s c k).1.map Value.string) ∧ Below w.heap.size w wr) (fun _ _ i _ => s.size + 1 - (intOf i).toNat)
  case atStart =>
    refine ⟨0, Nat.zero_le _, rfl, rfl, ?_, (Below.refl _ _).alloc (Nat.le_refl _) _⟩
    exact World.ownsRow_made w #[] 0 (Nat.le_refl _) (Nat.zero_le _) rfl
  case round =>
    obtain ⟨k, hk, rfl, rfl, hown, hB⟩ := hrel
    have hsize := hB.size
    have hle := cutN_le s c k
    by_cases hend : k = s.size + 1
    · have hd : ¬ (k : Int) ≤ (s.size : Int) := by omega
      have HE : Hid (cut s c = (cutN s c k).1) := Lib.hid (by unfold cut; rw [hend])
      clear hend hle
      go_wp2
      go_ret
      exact ⟨_, rfl, by rw [HE.out]; exact hown, hB⟩
    have hks : k ≤ s.size := by omega
    have hki : (k : Int) ≤ (s.size : Int) := by omega
    clear hend
    obtain ⟨fr, hfr⟩ : ∃ fr, (cutN s c k).2 = fr := ⟨_, rfl⟩
    obtain ⟨L, hL⟩ : ∃ L, (cutN s c k).1 = L := ⟨_, rfl⟩
    have HFR := Lib.hid hfr
    have HL := Lib.hid hL
    rw [hfr] at hle ⊢
    rw [hL] at hle hown
    obtain ⟨hle1, hle2⟩ := hle
    have f1 : (fr : Int) ≤ (k : Int) := by omega
    clear hfr hL
    by_cases hke : k = s.size
    · have HH : Hid (cutN s c (k + 1) = (L ++ [s.extract fr k], k + 1)) := Lib.hid (by rw [cutN_hit s c k (.inl hke), HFR.out, HL.out])
      have e0 : ((k : Int) == (s.size : Int)) = true := by rw [hke]; simp
      clear hke
      go_wp2_with (first
        | (at_builtin; refine wpList_append_own _ rfl _ _ 71 rfl w.heap.size 9 i0 (.string ByteArray.empty) 1 16 Tryd.underlying71 hi hz0 hz1 hz2 rfl (by decide) _ _ _ rfl (hown.alloc _) ⟨wr.heap.size, 0, none⟩ 1 1 [.string (s.extract fr k)] rfl rfl (cell_one_new _ _ _) (fun x hx => by simp at hx; subst hx; rfl) (by unfold maxLen; omega) (by omega) (by simp; omega) ?_; intro v' w3 hown' hgrow3 hnil3))
      go_roundw
      case rel =>
        have hB3 : Below w.heap.size w w3 := (hB.alloc hsize _).grown hgrow3 (by simp; omega) (fun q hq => (hown.lt q hq).1)
        exact ⟨k + 1, by omega, by go_num, by rw [HH.out]; show Value.int .i64 ((k : Int) + 1) = Value.int .i64 ((k + 1 : Nat) : Int); go_num, by rw [HH.out]; simpa [List.map_append] using hown', hB3⟩
      case measure => simp [intOf]; omega
    · have hlt : k < s.size := by omega
      have e0 : ((k : Int) == (s.size : Int)) = false := by simp; omega
      rcases hb : ((s[k].toNat : Int) == c) with _ | _
      · have HH : Hid (cutN s c (k + 1) = cutN s c k) := Lib.hid (cutN_miss s c k (by
          rintro (h | h)
          · exact hke h
          · rw [at_bang' s k hlt] at h; rw [h] at hb; simp at hb))
        clear hke
        go_wp2
        go_roundw
        case rel => exact ⟨k + 1, by omega, by go_num, by rw [HH.out, HFR.out], by rw [HH.out, HL.out]; exact hown, hB⟩
        case measure => simp [intOf]; omega
      · have HH : Hid (cutN s c (k + 1) = (L ++ [s.extract fr k], k + 1)) := Lib.hid (by
          rw [cutN_hit s c k (.inr (by rw [at_bang' s k hlt]; simpa using hb)), HFR.out, HL.out])
        clear hke
        go_wp2_with (first
          | (at_builtin; refine wpList_append_own _ rfl _ _ 71 rfl w.heap.size 9 i0 (.string ByteArray.empty) 1 16 Tryd.underlying71 hi hz0 hz1 hz2 rfl (by decide) _ _ _ rfl (hown.alloc _) ⟨wr.heap.size, 0, none⟩ 1 1 [.string (s.extract fr k)] rfl rfl (cell_one_new _ _ _) (fun x hx => by simp at hx; subst hx; rfl) (by unfold maxLen; omega) (by omega) (by simp; omega) ?_; intro v' w3 hown' hgrow3 hnil3))
        go_roundw
        case rel =>
          have hB3 : Below w.heap.size w w3 := (hB.alloc hsize _).grown hgrow3 (by simp; omega) (fun q hq => (hown.lt q hq).1)
          exact ⟨k + 1, by omega, by go_num, by rw [HH.out]; show Value.int .i64 ((k : Int) + 1) = Value.int .i64 ((k + 1 : Nat) : Int); go_num, by rw [HH.out]; simpa [List.map_append] using hown', hB3⟩
        case measure => simp [intOf]; omega

end Go.Proofs.YtpihopmgckdigaaDoor
