/-
  FormatExpr of the model: for every expression in memory, its text; what was in memory stays.
-/
import Derived.Test.YtmoclinccmhijaaDoorFa
import Derived.Laws.IdiomStrings
import Derived.Laws.Concat
import Derived.Maps.AppendAt
import Derived.BigQuiet
import Derived.Deep.RegionHeld3
import Derived.Deep.DeepCutAuto
namespace Go.Proofs.YtmoclinccmhijaaDoor.Ox
open Go.Proofs.YtmoclinccmhijaaDoor
open Go.RowKit
set_option linter.unusedVariables false
set_option linter.unusedSimpArgs false

def TextIsX (s : ByteArray) (w : World) (e : Ending) (w' : World) : Prop := e = .returned (.string s) ∧ Below w.heap.size w w'
theorem TextIsX.of {s s' : ByteArray} {w w' : World} {e : Ending} (h : TextIsX s w e w') (hs : s' = s) : TextIsX s' w e w' := by rw [hs]; exact h
theorem conv_byte (c : UInt8) (w : World) : (convert 77 9 (.slice (some ⟨w.heap.size, 0, none⟩) 1 1)).run Tryd.prog (w.alloc (.cells #[.int .u8 (c.toNat : Int)] 5)) = .ok (.string ⟨#[c]⟩) (w.alloc (.cells #[.int .u8 (c.toNat : Int)] 5)) :=
  run_convert_bytes_back _ _ _ 5 _ _ [c] Tryd.underlying77 Tryd.underlying5 Tryd.underlying9 (fun i hi => by
    have hi0 : i = 0 := by simpa using hi
    subst hi0
    have := cell_one_new w (.int .u8 (c.toNat : Int)) 5
    rw [List.getElem_cons_zero]
    exact this 0 _ rfl)
theorem app_nil (s : ByteArray) : s ++ (⟨#[]⟩ : ByteArray) = s := ByteArray.append_empty

set_option maxHeartbeats 2000000 in
theorem dec_last (n : Nat) (hn : n ≤ 9) (c : UInt8) (hc : UInt8.ofNat (48 + n) = c) : IntKind.i64.wrap (48 + (n : Int)) = 48 + (n : Int) ∧ IntKind.u8.wrap (48 + (n : Int)) = (c.toNat : Int) := by
  subst hc
  have : (UInt8.ofNat (48 + n)).toNat = 48 + n := by simp; omega
  rw [this]
  exact ⟨IntWalk.i64_in _ (by omega), by rw [IntWalk.u8_in _ (by omega)]; push_cast; rfl⟩
set_option maxRecDepth 100000 in
set_option maxHeartbeats 4000000 in
theorem l16Dec_one (n : Nat) (hn : n ≤ 9) (w : World) : Calls Tryd.prog 47 #[.int .i64 n] w (TextIsX (decB n) w) := by
  have HD : Hid (decB (n : Int) = ⟨#[UInt8.ofNat (48 + n)]⟩) := Lib.hid (dec_one n (by omega))
  obtain ⟨c, hc⟩ : ∃ c, UInt8.ofNat (48 + n) = c := ⟨_, rfl⟩
  rw [hc] at HD
  obtain ⟨k1, k2⟩ := dec_last n hn c hc
  have h1 : ¬ (n : Int) > 9 := by omega
  have h2 : ¬ (n : Int) < 0 := by omega
  have h3 : ¬ (n : Int) < -9223372036854775807 := by omega
  clear hc
  go_enter Tryd.func47, Tryd.ntmps47
  go_wp2_with fail
  go_loopw [0, 3] (fun nv ov wr => nv = .int .i64 n ∧ ov = .string ⟨#[]⟩ ∧ wr = w) (fun _ _ _ => 0)
  case atStart => exact ⟨rfl, rfl, rfl⟩
  case round =>
    obtain ⟨rfl, rfl, rfl⟩ := hrel
    go_wp2_with fail
    rw [conv_byte]
    go_wp2_with fail
    go_ret
    exact ⟨by rw [HD.out]; first | rfl | (rw [app_nil]), (Below.refl _ _).alloc (Nat.le_refl _) _⟩
set_option maxRecDepth 100000 in
set_option maxHeartbeats 4000000 in
theorem l16Dec_two (n : Nat) (hn : 10 ≤ n) (hn9 : n ≤ 99) (w : World) : Calls Tryd.prog 47 #[.int .i64 n] w (TextIsX (decB n) w) := by
  have HD : Hid (decB (n : Int) = ⟨#[UInt8.ofNat (48 + n / 10)]⟩ ++ ⟨#[UInt8.ofNat (48 + n % 10)]⟩) := Lib.hid (dec_two n hn (by omega))
  obtain ⟨q, hq⟩ : ∃ q, n / 10 = q := ⟨_, rfl⟩
  obtain ⟨r, hr⟩ : ∃ r, n % 10 = r := ⟨_, rfl⟩
  rw [hq, hr] at HD
  obtain ⟨c, hc⟩ : ∃ c, UInt8.ofNat (48 + q) = c := ⟨_, rfl⟩
  obtain ⟨e, he⟩ : ∃ e, UInt8.ofNat (48 + r) = e := ⟨_, rfl⟩
  rw [hc, he] at HD
  obtain ⟨k1, k2⟩ := dec_last q (by omega) c hc
  obtain ⟨k3, k4⟩ := dec_last r (by omega) e he
  have h1 : (n : Int) > 9 := by omega
  have h1b : ¬ (q : Int) > 9 := by omega
  have h2 : ¬ (n : Int) < 0 := by omega
  have h3 : ¬ (n : Int) < -9223372036854775807 := by omega
  have h4 : IntKind.i64.wrap ((n : Int).tmod 10) = (r : Int) := by rw [Int.tmod_eq_emod_of_nonneg (by omega), IntWalk.i64_in _ (by omega)]; omega
  have h5 : IntKind.i64.wrap ((n : Int).tdiv 10) = (q : Int) := by rw [Int.tdiv_eq_ediv_of_nonneg (by omega), IntWalk.i64_in _ (by omega)]; omega
  have h6 : (n : Int).tmod 10 = (r : Int) := by rw [Int.tmod_eq_emod_of_nonneg (by omega)]; omega
  have h7 : (n : Int).tdiv 10 = (q : Int) := by rw [Int.tdiv_eq_ediv_of_nonneg (by omega)]; omega
  clear hc he hq hr
  go_enter Tryd.func47, Tryd.ntmps47
  go_wp2_with fail
  go_loopw [0, 3] (fun nv ov wr => (nv = .int .i64 n ∧ ov = .string ⟨#[]⟩ ∧ wr = w) ∨ (nv = .int .i64 q ∧ ov = .string ⟨#[e]⟩ ∧ Hid (Below w.heap.size w wr))) (fun nv _ _ => 1000 + (intOf nv).toNat)
  case atStart => exact .inl ⟨rfl, rfl, rfl⟩
  case round =>
    rcases hrel with ⟨rfl, rfl, rfl⟩ | ⟨rfl, rfl, HB⟩
    case inl =>
      go_wp2_with fail
      rw [conv_byte]
      go_wp2_with fail
      go_roundw
      case rel => exact .inr ⟨rfl, by first | rfl | (rw [app_nil]), Lib.hid ((Below.refl _ _).alloc (Nat.le_refl _) _)⟩
      case measure => simp [intOf]; omega
    case inr =>
      go_wp2_with fail
      rw [conv_byte]
      go_wp2_with fail
      go_ret
      exact ⟨by rw [HD.out]; rfl, HB.out.alloc HB.out.size _⟩
theorem l16Dec_any (n : Int) (h0 : 0 ≤ n) (h1 : n ≤ 99) (w : World) : Calls Tryd.prog 47 #[.int .i64 n] w (TextIsX (decB n) w) := by
  obtain ⟨m, rfl⟩ : ∃ m : Nat, n = m := ⟨n.toNat, by omega⟩
  by_cases h : m ≤ 9
  · exact l16Dec_one m h w
  · exact l16Dec_two m (by omega) (by omega) w


end Go.Proofs.YtmoclinccmhijaaDoor.Ox
