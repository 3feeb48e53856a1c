/-
  What TextValid and the functions under it return, in the program and in the model of it: for every string of at most maxLen bytes, whether it is a text; nothing in memory changes.
-/
import Derived.Test.YtpihopmgckdigaaDoorProg
import Derived.Test.YtpihopmgckdigaaDoorTa
namespace Go.Proofs.YtpihopmgckdigaaDoor
open Go.RowKit

theorem ret_bool {a b : Bool} (h : a = b) : Ending.returned (.bool a) = .returned (.bool b) := by rw [h]
theorem ret_int {k : IntKind} {a b : Int} (h : a = b) : Ending.returned (.int k a) = .returned (.int k b) := by rw [h]

set_option maxRecDepth 100000 in
set_option maxHeartbeats 400000 in
theorem textByte_any (n : Int) (b : Bool) (hb : okB n = b) (w : World) :
    Calls Tryd.prog 94 #[.int .u8 n] w fun e w' => e = .returned (.bool b) ∧ w = w' := by
  subst hb
  by_cases h1 : n = 10
  · subst h1
    go_enter Tryd.func94, Tryd.ntmps94
    go_wp2
    go_ret
    exact ⟨rfl, rfl⟩
  · have e1 : (n == 10) = false := by simpa using h1
    by_cases h2 : 32 ≤ n
    · by_cases h3 : n ≤ 126
      · have H : Hid (okB n = true) := Lib.hid (okB_yes (by omega))
        clear h1
        go_enter Tryd.func94, Tryd.ntmps94
        go_wp2
        go_ret
        exact ⟨ret_bool (by rw [H.out]), rfl⟩
      · have H : Hid (okB n = false) := Lib.hid (okB_no (by omega))
        clear h1
        go_enter Tryd.func94, Tryd.ntmps94
        go_wp2
        go_ret
        exact ⟨ret_bool (by rw [H.out]), rfl⟩
    · have H : Hid (okB n = false) := Lib.hid (okB_no (by omega))
      clear h1
      go_enter Tryd.func94, Tryd.ntmps94
      go_wp2
      go_ret
      exact ⟨ret_bool (by rw [H.out]), rfl⟩

set_option maxRecDepth 100000 in
set_option maxHeartbeats 400000 in
theorem l1Byte_any (n : Int) (b : Bool) (hb : okB n = b) (w : World) :
    Calls Tryd.prog 105 #[.int .u8 n] w fun e w' => e = .returned (.bool b) ∧ w = w' := by
  subst hb
  by_cases h1 : n = 10
  · subst h1
    go_enter Tryd.func105, Tryd.ntmps105
    go_wp2
    go_ret
    exact ⟨rfl, rfl⟩
  · have e1 : (n == 10) = false := by simpa using h1
    by_cases h2 : 32 ≤ n
    · by_cases h3 : n ≤ 126
      · have H : Hid (okB n = true) := Lib.hid (okB_yes (by omega))
        clear h1
        go_enter Tryd.func105, Tryd.ntmps105
        go_wp2
        go_ret
        exact ⟨ret_bool (by rw [H.out]), rfl⟩
      · have H : Hid (okB n = false) := Lib.hid (okB_no (by omega))
        clear h1
        go_enter Tryd.func105, Tryd.ntmps105
        go_wp2
        go_ret
        exact ⟨ret_bool (by rw [H.out]), rfl⟩
    · have H : Hid (okB n = false) := Lib.hid (okB_no (by omega))
      clear h1
      go_enter Tryd.func105, Tryd.ntmps105
      go_wp2
      go_ret
      exact ⟨ret_bool (by rw [H.out]), rfl⟩

set_option maxRecDepth 100000 in
set_option maxHeartbeats 400000 in
theorem textValid_impl (s : ByteArray) (b : Bool) (hb : tv s = b) (hs : s.size ≤ maxLen) (w : World) :
    Calls Tryd.prog 79 #[.string s] w fun e w' => e = .returned (.bool b) ∧ w = w' := by
  unfold maxLen at hs
  subst hb
  by_cases hlong : 2000 < s.size
  · have H : Hid (tv s = false) := Lib.hid (tv_long s hlong)
    go_enter Tryd.func79, Tryd.ntmps79
    go_wp2
    go_ret
    exact ⟨ret_bool (by rw [H.out]), rfl⟩
  · have hle : s.size ≤ 2000 := by omega
    have HT : Hid (tv s = okL s.data.toList) := Lib.hid (tv_short s hle)
    go_enter Tryd.func79, Tryd.ntmps79
    go_wp2
    go_loop [9] (fun i => ∃ k : Nat, k ≤ s.size ∧ i = .int .i64 k ∧ Hid (okL (s.data.toList.take k) = true)) (fun i => s.size - (intOf i).toNat)
    case atStart => exact ⟨0, Nat.zero_le _, rfl, Lib.hid rfl⟩
    case round =>
      obtain ⟨k, hk, rfl, hok⟩ := hrel
      by_cases hlt : k < s.size
      · rcases hb : okB s[k].toNat with _ | _
        · have HB := Lib.hid hb
          clear hb
          go_wp2_with (go_at_call 94; refine (textByte_any _ _ HB.out _).mono ?_; rintro e w' ⟨rfl, rfl⟩)
          go_ret
          exact ⟨ret_bool (by rw [HT.out]; exact (okL_stop s k hlt HB.out).symm), rfl⟩
        · have HB := Lib.hid hb
          clear hb
          go_wp2_with (go_at_call 94; refine (textByte_any _ _ HB.out _).mono ?_; rintro e w' ⟨rfl, rfl⟩)
          go_round
          case rel => exact ⟨k + 1, by omega, by go_num, Lib.hid (okL_snoc s k hlt _ HB.out hok.out)⟩
          case measure => simp [intOf]; omega
      · go_wp2
        go_ret
        exact ⟨ret_bool (by rw [HT.out]; exact (okL_all s k (by omega) hok.out).symm), rfl⟩

set_option maxRecDepth 100000 in
set_option maxHeartbeats 400000 in
theorem l1Bytes_any (s : ByteArray) (b : Bool) (hb : okL s.data.toList = b) (hs : s.size ≤ maxLen) (w : World) :
    Calls Tryd.prog 88 #[.string s] w fun e w' => e = .returned (.bool b) ∧ w = w' := by
  unfold maxLen at hs
  subst hb
  go_enter Tryd.func88, Tryd.ntmps88
  go_wp2
  go_loop [3] (fun i => ∃ k : Nat, k ≤ s.size ∧ i = .int .i64 k ∧ Hid (okL (s.data.toList.take k) = true)) (fun i => s.size - (intOf i).toNat)
  case atStart => exact ⟨0, Nat.zero_le _, rfl, Lib.hid rfl⟩
  case round =>
    obtain ⟨k, hk, rfl, hok⟩ := hrel
    by_cases hlt : k < s.size
    · rcases hb : okB s[k].toNat with _ | _
      · have HB := Lib.hid hb
        clear hb
        go_wp2_with (go_at_call 105; refine (l1Byte_any _ _ HB.out _).mono ?_; rintro e w' ⟨rfl, rfl⟩)
        go_ret
        exact ⟨ret_bool (okL_stop s k hlt HB.out).symm, rfl⟩
      · have HB := Lib.hid hb
        clear hb
        go_wp2_with (go_at_call 105; refine (l1Byte_any _ _ HB.out _).mono ?_; rintro e w' ⟨rfl, rfl⟩)
        go_round
        case rel => exact ⟨k + 1, by omega, by go_num, Lib.hid (okL_snoc s k hlt _ HB.out hok.out)⟩
        case measure => simp [intOf]; omega
    · go_wp2
      go_ret
      exact ⟨ret_bool (okL_all s k (by omega) hok.out).symm, rfl⟩

set_option maxRecDepth 100000 in
set_option maxHeartbeats 400000 in
theorem textValid_spec (s : ByteArray) (b : Bool) (hb : tv s = b) (hs : s.size ≤ maxLen) (w : World) :
    Calls Tryd.prog 69 #[.string s] w fun e w' => e = .returned (.bool b) ∧ w = w' := by
  unfold maxLen at hs
  subst hb
  by_cases hlong : 2000 < s.size
  · have H : Hid (tv s = false) := Lib.hid (tv_long s hlong)
    go_enter Tryd.func69, Tryd.ntmps69
    go_wp2
    go_ret
    exact ⟨ret_bool (by rw [H.out]), rfl⟩
  · have hle : s.size ≤ 2000 := by omega
    have HT : Hid (tv s = okL s.data.toList) := Lib.hid (tv_short s hle)
    rw [tv_short s hle]
    rcases hb : okL s.data.toList with _ | _
    all_goals
      have HB := Lib.hid hb
      clear hb
      go_enter Tryd.func69, Tryd.ntmps69
      go_wp2_with (go_at_call 88; refine (l1Bytes_any _ _ HB.out (by unfold maxLen; omega) _).mono ?_; rintro e w' ⟨rfl, rfl⟩)
      go_ret
      exact ⟨rfl, rfl⟩

end Go.Proofs.YtpihopmgckdigaaDoor
