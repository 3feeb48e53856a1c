/-
  What the exact laws' helpers for edits return: the copy of an edit, its size, whether two edits are the same; what was in memory stays.
-/
import Derived.Test.YtnnjnkeabljlaaaProg
import Derived.Test.YtnnjnkeabljlaaaTd
namespace Go.Proofs.Ytnnjnkeabljlaaa
open Go.RowKit

set_option maxRecDepth 100000 in
set_option maxHeartbeats 400000 in
theorem toEdit_any (f t : Int) (i : ByteArray) (w : World) :
    Calls Try.prog 39 #[.agg #[.int .i64 f, .int .i64 t, .string i]] w fun e w' => e = .returned (.agg #[.int .i64 f, .int .i64 t, .string i]) ∧ Below w.heap.size w w' := by
  go_enter Try.func39, Try.ntmps39
  go_wp2
  exact bodyPost_ret (v := .agg #[.int .i64 f, .int .i64 t, .string i]) (by simp [results, Try.results39, go_sem]) rfl ⟨rfl, (((Below.refl _ _).alloc (Nat.le_refl _) _).alloc (by simp) _).alloc (by simp; omega) _⟩

set_option maxRecDepth 100000 in
set_option maxHeartbeats 400000 in
theorem szEdit_in (f t : Int) (i : ByteArray) (n : Int) (hn : n ≤ 1048576) (hi : (i.size : Int) ≤ n) (w : World) :
    Calls Try.prog 38 #[.agg #[.int .i64 f, .int .i64 t, .string i], .int .i64 n] w fun e w' => e = .returned (.int .i64 (n - i.size)) ∧ Below w.heap.size w w' := by
  go_enter Try.func38, Try.ntmps38
  go_wp2
  go_ret
  exact ⟨rfl, (Below.refl _ _).alloc (Nat.le_refl _) _⟩
set_option maxRecDepth 100000 in
set_option maxHeartbeats 400000 in
theorem szEdit_out (f t : Int) (i : ByteArray) (n : Int) (hn : n ≤ 1048576) (h0 : 0 ≤ n) (hi : n < (i.size : Int)) (hm : i.size ≤ maxLen) (w : World) :
    Calls Try.prog 38 #[.agg #[.int .i64 f, .int .i64 t, .string i], .int .i64 n] w fun e w' => e = .returned (.int .i64 (-1)) ∧ Below w.heap.size w w' := by
  unfold maxLen at hm
  go_enter Try.func38, Try.ntmps38
  go_wp2
  go_ret
  exact ⟨rfl, (Below.refl _ _).alloc (Nat.le_refl _) _⟩
set_option maxRecDepth 100000 in
set_option maxHeartbeats 400000 in
theorem eqEdit_same (f t : Int) (i : ByteArray) (w : World) :
    Calls Try.prog 40 #[.agg #[.int .i64 f, .int .i64 t, .string i], .agg #[.int .i64 f, .int .i64 t, .string i]] w fun e w' => e = .returned (.bool true) ∧ Below w.heap.size w w' := by
  go_enter Try.func40, Try.ntmps40
  go_wp2
  go_ret
  exact ⟨rfl, ((Below.refl _ _).alloc (Nat.le_refl _) _).alloc (by simp) _⟩

end Go.Proofs.Ytnnjnkeabljlaaa
