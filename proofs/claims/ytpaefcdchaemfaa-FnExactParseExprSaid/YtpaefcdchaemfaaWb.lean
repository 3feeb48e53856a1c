/-
  The small functions under the model's parser of expressions: a digit, a small letter, a number, a name with its file; the box of their result.
-/
import Derived.Test.YtpaefcdchaemfaaProg
import Derived.Test.YtpaefcdchaemfaaWa
import Derived.Test.YtpaefcdchaemfaaOa
import Derived.Deep.RegionLaw
import Derived.BigQuiet
namespace Go.Proofs.Ytpaefcdchaemfaa
open Go.RowKit Go.Proofs.Ytpaefcdchaemfaa.Ox
set_option linter.unusedVariables false
set_option linter.unusedSimpArgs false

/-- The box of an expression that will be returned. -/
structure R5 (w : World) (B : Nat) : Prop where
  c0 : w.cell? ⟨B, 0, none⟩ = some (.int .i64 0)
  c1 : w.cell? ⟨B, 1, none⟩ = some (.int .i64 0)
  c2 : w.cell? ⟨B, 2, none⟩ = some (.string ⟨#[]⟩)
  c3 : w.cell? ⟨B, 3, none⟩ = some (.string ⟨#[]⟩)
  c4 : w.cell? ⟨B, 4, none⟩ = some (.slice none 0 0)
  f0 : w.frozen? ⟨B, 0, none⟩ = false
  f1 : w.frozen? ⟨B, 1, none⟩ = false
  f2 : w.frozen? ⟨B, 2, none⟩ = false
  f3 : w.frozen? ⟨B, 3, none⟩ = false
  f4 : w.frozen? ⟨B, 4, none⟩ = false
  sz : B < w.heap.size
theorem R5.keep {w w' : World} {B : Nat} (h : R5 w B) (hs : w.heap.size ≤ w'.heap.size) (hb : w'.heap[B]? = w.heap[B]?) : R5 w' B :=
  ⟨(cellEq hb).trans h.c0, (cellEq hb).trans h.c1, (cellEq hb).trans h.c2, (cellEq hb).trans h.c3, (cellEq hb).trans h.c4, (frozenEq hb).trans h.f0, (frozenEq hb).trans h.f1, (frozenEq hb).trans h.f2, (frozenEq hb).trans h.f3, (frozenEq hb).trans h.f4, Nat.lt_of_lt_of_le h.sz hs⟩
theorem R5.kept {w w' : World} {B : Nat} (h : R5 w B) (hb : Below w.heap.size w w') : R5 w' B := h.keep hb.size (hb.block B h.sz)
theorem r5_new (w : World) (T : TypeId) : R5 (w.alloc (.cells #[.int .i64 0, .int .i64 0, .string ⟨#[]⟩, .string ⟨#[]⟩, .slice none 0 0] T)) w.heap.size := ⟨by go_simp, by go_simp, by go_simp, by go_simp, by go_simp, by go_simp, by go_simp, by go_simp, by go_simp, by go_simp, by simp⟩
/-- The result's box, written. -/
def put5 (W : World) (B : Nat) (a b c d e : Value) : World := ((((W.setCell ⟨B, 0, none⟩ a).setCell ⟨B, 1, none⟩ b).setCell ⟨B, 2, none⟩ c).setCell ⟨B, 3, none⟩ d).setCell ⟨B, 4, none⟩ e
theorem put5_below {w W : World} {B : Nat} (h : Below w.heap.size w W) (hB : w.heap.size ≤ B) (a b c d e : Value) : Below w.heap.size w (put5 W B a b c d e) :=
  ((((h.setCell (p := ⟨B, 0, none⟩) hB _).setCell (p := ⟨B, 1, none⟩) hB _).setCell (p := ⟨B, 2, none⟩) hB _).setCell (p := ⟨B, 3, none⟩) hB _).setCell (p := ⟨B, 4, none⟩) hB _
theorem put5_ex {w W : World} {B : Nat} {t : Ex} {v : Value} (h : ExIn W (B + 1) W.heap.size t v) (hB : w.heap.size ≤ B) (a b c d e : Value) : ExIn (put5 W B a b c d e) w.heap.size (put5 W B a b c d e).heap.size t v := by
  have hz : (put5 W B a b c d e).heap.size = W.heap.size := by simp [put5]
  refine ExIn.wide (h.keep (by rw [hz]; exact Nat.le_refl _) (fun q h1 _ _ => ?_)) (by omega) (by rw [hz]; exact Nat.le_refl _)
  unfold put5
  rw [Below.heap_setCell _ _ _ _ (show q ≠ B by omega), Below.heap_setCell _ _ _ _ (show q ≠ B by omega), Below.heap_setCell _ _ _ _ (show q ≠ B by omega), Below.heap_setCell _ _ _ _ (show q ≠ B by omega), Below.heap_setCell _ _ _ _ (show q ≠ B by omega)]
/-- What a reader of an expression returns: the expression and the offset behind it, or -1 minus the offset at which it fails. -/
def XRet (w : World) (e : Ending) (w' : World) : Rs → Prop
  | .ok x n => ∃ (v : Value) (N : Int), N = (n : Int) ∧ e = .returned (.tuple #[.agg #[.int .i64 x.k, .int .i64 x.n, .string x.m, .string x.s, v], .int .i64 N]) ∧ ExIn w' w.heap.size w'.heap.size x v ∧ Below w.heap.size w w'
  | .no k => ∃ (a b : Int) (m s : ByteArray) (p : Option Addr) (l c : Nat) (N : Int), N = -1 - (k : Int) ∧ e = .returned (.tuple #[.agg #[.int .i64 a, .int .i64 b, .string m, .string s, .slice p l c], .int .i64 N]) ∧ Below w.heap.size w w'
theorem XRet.of {w w' : World} {e : Ending} {r r' : Rs} (h : XRet w e w' r) (hr : r' = r) : XRet w e w' r' := by rw [hr]; exact h
theorem one_ext {s : ByteArray} {i : Nat} {lo hi : Int} (h : i < s.size) : oneB lo hi (s.extract i (i + 1)) = inB lo hi (by8 s i) := by
  have hz : (s.extract i (i + 1)).size = 1 := by rw [ByteArray.size_extract]; omega
  rw [oneB_is hz, by8_in h]
  congr 1
  simp [ByteArray.getElem_extract]
theorem ret_bw {a b : Bool} (h : a = b) : Ending.returned (.bool a) = .returned (.bool b) := by rw [h]

set_option maxHeartbeats 1000000 in
theorem l3Digit_any (s : ByteArray) (i : Nat) (I : Int) (hI : I = i) (hs : s.size ≤ 1048576) (hi : i ≤ 1048600) (w : World) :
    Calls Try.prog 15 #[.string s, .int .i64 I] w fun e w' => e = .returned (.bool (dig (by8 s i))) ∧ w' = w := by
  subst hI
  by_cases h : i < s.size
  · have r1 := by8_idx Try.prog 9 Try.underlying9 h
    have h1 : (i : Int) < (s.size : Int) := by omega
    obtain ⟨c, hc⟩ : ∃ c, by8 s i = c := ⟨_, rfl⟩
    rw [hc] at r1 ⊢
    clear h hc
    by_cases h2 : (48 : Int) ≤ c
    · by_cases h3 : c ≤ 57
      · have hd : Hid (dig c = true) := Lib.hid (decide_eq_true ⟨h2, h3⟩)
        go_enter Try.func15, Try.ntmps15
        go_wp2_with fail
        go_ret
        exact ⟨ret_bw (by rw [hd.out]), rfl⟩
      · have hd : Hid (dig c = false) := Lib.hid (decide_eq_false (fun h => h3 h.2))
        go_enter Try.func15, Try.ntmps15
        go_wp2_with fail
        go_ret
        exact ⟨ret_bw (by rw [hd.out]), rfl⟩
    · have hd : Hid (dig c = false) := Lib.hid (decide_eq_false (fun h => h2 h.1))
      go_enter Try.func15, Try.ntmps15
      go_wp2_with fail
      go_ret
      exact ⟨ret_bw (by rw [hd.out]), rfl⟩
  · have h1 : ¬ (i : Int) < (s.size : Int) := by omega
    have hd : Hid (dig (by8 s i) = false) := Lib.hid (by rw [by8_end h]; rfl)
    clear h
    go_enter Try.func15, Try.ntmps15
    go_wp2_with fail
    go_ret
    exact ⟨ret_bw (by rw [hd.out]), rfl⟩

set_option maxHeartbeats 1000000 in
theorem l3IsSmall_any (s : ByteArray) (i : Nat) (I : Int) (hI : I = i) (hs : s.size ≤ 1048576) (hi : i ≤ 1048600) (w : World) :
    Calls Try.prog 17 #[.string s, .int .i64 I] w fun e w' => e = .returned (.bool (sml (by8 s i))) ∧ w' = w := by
  by_cases h : i < s.size
  · have h0 : (0 : Int) ≤ I := by omega
    have h1 : I < (s.size : Int) := by omega
    have h2 : I + 1 ≤ (s.size : Int) := by omega
    have s1 : IntKind.i64.wrap (I + 1) = I + 1 := IntWalk.i64_in _ (by omega)
    have HT : Hid (I.toNat = i) := Lib.hid (by omega)
    have HT1 : Hid ((I + 1).toNat = i + 1) := Lib.hid (by omega)
    have HS : Hid (oneB 97 122 (s.extract I.toNat (I + 1).toNat) = sml (by8 s i)) := Lib.hid (by rw [HT.out, HT1.out]; exact one_ext h)
    have h3 : I ≤ I + 1 := by omega
    clear hI h
    go_enter Try.func17, Try.ntmps17
    go_wp2_with fail
    go_at_call 32
    refine (l3Small_any _ _).mono ?_
    rintro e w1 ⟨rfl, rfl⟩
    go_wp2_with fail
    go_ret
    exact ⟨ret_bw (by rw [HS.out]), rfl⟩
  · have h0 : (0 : Int) ≤ I := by omega
    have h1 : ¬ I < (s.size : Int) := by omega
    have hd : Hid (sml (by8 s i) = false) := Lib.hid (by rw [by8_end h]; rfl)
    clear h hI
    go_enter Try.func17, Try.ntmps17
    go_wp2_with fail
    go_ret
    exact ⟨ret_bw (by rw [hd.out]), rfl⟩

end Go.Proofs.Ytpaefcdchaemfaa
