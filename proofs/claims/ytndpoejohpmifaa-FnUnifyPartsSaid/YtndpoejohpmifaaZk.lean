/-
  The variables of a type, in the order of their first occurrences, put behind a list: the program and the model.
-/
import Derived.Test.YtndpoejohpmifaaZe
import Derived.Test.YtndpoejohpmifaaZh
import Derived.Maps.AppendAt
namespace Go.Proofs.Ytndpoejohpmifaa
open Go.RowKit

/-- A number behind a list that does not have it. -/
def addV (acc : List Int) (n : Int) : List Int := if n ∈ acc then acc else acc ++ [n]
/-- The variables of a type behind a list. -/
def vars : Nat → Ty → List Int → List Int
  | 0, _, acc => acc
  | d + 1, t, acc => (List.range t.ks.length).foldl (fun a i => vars d (t.ks.getD i Ty.dummy) a) (if t.k = 4 then addV acc t.n else acc)
/-- Those of the first j operands. -/
def varsK (d : Nat) (t : Ty) (acc : List Int) (j : Nat) : List Int := (List.range j).foldl (fun a i => vars d (t.ks.getD i Ty.dummy) a) acc
theorem varsK_succ (d : Nat) (t : Ty) (acc : List Int) (j : Nat) : varsK d t acc (j + 1) = vars d (t.ks.getD j Ty.dummy) (varsK d t acc j) := by
  unfold varsK; rw [List.range_succ, List.foldl_append]; rfl
theorem vars_var {d : Nat} {t : Ty} {acc : List Int} (h : t.k = 4) (hl : t.ks.length = 0) : vars (d + 1) t acc = addV acc t.n := by rw [vars, hl, if_pos h]; rfl
theorem vars_kids {d : Nat} {t : Ty} {acc : List Int} (h : t.k ≠ 4) : vars (d + 1) t acc = varsK d t acc t.ks.length := by rw [vars, if_neg h]; rfl
theorem addV_len (acc : List Int) (n : Int) : (addV acc n).length ≤ acc.length + 1 := by
  unfold addV; split
  · omega
  · simp
theorem vars_len : ∀ (d : Nat) (t : Ty) (acc : List Int), (vars d t acc).length ≤ acc.length + nd d t
  | 0, t, acc => by simp [vars]
  | d + 1, t, acc => by
    have key : ∀ j b, (varsK d t b j).length ≤ b.length + ndk d t j := by
      intro j b
      induction j with
      | zero => simp [varsK, ndk_zero]
      | succ j ih =>
        rw [varsK_succ, ndk_succ]
        have := vars_len d (t.ks.getD j Ty.dummy) (varsK d t b j)
        omega
    have h1 : (vars (d + 1) t acc).length ≤ (if t.k = 4 then addV acc t.n else acc).length + ndk d t t.ks.length := key _ _
    rw [nd_succ]
    split at h1
    · have := addV_len acc t.n; omega
    · omega
abbrev IntsAt (w : World) (B : Nat) (v : Value) (l : List Int) : Prop := w.ownsRow B 3 1 v l.length (l.map (Value.int .i64))
theorem ints_slice {w : World} {B : Nat} {v : Value} {l : List Int} (h : IntsAt w B v l) : ∃ a cap, v = .slice a l.length cap := by
  obtain ⟨hl, ⟨rfl, h0⟩ | ⟨g, cap, cur, rfl, _⟩⟩ := h
  · exact ⟨none, 0, by rw [h0]⟩
  · exact ⟨_, cap, rfl⟩
theorem ints_at {w : World} {B : Nat} {v : Value} {l : List Int} (h : IntsAt w B v l) (k : Nat) (hk : k < l.length) :
    ∃ b cap, v = .slice (some ⟨b, 0, none⟩) l.length cap ∧ B ≤ b ∧ b < w.heap.size ∧ w.cell? ⟨b, k, none⟩ = some (.int .i64 (l.getD k 0)) := by
  have h' := h
  obtain ⟨hl, ⟨rfl, h0⟩ | ⟨g, cap, cur, rfl, hb', ho, h1, h2, h3, h4⟩⟩ := h
  · omega
  · refine ⟨g, cap, rfl, hb', (Array.getElem?_eq_some_iff.1 ho).1, ?_⟩
    rw [h'.cellAt k (by omega)]
    simp [List.getD, hk]
theorem ints_below {w w' : World} {B : Nat} {v : Value} {l : List Int} (h : IntsAt w B v l) (hb : Below w.heap.size w w') : IntsAt w' B v l := own_below h hb
theorem ints_low {w w' : World} {B C : Nat} {v : Value} {l : List Int} (h : IntsAt w B v l) (hlt : ∀ g, v.ownBlock = some g → g < C) (hb : Below C w w') : IntsAt w' B v l := by
  obtain ⟨hl, h | ⟨g, cap, cur, rfl, hb', ho, h1, h2, h3, h4⟩⟩ := h
  · exact ⟨hl, .inl h⟩
  · exact ⟨hl, .inr ⟨g, cap, cur, rfl, hb', (hb.block g (hlt g rfl)).trans ho, h1, h2, h3, h4⟩⟩
theorem Try.infoInt : (Try.prog.info? 3).map (fun i => (i.zero, i.size, i.bytes)) = some (some (.int .i64 0), 1, 8) := by kernel_rfl

set_option maxRecDepth 100000 in
set_option maxHeartbeats 1000000 in
theorem index_any (B : Nat) (l : List Int) (n : Int) (v : Value) (w : World) (h : IntsAt w B v l) (hl : l.length ≤ 1000000) :
    Calls Try.prog 116 #[v, .int .i64 n] w fun e w' => (∃ r : Int, e = .returned (.int .i64 r) ∧ (0 ≤ r ↔ n ∈ l)) ∧ w' = w := by
  have H := Lib.hid h
  obtain ⟨a, c, rfl⟩ := ints_slice h
  obtain ⟨L, hL⟩ : ∃ L, l.length = L := ⟨_, rfl⟩
  have HL := Lib.hid hL
  rw [hL] at hl ⊢
  clear h hL
  go_enter Try.func116, Try.ntmps116
  go_wp2_with fail
  go_loopw [8] (fun i wr => ∃ j : Nat, j ≤ L ∧ i = .int .i64 j ∧ Hid (∀ q, q < j → l.getD q 0 ≠ n) ∧ wr = w) (fun i _ => L - (intOf i).toNat)
  case atStart => exact ⟨0, Nat.zero_le _, rfl, Lib.hid (fun q hq => absurd hq (Nat.not_lt_zero _)), rfl⟩
  case round =>
    obtain ⟨j, hj, rfl, hno, rfl⟩ := hrel
    by_cases hlt : j < L
    · have hji : (j : Int) < (L : Int) := by omega
      obtain ⟨b, cap, ex, _, bl, x0⟩ := ints_at H.out j (by rw [HL.out]; exact hlt)
      have ex1 : a = some ⟨b, 0, none⟩ := by injection ex
      subst ex1
      clear ex
      obtain ⟨y, hy⟩ : ∃ y, l.getD j 0 = y := ⟨_, rfl⟩
      rw [hy] at x0
      by_cases hn : n = y
      · have hm : Hid (n ∈ l) := Lib.hid (by
          rw [hn, ← hy]
          have hjl : j < l.length := by rw [HL.out]; exact hlt
          simp [List.getD, hjl])
        have e1 : (n == y) = true := by simpa using hn
        clear hn hy
        go_wp2_with fail
        go_ret
        exact ⟨⟨j, rfl, ⟨fun _ => hm.out, fun _ => by omega⟩⟩, rfl⟩
      · have e1 : (n == y) = false := by simpa using hn
        have HNO : Hid (∀ q, q < j + 1 → l.getD q 0 ≠ n) := Lib.hid (fun q hq => by
          rcases Nat.lt_or_ge q j with h | h
          · exact hno.out q h
          · have : q = j := by omega
            rw [this, hy]; exact fun e => hn e.symm)
        clear hn hy hno
        go_wp2_with fail
        exact ⟨⟨j + 1, by omega, by go_num, HNO, trivial⟩, by simp [intOf]; omega⟩
    · have hji : ¬ (j : Int) < (L : Int) := by omega
      have hm : Hid (¬ n ∈ l) := Lib.hid (fun hmem => by
        obtain ⟨q, hq, hqe⟩ := List.getElem_of_mem hmem
        refine hno.out q (by rw [HL.out] at hq; omega) ?_
        simp [List.getD, hq, hqe])
      clear hno hlt
      go_wp2_with fail
      go_ret
      exact ⟨⟨-1, rfl, ⟨fun h => absurd h (by omega), fun h => absurd h hm.out⟩⟩, rfl⟩

set_option maxRecDepth 100000 in
set_option maxHeartbeats 1000000 in
theorem contains_any (B : Nat) (l : List Int) (n : Int) (v : Value) (w : World) (h : IntsAt w B v l) (hl : l.length ≤ 1000000) (b : Bool) (hb : decide (n ∈ l) = b) :
    Calls Try.prog 93 #[v, .int .i64 n] w fun e w' => e = .returned (.bool b) ∧ w' = w := by
  have H := Lib.hid h
  have HB := Lib.hid hb
  obtain ⟨a, c, rfl⟩ := ints_slice h
  clear h hb
  go_enter Try.func93, Try.ntmps93
  go_wp2_with fail
  go_at_call 116
  refine (index_any B l n _ _ H.out hl).mono ?_
  rintro e w1 ⟨⟨r, rfl, hr⟩, rfl⟩
  by_cases h0 : 0 ≤ r
  · have HT : Hid (b = true) := Lib.hid (by rw [← HB.out]; exact decide_eq_true (hr.1 h0))
    clear hr
    go_wp2_with fail
    go_ret
    exact ⟨by rw [HT.out]; simp, rfl⟩
  · have HT : Hid (b = false) := Lib.hid (by rw [← HB.out]; exact decide_eq_false (fun h => h0 (hr.2 h)))
    clear hr
    go_wp2_with fail
    go_ret
    exact ⟨by rw [HT.out]; simp; omega, rfl⟩

end Go.Proofs.Ytndpoejohpmifaa
