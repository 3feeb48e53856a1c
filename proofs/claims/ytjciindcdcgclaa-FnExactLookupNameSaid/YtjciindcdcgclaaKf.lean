/-
  The names with types from the last one on: slices.Backward's iterator over them.
-/
import Derived.RangeFuncNested
import Derived.RangeFuncBound
import Derived.RangeFuncCalls
import Derived.RangeFuncLeaves
import Derived.Shelf.Abstract
import Derived.Shelf.RegionOpen
import Derived.WalkKit
import Derived.OwnWalkIn
import Derived.TacticsInMore
import Derived.LoopNIn
import Derived.LoopIn
import Derived.Test.YtjciindcdcgclaaKe
namespace Go.Proofs.Ytjciindcdcgclaa
open Go.RowKit Go.Shelf
attribute [local go_sem] Oper.semAt_some
set_option linter.unusedVariables false
set_option linter.unusedSimpArgs false

/-- The first k of the indices below L, from the last one on. -/
def downN (L k : Nat) : List Nat := (List.range k).map fun i => L - 1 - i
theorem downN_step {L q : Nat} (h : q < L) : downN L (L - q) = downN L (L - (q + 1)) ++ [q] := by
  have e : L - q = (L - (q + 1)) + 1 := by omega
  have e2 : L - 1 - (L - (q + 1)) = q := by omega
  rw [e]
  simp only [downN, List.range_succ, List.map_append, List.map_cons, List.map_nil, e2]
theorem downN_length (L k : Nat) : (downN L k).length = k := by simp [downN]
/-- The element at an index, as a value. -/
def knV (el : Nat → Kn) (vs : Nat → Value) (j : Nat) : Array Value := #[.int .i64 (j : Int), .agg #[.string (el j).s, .int .i64 (el j).t.k, .int .i64 (el j).t.n, vs j]]

set_option maxRecDepth 100000 in
set_option maxHeartbeats 4000000 in
/-- The iterator's closure, for every body that keeps what lay below n₀. -/
theorem back1_in (F : Fence) (n : Nat) (hg : F.fn 71) (hro : F.round = none) (hn : 1 ≤ n) (l Bs n₀ b o L cap : Nat) (el : Nat → Kn) (vs : Nat → Value) (hL : L ≤ 60) (hb : b < n₀) (hBn : Bs < n₀) (J Jx : List Nat → World → Prop)
    (hY : ∀ pre x W, J pre W → pre.length < L → YieldAt F (n - 1) Try.prog l (knV el vs x) W fun e W' =>
      (e = .returned (.bool true) ∧ J (pre ++ [x]) W' ∧ Below n₀ W W') ∨ (e = .returned (.bool false) ∧ Jx (pre ++ [x]) W'))
    (W : World) (hBs : W.cell? ⟨Bs, 0, none⟩ = some (.slice (some ⟨b, o, none⟩) L cap)) (hc : ∀ j, j < L → KFd W b (o + j * 4) (el j) (vs j)) (h0 : J [] W) :
    CallsIn F n Try.prog 71 #[.func (.yield l) #[] #[], .pointer (some ⟨Bs, 0, none⟩)] W fun e W' => (∃ v, e = .returned v) ∧
      ((∃ ys, ys = downN L L ∧ J ys W') ∨ (∃ pre, (∃ k, k ≤ L ∧ pre = downN L k) ∧ Jx pre W')) := by
  have HC := Lib.hid hc
  clear hc
  refine callsIn_of_wp Try.func71 rfl hg ?_ hro
  simp only [Try.ntmps71, List.size_toArray, List.length_cons, List.length_nil, Nat.reduceAdd, Nat.reduceSub, Array.replicate_succ, Array.replicate_zero, List.push_toArray, List.append_toArray, List.nil_append, List.cons_append]
  gi_wp2
  gi_loopw [3] (fun i wr => ∃ (j : Nat) (p : Int), j ≤ L ∧ p = (j : Int) - 1 ∧ i = .int .i64 p ∧ J (downN L (L - j)) wr ∧ Below n₀ W wr) (fun i _ => (intOf i + 1).toNat)
  case atStart => exact ⟨L, (L : Int) - 1, Nat.le_refl _, rfl, by go_num, by rw [Nat.sub_self]; exact h0, Below.refl _ _⟩
  case round =>
    obtain ⟨j, p, hj, hp, rfl, hJs, hnx⟩ := hrel
    have hBs' := (hnx.cell (p := ⟨Bs, 0, none⟩) hBn).trans hBs
    cases j with
    | zero =>
      obtain rfl : p = -1 := by omega
      clear hp
      gi_wp2
      go_end0
      exact ⟨⟨_, rfl⟩, .inl ⟨_, rfl, hJs⟩⟩
    | succ k =>
      obtain rfl : p = (k : Int) := by omega
      have hkL : (k : Int) < (L : Int) := by omega
      have hk0 : 0 ≤ (k : Int) := by omega
      obtain ⟨x0, x1, x2, x3⟩ := (HC.out k (by omega)).keep (hnx.block b hb)
      obtain ⟨fn, tmps, assign, body, hy, hR⟩ := hY _ k wr hJs (by rw [downN_length]; omega)
      unfold knV at hy
      clear hp
      gi_wp2
      refine hR.mono ?_
      rintro e W3 (⟨rfl, hJ3, hk3⟩ | ⟨rfl, hJx3⟩)
      · gi_wp2
        go_roundw
        case rel => exact ⟨k, (k : Int) - 1, by omega, rfl, by go_num, by rw [downN_step (by omega)]; exact hJ3, hnx.trans hk3⟩
        case measure => simp [intOf]
      · gi_wp2
        refine bodyPost_ret (results_none rfl _ _ _) rfl ?_
        exact ⟨⟨_, rfl⟩, .inr ⟨_, ⟨L - k, by omega, (downN_step (by omega)).symm⟩, hJx3⟩⟩

set_option maxRecDepth 100000 in
set_option maxHeartbeats 1000000 in
/-- Without elements: no round. -/
theorem back0_in (F : Fence) (n : Nat) (hg : F.fn 71) (hro : F.round = none) (l Bs cap : Nat) (a : Option Addr) (J : List Nat → World → Prop) (W : World) (hBs : W.cell? ⟨Bs, 0, none⟩ = some (.slice a 0 cap)) (h0 : J [] W) :
    CallsIn F n Try.prog 71 #[.func (.yield l) #[] #[], .pointer (some ⟨Bs, 0, none⟩)] W fun e W' => (∃ v, e = .returned v) ∧ J [] W' := by
  refine callsIn_of_wp Try.func71 rfl hg ?_ hro
  simp only [Try.ntmps71, List.size_toArray, List.length_cons, List.length_nil, Nat.reduceAdd, Nat.reduceSub, Array.replicate_succ, Array.replicate_zero, List.push_toArray, List.append_toArray, List.nil_append, List.cons_append]
  gi_wp2
  gi_loopw [3] (fun i wr => i = .int .i64 (-1) ∧ J [] wr) (fun _ _ => 0)
  case atStart => exact ⟨by go_num, h0⟩
  case round =>
    obtain ⟨rfl, hJs⟩ := hrel
    gi_wp2
    go_end0
    exact ⟨⟨_, rfl⟩, hJs⟩

set_option maxRecDepth 100000 in
set_option maxHeartbeats 1000000 in
theorem back_in (F : Fence) (n : Nat) (hg : F.fn 36) (hro : F.round = none) (a : Option Addr) (len cap : Nat) (w : World) :
    CallsIn F n Try.prog 36 #[.slice a len cap] w fun e w' => e = .returned (.func (.func 71) #[] #[.pointer (some ⟨w.heap.size, 0, none⟩)]) ∧ w' = w.alloc (.cells #[.slice a len cap] 23) := by
  refine callsIn_of_wp Try.func36 rfl hg ?_ hro
  simp only [Try.ntmps36, List.size_toArray, List.length_cons, List.length_nil, Nat.reduceAdd, Nat.reduceSub, Array.replicate_succ, Array.replicate_zero, List.push_toArray, List.append_toArray, List.nil_append, List.cons_append]
  gi_wp2
  go_ret
  exact ⟨rfl, rfl⟩

theorem shp_num : shp 16 (.node 1 0 []) = true := by decide
theorem downN_lt {L k i : Nat} (hk : k ≤ L) (h : i ∈ downN L k) : i < L := by
  unfold downN at h
  obtain ⟨q, hq, rfl⟩ := List.mem_map.1 h
  have := List.mem_range.1 hq
  omega
/-- What slices.Backward hands back, for names with valid types that lie in memory: all indices from the last one on, or the first of them. -/
theorem back_stops (F : Fence) (n : Nat) (hg : F.fn 71) (hro : F.round = none) (hn : 1 ≤ n) (Bs n₀ : Nat) (a : Option Addr) (L cap : Nat) (ls : List Kn) (hL : L ≤ 60) (hLL : ls.length = L) (hV : ∀ j, j < L → tvT (ls.getD j Kn.dummy).t = true) (w0 w : World) (hk : KnAt w0 ls (.slice a L cap)) (hb0 : Below w0.heap.size w0 w) (hn₀ : w0.heap.size ≤ n₀) (hw : n₀ ≤ w.heap.size) (hBn : Bs < n₀)
    (hc : w.cell? ⟨Bs, 0, none⟩ = some (.slice a L cap)) :
    ∃ (el : Nat → Kn) (vs : Nat → Value), (∀ j, j < L → ls.getD j Kn.dummy = el j) ∧ (∀ j, TyAt w0 (el j).t (vs j)) ∧ (∀ j, shp 16 (el j).t = true) ∧
      SeqStopsK F n Try.prog 71 #[.pointer (some ⟨Bs, 0, none⟩)] (knV el vs) (Below n₀) (fun ys => ys = downN L L) (fun pre => ∃ k, k ≤ L ∧ pre = downN L k) L w := by
  subst hLL
  cases hk with
  | bare a cap =>
    refine ⟨fun _ => ⟨⟨#[]⟩, .node 1 0 []⟩, fun _ => .slice none 0 0, fun j hj => absurd hj (Nat.not_lt_zero _), fun _ => .bare 1 0 none 0, fun _ => shp_num, ?_⟩
    intro l J Jx W hW _ _ hY h0
    have hc' := (hW.cell (p := ⟨Bs, 0, none⟩) (Nat.lt_of_lt_of_le hBn hw)).trans hc
    exact (back0_in F n hg hro l Bs cap _ J W hc' h0).mono fun e W' ⟨he, hj⟩ => ⟨he, .inl ⟨_, rfl, hj⟩⟩
  | row ls b o cap vs hbl hl h0 h3 =>
    refine ⟨fun j => if j < ls.length then ls.getD j Kn.dummy else ⟨⟨#[]⟩, .node 1 0 []⟩, fun j => if j < ls.length then vs j else .slice none 0 0, fun j hj => by simp only [if_pos hj], fun j => ?_, fun j => ?_, ?_⟩
    · by_cases hj : j < ls.length
      · simp only [if_pos hj]; exact h3 j hj
      · simp only [if_neg hj]; exact .bare 1 0 none 0
    · by_cases hj : j < ls.length
      · simp only [if_pos hj]; exact tvT_shp (hV j hj)
      · simp only [if_neg hj]; exact shp_num
    intro l J Jx W hW _ _ hY h0'
    have hc' := (hW.cell (p := ⟨Bs, 0, none⟩) (Nat.lt_of_lt_of_le hBn hw)).trans hc
    exact back1_in F n hg hro hn l Bs n₀ b o ls.length cap _ _ hL (by omega) hBn J Jx hY W hc' (fun j hj => by simp only [if_pos hj]; exact (h0 j hj).keep ((hW.block b (by omega)).trans (hb0.block b hbl))) h0'

/-- Cells of a result stay when a block turns that is none of cells. -/
theorem RB.turn {W W' : World} {B : Nat} {row : Option Nat} (h : RB W B) (hg : W.grownBy W' row) (hr : ∀ r, row = some r → ∃ o : Obj, W.heap[r]? = some o ∧ o.isCells = false) : RB W' B :=
  ⟨cell_kept h.c0 hg hr, cell_kept h.c1 hg hr, cell_kept h.c2 hg hr, (frozen_kept h.c0 hg hr).trans h.f0, (frozen_kept h.c1 hg hr).trans h.f1, (frozen_kept h.c2 hg hr).trans h.f2, Nat.lt_of_lt_of_le h.sz hg.size⟩
theorem KBox.turn {W W' : World} {B : Nat} {v0 v1 v2 v3 : Value} {row : Option Nat} (h : KBox W B v0 v1 v2 v3) (hg : W.grownBy W' row) (hr : ∀ r, row = some r → ∃ o : Obj, W.heap[r]? = some o ∧ o.isCells = false) : KBox W' B v0 v1 v2 v3 :=
  ⟨cell_kept h.c0 hg hr, cell_kept h.c1 hg hr, cell_kept h.c2 hg hr, cell_kept h.c3 hg hr, Nat.lt_of_lt_of_le h.sz hg.size⟩
theorem TyIn.turn {W W' : World} {lo hi : Nat} {t : Ty} {v : Value} {row : Option Nat} (h : TyIn W lo hi t v) (hg : W.grownBy W' row) (hr : ∀ r, row = some r → ∃ o : Obj, W.heap[r]? = some o ∧ o.isCells = false) : TyIn W' lo hi t v := by
  induction h with
  | bare lo hi k n a cap => exact .bare lo hi k n a cap
  | row lo hi k n ks b cap vs l h hb1 hb2 hw hl h0 h1 h2 hf hin hd _ ih =>
    obtain ⟨C, T, hC⟩ := hw.pl
    have e := grownBy_keeps_cells hg hr hC rfl
    exact .row lo hi k n ks b cap vs l h hb1 hb2 (hw.keep hg.size e) hl (fun i hi => (cellEq e).trans (h0 i hi)) (fun i hi => (cellEq e).trans (h1 i hi)) (fun i hi => (cellEq e).trans (h2 i hi)) (fun i hi => (frozenEq e).trans (hf i hi)) hin hd ih
theorem KeepsFrom.of_below {B : Nat} {W W' : World} (h : Below W.heap.size W W') : KeepsFrom B W W' :=
  ⟨h.size, fun k o _ hk _ => (h.block k (Array.getElem?_eq_some_iff.1 hk).1).trans hk⟩
theorem lk_skip {ls : List Kn} {s : ByteArray} {L : Nat} : ∀ (k : Nat), k ≤ L → (∀ i ∈ downN L k, ¬ (ls.getD i Kn.dummy).s.toList = s.toList) → lk ls s L = lk ls s (L - k)
  | 0, _, _ => rfl
  | k + 1, hk, h => by
    have e : L - k = (L - (k + 1)) + 1 := by omega
    have h2 : downN L (k + 1) = downN L k ++ [L - (k + 1)] := by
      have := downN_step (L := L) (q := L - (k + 1)) (by omega)
      rw [show L - (L - (k + 1)) = k + 1 by omega, show L - (L - (k + 1) + 1) = k by omega] at this
      exact this
    rw [h2] at h
    rw [lk_skip k (by omega) (fun i hi => h i (List.mem_append.2 (.inl hi))), e]
    exact lk_no (h _ (List.mem_append.2 (.inr (List.mem_singleton.2 rfl))))
theorem lk_hit {ls : List Kn} {s : ByteArray} {L k j : Nat} {ini : List Nat} (hk : k ≤ L) (e : downN L k = ini ++ [j]) (h : ∀ i ∈ ini, ¬ (ls.getD i Kn.dummy).s.toList = s.toList) (hj : (ls.getD j Kn.dummy).s.toList = s.toList) : lk ls s L = some (ls.getD j Kn.dummy).t ∧ j < L := by
  obtain ⟨q, rfl⟩ : ∃ q, k = q + 1 := by
    cases k with
    | zero => simp [downN] at e
    | succ q => exact ⟨q, rfl⟩
  have h2 : downN L (q + 1) = downN L q ++ [L - (q + 1)] := by
    have := downN_step (L := L) (q := L - (q + 1)) (by omega)
    rw [show L - (L - (q + 1)) = q + 1 by omega, show L - (L - (q + 1) + 1) = q by omega] at this
    exact this
  rw [h2] at e
  obtain ⟨rfl, e5⟩ := List.append_inj' e rfl
  obtain rfl : L - (q + 1) = j := by simpa using e5
  refine ⟨?_, by omega⟩
  rw [lk_skip q (by omega) h, show L - q = (L - (q + 1)) + 1 by omega]
  exact lk_yes hj

set_option maxRecDepth 100000 in
set_option maxHeartbeats 8000000 in
theorem lookup_impl (ls : List Kn) (v : Value) (s : ByteArray) (w : World) (hz : KnSz ls) (hx : KnAt w ls v) (r : Option Ty) (hr : lookB ls s = r) :
    Calls Try.prog 8 #[v, .string s] w (OptRet r w) := by
  have HX := Lib.hid hx
  have HZ : Hid (KnSz ls) := Lib.hid hz
  obtain ⟨a, cap, rfl, hlen⟩ := hx.slice
  obtain ⟨L, hL⟩ : ∃ L, ls.length = L := ⟨_, rfl⟩
  have HL := Lib.hid hL
  rw [hL] at hlen HX ⊢
  clear hx hz
  obtain ⟨A, hA⟩ : ∃ A, w.heap.size = A := ⟨_, rfl⟩
  have HAA := Lib.hid hA
  obtain ⟨W1, hW1⟩ : ∃ W1, ((w.alloc (.cells #[.string s] 9)).alloc (.cells #[.int .i64 0, .int .i64 0, .slice none 0 0] 28)).alloc (.cells #[.bool false] 4) = W1 := ⟨_, rfl⟩
  have hB1 : Below A w W1 := by rw [← hW1, ← hA]; exact (((Below.refl _ _).alloc (Nat.le_refl _) _).alloc (by simp) _).alloc (by simp; omega) _
  have hz1 : W1.heap.size = A + 3 := by rw [← hW1, ← hA]; simp
  have HN1 : Hid (Boxed W1 A 9 (.string s)) := Lib.hid (by rw [← hW1, ← hA]; exact ((Boxed.new w _ _).alloc _).alloc _)
  have HR1 : Hid (RB W1 (A + 1)) := Lib.hid (by have h := (rb_new (w.alloc (.cells #[.string s] 9)) 28).kept ((Below.refl _ _).alloc (Nat.le_refl _) (.cells #[.bool false] 4)); rw [hW1, sizeA, hA] at h; exact h)
  have HO1 : Hid (Boxed W1 (A + 1 + 1) 4 (.bool false)) := Lib.hid (by have h := Boxed.new ((w.alloc (.cells #[.string s] 9)).alloc (.cells #[.int .i64 0, .int .i64 0, .slice none 0 0] 28)) 4 (.bool false); rw [hW1, sizeA, sizeA, hA] at h; exact h)
  have HW1 := Lib.hid hW1
  have HB1 := Lib.hid hB1
  have HX1 := Lib.hid (HX.out.kept (by rw [hA]; exact hB1))
  clear hW1 hB1
  rcases he : envB ls with _ | _
  · have HE := Lib.hid he
    obtain rfl : r = none := by rw [← hr]; exact lookB_bad he
    clear he hr hL
    go_enter Try.func8, Try.ntmps8
    go_wp2_with fail
    rw [HW1.out]
    go_at_call 11
    refine (envValid_impl ls _ _ HZ.out HX1.out).mono ?_
    rintro e w1 ⟨rfl, hb1⟩
    rw [HE.out]
    have HR2 := Lib.hid (HR1.out.kept hb1)
    have HO2 := Lib.hid (HO1.out.kept (⟨hb1.os, hb1.tape, hb1.output, hb1.size, fun k hk _ => hb1.block k hk⟩ : W1.grownBy w1 none) (by simp))
    have HB2 := Lib.hid (HB1.out.trans (hb1.mono (by omega)))
    clear hb1
    obtain ⟨p0, p1, p2, f0, f1, f2, psz⟩ := HR2.out
    have q0 := HO2.out.cell
    have q1 := HO2.out.frozen
    go_wp2_with fail
    refine bodyPost_ret (v := .tuple #[.agg #[.int .i64 0, .int .i64 0, .slice none 0 0], .bool false]) (by simp [results, Try.results8, go_sem, p0, p1, p2, q0, psz]) rfl ⟨rfl, ?_⟩
    rw [hA]
    exact (((HB2.out.setCell (p := ⟨A + 1, 0, none⟩) (by show A ≤ A + 1; omega) _).setCell (p := ⟨A + 1, 1, none⟩) (by show A ≤ A + 1; omega) _).setCell (p := ⟨A + 1, 2, none⟩) (by show A ≤ A + 1; omega) _).setCell (p := ⟨A + 1 + 1, 0, none⟩) (by show A ≤ A + 1 + 1; omega) _
  have HE := Lib.hid he
  have HLK : Hid (lk ls s L = r) := Lib.hid (by rw [← hL, ← lookB_good he]; exact hr)
  have hL60 : L ≤ 60 := by rw [← hL]; exact (envB_all he).1
  have HV : Hid (∀ i, i < L → tvT (ls.getD i Kn.dummy).t = true) := Lib.hid (fun i hi => okK_ty ((envB_all he).2 i (by rw [hL]; exact hi)))
  clear he hr hL
  refine (callsIn_wide (n := 10)).1 ?_
  refine callsIn_of_wp_marks Try.func8 rfl trivial ?_ rfl
  simp only [Try.ntmps8, List.size_toArray, List.length_cons, List.length_nil, Nat.reduceAdd, Nat.reduceSub, Array.replicate_succ, Array.replicate_zero, List.push_toArray, List.append_toArray, List.nil_append, List.cons_append]
  gi_wp2_with (fail)
  rw [HW1.out]
  refine ⟨trivial, ?_⟩
  gi_at_call 11
  refine (callsIn_wide.2 (envValid_impl ls _ _ HZ.out HX1.out)).mono ?_
  rintro e w1 ⟨rfl, hb1⟩
  rw [HE.out]
  have HR2 := Lib.hid (HR1.out.kept hb1)
  have HN2 := Lib.hid (HN1.out.kept (⟨hb1.os, hb1.tape, hb1.output, hb1.size, fun k hk _ => hb1.block k hk⟩ : W1.grownBy w1 none) (by simp))
  have HO2 := Lib.hid (HO1.out.kept (⟨hb1.os, hb1.tape, hb1.output, hb1.size, fun k hk _ => hb1.block k hk⟩ : W1.grownBy w1 none) (by simp))
  have HB2 := Lib.hid (HB1.out.trans (hb1.mono (by omega)))
  have hz2 : A + 3 ≤ w1.heap.size := by have := hb1.size; omega
  clear hb1
  gi_wp2_with (fail)
  refine ⟨trivial, ?_⟩
  gi_at_call 36
  refine (back_in _ _ trivial rfl _ _ _ _).mono ?_
  rintro e w2 ⟨rfl, rfl⟩
  gi_wp2_with (fail)
  obtain ⟨B, hB⟩ : ∃ B, w1.heap.size = B := ⟨_, rfl⟩
  obtain ⟨W2, hW2⟩ : ∃ W2, w1.alloc (.cells #[.slice a L cap] 23) = W2 := ⟨_, rfl⟩
  have hb2 : Below w1.heap.size w1 W2 := by rw [← hW2]; exact (Below.refl _ _).alloc (Nat.le_refl _) _
  have hz3 : W2.heap.size = B + 1 := by rw [← hW2, ← hB]; simp
  have HBS : Hid (W2.cell? ⟨B, 0, none⟩ = some (.slice a L cap)) := Lib.hid (by have h := (Boxed.new w1 23 (.slice a L cap)).cell; rw [hW2, hB] at h; exact h)
  have hg2 : w1.grownBy W2 none := by rw [← hW2]; exact World.grownBy_alloc _ _ _
  have HR3 := Lib.hid (HR2.out.kept hb2)
  have HN3 := Lib.hid (HN2.out.kept hg2 (by simp))
  have HO3 := Lib.hid (HO2.out.kept hg2 (by simp))
  have HB3 := Lib.hid (HB2.out.trans (hb2.mono (by omega)))
  have hBA : A + 3 ≤ B := by omega
  rw [hB]
  rw [hW2]
  clear hW2 hg2 hb2 hB
  obtain ⟨el, vs, hel, hvs, hsh, hst⟩ := back_stops Fence.wide (10 - 1) trivial rfl (by omega) B (B + 1) a L cap ls hL60 HL.out HV.out w W2 HX.out (by rw [hA]; exact HB3.out) (by rw [hA]; omega) (by omega) (by omega) HBS.out
  have HEL := Lib.hid hel
  have HVS := Lib.hid hvs
  have HSH := Lib.hid hsh
  clear hvs hel hsh
  refine wpIn_rangeFunc_ownH rfl (by omega) (gf := 71) (lb := #[.pointer (some ⟨B, 0, none⟩)]) rfl trivial (enters_of Try.func71 (by kernel_rfl) rfl) hst belowK_t (belowK_b (by omega)) (Below.refl _ _) (fun _ => rfl)
    (fun pre W => (∀ i ∈ pre, ¬ (el i).s.toList = s.toList) ∧ (Boxed W A 9 (.string s) ∧ RB W (A + 1) ∧ Boxed W (A + 1 + 1) 4 (.bool false)) ∧ Below A w W ∧ B + 1 ≤ W.heap.size)
    (fun c pre W => c = .ret ∧ ∃ (ini : List Nat) (j : Nat) (v : Value) (q : Nat), pre = ini ++ [j] ∧ (∀ i ∈ ini, ¬ (el i).s.toList = s.toList) ∧ (el j).s.toList = s.toList ∧
      (W.cell? ⟨A + 1, 0, none⟩ = some (.int .i64 (el j).t.k) ∧ W.cell? ⟨A + 1, 1, none⟩ = some (.int .i64 (el j).t.n) ∧ W.cell? ⟨A + 1, 2, none⟩ = some v ∧ W.cell? ⟨A + 1 + 1, 0, none⟩ = some (.bool true)) ∧
      TyIn W (B + 1) q (el j).t v ∧ q ≤ W.heap.size ∧ Below A w W)
    ?hI ?hIx ⟨fun i hi => absurd hi (List.not_mem_nil), ⟨HN3.out, HR3.out, HO3.out⟩, HB3.out, by omega⟩
    (fun j a' W => ∃ Bx, B + 1 ≤ Bx ∧ KBox W Bx (.string (el j).s) (.int .i64 (el j).t.k) (.int .i64 (el j).t.n) (vs j) ∧
      a' = { tmps := #[.slice a L cap, .string s, undef, .pointer (some ⟨A, 0, none⟩), .pointer (some ⟨A + 1, 0, none⟩), .pointer (some ⟨A + 1 + 1, 0, none⟩), undef, .pointer (some ⟨Bx, 0, none⟩), .slice a L cap, .bool true, .bool false, undef, .slice a L cap, .func (.func 71) #[] #[.pointer (some ⟨B, 0, none⟩)], .int .i64 (j : Int), .agg #[.string (el j).s, .int .i64 (el j).t.k, .int .i64 (el j).t.n, vs j], undef, undef, undef, undef, undef, undef, undef, undef], defers := [] })
    ?hAx ?assign ?body ?done ?stop
  case hI =>
    rintro pre X X' row ⟨h1, ⟨h2, h3, h4⟩, h5, h6⟩ hg hr
    have hr2 := fun q e => (hr q e).2
    have hsz := h5.size
    exact ⟨h1, ⟨boxed_own A 9 (fun _ : Unit => .string s) () X X' row h2 hg hr2, h3.turn hg hr2, boxed_own (A + 1 + 1) 4 (fun _ : Unit => .bool false) () X X' row h4 hg hr2⟩, h5.grown hg (by omega) (fun q e => by have := (hr q e).1; omega), Nat.le_trans h6 hg.size⟩
  case hIx =>
    rintro c pre X X' row ⟨h0, ini, j, v, q, h1, h2, h3, ⟨c0, c1, c2, c3⟩, h4, h5, h6⟩ hg hr
    have hr2 := fun q e => (hr q e).2
    have hsz := h6.size
    exact ⟨h0, ini, j, v, q, h1, h2, h3, ⟨cell_kept c0 hg hr2, cell_kept c1 hg hr2, cell_kept c2 hg hr2, cell_kept c3 hg hr2⟩, h4.turn hg hr2, Nat.le_trans h5 hg.size, h6.grown hg (by omega) (fun q e => by have := (hr q e).1; omega)⟩
  case hAx =>
    rintro j a' _ X X' row ⟨Bx, h1, h2, h3⟩ hg hr
    exact ⟨Bx, h1, h2.turn hg (fun q e => (hr q e).2), h3⟩
  case assign =>
    rintro l pre j X K ⟨h1, ⟨h2, h3, h4⟩, h5, h6⟩ hK
    have hsz := h5.size
    obtain ⟨ti, tc, hti, _⟩ := (HVS.out j).slice
    unfold knV
    rw [hti] at hK ⊢
    have hbx : Below X.heap.size X (X.alloc (.cells #[.string (el j).s, .int .i64 (el j).t.k, .int .i64 (el j).t.n, .slice ti (el j).t.ks.length tc] 34)) := (Below.refl _ _).alloc (Nat.le_refl _) _
    gi_wp2
    exact hK _ _ ((KeepsOthers.alloc _ _).from _) ((Below.refl _ X).alloc h6 _) ⟨h1, ⟨h2.alloc _, h3.kept hbx, h4.alloc _⟩, h5.alloc (by omega) _, by simp; omega⟩ ⟨X.heap.size, h6, kbox_new X _ _ _ _ _, rfl⟩
  case body =>
    rintro l pre j a' X hl _ ⟨h1, ⟨h2, h3, h4⟩, h5, h6⟩ ⟨Bx, hBx, hk, rfl⟩ hlen
    have HAT := Lib.hid ((HVS.out j).kept (h5.mono (by omega)))
    have HSJ := Lib.hid (HSH.out j)
    have H1 := Lib.hid h1
    have H3 := Lib.hid h3
    have H4 := Lib.hid h4
    have H5 := Lib.hid h5
    have h2k := h2
    have hsz := h5.size
    obtain ⟨x, hxx⟩ : ∃ x, el j = x := ⟨_, rfl⟩
    have HXX := Lib.hid hxx
    obtain ⟨vj, hvj⟩ : ∃ v, vs j = v := ⟨_, rfl⟩
    rw [hxx, hvj] at HAT
    rw [hxx] at HSJ
    rw [hxx, hvj] at hk
    rw [hxx, hvj]
    obtain ⟨ti, tc, rfl, _⟩ := HAT.out.slice
    obtain ⟨b0, b1, b2, b3, bz⟩ := hk
    obtain ⟨p0, p1, p2, f0, f1, f2, psz⟩ := h3
    have n0 := h2.cell
    have q0 := h4.cell
    have q1 := h4.frozen
    clear h1 h2 h4 h5 hxx hvj
    by_cases hs : x.s.toList = s.toList
    · have hsb : (x.s.toList == s.toList) = true := by rw [beq_iff_eq]; exact hs
      have HS := Lib.hid hs
      clear hs
      gi_wp2_with (fail)
      refine ⟨trivial, ?_⟩
      gi_at_call 37
      refine (CallsIn.inRound l (callsIn_wide.2 (copyType_any x.t 16 _ X HSJ.out HAT.out))).mono ?_
      rintro e w2 ⟨v2, rfl, hty, hb2⟩
      obtain ⟨a2, k2, rfl, _⟩ := hty.at.slice
      have HTY := Lib.hid hty
      have HB2 := Lib.hid hb2
      have HR4 := Lib.hid (H3.out.kept hb2)
      have HO4 := Lib.hid (H4.out.kept (⟨hb2.os, hb2.tape, hb2.output, hb2.size, fun k hk _ => hb2.block k hk⟩ : X.grownBy w2 none) (by simp))
      have hzz : X.heap.size ≤ w2.heap.size := hb2.size
      clear hty hb2 p0 p1 p2 f0 f1 f2 psz q0 q1
      obtain ⟨p0, p1, p2, f0, f1, f2, psz⟩ := HR4.out
      have q0 := HO4.out.cell
      have q1 := HO4.out.frozen
      gi_wp2_with (fail)
      have hxx := HXX.out
      refine ⟨(KeepsFrom.of_below HB2.out).trans ((((KeepsOthers.setCell _ _ _).trans (KeepsOthers.setCell _ _ _)).trans (KeepsOthers.setCell _ _ _)).trans (KeepsOthers.setCell _ _ _) |>.from _), rfl, pre, j, .slice a2 x.t.ks.length k2, w2.heap.size, rfl, H1.out, by rw [hxx]; exact HS.out, ?_, ?_, by simp, ?_⟩
      · rw [hxx]
        exact ⟨by simp [go_sem, p0, p1, p2, q0], by simp [go_sem, p0, p1, p2, q0], by simp [go_sem, p0, p1, p2, q0], by simp [go_sem, p0, p1, p2, q0]⟩
      · rw [hxx]
        refine (HTY.out.wide (by omega) (Nat.le_refl _)).keep (by simp) (fun b hb _ _ => ?_)
        rw [heap_setCell_other _ ⟨A + 1 + 1, 0, none⟩ b _ (by show b ≠ A + 1 + 1; omega), heap_setCell_other _ ⟨A + 1, 2, none⟩ b _ (by show b ≠ A + 1; omega), heap_setCell_other _ ⟨A + 1, 1, none⟩ b _ (by show b ≠ A + 1; omega), heap_setCell_other _ ⟨A + 1, 0, none⟩ b _ (by show b ≠ A + 1; omega)]
      · exact ((((H5.out.trans (HB2.out.mono (by omega))).setCell (p := ⟨A + 1, 0, none⟩) (by show A ≤ A + 1; omega) _).setCell (p := ⟨A + 1, 1, none⟩) (by show A ≤ A + 1; omega) _).setCell (p := ⟨A + 1, 2, none⟩) (by show A ≤ A + 1; omega) _).setCell (p := ⟨A + 1 + 1, 0, none⟩) (by show A ≤ A + 1 + 1; omega) _
    · have hsb : (x.s.toList == s.toList) = false := by rw [beq_eq_false_iff_ne]; exact hs
      have HS := Lib.hid hs
      clear hs
      gi_wp2_with (fail)
      refine ⟨KeepsFrom.refl _ _, Below.refl _ _, fun i hi => ?_, ⟨h2k, H3.out, H4.out⟩, H5.out, h6⟩
      rcases List.mem_append.1 hi with h | h
      · exact H1.out i h
      · rw [List.mem_singleton.1 h, HXX.out]; exact HS.out
  case done =>
    rintro D ys X hD rfl ⟨h1, ⟨h2, h3, h4⟩, h5, h6⟩ hK
    obtain ⟨p0, p1, p2, f0, f1, f2, psz⟩ := h3
    have q0 := h4.cell
    have q1 := h4.frozen
    gi_wp2_with (fail)
    have hK' := ((((KeepsOthers.setCell X ⟨A + 1, 0, none⟩ (.int .i64 0)).trans (KeepsOthers.setCell _ ⟨A + 1, 1, none⟩ (.int .i64 0))).trans (KeepsOthers.setCell _ ⟨A + 1, 2, none⟩ (.slice none 0 0))).trans (KeepsOthers.setCell _ ⟨A + 1 + 1, 0, none⟩ (.bool false))).same D _ hK rfl
    refine ⟨by simp, .inl ⟨_, _, rfl, run_takeDeferred hK', ?_⟩⟩
    have hbl := (((h5.setCell (p := ⟨A + 1, 0, none⟩) (by show A ≤ A + 1; omega) (.int .i64 0)).setCell (p := ⟨A + 1, 1, none⟩) (by show A ≤ A + 1; omega) (.int .i64 0)).setCell (p := ⟨A + 1, 2, none⟩) (by show A ≤ A + 1; omega) (.slice none 0 0)).setCell (p := ⟨A + 1 + 1, 0, none⟩) (by show A ≤ A + 1 + 1; omega) (.bool false)
    obtain ⟨X2, hX2⟩ : ∃ X2, (((X.setCell ⟨A + 1, 0, none⟩ (.int .i64 0)).setCell ⟨A + 1, 1, none⟩ (.int .i64 0)).setCell ⟨A + 1, 2, none⟩ (.slice none 0 0)).setCell ⟨A + 1 + 1, 0, none⟩ (.bool false) = X2 := ⟨_, rfl⟩
    have c0 : X2.cell? ⟨A + 1, 0, none⟩ = some (.int .i64 0) := by rw [← hX2]; simp [go_sem, p0, p1, p2, q0]
    have c1 : X2.cell? ⟨A + 1, 1, none⟩ = some (.int .i64 0) := by rw [← hX2]; simp [go_sem, p0, p1, p2, q0]
    have c2 : X2.cell? ⟨A + 1, 2, none⟩ = some (.slice none 0 0) := by rw [← hX2]; simp [go_sem, p0, p1, p2, q0]
    have c3 : X2.cell? ⟨A + 1 + 1, 0, none⟩ = some (.bool false) := by rw [← hX2]; simp [go_sem, p0, p1, p2, q0]
    rw [hX2] at hK' hbl ⊢
    have hgp := grownBy_putObj' X2 D (.deferred none)
    have hrp : ∀ r, some D = some r → ∃ o : Obj, X2.heap[r]? = some o ∧ o.isCells = false := fun r e => by cases e; exact ⟨_, hK', rfl⟩
    have d0 := cell_kept c0 hgp hrp
    have d1 := cell_kept c1 hgp hrp
    have d2 := cell_kept c2 hgp hrp
    have d3 := cell_kept c3 hgp hrp
    have HR : r = none := by
      rw [← HLK.out, lk_skip L (Nat.le_refl _) (fun i hi => by rw [HEL.out i (downN_lt (Nat.le_refl _) hi)]; exact h1 i hi), Nat.sub_self]
      rfl
    subst HR
    refine ⟨.tuple #[.agg #[.int .i64 0, .int .i64 0, .slice none 0 0], .bool false], by simp [results, Try.results8, Try.f8, go_sem, d0, d1, d2, d3], rfl, ?_⟩
    rw [HAA.out]
    exact hbl.grown hgp (by have := hbl.size; omega) (fun q e => by cases e; omega)
  case stop =>
    rintro D c pre X hD ⟨k, hk, rfl⟩ ⟨rfl, ini, j, v, q, e1, h1, hs, ⟨c0, c1, c2, c3⟩, hty, hq, hbel⟩ hK
    gi_wp2_with (fail)
    refine ⟨by simp, .inl ⟨_, _, rfl, run_takeDeferred hK, ?_⟩⟩
    have hgp := grownBy_putObj' X D (.deferred none)
    have hrp : ∀ r, some D = some r → ∃ o : Obj, X.heap[r]? = some o ∧ o.isCells = false := fun r e => by cases e; exact ⟨_, hK, rfl⟩
    have d0 := cell_kept c0 hgp hrp
    have d1 := cell_kept c1 hgp hrp
    have d2 := cell_kept c2 hgp hrp
    have d3 := cell_kept c3 hgp hrp
    have hsz := hbel.size
    have hmem : ∀ i, i ∈ ini ++ [j] → i < L := fun i hi => downN_lt hk (by rw [e1]; exact hi)
    have hjl := hmem j (List.mem_append.2 (.inr (List.mem_singleton.2 rfl)))
    obtain ⟨hl1, _⟩ := lk_hit (ls := ls) (s := s) hk e1 (fun i hi => by rw [HEL.out i (hmem i (List.mem_append.2 (.inl hi)))]; exact h1 i hi) (by rw [HEL.out j hjl]; exact hs)
    have HR : r = some (el j).t := by rw [← HLK.out, hl1, HEL.out j hjl]
    subst HR
    refine ⟨.tuple #[.agg #[.int .i64 (el j).t.k, .int .i64 (el j).t.n, v], .bool true], by simp [results, Try.results8, Try.f8, go_sem, d0, d1, d2, d3], v, rfl, ((hty.turn hgp hrp).wide (by omega) (by have := hgp.size; omega)), ?_⟩
    rw [HAA.out]
    exact hbel.grown hgp (by omega) (fun q e => by cases e; omega)
end Go.Proofs.Ytjciindcdcgclaa
