/-
  freshNames of the program at nodes: the generator of XAk, its keys nodes.
  typeAt of the program's graph: the type at a node, its variables numbered as they are met.
  canonAt of the program's graph: the type at a node, if it is one.
  UnifyTypes of the program.
-/
import Derived.Test.YtndpoejohpmifaaNhk
import Derived.Test.YtndpoejohpmifaaAjk
import Derived.Test.YtndpoejohpmifaaNdg
namespace Go.Proofs.Ytndpoejohpmifaa.Nx
open Go.Proofs.Ytndpoejohpmifaa
open Go.RowKit Go.Maps
set_option linter.unusedVariables false
set_option linter.unusedSimpArgs false

theorem lawN : Keyed Try.prog 85 := int_keyed Try.underlying85
/-- The map numbers the elements of st by their places. -/
structure MapIs (D : DataW Unit) (st : List Int) : Prop where
  tidy : Tidy D
  size : Maps.size D = st.length
  has : ∀ n, Maps.has D (kI n) = decide (n ∈ st)
  at' : ∀ (i : Nat) (n : Int), st[i]? = some n → D.atKey (kI n) (.lit (.int .i64 0)) = .lit (.int .i64 (i : Int))
  nd : st.Nodup
  rg : ∀ n, n ∈ st → 0 ≤ n ∧ n ≤ 1000000
theorem mapIs_nil : MapIs (.map []) [] := ⟨tidy_empty, rfl, fun n => by simp [Maps.has], fun i n h => by simp at h, List.nodup_nil, fun n h => by simp at h⟩
theorem MapIs.put {D : DataW Unit} {st : List Int} (h : MapIs D st) {n : Int} (hn : n ∉ st) (h0 : 0 ≤ n) (h1 : n ≤ 1000000) : MapIs (D.put (kI n) (.lit (.int .i64 (st.length : Int)))) (st ++ [n]) := by
  refine ⟨h.tidy.put (key_lit n) _, ?_, ?_, ?_, ?_, ?_⟩
  · rw [size_put h.tidy, h.has, h.size]; simp [hn]
  · intro m
    by_cases hm : m = n
    · subst hm; rw [has_put_same h.tidy.isMap (key_lit _)]; simp
    · rw [has_put_other (kI_ne hm), h.has]; simp [hm]
  · intro i m hi
    by_cases hm : m = n
    · subst hm
      rw [atKey_put_same h.tidy.isMap (key_lit _)]
      by_cases hl : i < st.length
      · rw [List.getElem?_append_left hl] at hi
        exact absurd (List.mem_of_getElem? hi) hn
      · have hi' := (List.getElem?_eq_some_iff.1 hi).1
        simp at hi'
        obtain rfl : i = st.length := by omega
        rfl
    · rw [atKey_put_other (kI_ne hm)]
      by_cases hl : i < st.length
      · rw [List.getElem?_append_left hl] at hi; exact h.at' i m hi
      · rw [List.getElem?_append_right (by omega)] at hi
        have := (List.getElem?_eq_some_iff.1 hi)
        obtain ⟨hlt, he⟩ := this
        simp at he
        exact absurd he.symm hm
  · rw [List.nodup_append]
    refine ⟨h.nd, by simp, fun a ha b hb e => ?_⟩
    simp at hb
    subst hb; subst e
    exact hn ha
  · intro m hm
    rcases List.mem_append.1 hm with hm | hm
    · exact h.rg m hm
    · simp at hm; subst hm; exact ⟨h0, h1⟩
theorem MapIs.len {D : DataW Unit} {st : List Int} (h : MapIs D st) : st.length ≤ 1000001 := nodup_len 1000001 st h.nd (fun n hn => by have := h.rg n hn; omega)
/-- The generator's memory: its map in block bm behind the variable q -/
structure Gen (lo hi q bm : Nat) (st : List Int) (w : World) : Prop where
  d : ∃ D : DataW Unit, w.ownsMap Try.prog 85 (plainElem Try.prog 3) bm st.length D ∧ MapIs D st
  cq : w.cell? ⟨q, 0, none⟩ = some (.map (some bm))
  sq : lo ≤ q ∧ q < hi
  sm : lo ≤ bm ∧ bm < hi
  ne : q ≠ bm
  sz : hi ≤ w.heap.size
theorem ownsMap_block {w w' : World} {b n : Nat} {D : DataW Unit} (h : w.ownsMap Try.prog 85 (plainElem Try.prog 3) b n D) (e : w'.heap[b]? = w.heap[b]?) : w'.ownsMap Try.prog 85 (plainElem Try.prog 3) b n D := by
  obtain ⟨es, clock, hb, F, hs, hD⟩ := h
  exact ⟨es, clock, e.trans hb, F, hs, hD⟩
theorem gen_stays (lo hi q bm : Nat) : Stays (Gen lo hi q bm) lo hi :=
  ⟨fun st w w' h hs hk => ⟨by obtain ⟨D, h1, h2⟩ := h.d; exact ⟨D, ownsMap_block h1 (hk bm h.sm.1 h.sm.2), h2⟩, (cellEq (hk q h.sq.1 h.sq.2)).trans h.cq, h.sq, h.sm, h.ne, Nat.le_trans h.sz hs⟩, fun st w h => h.sz⟩
/-- What a call of the generator leaves. -/
def GenPost (lo hi q bm : Nat) (st : List Int) (n : Int) (w : World) (e : Ending) (w' : World) : Prop :=
  e = .returned (.int .i64 (ixA st n)) ∧ Inside lo hi w w' ∧ Gen lo hi q bm (addV st n) w'

set_option maxRecDepth 100000 in
set_option maxHeartbeats 2000000 in
theorem fresh_yes (lo hi q bm : Nat) (st : List Int) (n : Int) (h0 : 0 ≤ n) (h1 : n ≤ 1000000) (w : World) (hg : Gen lo hi q bm st w) (hn : n ∈ st) :
    Calls Try.prog 117 #[.int .i64 n, .pointer (some ⟨q, 0, none⟩)] w (GenPost lo hi q bm st n w) := by
  have HG := Lib.hid hg
  obtain ⟨D, hown, hD⟩ := hg.d
  have hq := hg.cq
  have hkey : keyOf Try.prog 85 (.int .i64 n) = some (kI n) := keyOf_int_mk Try.underlying85 (WalkArith.wf_i64 (by omega))
  have HH : Hid (Maps.has D (kI n) = true) := Lib.hid (by rw [hD.has]; simpa using hn)
  have HAT : Hid (D.atKey (kI n) (.lit (.int .i64 0)) = .lit (.int .i64 ((st.idxOf n : Nat) : Int))) := Lib.hid (hD.at' _ _ (by rw [List.getElem?_eq_getElem (List.idxOf_lt_length_of_mem hn)]; simp))
  have HIX := Lib.hid (ixA_in hn)
  have HADD : Hid (addV st n = st) := Lib.hid (by unfold addV; rw [if_pos hn])
  clear hg hD hn
  go_enter Try.func117, Try.ntmps117
  go_wp2_with (first | (at_lookup; refine wpList_lookup_own_ok_int _ rfl _ _ 148 rfl 85 3 .i64 lawN Try.underlying148 Try.underlying3 (zeroI _) bm _ D rfl hown _ _ rfl hkey ?_; intro c hat hwc; rw [HH.out]) | fail)
  have hc : c = ((st.idxOf n : Nat) : Int) := by
    have h := hat.symm.trans HAT.out
    injection h with h
    injection h
  exact bodyPost_ret (v := .int .i64 c) (by simp [results, Try.results117, go_sem]) rfl ⟨by rw [HIX.out, hc], Inside.refl _ _ _, by rw [HADD.out]; exact HG.out⟩

set_option maxRecDepth 100000 in
set_option maxHeartbeats 2000000 in
theorem fresh_no (lo hi q bm : Nat) (st : List Int) (n : Int) (h0 : 0 ≤ n) (h1 : n ≤ 1000000) (w : World) (hg : Gen lo hi q bm st w) (hn : n ∉ st) :
    Calls Try.prog 117 #[.int .i64 n, .pointer (some ⟨q, 0, none⟩)] w (GenPost lo hi q bm st n w) := by
  have HG := Lib.hid hg
  obtain ⟨D, hown, hD⟩ := hg.d
  have hq := hg.cq
  have hkey : keyOf Try.prog 85 (.int .i64 n) = some (kI n) := keyOf_int_mk Try.underlying85 (WalkArith.wf_i64 (by omega))
  have HH : Hid (Maps.has D (kI n) = false) := Lib.hid (by rw [hD.has]; simpa using hn)
  obtain ⟨L, hL⟩ : ∃ L, st.length = L := ⟨_, rfl⟩
  have hLl : L ≤ 1000001 := by rw [← hL]; exact hD.len
  have HSZ : Hid (Maps.size D = L) := Lib.hid (hD.size.trans hL)
  have HIX : Hid (ixA st n = (L : Int)) := Lib.hid (by rw [ixA_out hn, hL])
  have HADD : Hid (addV st n = st ++ [n]) := Lib.hid (by unfold addV; rw [if_neg hn])
  have HPUT : Hid (MapIs (D.put (kI n) (.lit (.int .i64 (L : Int)))) (st ++ [n])) := Lib.hid (by rw [← hL]; exact hD.put hn h0 h1)
  have HL := Lib.hid hL
  have hwf : (Lit.int .i64 (L : Int)).wf = true := WalkArith.wf_i64 (by omega)
  rw [hL] at hown
  clear hg hD hn hL
  go_enter Try.func117, Try.ntmps117
  go_wp2_with (first | (at_lookup; refine wpList_lookup_own_ok_int _ rfl _ _ 148 rfl 85 3 .i64 lawN Try.underlying148 Try.underlying3 (zeroI _) bm _ D rfl hown _ _ rfl hkey ?_; intro c hat hwc; rw [HH.out]) | (at_len; refine wpList_len_own _ rfl _ 148 rfl 85 3 Try.underlying148 _ bm _ D rfl hown ?_; rw [HSZ.out]) | (at_mapUpdate; refine wpList_mapUpdate_own _ rfl _ _ _ 148 rfl 85 3 lawN Try.underlying148 _ bm _ D rfl hown (by unfold maxLen; omega) _ _ _ rfl rfl hkey _ [] (plainElem_int Try.underlying3 hwf) ?_; intro w1 hown1 hgrow1) | fail)
  obtain ⟨gd, gq, gsq, gsm, gne, gsz⟩ := HG.out
  have hne : ∀ b, b ≠ bm → some b ≠ some bm := fun b h e => h (by injection e)
  have hb1 : ∀ b, b < w.heap.size → b ≠ bm → w1.heap[b]? = w.heap[b]? := fun b h1 h2 => hgrow1.block b h1 (hne b h2)
  have hin : Inside lo hi w w1 := ⟨hgrow1.os, hgrow1.tape, hgrow1.output, hgrow1.size, fun b hb hx => hb1 b hb (by omega)⟩
  have hgen : Gen lo hi q bm (st ++ [n]) w1 := ⟨⟨_, by rw [List.length_append, HL.out]; exact hown1, HPUT.out⟩, (cellEq (hb1 q (by omega) gne)).trans gq, gsq, gsm, gne, Nat.le_trans gsz hgrow1.size⟩
  exact bodyPost_ret (v := .int .i64 (L : Int)) (by simp [results, Try.results117, go_sem]) rfl ⟨by rw [HIX.out], hin, by rw [HADD.out]; exact hgen⟩
theorem fresh_any (lo hi q bm : Nat) (st : List Int) (n : Int) (h0 : 0 ≤ n) (h1 : n ≤ 1000000) (w : World) (hg : Gen lo hi q bm st w) :
    Calls Try.prog 117 #[.int .i64 n, .pointer (some ⟨q, 0, none⟩)] w (GenPost lo hi q bm st n w) := by
  by_cases hn : n ∈ st
  · exact fresh_yes lo hi q bm st n h0 h1 w hg hn
  · exact fresh_no lo hi q bm st n h0 h1 w hg hn

theorem freshNames_any (w : World) : Calls Try.prog 99 #[] w fun e w' => e = .returned (.func (.func 117) #[] #[.pointer (some ⟨w.heap.size + 1, 0, none⟩)]) ∧ w' = (w.alloc (.map #[] 0)).alloc (.cells #[.map (some w.heap.size)] 148) := by
  have hmm := @run_makeMap Try.prog
  go_enter Try.func99, Try.ntmps99
  go_wp2_with fail
  exact bodyPost_ret (v := .func (.func 117) #[] #[.pointer (some ⟨w.heap.size + 1, 0, none⟩)]) (by simp [results, Try.results99, go_sem]) rfl ⟨rfl, rfl⟩
theorem gen_new (w : World) : Gen w.heap.size (w.heap.size + 2) (w.heap.size + 1) w.heap.size [] ((w.alloc (.map #[] 0)).alloc (.cells #[.map (some w.heap.size)] 148)) := by
  obtain ⟨W1, hW1⟩ : ∃ W1, w.alloc (.map #[] 0) = W1 := ⟨_, rfl⟩
  have hz1 : W1.heap.size = w.heap.size + 1 := by rw [← hW1]; simp
  have hm : W1.ownsMap Try.prog 85 (plainElem (H := Unit) Try.prog 3) w.heap.size 0 (.map []) := by rw [← hW1]; exact World.ownsMap_made _ _ _ _
  rw [hW1, ← hz1]
  have hb2 : Below W1.heap.size W1 (W1.alloc (.cells #[.map (some w.heap.size)] 148)) := (Below.refl _ _).alloc (Nat.le_refl _) _
  refine ⟨⟨.map [], ?_, mapIs_nil⟩, ?_, by omega, by omega, by omega, by simp; omega⟩
  · exact ownsMap_block hm (hb2.block _ (by omega))
  · exact cell_fresh _ _ _

end Go.Proofs.Ytndpoejohpmifaa.Nx

namespace Go.Proofs.Ytndpoejohpmifaa.Nx
open Go.Proofs.Ytndpoejohpmifaa Go.Proofs.Ytndpoejohpmifaa.Mx
open Go.RowKit
set_option linter.unusedVariables false
set_option linter.unusedSimpArgs false

/-- Only the classes and the generator's blocks have changed. -/
structure Kp (am lo hi : Nat) (w w' : World) : Prop where
  os : w'.os = w.os
  tape : w'.tape = w.tape
  output : w'.output = w.output
  size : w.heap.size ≤ w'.heap.size
  block : ∀ b, b < w.heap.size → b ≠ am → (b < lo ∨ hi ≤ b) → w'.heap[b]? = w.heap[b]?
theorem Kp.refl (am lo hi : Nat) (w : World) : Kp am lo hi w w := ⟨rfl, rfl, rfl, Nat.le_refl _, fun _ _ _ _ => rfl⟩
theorem Kp.trans {am lo hi : Nat} {a b c : World} (h : Kp am lo hi a b) (k : Kp am lo hi b c) : Kp am lo hi a c :=
  ⟨k.os.trans h.os, k.tape.trans h.tape, k.output.trans h.output, Nat.le_trans h.size k.size, fun x hx h1 h2 => (k.block x (Nat.lt_of_lt_of_le hx h.size) h1 h2).trans (h.block x hx h1 h2)⟩
theorem Kp.below {am lo hi : Nat} {w w' : World} (h : Below w.heap.size w w') : Kp am lo hi w w' := ⟨h.os, h.tape, h.output, h.size, fun b hb _ _ => h.block b hb⟩
theorem Kp.inside {am lo hi : Nat} {w w' : World} (h : Inside lo hi w w') : Kp am lo hi w w' := ⟨h.os, h.tape, h.output, h.size, fun b hb _ h2 => h.block b hb h2⟩
theorem Kp.classes {am lo hi : Nat} {w w' : World} (h : Inside am (am + 1) w w') : Kp am lo hi w w' := ⟨h.os, h.tape, h.output, h.size, fun b hb h1 _ => h.block b hb (by omega)⟩
theorem Kp.res {am lo hi R : Nat} {w W : World} (h : Kp am lo hi w W) (hR : w.heap.size ≤ R) (x y z : Value) : Kp am lo hi w (((W.setCell ⟨R, 0, none⟩ x).setCell ⟨R, 1, none⟩ y).setCell ⟨R, 2, none⟩ z) :=
  ⟨h.os, h.tape, h.output, by simpa using h.size, fun b hb h1 h2 => (heap_res (by omega)).trans (h.block b hb h1 h2)⟩
theorem Kp.at {am lo hi B : Nat} {w w' : World} (h : Kp am lo hi w w') (hB : B < w.heap.size) (h1 : am < lo) (h2 : lo ≤ hi) (h3 : hi ≤ B) : w'.heap[B]? = w.heap[B]? := h.block B hB (by omega) (.inr h3)
theorem tbox_eq {w w' : World} {B : Nat} {x y z : Value} (h : TBox w B x y z) (e : w'.heap[B]? = w.heap[B]?) (hs : w.heap.size ≤ w'.heap.size) : TBox w' B x y z := by
  obtain ⟨a, b, c, d⟩ := h
  exact ⟨(cellEq e).trans a, (cellEq e).trans b, (cellEq e).trans c, Nat.lt_of_lt_of_le d hs⟩
theorem GM.far {w w' : World} {B n0 gb am vb M : Nat} {sh : Nat → Sh} {rep dp : Nat → Nat} {vm : Int → Option Nat} {sv : Value} {MA MV : List IV} (hg : GM w n0 gb am vb M sh rep dp vm sv MA MV) (hb : Below B w w') (h1 : gb < B) (h2 : am < B) (h3 : vb < B) (h4 : ∀ g, sv.ownBlock = some g → g < B) : GM w' n0 gb am vb M sh rep dp vm sv MA MV :=
  ⟨(hb.cell (p := ⟨gb, 0, none⟩) h1).trans hg.c0, (hb.cell (p := ⟨gb, 1, none⟩) h1).trans hg.c1, (hb.cell (p := ⟨gb, 2, none⟩) h1).trans hg.c2, (hb.frozen (p := ⟨gb, 0, none⟩) h1).trans hg.f0, Nat.lt_of_lt_of_le hg.gl hb.size, own_one hg.own (fun g e => hb.block g (h4 g e)), hg.ma.keep (hb.block am h2), hg.un, hg.mv.keep (hb.block vb h3), hg.vr, hg.lo, hg.d1, hg.d2⟩
/-- A graph that lies below the generator, and the generator. -/
structure GG (w : World) (lo hi q bm n0 gb am vb M : Nat) (sh : Nat → Sh) (rep : Nat → Nat) (vm : Int → Option Nat) (g cap : Nat) (MV : List IV) : Prop where
  gm : ∃ dp MA, GM w n0 gb am vb M sh rep dp vm (.slice (some ⟨g, 0, none⟩) M cap) MA MV
  l1 : gb < lo
  l2 : am < lo
  l3 : vb < lo
  l4 : g < lo
  lh : lo ≤ hi
  sz : hi ≤ w.heap.size
theorem GG.below {w w' : World} {B lo hi q bm n0 gb am vb M : Nat} {sh : Nat → Sh} {rep : Nat → Nat} {vm : Int → Option Nat} {g cap : Nat} {MV : List IV} (h : GG w lo hi q bm n0 gb am vb M sh rep vm g cap MV) (hb : Below B w w') (hB : lo ≤ B) : GG w' lo hi q bm n0 gb am vb M sh rep vm g cap MV := by
  obtain ⟨⟨dp, MA, hg⟩, l1, l2, l3, l4, lh, sz⟩ := h
  refine ⟨⟨dp, MA, GM.far hg hb (by omega) (by omega) (by omega) (fun x e => ?_)⟩, l1, l2, l3, l4, lh, Nat.le_trans sz hb.size⟩
  have e : g = x := by simpa [Value.ownBlock] using e
  omega
theorem GG.inside {w w' : World} {lo hi q bm n0 gb am vb M : Nat} {sh : Nat → Sh} {rep : Nat → Nat} {vm : Int → Option Nat} {g cap : Nat} {MV : List IV} (h : GG w lo hi q bm n0 gb am vb M sh rep vm g cap MV) (hi' : Inside lo hi w w') : GG w' lo hi q bm n0 gb am vb M sh rep vm g cap MV :=
  h.below (Inside.below hi' (Nat.le_refl _) (Below.refl _ _) (Nat.le_trans h.lh h.sz)) (Nat.le_refl _)
theorem GG.res {w : World} {R lo hi q bm n0 gb am vb M : Nat} {sh : Nat → Sh} {rep : Nat → Nat} {vm : Int → Option Nat} {g cap : Nat} {MV : List IV} (h : GG w lo hi q bm n0 gb am vb M sh rep vm g cap MV) (hR : hi ≤ R) (x y z : Value) : GG (((w.setCell ⟨R, 0, none⟩ x).setCell ⟨R, 1, none⟩ y).setCell ⟨R, 2, none⟩ z) lo hi q bm n0 gb am vb M sh rep vm g cap MV :=
  h.below (B := lo) ⟨rfl, rfl, rfl, by simp, fun b hb => heap_res (by have := h.lh; omega)⟩ (Nat.le_refl _)
/-- What typeAt leaves. -/
structure TaPost (lo hi q bm n0 gb am vb M : Nat) (sh : Nat → Sh) (rep : Nat → Nat) (vm : Int → Option Nat) (g cap : Nat) (MV : List IV) (d n : Nat) (st : List Int) (w : World) (e : Ending) (w' : World) : Prop where
  kp : Kp am lo hi w w'
  gg : GG w' lo hi q bm n0 gb am vb M sh rep vm g cap MV
  no : rt sh rep d n = none → e = .returned (.tuple #[.agg #[.int .i64 0, .int .i64 0, .slice none 0 0], .bool false])
  yes : ∀ u, rt sh rep d n = some u → ∃ v, e = .returned (.tuple #[.agg #[.int .i64 (rp fF d u st).1.k, .int .i64 (rp fF d u st).1.n, v], .bool true]) ∧ TyIn w' w.heap.size w'.heap.size (rp fF d u st).1 v ∧ Gen lo hi q bm (rp fF d u st).2 w'

set_option maxRecDepth 100000 in
set_option maxHeartbeats 8000000 in
theorem typeAt_any (lo hi q bm n0 gb am vb M : Nat) (sh : Nat → Sh) (rep : Nat → Nat) (vm : Int → Option Nat) (g cap : Nat) (MV : List IV) (hok : GOk M sh rep) (hMM : M ≤ 1000000) : ∀ (d n : Nat) (st : List Int) (w : World), d ≤ 100 → n < M → GG w lo hi q bm n0 gb am vb M sh rep vm g cap MV → Gen lo hi q bm st w →
    Calls Try.prog 98 #[.pointer (some ⟨gb, 0, none⟩), .int .i64 (n : Int), .int .i64 (d : Int), .func (.func 117) #[] #[.pointer (some ⟨q, 0, none⟩)]] w (TaPost lo hi q bm n0 gb am vb M sh rep vm g cap MV d n st w) := by
  have HOK := Lib.hid hok
  clear hok
  intro d
  induction d with
  | zero =>
    intro n st w hd hn hg hgen
    obtain ⟨W1, hW1⟩ : ∃ W1, w.alloc (.cells #[.int .i64 0, .int .i64 0, .slice none 0 0] 25) = W1 := ⟨_, rfl⟩
    have hB1 : Below w.heap.size w W1 := by rw [← hW1]; exact (Below.refl _ _).alloc (Nat.le_refl _) _
    have HR1 : Hid (RB W1 w.heap.size) := Lib.hid (by rw [← hW1]; exact rb_new w _)
    have HG1 := Lib.hid (hg.below hB1 (Nat.le_trans hg.lh hg.sz))
    have HK1 : Hid (Kp am lo hi w W1) := Lib.hid (Kp.below hB1)
    have hR : hi ≤ w.heap.size := hg.sz
    obtain ⟨p0, p1, p2, f0, f1, f2, psz⟩ := HR1.out
    clear hg hgen hB1
    rw [show ((0 : Nat) : Int) = 0 from rfl]
    go_enter Try.func98, Try.ntmps98
    go_wp2_with fail
    exact bodyPost_ret (v := .tuple #[.agg #[.int .i64 0, .int .i64 0, .slice none 0 0], .bool false]) (by simp [results, Try.results98, go_sem, p0, p1, p2, psz]) rfl ⟨HK1.out.res (Nat.le_refl _) _ _ _, HG1.out.res hR _ _ _, fun _ => rfl, fun u e => by (cases e)⟩
  | succ d ih =>
    intro n st w hd hn hg hgen
    have HIH := Lib.hid ih
    have HNN := Lib.hid hn
    obtain ⟨rn, hrn⟩ : ∃ rn, rep n = rn := ⟨_, rfl⟩
    have HRN := Lib.hid hrn
    have hrl : rn < M := by rw [← hrn]; exact HOK.out.lt n hn
    obtain ⟨W1, hW1⟩ : ∃ W1, w.alloc (.cells #[.int .i64 0, .int .i64 0, .slice none 0 0] 25) = W1 := ⟨_, rfl⟩
    have hB1 : Below w.heap.size w W1 := by rw [← hW1]; exact (Below.refl _ _).alloc (Nat.le_refl _) _
    have HR1 : Hid (RB W1 w.heap.size) := Lib.hid (by rw [← hW1]; exact rb_new w _)
    have hG1 := hg.below hB1 (Nat.le_trans hg.lh hg.sz)
    have HGN1 := Lib.hid ((gen_stays lo hi q bm).below hgen hB1)
    have HK1 : Hid (Kp am lo hi w W1) := Lib.hid (Kp.below hB1)
    have hz1 : W1.heap.size = w.heap.size + 1 := by rw [← hW1]; simp
    have hsz := hg.sz
    have hlh := hg.lh
    have hal := hg.l2
    obtain ⟨⟨dp, MA, hgm⟩, l1, l2, l3, l4, _, _⟩ := hG1
    have HGM1 := Lib.hid hgm
    have k1 := hgm.c1
    have hdn : ((d : Int) + 1 == 0) = false := by rw [beq_eq_false_iff_ne]; omega
    have hd63 : (d : Int) + 1 ≤ 1000 := by omega
    have hrl0 : (0 : Int) ≤ (rn : Int) := by omega
    have hrl1 : (rn : Int) < (M : Int) := by omega
    have toN : ((rn : Int)).toNat = rn := by omega
    clear ih hg hgen hgm hB1 hrn hn
    rw [show ((d + 1 : Nat) : Int) = (d : Int) + 1 from by omega]
    go_enter Try.func98, Try.ntmps98
    go_wp2_with fail
    clear hW1
    go_at_call 96
    refine (leaderN_any am MA rep dp n _ HGM1.out.ma HGM1.out.un).mono ?_
    rintro e w2 ⟨rfl, hin2, M2, hm2, hf2⟩
    rw [HRN.out]
    have HGM2 := Lib.hid (HGM1.out.classes hin2 hm2 hf2)
    have HK2 : Hid (Kp am lo hi w w2) := Lib.hid (HK1.out.trans (Kp.classes hin2))
    have HGN2 : Hid (Gen lo hi q bm st w2) := Lib.hid ((gen_stays lo hi q bm).keep st _ _ HGN1.out hin2.size (fun b h1 h2 => hin2.block b (Nat.lt_of_lt_of_le h2 HGN1.out.sz) (.inr (by omega))))
    have HR2 := Lib.hid (HR1.out.keep hin2.size (hin2.block _ HR1.out.sz (.inr (by omega))))
    have hz2 : W1.heap.size ≤ w2.heap.size := hin2.size
    have k0 := HGM2.out.c0
    have kn := HGM2.out.at hrl
    have HGG2 : Hid (GG w2 lo hi q bm n0 gb am vb M sh rep vm g cap MV) := Lib.hid ⟨⟨dp, M2, HGM2.out⟩, l1, l2, l3, l4, hlh, by omega⟩
    clear hin2 hm2 hf2 k1
    rcases hs : sh rn with _ | _ | ⟨k, l, r⟩
    · rw [hs] at kn; unfold shV at kn
      have HRT : Hid (rt sh rep (d + 1) n = some (.node 1 0 [])) := Lib.hid (rt_num (by rw [HRN.out]; exact hs))
      obtain ⟨p0, p1, p2, f0, f1, f2, psz⟩ := HR2.out
      clear hs
      go_wp2_with fail
      refine bodyPost_ret (v := .tuple #[.agg #[.int .i64 1, .int .i64 0, .slice none 0 0], .bool true]) (by simp [results, Try.results98, go_sem, p0, p1, p2, psz]) rfl ⟨HK2.out.res (Nat.le_refl _) _ _ _, HGG2.out.res hsz _ _ _, fun e => ?_, fun u e => ?_⟩
      · rw [HRT.out] at e; cases e
      · rw [HRT.out] at e
        injection e with e
        subst e
        have er : rp fF (d + 1) (.node 1 0 []) st = (.node 1 0 [], st) := by simp [rp]
        rw [er]
        exact ⟨.slice none 0 0, rfl, .bare _ _ _ _ _ _, (gen_stays lo hi q bm).res HGN2.out hsz _ _ _⟩
    · rw [hs] at kn; unfold shV at kn
      have HRT : Hid (rt sh rep (d + 1) n = some (.node 4 (rn : Int) [])) := Lib.hid (by rw [← HRN.out]; exact rt_var (by rw [HRN.out]; exact hs))
      obtain ⟨W3, hW3⟩ : ∃ W, w2.alloc (.cells #[] 124) = W := ⟨_, rfl⟩
      have hB3 : Below w2.heap.size w2 W3 := by rw [← hW3]; exact (Below.refl _ _).alloc (Nat.le_refl _) _
      have HG3 := Lib.hid (HGG2.out.below hB3 (by omega))
      have HGN3 := Lib.hid ((gen_stays lo hi q bm).below HGN2.out hB3)
      have HK3 := Lib.hid (HK2.out.trans (Kp.below hB3))
      have HR3 := Lib.hid (HR2.out.kept hB3)
      have hz3 : w2.heap.size ≤ W3.heap.size := hB3.size
      obtain ⟨ix, hix⟩ : ∃ ix, ixA st (rn : Int) = ix := ⟨_, rfl⟩
      have HIX := Lib.hid hix
      clear hs hB3 hix
      go_wp2_with fail
      go_at_call 117
      refine (fresh_any lo hi q bm st (rn : Int) hrl0 (by omega) W3 HGN3.out).mono ?_
      rintro e w4 ⟨rfl, hin4, hgn4⟩
      rw [HIX.out]
      have HGN4 := Lib.hid hgn4
      have HG4 := Lib.hid (HG3.out.inside hin4)
      have HK4 : Hid (Kp am lo hi w w4) := Lib.hid (HK3.out.trans (Kp.inside hin4))
      have HR4 := Lib.hid (HR3.out.keep hin4.size (hin4.block _ HR3.out.sz (.inr hsz)))
      have hz4 : W3.heap.size ≤ w4.heap.size := hin4.size
      clear hin4 hgn4 hW3
      go_wp2_with fail
      go_at_call 58
      refine (varType_any _ _).mono ?_
      rintro e w5 ⟨v5, rfl, hty5, hb5⟩
      obtain ⟨a5, k5, rfl, _⟩ := hty5.at.slice
      have HGN5 := Lib.hid ((gen_stays lo hi q bm).below HGN4.out hb5)
      have HG5 := Lib.hid (HG4.out.below hb5 (by omega))
      have HK5 := Lib.hid (HK4.out.trans (Kp.below hb5))
      have HR5 := Lib.hid (HR4.out.kept hb5)
      have HTY := Lib.hid hty5
      clear hty5 hb5
      obtain ⟨p0, p1, p2, f0, f1, f2, psz⟩ := HR5.out
      go_wp2_with fail
      refine bodyPost_ret (v := .tuple #[.agg #[.int .i64 4, .int .i64 ix, .slice a5 0 k5], .bool true]) (by simp [results, Try.results98, go_sem, p0, p1, p2, psz, Ty.k, Ty.n, Ty.ks]) rfl ⟨HK5.out.res (Nat.le_refl _) _ _ _, HG5.out.res hsz _ _ _, fun e => ?_, fun u e => ?_⟩
      · rw [HRT.out] at e; cases e
      · rw [HRT.out] at e
        injection e with e
        subst e
        have er : rp fF (d + 1) (.node 4 (rn : Int) []) st = (.node 4 ix [], addV st (rn : Int)) := by rw [← HIX.out]; simp [rp, fF]
        rw [er]
        exact ⟨.slice a5 0 k5, rfl, res_ty (HTY.out.wide (lo' := w.heap.size + 1) (by omega) (Nat.le_refl _)) (Nat.le_refl w.heap.size) _ _ _, (gen_stays lo hi q bm).res HGN5.out hsz _ _ _⟩
    · rw [hs] at kn; unfold shV at kn
      obtain ⟨hk, hl, hr⟩ := HOK.out.kid rn k l r hrl hs
      have HS : Hid (sh (rep n) = .join k l r) := Lib.hid (by rw [HRN.out]; exact hs)
      have HL := Lib.hid hl
      have HRR := Lib.hid hr
      have HK4 : Hid (k ≠ 4) := Lib.hid (by omega)
      obtain ⟨T3, hT3⟩ : ∃ T, w2.heap.size = T := ⟨_, rfl⟩
      obtain ⟨W3, hW3⟩ : ∃ W, w2.alloc (.cells #[.int .i64 k, .int .i64 (l : Int), .int .i64 (r : Int)] 126) = W := ⟨_, rfl⟩
      have hB3 : Below w2.heap.size w2 W3 := by rw [← hW3]; exact (Below.refl _ _).alloc (Nat.le_refl _) _
      have HX3 : Hid (TBox W3 T3 (.int .i64 k) (.int .i64 (l : Int)) (.int .i64 (r : Int))) := Lib.hid (by rw [← hT3, ← hW3]; exact tbox_new w2 _ _ _ _)
      have HG3 := Lib.hid (HGG2.out.below hB3 (by omega))
      have HGN3 := Lib.hid ((gen_stays lo hi q bm).below HGN2.out hB3)
      have HKP3 := Lib.hid (HK2.out.trans (Kp.below hB3))
      have HR3 := Lib.hid (HR2.out.kept hB3)
      have hz3 : W3.heap.size = T3 + 1 := by rw [← hW3, ← hT3]; simp
      have hT : w.heap.size + 1 ≤ T3 := by omega
      have hdw : IntKind.i64.wrap ((d : Int) + 1 - 1) = (d : Int) := by rw [show (d : Int) + 1 - 1 = (d : Int) from by omega]; exact IntWalk.i64_in _ ⟨by omega, by omega⟩
      obtain ⟨x0, x1, x2, xz⟩ := HX3.out
      have hd100 : d ≤ 100 := by omega
      clear hs hB3 hl hr hk hz1 hz2
      go_wp2_with fail
      refine (HIH.out l st W3 hd100 HL.out HG3.out HGN3.out).mono ?_
      rintro e w4 hp4
      have hR4 := HR3.out.keep hp4.kp.size (hp4.kp.at HR3.out.sz hal hlh hsz)
      have HR4 := Lib.hid hR4
      have hz4 : W3.heap.size ≤ w4.heap.size := hp4.kp.size
      have HKP4 := Lib.hid (HKP3.out.trans hp4.kp)
      have HG4 := Lib.hid hp4.gg
      rcases h1 : rt sh rep d l with _ | ua
      · obtain rfl := hp4.no h1
        have HRT : Hid (rt sh rep (d + 1) n = none) := Lib.hid (rt_left HS.out h1)
        have hbz : Below w4.heap.size w4 (w4.alloc (.cells #[.int .i64 0, .int .i64 0, .slice none 0 0] 25)) := (Below.refl _ _).alloc (Nat.le_refl _) _
        have HKP5 := Lib.hid (HKP4.out.trans (Kp.below hbz))
        have HG5 := Lib.hid (HG4.out.below hbz (by omega))
        obtain ⟨p0, p1, p2, f0, f1, f2, psz⟩ := HR4.out.kept hbz
        clear hp4 hR4 h1 hbz hW3 x0 x1 x2
        go_wp2_with fail
        exact bodyPost_ret (v := .tuple #[.agg #[.int .i64 0, .int .i64 0, .slice none 0 0], .bool false]) (by simp [results, Try.results98, go_sem, p0, p1, p2, psz]) rfl ⟨HKP5.out.res (Nat.le_refl _) _ _ _, HG5.out.res hsz _ _ _, fun _ => rfl, fun u e => by rw [HRT.out] at e; cases e⟩
      · obtain ⟨v4, rfl, hty4, hgn4⟩ := hp4.yes ua h1
        obtain ⟨y1, hy1⟩ : ∃ y, (rp fF d ua st).1 = y := ⟨_, rfl⟩
        obtain ⟨s1, hs1⟩ : ∃ y, (rp fF d ua st).2 = y := ⟨_, rfl⟩
        rw [hy1] at hty4 ⊢
        rw [hs1] at hgn4
        obtain ⟨a4, k4, rfl, _⟩ := hty4.at.slice
        have HY1 := Lib.hid hy1
        have HS1 := Lib.hid hs1
        have H1 := Lib.hid h1
        obtain ⟨T5, hT5⟩ : ∃ T, w4.heap.size = T := ⟨_, rfl⟩
        obtain ⟨W5, hW5⟩ : ∃ W, w4.alloc (.cells #[.int .i64 y1.k, .int .i64 y1.n, .slice a4 y1.ks.length k4] 25) = W := ⟨_, rfl⟩
        have hB5 : Below w4.heap.size w4 W5 := by rw [← hW5]; exact (Below.refl _ _).alloc (Nat.le_refl _) _
        have HX5 : Hid (TBox W5 T5 (.int .i64 y1.k) (.int .i64 y1.n) (.slice a4 y1.ks.length k4)) := Lib.hid (by rw [← hT5, ← hW5]; exact tbox_new w4 _ _ _ _)
        have HX35 := Lib.hid ((tbox_eq HX3.out (hp4.kp.at HX3.out.sz hal hlh (by omega)) hp4.kp.size).kept hB5)
        have HTY5 := Lib.hid (hty4.kept hB5)
        have HG5 := Lib.hid (HG4.out.below hB5 (by omega))
        have HGN5 := Lib.hid ((gen_stays lo hi q bm).below hgn4 hB5)
        have HKP5 := Lib.hid (HKP4.out.trans (Kp.below hB5))
        have HR5 := Lib.hid (HR4.out.kept hB5)
        have hz5 : W5.heap.size = T5 + 1 := by rw [← hW5, ← hT5]; simp
        have hT35 : W3.heap.size ≤ T5 := by omega
        obtain ⟨y0, y1', y2, yz⟩ := HX35.out
        clear hp4 hR4 h1 hy1 hs1 hty4 hgn4 hB5 x0 x1 x2 hW3
        go_wp2_with fail
        refine (HIH.out r s1 W5 hd100 HRR.out HG5.out HGN5.out).mono ?_
        rintro e w6 hp6
        have hR6 := HR5.out.keep hp6.kp.size (hp6.kp.at HR5.out.sz hal hlh hsz)
        have HR6 := Lib.hid hR6
        have hz6 : W5.heap.size ≤ w6.heap.size := hp6.kp.size
        have HKP6 := Lib.hid (HKP5.out.trans hp6.kp)
        have HG6 := Lib.hid hp6.gg
        rcases h2 : rt sh rep d r with _ | ub
        · obtain rfl := hp6.no h2
          have HRT : Hid (rt sh rep (d + 1) n = none) := Lib.hid (rt_right HS.out H1.out h2)
          have hbz : Below w6.heap.size w6 (w6.alloc (.cells #[.int .i64 0, .int .i64 0, .slice none 0 0] 25)) := (Below.refl _ _).alloc (Nat.le_refl _) _
          have HKP7 := Lib.hid (HKP6.out.trans (Kp.below hbz))
          have HG7 := Lib.hid (HG6.out.below hbz (by omega))
          obtain ⟨p0, p1, p2, f0, f1, f2, psz⟩ := HR6.out.kept hbz
          clear hp6 hR6 h2 hbz hW5 y0 y1' y2
          go_wp2_with fail
          exact bodyPost_ret (v := .tuple #[.agg #[.int .i64 0, .int .i64 0, .slice none 0 0], .bool false]) (by simp [results, Try.results98, go_sem, p0, p1, p2, psz]) rfl ⟨HKP7.out.res (Nat.le_refl _) _ _ _, HG7.out.res hsz _ _ _, fun _ => rfl, fun u e => by rw [HRT.out] at e; cases e⟩
        · obtain ⟨v6, rfl, hty6, hgn6⟩ := hp6.yes ub h2
          obtain ⟨y2x, hy2⟩ : ∃ y, (rp fF d ub s1).1 = y := ⟨_, rfl⟩
          obtain ⟨s2, hs2⟩ : ∃ y, (rp fF d ub s1).2 = y := ⟨_, rfl⟩
          rw [hy2] at hty6 ⊢
          rw [hs2] at hgn6
          obtain ⟨a6, k6, rfl, _⟩ := hty6.at.slice
          have HY2 := Lib.hid hy2
          have HS2 := Lib.hid hs2
          have H2 := Lib.hid h2
          obtain ⟨T7, hT7⟩ : ∃ T, w6.heap.size = T := ⟨_, rfl⟩
          obtain ⟨W7, hW7⟩ : ∃ W, w6.alloc (.cells #[.int .i64 y2x.k, .int .i64 y2x.n, .slice a6 y2x.ks.length k6] 25) = W := ⟨_, rfl⟩
          have hB7 : Below w6.heap.size w6 W7 := by rw [← hW7]; exact (Below.refl _ _).alloc (Nat.le_refl _) _
          have HX7 : Hid (TBox W7 T7 (.int .i64 y2x.k) (.int .i64 y2x.n) (.slice a6 y2x.ks.length k6)) := Lib.hid (by rw [← hT7, ← hW7]; exact tbox_new w6 _ _ _ _)
          have HX57 := Lib.hid ((tbox_eq HX5.out (hp6.kp.at HX5.out.sz hal hlh (by omega)) hp6.kp.size).kept hB7)
          have HX37 := Lib.hid ((tbox_eq HX35.out (hp6.kp.at HX35.out.sz hal hlh (by omega)) hp6.kp.size).kept hB7)
          have HTA := Lib.hid ((HTY5.out.keep hp6.kp.size (fun b h1 _ h3 => hp6.kp.block b h3 (by omega) (.inr (by omega)))).kept hB7)
          have HTB := Lib.hid (hty6.kept hB7)
          have HG7 := Lib.hid (HG6.out.below hB7 (by omega))
          have HGN7 := Lib.hid ((gen_stays lo hi q bm).below hgn6 hB7)
          have HKP7 := Lib.hid (HKP6.out.trans (Kp.below hB7))
          have HR7 := Lib.hid (HR6.out.kept hB7)
          have hz7 : W7.heap.size = T7 + 1 := by rw [← hW7, ← hT7]; simp
          have HRT : Hid (rt sh rep (d + 1) n = some (.node k 0 [ua, ub])) := Lib.hid (rt_join HS.out H1.out h2)
          obtain ⟨g0, g1, g2, gz⟩ := HX37.out
          obtain ⟨m0, m1, m2, mz⟩ := HX57.out
          obtain ⟨n0', n1', n2', nz⟩ := HX7.out
          have q1 : w.heap.size + 1 ≤ W3.heap.size := by omega
          have q2 : w.heap.size + 1 ≤ W5.heap.size := by omega
          have q3 : T5 ≤ W5.heap.size := by omega
          have q4 : T5 ≤ W7.heap.size := by omega
          have q5 : T7 ≤ W7.heap.size := by omega
          have q6 : w.heap.size + 1 ≤ W7.heap.size := by omega
          rw [hT5] at HTA
          rw [hT7] at HTB
          clear hp6 hR6 h2 hy2 hs2 hty6 hgn6 hB7 hW5 y0 y1' y2
          go_wp2_with fail
          go_at_call 91
          refine (joinType_any k y1 y2x _ _ (w.heap.size + 1) W3.heap.size T5 W5.heap.size T7 W7 HTA.out HTB.out q1 q2 q3 q4 q5 q6).mono ?_
          rintro e w8 ⟨v8, rfl, hty8, hb8⟩
          obtain ⟨a8, k8, rfl, _⟩ := hty8.at.slice
          have HG8 := Lib.hid (HG7.out.below hb8 (by omega))
          have HGN8 := Lib.hid ((gen_stays lo hi q bm).below HGN7.out hb8)
          have HKP8 := Lib.hid (HKP7.out.trans (Kp.below hb8))
          obtain ⟨p0, p1, p2, f0, f1, f2, psz⟩ := HR7.out.kept hb8
          have HTY8 := Lib.hid hty8
          clear hty8 hb8 hW7 g0 g1 g2 m0 m1 m2 n0' n1' n2'
          go_wp2_with fail
          refine bodyPost_ret (v := .tuple #[.agg #[.int .i64 k, .int .i64 0, .slice a8 2 k8], .bool true]) (by simp [results, Try.results98, go_sem, p0, p1, p2, psz, Ty.k, Ty.n, Ty.ks]) rfl ⟨HKP8.out.res (Nat.le_refl _) _ _ _, HG8.out.res hsz _ _ _, fun e => ?_, fun u e => ?_⟩
          · rw [HRT.out] at e; cases e
          · rw [HRT.out] at e
            injection e with e
            subst e
            have er : rp fF (d + 1) (.node k 0 [ua, ub]) st = (.node k 0 [y1, y2x], s2) := by
              rw [← HY1.out, ← HY2.out, ← HS2.out, ← HS1.out]
              simp [rp, HK4.out]
            rw [er]
            exact ⟨.slice a8 2 k8, rfl, res_ty HTY8.out (Nat.le_refl w.heap.size) _ _ _, (gen_stays lo hi q bm).res HGN8.out hsz _ _ _⟩

end Go.Proofs.Ytndpoejohpmifaa.Nx

namespace Go.Proofs.Ytndpoejohpmifaa.Nx
open Go.Proofs.Ytndpoejohpmifaa Go.Proofs.Ytndpoejohpmifaa.Mx
open Go.RowKit
set_option linter.unusedVariables false
set_option linter.unusedSimpArgs false

/-- The type at the node n. -/
def caR (sh : Nat → Sh) (rep : Nat → Nat) (n : Nat) : Option Ty := match rt sh rep 16 n with
  | none => none
  | some u => if tvT (can u) = true then some (can u) else none
theorem caR_none {sh : Nat → Sh} {rep : Nat → Nat} {n : Nat} (h : rt sh rep 16 n = none) : caR sh rep n = none := by unfold caR; rw [h]
theorem caR_yes {sh : Nat → Sh} {rep : Nat → Nat} {n : Nat} {u : Ty} (h : rt sh rep 16 n = some u) (h2 : tvT (can u) = true) : caR sh rep n = some (can u) := by unfold caR; rw [h]; exact if_pos h2
theorem caR_no {sh : Nat → Sh} {rep : Nat → Nat} {n : Nat} {u : Ty} (h : rt sh rep 16 n = some u) (h2 : tvT (can u) = false) : caR sh rep n = none := by unfold caR; rw [h]; exact if_neg (by rw [h2]; decide)
/-- The program's way to the most general type. -/
theorem canon_res {M : Nat} {sh : Nat → Sh} {vm : Int → Option Nat} {rep : Nat → Nat} {ra rb : Nat} {a b : Ty} (hg : GAdd M sh vm) (hna : Nd sh vm M ra a) (hnb : Nd sh vm M rb b) (h : GUni M sh id rep ra rb true) : uniT a b = caR sh rep ra := by
  obtain ⟨p1, p2⟩ := prin_graph hg hna hnb h 16
  rcases hr : rt sh rep 16 ra with _ | u
  · rw [caR_none hr]
    exact uniT_no (fun t ht hd _ => p2 hr t ht hd)
  · obtain ⟨hp, hd⟩ := p1 u hr
    rcases hv : tvT (can u) with _ | _
    · rw [caR_no hr hv]
      refine uniT_no (fun t ht hdt hc => ?_)
      obtain ⟨r, s, hrn⟩ := ht.rn hp
      rw [← can_rn hrn hdt, hv] at hc
      cases hc
    · rw [caR_yes hr hv]
      exact uniT_yes hp hd hv
/-- What canonAt leaves. -/
def CaPost (n0 : Nat) (r : Option Ty) (w : World) (e : Ending) (w' : World) : Prop :=
  Below n0 w w' ∧ ∃ v, e = .returned (.tuple #[.agg #[.int .i64 (optT r).k, .int .i64 (optT r).n, v], .bool r.isSome]) ∧ TyIn w' w.heap.size w'.heap.size (optT r) v ∧ (r = none → v = .slice none 0 0)
theorem Kp.low {am lo hi n0 : Nat} {w w' : World} (h : Kp am lo hi w w') (h1 : n0 ≤ am) (h2 : n0 ≤ lo) (h3 : n0 ≤ w.heap.size) : Below n0 w w' := ⟨h.os, h.tape, h.output, h.size, fun b hb => h.block b (by omega) (by omega) (.inl (by omega))⟩
theorem low_res {n0 R : Nat} {w W : World} (h : Below n0 w W) (hR : n0 ≤ R) (x y z : Value) : Below n0 w (((W.setCell ⟨R, 0, none⟩ x).setCell ⟨R, 1, none⟩ y).setCell ⟨R, 2, none⟩ z) :=
  ⟨h.os, h.tape, h.output, by simpa using h.size, fun b hb => (heap_res (by omega)).trans (h.block b hb)⟩

set_option maxRecDepth 100000 in
set_option maxHeartbeats 8000000 in
theorem canonAt_any (n0 gb am vb M : Nat) (sh : Nat → Sh) (rep dp : Nat → Nat) (vm : Int → Option Nat) (sv : Value) (MA MV : List IV) (hok : GOk M sh rep) (hMM : M ≤ 1000000) (n : Nat) (hn : n < M) (w : World) (hg : GM w n0 gb am vb M sh rep dp vm sv MA MV) (r : Option Ty) (hr : caR sh rep n = r) :
    Calls Try.prog 64 #[.pointer (some ⟨gb, 0, none⟩), .int .i64 (n : Int)] w (CaPost n0 r w) := by
  obtain ⟨g, cap, rfl⟩ := hg.row (by omega)
  have HRR := Lib.hid hr
  have HOK := Lib.hid hok
  have hgl := hg.gl
  have hal := hg.ma.lt
  have hvl := hg.mv.lt
  have hrl : g < w.heap.size := (own_low hg.own rfl).2
  obtain ⟨m1, m2, m3⟩ := hg.lo
  obtain ⟨R, hR⟩ : ∃ R, w.heap.size = R := ⟨_, rfl⟩
  obtain ⟨W1, hW1⟩ : ∃ W1, w.alloc (.cells #[.int .i64 0, .int .i64 0, .slice none 0 0] 25) = W1 := ⟨_, rfl⟩
  have hB1 : Below w.heap.size w W1 := by rw [← hW1]; exact (Below.refl _ _).alloc (Nat.le_refl _) _
  have HR1 : Hid (RB W1 R) := Lib.hid (by rw [← hW1, ← hR]; exact rb_new w _)
  have hz1 : W1.heap.size = R + 1 := by rw [← hW1, ← hR]; simp
  have HG1 := Lib.hid (hg.kept hB1)
  have HB1 : Hid (Below n0 w W1) := Lib.hid (hB1.mono (by omega))
  have HRz := Lib.hid hR
  rw [hR] at hgl hal hvl hrl
  clear hg hok hr hB1
  go_enter Try.func64, Try.ntmps64
  go_wp2_with fail
  try rw [hR]
  clear hW1 hR
  go_at_call 99
  refine (freshNames_any W1).mono ?_
  rintro e w2 ⟨rfl, hw2⟩
  have hgn2 : Gen W1.heap.size (W1.heap.size + 2) (W1.heap.size + 1) W1.heap.size [] w2 := by rw [hw2]; exact gen_new W1
  have hB2 : Below W1.heap.size W1 w2 := by rw [hw2]; exact ((Below.refl _ _).alloc (Nat.le_refl _) _).alloc (by simp) _
  have hz2 : w2.heap.size = W1.heap.size + 2 := by rw [hw2]; simp
  have HGN2 := Lib.hid hgn2
  have HGG2 : Hid (GG w2 W1.heap.size (W1.heap.size + 2) (W1.heap.size + 1) W1.heap.size n0 gb am vb M sh rep vm g cap MV) := Lib.hid ⟨⟨dp, MA, HG1.out.kept hB2⟩, by omega, by omega, by omega, by omega, by omega, by omega⟩
  have HR2 := Lib.hid (HR1.out.kept hB2)
  have HB2 := Lib.hid (HB1.out.trans (hB2.mono (by omega)))
  have HTA := Lib.hid (typeAt_any W1.heap.size (W1.heap.size + 2) (W1.heap.size + 1) W1.heap.size n0 gb am vb M sh rep vm g cap MV HOK.out hMM 16 n [] w2 (by omega) hn HGG2.out HGN2.out)
  rw [show ((16 : Nat) : Int) = 16 from rfl] at HTA
  have HZ1 := Lib.hid hz1
  have HZ2 := Lib.hid hz2
  clear hgn2 hB2 hw2 hz1 hz2
  go_wp2_with fail
  go_at_call 98
  refine HTA.out.mono ?_
  rintro e w4 hp
  have hz1 := HZ1.out
  have hz2 := HZ2.out
  have HR4 := Lib.hid (HR2.out.keep hp.kp.size (hp.kp.block R HR2.out.sz (by omega) (.inl (by omega))))
  have HB4 : Hid (Below n0 w w4) := Lib.hid (HB2.out.trans (hp.kp.low (by omega) (by omega) (by omega)))
  have hz4 : w2.heap.size ≤ w4.heap.size := hp.kp.size
  rcases h1 : rt sh rep 16 n with _ | u
  · obtain rfl := hp.no h1
    have HN : Hid (r = none) := Lib.hid (by rw [← HRR.out]; exact caR_none h1)
    have hbz : Below w4.heap.size w4 (w4.alloc (.cells #[.int .i64 0, .int .i64 0, .slice none 0 0] 25)) := (Below.refl _ _).alloc (Nat.le_refl _) _
    have HB5 := Lib.hid (HB4.out.trans (hbz.mono (by omega)))
    obtain ⟨p0, p1, p2, f0, f1, f2, psz⟩ := HR4.out.kept hbz
    clear hp h1 hbz
    go_wp2_with fail
    rw [HN.out]
    exact bodyPost_ret (v := .tuple #[.agg #[.int .i64 0, .int .i64 0, .slice none 0 0], .bool false]) (by simp [results, Try.results64, go_sem, p0, p1, p2, psz]) rfl ⟨low_res HB5.out (by omega) _ _ _, _, rfl, .bare _ _ _ _ _ _, fun _ => rfl⟩
  · obtain ⟨v4, rfl, hty, hgn⟩ := hp.yes u h1
    obtain ⟨x, hx⟩ : ∃ x, can u = x := ⟨_, rfl⟩
    have hx' : (rp fF 16 u []).1 = x := hx
    rw [hx'] at hty ⊢
    obtain ⟨a4, k4, rfl, _⟩ := hty.at.slice
    have HTY := Lib.hid hty
    obtain ⟨T5, hT5⟩ : ∃ T, w4.heap.size = T := ⟨_, rfl⟩
    obtain ⟨W5, hW5⟩ : ∃ W, w4.alloc (.cells #[.int .i64 x.k, .int .i64 x.n, .slice a4 x.ks.length k4] 25) = W := ⟨_, rfl⟩
    have hB5 : Below w4.heap.size w4 W5 := by rw [← hW5]; exact (Below.refl _ _).alloc (Nat.le_refl _) _
    have HX5 : Hid (TBox W5 T5 (.int .i64 x.k) (.int .i64 x.n) (.slice a4 x.ks.length k4)) := Lib.hid (by rw [← hT5, ← hW5]; exact tbox_new w4 _ _ _ _)
    have HR5 := Lib.hid (HR4.out.kept hB5)
    have HB5 := Lib.hid (HB4.out.trans (hB5.mono (by omega)))
    have HTY5 := Lib.hid (HTY.out.kept hB5)
    have hz5 : W5.heap.size = T5 + 1 := by rw [← hW5, ← hT5]; simp
    obtain ⟨y0, y1, y2, yz⟩ := HX5.out
    rcases hv : tvT x with _ | _
    · have HN : Hid (r = none) := Lib.hid (by rw [← HRR.out]; exact caR_no h1 (by rw [hx]; exact hv))
      have HV := Lib.hid hv
      clear hp h1 hx hx' hty hgn hB5 hv
      go_wp2_with fail
      go_at_call 15
      refine (typeValid_impl_val HV.out _ _ HTY5.out.at).mono ?_
      rintro e w6 ⟨rfl, hb6⟩
      have HB6 := Lib.hid (HB5.out.trans (hb6.mono (by omega)))
      obtain ⟨p0, p1, p2, f0, f1, f2, psz⟩ := HR5.out.kept hb6
      clear hb6 y0 y1 y2 hW5
      go_wp2_with fail
      rw [HN.out]
      exact bodyPost_ret (v := .tuple #[.agg #[.int .i64 0, .int .i64 0, .slice none 0 0], .bool false]) (by simp [results, Try.results64, go_sem, p0, p1, p2, psz]) rfl ⟨low_res HB6.out (by omega) _ _ _, _, rfl, .bare _ _ _ _ _ _, fun _ => rfl⟩
    · have HN : Hid (r = some x) := Lib.hid (by rw [← HRR.out, caR_yes h1 (by rw [hx]; exact hv), hx])
      have HV := Lib.hid hv
      clear hp h1 hx hx' hty hgn hB5 hv
      go_wp2_with fail
      go_at_call 15
      refine (typeValid_impl_val HV.out _ _ HTY5.out.at).mono ?_
      rintro e w6 ⟨rfl, hb6⟩
      have HB6 := Lib.hid (HB5.out.trans (hb6.mono (by omega)))
      have HTY6 := Lib.hid ((HTY5.out.kept hb6).wide (lo' := R + 1) (by omega) (Nat.le_refl _ : w4.heap.size ≤ w4.heap.size))
      have hs6 : W5.heap.size ≤ w6.heap.size := hb6.size
      obtain ⟨y0', y1', y2', yz'⟩ := HX5.out.kept hb6
      obtain ⟨p0, p1, p2, f0, f1, f2, psz⟩ := HR5.out.kept hb6
      clear hb6 y0 y1 y2 hW5
      go_wp2_with fail
      rw [HN.out]
      refine bodyPost_ret (v := .tuple #[.agg #[.int .i64 x.k, .int .i64 x.n, .slice a4 x.ks.length k4], .bool true]) (by simp [results, Try.results64, go_sem, p0, p1, p2, psz]) rfl ⟨low_res HB6.out (by omega) _ _ _, _, rfl, ?_, fun e => by cases e⟩
      have h := res_ty (w := w) (B := R) (HTY6.out.wide (Nat.le_refl _) (show w4.heap.size ≤ w6.heap.size by omega)) (by rw [HRz.out]; exact Nat.le_refl _) (.int .i64 x.k) (.int .i64 x.n) (.slice a4 x.ks.length k4)
      exact h

end Go.Proofs.Ytndpoejohpmifaa.Nx

namespace Go.Proofs.Ytndpoejohpmifaa.Nx
open Go.Proofs.Ytndpoejohpmifaa
open Go.RowKit
set_option linter.unusedVariables false
set_option linter.unusedSimpArgs false

theorem UnPost2 {r : Option Ty} {w w7 w8 : World} {R : Nat} {v : Value} {x y z : Value} (hb : Below w.heap.size w w8) (ht : TyIn w8 w7.heap.size w8.heap.size (optT r) v) (hv : r = none → v = .slice none 0 0) (hR : w.heap.size ≤ R) (h7 : R < w7.heap.size) :
    OptRet r w (.returned (.tuple #[.agg #[.int .i64 (optT r).k, .int .i64 (optT r).n, v], .bool r.isSome])) (((w8.setCell ⟨R, 0, none⟩ x).setCell ⟨R, 1, none⟩ y).setCell ⟨R, 2, none⟩ z) := by
  have h1 := res_ty (w := w) (B := R) (ht.wide (lo' := R + 1) (by omega) (Nat.le_refl _)) hR x y z
  have h2 := below_set3 hb hR x y z
  cases r with
  | none => rw [hv rfl]; exact ⟨rfl, h2⟩
  | some t => exact ⟨v, rfl, h1, h2⟩

set_option maxRecDepth 100000 in
set_option maxHeartbeats 8000000 in
theorem unifyTypes_impl (a b : Ty) (va vb : Value) (w : World) (ha : TyOk w a va) (hb : TyOk w b vb) (r : Option Ty) (hr : unT a b = r) :
    Calls Try.prog 28 #[.agg #[.int .i64 a.k, .int .i64 a.n, va], .agg #[.int .i64 b.k, .int .i64 b.n, vb]] w (OptRet r w) := by
  have HVA := Lib.hid ha
  have HVB := Lib.hid hb
  obtain ⟨av, ac, rfl, _⟩ := ha.at.slice
  obtain ⟨bv, bc, rfl, _⟩ := hb.at.slice
  obtain ⟨S, hS⟩ : ∃ S, w.heap.size = S := ⟨_, rfl⟩
  have HRR := Lib.hid hr
  clear ha hb hr
  obtain ⟨W1, hW1⟩ : ∃ W, ((w.alloc (.cells #[.int .i64 a.k, .int .i64 a.n, .slice av a.ks.length ac] 25)).alloc (.cells #[.int .i64 b.k, .int .i64 b.n, .slice bv b.ks.length bc] 25)).alloc (.cells #[.int .i64 0, .int .i64 0, .slice none 0 0] 25) = W := ⟨_, rfl⟩
  have HB1 : Hid (Below w.heap.size w W1) := Lib.hid (by rw [← hW1]; exact (((Below.refl _ _).alloc (Nat.le_refl _) _).alloc (by simp) _).alloc (by simp; omega) _)
  have HX1 : Hid (OC W1 S a.k a.n (.slice av a.ks.length ac)) := Lib.hid (by
    rw [← hW1, ← hS]; exact ((oc_new w _ _ _ _).kept ((Below.refl _ _).alloc (Nat.le_refl _) _)).kept ((Below.refl _ _).alloc (Nat.le_refl _) _))
  have HY1 : Hid (OC W1 (S + 1) b.k b.n (.slice bv b.ks.length bc)) := Lib.hid (by
    have h := (oc_new (w.alloc (.cells #[.int .i64 a.k, .int .i64 a.n, .slice av a.ks.length ac] 25)) b.k b.n (.slice bv b.ks.length bc) 25).kept ((Below.refl _ _).alloc (Nat.le_refl _) (.cells #[.int .i64 0, .int .i64 0, .slice none 0 0] 25))
    rw [hW1, sizeA', hS] at h; exact h)
  have HZ1 : Hid (OC W1 (S + 1 + 1) 0 0 (.slice none 0 0)) := Lib.hid (by
    have h := oc_new ((w.alloc (.cells #[.int .i64 a.k, .int .i64 a.n, .slice av a.ks.length ac] 25)).alloc (.cells #[.int .i64 b.k, .int .i64 b.n, .slice bv b.ks.length bc] 25)) 0 0 (.slice none 0 0) 25
    rw [hW1, sizeA', sizeA', hS] at h; exact h)
  have HW1 := Lib.hid hW1
  have HS := Lib.hid hS
  clear hW1
  obtain ⟨x0, x1, x2, xf0, xf1, xf2, xz⟩ := HX1.out
  rcases h1 : tvT a with _ | _
  · have H1 := Lib.hid h1
    have HN : Hid (r = none) := Lib.hid (by rw [← HRR.out]; exact unT_a h1)
    clear h1
    go_enter Try.func28, Try.ntmps28
    go_wp2_with fail
    rw [HW1.out]
    try rw [hS]
    clear hS
    go_wp2_with fail
    go_at_call 15
    refine (typeValid_impl_val H1.out _ W1 (HVA.out.at.kept HB1.out)).mono ?_
    rintro e w2 ⟨rfl, hb2⟩
    have HB2 := Lib.hid (HB1.out.trans (hb2.mono HB1.out.size))
    have HX2 := Lib.hid (HX1.out.kept hb2)
    have HY2 := Lib.hid (HY1.out.kept hb2)
    have HZ2 := Lib.hid (HZ1.out.kept hb2)
    clear hb2 x0 x1 x2 xf0 xf1 xf2 xz
    obtain ⟨z0, z1, z2, zf0, zf1, zf2, zz⟩ := HZ2.out
    go_wp2_with fail
    rw [HN.out]
    refine bodyPost_ret (v := .tuple #[.agg #[.int .i64 0, .int .i64 0, .slice none 0 0], .bool false]) (by simp [results, Try.results28, go_sem, z0, z1, z2]) rfl ⟨rfl, below_set3 HB2.out (S := S + 1 + 1) (by rw [HS.out]; omega) _ _ _⟩
  have H1 := Lib.hid h1
  rcases h2 : tvT b with _ | _
  · have H2 := Lib.hid h2
    have HN : Hid (r = none) := Lib.hid (by rw [← HRR.out]; exact unT_b h2)
    clear h1 h2
    go_enter Try.func28, Try.ntmps28
    go_wp2_with fail
    rw [HW1.out]
    try rw [hS]
    clear hS
    go_wp2_with fail
    go_at_call 15
    refine (typeValid_impl_val H1.out _ W1 (HVA.out.at.kept HB1.out)).mono ?_
    rintro e w2 ⟨rfl, hb2⟩
    have HB2 := Lib.hid (HB1.out.trans (hb2.mono HB1.out.size))
    have HX2 := Lib.hid (HX1.out.kept hb2)
    have HY2 := Lib.hid (HY1.out.kept hb2)
    have HZ2 := Lib.hid (HZ1.out.kept hb2)
    clear hb2 x0 x1 x2 xf0 xf1 xf2 xz
    obtain ⟨y0, y1, y2, yf0, yf1, yf2, yz⟩ := HY2.out
    go_wp2_with fail
    go_at_call 15
    refine (typeValid_impl_val H2.out _ w2 (HVB.out.at.kept HB2.out)).mono ?_
    rintro e w3 ⟨rfl, hb3⟩
    have HB3 := Lib.hid (HB2.out.trans (hb3.mono HB2.out.size))
    have HX3 := Lib.hid (HX2.out.kept hb3)
    have HY3 := Lib.hid (HY2.out.kept hb3)
    have HZ3 := Lib.hid (HZ2.out.kept hb3)
    clear hb3 y0 y1 y2 yf0 yf1 yf2 yz
    obtain ⟨z0, z1, z2, zf0, zf1, zf2, zz⟩ := HZ3.out
    go_wp2_with fail
    rw [HN.out]
    refine bodyPost_ret (v := .tuple #[.agg #[.int .i64 0, .int .i64 0, .slice none 0 0], .bool false]) (by simp [results, Try.results28, go_sem, z0, z1, z2]) rfl ⟨rfl, below_set3 HB3.out (S := S + 1 + 1) (by rw [HS.out]; omega) _ _ _⟩
  have H2 := Lib.hid h2
  have HUN : Hid (r = uniT a b) := Lib.hid (by rw [← HRR.out]; exact unT_ab h1 h2)
  have HSA := Lib.hid (tvT_shp h1)
  have HSB := Lib.hid (tvT_shp h2)
  have HNA : Hid (nodes a ≤ 63) := Lib.hid (Nat.le_of_not_lt (fun h => by rw [tvT_nodes h] at h1; cases h1))
  have HNB : Hid (nodes b ≤ 63) := Lib.hid (Nat.le_of_not_lt (fun h => by rw [tvT_nodes h] at h2; cases h2))
  have HG0 : Hid (GAdd 0 (fun _ => Sh.num) (fun _ => none)) := Lib.hid ⟨fun n k l r hn => absurd hn (Nat.not_lt_zero _), fun v m e => (by cases e), fun v v' m e => (by cases e)⟩
  clear h1 h2
  go_enter Try.func28, Try.ntmps28
  go_wp2_with fail
  rw [HW1.out]
  try rw [hS]
  clear hS
  go_wp2_with fail
  go_at_call 15
  refine (typeValid_impl_val H1.out _ W1 (HVA.out.at.kept HB1.out)).mono ?_
  rintro e w2 ⟨rfl, hb2⟩
  have HB2 := Lib.hid (HB1.out.trans (hb2.mono HB1.out.size))
  have HX2 := Lib.hid (HX1.out.kept hb2)
  have HY2 := Lib.hid (HY1.out.kept hb2)
  have HZ2 := Lib.hid (HZ1.out.kept hb2)
  clear hb2 x0 x1 x2 xf0 xf1 xf2 xz
  obtain ⟨y0, y1, y2, yf0, yf1, yf2, yz⟩ := HY2.out
  go_wp2_with fail
  go_at_call 15
  refine (typeValid_impl_val H2.out _ w2 (HVB.out.at.kept HB2.out)).mono ?_
  rintro e w3 ⟨rfl, hb3⟩
  have HB3 := Lib.hid (HB2.out.trans (hb3.mono HB2.out.size))
  have HX3 := Lib.hid (HX2.out.kept hb3)
  have HY3 := Lib.hid (HY2.out.kept hb3)
  have HZ3 := Lib.hid (HZ2.out.kept hb3)
  clear hb3 y0 y1 y2 yf0 yf1 yf2 yz
  go_wp2_with fail
  go_at_call 61
  refine (Mx.newGraph_any w3).mono ?_
  rintro e w4 ⟨gb, am, vb, rfl, hg4, hb4⟩
  have HG4 := Lib.hid hg4
  have HK4 := Lib.hid hb4
  obtain ⟨x0, x1, x2, xf0, xf1, xf2, xz⟩ := HX3.out.kept hb4
  clear hg4 hb4
  go_wp2_with fail
  go_at_call 62
  refine (Mx.add_any w3 gb am vb id (fun _ => 0) [] 16 a _ w4 0 (fun _ => .num) (fun _ => none) (.slice none 0 0) [] HSA.out ((HVA.out.kept HB3.out).at) HK4.out HG4.out HG0.out (by have := HNA.out; omega)).mono ?_
  rintro e w5 ⟨ra, M5, sh5, vm5, sv5, MV5, rfl, hg5, hk5, ha5, hm5, hm5', hs5, hv5, hd5⟩
  have HG5 := Lib.hid hg5
  have HK5 := Lib.hid (HK4.out.trans (Mx.GK.low HG4.out hk5 HK4.out.size))
  have HA5 := Lib.hid ha5
  have HD5 := Lib.hid hd5
  have hM5 : M5 ≤ 63 := by have := HNA.out; omega
  obtain ⟨y0, y1, y2, yf0, yf1, yf2, yz⟩ := HY3.out.kept HK5.out
  clear hg5 hk5 ha5 hm5 hm5' hs5 hv5 hd5 x0 x1 x2 xf0 xf1 xf2 xz
  go_wp2_with fail
  go_at_call 62
  refine (Mx.add_any w3 gb am vb id (fun _ => 0) [] 16 b _ w5 M5 sh5 vm5 sv5 MV5 HSB.out ((HVB.out.kept HB3.out).at) HK5.out HG5.out HA5.out (by have := HNB.out; omega)).mono ?_
  rintro e w6 ⟨rb, M6, sh6, vm6, sv6, MV6, rfl, hg6, hk6, ha6, hm6, hm6', hs6, hv6, hd6⟩
  have HG6 := Lib.hid hg6
  have HK6 := Lib.hid (HK5.out.trans (Mx.GK.low HG5.out hk6 HK5.out.size))
  have HA6 := Lib.hid ha6
  have HDB := Lib.hid hd6
  have HDA := Lib.hid (HD5.out.up hm6 hs6 hv6)
  have hM6 : M6 ≤ 1000000 := by have := HNB.out; omega
  clear hg6 hk6 ha6 hm6 hm6' hs6 hv6 hd6 y0 y1 y2 yf0 yf1 yf2 yz
  go_wp2_with fail
  go_at_call 63
  refine (Mx.unify_any w3.heap.size gb am vb M6 sh6 vm6 sv6 MV6 hM6 (cls M6 id + 1) ra rb id (fun _ => 0) [] w6 (Nat.lt_succ_self _) HDA.out.lt HDB.out.lt HA6.out.ok HG6.out).mono ?_
  rintro e w7 ⟨r7, rep', dp', MA', rfl, hg7, hi7, hu7⟩
  have HG7 := Lib.hid hg7
  have HK7 := Lib.hid (Inside.below hi7 HG6.out.lo.2.1 HK6.out HK6.out.size)
  have HU7 := Lib.hid hu7
  clear hg7 hi7 hu7
  rcases r7 with _ | _
  · have HN : Hid (r = none) := Lib.hid (by rw [HUN.out]; exact uniT_no (fun t ht _ _ => prin_graph_no HA6.out HDA.out HDB.out HU7.out ht))
    obtain ⟨z0, z1, z2, zf0, zf1, zf2, zz⟩ := HZ3.out.kept HK7.out
    go_wp2_with fail
    rw [HN.out]
    refine bodyPost_ret (v := .tuple #[.agg #[.int .i64 0, .int .i64 0, .slice none 0 0], .bool false]) (by simp [results, Try.results28, go_sem, z0, z1, z2]) rfl ⟨rfl, below_set3 (HB3.out.trans (HK7.out.mono HB3.out.size)) (S := S + 1 + 1) (by rw [HS.out]; omega) _ _ _⟩
  · have HN : Hid (r = caR sh6 rep' ra) := Lib.hid (by rw [HUN.out]; exact canon_res HA6.out HDA.out HDB.out HU7.out)
    go_wp2_with fail
    go_at_call 64
    refine (canonAt_any w3.heap.size gb am vb M6 sh6 rep' dp' vm6 sv6 MA' MV6 HU7.out.ok hM6 ra HDA.out.lt w7 HG7.out r HN.out.symm).mono ?_
    rintro e w8 ⟨hb8, v8, rfl, hty8, hv8⟩
    obtain ⟨a8, k8, rfl, _⟩ := hty8.at.slice
    have HK8 := Lib.hid (HK7.out.trans hb8)
    have HB8 : Hid (Below w.heap.size w w8) := Lib.hid (HB3.out.trans (HK8.out.mono HB3.out.size))
    have HTY := Lib.hid hty8
    have HV8 := Lib.hid hv8
    have hz7 : w3.heap.size ≤ w7.heap.size := HK7.out.size
    have hz3 : S + 1 + 1 < w3.heap.size := HZ3.out.sz
    obtain ⟨z0, z1, z2, zf0, zf1, zf2, zz⟩ := HZ3.out.kept HK8.out
    clear hb8 hty8 hv8
    go_wp2_with fail
    refine bodyPost_ret (v := .tuple #[.agg #[.int .i64 (optT r).k, .int .i64 (optT r).n, .slice a8 (optT r).ks.length k8], .bool r.isSome]) (by simp [results, Try.results28, go_sem, z0, z1, z2]) rfl (UnPost2 HB8.out HTY.out HV8.out (by rw [HS.out]; omega) (by omega))

end Go.Proofs.Ytndpoejohpmifaa.Nx

