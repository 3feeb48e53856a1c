/-
  The exact laws' sizes, copies and comparison of lists of edits; what was in memory stays.
-/
import Derived.Test.YtnnjnkeabljlaaaProg
import Derived.Test.YtnnjnkeabljlaaaIc
import Derived.Test.YtnnjnkeabljlaaaTe
import Derived.Test.YtnnjnkeabljlaaaUc
import Derived.Deep.RegionHeld3
import Derived.LoopN
namespace Go.Proofs.Ytnnjnkeabljlaaa
open Go.RowKit
set_option linter.unusedVariables false
set_option linter.unusedSimpArgs false

theorem own_block {w : World} {B g n cap sz : Nat} {e : TypeId} {xs : List Value} (h : w.ownsRow B e sz (.slice (some ⟨g, 0, none⟩) n cap) n xs) : B ≤ g ∧ g < w.heap.size := h.lt g rfl
theorem own_len {w : World} {B n sz : Nat} {e : TypeId} {v : Value} {xs : List Value} (h : w.ownsRow B e sz v n xs) : xs.length = n * sz := h.1
theorem own_below {w w' : World} {B n sz : Nat} {e : TypeId} {v : Value} {xs : List Value} (h : w.ownsRow B e sz v n xs) (hb : Below w.heap.size w w') : w'.ownsRow B e sz v n xs := by
  obtain ⟨hl, h | ⟨g, cap, cur, rfl, hb', ho, h1, h2, h3, h4⟩⟩ := h
  · exact ⟨hl, .inl h⟩
  · exact ⟨hl, .inr ⟨g, cap, cur, rfl, hb', (hb.block g (Array.getElem?_eq_some_iff.1 ho).1).trans ho, h1, h2, h3, h4⟩⟩

/-- What a size leaves of what may be left. -/
def lft (n : Int) : List Ed → Int
  | [] => n
  | x :: r => if (x.i.size : Int) ≤ n then lft (n - x.i.size) r else -1
theorem ret_i2 {a b : Int} (h : a = b) : Ending.returned (.int .i64 a) = .returned (.int .i64 b) := by rw [h]
theorem drop_ed {ls : List Ed} {k : Nat} (hk : k < ls.length) : ls.drop k = ls.getD k Ed.dummy :: ls.drop (k + 1) := by
  have : ls.getD k Ed.dummy = ls[k] := by simp [List.getD, hk]
  rw [this]; exact List.drop_eq_getElem_cons hk
theorem lft_range {ls : List Ed} : ∀ {n : Int}, 0 ≤ n → (lft n ls = -1 ∨ 0 ≤ lft n ls ∧ lft n ls ≤ n) := by
  induction ls with
  | nil => intro n h; exact .inr ⟨h, Int.le_refl _⟩
  | cons x r ih =>
    intro n h
    show (if (x.i.size : Int) ≤ n then lft (n - x.i.size) r else -1) = -1 ∨ 0 ≤ (if (x.i.size : Int) ≤ n then lft (n - x.i.size) r else -1) ∧ (if (x.i.size : Int) ≤ n then lft (n - x.i.size) r else -1) ≤ n
    by_cases hc : (x.i.size : Int) ≤ n
    · rw [if_pos hc]
      rcases ih (n := n - x.i.size) (by omega) with h1 | ⟨h1, h2⟩
      · exact .inl h1
      · exact .inr ⟨h1, by omega⟩
    · rw [if_neg hc]; exact .inl rfl
set_option maxRecDepth 100000 in
set_option maxHeartbeats 2000000 in
theorem szEditS_any (ls : List Ed) (v : Value) (b : Int) (w : World) (hz : EdSz ls) (hx : EsAt w ls v) (hl : (ls.length : Int) ≤ 1048576) (hb : lft (1048576 - ls.length) ls = b) :
    Calls Try.prog 18 #[v, .int .i64 1048576] w fun e w' => e = .returned (.int .i64 b) ∧ Below w.heap.size w w' := by
  subst hb
  have HX := Lib.hid hx
  have HZ : Hid (EdSz ls) := Lib.hid hz
  obtain ⟨a, cap, rfl, hlen⟩ := hx.slice
  obtain ⟨L, hL⟩ : ∃ L, ls.length = L := ⟨_, rfl⟩
  have HL := Lib.hid hL
  rw [hL] at hlen hl ⊢
  clear hx hz hL
  have hnn : ¬ (1048576 : Int) - (L : Int) < 0 := by omega
  go_enter Try.func18, Try.ntmps18
  go_wp2
  go_loopw [1, 5] (fun lv i wr => ∃ (k : Nat) (r : Int), k ≤ L ∧ i = .int .i64 k ∧ lv = .int .i64 r ∧ 0 ≤ r ∧ r ≤ 1048576 ∧ Hid (lft (1048576 - (L : Int)) ls = lft r (ls.drop k)) ∧ Below w.heap.size w wr) (fun _ i _ => L - (intOf i).toNat)
  case atStart => exact ⟨0, 1048576 - L, Nat.zero_le _, rfl, rfl, by omega, by omega, Lib.hid rfl, Below.refl _ _⟩
  case round =>
    obtain ⟨k, r, hk, rfl, rfl, r0, r1, hr, hB⟩ := hrel
    have HB := Lib.hid hB
    clear hB
    by_cases hlt : k < L
    · have hki : (k : Int) < (L : Int) := by omega
      obtain ⟨xb, xo, cap2, ex, bl, ⟨x0, x1, x2⟩⟩ := (HX.out.kept HB.out).kid k (by rw [HL.out]; exact hlt)
      have ex1 : a = some ⟨xb, xo, none⟩ := by injection ex
      subst ex1
      have HIX := Lib.hid (HZ.out k (by rw [HL.out]; exact hlt))
      have hdr := drop_ed (ls := ls) (k := k) (by rw [HL.out]; exact hlt)
      obtain ⟨xk, hxk⟩ : ∃ x, ls.getD k Ed.dummy = x := ⟨_, rfl⟩
      rw [hxk] at x0 x1 x2 HIX hdr
      have HDR := Lib.hid hdr
      clear ex hxk hdr
      by_cases hc : (xk.i.size : Int) ≤ r
      · have hcn : 0 ≤ r - (xk.i.size : Int) := by omega
        have HN : Hid (lft (1048576 - (L : Int)) ls = lft (r - xk.i.size) (ls.drop (k + 1))) := Lib.hid (by rw [hr.out, HDR.out]; show (if (xk.i.size : Int) ≤ r then lft (r - xk.i.size) (ls.drop (k + 1)) else -1) = _; rw [if_pos hc])
        go_wp2_with fail
        go_at_call 38
        refine (szEdit_in xk.f xk.t xk.i r r1 hc _).mono ?_
        rintro e w2 ⟨rfl, hb2⟩
        have HB2 := Lib.hid (HB.out.trans (hb2.mono HB.out.size))
        clear hb2
        go_wp2_with fail
        go_roundw
        case rel => exact ⟨k + 1, r - xk.i.size, by omega, by go_num, rfl, hcn, by omega, HN, HB2.out⟩
        case measure => simp [intOf]; omega
      · have HS : Hid (lft (1048576 - (L : Int)) ls = -1) := Lib.hid (by rw [hr.out, HDR.out]; show (if (xk.i.size : Int) ≤ r then lft (r - xk.i.size) (ls.drop (k + 1)) else -1) = -1; rw [if_neg hc])
        go_wp2_with fail
        go_at_call 38
        refine (szEdit_out xk.f xk.t xk.i r r1 r0 (by omega) HIX.out _).mono ?_
        rintro e w2 ⟨rfl, hb2⟩
        have HB2 := Lib.hid (HB.out.trans (hb2.mono HB.out.size))
        clear hb2
        go_wp2_with fail
        go_ret
        exact ⟨ret_i2 HS.out.symm, HB2.out⟩
    · have hki : ¬ (k : Int) < (L : Int) := by omega
      have HS : Hid (lft (1048576 - (L : Int)) ls = r) := Lib.hid (by rw [hr.out, List.drop_of_length_le (by rw [HL.out]; omega)]; rfl)
      clear hlt
      go_wp2_with fail
      go_ret
      exact ⟨ret_i2 HS.out.symm, HB.out⟩
set_option maxRecDepth 100000 in
set_option maxHeartbeats 1000000 in
theorem szEditS_long (ls : List Ed) (v : Value) (w : World) (hx : EsAt w ls v) (hl : ¬ (ls.length : Int) ≤ 1048576) :
    Calls Try.prog 18 #[v, .int .i64 1048576] w fun e w' => e = .returned (.int .i64 (-1)) ∧ Below w.heap.size w w' := by
  obtain ⟨a, cap, rfl, hlen⟩ := hx.slice
  obtain ⟨L, hL⟩ : ∃ L, ls.length = L := ⟨_, rfl⟩
  rw [hL] at hlen hl ⊢
  clear hx hL
  have hneg : (1048576 : Int) - (L : Int) < 0 := by omega
  go_enter Try.func18, Try.ntmps18
  go_wp2
  go_ret
  exact ⟨rfl, Below.refl _ _⟩

/-- A row that is being filled: the first j edits lie in it. -/
structure EFill (ls : List Ed) (B j : Nat) (w : World) (xs : List Value) : Prop where
  own : w.ownsRow B 30 3 (.slice (some ⟨B, 0, none⟩) ls.length ls.length) ls.length xs
  x0 : ∀ i, i < j → xs[i * 3]? = some (.int .i64 (ls.getD i Ed.dummy).f)
  x1 : ∀ i, i < j → xs[i * 3 + 1]? = some (.int .i64 (ls.getD i Ed.dummy).t)
  x2 : ∀ i, i < j → xs[i * 3 + 2]? = some (.string (ls.getD i Ed.dummy).i)
theorem EFill.below {ls : List Ed} {B j : Nat} {w w' : World} {xs : List Value} (f : EFill ls B j w xs) (hb : Below w.heap.size w w') : EFill ls B j w' xs :=
  ⟨own_below f.own hb, f.x0, f.x1, f.x2⟩
theorem EFill.step {ls : List Ed} {B j : Nat} {w w1 : World} {xs : List Value} (f : EFill ls B j w xs) (hj : j < ls.length) (hb : Below w.heap.size w w1) :
    ∃ xs', EFill ls B (j + 1) (((w1.setCell ⟨B, j * 3, none⟩ (.int .i64 (ls.getD j Ed.dummy).f)).setCell ⟨B, j * 3 + 1, none⟩ (.int .i64 (ls.getD j Ed.dummy).t)).setCell ⟨B, j * 3 + 2, none⟩ (.string (ls.getD j Ed.dummy).i)) xs' := by
  have f1 := f.below hb
  obtain ⟨s1, g1⟩ := f1.own.stored (j * 3) (.int .i64 (ls.getD j Ed.dummy).f)
  obtain ⟨s2, g2⟩ := s1.stored (j * 3 + 1) (.int .i64 (ls.getD j Ed.dummy).t)
  obtain ⟨s3, g3⟩ := s2.stored (j * 3 + 2) (.string (ls.getD j Ed.dummy).i)
  have hl := own_len f.own
  refine ⟨_, s3, ?_, ?_, ?_⟩
  · intro i hi
    by_cases hij : i = j
    · subst hij
      rw [List.getElem?_set_ne (by omega), List.getElem?_set_ne (by omega), List.getElem?_set_self (by omega)]
    · rw [List.getElem?_set_ne (by omega), List.getElem?_set_ne (by omega), List.getElem?_set_ne (by omega)]
      exact f.x0 i (by omega)
  · intro i hi
    by_cases hij : i = j
    · subst hij
      rw [List.getElem?_set_ne (by omega), List.getElem?_set_self (by rw [List.length_set]; omega)]
    · rw [List.getElem?_set_ne (by omega), List.getElem?_set_ne (by omega), List.getElem?_set_ne (by omega)]
      exact f.x1 i (by omega)
  · intro i hi
    by_cases hij : i = j
    · subst hij
      rw [List.getElem?_set_self (by rw [List.length_set, List.length_set]; omega)]
    · rw [List.getElem?_set_ne (by omega), List.getElem?_set_ne (by omega), List.getElem?_set_ne (by omega)]
      exact f.x2 i (by omega)
theorem EFill.done {ls : List Ed} {B : Nat} {w : World} {xs : List Value} (f : EFill ls B ls.length w xs) (hl : ls.length ≤ 9223372036854775807) :
    EsAt w ls (.slice (some ⟨B, 0, none⟩) ls.length ls.length) := by
  have hb := own_block f.own
  have hc : ∀ i, i < ls.length → ∀ q, q < 3 → w.cell? ⟨B, i * 3 + q, none⟩ = xs[i * 3 + q]? := fun i hi q hq => f.own.cellAt _ (by show i * 3 + q < ls.length * 3; omega)
  refine .row ls B 0 ls.length hb.2 hl (fun i hi => ⟨?_, ?_, ?_⟩)
  · rw [Nat.zero_add]; exact (hc i hi 0 (by omega)).trans (f.x0 i hi)
  · rw [Nat.zero_add]; exact (hc i hi 1 (by omega)).trans (f.x1 i hi)
  · rw [Nat.zero_add]; exact (hc i hi 2 (by omega)).trans (f.x2 i hi)
theorem Try.infoEdit : (Try.prog.info? 30).map (fun i => (i.zero, i.size, i.bytes)) = some (some (.agg #[.int .i64 0, .int .i64 0, .string ⟨#[]⟩]), 3, 32) := by kernel_rfl
/-- What a copy leaves: the list, in a block of its own. -/
def ToEdPostS (ls : List Ed) (w : World) (e : Ending) (w' : World) : Prop := ∃ v, e = .returned v ∧ EsAt w' ls v ∧ Below w.heap.size w w'
set_option maxRecDepth 100000 in
set_option maxHeartbeats 4000000 in
theorem toEditS_any (ls : List Ed) (v : Value) (w : World) (hl : (ls.length : Int) ≤ 1048576) (hx : EsAt w ls v) :
    Calls Try.prog 19 #[v] w (ToEdPostS ls w) := by
  have HX := Lib.hid hx
  obtain ⟨a, cap, rfl, hlen⟩ := hx.slice
  obtain ⟨L, hL⟩ : ∃ L, ls.length = L := ⟨_, rfl⟩
  have HL := Lib.hid hL
  rw [hL] at hlen hl ⊢
  have hsz : L ≤ 1048576 := by omega
  obtain ⟨i0, hi, hz0, hz1, hz2⟩ := info_parts Try.infoEdit
  clear hx hL
  go_enter Try.func19, Try.ntmps19
  go_wp2_with (first | (at_make; refine wpList_make_full _ rfl _ _ 23 rfl w.heap.size 30 i0 (.agg #[.int .i64 0, .int .i64 0, .string ⟨#[]⟩]) 3 Try.underlying23 hi hz0 hz1 _ _ _ _ L rfl rfl rfl rfl (by rw [hz2]; omega) (by unfold maxLen; omega) (Nat.le_refl _) ?_; intro w0 hown0 hgrow0))
  have hb0 : Below w.heap.size w w0 := (Below.refl _ _).grown hgrow0 (Nat.le_refl _) (fun q hq => by cases hq)
  go_loopw [4] (fun i wr => ∃ (j : Nat) (xs : List Value), j ≤ L ∧ i = .int .i64 j ∧ Hid (EFill ls w.heap.size j wr xs) ∧ Below w.heap.size w wr) (fun i _ => L - (intOf i).toNat)
  case atStart =>
    obtain ⟨xs0, hown1⟩ : ∃ xs, w0.ownsRow w.heap.size 30 3 (.slice (some ⟨w.heap.size, 0, none⟩) L L) L xs := ⟨_, hown0⟩
    refine ⟨0, xs0, Nat.zero_le _, rfl, Lib.hid ⟨?_, ?_, ?_, ?_⟩, hb0⟩
    · rw [HL.out]; exact hown1
    all_goals (intros; omega)
  case round =>
    obtain ⟨j, xs, hj, rfl, hfill, hB⟩ := hrel
    have HB := Lib.hid hB
    by_cases hlt : j < L
    · have hji : (j : Int) < (L : Int) := by omega
      obtain ⟨b, o, cap2, ex, bl, ⟨y0, y1, y2⟩⟩ := (HX.out.kept hB).kid j (by rw [HL.out]; exact hlt)
      have ex1 : a = some ⟨b, o, none⟩ := by injection ex
      subst ex1
      have hjt : Hid (j < ls.length) := Lib.hid (by rw [HL.out]; exact hlt)
      have hBw := hB.size
      clear ex hB hown0 hgrow0 hb0
      go_wp2_with fail
      go_at_call 39
      refine (toEdit_any _ _ _ _).mono ?_
      rintro e w2 ⟨rfl, hb2⟩
      obtain ⟨xs', hstep⟩ := hfill.out.step hjt.out hb2
      have HSTEP := Lib.hid hstep
      have hf2 := hfill.out.below hb2
      have hln := own_len hf2.own
      have hlt2 := own_block hf2.own
      have hq0 : j * 3 < xs.length := by rw [hln]; have := hjt.out; omega
      have hq1 : j * 3 + 1 < xs.length := by rw [hln]; have := hjt.out; omega
      have hq2 : j * 3 + 2 < xs.length := by rw [hln]; have := hjt.out; omega
      have c0 := (hf2.own.cellAt (j * 3) (by rw [← hln]; exact hq0)).trans (List.getElem?_eq_getElem hq0)
      have c1 := (hf2.own.cellAt (j * 3 + 1) (by rw [← hln]; exact hq1)).trans (List.getElem?_eq_getElem hq1)
      have c2 := (hf2.own.cellAt (j * 3 + 2) (by rw [← hln]; exact hq2)).trans (List.getElem?_eq_getElem hq2)
      have f0 := hf2.own.frozenAt (j * 3)
      have f1 := hf2.own.frozenAt (j * 3 + 1)
      have f2 := hf2.own.frozenAt (j * 3 + 2)
      have HB2 := Lib.hid (HB.out.trans (hb2.mono hBw))
      generalize xs[j * 3] = q0 at c0
      generalize xs[j * 3 + 1] = q1 at c1
      generalize xs[j * 3 + 2] = q2 at c2
      clear hstep hf2 hln hq0 hq1 hq2 hb2 hlt2 hfill
      go_wp2_with fail
      exact ⟨⟨j + 1, xs', by omega, by go_num, HSTEP, ((HB2.out.setCell (p := ⟨w.heap.size, j * 3, none⟩) (Nat.le_refl _) _).setCell (p := ⟨w.heap.size, j * 3 + 1, none⟩) (Nat.le_refl _) _).setCell (p := ⟨w.heap.size, j * 3 + 2, none⟩) (Nat.le_refl _) _⟩, by simp [intOf]; omega⟩
    · have hji : ¬ (j : Int) < (L : Int) := by omega
      have hjl : j = L := by omega
      clear hB hlt hown0 hgrow0 hb0
      go_wp2_with fail
      go_ret
      refine ⟨_, rfl, ?_, HB.out⟩
      have h1 := hfill.out
      rw [hjl, ← HL.out] at h1
      have h2 := h1.done (by rw [HL.out]; exact hlen)
      rw [HL.out] at h2
      exact h2

set_option maxRecDepth 100000 in
set_option maxHeartbeats 4000000 in
theorem eqEditS_any (ls : List Ed) (v1 v2 : Value) (w : World) (hl : (ls.length : Int) ≤ 1048576) (h1 : EsAt w ls v1) (h2 : EsAt w ls v2) :
    Calls Try.prog 20 #[v1, v2] w fun e w' => e = .returned (.bool true) ∧ Below w.heap.size w w' := by
  have H1 := Lib.hid h1
  have H2 := Lib.hid h2
  obtain ⟨a1, c1, rfl, hl1⟩ := h1.slice
  obtain ⟨a2, c2, rfl, hl2⟩ := h2.slice
  obtain ⟨L, hL⟩ : ∃ L, ls.length = L := ⟨_, rfl⟩
  have HL := Lib.hid hL
  have hsz : L ≤ 1048576 := by omega
  rw [hL]
  clear h1 h2 hl1 hl2 hL hl
  go_enter Try.func20, Try.ntmps20
  go_wp2_with fail
  go_loopw [5] (fun i wr => ∃ j : Nat, j ≤ L ∧ i = .int .i64 j ∧ Below w.heap.size w wr) (fun i _ => L - (intOf i).toNat)
  case atStart => exact ⟨0, Nat.zero_le _, rfl, Below.refl _ _⟩
  case round =>
    obtain ⟨j, hj, rfl, hB⟩ := hrel
    have HB := Lib.hid hB
    by_cases hlt : j < L
    · have hji : (j : Int) < (L : Int) := by omega
      obtain ⟨bx, ox, capx, ex, bxl, ⟨x0, x1, x2⟩⟩ := (H1.out.kept hB).kid j (by rw [HL.out]; exact hlt)
      obtain ⟨b2, o2, cap2, ey, b2l, ⟨y0, y1, y2⟩⟩ := (H2.out.kept hB).kid j (by rw [HL.out]; exact hlt)
      have ex1 : a1 = some ⟨bx, ox, none⟩ := by injection ex
      have ey1 : a2 = some ⟨b2, o2, none⟩ := by injection ey
      subst ex1
      subst ey1
      obtain ⟨xk, hxe⟩ : ∃ x, ls.getD j Ed.dummy = x := ⟨_, rfl⟩
      rw [hxe] at x0 x1 x2 y0 y1 y2
      clear ex ey hB hxe
      go_wp2_with fail
      go_region_held3 (fun w' => w'.cell? ⟨bx, ox + j * 3, none⟩ = some (.int .i64 xk.f) ∧ w'.cell? ⟨bx, ox + j * 3 + 1, none⟩ = some (.int .i64 xk.t) ∧ w'.cell? ⟨bx, ox + j * 3 + 2, none⟩ = some (.string xk.i) ∧ w'.cell? ⟨b2, o2 + j * 3, none⟩ = some (.int .i64 xk.f) ∧ w'.cell? ⟨b2, o2 + j * 3 + 1, none⟩ = some (.int .i64 xk.t) ∧ w'.cell? ⟨b2, o2 + j * 3 + 2, none⟩ = some (.string xk.i)) (go_keep)
        (first | (go_at_call 40; refine (eqEdit_same _ _ _ _).mono ?_; rintro e w5 ⟨rfl, hb5⟩; have HB5 := Lib.hid (HB.out.drew.trans (hb5.mono HB.out.size)); have z0 := (hb5.cell (p := ⟨bx, ox + j * 3, none⟩) bxl).trans x0; have z1 := (hb5.cell (p := ⟨bx, ox + j * 3 + 1, none⟩) bxl).trans x1; have z2 := (hb5.cell (p := ⟨bx, ox + j * 3 + 2, none⟩) bxl).trans x2; have z3 := (hb5.cell (p := ⟨b2, o2 + j * 3, none⟩) b2l).trans y0; have z4 := (hb5.cell (p := ⟨b2, o2 + j * 3 + 1, none⟩) b2l).trans y1; have z5 := (hb5.cell (p := ⟨b2, o2 + j * 3 + 2, none⟩) b2l).trans y2; clear hb5))
      all_goals
        go_wp2_with fail
      all_goals exact ⟨⟨j + 1, by omega, by go_num, HB5.out⟩, by simp [intOf]; omega⟩
    · have hji : ¬ (j : Int) < (L : Int) := by omega
      clear hB hlt
      go_wp2_with fail
      go_ret
      exact ⟨rfl, HB.out⟩

end Go.Proofs.Ytnnjnkeabljlaaa
