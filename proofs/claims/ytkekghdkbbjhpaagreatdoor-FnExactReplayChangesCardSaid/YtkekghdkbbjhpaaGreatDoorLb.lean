/-
  The exact laws' sizes, copies and comparison of lists of files; what was in memory stays.
-/
import Derived.Test.YtkekghdkbbjhpaaGreatDoorProg
import Derived.Test.YtkekghdkbbjhpaaGreatDoorLa
import Derived.Test.YtkekghdkbbjhpaaGreatDoorZf
import Derived.ProofKit
import Derived.Below
import Derived.Deep.RegionHeld3
import Derived.LoopN
namespace Go.Proofs.YtkekghdkbbjhpaaGreatDoor
open Go.RowKit
set_option linter.unusedVariables false
set_option linter.unusedSimpArgs false


set_option maxRecDepth 100000 in
set_option maxHeartbeats 400000 in
theorem toFile_any (n t : ByteArray) (w : World) :
    Calls Tryz.prog 56 #[.agg #[.string n, .string t]] w fun e w' => e = .returned (.agg #[.string n, .string t]) ∧ Below w.heap.size w w' := by
  go_enter Tryz.func56, Tryz.ntmps56
  go_wp2
  exact bodyPost_ret (v := .agg #[.string n, .string t]) (by simp [results, Tryz.results56, go_sem]) rfl ⟨rfl, (((Below.refl _ _).alloc (Nat.le_refl _) _).alloc (by simp) _).alloc (by simp; omega) _⟩
set_option maxRecDepth 100000 in
set_option maxHeartbeats 400000 in
theorem szFile_in (s t : ByteArray) (n : Int) (hn : n ≤ 1048576) (hi : (s.size : Int) + t.size ≤ n) (w : World) :
    Calls Tryz.prog 53 #[.agg #[.string s, .string t], .int .i64 n] w fun e w' => e = .returned (.int .i64 (n - s.size - t.size)) ∧ Below w.heap.size w w' := by
  have h1 : ¬ n - (s.size : Int) < 0 := by omega
  have h2 : ¬ n - (s.size : Int) - t.size < 0 := by omega
  go_enter Tryz.func53, Tryz.ntmps53
  go_wp2
  go_ret
  exact ⟨rfl, (Below.refl _ _).alloc (Nat.le_refl _) _⟩
set_option maxRecDepth 100000 in
set_option maxHeartbeats 400000 in
theorem szFile_out (s t : ByteArray) (n : Int) (hn : n ≤ 1048576) (h0 : 0 ≤ n) (hi : n < (s.size : Int) + t.size) (hm : s.size ≤ maxLen) (hm2 : t.size ≤ maxLen) (w : World) :
    Calls Tryz.prog 53 #[.agg #[.string s, .string t], .int .i64 n] w fun e w' => e = .returned (.int .i64 (-1)) ∧ Below w.heap.size w w' := by
  unfold maxLen at hm hm2
  by_cases h1 : n - (s.size : Int) < 0
  · go_enter Tryz.func53, Tryz.ntmps53
    go_wp2
    go_ret
    exact ⟨rfl, (Below.refl _ _).alloc (Nat.le_refl _) _⟩
  · have h2 : n - (s.size : Int) - t.size < 0 := by omega
    go_enter Tryz.func53, Tryz.ntmps53
    go_wp2
    go_ret
    exact ⟨rfl, (Below.refl _ _).alloc (Nat.le_refl _) _⟩
set_option maxRecDepth 100000 in
set_option maxHeartbeats 400000 in
theorem eqFile_same (n t : ByteArray) (w : World) :
    Calls Tryz.prog 60 #[.agg #[.string n, .string t], .agg #[.string n, .string t]] w fun e w' => e = .returned (.bool true) ∧ Below w.heap.size w w' := by
  go_enter Tryz.func60, Tryz.ntmps60
  go_wp2
  go_ret
  exact ⟨rfl, ((Below.refl _ _).alloc (Nat.le_refl _) _).alloc (by simp) _⟩

/-- What a size leaves of what may be left. -/
def lff (n : Int) : List Fl → Int
  | [] => n
  | x :: r => if (x.n.size : Int) + x.t.size ≤ n then lff (n - x.n.size - x.t.size) r else -1
theorem ret_i3 {a b : Int} (h : a = b) : Ending.returned (.int .i64 a) = .returned (.int .i64 b) := by rw [h]
theorem drop_fl {ls : List Fl} {k : Nat} (hk : k < ls.length) : ls.drop k = ls.getD k Fl.dummy :: ls.drop (k + 1) := by
  have : ls.getD k Fl.dummy = ls[k] := by simp [List.getD, hk]
  rw [this]; exact List.drop_eq_getElem_cons hk
theorem lff_range {ls : List Fl} : ∀ {n : Int}, 0 ≤ n → (lff n ls = -1 ∨ 0 ≤ lff n ls ∧ lff n ls ≤ n) := by
  induction ls with
  | nil => intro n h; exact .inr ⟨h, Int.le_refl _⟩
  | cons x r ih =>
    intro n h
    unfold lff
    by_cases hc : (x.n.size : Int) + x.t.size ≤ n
    · rw [if_pos hc]
      rcases ih (n := n - x.n.size - x.t.size) (by omega) with h1 | ⟨h1, h2⟩
      · exact .inl h1
      · exact .inr ⟨h1, by omega⟩
    · rw [if_neg hc]; exact .inl rfl
set_option maxRecDepth 100000 in
set_option maxHeartbeats 2000000 in
theorem szFileS_any (ls : List Fl) (v : Value) (b : Int) (w : World) (hz : FlSz ls) (hx : FsAt w ls v) (hl : (ls.length : Int) ≤ 1048576) (hb : lff (1048576 - ls.length) ls = b) :
    Calls Tryz.prog 15 #[v, .int .i64 1048576] w fun e w' => e = .returned (.int .i64 b) ∧ Below w.heap.size w w' := by
  subst hb
  have HX := Lib.hid hx
  have HZ : Hid (FlSz ls) := Lib.hid hz
  obtain ⟨a, cap, rfl, hlen⟩ := hx.slice
  obtain ⟨L, hL⟩ : ∃ L, ls.length = L := ⟨_, rfl⟩
  have HL := Lib.hid hL
  rw [hL] at hlen hl ⊢
  clear hx hz hL
  have hnn : ¬ (1048576 : Int) - (L : Int) < 0 := by omega
  go_enter Tryz.func15, Tryz.ntmps15
  go_wp2
  go_loopw [1, 5] (fun lv i wr => ∃ (k : Nat) (r : Int), k ≤ L ∧ i = .int .i64 k ∧ lv = .int .i64 r ∧ 0 ≤ r ∧ r ≤ 1048576 ∧ Hid (lff (1048576 - (L : Int)) ls = lff r (ls.drop k)) ∧ Below w.heap.size w wr) (fun _ i _ => L - (intOf i).toNat)
  case atStart => exact ⟨0, 1048576 - L, Nat.zero_le _, rfl, rfl, by omega, by omega, Lib.hid rfl, Below.refl _ _⟩
  case round =>
    obtain ⟨k, r, hk, rfl, rfl, r0, r1, hr, hB⟩ := hrel
    have HB := Lib.hid hB
    clear hB
    by_cases hlt : k < L
    · have hki : (k : Int) < (L : Int) := by omega
      obtain ⟨xb, xo, cap2, ex, bl, ⟨x0, x1⟩⟩ := (HX.out.kept HB.out).kid k (by rw [HL.out]; exact hlt)
      have ex1 : a = some ⟨xb, xo, none⟩ := by injection ex
      subst ex1
      have HIX := Lib.hid (HZ.out k (by rw [HL.out]; exact hlt))
      have hdr := drop_fl (ls := ls) (k := k) (by rw [HL.out]; exact hlt)
      obtain ⟨xk, hxk⟩ : ∃ x, ls.getD k Fl.dummy = x := ⟨_, rfl⟩
      rw [hxk] at x0 x1 HIX hdr
      have HDR := Lib.hid hdr
      clear ex hxk hdr
      by_cases hc : (xk.n.size : Int) + xk.t.size ≤ r
      · have hcn : 0 ≤ r - (xk.n.size : Int) - (xk.t.size : Int) := by omega
        have HN : Hid (lff (1048576 - (L : Int)) ls = lff (r - xk.n.size - xk.t.size) (ls.drop (k + 1))) := Lib.hid (by rw [hr.out, HDR.out]; show (if (xk.n.size : Int) + xk.t.size ≤ r then lff (r - xk.n.size - xk.t.size) (ls.drop (k + 1)) else -1) = _; rw [if_pos hc])
        go_wp2_with fail
        go_at_call 53
        refine (szFile_in xk.n xk.t r r1 hc _).mono ?_
        rintro e w2 ⟨rfl, hb2⟩
        have HB2 := Lib.hid (HB.out.trans (hb2.mono HB.out.size))
        clear hb2
        go_wp2_with fail
        go_roundw
        case rel => exact ⟨k + 1, r - xk.n.size - xk.t.size, by omega, by go_num, rfl, hcn, by omega, HN, HB2.out⟩
        case measure => simp [intOf]; omega
      · have HS : Hid (lff (1048576 - (L : Int)) ls = -1) := Lib.hid (by rw [hr.out, HDR.out]; show (if (xk.n.size : Int) + xk.t.size ≤ r then lff (r - xk.n.size - xk.t.size) (ls.drop (k + 1)) else -1) = -1; rw [if_neg hc])
        go_wp2_with fail
        go_at_call 53
        refine (szFile_out xk.n xk.t r r1 r0 (by omega) HIX.out.1 HIX.out.2 _).mono ?_
        rintro e w2 ⟨rfl, hb2⟩
        have HB2 := Lib.hid (HB.out.trans (hb2.mono HB.out.size))
        clear hb2
        go_wp2_with fail
        go_ret
        exact ⟨ret_i3 HS.out.symm, HB2.out⟩
    · have hki : ¬ (k : Int) < (L : Int) := by omega
      have HS : Hid (lff (1048576 - (L : Int)) ls = r) := Lib.hid (by rw [hr.out, List.drop_of_length_le (by rw [HL.out]; omega)]; rfl)
      clear hlt
      go_wp2_with fail
      go_ret
      exact ⟨ret_i3 HS.out.symm, HB.out⟩
set_option maxRecDepth 100000 in
set_option maxHeartbeats 1000000 in
theorem szFileS_long (ls : List Fl) (v : Value) (w : World) (hx : FsAt w ls v) (hl : ¬ (ls.length : Int) ≤ 1048576) :
    Calls Tryz.prog 15 #[v, .int .i64 1048576] w fun e w' => e = .returned (.int .i64 (-1)) ∧ Below w.heap.size w w' := by
  obtain ⟨a, cap, rfl, hlen⟩ := hx.slice
  obtain ⟨L, hL⟩ : ∃ L, ls.length = L := ⟨_, rfl⟩
  rw [hL] at hlen hl ⊢
  clear hx hL
  have hneg : (1048576 : Int) - (L : Int) < 0 := by omega
  go_enter Tryz.func15, Tryz.ntmps15
  go_wp2
  go_ret
  exact ⟨rfl, Below.refl _ _⟩

/-- A row that is being filled: the first j edits lie in it. -/
structure FFill (ls : List Fl) (B j : Nat) (w : World) (xs : List Value) : Prop where
  own : w.ownsRow B 62 2 (.slice (some ⟨B, 0, none⟩) ls.length ls.length) ls.length xs
  x0 : ∀ i, i < j → xs[i * 2]? = some (.string (ls.getD i Fl.dummy).n)
  x1 : ∀ i, i < j → xs[i * 2 + 1]? = some (.string (ls.getD i Fl.dummy).t)
theorem FFill.below {ls : List Fl} {B j : Nat} {w w' : World} {xs : List Value} (f : FFill ls B j w xs) (hb : Below w.heap.size w w') : FFill ls B j w' xs :=
  ⟨own_below f.own hb, f.x0, f.x1⟩
theorem FFill.step {ls : List Fl} {B j : Nat} {w w1 : World} {xs : List Value} (f : FFill ls B j w xs) (hj : j < ls.length) (hb : Below w.heap.size w w1) :
    ∃ xs', FFill ls B (j + 1) ((w1.setCell ⟨B, j * 2, none⟩ (.string (ls.getD j Fl.dummy).n)).setCell ⟨B, j * 2 + 1, none⟩ (.string (ls.getD j Fl.dummy).t)) xs' := by
  have f1 := f.below hb
  obtain ⟨s1, g1⟩ := f1.own.stored (j * 2) (.string (ls.getD j Fl.dummy).n)
  obtain ⟨s2, g2⟩ := s1.stored (j * 2 + 1) (.string (ls.getD j Fl.dummy).t)
  have hl := own_len f.own
  refine ⟨_, s2, ?_, ?_⟩
  · intro i hi
    by_cases hij : i = j
    · subst hij
      rw [List.getElem?_set_ne (by omega), List.getElem?_set_self (by omega)]
    · rw [List.getElem?_set_ne (by omega), List.getElem?_set_ne (by omega)]
      exact f.x0 i (by omega)
  · intro i hi
    by_cases hij : i = j
    · subst hij
      rw [List.getElem?_set_self (by rw [List.length_set]; omega)]
    · rw [List.getElem?_set_ne (by omega), List.getElem?_set_ne (by omega)]
      exact f.x1 i (by omega)
theorem FFill.done {ls : List Fl} {B : Nat} {w : World} {xs : List Value} (f : FFill ls B ls.length w xs) (hl : ls.length ≤ 9223372036854775807) :
    FsAt w ls (.slice (some ⟨B, 0, none⟩) ls.length ls.length) := by
  have hb := own_block f.own
  have hc : ∀ i, i < ls.length → ∀ q, q < 2 → w.cell? ⟨B, i * 2 + q, none⟩ = xs[i * 2 + q]? := fun i hi q hq => f.own.cellAt _ (by show i * 2 + q < ls.length * 2; omega)
  refine .row ls B 0 ls.length hb.2 hl (fun i hi => ⟨?_, ?_⟩)
  · rw [Nat.zero_add]; exact (hc i hi 0 (by omega)).trans (f.x0 i hi)
  · rw [Nat.zero_add]; exact (hc i hi 1 (by omega)).trans (f.x1 i hi)
theorem Tryz.infoFile : (Tryz.prog.info? 62).map (fun i => (i.zero, i.size, i.bytes)) = some (some (.agg #[.string ⟨#[]⟩, .string ⟨#[]⟩]), 2, 32) := by kernel_rfl
/-- What a copy leaves: the list, in a block of its own. -/
def ToFlPostS (ls : List Fl) (w : World) (e : Ending) (w' : World) : Prop := ∃ a, e = .returned (.slice a ls.length ls.length) ∧ FsAt w' ls (.slice a ls.length ls.length) ∧ Below w.heap.size w w'
set_option maxRecDepth 100000 in
set_option maxHeartbeats 4000000 in
theorem toFileS_any (ls : List Fl) (v : Value) (w : World) (hl : (ls.length : Int) ≤ 1048576) (hx : FsAt w ls v) :
    Calls Tryz.prog 18 #[v] w (ToFlPostS ls w) := by
  have HX := Lib.hid hx
  obtain ⟨a, cap, rfl, hlen⟩ := hx.slice
  obtain ⟨L, hL⟩ : ∃ L, ls.length = L := ⟨_, rfl⟩
  have HL := Lib.hid hL
  rw [hL] at hlen hl ⊢
  have hsz : L ≤ 1048576 := by omega
  obtain ⟨i0, hi, hz0, hz1, hz2⟩ := info_parts Tryz.infoFile
  clear hx hL
  go_enter Tryz.func18, Tryz.ntmps18
  go_wp2_with (first | (at_make; refine wpList_make_full _ rfl _ _ 31 rfl w.heap.size 62 i0 (.agg #[.string ⟨#[]⟩, .string ⟨#[]⟩]) 2 Tryz.underlying31 hi hz0 hz1 _ _ _ _ L rfl rfl rfl rfl (by rw [hz2]; omega) (by unfold maxLen; omega) (Nat.le_refl _) ?_; intro w0 hown0 hgrow0))
  have hb0 : Below w.heap.size w w0 := (Below.refl _ _).grown hgrow0 (Nat.le_refl _) (fun q hq => by cases hq)
  go_loopw [4] (fun i wr => ∃ (j : Nat) (xs : List Value), j ≤ L ∧ i = .int .i64 j ∧ Hid (FFill ls w.heap.size j wr xs) ∧ Below w.heap.size w wr) (fun i _ => L - (intOf i).toNat)
  case atStart =>
    obtain ⟨xs0, hown1⟩ : ∃ xs, w0.ownsRow w.heap.size 62 2 (.slice (some ⟨w.heap.size, 0, none⟩) L L) L xs := ⟨_, hown0⟩
    refine ⟨0, xs0, Nat.zero_le _, rfl, Lib.hid ⟨?_, ?_, ?_⟩, hb0⟩
    · rw [HL.out]; exact hown1
    all_goals (intros; omega)
  case round =>
    obtain ⟨j, xs, hj, rfl, hfill, hB⟩ := hrel
    have HB := Lib.hid hB
    by_cases hlt : j < L
    · have hji : (j : Int) < (L : Int) := by omega
      obtain ⟨b, o, cap2, ex, bl, ⟨y0, y1⟩⟩ := (HX.out.kept hB).kid j (by rw [HL.out]; exact hlt)
      have ex1 : a = some ⟨b, o, none⟩ := by injection ex
      subst ex1
      have hjt : Hid (j < ls.length) := Lib.hid (by rw [HL.out]; exact hlt)
      have hBw := hB.size
      clear ex hB hown0 hgrow0 hb0
      go_wp2_with fail
      go_at_call 56
      refine (toFile_any _ _ _).mono ?_
      rintro e w2 ⟨rfl, hb2⟩
      obtain ⟨xs', hstep⟩ := hfill.out.step hjt.out hb2
      have HSTEP := Lib.hid hstep
      have hf2 := hfill.out.below hb2
      have hln := own_len hf2.own
      have hlt2 := own_block hf2.own
      have hq0 : j * 2 < xs.length := by rw [hln]; have := hjt.out; omega
      have hq1 : j * 2 + 1 < xs.length := by rw [hln]; have := hjt.out; omega
      have c0 := (hf2.own.cellAt (j * 2) (by rw [← hln]; exact hq0)).trans (List.getElem?_eq_getElem hq0)
      have c1 := (hf2.own.cellAt (j * 2 + 1) (by rw [← hln]; exact hq1)).trans (List.getElem?_eq_getElem hq1)
      have f0 := hf2.own.frozenAt (j * 2)
      have f1 := hf2.own.frozenAt (j * 2 + 1)
      have HB2 := Lib.hid (HB.out.trans (hb2.mono hBw))
      generalize xs[j * 2] = q0 at c0
      generalize xs[j * 2 + 1] = q1 at c1
      clear hstep hf2 hln hq0 hq1 hb2 hlt2 hfill
      go_wp2_with fail
      exact ⟨⟨j + 1, xs', by omega, by go_num, HSTEP, (HB2.out.setCell (p := ⟨w.heap.size, j * 2, none⟩) (Nat.le_refl _) _).setCell (p := ⟨w.heap.size, j * 2 + 1, none⟩) (Nat.le_refl _) _⟩, by simp [intOf]; omega⟩
    · have hji : ¬ (j : Int) < (L : Int) := by omega
      have hjl : j = L := by omega
      clear hB hlt hown0 hgrow0 hb0
      go_wp2_with fail
      go_ret
      refine ⟨some ⟨w.heap.size, 0, none⟩, by rw [HL.out]; rfl, ?_, HB.out⟩
      have h1 := hfill.out
      rw [hjl, ← HL.out] at h1
      exact h1.done (by rw [HL.out]; exact hlen)

set_option maxRecDepth 100000 in
set_option maxHeartbeats 4000000 in
theorem eqFileS_any (ls : List Fl) (v1 v2 : Value) (w : World) (hl : (ls.length : Int) ≤ 1048576) (h1 : FsAt w ls v1) (h2 : FsAt w ls v2) :
    Calls Tryz.prog 21 #[v1, v2] w fun e w' => e = .returned (.bool true) ∧ Below w.heap.size w w' := by
  have H1 := Lib.hid h1
  have H2 := Lib.hid h2
  obtain ⟨a1, c1, rfl, hl1⟩ := h1.slice
  obtain ⟨a2, c2, rfl, hl2⟩ := h2.slice
  obtain ⟨L, hL⟩ : ∃ L, ls.length = L := ⟨_, rfl⟩
  have HL := Lib.hid hL
  have hsz : L ≤ 1048576 := by omega
  rw [hL]
  clear h1 h2 hl1 hl2 hL hl
  go_enter Tryz.func21, Tryz.ntmps21
  go_wp2_with fail
  go_loopw [5] (fun i wr => ∃ j : Nat, j ≤ L ∧ i = .int .i64 j ∧ Below w.heap.size w wr) (fun i _ => L - (intOf i).toNat)
  case atStart => exact ⟨0, Nat.zero_le _, rfl, Below.refl _ _⟩
  case round =>
    obtain ⟨j, hj, rfl, hB⟩ := hrel
    have HB := Lib.hid hB
    by_cases hlt : j < L
    · have hji : (j : Int) < (L : Int) := by omega
      obtain ⟨bx, ox, capx, ex, bxl, ⟨x0, x1⟩⟩ := (H1.out.kept hB).kid j (by rw [HL.out]; exact hlt)
      obtain ⟨b2, o2, cap2, ey, b2l, ⟨y0, y1⟩⟩ := (H2.out.kept hB).kid j (by rw [HL.out]; exact hlt)
      have ex1 : a1 = some ⟨bx, ox, none⟩ := by injection ex
      have ey1 : a2 = some ⟨b2, o2, none⟩ := by injection ey
      subst ex1
      subst ey1
      obtain ⟨xk, hxe⟩ : ∃ x, ls.getD j Fl.dummy = x := ⟨_, rfl⟩
      rw [hxe] at x0 x1 y0 y1
      clear ex ey hB hxe
      go_wp2_with fail
      go_region_held3 (fun w' => w'.cell? ⟨bx, ox + j * 2, none⟩ = some (.string xk.n) ∧ w'.cell? ⟨bx, ox + j * 2 + 1, none⟩ = some (.string xk.t) ∧ w'.cell? ⟨b2, o2 + j * 2, none⟩ = some (.string xk.n) ∧ w'.cell? ⟨b2, o2 + j * 2 + 1, none⟩ = some (.string xk.t)) (go_keep)
        (first | (go_at_call 60; refine (eqFile_same _ _ _).mono ?_; rintro e w5 ⟨rfl, hb5⟩; have HB5 := Lib.hid (HB.out.drew.trans (hb5.mono HB.out.size)); have z0 := (hb5.cell (p := ⟨bx, ox + j * 2, none⟩) bxl).trans x0; have z1 := (hb5.cell (p := ⟨bx, ox + j * 2 + 1, none⟩) bxl).trans x1; have z2 := (hb5.cell (p := ⟨b2, o2 + j * 2, none⟩) b2l).trans y0; have z3 := (hb5.cell (p := ⟨b2, o2 + j * 2 + 1, none⟩) b2l).trans y1; clear hb5))
      all_goals
        go_wp2_with fail
      all_goals exact ⟨⟨j + 1, by omega, by go_num, HB5.out⟩, by simp [intOf]; omega⟩
    · have hji : ¬ (j : Int) < (L : Int) := by omega
      clear hB hlt
      go_wp2_with fail
      go_ret
      exact ⟨rfl, HB.out⟩

end Go.Proofs.YtkekghdkbbjhpaaGreatDoor
