/-
  What the exact laws' helpers for edits return: the copy of an edit, its size, whether two edits are the same; what was in memory stays.
  Edits in memory: a list of them in a row of three cells each; an argument that is such a list.
  The exact laws' functions on lists of changes; an argument that is such a list.
-/
import Derived.Test.YtkekghdkbbjhpaaGreatDoorProg
import Derived.Test.YtkekghdkbbjhpaaGreatDoorTd
import Derived.ProofKit
import Derived.OpenShut
import Derived.Below
import Derived.Deep.Slices
import Derived.Test.YtkekghdkbbjhpaaGreatDoorJhx
namespace Go.Proofs.YtkekghdkbbjhpaaGreatDoor
open Go.RowKit

set_option maxRecDepth 100000 in
set_option maxHeartbeats 400000 in
theorem toEdit_any (f t : Int) (i : ByteArray) (w : World) :
    Calls Tryz.prog 10 #[.agg #[.int .i64 f, .int .i64 t, .string i]] w fun e w' => e = .returned (.agg #[.int .i64 f, .int .i64 t, .string i]) ∧ Below w.heap.size w w' := by
  go_enter Tryz.func10, Tryz.ntmps10
  go_wp2
  exact bodyPost_ret (v := .agg #[.int .i64 f, .int .i64 t, .string i]) (by simp [results, Tryz.results10, go_sem]) rfl ⟨rfl, (((Below.refl _ _).alloc (Nat.le_refl _) _).alloc (by simp) _).alloc (by simp; omega) _⟩

set_option maxRecDepth 100000 in
set_option maxHeartbeats 400000 in
theorem szEdit_in (f t : Int) (i : ByteArray) (n : Int) (hn : n ≤ 1048576) (hi : (i.size : Int) ≤ n) (w : World) :
    Calls Tryz.prog 7 #[.agg #[.int .i64 f, .int .i64 t, .string i], .int .i64 n] w fun e w' => e = .returned (.int .i64 (n - i.size)) ∧ Below w.heap.size w w' := by
  go_enter Tryz.func7, Tryz.ntmps7
  go_wp2
  go_ret
  exact ⟨rfl, (Below.refl _ _).alloc (Nat.le_refl _) _⟩
set_option maxRecDepth 100000 in
set_option maxHeartbeats 400000 in
theorem szEdit_out (f t : Int) (i : ByteArray) (n : Int) (hn : n ≤ 1048576) (h0 : 0 ≤ n) (hi : n < (i.size : Int)) (hm : i.size ≤ maxLen) (w : World) :
    Calls Tryz.prog 7 #[.agg #[.int .i64 f, .int .i64 t, .string i], .int .i64 n] w fun e w' => e = .returned (.int .i64 (-1)) ∧ Below w.heap.size w w' := by
  unfold maxLen at hm
  go_enter Tryz.func7, Tryz.ntmps7
  go_wp2
  go_ret
  exact ⟨rfl, (Below.refl _ _).alloc (Nat.le_refl _) _⟩
set_option maxRecDepth 100000 in
set_option maxHeartbeats 400000 in
theorem eqEdit_same (f t : Int) (i : ByteArray) (w : World) :
    Calls Tryz.prog 91 #[.agg #[.int .i64 f, .int .i64 t, .string i], .agg #[.int .i64 f, .int .i64 t, .string i]] w fun e w' => e = .returned (.bool true) ∧ Below w.heap.size w w' := by
  go_enter Tryz.func91, Tryz.ntmps91
  go_wp2
  go_ret
  exact ⟨rfl, ((Below.refl _ _).alloc (Nat.le_refl _) _).alloc (by simp) _⟩

end Go.Proofs.YtkekghdkbbjhpaaGreatDoor

namespace Go.Proofs.YtkekghdkbbjhpaaGreatDoor
open Go.RowKit
set_option linter.unusedVariables false
set_option linter.unusedSimpArgs false

/-- An edit. -/
structure Ed where
  f : Int
  t : Int
  i : ByteArray
def Ed.dummy : Ed := ⟨0, 0, ⟨#[]⟩⟩
instance : Inhabited Ed := ⟨Ed.dummy⟩
/-- The three cells of an element. -/
structure EFd (w : World) (b o : Nat) (x : Ed) : Prop where
  c0 : w.cell? ⟨b, o, none⟩ = some (.int .i64 x.f)
  c1 : w.cell? ⟨b, o + 1, none⟩ = some (.int .i64 x.t)
  c2 : w.cell? ⟨b, o + 2, none⟩ = some (.string x.i)
theorem EFd.kept {w w' : World} {b o : Nat} {x : Ed} (h : EFd w b o x) (hl : b < w.heap.size) (hb : Below w.heap.size w w') : EFd w' b o x :=
  ⟨(hb.cell (p := ⟨b, o, none⟩) hl).trans h.c0, (hb.cell (p := ⟨b, o + 1, none⟩) hl).trans h.c1, (hb.cell (p := ⟨b, o + 2, none⟩) hl).trans h.c2⟩
/-- The list lies in memory behind a value. -/
inductive EsAt (w : World) : List Ed → Value → Prop where
  | bare (a : Option Addr) (cap : Nat) : EsAt w [] (.slice a 0 cap)
  | row (ls : List Ed) (b o cap : Nat) (hb : b < w.heap.size) (hl : ls.length ≤ 9223372036854775807)
      (h0 : ∀ i, i < ls.length → EFd w b (o + i * 3) (ls.getD i Ed.dummy)) : EsAt w ls (.slice (some ⟨b, o, none⟩) ls.length cap)
theorem EsAt.kept {w w' : World} {ls : List Ed} {v : Value} (h : EsAt w ls v) (hb : Below w.heap.size w w') : EsAt w' ls v := by
  cases h with
  | bare a cap => exact .bare a cap
  | row ls b o cap hbl hl h0 => exact .row ls b o cap (Nat.lt_of_lt_of_le hbl hb.size) hl (fun i hi => (h0 i hi).kept hbl hb)
theorem EsAt.kid {w : World} {ls : List Ed} {v : Value} (h : EsAt w ls v) (i : Nat) (hi : i < ls.length) : ∃ b o cap, v = .slice (some ⟨b, o, none⟩) ls.length cap ∧ b < w.heap.size ∧ EFd w b (o + i * 3) (ls.getD i Ed.dummy) := by
  cases h with
  | bare a cap => exact absurd hi (Nat.not_lt_zero _)
  | row ls b o cap hb hl h0 => exact ⟨b, o, cap, rfl, hb, h0 i hi⟩
theorem EsAt.slice {w : World} {ls : List Ed} {v : Value} (h : EsAt w ls v) : ∃ a cap, v = .slice a ls.length cap ∧ ls.length ≤ 9223372036854775807 := by
  cases h with
  | bare a cap => exact ⟨a, cap, rfl, Nat.zero_le _⟩
  | row ls b o cap hb hl h0 => exact ⟨_, cap, rfl, hl⟩
theorem cellsEd : Tryz.prog.cellsOf 28 = 3 := by kernel_rfl
theorem cellsEdStr : Tryz.prog.cellsOf 9 = 1 := by kernel_rfl
theorem cellsEdInt : Tryz.prog.cellsOf 3 = 1 := by kernel_rfl
theorem addr_add3 (b o k j : Nat) : ((⟨b, o, none⟩ : Addr).add k).add j = ⟨b, o + k + j, none⟩ := by
  unfold Addr.add
  by_cases h1 : k = 0 <;> by_cases h2 : j = 0 <;> simp [h1, h2, Nat.add_assoc]
set_option maxRecDepth 100000 in
/-- The cells of one element that was read. -/
theorem ed_of_trod {H : Type} {enc : TypeId × Value → H} {w : World} {base : Nat} {spare : Nat → Bool} {held : Bool}
    (fuel : Nat) (cs : List Value) (x : DataW H × List MemPlace) (h : DataW.trod enc Tryz.prog w base spare held fuel 28 cs = some x) :
      ∃ (l : Ed), cs = [.int .i64 l.f, .int .i64 l.t, .string l.i] ∧ l.i.size ≤ maxLen := by
  obtain ⟨xs, n, hfn, rfl, hl, hlen, hf⟩ := DataW.trod_struct Tryz.underlying28 h
  rw [cellsEd] at hl
  obtain ⟨c0, c1, c2, rfl⟩ : ∃ c0 c1 c2, cs = [c0, c1, c2] := by
    match cs, hl with
    | [c0, c1, c2], _ => exact ⟨c0, c1, c2, rfl⟩
  obtain ⟨y0, y1, y2, rfl⟩ : ∃ y0 y1 y2, xs = [y0, y1, y2] := by
    match xs, hlen with
    | [y0, y1, y2], _ => exact ⟨y0, y1, y2, rfl⟩
  have g0 := hf 0 _ rfl
  have g1 := hf 1 _ rfl
  have g2 := hf 2 _ rfl
  simp [cellsEdStr, cellsEdInt] at g0 g1 g2
  obtain ⟨f, e0, _, _⟩ := DataW.trod_int Tryz.underlying3 g0
  obtain ⟨t, e1, _, _⟩ := DataW.trod_int Tryz.underlying3 g1
  obtain ⟨s, e2, _, ws⟩ := DataW.trod_string Tryz.underlying9 g2
  simp at e0 e1 e2
  refine ⟨⟨f, t, s⟩, ?_, ws⟩
  simp [e0, e1, e2]
/-- Each insert is short enough for a text of the model. -/
def EdSz (ls : List Ed) : Prop := ∀ i, i < ls.length → (ls.getD i Ed.dummy).i.size ≤ maxLen
end Go.Proofs.YtkekghdkbbjhpaaGreatDoor

namespace Go.Proofs.YtkekghdkbbjhpaaGreatDoor
open Go.RowKit
set_option linter.unusedVariables false
set_option linter.unusedSimpArgs false

theorem cellsCh : Tryz.prog.cellsOf 84 = 4 := by kernel_rfl
theorem cellsChStr : Tryz.prog.cellsOf 9 = 1 := by kernel_rfl
theorem cellsChEd : Tryz.prog.cellsOf 28 = 3 := by kernel_rfl
theorem addr_add4 (b o k j : Nat) : ((⟨b, o, none⟩ : Addr).add k).add j = ⟨b, o + k + j, none⟩ := by
  unfold Addr.add
  by_cases h1 : k = 0 <;> by_cases h2 : j = 0 <;> simp [h1, h2, Nat.add_assoc]
set_option maxRecDepth 100000 in
/-- The cells of one element that was read. -/
theorem ch_of_trod {H : Type} {enc : TypeId × Value → H} {w : World} {base : Nat} {spare : Nat → Bool} {held : Bool}
    (fuel : Nat) (cs : List Value) (x : DataW H × List MemPlace) (h : DataW.trod enc Tryz.prog w base spare held fuel 84 cs = some x) :
      ∃ (l : Ch), cs = [.string l.n, .int .i64 l.f, .int .i64 l.t, .string l.i] ∧ l.n.size ≤ maxLen ∧ l.i.size ≤ maxLen := by
  obtain ⟨xs, n, hfn, rfl, hl, hlen, hf⟩ := DataW.trod_struct Tryz.underlying84 h
  rw [cellsCh] at hl
  obtain ⟨c0, c1, c2, c3, rfl⟩ : ∃ c0 c1 c2 c3, cs = [c0, c1, c2, c3] := by
    match cs, hl with
    | [c0, c1, c2, c3], _ => exact ⟨c0, c1, c2, c3, rfl⟩
  obtain ⟨y0, y1, rfl⟩ : ∃ y0 y1, xs = [y0, y1] := by
    match xs, hlen with
    | [y0, y1], _ => exact ⟨y0, y1, rfl⟩
  have g0 := hf 0 _ rfl
  have g1 := hf 1 _ rfl
  simp [cellsChStr, cellsChEd] at g0 g1
  obtain ⟨f, e0, _, wf⟩ := DataW.trod_string Tryz.underlying9 g0
  obtain ⟨l, e1, ws⟩ := ed_of_trod n _ _ g1
  simp at e0 e1
  obtain ⟨rfl, rfl, rfl⟩ := e1
  exact ⟨⟨f, l.f, l.t, l.i⟩, by simp [e0], wf, ws⟩
theorem chs_of_trod {H : Type} {enc : TypeId × Value → H} {w : World} {base : Nat} {spare : Nat → Bool} {held : Bool} (fuel : Nat) (cs : List Value) (x : DataW H × List MemPlace) (h : DataW.trod enc Tryz.prog w base spare held fuel 43 cs = some x) :
    ∃ (ls : List Ch) (v : Value), cs = [v] ∧ CsAt w ls v ∧ ChSz ls := by
  rcases DataW.trod_slice Tryz.underlying43 h with ⟨hc, _⟩ | ⟨a, len, cap, elems, rest, n2, hn2, hc, _, hb, hlc, hm, hel, hall, _, _⟩
  · skip
    subst hc
    exact ⟨[], _, rfl, .bare none 0, fun i hi => absurd hi (Nat.not_lt_zero _)⟩
  · skip
    subst hc
    have step : ∀ i, i < len → ∃ p : Ch, w.cells? base (a.add (i * 4)) 4 = some [.string p.n, .int .i64 p.f, .int .i64 p.t, .string p.i] ∧ p.n.size ≤ maxLen ∧ p.i.size ≤ maxLen := by
      intro i hi
      have h1 := hall i hi
      rw [cellsCh, List.getElem?_eq_getElem (by omega)] at h1
      rcases hcs : w.cells? base (a.add (i * 4)) 4 with _ | cs'
      · rw [hcs] at h1; simp at h1
      · rw [hcs] at h1
        obtain ⟨t, rfl, hs⟩ := ch_of_trod n2 cs' _ h1
        exact ⟨t, rfl, hs⟩
    by_cases h0 : len = 0
    · subst h0
      exact ⟨[], _, rfl, .bare _ cap, fun i hi => absurd hi (Nat.not_lt_zero _)⟩
    · obtain ⟨p, hp⟩ := Go.Deep.choose_lt step
      obtain ⟨b, o, spot⟩ := a
      have hspot : spot = none := by
        have h1 := (World.cells?_some (hp 0 (by omega)).1).2.2 0 (by omega)
        simp [Addr.add] at h1
        exact World.cell?_spot h1
      subst hspot
      have key : ∀ i, i < len → ∀ j, j < 4 → w.cell? ⟨b, o + i * 4 + j, none⟩ = ([Value.string (p i).n, .int .i64 (p i).f, .int .i64 (p i).t, .string (p i).i] : List Value)[j]? := by
        intro i hi j hj
        have h1 := (World.cells?_some (hp i hi).1).2.2 j hj
        rwa [addr_add4] at h1
      have hbl : b < w.heap.size := World.block_lt_of_cell? w ⟨b, o + 0 * 4 + 0, none⟩ (key 0 (by omega) 0 (by omega))
      have hg : ∀ i, i < len → ((List.range len).map fun i => p i).getD i Ch.dummy = p i := by
        intro i hi
        simp [List.getD, hi]
      have e : (((List.range len).map fun i => p i).length) = len := by simp
      refine ⟨((List.range len).map fun i => p i), _, rfl, ?_, fun i hi => by rw [e] at hi; rw [hg i hi]; exact (hp i hi).2⟩
      have := CsAt.row (w := w) ((List.range len).map fun i => p i) b o cap hbl (by rw [e]; unfold maxLen at hm; omega)
        (fun i hi => by rw [e] at hi; rw [hg i hi]; exact ⟨key i hi 0 (by omega), key i hi 1 (by omega), key i hi 2 (by omega), key i hi 3 (by omega)⟩)
      rwa [e] at this
/-- What a size leaves of what may be left. -/
def lfc (n : Int) : List Ch → Int
  | [] => n
  | x :: r => if (x.n.size : Int) + x.i.size ≤ n then lfc (n - x.n.size - x.i.size) r else -1
theorem lfc_range {ls : List Ch} : ∀ {n : Int}, 0 ≤ n → (lfc n ls = -1 ∨ 0 ≤ lfc n ls ∧ lfc n ls ≤ n) := by
  induction ls with
  | nil => intro n h; exact .inr ⟨h, Int.le_refl _⟩
  | cons x r ih =>
    intro n h
    unfold lfc
    by_cases hc : (x.n.size : Int) + x.i.size ≤ n
    · rw [if_pos hc]
      rcases ih (n := n - x.n.size - x.i.size) (by omega) with h1 | ⟨h1, h2⟩
      · exact .inl h1
      · exact .inr ⟨h1, by omega⟩
    · rw [if_neg hc]; exact .inl rfl
theorem drop_ch {ls : List Ch} {k : Nat} (hk : k < ls.length) : ls.drop k = ls.getD k Ch.dummy :: ls.drop (k + 1) := by
  have : ls.getD k Ch.dummy = ls[k] := by simp [List.getD, hk]
  rw [this]; exact List.drop_eq_getElem_cons hk
set_option maxRecDepth 100000 in
set_option maxHeartbeats 400000 in
theorem szChange_in (s : ByteArray) (f t : Int) (i : ByteArray) (n : Int) (hn : n ≤ 1048576) (hi : (s.size : Int) + i.size ≤ n) (w : World) :
    Calls Tryz.prog 54 #[.agg #[.string s, .int .i64 f, .int .i64 t, .string i], .int .i64 n] w fun e w' => e = .returned (.int .i64 (n - s.size - i.size)) ∧ Below w.heap.size w w' := by
  have h1 : ¬ n - (s.size : Int) < 0 := by omega
  have h2 : ¬ n - (s.size : Int) - i.size < 0 := by omega
  go_enter Tryz.func54, Tryz.ntmps54
  go_wp2_with fail
  go_at_call 7
  refine (szEdit_in f t i (n - s.size) (by omega) (by omega) _).mono ?_
  rintro e w1 ⟨rfl, hb1⟩
  go_wp2_with fail
  go_ret
  exact ⟨rfl, ((Below.refl _ _).alloc (Nat.le_refl _) _).trans (hb1.mono (by simp))⟩
set_option maxRecDepth 100000 in
set_option maxHeartbeats 400000 in
theorem szChange_out (s : ByteArray) (f t : Int) (i : ByteArray) (n : Int) (hn : n ≤ 1048576) (h0 : 0 ≤ n) (hi : n < (s.size : Int) + i.size) (hm : s.size ≤ maxLen) (hm2 : i.size ≤ maxLen) (w : World) :
    Calls Tryz.prog 54 #[.agg #[.string s, .int .i64 f, .int .i64 t, .string i], .int .i64 n] w fun e w' => e = .returned (.int .i64 (-1)) ∧ Below w.heap.size w w' := by
  have HM2 := Lib.hid hm2
  unfold maxLen at hm
  by_cases h1 : n - (s.size : Int) < 0
  · go_enter Tryz.func54, Tryz.ntmps54
    go_wp2
    go_ret
    exact ⟨rfl, (Below.refl _ _).alloc (Nat.le_refl _) _⟩
  · clear hm2
    go_enter Tryz.func54, Tryz.ntmps54
    go_wp2_with fail
    go_at_call 7
    refine (szEdit_out f t i (n - s.size) (by omega) (by omega) (by omega) HM2.out _).mono ?_
    rintro e w1 ⟨rfl, hb1⟩
    go_wp2_with fail
    go_ret
    exact ⟨rfl, ((Below.refl _ _).alloc (Nat.le_refl _) _).trans (hb1.mono (by simp))⟩
set_option maxRecDepth 100000 in
set_option maxHeartbeats 2000000 in
theorem szChangeS_any (ls : List Ch) (v : Value) (m r0 : Int) (w : World) (hz : ChSz ls) (hx : CsAt w ls v) (hm : m ≤ 1048576) (hl : (ls.length : Int) ≤ m) (hb : lfc (m - ls.length) ls = r0) :
    Calls Tryz.prog 16 #[v, .int .i64 m] w fun e w' => e = .returned (.int .i64 r0) ∧ Below w.heap.size w w' := by
  subst hb
  have HX := Lib.hid hx
  have HZ : Hid (ChSz ls) := Lib.hid hz
  obtain ⟨a, cap, rfl, hlen⟩ := hx.slice
  obtain ⟨L, hL⟩ : ∃ L, ls.length = L := ⟨_, rfl⟩
  have HL := Lib.hid hL
  rw [hL] at hlen hl ⊢
  clear hx hz hL
  have hnn : ¬ m - (L : Int) < 0 := by omega
  go_enter Tryz.func16, Tryz.ntmps16
  go_wp2
  go_loopw [1, 5] (fun lv i wr => ∃ (k : Nat) (r : Int), k ≤ L ∧ i = .int .i64 k ∧ lv = .int .i64 r ∧ 0 ≤ r ∧ r ≤ 1048576 ∧ Hid (lfc (m - (L : Int)) ls = lfc r (ls.drop k)) ∧ Below w.heap.size w wr) (fun _ i _ => L - (intOf i).toNat)
  case atStart => exact ⟨0, m - L, Nat.zero_le _, rfl, rfl, by omega, by omega, Lib.hid rfl, Below.refl _ _⟩
  case round =>
    obtain ⟨k, r, hk, rfl, rfl, r0, r1, hr, hB⟩ := hrel
    have HB := Lib.hid hB
    clear hB
    by_cases hlt : k < L
    · have hki : (k : Int) < (L : Int) := by omega
      obtain ⟨xb, xo, cap2, ex, bl, ⟨x0, x1, x2, x3⟩⟩ := (HX.out.kept HB.out).kid k (by rw [HL.out]; exact hlt)
      have ex1 : a = some ⟨xb, xo, none⟩ := by injection ex
      subst ex1
      have HIX := Lib.hid (HZ.out k (by rw [HL.out]; exact hlt))
      have hdr := drop_ch (ls := ls) (k := k) (by rw [HL.out]; exact hlt)
      obtain ⟨xk, hxk⟩ : ∃ x, ls.getD k Ch.dummy = x := ⟨_, rfl⟩
      rw [hxk] at x0 x1 x2 x3 HIX hdr
      have HDR := Lib.hid hdr
      clear ex hxk hdr
      by_cases hc : (xk.n.size : Int) + xk.i.size ≤ r
      · have hcn : 0 ≤ r - (xk.n.size : Int) - (xk.i.size : Int) := by omega
        have HN : Hid (lfc (m - (L : Int)) ls = lfc (r - xk.n.size - xk.i.size) (ls.drop (k + 1))) := Lib.hid (by rw [hr.out, HDR.out]; show (if (xk.n.size : Int) + xk.i.size ≤ r then lfc (r - xk.n.size - xk.i.size) (ls.drop (k + 1)) else -1) = _; rw [if_pos hc])
        go_wp2_with fail
        go_at_call 54
        refine (szChange_in xk.n xk.f xk.t xk.i r r1 hc _).mono ?_
        rintro e w2 ⟨rfl, hb2⟩
        have HB2 := Lib.hid (HB.out.trans (hb2.mono HB.out.size))
        clear hb2
        go_wp2_with fail
        go_roundw
        case rel => exact ⟨k + 1, r - xk.n.size - xk.i.size, by omega, by go_num, rfl, hcn, by omega, HN, HB2.out⟩
        case measure => simp [intOf]; omega
      · have HS : Hid (lfc (m - (L : Int)) ls = -1) := Lib.hid (by rw [hr.out, HDR.out]; show (if (xk.n.size : Int) + xk.i.size ≤ r then lfc (r - xk.n.size - xk.i.size) (ls.drop (k + 1)) else -1) = -1; rw [if_neg hc])
        go_wp2_with fail
        go_at_call 54
        refine (szChange_out xk.n xk.f xk.t xk.i r r1 r0 (by omega) HIX.out.1 HIX.out.2 _).mono ?_
        rintro e w2 ⟨rfl, hb2⟩
        have HB2 := Lib.hid (HB.out.trans (hb2.mono HB.out.size))
        clear hb2
        go_wp2_with fail
        go_ret
        exact ⟨ret_i3 HS.out.symm, HB2.out⟩
    · have hki : ¬ (k : Int) < (L : Int) := by omega
      have HS : Hid (lfc (m - (L : Int)) ls = r) := Lib.hid (by rw [hr.out, List.drop_of_length_le (by rw [HL.out]; omega)]; rfl)
      clear hlt
      go_wp2_with fail
      go_ret
      exact ⟨ret_i3 HS.out.symm, HB.out⟩
set_option maxRecDepth 100000 in
set_option maxHeartbeats 1000000 in
theorem szChangeS_long (ls : List Ch) (v : Value) (m : Int) (w : World) (hx : CsAt w ls v) (hm : m ≤ 1048576) (h0 : 0 ≤ m) (hl : ¬ (ls.length : Int) ≤ m) :
    Calls Tryz.prog 16 #[v, .int .i64 m] w fun e w' => e = .returned (.int .i64 (-1)) ∧ Below w.heap.size w w' := by
  obtain ⟨a, cap, rfl, hlen⟩ := hx.slice
  obtain ⟨L, hL⟩ : ∃ L, ls.length = L := ⟨_, rfl⟩
  rw [hL] at hlen hl ⊢
  clear hx hL
  have hneg : m - (L : Int) < 0 := by omega
  go_enter Tryz.func16, Tryz.ntmps16
  go_wp2
  go_ret
  exact ⟨rfl, Below.refl _ _⟩
set_option maxRecDepth 100000 in
set_option maxHeartbeats 400000 in
theorem toChange_any (s : ByteArray) (f t : Int) (i : ByteArray) (w : World) :
    Calls Tryz.prog 57 #[.agg #[.string s, .int .i64 f, .int .i64 t, .string i]] w fun e w' => e = .returned (.agg #[.string s, .int .i64 f, .int .i64 t, .string i]) ∧ Below w.heap.size w w' := by
  have hA := (((Below.refl w.heap.size w).alloc (Nat.le_refl _) (.cells #[.string s, .int .i64 f, .int .i64 t, .string i] 84)).alloc (by rw [World.size_alloc]; omega) (.cells #[.string ⟨#[]⟩, .int .i64 0, .int .i64 0, .string ⟨#[]⟩] 86)).alloc (by rw [World.size_alloc, World.size_alloc]; omega) (.cells #[.string s, .int .i64 0, .int .i64 0, .string ⟨#[]⟩] 86)
  have hX2 := (BxC.new (w.alloc (.cells #[.string s, .int .i64 f, .int .i64 t, .string i] 84)) ⟨#[]⟩ 0 0 ⟨#[]⟩).kept ((Below.refl _ _).alloc (Nat.le_refl _) (.cells #[.string s, .int .i64 0, .int .i64 0, .string ⟨#[]⟩] 86))
  have hX3 := BxC.new ((w.alloc (.cells #[.string s, .int .i64 f, .int .i64 t, .string i] 84)).alloc (.cells #[.string ⟨#[]⟩, .int .i64 0, .int .i64 0, .string ⟨#[]⟩] 86)) s 0 0 ⟨#[]⟩
  rw [World.size_alloc] at hX2
  rw [World.size_alloc, World.size_alloc] at hX3
  have HA := Lib.hid hA
  have HX2 := Lib.hid hX2
  have HX3 := Lib.hid hX3
  clear hA hX2 hX3
  go_enter Tryz.func57, Tryz.ntmps57
  go_wp2_with fail
  go_at_call 10
  refine (toEdit_any f t i _).mono ?_
  rintro e w1 ⟨rfl, hb1⟩
  have HB1 := Lib.hid (HA.out.trans (hb1.mono HA.out.size))
  obtain ⟨t0, t1, t2, t3, g0, g1, g2, g3, tz⟩ := HX2.out.kept hb1
  obtain ⟨s0, s1, s2, s3, r0, r1, r2, r3, sz⟩ := HX3.out.kept hb1
  clear hb1
  go_wp2_with fail
  refine bodyPost_ret (v := .agg #[.string s, .int .i64 f, .int .i64 t, .string i]) (by simp [results, Tryz.results57, go_sem, t0, t1, t2, t3]) rfl ⟨rfl, ?_⟩
  with_reducible repeat (first | exact HB1.out | refine Below.setCell ?_ (by first | exact Nat.le_succ _ | exact Nat.le_trans (Nat.le_succ _) (Nat.le_succ _)) _)
set_option maxRecDepth 100000 in
set_option maxHeartbeats 400000 in
theorem eqChange_same (s : ByteArray) (f t : Int) (i : ByteArray) (w : World) :
    Calls Tryz.prog 61 #[.agg #[.string s, .int .i64 f, .int .i64 t, .string i], .agg #[.string s, .int .i64 f, .int .i64 t, .string i]] w fun e w' => e = .returned (.bool true) ∧ Below w.heap.size w w' := by
  go_enter Tryz.func61, Tryz.ntmps61
  go_wp2_with fail
  go_at_call 91
  refine (eqEdit_same f t i _).mono ?_
  rintro e w1 ⟨rfl, hb1⟩
  go_wp2_with fail
  go_ret
  exact ⟨rfl, (((Below.refl _ _).alloc (Nat.le_refl _) _).alloc (by simp) _).trans (hb1.mono (by simp; omega))⟩
/-- The cells of a list of changes. -/
def cellsC (ls : List Ch) : List Value := ls.flatMap fun x => [.string x.n, .int .i64 x.f, .int .i64 x.t, .string x.i]
theorem cellsC_len : ∀ ls : List Ch, (cellsC ls).length = ls.length * 4
  | [] => rfl
  | p :: r => by
    have := cellsC_len r
    have e : cellsC (p :: r) = [.string p.n, .int .i64 p.f, .int .i64 p.t, .string p.i] ++ cellsC r := rfl
    rw [e, List.length_append, this]; simp; omega
theorem cellsC_at : ∀ (ls : List Ch) (i : Nat), i < ls.length → (cellsC ls)[i * 4]? = some (.string (ls.getD i Ch.dummy).n) ∧ (cellsC ls)[i * 4 + 1]? = some (.int .i64 (ls.getD i Ch.dummy).f) ∧ (cellsC ls)[i * 4 + 2]? = some (.int .i64 (ls.getD i Ch.dummy).t) ∧ (cellsC ls)[i * 4 + 3]? = some (.string (ls.getD i Ch.dummy).i)
  | p :: r, i, hi => by
    have e : cellsC (p :: r) = [.string p.n, .int .i64 p.f, .int .i64 p.t, .string p.i] ++ cellsC r := rfl
    rw [e]
    cases i with
    | zero => simp [List.getD]
    | succ i =>
      have h := cellsC_at r i (by simpa using hi)
      have e0 : ([Value.string p.n, .int .i64 p.f, .int .i64 p.t, .string p.i] : List Value).length = 4 := rfl
      rw [List.getElem?_append_right (by rw [e0]; omega), List.getElem?_append_right (by rw [e0]; omega), List.getElem?_append_right (by rw [e0]; omega), List.getElem?_append_right (by rw [e0]; omega), e0, show (i + 1) * 4 - 4 = i * 4 by omega, show (i + 1) * 4 + 1 - 4 = i * 4 + 1 by omega, show (i + 1) * 4 + 2 - 4 = i * 4 + 2 by omega, show (i + 1) * 4 + 3 - 4 = i * 4 + 3 by omega]
      simpa [List.getD] using h
theorem cellsC_of {ls : List Ch} {xs : List Value} (hl : xs.length = ls.length * 4) (h : ∀ i, i < ls.length → xs[i * 4]? = some (.string (ls.getD i Ch.dummy).n) ∧ xs[i * 4 + 1]? = some (.int .i64 (ls.getD i Ch.dummy).f) ∧ xs[i * 4 + 2]? = some (.int .i64 (ls.getD i Ch.dummy).t) ∧ xs[i * 4 + 3]? = some (.string (ls.getD i Ch.dummy).i)) : xs = cellsC ls := by
  apply List.ext_getElem?
  intro j
  by_cases hj : j < ls.length * 4
  · have ⟨c0, c1, c2, c3⟩ := cellsC_at ls (j / 4) (by omega)
    obtain ⟨d0, d1, d2, d3⟩ := h (j / 4) (by omega)
    have hm : j % 4 = 0 ∨ j % 4 = 1 ∨ j % 4 = 2 ∨ j % 4 = 3 := by omega
    rcases hm with hm | hm | hm | hm
    · have e : j = j / 4 * 4 := by omega
      rw [e, d0, c0]
    · have e : j = j / 4 * 4 + 1 := by omega
      rw [e, d1, c1]
    · have e : j = j / 4 * 4 + 2 := by omega
      rw [e, d2, c2]
    · have e : j = j / 4 * 4 + 3 := by omega
      rw [e, d3, c3]
  · rw [List.getElem?_eq_none (by omega), List.getElem?_eq_none (by rw [cellsC_len]; omega)]
/-- Changes in a row of the law's own. -/
def CO (w : World) (lo hi : Nat) (v : Value) (ls : List Ch) : Prop := OB w lo hi 86 4 v ls.length (cellsC ls)
theorem CO.inside {w w' : World} {lo hi lo' hi' : Nat} {v : Value} {ls : List Ch} (h : CO w lo hi v ls) (hI : Inside lo' hi' w w') (hd : hi ≤ lo' ∨ hi' ≤ lo) : CO w' lo hi v ls := OB.inside h hI hd
theorem CO.kept {w w' : World} {lo hi : Nat} {v : Value} {ls : List Ch} (h : CO w lo hi v ls) (hb : Below w.heap.size w w') : CO w' lo hi v ls := OB.kept h hb
theorem CO.at {w : World} {lo hi : Nat} {v : Value} {ls : List Ch} (h : CO w lo hi v ls) : CsAt w ls v := by
  obtain ⟨a, cap, rfl, hm⟩ := OB.slice h
  unfold maxLen at hm
  rcases Nat.eq_zero_or_pos ls.length with h0 | h0
  · have : ls = [] := List.length_eq_zero_iff.1 h0
    subst this
    exact .bare a cap
  · obtain ⟨g, cap2, e, _, _, hg⟩ := OB.blk h h0
    injection e with e1 e2 e3
    subst e1 e3
    have hc : ∀ q, q < ls.length * 4 → w.cell? ⟨g, q, none⟩ = (cellsC ls)[q]? := fun q hq => h.own.cellAt q hq
    refine .row ls g 0 cap hg (by omega) (fun i hi => ?_)
    obtain ⟨c0, c1, c2, c3⟩ := cellsC_at ls i hi
    rw [Nat.zero_add]
    exact ⟨(hc _ (by omega)).trans c0, (hc _ (by omega)).trans c1, (hc _ (by omega)).trans c2, (hc _ (by omega)).trans c3⟩
/-- A row that is being filled. -/
structure CFill (ls : List Ch) (B j : Nat) (w : World) (xs : List Value) : Prop where
  own : w.ownsRow B 86 4 (.slice (some ⟨B, 0, none⟩) ls.length ls.length) ls.length xs
  xx : ∀ i, i < j → xs[i * 4]? = some (.string (ls.getD i Ch.dummy).n) ∧ xs[i * 4 + 1]? = some (.int .i64 (ls.getD i Ch.dummy).f) ∧ xs[i * 4 + 2]? = some (.int .i64 (ls.getD i Ch.dummy).t) ∧ xs[i * 4 + 3]? = some (.string (ls.getD i Ch.dummy).i)
theorem CFill.below {ls : List Ch} {B j : Nat} {w w' : World} {xs : List Value} (f : CFill ls B j w xs) (hb : Below w.heap.size w w') : CFill ls B j w' xs := ⟨own_below f.own hb, f.xx⟩
theorem CFill.step {ls : List Ch} {B j : Nat} {w w1 : World} {xs : List Value} (f : CFill ls B j w xs) (hj : j < ls.length) (hb : Below w.heap.size w w1) :
    ∃ xs', CFill ls B (j + 1) ((((w1.setCell ⟨B, j * 4, none⟩ (.string (ls.getD j Ch.dummy).n)).setCell ⟨B, j * 4 + 1, none⟩ (.int .i64 (ls.getD j Ch.dummy).f)).setCell ⟨B, j * 4 + 2, none⟩ (.int .i64 (ls.getD j Ch.dummy).t)).setCell ⟨B, j * 4 + 3, none⟩ (.string (ls.getD j Ch.dummy).i)) xs' := by
  have f1 := f.below hb
  obtain ⟨s1, _⟩ := f1.own.stored (j * 4) (.string (ls.getD j Ch.dummy).n)
  obtain ⟨s2, _⟩ := s1.stored (j * 4 + 1) (.int .i64 (ls.getD j Ch.dummy).f)
  obtain ⟨s3, _⟩ := s2.stored (j * 4 + 2) (.int .i64 (ls.getD j Ch.dummy).t)
  obtain ⟨s4, _⟩ := s3.stored (j * 4 + 3) (.string (ls.getD j Ch.dummy).i)
  have hl := own_len f.own
  refine ⟨_, s4, ?_⟩
  intro i hi
  by_cases hij : i = j
  · subst hij
    refine ⟨?_, ?_, ?_, ?_⟩
    · rw [List.getElem?_set_ne (by omega), List.getElem?_set_ne (by omega), List.getElem?_set_ne (by omega), List.getElem?_set_self (by omega)]
    · rw [List.getElem?_set_ne (by omega), List.getElem?_set_ne (by omega), List.getElem?_set_self (by rw [List.length_set]; omega)]
    · rw [List.getElem?_set_ne (by omega), List.getElem?_set_self (by rw [List.length_set, List.length_set]; omega)]
    · rw [List.getElem?_set_self (by rw [List.length_set, List.length_set, List.length_set]; omega)]
  · obtain ⟨x0, x1, x2, x3⟩ := f.xx i (by omega)
    refine ⟨?_, ?_, ?_, ?_⟩
    all_goals (rw [List.getElem?_set_ne (by omega), List.getElem?_set_ne (by omega), List.getElem?_set_ne (by omega), List.getElem?_set_ne (by omega)]; assumption)
theorem infoChg : (Tryz.prog.info? 86).map (fun i => (i.zero, i.size, i.bytes)) = some (some (.agg #[.string ⟨#[]⟩, .int .i64 0, .int .i64 0, .string ⟨#[]⟩]), 4, 48) := by kernel_rfl
/-- What a copy leaves: the list, in a row of its own. -/
def ToChOwn (ls : List Ch) (w : World) (e : Ending) (w' : World) : Prop := ∃ g, e = .returned (.slice (some ⟨g, 0, none⟩) ls.length ls.length) ∧ CO w' g (g + 1) (.slice (some ⟨g, 0, none⟩) ls.length ls.length) ls ∧ w.heap.size ≤ g ∧ g < w'.heap.size ∧ Below w.heap.size w w'
set_option maxRecDepth 100000 in
set_option maxHeartbeats 4000000 in
theorem toChangeS_own (ls : List Ch) (v : Value) (w : World) (hl : (ls.length : Int) ≤ 1048576) (hx : CsAt w ls v) :
    Calls Tryz.prog 19 #[v] w (ToChOwn ls w) := by
  have HX := Lib.hid hx
  obtain ⟨a, cap, rfl, hlen⟩ := hx.slice
  obtain ⟨L, hL⟩ : ∃ L, ls.length = L := ⟨_, rfl⟩
  have HL := Lib.hid hL
  rw [hL] at hlen hl ⊢
  have hsz : L ≤ 1048576 := by omega
  obtain ⟨i0, hi, hz0, hz1, hz2⟩ := info_parts infoChg
  clear hx hL
  go_enter Tryz.func19, Tryz.ntmps19
  go_wp2_with (first | (at_make; refine wpList_make_full _ rfl _ _ 49 rfl w.heap.size 86 i0 (.agg #[.string ⟨#[]⟩, .int .i64 0, .int .i64 0, .string ⟨#[]⟩]) 4 Tryz.underlying49 hi hz0 hz1 _ _ _ _ L rfl rfl rfl rfl (by rw [hz2]; omega) (by unfold maxLen; omega) (Nat.le_refl _) ?_; intro w0 hown0 hgrow0))
  have hb0 : Below w.heap.size w w0 := (Below.refl _ _).grown hgrow0 (Nat.le_refl _) (fun q hq => by cases hq)
  go_loopw [4] (fun i wr => ∃ (j : Nat) (xs : List Value), j ≤ L ∧ i = .int .i64 j ∧ Hid (CFill ls w.heap.size j wr xs) ∧ Below w.heap.size w wr) (fun i _ => L - (intOf i).toNat)
  case atStart =>
    obtain ⟨xs0, hown1⟩ : ∃ xs, w0.ownsRow w.heap.size 86 4 (.slice (some ⟨w.heap.size, 0, none⟩) L L) L xs := ⟨_, hown0⟩
    refine ⟨0, xs0, Nat.zero_le _, rfl, Lib.hid ⟨?_, ?_⟩, hb0⟩
    · rw [HL.out]; exact hown1
    all_goals (intros; omega)
  case round =>
    obtain ⟨j, xs, hj, rfl, hfill, hB⟩ := hrel
    have HB := Lib.hid hB
    by_cases hlt : j < L
    · have hji : (j : Int) < (L : Int) := by omega
      obtain ⟨b, o, cap2, ex, bl, ⟨y0, y1, y2, y3⟩⟩ := (HX.out.kept hB).kid j (by rw [HL.out]; exact hlt)
      have ex1 : a = some ⟨b, o, none⟩ := by injection ex
      subst ex1
      have hjt : Hid (j < ls.length) := Lib.hid (by rw [HL.out]; exact hlt)
      have hBw := hB.size
      clear ex hB hown0 hgrow0 hb0
      go_wp2_with fail
      go_at_call 57
      refine (toChange_any _ _ _ _ _).mono ?_
      rintro e w2 ⟨rfl, hb2⟩
      obtain ⟨xs', hstep⟩ := hfill.out.step hjt.out hb2
      have HSTEP := Lib.hid hstep
      have hf2 := hfill.out.below hb2
      have hln := own_len hf2.own
      have hlt2 := own_block hf2.own
      have hq0 : j * 4 < xs.length := by rw [hln]; have := hjt.out; omega
      have hq1 : j * 4 + 1 < xs.length := by rw [hln]; have := hjt.out; omega
      have hq2 : j * 4 + 2 < xs.length := by rw [hln]; have := hjt.out; omega
      have hq3 : j * 4 + 3 < xs.length := by rw [hln]; have := hjt.out; omega
      have c0 := (hf2.own.cellAt (j * 4) (by rw [← hln]; exact hq0)).trans (List.getElem?_eq_getElem hq0)
      have c1 := (hf2.own.cellAt (j * 4 + 1) (by rw [← hln]; exact hq1)).trans (List.getElem?_eq_getElem hq1)
      have c2 := (hf2.own.cellAt (j * 4 + 2) (by rw [← hln]; exact hq2)).trans (List.getElem?_eq_getElem hq2)
      have c3 := (hf2.own.cellAt (j * 4 + 3) (by rw [← hln]; exact hq3)).trans (List.getElem?_eq_getElem hq3)
      have f0 := hf2.own.frozenAt (j * 4)
      have f1 := hf2.own.frozenAt (j * 4 + 1)
      have f2 := hf2.own.frozenAt (j * 4 + 2)
      have f3 := hf2.own.frozenAt (j * 4 + 3)
      have HB2 := Lib.hid (HB.out.trans (hb2.mono hBw))
      generalize xs[j * 4] = q0 at c0
      generalize xs[j * 4 + 1] = q1 at c1
      generalize xs[j * 4 + 2] = q2 at c2
      generalize xs[j * 4 + 3] = q3 at c3
      clear hstep hf2 hln hq0 hq1 hq2 hq3 hb2 hlt2 hfill
      go_wp2_with fail
      exact ⟨⟨j + 1, xs', by omega, by go_num, HSTEP, (((HB2.out.setCell (p := ⟨w.heap.size, j * 4, none⟩) (Nat.le_refl _) _).setCell (p := ⟨w.heap.size, j * 4 + 1, none⟩) (Nat.le_refl _) _).setCell (p := ⟨w.heap.size, j * 4 + 2, none⟩) (Nat.le_refl _) _).setCell (p := ⟨w.heap.size, j * 4 + 3, none⟩) (Nat.le_refl _) _⟩, by simp [intOf]; omega⟩
    · have hji : ¬ (j : Int) < (L : Int) := by omega
      have hjl : j = L := by omega
      clear hB hlt hown0 hgrow0 hb0
      go_wp2_with fail
      go_ret
      refine ⟨w.heap.size, by rw [HL.out]; rfl, ?_, Nat.le_refl _, ?_, HB.out⟩
      · have h1 := hfill.out
        rw [hjl, ← HL.out] at h1
        have h2 := h1.own
        have e := cellsC_of (own_len h2) h1.xx
        rw [e] at h2
        unfold CO
        exact ⟨h2, fun g hg => by simp [Value.ownBlock] at hg; omega⟩
      · have h1 := hfill.out
        have := (own_block h1.own).2
        omega
set_option maxRecDepth 100000 in
set_option maxHeartbeats 4000000 in
theorem eqChangeS_any (ls : List Ch) (v1 v2 : Value) (w : World) (hl : (ls.length : Int) ≤ 1048576) (h1 : CsAt w ls v1) (h2 : CsAt w ls v2) :
    Calls Tryz.prog 22 #[v1, v2] w fun e w' => e = .returned (.bool true) ∧ Below w.heap.size w w' := by
  have H1 := Lib.hid h1
  have H2 := Lib.hid h2
  obtain ⟨a1, c1, rfl, hl1⟩ := h1.slice
  obtain ⟨a2, c2, rfl, hl2⟩ := h2.slice
  obtain ⟨L, hL⟩ : ∃ L, ls.length = L := ⟨_, rfl⟩
  have HL := Lib.hid hL
  have hsz : L ≤ 1048576 := by omega
  rw [hL]
  clear h1 h2 hl1 hl2 hL hl
  go_enter Tryz.func22, Tryz.ntmps22
  go_wp2_with fail
  go_loopw [5] (fun i wr => ∃ j : Nat, j ≤ L ∧ i = .int .i64 j ∧ Below w.heap.size w wr) (fun i _ => L - (intOf i).toNat)
  case atStart => exact ⟨0, Nat.zero_le _, rfl, Below.refl _ _⟩
  case round =>
    obtain ⟨j, hj, rfl, hB⟩ := hrel
    have HB := Lib.hid hB
    by_cases hlt : j < L
    · have hji : (j : Int) < (L : Int) := by omega
      obtain ⟨bx, ox, capx, ex, bxl, ⟨x0, x1, x2, x3⟩⟩ := (H1.out.kept hB).kid j (by rw [HL.out]; exact hlt)
      obtain ⟨b2, o2, cap2, ey, b2l, ⟨y0, y1, y2, y3⟩⟩ := (H2.out.kept hB).kid j (by rw [HL.out]; exact hlt)
      have ex1 : a1 = some ⟨bx, ox, none⟩ := by injection ex
      have ey1 : a2 = some ⟨b2, o2, none⟩ := by injection ey
      subst ex1
      subst ey1
      obtain ⟨xk, hxe⟩ : ∃ x, ls.getD j Ch.dummy = x := ⟨_, rfl⟩
      rw [hxe] at x0 x1 x2 x3 y0 y1 y2 y3
      clear ex ey hB hxe
      go_wp2_with fail
      go_region_held3 (fun w' => w'.cell? ⟨bx, ox + j * 4, none⟩ = some (.string xk.n) ∧ w'.cell? ⟨bx, ox + j * 4 + 1, none⟩ = some (.int .i64 xk.f) ∧ w'.cell? ⟨bx, ox + j * 4 + 2, none⟩ = some (.int .i64 xk.t) ∧ w'.cell? ⟨bx, ox + j * 4 + 3, none⟩ = some (.string xk.i) ∧ w'.cell? ⟨b2, o2 + j * 4, none⟩ = some (.string xk.n) ∧ w'.cell? ⟨b2, o2 + j * 4 + 1, none⟩ = some (.int .i64 xk.f) ∧ w'.cell? ⟨b2, o2 + j * 4 + 2, none⟩ = some (.int .i64 xk.t) ∧ w'.cell? ⟨b2, o2 + j * 4 + 3, none⟩ = some (.string xk.i)) (go_keep)
        (first | (go_at_call 61; refine (eqChange_same _ _ _ _ _).mono ?_; rintro e w5 ⟨rfl, hb5⟩; have HB5 := Lib.hid (HB.out.drew.trans (hb5.mono HB.out.size)); have z0 := (hb5.cell (p := ⟨bx, ox + j * 4, none⟩) bxl).trans x0; have z1 := (hb5.cell (p := ⟨bx, ox + j * 4 + 1, none⟩) bxl).trans x1; have z2 := (hb5.cell (p := ⟨bx, ox + j * 4 + 2, none⟩) bxl).trans x2; have z3 := (hb5.cell (p := ⟨bx, ox + j * 4 + 3, none⟩) bxl).trans x3; have z4 := (hb5.cell (p := ⟨b2, o2 + j * 4, none⟩) b2l).trans y0; have z5 := (hb5.cell (p := ⟨b2, o2 + j * 4 + 1, none⟩) b2l).trans y1; have z6 := (hb5.cell (p := ⟨b2, o2 + j * 4 + 2, none⟩) b2l).trans y2; have z7 := (hb5.cell (p := ⟨b2, o2 + j * 4 + 3, none⟩) b2l).trans y3; clear hb5))
      all_goals
        go_wp2_with fail
      all_goals exact ⟨⟨j + 1, by omega, by go_num, HB5.out⟩, by simp [intOf]; omega⟩
    · have hji : ¬ (j : Int) < (L : Int) := by omega
      clear hB hlt
      go_wp2_with fail
      go_ret
      exact ⟨rfl, HB.out⟩
theorem OB.cellq {w : World} {lo hi g cap L : Nat} {sz : Nat} {e : TypeId} {xs : List Value} (h : OB w lo hi e sz (.slice (some ⟨g, 0, none⟩) L cap) L xs) {q : Nat} (hq : q < L * sz) : (∃ u, w.cell? ⟨g, q, none⟩ = some u) ∧ w.frozen? ⟨g, q, none⟩ = false := by
  refine ⟨?_, h.own.frozenAt q⟩
  have h1 := h.own.cellAt q hq
  rw [List.getElem?_eq_getElem (by rw [h.own.1]; omega)] at h1
  exact ⟨_, h1⟩
set_option maxRecDepth 100000 in
set_option maxHeartbeats 2000000 in
/-- The marks of changes: what else lies in memory stays. -/
theorem markChangeS_any (lo hi K : Nat) (L : Nat) (hl : L ≤ 1048576) (hK : 0 < K ∧ K ≤ 4000000) (a : Option Addr) (c : Nat) (w : World) (h : ∃ xs, OB w lo hi 86 4 (.slice a L c) L xs) :
    Calls Tryz.prog 24 #[.slice a L c, .int .i64 K] w fun e w' => e = .returned (.int .i64 ((K + 4 * L : Nat) : Int)) ∧ Inside lo hi w w' := by
  obtain ⟨hK0, hK1⟩ := hK
  have H := Lib.hid h
  clear h
  go_enter Tryz.func24, Tryz.ntmps24
  go_wp2
  go_loopw [1, 5] (fun m i wr => ∃ (k : Nat), k ≤ L ∧ i = .int .i64 k ∧ m = .int .i64 ((K + 4 * k : Nat) : Int) ∧ Hid (∃ xs, OB wr lo hi 86 4 (.slice a L c) L xs) ∧ Hid (Inside lo hi w wr)) (fun _ i _ => L - (intOf i).toNat)
  case atStart => exact ⟨0, Nat.zero_le _, rfl, rfl, H, Lib.hid (Inside.refl _ _ _)⟩
  case round =>
    obtain ⟨k, hk, rfl, rfl, hf, hI⟩ := hrel
    by_cases hlt : k < L
    · obtain ⟨xs, hO⟩ := hf.out
      obtain ⟨b, cap2, ex, n1, n2, l1⟩ := hO.blk (by omega)
      have f1 : a = some ⟨b, 0, none⟩ := by injection ex
      subst f1
      have hki : (k : Int) < (L : Int) := by omega
      have HLT := Lib.hid hlt
      have HO := Lib.hid hO
      clear ex hO
      go_wp2_with fail
      go_at_call 62
      refine (markText_any (K + 4 * k) (by omega) (by omega) _).mono ?_
      rintro e w1 ⟨rfl, hb1⟩
      have HB1 := Lib.hid hb1
      have hO1 := HO.out.kept hb1
      obtain ⟨⟨u0, c0⟩, z0⟩ := hO1.cellq (q := k * 4) (by omega)
      obtain ⟨⟨u1, c1⟩, z1⟩ := hO1.cellq (q := k * 4 + 1) (by omega)
      obtain ⟨⟨u2, c2⟩, z2⟩ := hO1.cellq (q := k * 4 + 2) (by omega)
      have HO1 := Lib.hid hO1
      have l2 : b < w1.heap.size := Nat.lt_of_lt_of_le l1 hb1.size
      clear hO1 hb1
      go_wp2_with fail
      go_at_call 62
      refine (markText_any (K + 4 * k + 3) (by omega) (by omega) _).mono ?_
      rintro e w3 ⟨rfl, hb3⟩
      have hO3 := (((HO1.out.store (k * 4) (.string (mkT (K + 4 * k)))).store (k * 4 + 1) (.int .i64 ((K : Int) + 4 * (k : Int) + 1))).store (k * 4 + 2) (.int .i64 ((K : Int) + 4 * (k : Int) + 1 + 1))).kept hb3
      obtain ⟨⟨u3, c3⟩, z3⟩ := hO3.cellq (q := k * 4 + 3) (by omega)
      have HO3 := Lib.hid hO3
      have HB3 := Lib.hid hb3
      clear hO3 hb3 c0 c1 c2 z0 z1 z2
      go_wp2_with fail
      refine ⟨⟨k + 1, by omega, by go_num, ?_, Lib.hid ⟨_, HO3.out.store (k * 4 + 3) _⟩, Lib.hid ?_⟩, by simp [intOf]; omega⟩
      · go_num
      · exact (((((hI.out.trans (inside_below HB1.out)).trans (Inside.set w1 _ _ n1 n2)).trans (Inside.set _ _ _ n1 n2)).trans (Inside.set _ _ _ n1 n2)).trans (inside_below HB3.out)).trans (Inside.set w3 _ _ n1 n2)
    · have hki : ¬ (k : Int) < (L : Int) := by omega
      have hkl : k = L := by omega
      subst hkl
      clear hlt
      go_wp2_with fail
      go_ret
      exact ⟨rfl, hI.out⟩
end Go.Proofs.YtkekghdkbbjhpaaGreatDoor

