/-
  Names with types in memory: a list of them in a row of four cells each; the argument, and its size.
-/
import Derived.Test.YtjciindcdcgclaaZh
namespace Go.Proofs.Ytjciindcdcgclaa
open Go.RowKit
set_option linter.unusedVariables false
set_option linter.unusedSimpArgs false

/-- A name with its type. -/
structure Kn where
  s : ByteArray
  t : Ty
def Kn.dummy : Kn := ⟨⟨#[]⟩, Ty.dummy⟩
instance : Inhabited Kn := ⟨Kn.dummy⟩
/-- The four cells of an element. -/
structure KFd (w : World) (b o : Nat) (x : Kn) (v : Value) : Prop where
  c0 : w.cell? ⟨b, o, none⟩ = some (.string x.s)
  c1 : w.cell? ⟨b, o + 1, none⟩ = some (.int .i64 x.t.k)
  c2 : w.cell? ⟨b, o + 2, none⟩ = some (.int .i64 x.t.n)
  c3 : w.cell? ⟨b, o + 3, none⟩ = some v
theorem KFd.keep {w w' : World} {b o : Nat} {x : Kn} {v : Value} (h : KFd w b o x v) (e : w'.heap[b]? = w.heap[b]?) : KFd w' b o x v :=
  ⟨(cellEq e).trans h.c0, (cellEq e).trans h.c1, (cellEq e).trans h.c2, (cellEq e).trans h.c3⟩
/-- The list lies in memory behind a value. -/
inductive KnAt (w : World) : List Kn → Value → Prop where
  | bare (a : Option Addr) (cap : Nat) : KnAt w [] (.slice a 0 cap)
  | row (ls : List Kn) (b o cap : Nat) (vs : Nat → Value) (hb : b < w.heap.size) (hl : ls.length ≤ 9223372036854775807)
      (h0 : ∀ i, i < ls.length → KFd w b (o + i * 4) (ls.getD i Kn.dummy) (vs i))
      (h3 : ∀ i, i < ls.length → TyAt w (ls.getD i Kn.dummy).t (vs i)) : KnAt w ls (.slice (some ⟨b, o, none⟩) ls.length cap)
theorem KnAt.kept {w w' : World} {ls : List Kn} {v : Value} (h : KnAt w ls v) (hb : Below w.heap.size w w') : KnAt w' ls v := by
  cases h with
  | bare a cap => exact .bare a cap
  | row ls b o cap vs hbl hl h0 h3 =>
    exact .row ls b o cap vs (Nat.lt_of_lt_of_le hbl hb.size) hl (fun i hi => (h0 i hi).keep (hb.block b hbl)) (fun i hi => (h3 i hi).kept hb)
theorem KnAt.kid {w : World} {ls : List Kn} {v : Value} (h : KnAt w ls v) (i : Nat) (hi : i < ls.length) : ∃ b o cap vi, v = .slice (some ⟨b, o, none⟩) ls.length cap ∧ b < w.heap.size ∧ KFd w b (o + i * 4) (ls.getD i Kn.dummy) vi ∧ TyAt w (ls.getD i Kn.dummy).t vi := by
  cases h with
  | bare a cap => exact absurd hi (Nat.not_lt_zero _)
  | row ls b o cap vs hb hl h0 h3 => exact ⟨b, o, cap, vs i, rfl, hb, h0 i hi, h3 i hi⟩
theorem KnAt.slice {w : World} {ls : List Kn} {v : Value} (h : KnAt w ls v) : ∃ a cap, v = .slice a ls.length cap ∧ ls.length ≤ 9223372036854775807 := by
  cases h with
  | bare a cap => exact ⟨a, cap, rfl, Nat.zero_le _⟩
  | row ls b o cap vs hb hl h0 h3 => exact ⟨_, cap, rfl, hl⟩
theorem cellsKn : Try.prog.cellsOf 105 = 4 := by kernel_rfl
theorem cellsKnStr : Try.prog.cellsOf 9 = 1 := by kernel_rfl
theorem cellsKnTy : Try.prog.cellsOf 103 = 3 := by kernel_rfl
set_option maxRecDepth 100000 in
/-- The cells of one element that was read. -/
theorem kn_of_trod {H : Type} {enc : TypeId × Value → H} {w : World} {base : Nat} {spare : Nat → Bool} {held : Bool}
    (fuel : Nat) (cs : List Value) (x : DataW H × List MemPlace) (h : DataW.trod enc Try.prog w base spare held fuel 105 cs = some x) :
      ∃ (l : Kn) (v : Value), cs = [.string l.s, .int .i64 l.t.k, .int .i64 l.t.n, v] ∧ TyAt w l.t v ∧ l.s.size ≤ maxLen := by
  obtain ⟨xs, n, hfn, rfl, hl, hlen, hf⟩ := DataW.trod_struct Try.underlying105 h
  rw [cellsKn] at hl
  obtain ⟨c0, c1, c2, c3, rfl⟩ : ∃ c0 c1 c2 c3, cs = [c0, c1, c2, c3] := by
    match cs, hl with
    | [c0, c1, c2, c3], _ => exact ⟨c0, c1, c2, c3, rfl⟩
  obtain ⟨y0, y1, rfl⟩ : ∃ y0 y1, xs = [y0, y1] := by
    match xs, hlen with
    | [y0, y1], _ => exact ⟨y0, y1, rfl⟩
  have g0 := hf 0 _ rfl
  have g1 := hf 1 _ rfl
  simp [cellsKnStr, cellsKnTy] at g0 g1
  obtain ⟨s, e0, _, ws⟩ := DataW.trod_string Try.underlying9 g0
  obtain ⟨t, vt, e1, ht⟩ := ty_of_trod _ _ _ g1
  simp at e0 e1
  refine ⟨⟨s, t⟩, vt, ?_, ht, ws⟩
  simp [e0, e1]
theorem kns_of_trod {H : Type} {enc : TypeId × Value → H} {w : World} {base : Nat} {spare : Nat → Bool} {held : Bool} (fuel : Nat) (cs : List Value) (x : DataW H × List MemPlace) (h : DataW.trod enc Try.prog w base spare held fuel 54 cs = some x) :
    ∃ (ls : List Kn) (v : Value), cs = [v] ∧ KnAt w ls v ∧ ∀ i, i < ls.length → (ls.getD i Kn.dummy).s.size ≤ maxLen := by
  rcases DataW.trod_slice Try.underlying54 h with ⟨hc, _⟩ | ⟨a, len, cap, elems, rest, n2, hn2, hc, _, hb, hlc, hm, hel, hall, _, _⟩
  · skip
    subst hc
    exact ⟨[], _, rfl, .bare none 0, fun i hi => absurd hi (Nat.not_lt_zero _)⟩
  · skip
    subst hc
    have step : ∀ i, i < len → ∃ p : Kn × Value, w.cells? base (a.add (i * 4)) 4 = some [.string p.1.s, .int .i64 p.1.t.k, .int .i64 p.1.t.n, p.2] ∧ TyAt w p.1.t p.2 ∧ p.1.s.size ≤ maxLen := by
      intro i hi
      have h1 := hall i hi
      rw [cellsKn, List.getElem?_eq_getElem (by omega)] at h1
      rcases hcs : w.cells? base (a.add (i * 4)) 4 with _ | cs'
      · rw [hcs] at h1; simp at h1
      · rw [hcs] at h1
        obtain ⟨t, v, rfl, ht, hs⟩ := kn_of_trod n2 cs' _ h1
        exact ⟨(t, v), rfl, ht, hs⟩
    by_cases h0 : len = 0
    · subst h0
      exact ⟨[], _, rfl, .bare _ cap, fun i hi => absurd hi (Nat.not_lt_zero _)⟩
    · obtain ⟨p, hp⟩ := Go.Deep.choose_lt step
      obtain ⟨b, o, spot⟩ := a
      have hspot : spot = none := by
        have h1 := (World.cells?_some (hp 0 (by omega)).1).2.2 0 (by omega)
        simp [Addr.add] at h1
        exact World.cell?_spot h1
      subst hspot
      have key : ∀ i, i < len → ∀ j, j < 4 → w.cell? ⟨b, o + i * 4 + j, none⟩ = ([Value.string (p i).1.s, .int .i64 (p i).1.t.k, .int .i64 (p i).1.t.n, (p i).2] : List Value)[j]? := by
        intro i hi j hj
        have h1 := (World.cells?_some (hp i hi).1).2.2 j hj
        rwa [addr_add] at h1
      have hbl : b < w.heap.size := World.block_lt_of_cell? w ⟨b, o + 0 * 4 + 0, none⟩ (key 0 (by omega) 0 (by omega))
      have hg : ∀ i, i < len → ((List.range len).map fun i => (p i).1).getD i Kn.dummy = (p i).1 := by
        intro i hi
        simp [List.getD, hi]
      have e : (((List.range len).map fun i => (p i).1).length) = len := by simp
      refine ⟨((List.range len).map fun i => (p i).1), _, rfl, ?_, fun i hi => by rw [e] at hi; rw [hg i hi]; exact (hp i hi).2.2⟩
      have := KnAt.row (w := w) ((List.range len).map fun i => (p i).1) b o cap (fun i => (p i).2) hbl (by rw [e]; unfold maxLen at hm; omega)
        (fun i hi => by rw [e] at hi; rw [hg i hi]; exact ⟨key i hi 0 (by omega), key i hi 1 (by omega), key i hi 2 (by omega), key i hi 3 (by omega)⟩)
        (fun i hi => by rw [e] at hi; rw [hg i hi]; exact (hp i hi).2.1)
      rwa [e] at this
/-- How much a size takes off for each element. -/
def KnCnt (ls : List Kn) (cf : Nat → Nat) : Prop := ∀ i, i < ls.length → (ls.getD i Kn.dummy).s.size ≤ maxLen ∧ ∃ ct, Cnt (ls.getD i Kn.dummy).t ct ∧ cf i = (ls.getD i Kn.dummy).s.size + ct
theorem kn_cnt {ls : List Kn} (h : ∀ i, i < ls.length → (ls.getD i Kn.dummy).s.size ≤ maxLen) : ∃ cf, KnCnt ls cf := by
  obtain ⟨cf, hcf⟩ := Go.Deep.choose_lt (n := ls.length) (p := fun i c => Cnt (ls.getD i Kn.dummy).t c) (fun i hi => cnt_total _ _ (Nat.lt_succ_self _))
  exact ⟨fun i => (ls.getD i Kn.dummy).s.size + cf i, fun i hi => ⟨h i hi, cf i, hcf i hi, rfl⟩⟩
theorem KnCnt.ty {ls : List Kn} {cf : Nat → Nat} (h : KnCnt ls cf) (hc : ls.length + ((List.range ls.length).map cf).sum ≤ 1048576) {i : Nat} (hi : i < ls.length) : ∃ ct, Cnt (ls.getD i Kn.dummy).t ct ∧ ct ≤ 1048576 := by
  obtain ⟨_, ct, h1, h2⟩ := h i hi
  refine ⟨ct, h1, ?_⟩
  have h3 := sum_mono cf (show i + 1 ≤ ls.length from hi)
  rw [sum_succ] at h3
  omega

structure KBox (w : World) (B : Nat) (v0 v1 v2 v3 : Value) : Prop where
  c0 : w.cell? ⟨B, 0, none⟩ = some v0
  c1 : w.cell? ⟨B, 1, none⟩ = some v1
  c2 : w.cell? ⟨B, 2, none⟩ = some v2
  c3 : w.cell? ⟨B, 3, none⟩ = some v3
  sz : B < w.heap.size
theorem KBox.aside {w w' : World} {B : Nat} {v0 v1 v2 v3 : Value} (h : KBox w B v0 v1 v2 v3) (hs : w.heap.size ≤ w'.heap.size) (e : w'.heap[B]? = w.heap[B]?) : KBox w' B v0 v1 v2 v3 :=
  ⟨(cellEq e).trans h.c0, (cellEq e).trans h.c1, (cellEq e).trans h.c2, (cellEq e).trans h.c3, Nat.lt_of_lt_of_le h.sz hs⟩
theorem KBox.kept {w w' : World} {B : Nat} {v0 v1 v2 v3 : Value} (h : KBox w B v0 v1 v2 v3) (hb : Below w.heap.size w w') : KBox w' B v0 v1 v2 v3 := h.aside hb.size (hb.block B h.sz)
theorem kbox_new (w : World) (v0 v1 v2 v3 : Value) (T : TypeId) : KBox (w.alloc (.cells #[v0, v1, v2, v3] T)) w.heap.size v0 v1 v2 v3 :=
  ⟨by go_simp, by go_simp, by go_simp, by go_simp, by simp⟩

set_option maxRecDepth 100000 in
set_option maxHeartbeats 4000000 in
theorem szKnown_any (l : Kn) (ct : Nat) (vt : Value) (n : Int) (w : World) (ms : l.s.size ≤ maxLen) (hct : Cnt l.t ct) (ht : TyAt w l.t vt) (h0 : 0 ≤ n) (h1 : n ≤ 1048576) :
    Calls Try.prog 59 #[.agg #[.string l.s, .int .i64 l.t.k, .int .i64 l.t.n, vt], .int .i64 n] w (SzPost n (l.s.size + ct) w) := by
  unfold maxLen at ms
  have HT := Lib.hid ht
  have HCT := Lib.hid hct
  obtain ⟨ta, tc, rfl, _⟩ := ht.slice
  clear ht hct
  obtain ⟨W1, hW1⟩ : ∃ W, w.alloc (.cells #[.string l.s, .int .i64 l.t.k, .int .i64 l.t.n, .slice ta l.t.ks.length tc] 105) = W := ⟨_, rfl⟩
  have HBA : Hid (Below w.heap.size w W1) := Lib.hid (by rw [← hW1]; exact (Below.refl _ _).alloc (Nat.le_refl _) _)
  have HB0 : Hid (KBox W1 w.heap.size (.string l.s) (.int .i64 l.t.k) (.int .i64 l.t.n) (.slice ta l.t.ks.length tc)) := Lib.hid (by rw [← hW1]; exact kbox_new w _ _ _ _ _)
  have HW1 := Lib.hid hW1
  clear hW1
  obtain ⟨q, hq⟩ : ∃ q, l.s.size = q := ⟨_, rfl⟩
  have HQ := Lib.hid hq
  rw [hq] at ms ⊢
  by_cases hA : n < (q : Int)
  · have HP := Lib.hid (leftOf_no (l := n) (c := q + ct) (by push_cast; omega))
    have hq2 : n < (l.s.size : Int) := by omega
    have ms2 : l.s.size ≤ 9223372036854775807 := by omega
    clear hq
    (
      go_enter Try.func59, Try.ntmps59
      go_wp2_with fail
      rw [HW1.out]
      obtain ⟨b0, b1, b2, b3, bz⟩ := HB0.out
      go_wp2_with fail
      go_ret
      exact ⟨ret_i HP.out.symm, HBA.out⟩)
  have hA' : ¬ n - (l.s.size : Int) < 0 := by omega
  have ms2 : l.s.size ≤ 9223372036854775807 := by omega
  have hA0 : 0 ≤ n - (l.s.size : Int) := by omega
  have hA1 : n - (l.s.size : Int) ≤ 1048576 := by omega
  by_cases hB : (ct : Int) ≤ n - (l.s.size : Int)
  case neg =>
    have HP1 := Lib.hid (leftOf_no hB)
    have HP := Lib.hid (leftOf_no (l := n) (c := q + ct) (by push_cast; omega))
    clear hq
    (
      go_enter Try.func59, Try.ntmps59
      go_wp2_with fail
      rw [HW1.out]
      obtain ⟨b0, b1, b2, b3, bz⟩ := HB0.out
      go_wp2_with fail
      go_at_call 104
      refine (szType_any _ l.t ct _ _ _ (Nat.lt_succ_self _) HCT.out (HT.out.kept HBA.out) hA0 hA1).mono ?_
      rintro e w1 ⟨rfl, hb1⟩
      rw [HP1.out]
      have HBX1 := Lib.hid (HBA.out.trans (hb1.mono HBA.out.size))
      clear hb1 b0 b1 b2 b3 bz
      go_wp2_with fail
      go_ret
      exact ⟨ret_i HP.out.symm, HBX1.out⟩)
  have HP1 := Lib.hid (leftOf_yes hB)
  have hB' : ¬ n - (l.s.size : Int) - (ct : Int) < 0 := by omega
  have HP := Lib.hid (leftOf_yes (l := n) (c := q + ct) (by push_cast; omega))
  have HR : Hid (n - (l.s.size : Int) - (ct : Int) = n - ((q + ct : Nat) : Int)) := Lib.hid (by push_cast; omega)
  clear hq
  (
    go_enter Try.func59, Try.ntmps59
    go_wp2_with fail
    rw [HW1.out]
    obtain ⟨b0, b1, b2, b3, bz⟩ := HB0.out
    go_wp2_with fail
    go_at_call 104
    refine (szType_any _ l.t ct _ _ _ (Nat.lt_succ_self _) HCT.out (HT.out.kept HBA.out) hA0 hA1).mono ?_
    rintro e w1 ⟨rfl, hb1⟩
    rw [HP1.out]
    have HBX1 := Lib.hid (HBA.out.trans (hb1.mono HBA.out.size))
    clear hb1 b0 b1 b2 b3 bz
    go_wp2_with fail
    go_ret
    exact ⟨ret_i (by rw [HP.out, HR.out]), HBX1.out⟩)

set_option maxRecDepth 100000 in
set_option maxHeartbeats 2000000 in
theorem szKnownS_any (ls : List Kn) (c : Nat → Nat) (v : Value) (l : Int) (w : World) (hc : KnCnt ls c) (hx : KnAt w ls v) (h0 : 0 ≤ l) (h1 : l ≤ 1048576) :
    Calls Try.prog 25 #[v, .int .i64 l] w (SzPost l (ls.length + ((List.range ls.length).map c).sum) w) := by
  have HX := Lib.hid hx
  have HH : Hid (∀ i, i < ls.length → ∀ (r : Int) (vi : Value) (W : World), 0 ≤ r → r ≤ 1048576 → TyAt W (ls.getD i Kn.dummy).t vi →
      Calls Try.prog 59 #[.agg #[.string (ls.getD i Kn.dummy).s, .int .i64 (ls.getD i Kn.dummy).t.k, .int .i64 (ls.getD i Kn.dummy).t.n, vi], .int .i64 r] W (SzPost r (c i) W)) := Lib.hid (fun i hi r vi W r0 r1 ht => by
    obtain ⟨m1, ct, h2, h3⟩ := hc i hi
    rw [h3]
    exact szKnown_any _ ct vi r W m1 h2 ht r0 r1)
  obtain ⟨a, cap, rfl, hlen⟩ := hx.slice
  clear hx hc
  obtain ⟨L, hL⟩ : ∃ L, ls.length = L := ⟨_, rfl⟩
  have HL := Lib.hid hL
  rw [hL] at hlen ⊢
  clear hL
  by_cases hll : (L : Int) ≤ l
  case neg =>
    have HS := Lib.hid (leftOf_no (l := l) (c := L + ((List.range L).map c).sum) (by push_cast; omega))
    have hneg : l - (L : Int) < 0 := by omega
    go_enter Try.func25, Try.ntmps25
    go_wp2
    go_ret
    exact ⟨ret_i HS.out.symm, Below.refl _ _⟩
  have hnn : ¬ l - (L : Int) < 0 := by omega
  go_enter Try.func25, Try.ntmps25
  go_wp2
  go_loopw [1, 5] (fun lv i wr => ∃ (k : Nat) (r : Int), k ≤ L ∧ i = .int .i64 k ∧ lv = .int .i64 r ∧ 0 ≤ r ∧ r ≤ 1048576 ∧ Hid (r = l - L - ((List.range k).map c).sum) ∧ Below w.heap.size w wr) (fun _ i _ => L - (intOf i).toNat)
  case atStart => exact ⟨0, l - L, Nat.zero_le _, rfl, rfl, by omega, by omega, Lib.hid (by simp), Below.refl _ _⟩
  case round =>
    obtain ⟨k, r, hk, rfl, rfl, r0, r1, hr, hB⟩ := hrel
    have HB := Lib.hid hB
    clear hB
    by_cases hlt : k < L
    · have hki : (k : Int) < (L : Int) := by omega
      obtain ⟨b, o, cap2, vi, ex, bl, ⟨x0, x1, x2, x3⟩, hkid⟩ := (HX.out.kept HB.out).kid k (by rw [HL.out]; exact hlt)
      have ex1 : a = some ⟨b, o, none⟩ := by injection ex
      subst ex1
      clear ex
      have HKID := Lib.hid hkid
      have hsk := sum_mono c (show k + 1 ≤ L by omega)
      rw [sum_succ] at hsk
      have HSK := Lib.hid hsk
      clear hkid hsk
      by_cases hc : (c k : Int) ≤ r
      · have HP := Lib.hid (leftOf_yes hc)
        have hcn : 0 ≤ r - (c k : Int) := by omega
        go_wp2_with fail
        go_at_call 59
        refine (HH.out k (by rw [HL.out]; exact hlt) r vi _ r0 r1 HKID.out).mono ?_
        rintro e w2 ⟨rfl, hb2⟩
        rw [HP.out]
        have HB2 := Lib.hid (HB.out.trans (hb2.mono HB.out.size))
        clear hb2
        go_wp2_with fail
        go_roundw
        case rel => exact ⟨k + 1, r - c k, by omega, by go_num, rfl, hcn, by omega, Lib.hid (by rw [sum_succ, hr.out]; push_cast; omega), HB2.out⟩
        case measure => simp [intOf]; omega
      · have HP := Lib.hid (leftOf_no hc)
        have HS := Lib.hid (leftOf_no (l := l) (c := L + ((List.range L).map c).sum) (by
          have h1 := HSK.out
          have h2 := hr.out
          push_cast
          omega))
        go_wp2_with fail
        go_at_call 59
        refine (HH.out k (by rw [HL.out]; exact hlt) r vi _ r0 r1 HKID.out).mono ?_
        rintro e w2 ⟨rfl, hb2⟩
        rw [HP.out]
        have HB2 := Lib.hid (HB.out.trans (hb2.mono HB.out.size))
        clear hb2
        go_wp2_with fail
        go_ret
        exact ⟨ret_i HS.out.symm, HB2.out⟩
    · have hki : ¬ (k : Int) < (L : Int) := by omega
      have hkl : k = L := by omega
      have HS := Lib.hid (leftOf_yes (l := l) (c := L + ((List.range L).map c).sum) (by have h2 := hr.out; rw [hkl] at h2; push_cast; omega))
      have HR : Hid (r = l - ((L + ((List.range L).map c).sum : Nat) : Int)) := Lib.hid (by have h2 := hr.out; rw [hkl] at h2; push_cast; omega)
      clear hlt hkl
      go_wp2_with fail
      go_ret
      exact ⟨ret_i (by rw [HS.out, HR.out]), HB.out⟩

end Go.Proofs.Ytjciindcdcgclaa
