/-
  Changes in memory; what a change makes of a list of files; slices.IndexFunc and the method made of the program.
  The method made of the program: a change of a list of files.
-/
import Derived.Test.YtpihopmgckdigaaDoorJbc
import Derived.Test.YtpihopmgckdigaaDoorTd
import Derived.BigQuiet
import Derived.Deep.RegionHeld3
import Derived.Deep.DeepCutAuto
namespace Go.Proofs.YtpihopmgckdigaaDoor
open Go.RowKit
set_option linter.unusedVariables false
set_option linter.unusedSimpArgs false

/-- A change. -/
structure Ch where
  n : ByteArray
  f : Int
  t : Int
  i : ByteArray
def Ch.dummy : Ch := ⟨⟨#[]⟩, 0, 0, ⟨#[]⟩⟩
instance : Inhabited Ch := ⟨Ch.dummy⟩
/-- The four cells of an element. -/
structure CFd (w : World) (b o : Nat) (x : Ch) : Prop where
  c0 : w.cell? ⟨b, o, none⟩ = some (.string x.n)
  c1 : w.cell? ⟨b, o + 1, none⟩ = some (.int .i64 x.f)
  c2 : w.cell? ⟨b, o + 2, none⟩ = some (.int .i64 x.t)
  c3 : w.cell? ⟨b, o + 3, none⟩ = some (.string x.i)
theorem CFd.block {w w' : World} {b o : Nat} {x : Ch} (h : CFd w b o x) (e : w'.heap[b]? = w.heap[b]?) : CFd w' b o x :=
  ⟨(cellEq e).trans h.c0, (cellEq e).trans h.c1, (cellEq e).trans h.c2, (cellEq e).trans h.c3⟩
theorem CFd.kept {w w' : World} {b o : Nat} {x : Ch} (h : CFd w b o x) (hl : b < w.heap.size) (hb : Below w.heap.size w w') : CFd w' b o x := h.block (hb.block b hl)
/-- The list lies in memory behind a value. -/
inductive CsAt (w : World) : List Ch → Value → Prop where
  | bare (a : Option Addr) (cap : Nat) : CsAt w [] (.slice a 0 cap)
  | row (ls : List Ch) (b o cap : Nat) (hb : b < w.heap.size) (hl : ls.length ≤ 9223372036854775807)
      (h0 : ∀ i, i < ls.length → CFd w b (o + i * 4) (ls.getD i Ch.dummy)) : CsAt w ls (.slice (some ⟨b, o, none⟩) ls.length cap)
theorem CsAt.kept {w w' : World} {ls : List Ch} {v : Value} (h : CsAt w ls v) (hb : Below w.heap.size w w') : CsAt w' ls v := by
  cases h with
  | bare a cap => exact .bare a cap
  | row ls b o cap hbl hl h0 => exact .row ls b o cap (Nat.lt_of_lt_of_le hbl hb.size) hl (fun i hi => (h0 i hi).kept hbl hb)
theorem CsAt.kid {w : World} {ls : List Ch} {v : Value} (h : CsAt w ls v) (i : Nat) (hi : i < ls.length) : ∃ b o cap, v = .slice (some ⟨b, o, none⟩) ls.length cap ∧ b < w.heap.size ∧ CFd w b (o + i * 4) (ls.getD i Ch.dummy) := by
  cases h with
  | bare a cap => exact absurd hi (Nat.not_lt_zero _)
  | row ls b o cap hb hl h0 => exact ⟨b, o, cap, rfl, hb, h0 i hi⟩
theorem CsAt.slice {w : World} {ls : List Ch} {v : Value} (h : CsAt w ls v) : ∃ a cap, v = .slice a ls.length cap ∧ ls.length ≤ 9223372036854775807 := by
  cases h with
  | bare a cap => exact ⟨a, cap, rfl, Nat.zero_le _⟩
  | row ls b o cap hb hl h0 => exact ⟨_, cap, rfl, hl⟩
/-- Each name and each text that is put in is short enough for a text of the model. -/
def ChSz (ls : List Ch) : Prop := ∀ i, i < ls.length → (ls.getD i Ch.dummy).n.size ≤ maxLen ∧ (ls.getD i Ch.dummy).i.size ≤ maxLen
/-- Where a name is first found. -/
def fdI (ls : List Fl) (s : ByteArray) : Int := if ls.findIdx (fun y => decide (y.n.toList = s.toList)) < ls.length then (ls.findIdx (fun y => decide (y.n.toList = s.toList)) : Int) else -1
theorem fdI_is (ls : List Fl) (s : ByteArray) : FdR ls s (fdI ls s) := by
  unfold fdI
  by_cases hk : ls.findIdx (fun y => decide (y.n.toList = s.toList)) < ls.length
  · rw [if_pos hk]
    refine .inr ⟨_, hk, rfl, ?_, fun i hi => ?_⟩
    · have := List.findIdx_getElem (xs := ls) (p := fun y => decide (y.n.toList = s.toList)) (w := hk)
      simpa [List.getD, hk] using this
    · have := List.not_of_lt_findIdx hi
      have hil : i < ls.length := by omega
      simpa [List.getD, hil] using this
  · rw [if_neg hk]
    refine .inl ⟨rfl, fun i hi => ?_⟩
    have h1 : ls.findIdx (fun y => decide (y.n.toList = s.toList)) = ls.length := Nat.le_antisymm List.findIdx_le_length (by omega)
    have h2 := List.findIdx_eq_length.1 h1 ls[i] (List.getElem_mem hi)
    simpa [List.getD, hi] using h2
/-- A change can be made. -/
def okC (ls : List Fl) (x : Ch) : Bool := decide (0 ≤ fdI ls x.n) && (fitsB (ls.getD (fdI ls x.n).toNat Fl.dummy).t x.f x.t x.i && ftB (ap (ls.getD (fdI ls x.n).toNat Fl.dummy).t x.f x.t x.i))
/-- The files after it. -/
def upC (ls : List Fl) (x : Ch) : List Fl := ls.set (fdI ls x.n).toNat ⟨(ls.getD (fdI ls x.n).toNat Fl.dummy).n, ap (ls.getD (fdI ls x.n).toNat Fl.dummy).t x.f x.t x.i⟩
/-- The files after changes, if they can be made. -/
def rpC : List Fl → List Ch → Option (List Fl)
  | ls, [] => some ls
  | ls, x :: r => if okC ls x then rpC (upC ls x) r else none
theorem upC_len (ls : List Fl) (x : Ch) : (upC ls x).length = ls.length := by unfold upC; simp
theorem okC_no1 {ls : List Fl} {x : Ch} (h : fdI ls x.n = -1) : okC ls x = false := by unfold okC; rw [h]; rfl
theorem okC_no2 {ls : List Fl} {x : Ch} {k : Nat} (h : fdI ls x.n = k) (hf : fitsB (ls.getD k Fl.dummy).t x.f x.t x.i = false) : okC ls x = false := by
  unfold okC; rw [h, Int.toNat_natCast, hf, Bool.false_and, Bool.and_false]
theorem okC_is {ls : List Fl} {x : Ch} {k : Nat} (h : fdI ls x.n = k) (hf : fitsB (ls.getD k Fl.dummy).t x.f x.t x.i = true) : okC ls x = ftB (ap (ls.getD k Fl.dummy).t x.f x.t x.i) := by
  unfold okC; rw [h, Int.toNat_natCast, hf, Bool.true_and, decide_eq_true (by omega : (0 : Int) ≤ (k : Int)), Bool.true_and]
theorem upC_is {ls : List Fl} {x : Ch} {k : Nat} (h : fdI ls x.n = k) : upC ls x = ls.set k ⟨(ls.getD k Fl.dummy).n, ap (ls.getD k Fl.dummy).t x.f x.t x.i⟩ := by
  unfold upC; rw [h, Int.toNat_natCast]
theorem ftB_size {s : ByteArray} (h : ftB s = true) : s.size ≤ 2000 := by
  unfold ftB at h
  rw [Bool.and_eq_true] at h
  exact tv_size h.1
theorem upC_sz {ls : List Fl} {x : Ch} (hz : FlSz ls) (h : okC ls x = true) : FlSz (upC ls x) := by
  intro i hi
  rw [upC_len] at hi
  have hz2 := hz
  unfold okC at h
  simp only [Bool.and_eq_true, decide_eq_true_eq] at h
  have hs := ftB_size h.2.2
  unfold upC
  by_cases hk : i = (fdI ls x.n).toNat
  · subst hk
    have e : (ls.set (fdI ls x.n).toNat ⟨(ls.getD (fdI ls x.n).toNat Fl.dummy).n, ap (ls.getD (fdI ls x.n).toNat Fl.dummy).t x.f x.t x.i⟩).getD (fdI ls x.n).toNat Fl.dummy = ⟨(ls.getD (fdI ls x.n).toNat Fl.dummy).n, ap (ls.getD (fdI ls x.n).toNat Fl.dummy).t x.f x.t x.i⟩ := by simp [List.getD, hi]
    rw [e]
    exact ⟨(hz _ hi).1, Nat.le_trans hs (by unfold maxLen; omega)⟩
  · have e : (ls.set (fdI ls x.n).toNat ⟨(ls.getD (fdI ls x.n).toNat Fl.dummy).n, ap (ls.getD (fdI ls x.n).toNat Fl.dummy).t x.f x.t x.i⟩).getD i Fl.dummy = ls.getD i Fl.dummy := by simp [List.getD, List.getElem?_set_ne (Ne.symm hk)]
    rw [e]
    exact hz i hi
theorem ret_bc {a b : Bool} (h : a = b) : Ending.returned (.bool a) = .returned (.bool b) := by rw [h]
set_option maxRecDepth 100000 in
set_option maxHeartbeats 1000000 in
theorem made1_any (y : Fl) (s : ByteArray) (T : Nat) (w : World) (hT : w.cell? ⟨T, 0, none⟩ = some (.string s)) (hTw : T < w.heap.size) :
    Calls Tryd.prog 72 #[.agg #[.string y.n, .string y.t], .pointer (some ⟨T, 0, none⟩)] w fun e w' => e = .returned (.bool (y.n.toList == s.toList)) ∧ Below w.heap.size w w' := by
  go_enter Tryd.func72, Tryd.ntmps72
  go_wp2
  go_ret
  exact ⟨rfl, (Below.refl _ _).alloc (Nat.le_refl _) _⟩
set_option maxRecDepth 100000 in
set_option maxHeartbeats 1000000 in
theorem indexFunc_any (ls : List Fl) (hl : ls.length ≤ 2000000) (v : Value) (s : ByteArray) (r : Int) (T : Nat) (w : World) (hr : FdR ls s r) (h : FsAt w ls v) (hT : w.cell? ⟨T, 0, none⟩ = some (.string s)) (hTw : T < w.heap.size) :
    Calls Tryd.prog 71 #[v, .func (.func 72) #[] #[.pointer (some ⟨T, 0, none⟩)]] w fun e w' => e = .returned (.int .i64 r) ∧ Below w.heap.size w w' := by
  have H := Lib.hid h
  have HR := Lib.hid hr
  have HT := Lib.hid hT
  obtain ⟨a, c, rfl, _⟩ := h.slice
  clear h hr hT
  obtain ⟨L, hL⟩ : ∃ L, ls.length = L := ⟨_, rfl⟩
  have HL := Lib.hid hL
  rw [hL] at hl ⊢
  clear hL
  go_enter Tryd.func71, Tryd.ntmps71
  go_wp2_with fail
  go_loopw [8] (fun i wr => ∃ k : Nat, k ≤ L ∧ i = .int .i64 k ∧ Hid (Below w.heap.size w wr) ∧ Hid (∀ i, i < k → ¬ (ls.getD i Fl.dummy).n.toList = s.toList)) (fun i _ => L - (intOf i).toNat)
  case atStart => exact ⟨0, Nat.zero_le _, rfl, Lib.hid (Below.refl _ _), Lib.hid (fun i hi => absurd hi (Nat.not_lt_zero _))⟩
  case round =>
    obtain ⟨k, hk, rfl, HB, hpre⟩ := hrel
    by_cases hlt : k < L
    · obtain ⟨b1, o1, d1, e1, l1, ⟨x0, x1⟩⟩ := (H.out.kept HB.out).kid k (by rw [HL.out]; exact hlt)
      have f1 : a = some ⟨b1, o1, none⟩ := by injection e1
      subst f1
      clear e1
      have hki : (k : Int) < (L : Int) := by omega
      have HT2 := Lib.hid ((HB.out.cell (p := ⟨T, 0, none⟩) hTw).trans HT.out)
      have HTW : Hid (T < wr.heap.size) := Lib.hid (Nat.lt_of_lt_of_le hTw HB.out.size)
      obtain ⟨y, hy⟩ : ∃ y, ls.getD k Fl.dummy = y := ⟨_, rfl⟩
      have HY := Lib.hid hy
      rw [hy] at x0 x1
      clear hy
      by_cases hs : y.n.toList = s.toList
      · have hsb : (y.n.toList == s.toList) = true := by rw [beq_iff_eq]; exact hs
        have HSB := Lib.hid hsb
        have HRK : Hid (r = k) := Lib.hid (fdR_uniq HR.out (show FdR ls s k from .inr ⟨k, by rw [HL.out]; exact hlt, rfl, by rw [HY.out]; exact hs, hpre.out⟩))
        clear hpre hs hsb
        go_wp2_with fail
        go_at_call 72
        refine (made1_any y s T _ HT2.out HTW.out).mono ?_
        rintro e w2 ⟨rfl, hb2⟩
        rw [HSB.out]
        have HB2 := Lib.hid (HB.out.trans (hb2.mono HB.out.size))
        clear hb2
        go_wp2_with fail
        go_ret
        exact ⟨by rw [HRK.out]; rfl, HB2.out⟩
      · have hsb : (y.n.toList == s.toList) = false := by rw [beq_eq_false_iff_ne]; exact hs
        have HSB := Lib.hid hsb
        have HP : Hid (∀ i, i < k + 1 → ¬ (ls.getD i Fl.dummy).n.toList = s.toList) := Lib.hid (fun i hi => by
          rcases Nat.lt_or_ge i k with h | h
          · exact hpre.out i h
          · have hij : i = k := by omega
            rw [hij, HY.out]; exact hs)
        clear hpre hs hsb
        go_wp2_with fail
        go_at_call 72
        refine (made1_any y s T _ HT2.out HTW.out).mono ?_
        rintro e w2 ⟨rfl, hb2⟩
        rw [HSB.out]
        have HB2 := Lib.hid (HB.out.trans (hb2.mono HB.out.size))
        clear hb2
        go_wp2_with fail
        go_roundw
        case rel => exact ⟨k + 1, by omega, by go_num, HB2, HP⟩
        case measure => simp [intOf]; omega
    · have hki : ¬ (k : Int) < (L : Int) := by omega
      have HRK : Hid (r = -1) := Lib.hid (fdR_uniq HR.out (show FdR ls s (-1) from .inl ⟨rfl, fun i hi => hpre.out i (by rw [HL.out] at hi; omega)⟩))
      clear hpre hlt
      go_wp2_with fail
      go_ret
      exact ⟨by rw [HRK.out]; rfl, HB.out⟩
end Go.Proofs.YtpihopmgckdigaaDoor

namespace Go.Proofs.YtpihopmgckdigaaDoor
open Go.RowKit
set_option linter.unusedVariables false
set_option linter.unusedSimpArgs false

/-- The variable in which a change lies. -/
structure BxC (w : World) (T : Nat) (n : ByteArray) (f t : Int) (i : ByteArray) : Prop where
  c0 : w.cell? ⟨T, 0, none⟩ = some (.string n)
  c1 : w.cell? ⟨T, 1, none⟩ = some (.int .i64 f)
  c2 : w.cell? ⟨T, 2, none⟩ = some (.int .i64 t)
  c3 : w.cell? ⟨T, 3, none⟩ = some (.string i)
  f0 : w.frozen? ⟨T, 0, none⟩ = false
  f1 : w.frozen? ⟨T, 1, none⟩ = false
  f2 : w.frozen? ⟨T, 2, none⟩ = false
  f3 : w.frozen? ⟨T, 3, none⟩ = false
  sz : T < w.heap.size
theorem BxC.block {w w' : World} {T : Nat} {n : ByteArray} {f t : Int} {i : ByteArray} (h : BxC w T n f t i) (e : w'.heap[T]? = w.heap[T]?) (hs : w.heap.size ≤ w'.heap.size) : BxC w' T n f t i :=
  ⟨(cellEq e).trans h.c0, (cellEq e).trans h.c1, (cellEq e).trans h.c2, (cellEq e).trans h.c3, (frozenEq e).trans h.f0, (frozenEq e).trans h.f1, (frozenEq e).trans h.f2, (frozenEq e).trans h.f3, Nat.lt_of_lt_of_le h.sz hs⟩
theorem BxC.kept {w w' : World} {T : Nat} {n : ByteArray} {f t : Int} {i : ByteArray} (h : BxC w T n f t i) (hb : Below w.heap.size w w') : BxC w' T n f t i := h.block (hb.block T h.sz) hb.size
theorem BxC.inside {w w' : World} {T lo hi : Nat} {n : ByteArray} {f t : Int} {i : ByteArray} (h : BxC w T n f t i) (hI : Inside lo hi w w') (hd : T < lo ∨ hi ≤ T) : BxC w' T n f t i := h.block (hI.block T h.sz hd) hI.size
theorem BxC.new (w : World) (n : ByteArray) (f t : Int) (i : ByteArray) : BxC (w.alloc (.cells #[.string n, .int .i64 f, .int .i64 t, .string i] 56)) w.heap.size n f t i := by
  have h := World.alloc_heap_new w (.cells #[.string n, .int .i64 f, .int .i64 t, .string i] 56)
  refine ⟨?_, ?_, ?_, ?_, ?_, ?_, ?_, ?_, by simp⟩
  all_goals first | (simp only [World.cell?, h]; rfl) | (simp only [World.frozen?, h]; rfl)
theorem below_set4 {B T : Nat} {w w1 : World} (h : Below B w w1) (hT : B ≤ T) (a b c d : Value) : Below B w ((((w1.setCell ⟨T, 0, none⟩ a).setCell ⟨T, 1, none⟩ b).setCell ⟨T, 2, none⟩ c).setCell ⟨T, 3, none⟩ d) :=
  (((h.setCell (p := ⟨T, 0, none⟩) hT _).setCell (p := ⟨T, 1, none⟩) hT _).setCell (p := ⟨T, 2, none⟩) hT _).setCell (p := ⟨T, 3, none⟩) hT _
theorem inside_set4 (w : World) (T : Nat) (a b c d : Value) : Inside T (T + 1) w ((((w.setCell ⟨T, 0, none⟩ a).setCell ⟨T, 1, none⟩ b).setCell ⟨T, 2, none⟩ c).setCell ⟨T, 3, none⟩ d) :=
  (((Inside.set w 0 a (Nat.le_refl _) (Nat.lt_succ_self _)).trans (Inside.set _ 1 b (Nat.le_refl _) (Nat.lt_succ_self _))).trans (Inside.set _ 2 c (Nat.le_refl _) (Nat.lt_succ_self _))).trans (Inside.set _ 3 d (Nat.le_refl _) (Nat.lt_succ_self _))
theorem cellsF_set {ls : List Fl} {k : Nat} (hk : k < ls.length) (s : ByteArray) : (cellsF ls).set (k * 2 + 1) (.string s) = cellsF (ls.set k ⟨(ls.getD k Fl.dummy).n, s⟩) := by
  refine cellsF_of (by rw [List.length_set, cellsF_len, List.length_set]) (fun i hi => ?_) (fun i hi => ?_)
  · rw [List.length_set] at hi
    rw [List.getElem?_set_ne (by omega), (cellsF_at ls i hi).1]
    by_cases e : i = k
    · subst e; simp [List.getD, hi]
    · simp [List.getD, List.getElem?_set_ne (Ne.symm e)]
  · rw [List.length_set] at hi
    by_cases e : i = k
    · subst e
      rw [List.getElem?_set_self (by rw [cellsF_len]; omega)]
      simp [List.getD, hi]
    · rw [List.getElem?_set_ne (by omega), (cellsF_at ls i hi).2]
      simp [List.getD, List.getElem?_set_ne (Ne.symm e)]
theorem FO.put {w : World} {lo hi g c L k : Nat} {ls : List Fl} (h : FO w lo hi (.slice (some ⟨g, 0, none⟩) L c) ls) (hL : ls.length = L) (hk : k < L) (s : ByteArray) :
    FO (w.setCell ⟨g, k * 2 + 1, none⟩ (.string s)) lo hi (.slice (some ⟨g, 0, none⟩) L c) (ls.set k ⟨(ls.getD k Fl.dummy).n, s⟩) := by
  subst hL
  have h1 := OB.store h (k * 2 + 1) (.string s)
  rw [cellsF_set hk] at h1
  unfold FO
  rw [List.length_set]
  exact h1
theorem FO.cellk {w : World} {lo hi g c L k : Nat} {ls : List Fl} (h : FO w lo hi (.slice (some ⟨g, 0, none⟩) L c) ls) (hL : ls.length = L) (hk : k < L) :
    w.cell? ⟨g, k * 2, none⟩ = some (.string (ls.getD k Fl.dummy).n) ∧ w.cell? ⟨g, k * 2 + 1, none⟩ = some (.string (ls.getD k Fl.dummy).t) ∧ w.frozen? ⟨g, k * 2 + 1, none⟩ = false := by
  subst hL
  exact ⟨(h.own.cellAt _ (by omega)).trans (cellsF_at ls k hk).1, (h.own.cellAt _ (by omega)).trans (cellsF_at ls k hk).2, h.own.frozenAt _⟩
set_option maxRecDepth 100000 in
set_option maxHeartbeats 2000000 in
/-- slices.Clone: the copy lies in one block. -/
theorem cloneF_pin (ls : List Fl) (L : Nat) (hL : ls.length = L) (hl : L ≤ 2000000) (g c : Nat) (w : World) (h : FsAt w ls (.slice (some ⟨g, 0, none⟩) L c)) :
    Calls Tryd.prog 47 #[.slice (some ⟨g, 0, none⟩) L c] w fun e w' => ∃ q fc, e = .returned (.slice (some ⟨q, 0, none⟩) L fc) ∧ FO w' q (q + 1) (.slice (some ⟨q, 0, none⟩) L fc) ls ∧ w.heap.size ≤ q ∧ q < w'.heap.size ∧ Below w.heap.size w w' := by
  have HN : Hid (News ls g w) := Lib.hid (news_at h hL)
  have HL := Lib.hid hL
  have HCL : Hid ((cellsF ls).length = L * 2) := Lib.hid (by rw [cellsF_len, hL])
  have q22 : ∀ (w : World) (a : Option Addr) (n c n' c' : Nat), (binOp .eql 23 (.slice a n c) (.slice none n' c')).run Tryd.prog w = .ok (.bool a.isNone) w := fun w a n c n' c' => Lib.run_eql_slice_nil w _ _ a n c n' c' Tryd.underlying23
  obtain ⟨i0, hi, hz0, hz1, hz2⟩ := info_parts Tryd.infoFile
  clear h hL
  go_enter Tryd.func47, Tryd.ntmps47
  go_wp2_with (at_builtin; refine wpList_append_own _ rfl _ _ 23 rfl w.heap.size 66 i0 _ 2 32 Tryd.underlying23 hi hz0 hz1 hz2 rfl (by omega) (.slice (some ⟨w.heap.size, 0, none⟩) 0 0) 0 [] rfl (litO w (Nat.le_refl _)) ⟨g, 0, none⟩ L c (cellsF ls) rfl HCL.out (fun j u hj => Lib.cell?_alloc_some _ (HN.out j u hj)) cellsF_one (by unfold maxLen; omega) (by omega) (by simp) ?_; intro v' w1 hown hgrow hnil)
  have hnn := not_nil hnil rfl
  have hown2 : w1.ownsRow w.heap.size 66 2 v' L (cellsF ls) := by simpa using hown
  obtain ⟨q, fc, rfl, hO, h1, h2⟩ := own_pin hown2 hnn
  have HO := Lib.hid hO
  have HZ := Lib.hid (And.intro h1 h2)
  have HB : Hid (Below w.heap.size w w1) := Lib.hid (((Below.refl _ w).alloc (Nat.le_refl _) _).grown hgrow (by simp) (by intro k hk; simp [Value.ownBlock] at hk; omega))
  clear hown hown2 hgrow hnil hO hnn h1 h2
  go_wp2_with fail
  go_ret
  exact ⟨q, fc, rfl, by unfold FO; rw [HL.out]; exact HO.out, HZ.out.1, HZ.out.2, HB.out⟩
/-- What a change returns. -/
def MdPost (ls : List Fl) (x : Ch) (w : World) (e : Ending) (w' : World) : Prop :=
  ((okC ls x = false ∧ e = .returned (.tuple #[.slice none 0 0, .agg #[.string ⟨#[]⟩, .int .i64 0, .int .i64 0, .string ⟨#[]⟩], .bool false])) ∨
    (okC ls x = true ∧ ∃ g c bf bt bi, e = .returned (.tuple #[.slice (some ⟨g, 0, none⟩) ls.length c, .agg #[.string x.n, .int .i64 bf, .int .i64 bt, .string bi], .bool true]) ∧ FO w' g (g + 1) (.slice (some ⟨g, 0, none⟩) ls.length c) (upC ls x) ∧ w.heap.size ≤ g ∧ g < w'.heap.size)) ∧ Below w.heap.size w w'
set_option maxRecDepth 100000 in
set_option maxHeartbeats 1000000 in
theorem made_none (ls : List Fl) (L : Nat) (hL : ls.length = L) (hl : L ≤ 2000000) (hz : FlSz ls) (x : Ch) (hxn : x.n.size ≤ maxLen) (hxi : x.i.size ≤ maxLen) (hr : fdI ls x.n = -1) (g c : Nat) (w : World) (h : FsAt w ls (.slice (some ⟨g, 0, none⟩) L c)) :
    Calls Tryd.prog 48 #[.agg #[.string x.n, .int .i64 x.f, .int .i64 x.t, .string x.i], .slice (some ⟨g, 0, none⟩) L c] w (MdPost ls x w) := by
  have hA := ((Below.refl w.heap.size w).alloc (Nat.le_refl _) (.cells #[.string x.n, .int .i64 x.f, .int .i64 x.t, .string x.i] 56)).alloc (by rw [World.size_alloc]; omega) (.cells #[.string ⟨#[]⟩, .int .i64 0, .int .i64 0, .string ⟨#[]⟩] 56)
  have HB1 := Lib.hid hA
  have HF := Lib.hid (h.kept hA)
  have HX1 := Lib.hid ((BxC.new w x.n x.f x.t x.i).kept ((Below.refl _ _).alloc (Nat.le_refl _) (.cells #[.string ⟨#[]⟩, .int .i64 0, .int .i64 0, .string ⟨#[]⟩] 56)))
  have hX2 := BxC.new (w.alloc (.cells #[.string x.n, .int .i64 x.f, .int .i64 x.t, .string x.i] 56)) ⟨#[]⟩ 0 0 ⟨#[]⟩
  rw [World.size_alloc] at hX2
  have HX2 := Lib.hid hX2
  have HL := Lib.hid hL
  have HLB : Hid (ls.length ≤ 2000000) := Lib.hid (by rw [hL]; omega)
  have HZ : Hid (FlSz ls) := Lib.hid hz
  have HXN := Lib.hid hxn
  have HXI := Lib.hid hxi
  have HR : Hid (FdR ls x.n (-1)) := Lib.hid (by rw [← hr]; exact fdI_is ls x.n)
  have HOK : Hid (okC ls x = false) := Lib.hid (okC_no1 hr)
  clear h hA hX2 hz hL hr
  go_enter Tryd.func48, Tryd.ntmps48
  go_wp2_with fail
  go_at_call 71
  refine (indexFunc_any ls HLB.out _ x.n (-1) _ _ HR.out HF.out HX1.out.c0 HX1.out.sz).mono ?_
  rintro e w1 ⟨rfl, hb1⟩
  have HB2 := Lib.hid (HB1.out.trans (hb1.mono HB1.out.size))
  have HX11 := Lib.hid (HX1.out.kept hb1)
  have HX21 := Lib.hid (HX2.out.kept hb1)
  have HF1 := Lib.hid (HF.out.kept hb1)
  clear hb1
  obtain ⟨t0, t1, t2, t3, g0, g1, g2, g3, tz⟩ := HX21.out
  go_wp2_with fail
  exact bodyPost_ret (v := .tuple #[.slice none 0 0, .agg #[.string ⟨#[]⟩, .int .i64 0, .int .i64 0, .string ⟨#[]⟩], .bool false]) (by simp [results, Tryd.results48, go_sem, t0, t1, t2, t3]) rfl ⟨.inl ⟨HOK.out, rfl⟩, below_set4 HB2.out (Nat.le_succ _) _ _ _ _⟩
theorem FsAt.kidL {w : World} {ls : List Fl} {v : Value} {L : Nat} (h : FsAt w ls v) (k : Nat) (hL : ls.length = L) (hk : k < L) :
    ∃ b o cap, v = .slice (some ⟨b, o, none⟩) L cap ∧ b < w.heap.size ∧ w.cell? ⟨b, o + k * 2, none⟩ = some (.string (ls.getD k Fl.dummy).n) ∧ w.cell? ⟨b, o + k * 2 + 1, none⟩ = some (.string (ls.getD k Fl.dummy).t) := by
  subst hL
  obtain ⟨b, o, cap, e, l, ⟨x0, x1⟩⟩ := h.kid k hk
  exact ⟨b, o, cap, e, l, x0, x1⟩
set_option maxRecDepth 100000 in
set_option maxHeartbeats 1000000 in
theorem made_unfit (ls : List Fl) (L : Nat) (hL : ls.length = L) (hl : L ≤ 2000000) (hz : FlSz ls) (x : Ch) (hxn : x.n.size ≤ maxLen) (hxi : x.i.size ≤ maxLen) (k : Nat) (hr : fdI ls x.n = k) (hk : k < L) (y : Fl) (hy : ls.getD k Fl.dummy = y) (hf : fitsB y.t x.f x.t x.i = false) (g c : Nat) (w : World) (h : FsAt w ls (.slice (some ⟨g, 0, none⟩) L c)) :
    Calls Tryd.prog 48 #[.agg #[.string x.n, .int .i64 x.f, .int .i64 x.t, .string x.i], .slice (some ⟨g, 0, none⟩) L c] w (MdPost ls x w) := by
  have hA := ((Below.refl w.heap.size w).alloc (Nat.le_refl _) (.cells #[.string x.n, .int .i64 x.f, .int .i64 x.t, .string x.i] 56)).alloc (by rw [World.size_alloc]; omega) (.cells #[.string ⟨#[]⟩, .int .i64 0, .int .i64 0, .string ⟨#[]⟩] 56)
  have HB1 := Lib.hid hA
  have HF := Lib.hid (h.kept hA)
  have HX1 := Lib.hid ((BxC.new w x.n x.f x.t x.i).kept ((Below.refl _ _).alloc (Nat.le_refl _) (.cells #[.string ⟨#[]⟩, .int .i64 0, .int .i64 0, .string ⟨#[]⟩] 56)))
  have hX2 := BxC.new (w.alloc (.cells #[.string x.n, .int .i64 x.f, .int .i64 x.t, .string x.i] 56)) ⟨#[]⟩ 0 0 ⟨#[]⟩
  rw [World.size_alloc] at hX2
  have HX2 := Lib.hid hX2
  have HL := Lib.hid hL
  have HLB : Hid (ls.length ≤ 2000000) := Lib.hid (by rw [hL]; omega)
  have HZ : Hid (FlSz ls) := Lib.hid hz
  have HXN := Lib.hid hxn
  have HXI := Lib.hid hxi
  have HR : Hid (FdR ls x.n k) := Lib.hid (by rw [← hr]; exact fdI_is ls x.n)
  have HY := Lib.hid hy
  have HYS : Hid (y.t.size ≤ maxLen) := Lib.hid (by rw [← hy]; exact (hz k (by rw [hL]; exact hk)).2)
  have HFB := Lib.hid hf
  have HOK : Hid (okC ls x = false) := Lib.hid (okC_no2 hr (by rw [hy]; exact hf))
  clear h hA hX2 hz hL hr hf hy
  go_enter Tryd.func48, Tryd.ntmps48
  go_wp2_with fail
  go_at_call 71
  refine (indexFunc_any ls HLB.out _ x.n ((k : Nat)) _ _ HR.out HF.out HX1.out.c0 HX1.out.sz).mono ?_
  rintro e w1 ⟨rfl, hb1⟩
  have HB2 := Lib.hid (HB1.out.trans (hb1.mono HB1.out.size))
  have HX11 := Lib.hid (HX1.out.kept hb1)
  have HX21 := Lib.hid (HX2.out.kept hb1)
  have HF1 := Lib.hid (HF.out.kept hb1)
  clear hb1
  obtain ⟨bb, oo, cc, ex, lb, x0, x1⟩ := FsAt.kidL HF1.out k HL.out hk
  have f1 : bb = g ∧ oo = 0 := by injection ex with e1 e2 e3; injection e1 with e1; injection e1 with e1 e2; exact ⟨e1.symm, e2.symm⟩
  obtain ⟨rfl, rfl⟩ := f1
  obtain ⟨p0, p1, p2, p3, _, _, _, _, pz⟩ := HX11.out
  rw [HY.out, Nat.zero_add] at x0 x1
  have hki : (k : Int) < (L : Int) := by omega
  have hkn : ¬ (k : Int) < 0 := by omega
  clear ex
  go_wp2_with fail
  go_at_call 73
  refine (applyEdit_impl_no y.t x.f x.t x.i HFB.out HYS.out HXI.out _).mono ?_
  rintro e w2 ⟨rfl, hb2⟩
  have HB3 := Lib.hid (HB2.out.trans (hb2.mono HB2.out.size))
  have HX12 := Lib.hid (HX11.out.kept hb2)
  have HX22 := Lib.hid (HX21.out.kept hb2)
  have HF2 := Lib.hid (HF1.out.kept hb2)
  clear hb2 p0 p1 p2 p3 x0 x1
  obtain ⟨t0, t1, t2, t3, g0, g1, g2, g3, tz⟩ := HX22.out
  go_wp2_with fail
  exact bodyPost_ret (v := .tuple #[.slice none 0 0, .agg #[.string ⟨#[]⟩, .int .i64 0, .int .i64 0, .string ⟨#[]⟩], .bool false]) (by simp [results, Tryd.results48, go_sem, t0, t1, t2, t3]) rfl ⟨.inl ⟨HOK.out, rfl⟩, below_set4 HB3.out (Nat.le_succ _) _ _ _ _⟩
theorem ap_size {s : ByteArray} {f t : Int} {i : ByteArray} (h : fitsB s f t i = true) : (ap s f t i).size ≤ maxLen := by
  obtain ⟨hv1, hv2, h0, h1, h2, h3⟩ := fitsB_iff.mp h
  have hs := tv_size hv1
  have hi := tv_size hv2
  unfold ap maxLen
  rw [ByteArray.size_append, ByteArray.size_append, ByteArray.size_extract, ByteArray.size_extract]
  omega
set_option maxRecDepth 100000 in
set_option maxHeartbeats 1000000 in
theorem made_untext (ls : List Fl) (L : Nat) (hL : ls.length = L) (hl : L ≤ 2000000) (hz : FlSz ls) (x : Ch) (hxn : x.n.size ≤ maxLen) (hxi : x.i.size ≤ maxLen) (k : Nat) (hr : fdI ls x.n = k) (hk : k < L) (y : Fl) (hy : ls.getD k Fl.dummy = y) (hf : fitsB y.t x.f x.t x.i = true) (ht : ftB (ap y.t x.f x.t x.i) = false) (g c : Nat) (w : World) (h : FsAt w ls (.slice (some ⟨g, 0, none⟩) L c)) :
    Calls Tryd.prog 48 #[.agg #[.string x.n, .int .i64 x.f, .int .i64 x.t, .string x.i], .slice (some ⟨g, 0, none⟩) L c] w (MdPost ls x w) := by
  have hA := ((Below.refl w.heap.size w).alloc (Nat.le_refl _) (.cells #[.string x.n, .int .i64 x.f, .int .i64 x.t, .string x.i] 56)).alloc (by rw [World.size_alloc]; omega) (.cells #[.string ⟨#[]⟩, .int .i64 0, .int .i64 0, .string ⟨#[]⟩] 56)
  have HB1 := Lib.hid hA
  have HF := Lib.hid (h.kept hA)
  have HX1 := Lib.hid ((BxC.new w x.n x.f x.t x.i).kept ((Below.refl _ _).alloc (Nat.le_refl _) (.cells #[.string ⟨#[]⟩, .int .i64 0, .int .i64 0, .string ⟨#[]⟩] 56)))
  have hX2 := BxC.new (w.alloc (.cells #[.string x.n, .int .i64 x.f, .int .i64 x.t, .string x.i] 56)) ⟨#[]⟩ 0 0 ⟨#[]⟩
  rw [World.size_alloc] at hX2
  have HX2 := Lib.hid hX2
  have HL := Lib.hid hL
  have HLB : Hid (ls.length ≤ 2000000) := Lib.hid (by rw [hL]; omega)
  have HZ : Hid (FlSz ls) := Lib.hid hz
  have HXN := Lib.hid hxn
  have HXI := Lib.hid hxi
  have HR : Hid (FdR ls x.n k) := Lib.hid (by rw [← hr]; exact fdI_is ls x.n)
  have HY := Lib.hid hy
  have HYS : Hid (y.t.size ≤ maxLen) := Lib.hid (by rw [← hy]; exact (hz k (by rw [hL]; exact hk)).2)
  have HFB := Lib.hid hf
  obtain ⟨s2, hs2⟩ : ∃ s2, ap y.t x.f x.t x.i = s2 := ⟨_, rfl⟩
  have HS2 := Lib.hid hs2
  have HSZ : Hid (s2.size ≤ maxLen) := Lib.hid (by rw [← hs2]; exact ap_size hf)
  have HOK : Hid (okC ls x = false) := Lib.hid (by rw [okC_is hr (by rw [hy]; exact hf), hy]; exact ht)
  have HFT : Hid (ftB s2 = false) := Lib.hid (by rw [← hs2]; exact ht)
  clear h hA hX2 hz hL hr hf hy ht hs2
  go_enter Tryd.func48, Tryd.ntmps48
  go_wp2_with fail
  go_at_call 71
  refine (indexFunc_any ls HLB.out _ x.n ((k : Nat)) _ _ HR.out HF.out HX1.out.c0 HX1.out.sz).mono ?_
  rintro e w1 ⟨rfl, hb1⟩
  have HB2 := Lib.hid (HB1.out.trans (hb1.mono HB1.out.size))
  have HX11 := Lib.hid (HX1.out.kept hb1)
  have HX21 := Lib.hid (HX2.out.kept hb1)
  have HF1 := Lib.hid (HF.out.kept hb1)
  clear hb1
  obtain ⟨bb, oo, cc, ex, lb, x0, x1⟩ := FsAt.kidL HF1.out k HL.out hk
  have f1 : bb = g ∧ oo = 0 := by injection ex with e1 e2 e3; injection e1 with e1; injection e1 with e1 e2; exact ⟨e1.symm, e2.symm⟩
  obtain ⟨rfl, rfl⟩ := f1
  obtain ⟨p0, p1, p2, p3, _, _, _, _, pz⟩ := HX11.out
  rw [HY.out, Nat.zero_add] at x0 x1
  have hki : (k : Int) < (L : Int) := by omega
  have hkn : ¬ (k : Int) < 0 := by omega
  clear ex
  go_wp2_with fail
  go_at_call 73
  refine (applyEdit_impl_yes y.t x.f x.t x.i HFB.out _).mono ?_
  rintro e w2 ⟨rfl, hb2⟩
  have HB3 := Lib.hid (HB2.out.trans (hb2.mono HB2.out.size))
  have HX12 := Lib.hid (HX11.out.kept hb2)
  have HX22 := Lib.hid (HX21.out.kept hb2)
  have HF2 := Lib.hid (HF1.out.kept hb2)
  clear hb2 p0 p1 p2 p3 x0 x1
  rw [HS2.out]
  go_wp2_with fail
  go_at_call 53
  refine (isFileText_any s2 HSZ.out _).mono ?_
  rintro e w3 ⟨rfl, hb3⟩
  rw [HFT.out]
  have HB4 := Lib.hid (HB3.out.trans (hb3.mono HB3.out.size))
  have HX13 := Lib.hid (HX12.out.kept hb3)
  have HX23 := Lib.hid (HX22.out.kept hb3)
  have HF3 := Lib.hid (HF2.out.kept hb3)
  clear hb3
  obtain ⟨t0, t1, t2, t3, g0, g1, g2, g3, tz⟩ := HX23.out
  go_wp2_with fail
  exact bodyPost_ret (v := .tuple #[.slice none 0 0, .agg #[.string ⟨#[]⟩, .int .i64 0, .int .i64 0, .string ⟨#[]⟩], .bool false]) (by simp [results, Tryd.results48, go_sem, t0, t1, t2, t3]) rfl ⟨.inl ⟨HOK.out, rfl⟩, below_set4 HB4.out (Nat.le_succ _) _ _ _ _⟩
set_option maxRecDepth 100000 in
set_option maxHeartbeats 1000000 in
theorem made_yes (ls : List Fl) (L : Nat) (hL : ls.length = L) (hl : L ≤ 2000000) (hz : FlSz ls) (x : Ch) (hxn : x.n.size ≤ maxLen) (hxi : x.i.size ≤ maxLen) (k : Nat) (hr : fdI ls x.n = k) (hk : k < L) (y : Fl) (hy : ls.getD k Fl.dummy = y) (hf : fitsB y.t x.f x.t x.i = true) (ht : ftB (ap y.t x.f x.t x.i) = true) (g c : Nat) (w : World) (h : FsAt w ls (.slice (some ⟨g, 0, none⟩) L c)) :
    Calls Tryd.prog 48 #[.agg #[.string x.n, .int .i64 x.f, .int .i64 x.t, .string x.i], .slice (some ⟨g, 0, none⟩) L c] w (MdPost ls x w) := by
  have hA := ((Below.refl w.heap.size w).alloc (Nat.le_refl _) (.cells #[.string x.n, .int .i64 x.f, .int .i64 x.t, .string x.i] 56)).alloc (by rw [World.size_alloc]; omega) (.cells #[.string ⟨#[]⟩, .int .i64 0, .int .i64 0, .string ⟨#[]⟩] 56)
  have HB1 := Lib.hid hA
  have HF := Lib.hid (h.kept hA)
  have HX1 := Lib.hid ((BxC.new w x.n x.f x.t x.i).kept ((Below.refl _ _).alloc (Nat.le_refl _) (.cells #[.string ⟨#[]⟩, .int .i64 0, .int .i64 0, .string ⟨#[]⟩] 56)))
  have hX2 := BxC.new (w.alloc (.cells #[.string x.n, .int .i64 x.f, .int .i64 x.t, .string x.i] 56)) ⟨#[]⟩ 0 0 ⟨#[]⟩
  rw [World.size_alloc] at hX2
  have HX2 := Lib.hid hX2
  have HL := Lib.hid hL
  have HLB : Hid (ls.length ≤ 2000000) := Lib.hid (by rw [hL]; omega)
  have HZ : Hid (FlSz ls) := Lib.hid hz
  have HXN := Lib.hid hxn
  have HXI := Lib.hid hxi
  have HR : Hid (FdR ls x.n k) := Lib.hid (by rw [← hr]; exact fdI_is ls x.n)
  have HY := Lib.hid hy
  have HYS : Hid (y.t.size ≤ maxLen) := Lib.hid (by rw [← hy]; exact (hz k (by rw [hL]; exact hk)).2)
  have HFB := Lib.hid hf
  obtain ⟨s2, hs2⟩ : ∃ s2, ap y.t x.f x.t x.i = s2 := ⟨_, rfl⟩
  have HS2 := Lib.hid hs2
  have HSZ : Hid (s2.size ≤ maxLen) := Lib.hid (by rw [← hs2]; exact ap_size hf)
  have HOK : Hid (okC ls x = true) := Lib.hid (by rw [okC_is hr (by rw [hy]; exact hf), hy]; exact ht)
  have HFT : Hid (ftB s2 = true) := Lib.hid (by rw [← hs2]; exact ht)
  have HUP : Hid (upC ls x = ls.set k ⟨(ls.getD k Fl.dummy).n, s2⟩) := Lib.hid (by rw [upC_is hr, hy, hs2])
  obtain ⟨hv1, hv2, h0, h1, h2, h3⟩ := fitsB_iff.mp hf
  have hys := tv_size hv1
  have hxs := tv_size hv2
  have HNUM := Lib.hid (And.intro h0 (And.intro h1 (And.intro h2 (And.intro hys hxs))))
  clear h hA hX2 hz hL hr hf hy ht hs2 hv1 hv2 h0 h1 h2 h3 hys hxs
  go_enter Tryd.func48, Tryd.ntmps48
  go_wp2_with fail
  go_at_call 71
  refine (indexFunc_any ls HLB.out _ x.n ((k : Nat)) _ _ HR.out HF.out HX1.out.c0 HX1.out.sz).mono ?_
  rintro e w1 ⟨rfl, hb1⟩
  have HB2 := Lib.hid (HB1.out.trans (hb1.mono HB1.out.size))
  have HX11 := Lib.hid (HX1.out.kept hb1)
  have HX21 := Lib.hid (HX2.out.kept hb1)
  have HF1 := Lib.hid (HF.out.kept hb1)
  clear hb1
  obtain ⟨bb, oo, cc, ex, lb, x0, x1⟩ := FsAt.kidL HF1.out k HL.out hk
  have f1 : bb = g ∧ oo = 0 := by injection ex with e1 e2 e3; injection e1 with e1; injection e1 with e1 e2; exact ⟨e1.symm, e2.symm⟩
  obtain ⟨rfl, rfl⟩ := f1
  obtain ⟨p0, p1, p2, p3, _, _, _, _, pz⟩ := HX11.out
  rw [HY.out, Nat.zero_add] at x0 x1
  have hki : (k : Int) < (L : Int) := by omega
  have hkn : ¬ (k : Int) < 0 := by omega
  clear ex
  go_wp2_with fail
  go_at_call 73
  refine (applyEdit_impl_yes y.t x.f x.t x.i HFB.out _).mono ?_
  rintro e w2 ⟨rfl, hb2⟩
  have HB3 := Lib.hid (HB2.out.trans (hb2.mono HB2.out.size))
  have HX12 := Lib.hid (HX11.out.kept hb2)
  have HX22 := Lib.hid (HX21.out.kept hb2)
  have HF2 := Lib.hid (HF1.out.kept hb2)
  clear hb2 p0 p1 p2 p3 x0 x1
  rw [HS2.out]
  go_wp2_with fail
  go_at_call 53
  refine (isFileText_any s2 HSZ.out _).mono ?_
  rintro e w3 ⟨rfl, hb3⟩
  rw [HFT.out]
  have HB4 := Lib.hid (HB3.out.trans (hb3.mono HB3.out.size))
  have HX13 := Lib.hid (HX12.out.kept hb3)
  have HX23 := Lib.hid (HX22.out.kept hb3)
  have HF3 := Lib.hid (HF2.out.kept hb3)
  clear hb3
  go_wp2_with fail
  go_at_call 47
  refine (cloneF_pin ls L HL.out hl bb _ _ HF3.out).mono ?_
  rintro e w4 ⟨q, fc, rfl, hF4, hq1, hq2, hb4⟩
  have HB5 := Lib.hid (HB4.out.trans (hb4.mono HB4.out.size))
  have HX14 := Lib.hid (HX13.out.kept hb4)
  have HX24 := Lib.hid (HX23.out.kept hb4)
  have HQ := Lib.hid (And.intro (Nat.le_trans HB4.out.size hq1) (And.intro hq2 (And.intro (Nat.lt_of_lt_of_le HX13.out.sz hq1) (Nat.lt_of_lt_of_le HX23.out.sz hq1))))
  have HF4 := Lib.hid hF4
  obtain ⟨_, y1, y2⟩ := hF4.cellk HL.out hk
  clear hF4 hq1 hq2 hb4
  go_wp2_with fail
  obtain ⟨w5, hw5⟩ : ∃ W, w4.setCell ⟨q, k * 2 + 1, none⟩ (.string s2) = W := ⟨_, rfl⟩
  have hI5 : Inside q (q + 1) w4 w5 := by rw [← hw5]; exact Inside.set w4 _ _ (Nat.le_refl _) (Nat.lt_succ_self _)
  have HF5 : Hid (FO w5 q (q + 1) (.slice (some ⟨q, 0, none⟩) L fc) (upC ls x)) := Lib.hid (by rw [← hw5, HUP.out]; exact HF4.out.put HL.out hk s2)
  have HX15 := Lib.hid (HX14.out.inside hI5 (.inl HQ.out.2.2.1))
  have HX25 := Lib.hid (HX24.out.inside hI5 (.inl HQ.out.2.2.2))
  have HB6 := Lib.hid (hI5.below HQ.out.1 HB5.out HB5.out.size)
  have HZ5 := Lib.hid hI5.size
  rw [hw5]
  clear hI5 hw5 y1 y2
  obtain ⟨p0, p1, p2, p3, _, _, _, _, pz⟩ := HX15.out
  obtain ⟨t0, t1, t2, t3, g0, g1, g2, g3, tz⟩ := HX25.out
  go_cut [4, 6] (fun a b wx => a = .slice (some ⟨q, 0, none⟩) L fc ∧ b = .bool true ∧ ∃ bf bt bi, Hid (BxC wx (w.heap.size + 1) x.n bf bt bi) ∧ Hid (FO wx q (q + 1) (.slice (some ⟨q, 0, none⟩) L fc) (upC ls x)) ∧ Hid (Below w.heap.size w wx) ∧ Hid (q < wx.heap.size))
  case first =>
    go_region_law (first
      | (go_simp; go_at_call 74; refine (inverse_any y.t x.f x.t x.i HNUM.out.1 HNUM.out.2.1 HNUM.out.2.2.1 HNUM.out.2.2.2.1 HNUM.out.2.2.2.2 _).mono ?_; rintro e w7 ⟨rfl, hb7⟩; have HB7 : Hid (Below w5.heap.size w5 w7) := Lib.hid (by exact Below.trans (Below.refl _ _).drew hb7); have HX17 := Lib.hid (HX15.out.kept HB7.out); have HX27 := Lib.hid (HX25.out.kept HB7.out); clear hb7; have s0 := HX27.out.c0; have s1 := HX27.out.c1; have s2' := HX27.out.c2; have s3 := HX27.out.c3; have r0 := HX27.out.f0; have r1 := HX27.out.f1; have r2 := HX27.out.f2; have r3 := HX27.out.f3; have m0 := HX17.out.c0)
      | fail)
    all_goals go_wp2_with fail
    all_goals go_meet
    all_goals
      refine ⟨rfl, rfl, x.f, x.f + x.i.size, y.t.extract x.f.toNat x.t.toNat, Lib.hid ⟨by go_simp, by go_simp, by go_simp, by go_simp, by go_simp, by go_simp, by go_simp, by go_simp, by have := HX27.out.sz; simpa using this⟩, Lib.hid ((HF5.out.kept HB7.out).inside (inside_set4 _ _ _ _ _ _) (.inr (by have := HQ.out; omega))), Lib.hid (below_set4 (HB6.out.trans (HB7.out.mono HB6.out.size)) (Nat.le_succ _) _ _ _ _), Lib.hid ?_⟩
      have z1 := HB7.out.size
      have z2 := HQ.out.2.1
      have z3 := HZ5.out
      simp
      omega
  case rest =>
    obtain ⟨rfl, rfl, bf, bt, bi, HC, HFF, HBB, HQQ⟩ := hcut
    clear p0 p1 p2 p3 t0 t1 t2 t3 g0 g1 g2 g3
    obtain ⟨t0, t1, t2, t3, _, _, _, _, _⟩ := HC.out
    go_wp2_with fail
    exact bodyPost_ret (v := .tuple #[.slice (some ⟨q, 0, none⟩) L fc, .agg #[.string x.n, .int .i64 bf, .int .i64 bt, .string bi], .bool true]) (by simp [results, Tryd.results48, go_sem, t0, t1, t2, t3]) rfl ⟨.inr ⟨HOK.out, q, fc, bf, bt, bi, by rw [HL.out], by rw [HL.out]; exact HFF.out, HQ.out.1, HQQ.out⟩, HBB.out⟩
theorem made_any (ls : List Fl) (L : Nat) (hL : ls.length = L) (hl : L ≤ 2000000) (hz : FlSz ls) (x : Ch) (hxn : x.n.size ≤ maxLen) (hxi : x.i.size ≤ maxLen) (g c : Nat) (w : World) (h : FsAt w ls (.slice (some ⟨g, 0, none⟩) L c)) :
    Calls Tryd.prog 48 #[.agg #[.string x.n, .int .i64 x.f, .int .i64 x.t, .string x.i], .slice (some ⟨g, 0, none⟩) L c] w (MdPost ls x w) := by
  rcases fdI_is ls x.n with ⟨hr, _⟩ | ⟨k, hk, hr, _, _⟩
  · exact made_none ls L hL hl hz x hxn hxi hr g c w h
  · rw [hL] at hk
    rcases hf : fitsB (ls.getD k Fl.dummy).t x.f x.t x.i with _ | _
    · exact made_unfit ls L hL hl hz x hxn hxi k hr hk _ rfl hf g c w h
    · rcases ht : ftB (ap (ls.getD k Fl.dummy).t x.f x.t x.i) with _ | _
      · exact made_untext ls L hL hl hz x hxn hxi k hr hk _ rfl hf ht g c w h
      · exact made_yes ls L hL hl hz x hxn hxi k hr hk _ rfl hf ht g c w h
end Go.Proofs.YtpihopmgckdigaaDoor

