/-
  slices.Clone of files; OpenBase of the program and of the model; the exact laws' functions on a base without answers.
  OpenBase of the model; the exact laws' functions on a base without answers.
-/
import Derived.Test.YtpihopmgckdigaaDoorJa
import Derived.Test.YtpihopmgckdigaaDoorLh
import Derived.OwnWalk
import Derived.Lib.SliceRun
import Derived.Lib.Walk
import Derived.Laws.OwnMore
import Derived.Deep.AppendLies
import Derived.Deep.RegionLaw
import Derived.Maps.AppendAt
namespace Go.Proofs.YtpihopmgckdigaaDoor
open Go.RowKit
set_option linter.unusedVariables false
set_option linter.unusedSimpArgs false

theorem step_append_own {P : Program} {ops : Array Oper} {o : Oper} {a : Act} {w : World} {K : Act → World → Prop} {Q : Exit → Act → World → Prop} {E : Prop} (hg : o.guard = none) (s x : Operand) (t : TypeId)
    (ho : o.op = .call { callee := .builtin .append, args := #[s, x], argTypes := #[t, t] })
    (base : Nat) (e : TypeId) (i : TypeInfo) (z : Value) (size bytes : Nat) (ht : P.underlying t = some (.slice e)) (hi : P.info? e = some i) (hz : i.zero = some z)
    (hsize : i.size = size) (hby : i.bytes = bytes) (hzs : z.cells.size = size) (hsz : 0 < size)
    (v : Value) (n : Nat) (xs : List Value) (hs : a.eval s = v) (hown : w.ownsRow base e size v n xs)
    (ad : Addr) (m c : Nat) (news : List Value) (hx : a.eval x = .slice (some ad) m c) (hl : news.length = m * size) (hnews : ∀ j u, news[j]? = some u → w.cell? (ad.add j) = some u) (h1 : ∀ u ∈ news, u.oneCell' = true)
    (h63 : n + m ≤ maxLen) (hbytes : (n + m) * bytes ≤ 140737488355328) (hbase : base ≤ w.heap.size)
    (h : ∀ v' w', w'.ownsRow base e size v' (n + m) (xs ++ news) → w.grownBy w' v.ownBlock → (v' = .slice none 0 0 ↔ v = .slice none 0 0 ∧ m = 0) → K (a.put o.dst v') w') :
    if Region.wanted o (yielded ops a.tmps) = true then Oper.wp P o a w K Q else E := by
  have hw : Region.wanted o (yielded ops a.tmps) = true := by simp [Region.wanted, hg]
  rw [if_pos hw]
  exact wp_append_own w s x t ho base e i z size bytes ht hi hz hsize hby hzs hsz v n xs hs hown ad m c news hx hl hnews h1 h63 hbytes hbase h
theorem cellsF_one {ls : List Fl} : ∀ u ∈ cellsF ls, u.oneCell' = true := by
  intro u hu
  unfold cellsF at hu
  rw [List.mem_flatMap] at hu
  obtain ⟨x, _, hx⟩ := hu
  simp at hx
  rcases hx with rfl | rfl <;> rfl
theorem FO.cells {w : World} {g lo hi c n : Nat} {ls : List Fl} (h : FO w lo hi (.slice (some ⟨g, 0, none⟩) n c) ls) (hn : ls.length = n) : ∀ j u, (cellsF ls)[j]? = some u → w.cell? ((⟨g, 0, none⟩ : Addr).add j) = some u := by
  subst hn
  intro j u hj
  rw [show (⟨g, 0, none⟩ : Addr).add j = ⟨g, j, none⟩ by unfold Addr.add; by_cases hj0 : j = 0 <;> simp [hj0]]
  rw [h.own.cellAt j (by have := (List.getElem?_eq_some_iff.1 hj).1; rw [cellsF_len] at this; exact this)]
  exact hj
theorem litO (W : World) {base : Nat} (hb : base ≤ W.heap.size) : (W.alloc (.cells #[] 66)).ownsRow base 66 2 (.slice (some ⟨W.heap.size, 0, none⟩) 0 0) 0 [] := World.ownsRow_made W #[] 0 hb (Nat.zero_le _) rfl
theorem own_up {w : World} {lo sz n : Nat} {e : TypeId} {v : Value} {xs : List Value} (h : w.ownsRow lo e sz v n xs) {lo' : Nat} (hl : lo' ≤ lo) : OB w lo' w.heap.size e sz v n xs := by
  obtain ⟨hl, h | ⟨g, cap, cur, rfl, hb', hg, h1, h2, h3, h4⟩⟩ := h
  · exact ⟨⟨hl, .inl h⟩, fun g e => by rw [h.1] at e; cases e⟩
  · exact ⟨⟨hl, .inr ⟨g, cap, cur, rfl, by omega, hg, h1, h2, h3, h4⟩⟩, fun q e => by injection e with e; subst e; exact (Array.getElem?_eq_some_iff.1 hg).1⟩
theorem size_drw (w : World) : w.drew.heap.size = w.heap.size := rfl
theorem below_da (w : World) (o : Obj) : Below w.heap.size w (w.alloc o).drew := ((Below.refl _ _).alloc (Nat.le_refl _) _).drew
def ClPost (ls : List Fl) (w : World) (e : Ending) (w' : World) : Prop := ∃ fa fc, e = .returned (.slice fa ls.length fc) ∧ FO w' w.heap.size w'.heap.size (.slice fa ls.length fc) ls ∧ Below w.heap.size w w'
set_option maxRecDepth 100000 in
set_option maxHeartbeats 2000000 in
theorem cloneF_any (ls : List Fl) (hl : ls.length ≤ 1000000) (g c : Nat) (w : World) (h : FsAt w ls (.slice (some ⟨g, 0, none⟩) ls.length c)) :
    Calls Tryd.prog 47 #[.slice (some ⟨g, 0, none⟩) ls.length c] w (ClPost ls w) := by
  have hnews : ∀ j u, (cellsF ls)[j]? = some u → w.cell? ((⟨g, 0, none⟩ : Addr).add j) = some u := by
    intro j u hj
    rw [show (⟨g, 0, none⟩ : Addr).add j = ⟨g, j, none⟩ by unfold Addr.add; by_cases hj0 : j = 0 <;> simp [hj0]]
    have hj2 := (List.getElem?_eq_some_iff.1 hj).1
    rw [cellsF_len] at hj2
    obtain ⟨b, o, cap2, ex, l1, ⟨x0, x1⟩⟩ := h.kid (j / 2) (by omega)
    have f1 : g = b ∧ 0 = o := by injection ex with e1 e2 e3; injection e1 with e1; injection e1 with e1 e2; exact ⟨e1, e2⟩
    obtain ⟨rfl, rfl⟩ := f1
    obtain ⟨c0, c1⟩ := cellsF_at ls (j / 2) (by omega)
    rw [Nat.zero_add] at x0 x1
    rcases Nat.mod_two_eq_zero_or_one j with hm | hm
    · have e : j / 2 * 2 = j := by omega
      rw [e] at x0 c0
      rw [x0, ← hj, c0]
    · have e : j / 2 * 2 + 1 = j := by omega
      rw [e] at x1 c1
      rw [x1, ← hj, c1]
  have HN := Lib.hid hnews
  obtain ⟨L, hL⟩ : ∃ L, ls.length = L := ⟨_, rfl⟩
  have HL := Lib.hid hL
  have hcl : (cellsF ls).length = L * 2 := by rw [cellsF_len, hL]
  have HCL := Lib.hid hcl
  unfold ClPost
  rw [hL] at hl ⊢
  obtain ⟨i0, hi, hz0, hz1, hz2⟩ := info_parts Tryd.infoFile
  have q22 : ∀ (w : World) (a : Option Addr) (n c n' c' : Nat), (binOp .eql 23 (.slice a n c) (.slice none n' c')).run Tryd.prog w = .ok (.bool a.isNone) w := fun w a n c n' c' => Lib.run_eql_slice_nil w _ _ a n c n' c' Tryd.underlying23
  clear h hL hnews hcl
  go_enter Tryd.func47, Tryd.ntmps47
  go_wp2_with (at_builtin; refine wpList_append_own _ rfl _ _ 23 rfl w.heap.size 66 i0 _ 2 32 Tryd.underlying23 hi hz0 hz1 hz2 rfl (by omega) (.slice (some ⟨w.heap.size, 0, none⟩) 0 0) 0 [] rfl (litO w (Nat.le_refl _)) ⟨g, 0, none⟩ L c (cellsF ls) rfl HCL.out (fun j u hj => Lib.cell?_alloc_some _ (HN.out j u hj)) cellsF_one (by unfold maxLen; omega) (by omega) (by simp) ?_; intro v' w1 hown hgrow hnil)
  have hown2 : w1.ownsRow w.heap.size 66 2 v' L (cellsF ls) := by simpa using hown
  have hF := own_up hown2 (Nat.le_refl _)
  obtain ⟨fa, fc, rfl, _⟩ := hF.slice
  have HF := Lib.hid hF
  have HB : Hid (Below w.heap.size w w1) := Lib.hid (((Below.refl _ w).alloc (Nat.le_refl _) _).grown hgrow (by simp) (by intro k hk; simp [Value.ownBlock] at hk; omega))
  clear hown hown2 hgrow hnil hF
  go_wp2_with fail
  go_ret
  refine ⟨fa, fc, rfl, ?_, HB.out⟩
  unfold FO
  rw [HL.out]
  exact HF.out
theorem cloneF_at (ls : List Fl) (L : Nat) (hL : ls.length = L) (hl : L ≤ 1000000) (g c : Nat) (w : World) (h : FsAt w ls (.slice (some ⟨g, 0, none⟩) L c)) :
    Calls Tryd.prog 47 #[.slice (some ⟨g, 0, none⟩) L c] w fun e w' => ∃ fa fc, e = .returned (.slice fa L fc) ∧ FO w' w.heap.size w'.heap.size (.slice fa L fc) ls ∧ Below w.heap.size w w' := by
  subst hL; exact cloneF_any ls hl g c w h
/-- What OpenBase keeps of a list. -/
def obF (ls : List Fl) : List Fl := if filesB ls then ls else []
theorem obF_no {ls : List Fl} (h : filesB ls = false) : obF ls = [] := by unfold obF; rw [h]; rfl
theorem obF_yes {ls : List Fl} (h : filesB ls = true) : obF ls = ls := by unfold obF; rw [h]; rfl
theorem filesB_le {ls : List Fl} (h : filesB ls = true) : ls.length ≤ 4 := by
  by_cases hl : ls.length ≤ 4
  · exact hl
  · rw [filesB_long (by omega)] at h; cases h
theorem obF_le (ls : List Fl) : (obF ls).length ≤ 4 := by
  rcases h : filesB ls with _ | _
  · rw [obF_no h]; exact Nat.zero_le _
  · rw [obF_yes h]; exact filesB_le h
def zs0 (n : Nat) : List Int := List.replicate n 0
def zI (n : Nat) : Array Value := madeCells #[.int .i64 0] n
theorem zI_list (n : Nat) : (zI n).toList = (zs0 n).map (Value.int .i64) := by
  apply List.ext_getElem
  · simp [zI, zs0, madeCells]
  · intro i h1 h2
    simp [zI, zs0, madeCells, Nat.mod_one]
theorem zI_size (n : Nat) : (zI n).size = n := by simp [zI, madeCells]
theorem zs0_len (n : Nat) : (zs0 n).length = n := by simp [zs0]
theorem infoInt2 : (Tryd.prog.info? 3).map (fun i => (i.zero, i.size, i.bytes)) = some (some (.int .i64 0), 1, 8) := by kernel_rfl
theorem makeI_run (n : Nat) (hn : n ≤ 1000000) (w : World) : (Instr.makeSlice 52 (.int .i64 n) (.int .i64 n)).run Tryd.prog w = .ok (.slice (some ⟨w.heap.size, 0, none⟩) n n) (w.alloc (.cells (zI n) 3)) := by
  obtain ⟨i0, hi, hz0, hz1, hz2⟩ := info_parts infoInt2
  have h := run_make (P := Tryd.prog) w 52 3 i0 _ Tryd.underlying52 hi hz0 .i64 .i64 n n (by omega) (by omega) (by rw [hz2]; omega) (by omega)
  rw [hz1] at h
  simpa [zI, Value.cells] using h
theorem io_new (W : World) (n : Nat) (hn : n ≤ 1000000) : IO (W.alloc (.cells (zI n) 3)) W.heap.size (W.heap.size + 1) (.slice (some ⟨W.heap.size, 0, none⟩) n n) (zs0 n) := by
  unfold IO
  rw [zs0_len, ← zI_list]
  exact ⟨World.ownsRow_lit W (zI n) n (Nat.le_refl _) (by unfold maxLen; omega) (by rw [zI_size, Nat.mul_one]), fun g e => by injection e with e; subst e; exact Nat.lt_succ_self _⟩
/-- What OpenBase leaves. -/
structure ObR (ls : List Fl) (w w' : World) (fa : Option Addr) (fc : Nat) (ia : Option Addr) (ic : Nat) (lf hf li hi : Nat) : Prop where
  f : FO w' lf hf (.slice fa (obF ls).length fc) (obF ls)
  i : IO w' li hi (.slice ia (obF ls).length ic) (zs0 (obF ls).length)
  h1 : w.heap.size ≤ lf
  h2 : w.heap.size ≤ li
  h3 : hf ≤ w'.heap.size
  h4 : hi ≤ w'.heap.size
  h5 : hf ≤ li ∨ hi ≤ lf
  b : Below w.heap.size w w'
def ObPost (ls : List Fl) (w : World) (e : Ending) (w' : World) : Prop := ∃ fa fc ia ic lf hf li hi, e = .returned (.tuple #[.agg #[.slice fa (obF ls).length fc, .slice ia (obF ls).length ic, .int .i64 0, .slice none 0 0, .int .i64 0], .bool (filesB ls)]) ∧ ObR ls w w' fa fc ia ic lf hf li hi
theorem ob_none {ls : List Fl} {w w' : World} (h : filesB ls = false) (hb : Below w.heap.size w w') : ObPost ls w (.returned (.tuple #[.agg #[.slice none 0 0, .slice none 0 0, .int .i64 0, .slice none 0 0, .int .i64 0], .bool false])) w' := by
  have e := obF_no h
  have hs := hb.size
  refine ⟨none, 0, none, 0, w.heap.size, w.heap.size, w.heap.size, w.heap.size, by rw [e, h]; rfl, ?_, ?_, Nat.le_refl _, Nat.le_refl _, hs, hs, .inl (Nat.le_refl _), hb⟩
  · rw [e]; exact ⟨World.ownsRow_nil _ _ _ _, fun g e => by cases e⟩
  · rw [e]; exact ⟨World.ownsRow_nil _ _ _ _, fun g e => by cases e⟩
theorem below_set5 {B : Nat} {w w1 : World} (h : Below B w w1) (a b c d e : Value) : Below B w (((((w1.setCell ⟨B, 0, none⟩ a).setCell ⟨B, 1, none⟩ b).setCell ⟨B, 2, none⟩ c).setCell ⟨B, 3, none⟩ d).setCell ⟨B, 4, none⟩ e) :=
  ((((h.setCell (p := ⟨B, 0, none⟩) (Nat.le_refl _) _).setCell (p := ⟨B, 1, none⟩) (Nat.le_refl _) _).setCell (p := ⟨B, 2, none⟩) (Nat.le_refl _) _).setCell (p := ⟨B, 3, none⟩) (Nat.le_refl _) _).setCell (p := ⟨B, 4, none⟩) (Nat.le_refl _) _
abbrev set5 (w : World) (B : Nat) (a b c d e : Value) : World := ((((w.setCell ⟨B, 0, none⟩ a).setCell ⟨B, 1, none⟩ b).setCell ⟨B, 2, none⟩ c).setCell ⟨B, 3, none⟩ d).setCell ⟨B, 4, none⟩ e
theorem inside_set5 (w : World) (B : Nat) (a b c d e : Value) : Inside B (B + 1) w (set5 w B a b c d e) :=
  ((((Inside.set w 0 a (Nat.le_refl _) (Nat.lt_succ_self _)).trans (Inside.set _ 1 b (Nat.le_refl _) (Nat.lt_succ_self _))).trans (Inside.set _ 2 c (Nat.le_refl _) (Nat.lt_succ_self _))).trans (Inside.set _ 3 d (Nat.le_refl _) (Nat.lt_succ_self _))).trans (Inside.set _ 4 e (Nat.le_refl _) (Nat.lt_succ_self _))
/-- The row of files is made first, then the row of numbers. -/
theorem ob_a {ls : List Fl} {L : Nat} {w w1 w4 : World} {fa : Option Addr} {fc lo hi : Nat} {c d e : Value} (hb : filesB ls = true) (hL : ls.length = L) (h4 : L ≤ 4) (hb1 : Below w.heap.size w w1) (hT : w.heap.size < w1.heap.size) (hb4 : Below w1.heap.size w1 w4)
    (hF : FO w4 lo hi (.slice fa L fc) ls) (hlo : w1.heap.size ≤ lo) (hhi : hi ≤ w4.heap.size) :
    ObR ls w ((set5 w4 w.heap.size (.slice fa L fc) (.slice (some ⟨w4.heap.size, 0, none⟩) L L) c d e).alloc (.cells (zI L) 3)) fa fc (some ⟨w4.heap.size, 0, none⟩) L lo hi w4.heap.size (w4.heap.size + 1) := by
  have e1 := obF_yes hb
  have hs1 := hb1.size
  have hs4 := hb4.size
  have hI := inside_set5 w4 w.heap.size (.slice fa L fc) (.slice (some ⟨w4.heap.size, 0, none⟩) L L) c d e
  have hz : (set5 w4 w.heap.size (.slice fa L fc) (.slice (some ⟨w4.heap.size, 0, none⟩) L L) c d e).heap.size = w4.heap.size := by simp
  obtain ⟨W, hW⟩ : ∃ W, set5 w4 w.heap.size (.slice fa L fc) (.slice (some ⟨w4.heap.size, 0, none⟩) L L) c d e = W := ⟨_, rfl⟩
  have hb5 : Below w.heap.size w W := by rw [← hW]; exact (hb1.trans (hb4.mono (by omega))).trans (below_set5 (Below.refl _ _) _ _ _ _ _)
  rw [hW] at hI hz ⊢
  have hA := (Below.refl W.heap.size W).alloc (Nat.le_refl _) (.cells (zI L) 3)
  have hio := io_new W L (by omega)
  rw [hz] at hio
  have hsz : (W.alloc (.cells (zI L) 3)).heap.size = w4.heap.size + 1 := by rw [World.size_alloc, hz]
  refine ⟨?_, ?_, by omega, by omega, ?_, ?_, .inl hhi, ?_⟩
  · rw [e1, hL]; exact (hF.inside hI (by omega)).kept hA
  · rw [e1, hL]; exact hio
  · rw [hsz]; omega
  · rw [hsz]; omega
  · exact hb5.alloc (by rw [hz]; omega) _
/-- The row of numbers is made first, then the row of files. -/
theorem ob_b {ls : List Fl} {L : Nat} {w w1 w4 : World} {fa : Option Addr} {fc : Nat} {c d e : Value} (hb : filesB ls = true) (hL : ls.length = L) (h4 : L ≤ 4) (hb1 : Below w.heap.size w w1) (hT : w.heap.size < w1.heap.size) (hb4 : Below w1.heap.size w1 w4)
    (hF : FO w4 (w1.heap.size + 1) w4.heap.size (.slice fa L fc) ls) (hbo : Below (w1.heap.size + 1) (w1.alloc (.cells (zI L) 3)).drew w4) :
    ObR ls w (set5 w4 w.heap.size (.slice fa L fc) (.slice (some ⟨w1.heap.size, 0, none⟩) L L) c d e) fa fc (some ⟨w1.heap.size, 0, none⟩) L (w1.heap.size + 1) w4.heap.size w1.heap.size (w1.heap.size + 1) := by
  have e1 := obF_yes hb
  have hs1 := hb1.size
  have hs4 := hbo.size
  have ez : (w1.alloc (.cells (zI L) 3)).drew.heap.size = w1.heap.size + 1 := by rw [size_drw, World.size_alloc]
  rw [ez] at hs4
  have hI := inside_set5 w4 w.heap.size (.slice fa L fc) (.slice (some ⟨w1.heap.size, 0, none⟩) L L) c d e
  have hio : IO (w1.alloc (.cells (zI L) 3)).drew w1.heap.size (w1.heap.size + 1) (.slice (some ⟨w1.heap.size, 0, none⟩) L L) (zs0 L) := IO.kept (io_new w1 L (by omega)) (Below.refl _ _).drew
  refine ⟨?_, ?_, ?_, by omega, ?_, ?_, .inr ?_, ?_⟩
  · rw [e1, hL]; exact hF.inside hI (by omega)
  · rw [e1, hL]; exact (hio.kept (by rw [ez]; exact hbo)).inside hI (by omega)
  · omega
  · exact hI.size
  · have := hI.size; omega
  · omega
  · exact (hb1.trans (hb4.mono (by omega))).trans (below_set5 (Below.refl _ _) _ _ _ _ _)
/-- The variable in which a base lies. -/
structure Bx (w : World) (T : Nat) (fv iv : Value) : Prop where
  c0 : w.cell? ⟨T, 0, none⟩ = some fv
  c1 : w.cell? ⟨T, 1, none⟩ = some iv
  c2 : w.cell? ⟨T, 2, none⟩ = some (.int .i64 0)
  c3 : w.cell? ⟨T, 3, none⟩ = some (.slice none 0 0)
  c4 : w.cell? ⟨T, 4, none⟩ = some (.int .i64 0)
  f0 : w.frozen? ⟨T, 0, none⟩ = false
  f1 : w.frozen? ⟨T, 1, none⟩ = false
  f2 : w.frozen? ⟨T, 2, none⟩ = false
  f3 : w.frozen? ⟨T, 3, none⟩ = false
  f4 : w.frozen? ⟨T, 4, none⟩ = false
  sz : T < w.heap.size
theorem Bx.block {w w' : World} {T : Nat} {fv iv : Value} (h : Bx w T fv iv) (e : w'.heap[T]? = w.heap[T]?) (hs : w.heap.size ≤ w'.heap.size) : Bx w' T fv iv :=
  ⟨(cellEq e).trans h.c0, (cellEq e).trans h.c1, (cellEq e).trans h.c2, (cellEq e).trans h.c3, (cellEq e).trans h.c4, (frozenEq e).trans h.f0, (frozenEq e).trans h.f1, (frozenEq e).trans h.f2, (frozenEq e).trans h.f3, (frozenEq e).trans h.f4, Nat.lt_of_lt_of_le h.sz hs⟩
theorem Bx.kept {w w' : World} {T : Nat} {fv iv : Value} (h : Bx w T fv iv) (hb : Below w.heap.size w w') : Bx w' T fv iv := h.block (hb.block T h.sz) hb.size
theorem Bx.inside {w w' : World} {T lo hi : Nat} {fv iv : Value} (h : Bx w T fv iv) (hI : Inside lo hi w w') (hd : T < lo ∨ hi ≤ T) : Bx w' T fv iv := h.block (hI.block T h.sz hd) hI.size
theorem bx_al {w : World} {T : Nat} {x y : Value} (h : Bx w T x y) (o : Obj) : Bx (w.alloc o) T x y := h.kept ((Below.refl _ _).alloc (Nat.le_refl _) _)
theorem bx_set5 {w : World} {T : Nat} {x y : Value} (h : Bx w T x y) (fv iv : Value) : Bx (set5 w T fv iv (.int .i64 0) (.slice none 0 0) (.int .i64 0)) T fv iv := by
  obtain ⟨c0, c1, c2, c3, c4, f0, f1, f2, f3, f4, sz⟩ := h
  exact ⟨by go_simp, by go_simp, by go_simp, by go_simp, by go_simp, by go_simp, by go_simp, by go_simp, by go_simp, by go_simp, by simpa using sz⟩
theorem filesValid_impl' (ls : List Fl) (a : Option Addr) (cap L : Nat) (w : World) (hL : ls.length = L) (hl : ls.length ≤ 2000000) (hz : FlSz ls) (h : FsAt w ls (.slice a L cap)) :
    Calls Tryd.prog 10 #[.slice a L cap] w fun e w' => e = .returned (.bool (filesB ls)) ∧ Below w.heap.size w w' := by
  subst hL; exact filesValid_impl ls a cap w hl hz h
end Go.Proofs.YtpihopmgckdigaaDoor

namespace Go.Proofs.YtpihopmgckdigaaDoor
open Go.RowKit
set_option linter.unusedVariables false
set_option linter.unusedSimpArgs false

theorem step_append_at {P : Program} {ops : Array Oper} {o : Oper} {a : Act} {w : World} {K : Act → World → Prop} {Q : Exit → Act → World → Prop} {E : Prop} (hg : o.guard = none) (s x : Operand) (t : TypeId)
    (ho : o.op = .call { callee := .builtin .append, args := #[s, x], argTypes := #[t, t] })
    (base : Nat) (e : TypeId) (i : TypeInfo) (z : Value) (size bytes : Nat) (ht : P.underlying t = some (.slice e)) (hi : P.info? e = some i) (hz : i.zero = some z)
    (hsize : i.size = size) (hby : i.bytes = bytes) (hzs : z.cells.size = size) (hsz : 0 < size)
    (v : Value) (n : Nat) (xs : List Value) (hs : a.eval s = v) (hown : w.ownsRow base e size v n xs)
    (ad : Addr) (m c : Nat) (news : List Value) (hx : a.eval x = .slice (some ad) m c) (hl : news.length = m * size) (hnews : ∀ j u, news[j]? = some u → w.cell? (ad.add j) = some u) (h1 : ∀ u ∈ news, u.oneCell' = true)
    (h63 : n + m ≤ maxLen) (hbytes : (n + m) * bytes ≤ 140737488355328) (hbase : base ≤ w.heap.size)
    (h : ∀ v' w', w'.ownsRow base e size v' (n + m) (xs ++ news) → w.grownBy w' v.ownBlock → (v' = .slice none 0 0 ↔ v = .slice none 0 0 ∧ m = 0) → (v'.ownBlock = v.ownBlock ∨ v'.ownBlock = some w.heap.size) → K (a.put o.dst v') w') :
    if Region.wanted o (yielded ops a.tmps) = true then Oper.wp P o a w K Q else E := by
  have hw : Region.wanted o (yielded ops a.tmps) = true := by simp [Region.wanted, hg]
  rw [if_pos hw]
  obtain ⟨v', w', hr, h2, h3, h4, h5⟩ := run_append_own_at (P := P) w base t o.type e i z size bytes ht hi hz hsize hby hzs hsz v n xs hown ad m c news hl hnews h1 h63 hbytes hbase
  unfold Oper.wp execOp
  simp only [ho, resolve, invoke, builtin, Sem.run_bind, Sem.run_pure, Result.andThen_ok, List.map_toArray, List.map_cons, List.map_nil, hs, hx, hr]
  exact h v' w' h2 h3 h4 h5
theorem own_pin {w : World} {lo sz n : Nat} {e : TypeId} {v : Value} {xs : List Value} (h : w.ownsRow lo e sz v n xs) (hnn : v ≠ .slice none 0 0) : ∃ q cap, v = .slice (some ⟨q, 0, none⟩) n cap ∧ OB w q (q + 1) e sz v n xs ∧ lo ≤ q ∧ q < w.heap.size := by
  obtain ⟨hl, ⟨h, _⟩ | ⟨g, cap, cur, rfl, hb', hg, h1, h2, h3, h4⟩⟩ := h
  · exact absurd h hnn
  · exact ⟨g, cap, rfl, ⟨⟨hl, .inr ⟨g, cap, cur, rfl, Nat.le_refl _, hg, h1, h2, h3, h4⟩⟩, fun q e => by injection e with e; subst e; exact Nat.lt_succ_self _⟩, hb', (Array.getElem?_eq_some_iff.1 hg).1⟩
theorem inside_grown {W w4 : World} {q : Nat} (h : W.grownBy w4 (some q)) : Inside q (q + 1) W w4 := ⟨h.os, h.tape, h.output, h.size, fun b hb hd => h.block b hb (fun e => by injection e with e; omega)⟩
abbrev lit0 : Obj := .cells #[] 66
abbrev ints0 (L : Nat) : Obj := .cells (zI L) 3
theorem litD1 (w1 : World) : ((w1.alloc lit0).drew).ownsRow w1.heap.size 66 2 (.slice (some ⟨w1.heap.size, 0, none⟩) 0 0) 0 [] := litO w1 (Nat.le_refl _)
theorem litD2 (w1 : World) (o : Obj) : (((w1.alloc lit0).alloc o).drew).ownsRow w1.heap.size 66 2 (.slice (some ⟨w1.heap.size, 0, none⟩) 0 0) 0 [] := (litO w1 (Nat.le_refl _)).alloc o
theorem litD3 (w1 : World) (o : Obj) : (((w1.alloc o).alloc lit0).drew).ownsRow w1.heap.size 66 2 (.slice (some ⟨w1.heap.size + 1, 0, none⟩) 0 0) 0 [] := by
  have h := litO (w1.alloc o) (base := w1.heap.size) (by rw [World.size_alloc]; omega)
  rw [World.size_alloc] at h
  exact h
abbrev News (ls : List Fl) (g : Nat) (w : World) : Prop := ∀ j u, (cellsF ls)[j]? = some u → w.cell? ((⟨g, 0, none⟩ : Addr).add j) = some u
theorem news_d1 {ls : List Fl} {g : Nat} {w1 : World} (h : News ls g w1) (o : Obj) : News ls g (w1.alloc o).drew := fun j u hj => Lib.cell?_alloc_some _ (h j u hj)
theorem news_d2 {ls : List Fl} {g : Nat} {w1 : World} (h : News ls g w1) (o p : Obj) : News ls g ((w1.alloc o).alloc p).drew := fun j u hj => Lib.cell?_alloc_some _ (Lib.cell?_alloc_some _ (h j u hj))
theorem le_d1 (w1 : World) (o : Obj) : w1.heap.size ≤ ((w1.alloc o).drew).heap.size := by rw [size_drw, World.size_alloc]; omega
theorem le_d2 (w1 : World) (o p : Obj) : w1.heap.size ≤ (((w1.alloc o).alloc p).drew).heap.size := by rw [size_drw, World.size_alloc, World.size_alloc]; omega
theorem not_nil {q L c : Nat} {v v' : Value} (h : v' = .slice none 0 0 ↔ v = .slice none 0 0 ∧ L = 0) (hv : v = .slice (some ⟨q, 0, none⟩) 0 c) : v' ≠ .slice none 0 0 := by
  intro e
  have := (h.1 e).1
  rw [hv] at this
  cases this
theorem ap_o1 {w1 w4 : World} {ls : List Fl} {L : Nat} {v' : Value} (hL : ls.length = L) (hown : w4.ownsRow w1.heap.size 66 2 v' (0 + L) ([] ++ cellsF ls)) (hgrow : ((w1.alloc lit0).drew).grownBy w4 (some w1.heap.size)) (hnn : v' ≠ .slice none 0 0) :
    ∃ q fc, v' = .slice (some ⟨q, 0, none⟩) L fc ∧ FO w4 q (q + 1) v' ls ∧ w1.heap.size ≤ q ∧ q < w4.heap.size ∧ Below w1.heap.size w1 w4 := by
  rw [Nat.zero_add, List.nil_append] at hown
  obtain ⟨q, cap, rfl, hO, h1, h2⟩ := own_pin hown hnn
  refine ⟨q, cap, rfl, by unfold FO; rw [hL]; exact hO, h1, h2, ?_⟩
  exact (below_da w1 lit0).grown hgrow (le_d1 _ _) (fun k hk => by injection hk with hk; omega)
theorem ap_o2 {w1 w4 : World} {ls : List Fl} {L : Nat} {v' : Value} (hL : ls.length = L) (hl : L ≤ 1000) (hown : w4.ownsRow w1.heap.size 66 2 v' (0 + L) ([] ++ cellsF ls)) (hgrow : (((w1.alloc lit0).alloc (ints0 L)).drew).grownBy w4 (some w1.heap.size)) (hnn : v' ≠ .slice none 0 0)
    (hat : v'.ownBlock = some w1.heap.size ∨ v'.ownBlock = some (((w1.alloc lit0).alloc (ints0 L)).drew).heap.size) :
    ∃ q fc, v' = .slice (some ⟨q, 0, none⟩) L fc ∧ FO w4 q (q + 1) v' ls ∧ w1.heap.size ≤ q ∧ q < w4.heap.size ∧ Below w1.heap.size w1 w4 ∧ IO w4 (w1.heap.size + 1) (w1.heap.size + 2) (.slice (some ⟨w1.heap.size + 1, 0, none⟩) L L) (zs0 L) ∧ q ≠ w1.heap.size + 1 ∧ w1.heap.size + 1 < w4.heap.size := by
  rw [Nat.zero_add, List.nil_append] at hown
  rw [size_drw, World.size_alloc, World.size_alloc] at hat
  obtain ⟨q, cap, rfl, hO, h1, h2⟩ := own_pin hown hnn
  have hs := hgrow.size
  rw [size_drw, World.size_alloc, World.size_alloc] at hs
  have hio := io_new (w1.alloc lit0) L (by omega)
  rw [World.size_alloc] at hio
  have hio2 : IO (((w1.alloc lit0).alloc (ints0 L)).drew) (w1.heap.size + 1) (w1.heap.size + 2) (.slice (some ⟨w1.heap.size + 1, 0, none⟩) L L) (zs0 L) := IO.kept hio (Below.refl _ _).drew
  refine ⟨q, cap, rfl, by unfold FO; rw [hL]; exact hO, h1, h2, ?_, hio2.inside (inside_grown hgrow) (by omega), ?_, by omega⟩
  · exact (((Below.refl w1.heap.size w1).alloc (Nat.le_refl _) lit0).alloc (by rw [World.size_alloc]; omega) (ints0 L)).drew.grown hgrow (le_d2 _ _ _) (fun k hk => by injection hk with hk; omega)
  · rcases hat with h | h <;> (simp [Value.ownBlock] at h; omega)
theorem ap_o3 {w1 w4 : World} {ls : List Fl} {L : Nat} {v' : Value} (hL : ls.length = L) (hl : L ≤ 1000) (hown : w4.ownsRow w1.heap.size 66 2 v' (0 + L) ([] ++ cellsF ls)) (hgrow : (((w1.alloc (ints0 L)).alloc lit0).drew).grownBy w4 (some (w1.heap.size + 1))) (hnn : v' ≠ .slice none 0 0)
    (hat : v'.ownBlock = some (w1.heap.size + 1) ∨ v'.ownBlock = some (((w1.alloc (ints0 L)).alloc lit0).drew).heap.size) :
    ∃ q fc, v' = .slice (some ⟨q, 0, none⟩) L fc ∧ FO w4 q (q + 1) v' ls ∧ w1.heap.size ≤ q ∧ q < w4.heap.size ∧ Below w1.heap.size w1 w4 ∧ IO w4 w1.heap.size (w1.heap.size + 1) (.slice (some ⟨w1.heap.size, 0, none⟩) L L) (zs0 L) ∧ q ≠ w1.heap.size ∧ w1.heap.size < w4.heap.size := by
  rw [Nat.zero_add, List.nil_append] at hown
  rw [size_drw, World.size_alloc, World.size_alloc] at hat
  obtain ⟨q, cap, rfl, hO, h1, h2⟩ := own_pin hown hnn
  have hs := hgrow.size
  rw [size_drw, World.size_alloc, World.size_alloc] at hs
  have hio := (io_new w1 L (by omega)).kept ((Below.refl (w1.alloc (ints0 L)).heap.size (w1.alloc (ints0 L))).alloc (Nat.le_refl _) lit0)
  have hio2 : IO (((w1.alloc (ints0 L)).alloc lit0).drew) w1.heap.size (w1.heap.size + 1) (.slice (some ⟨w1.heap.size, 0, none⟩) L L) (zs0 L) := IO.kept hio (Below.refl _ _).drew
  refine ⟨q, cap, rfl, by unfold FO; rw [hL]; exact hO, h1, h2, ?_, hio2.inside (inside_grown hgrow) (by omega), ?_, by omega⟩
  · exact (((Below.refl w1.heap.size w1).alloc (Nat.le_refl _) (ints0 L)).alloc (by rw [World.size_alloc]; omega) lit0).drew.grown hgrow (le_d2 _ _ _) (fun k hk => by injection hk with hk; omega)
  · rcases hat with h | h <;> (simp [Value.ownBlock] at h; omega)
/-- Both rows lie there. -/
theorem ob_c {ls : List Fl} {L q p : Nat} {w w1 w4 : World} {fc : Nat} {c d e : Value} (hb : filesB ls = true) (hL : ls.length = L) (hb1 : Below w.heap.size w w1) (hT : w.heap.size < w1.heap.size) (hb4 : Below w1.heap.size w1 w4)
    (hF : FO w4 q (q + 1) (.slice (some ⟨q, 0, none⟩) L fc) ls) (hI0 : IO w4 p (p + 1) (.slice (some ⟨p, 0, none⟩) L L) (zs0 L)) (h1 : w1.heap.size ≤ q) (h2 : q < w4.heap.size) (h3 : w1.heap.size ≤ p) (h4 : p < w4.heap.size) (hne : q ≠ p) :
    ObR ls w (set5 w4 w.heap.size (.slice (some ⟨q, 0, none⟩) L fc) (.slice (some ⟨p, 0, none⟩) L L) c d e) (some ⟨q, 0, none⟩) fc (some ⟨p, 0, none⟩) L q (q + 1) p (p + 1) := by
  have e1 := obF_yes hb
  have hs1 := hb1.size
  have hI := inside_set5 w4 w.heap.size (.slice (some ⟨q, 0, none⟩) L fc) (.slice (some ⟨p, 0, none⟩) L L) c d e
  have hz := hI.size
  refine ⟨?_, ?_, by omega, by omega, by omega, by omega, by omega, ?_⟩
  · rw [e1, hL]; exact hF.inside hI (by omega)
  · rw [e1, hL]; exact hI0.inside hI (by omega)
  · exact (hb1.trans (hb4.mono (by omega))).trans (below_set5 (Below.refl _ _) _ _ _ _ _)
theorem news_at {ls : List Fl} {L g c : Nat} {w : World} (h : FsAt w ls (.slice (some ⟨g, 0, none⟩) L c)) (hL : ls.length = L) : News ls g w := by
  subst hL
  intro j u hj
  rw [show (⟨g, 0, none⟩ : Addr).add j = ⟨g, j, none⟩ by unfold Addr.add; by_cases hj0 : j = 0 <;> simp [hj0]]
  have hj2 := (List.getElem?_eq_some_iff.1 hj).1
  rw [cellsF_len] at hj2
  obtain ⟨b, o, cap2, ex, l1, ⟨x0, x1⟩⟩ := h.kid (j / 2) (by omega)
  have f1 : g = b ∧ 0 = o := by injection ex with e1 e2 e3; injection e1 with e1; injection e1 with e1 e2; exact ⟨e1, e2⟩
  obtain ⟨rfl, rfl⟩ := f1
  obtain ⟨c0, c1⟩ := cellsF_at ls (j / 2) (by omega)
  rw [Nat.zero_add] at x0 x1
  rcases Nat.mod_two_eq_zero_or_one j with hm | hm
  · have e : j / 2 * 2 = j := by omega
    rw [e] at x0 c0
    rw [x0, ← hj, c0]
  · have e : j / 2 * 2 + 1 = j := by omega
    rw [e] at x1 c1
    rw [x1, ← hj, c1]
theorem filesValid_spec2 (ls : List Fl) (a : Option Addr) (cap L : Nat) (w : World) (hL : ls.length = L) (hl : ls.length ≤ 2000000) (hcap : ls.length ≤ cap) (hcm : cap ≤ 9223372036854775807) (hz : FlSz ls) (h : FsAt w ls (.slice a L cap)) :
    Calls Tryd.prog 27 #[.slice a L cap] w fun e w' => e = .returned (.bool (filesB ls)) ∧ Below w.heap.size w w' := by
  subst hL; exact filesValid_spec ls a cap w hl hcap hcm hz h
end Go.Proofs.YtpihopmgckdigaaDoor

