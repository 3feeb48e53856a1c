/-
  OpenBase of the model; the exact laws' functions on a base without answers.
-/
import Derived.Test.YtkekghdkbbjhpaaDoorJb
import Derived.Maps.AppendAt
namespace Go.Proofs.YtkekghdkbbjhpaaDoor
open Go.RowKit
set_option linter.unusedVariables false
set_option linter.unusedSimpArgs false

theorem step_append_at {P : Program} {ops : Array Oper} {o : Oper} {a : Act} {w : World} {K : Act → World → Prop} {Q : Exit → Act → World → Prop} {E : Prop} (hg : o.guard = none) (s x : Operand) (t : TypeId)
    (ho : o.op = .call { callee := .builtin .append, args := #[s, x], argTypes := #[t, t] })
    (base : Nat) (e : TypeId) (i : TypeInfo) (z : Value) (size bytes : Nat) (ht : P.underlying t = some (.slice e)) (hi : P.info? e = some i) (hz : i.zero = some z)
    (hsize : i.size = size) (hby : i.bytes = bytes) (hzs : z.cells.size = size) (hsz : 0 < size)
    (v : Value) (n : Nat) (xs : List Value) (hs : a.eval s = v) (hown : w.ownsRow base e size v n xs)
    (ad : Addr) (m c : Nat) (news : List Value) (hx : a.eval x = .slice (some ad) m c) (hl : news.length = m * size) (hnews : ∀ j u, news[j]? = some u → w.cell? (ad.add j) = some u) (h1 : ∀ u ∈ news, u.oneCell' = true)
    (h63 : n + m ≤ maxLen) (hbytes : (n + m) * bytes ≤ 140737488355328) (hbase : base ≤ w.heap.size)
    (h : ∀ v' w', w'.ownsRow base e size v' (n + m) (xs ++ news) → w.grownBy w' v.ownBlock → (v' = .slice none 0 0 ↔ v = .slice none 0 0 ∧ m = 0) → (v'.ownBlock = v.ownBlock ∨ v'.ownBlock = some w.heap.size) → K (a.put o.dst v') w') :
    if Region.wanted o (yielded ops a.tmps) = true then Oper.wp P o a w K Q else E := by
  have hw : Region.wanted o (yielded ops a.tmps) = true := by simp [Region.wanted, hg]
  rw [if_pos hw]
  obtain ⟨v', w', hr, h2, h3, h4, h5⟩ := run_append_own_at (P := P) w base t o.type e i z size bytes ht hi hz hsize hby hzs hsz v n xs hown ad m c news hl hnews h1 h63 hbytes hbase
  unfold Oper.wp execOp
  simp only [ho, resolve, invoke, builtin, Sem.run_bind, Sem.run_pure, Result.andThen_ok, List.map_toArray, List.map_cons, List.map_nil, hs, hx, hr]
  exact h v' w' h2 h3 h4 h5
theorem own_pin {w : World} {lo sz n : Nat} {e : TypeId} {v : Value} {xs : List Value} (h : w.ownsRow lo e sz v n xs) (hnn : v ≠ .slice none 0 0) : ∃ q cap, v = .slice (some ⟨q, 0, none⟩) n cap ∧ OB w q (q + 1) e sz v n xs ∧ lo ≤ q ∧ q < w.heap.size := by
  obtain ⟨hl, ⟨h, _⟩ | ⟨g, cap, cur, rfl, hb', hg, h1, h2, h3, h4⟩⟩ := h
  · exact absurd h hnn
  · exact ⟨g, cap, rfl, ⟨⟨hl, .inr ⟨g, cap, cur, rfl, Nat.le_refl _, hg, h1, h2, h3, h4⟩⟩, fun q e => by injection e with e; subst e; exact Nat.lt_succ_self _⟩, hb', (Array.getElem?_eq_some_iff.1 hg).1⟩
theorem inside_grown {W w4 : World} {q : Nat} (h : W.grownBy w4 (some q)) : Inside q (q + 1) W w4 := ⟨h.os, h.tape, h.output, h.size, fun b hb hd => h.block b hb (fun e => by injection e with e; omega)⟩
abbrev lit0 : Obj := .cells #[] 60
abbrev ints0 (L : Nat) : Obj := .cells (zI L) 3
theorem litD1 (w1 : World) : ((w1.alloc lit0).drew).ownsRow w1.heap.size 60 2 (.slice (some ⟨w1.heap.size, 0, none⟩) 0 0) 0 [] := litO w1 (Nat.le_refl _)
theorem litD2 (w1 : World) (o : Obj) : (((w1.alloc lit0).alloc o).drew).ownsRow w1.heap.size 60 2 (.slice (some ⟨w1.heap.size, 0, none⟩) 0 0) 0 [] := (litO w1 (Nat.le_refl _)).alloc o
theorem litD3 (w1 : World) (o : Obj) : (((w1.alloc o).alloc lit0).drew).ownsRow w1.heap.size 60 2 (.slice (some ⟨w1.heap.size + 1, 0, none⟩) 0 0) 0 [] := by
  have h := litO (w1.alloc o) (base := w1.heap.size) (by rw [World.size_alloc]; omega)
  rw [World.size_alloc] at h
  exact h
abbrev News (ls : List Fl) (g : Nat) (w : World) : Prop := ∀ j u, (cellsF ls)[j]? = some u → w.cell? ((⟨g, 0, none⟩ : Addr).add j) = some u
theorem news_d1 {ls : List Fl} {g : Nat} {w1 : World} (h : News ls g w1) (o : Obj) : News ls g (w1.alloc o).drew := fun j u hj => Lib.cell?_alloc_some _ (h j u hj)
theorem news_d2 {ls : List Fl} {g : Nat} {w1 : World} (h : News ls g w1) (o p : Obj) : News ls g ((w1.alloc o).alloc p).drew := fun j u hj => Lib.cell?_alloc_some _ (Lib.cell?_alloc_some _ (h j u hj))
theorem le_d1 (w1 : World) (o : Obj) : w1.heap.size ≤ ((w1.alloc o).drew).heap.size := by rw [size_drw, World.size_alloc]; omega
theorem le_d2 (w1 : World) (o p : Obj) : w1.heap.size ≤ (((w1.alloc o).alloc p).drew).heap.size := by rw [size_drw, World.size_alloc, World.size_alloc]; omega
theorem not_nil {q L c : Nat} {v v' : Value} (h : v' = .slice none 0 0 ↔ v = .slice none 0 0 ∧ L = 0) (hv : v = .slice (some ⟨q, 0, none⟩) 0 c) : v' ≠ .slice none 0 0 := by
  intro e
  have := (h.1 e).1
  rw [hv] at this
  cases this
theorem ap_o1 {w1 w4 : World} {ls : List Fl} {L : Nat} {v' : Value} (hL : ls.length = L) (hown : w4.ownsRow w1.heap.size 60 2 v' (0 + L) ([] ++ cellsF ls)) (hgrow : ((w1.alloc lit0).drew).grownBy w4 (some w1.heap.size)) (hnn : v' ≠ .slice none 0 0) :
    ∃ q fc, v' = .slice (some ⟨q, 0, none⟩) L fc ∧ FO w4 q (q + 1) v' ls ∧ w1.heap.size ≤ q ∧ q < w4.heap.size ∧ Below w1.heap.size w1 w4 := by
  rw [Nat.zero_add, List.nil_append] at hown
  obtain ⟨q, cap, rfl, hO, h1, h2⟩ := own_pin hown hnn
  refine ⟨q, cap, rfl, by unfold FO; rw [hL]; exact hO, h1, h2, ?_⟩
  exact (below_da w1 lit0).grown hgrow (le_d1 _ _) (fun k hk => by injection hk with hk; omega)
theorem ap_o2 {w1 w4 : World} {ls : List Fl} {L : Nat} {v' : Value} (hL : ls.length = L) (hl : L ≤ 1000) (hown : w4.ownsRow w1.heap.size 60 2 v' (0 + L) ([] ++ cellsF ls)) (hgrow : (((w1.alloc lit0).alloc (ints0 L)).drew).grownBy w4 (some w1.heap.size)) (hnn : v' ≠ .slice none 0 0)
    (hat : v'.ownBlock = some w1.heap.size ∨ v'.ownBlock = some (((w1.alloc lit0).alloc (ints0 L)).drew).heap.size) :
    ∃ q fc, v' = .slice (some ⟨q, 0, none⟩) L fc ∧ FO w4 q (q + 1) v' ls ∧ w1.heap.size ≤ q ∧ q < w4.heap.size ∧ Below w1.heap.size w1 w4 ∧ IO w4 (w1.heap.size + 1) (w1.heap.size + 2) (.slice (some ⟨w1.heap.size + 1, 0, none⟩) L L) (zs0 L) ∧ q ≠ w1.heap.size + 1 ∧ w1.heap.size + 1 < w4.heap.size := by
  rw [Nat.zero_add, List.nil_append] at hown
  rw [size_drw, World.size_alloc, World.size_alloc] at hat
  obtain ⟨q, cap, rfl, hO, h1, h2⟩ := own_pin hown hnn
  have hs := hgrow.size
  rw [size_drw, World.size_alloc, World.size_alloc] at hs
  have hio := io_new (w1.alloc lit0) L (by omega)
  rw [World.size_alloc] at hio
  have hio2 : IO (((w1.alloc lit0).alloc (ints0 L)).drew) (w1.heap.size + 1) (w1.heap.size + 2) (.slice (some ⟨w1.heap.size + 1, 0, none⟩) L L) (zs0 L) := IO.kept hio (Below.refl _ _).drew
  refine ⟨q, cap, rfl, by unfold FO; rw [hL]; exact hO, h1, h2, ?_, hio2.inside (inside_grown hgrow) (by omega), ?_, by omega⟩
  · exact (((Below.refl w1.heap.size w1).alloc (Nat.le_refl _) lit0).alloc (by rw [World.size_alloc]; omega) (ints0 L)).drew.grown hgrow (le_d2 _ _ _) (fun k hk => by injection hk with hk; omega)
  · rcases hat with h | h <;> (simp [Value.ownBlock] at h; omega)
theorem ap_o3 {w1 w4 : World} {ls : List Fl} {L : Nat} {v' : Value} (hL : ls.length = L) (hl : L ≤ 1000) (hown : w4.ownsRow w1.heap.size 60 2 v' (0 + L) ([] ++ cellsF ls)) (hgrow : (((w1.alloc (ints0 L)).alloc lit0).drew).grownBy w4 (some (w1.heap.size + 1))) (hnn : v' ≠ .slice none 0 0)
    (hat : v'.ownBlock = some (w1.heap.size + 1) ∨ v'.ownBlock = some (((w1.alloc (ints0 L)).alloc lit0).drew).heap.size) :
    ∃ q fc, v' = .slice (some ⟨q, 0, none⟩) L fc ∧ FO w4 q (q + 1) v' ls ∧ w1.heap.size ≤ q ∧ q < w4.heap.size ∧ Below w1.heap.size w1 w4 ∧ IO w4 w1.heap.size (w1.heap.size + 1) (.slice (some ⟨w1.heap.size, 0, none⟩) L L) (zs0 L) ∧ q ≠ w1.heap.size ∧ w1.heap.size < w4.heap.size := by
  rw [Nat.zero_add, List.nil_append] at hown
  rw [size_drw, World.size_alloc, World.size_alloc] at hat
  obtain ⟨q, cap, rfl, hO, h1, h2⟩ := own_pin hown hnn
  have hs := hgrow.size
  rw [size_drw, World.size_alloc, World.size_alloc] at hs
  have hio := (io_new w1 L (by omega)).kept ((Below.refl (w1.alloc (ints0 L)).heap.size (w1.alloc (ints0 L))).alloc (Nat.le_refl _) lit0)
  have hio2 : IO (((w1.alloc (ints0 L)).alloc lit0).drew) w1.heap.size (w1.heap.size + 1) (.slice (some ⟨w1.heap.size, 0, none⟩) L L) (zs0 L) := IO.kept hio (Below.refl _ _).drew
  refine ⟨q, cap, rfl, by unfold FO; rw [hL]; exact hO, h1, h2, ?_, hio2.inside (inside_grown hgrow) (by omega), ?_, by omega⟩
  · exact (((Below.refl w1.heap.size w1).alloc (Nat.le_refl _) (ints0 L)).alloc (by rw [World.size_alloc]; omega) lit0).drew.grown hgrow (le_d2 _ _ _) (fun k hk => by injection hk with hk; omega)
  · rcases hat with h | h <;> (simp [Value.ownBlock] at h; omega)
/-- Both rows lie there. -/
theorem ob_c {ls : List Fl} {L q p : Nat} {w w1 w4 : World} {fc : Nat} {c d e : Value} (hb : filesB ls = true) (hL : ls.length = L) (hb1 : Below w.heap.size w w1) (hT : w.heap.size < w1.heap.size) (hb4 : Below w1.heap.size w1 w4)
    (hF : FO w4 q (q + 1) (.slice (some ⟨q, 0, none⟩) L fc) ls) (hI0 : IO w4 p (p + 1) (.slice (some ⟨p, 0, none⟩) L L) (zs0 L)) (h1 : w1.heap.size ≤ q) (h2 : q < w4.heap.size) (h3 : w1.heap.size ≤ p) (h4 : p < w4.heap.size) (hne : q ≠ p) :
    ObR ls w (set5 w4 w.heap.size (.slice (some ⟨q, 0, none⟩) L fc) (.slice (some ⟨p, 0, none⟩) L L) c d e) (some ⟨q, 0, none⟩) fc (some ⟨p, 0, none⟩) L q (q + 1) p (p + 1) := by
  have e1 := obF_yes hb
  have hs1 := hb1.size
  have hI := inside_set5 w4 w.heap.size (.slice (some ⟨q, 0, none⟩) L fc) (.slice (some ⟨p, 0, none⟩) L L) c d e
  have hz := hI.size
  refine ⟨?_, ?_, by omega, by omega, by omega, by omega, by omega, ?_⟩
  · rw [e1, hL]; exact hF.inside hI (by omega)
  · rw [e1, hL]; exact hI0.inside hI (by omega)
  · exact (hb1.trans (hb4.mono (by omega))).trans (below_set5 (Below.refl _ _) _ _ _ _ _)
theorem news_at {ls : List Fl} {L g c : Nat} {w : World} (h : FsAt w ls (.slice (some ⟨g, 0, none⟩) L c)) (hL : ls.length = L) : News ls g w := by
  subst hL
  intro j u hj
  rw [show (⟨g, 0, none⟩ : Addr).add j = ⟨g, j, none⟩ by unfold Addr.add; by_cases hj0 : j = 0 <;> simp [hj0]]
  have hj2 := (List.getElem?_eq_some_iff.1 hj).1
  rw [cellsF_len] at hj2
  obtain ⟨b, o, cap2, ex, l1, ⟨x0, x1⟩⟩ := h.kid (j / 2) (by omega)
  have f1 : g = b ∧ 0 = o := by injection ex with e1 e2 e3; injection e1 with e1; injection e1 with e1 e2; exact ⟨e1, e2⟩
  obtain ⟨rfl, rfl⟩ := f1
  obtain ⟨c0, c1⟩ := cellsF_at ls (j / 2) (by omega)
  rw [Nat.zero_add] at x0 x1
  rcases Nat.mod_two_eq_zero_or_one j with hm | hm
  · have e : j / 2 * 2 = j := by omega
    rw [e] at x0 c0
    rw [x0, ← hj, c0]
  · have e : j / 2 * 2 + 1 = j := by omega
    rw [e] at x1 c1
    rw [x1, ← hj, c1]
theorem filesValid_spec2 (ls : List Fl) (a : Option Addr) (cap L : Nat) (w : World) (hL : ls.length = L) (hl : ls.length ≤ 2000000) (hcap : ls.length ≤ cap) (hcm : cap ≤ 2000000) (hz : FlSz ls) (h : FsAt w ls (.slice a L cap)) :
    Calls Tryd.prog 29 #[.slice a L cap] w fun e w' => e = .returned (.bool (filesB ls)) ∧ Below w.heap.size w w' := by
  subst hL; exact filesValid_spec ls a cap w hl hcap hcm hz h
set_option maxRecDepth 100000 in
set_option maxHeartbeats 1000000 in
theorem openBase_spec (ls : List Fl) (hl : ls.length ≤ 2000000) (hz : FlSz ls) (g c : Nat) (hcap : ls.length ≤ c) (hcm : c ≤ 2000000) (w : World) (h : FO w g (g + 1) (.slice (some ⟨g, 0, none⟩) ls.length c) ls) :
    Calls Tryd.prog 12 #[.slice (some ⟨g, 0, none⟩) ls.length c] w (ObPost ls w) := by
  have H := Lib.hid h
  have HZ : Hid (FlSz ls) := Lib.hid hz
  have hgw : g < w.heap.size ∨ ls.length = 0 := by
    rcases Nat.eq_zero_or_pos ls.length with h0 | h0
    · exact .inr h0
    · obtain ⟨g2, c2, e, _, _, h2⟩ := OB.blk h h0
      have : g = g2 := by injection e with e; injection e with e; injection e
      exact .inl (by omega)
  have HGW := Lib.hid hgw
  obtain ⟨b, hb⟩ : ∃ b, filesB ls = b := ⟨_, rfl⟩
  have HB := Lib.hid hb
  obtain ⟨L, hL⟩ : ∃ L, ls.length = L := ⟨_, rfl⟩
  have HL := Lib.hid hL
  have HLM : Hid (ls.length ≤ 2000000) := Lib.hid hl
  have HCB : Hid (ls.length ≤ c) := Lib.hid hcap
  rw [hL] at hl hcap H ⊢
  clear h hz hgw hL
  have hA := (Below.refl w.heap.size w).alloc (Nat.le_refl _) (.cells #[.slice none 0 0, .slice none 0 0, .int .i64 0, .slice none 0 0, .int .i64 0] 33)
  have HX := Lib.hid (Bx.new w (.slice none 0 0) (.slice none 0 0))
  have HA := Lib.hid hA
  have HF : Hid (FsAt (w.alloc (.cells #[.slice none 0 0, .slice none 0 0, .int .i64 0, .slice none 0 0, .int .i64 0] 33)) ls (.slice (some ⟨g, 0, none⟩) L c)) := Lib.hid (H.out.at.kept hA)
  clear hA
  cases b with
  | false =>
    clear hb
    go_enter Tryd.func12, Tryd.ntmps12
    go_wp2_with fail
    go_at_call 29
    refine (filesValid_spec2 ls (some ⟨g, 0, none⟩) c L _ HL.out HLM.out HCB.out hcm HZ.out HF.out).mono ?_
    rintro e w1 ⟨rfl, hb1⟩
    rw [HB.out]
    have HB1 := Lib.hid (HA.out.trans (hb1.mono (by simp)))
    obtain ⟨t0, t1, t2, t3, t4, f0, f1, f2, f3, f4, tz⟩ := HX.out.kept hb1
    clear hb1
    go_wp2_with fail
    exact bodyPost_ret (v := .tuple #[.agg #[.slice none 0 0, .slice none 0 0, .int .i64 0, .slice none 0 0, .int .i64 0], .bool false]) (by simp [results, Tryd.results12, go_sem, t0, t1, t2, t3, t4]) rfl (ob_none HB.out (below_set5 HB1.out _ _ _ _ _))
  | true =>
    have hl4 : L ≤ 4 := by rw [← HL.out]; exact filesB_le hb
    clear hb
    have hmk := makeI_run L (by omega)
    go_enter Tryd.func12, Tryd.ntmps12
    go_wp2_with fail
    go_at_call 29
    refine (filesValid_spec2 ls (some ⟨g, 0, none⟩) c L _ HL.out HLM.out HCB.out hcm HZ.out HF.out).mono ?_
    rintro e w1 ⟨rfl, hb1⟩
    rw [HB.out]
    have HB1 := Lib.hid (HA.out.trans (hb1.mono (by simp)))
    have HF1 := Lib.hid (HF.out.kept hb1)
    obtain ⟨t0, t1, t2, t3, t4, f0, f1, f2, f3, f4, tz⟩ := HX.out.kept hb1
    clear hb1
    go_wp2_with fail
    obtain ⟨i0, hi0, hz0, hz1, hz2⟩ := info_parts Tryd.infoFile
    have HCL : Hid ((cellsF ls).length = L * 2) := Lib.hid (by rw [cellsF_len, HL.out])
    have HN : Hid (News ls g w1) := Lib.hid (news_at HF1.out HL.out)
    go_cut [3] (fun p wx => p = .bool true ∧ ∃ fa fc ia ic lf hf li hi, Hid (ObR ls w wx fa fc ia ic lf hf li hi) ∧ Hid (Bx wx w.heap.size (.slice fa L fc) (.slice ia L ic)))
    case first =>
      go_region_law (first
        | (refine step_append_at (by rfl) _ _ _ (by rfl) w1.heap.size 60 i0 _ 2 32 Tryd.underlying26 hi0 hz0 hz1 hz2 rfl (by omega) (.slice (some ⟨w1.heap.size, 0, none⟩) 0 0) 0 [] (by rfl) (by with_reducible exact litD1 w1) ⟨g, 0, none⟩ L c (cellsF ls) (by rfl) HCL.out (by with_reducible exact news_d1 HN.out _) cellsF_one (by unfold maxLen; omega) (by omega) (by with_reducible exact le_d1 _ _) ?_; intro v' w4 hown hgrow hnil hat; have hnn := not_nil hnil rfl; obtain ⟨q, fc, rfl, hF4, hq1, hq2, hb4⟩ := ap_o1 HL.out hown hgrow hnn; have HB4 := Lib.hid hb4; have HF4 := Lib.hid hF4; have HQ1 := Lib.hid hq1; have HQ2 := Lib.hid hq2; have HQ5 : Hid (q + 1 ≤ w4.heap.size) := Lib.hid hq2; clear hown hgrow hnil hat hnn hF4 hb4 hq1 hq2; have t40 := (HB4.out.cell (p := ⟨w.heap.size, 0, none⟩) tz).trans t0; have t41 := (HB4.out.cell (p := ⟨w.heap.size, 1, none⟩) tz).trans t1; have t42 := (HB4.out.cell (p := ⟨w.heap.size, 2, none⟩) tz).trans t2; have t43 := (HB4.out.cell (p := ⟨w.heap.size, 3, none⟩) tz).trans t3; have t44 := (HB4.out.cell (p := ⟨w.heap.size, 4, none⟩) tz).trans t4; have f40 := (HB4.out.frozen (p := ⟨w.heap.size, 0, none⟩) tz).trans f0; have f41 := (HB4.out.frozen (p := ⟨w.heap.size, 1, none⟩) tz).trans f1; have f42 := (HB4.out.frozen (p := ⟨w.heap.size, 2, none⟩) tz).trans f2; have f43 := (HB4.out.frozen (p := ⟨w.heap.size, 3, none⟩) tz).trans f3; have f44 := (HB4.out.frozen (p := ⟨w.heap.size, 4, none⟩) tz).trans f4; have tz4 : w.heap.size < w4.heap.size := Nat.lt_of_lt_of_le tz HB4.out.size)
        | (refine step_append_at (by rfl) _ _ _ (by rfl) w1.heap.size 60 i0 _ 2 32 Tryd.underlying26 hi0 hz0 hz1 hz2 rfl (by omega) (.slice (some ⟨w1.heap.size, 0, none⟩) 0 0) 0 [] (by rfl) (by with_reducible exact litD2 w1 _) ⟨g, 0, none⟩ L c (cellsF ls) (by rfl) HCL.out (by with_reducible exact news_d2 HN.out _ _) cellsF_one (by unfold maxLen; omega) (by omega) (by with_reducible exact le_d2 _ _ _) ?_; intro v' w4 hown hgrow hnil hat; have hnn := not_nil hnil rfl; obtain ⟨q, fc, rfl, hF4, hq1, hq2, hb4, hI4, hq3, hq4⟩ := ap_o2 HL.out (by omega) hown hgrow hnn hat; have HI4 := Lib.hid hI4; have HQ3 := Lib.hid hq3; have HQ4 := Lib.hid hq4; clear hI4 hq3 hq4; have HB4 := Lib.hid hb4; have HF4 := Lib.hid hF4; have HQ1 := Lib.hid hq1; have HQ2 := Lib.hid hq2; have HQ5 : Hid (q + 1 ≤ w4.heap.size) := Lib.hid hq2; clear hown hgrow hnil hat hnn hF4 hb4 hq1 hq2; have t40 := (HB4.out.cell (p := ⟨w.heap.size, 0, none⟩) tz).trans t0; have t41 := (HB4.out.cell (p := ⟨w.heap.size, 1, none⟩) tz).trans t1; have t42 := (HB4.out.cell (p := ⟨w.heap.size, 2, none⟩) tz).trans t2; have t43 := (HB4.out.cell (p := ⟨w.heap.size, 3, none⟩) tz).trans t3; have t44 := (HB4.out.cell (p := ⟨w.heap.size, 4, none⟩) tz).trans t4; have f40 := (HB4.out.frozen (p := ⟨w.heap.size, 0, none⟩) tz).trans f0; have f41 := (HB4.out.frozen (p := ⟨w.heap.size, 1, none⟩) tz).trans f1; have f42 := (HB4.out.frozen (p := ⟨w.heap.size, 2, none⟩) tz).trans f2; have f43 := (HB4.out.frozen (p := ⟨w.heap.size, 3, none⟩) tz).trans f3; have f44 := (HB4.out.frozen (p := ⟨w.heap.size, 4, none⟩) tz).trans f4; have tz4 : w.heap.size < w4.heap.size := Nat.lt_of_lt_of_le tz HB4.out.size)
        | (refine step_append_at (by rfl) _ _ _ (by rfl) w1.heap.size 60 i0 _ 2 32 Tryd.underlying26 hi0 hz0 hz1 hz2 rfl (by omega) (.slice (some ⟨w1.heap.size + 1, 0, none⟩) 0 0) 0 [] (by rfl) (by with_reducible exact litD3 w1 _) ⟨g, 0, none⟩ L c (cellsF ls) (by rfl) HCL.out (by with_reducible exact news_d2 HN.out _ _) cellsF_one (by unfold maxLen; omega) (by omega) (by with_reducible exact le_d2 _ _ _) ?_; intro v' w4 hown hgrow hnil hat; have hnn := not_nil hnil rfl; obtain ⟨q, fc, rfl, hF4, hq1, hq2, hb4, hI4, hq3, hq4⟩ := ap_o3 HL.out (by omega) hown hgrow hnn hat; have HI4 := Lib.hid hI4; have HQ3 := Lib.hid hq3; have HQ4 := Lib.hid hq4; clear hI4 hq3 hq4; have HB4 := Lib.hid hb4; have HF4 := Lib.hid hF4; have HQ1 := Lib.hid hq1; have HQ2 := Lib.hid hq2; have HQ5 : Hid (q + 1 ≤ w4.heap.size) := Lib.hid hq2; clear hown hgrow hnil hat hnn hF4 hb4 hq1 hq2; have t40 := (HB4.out.cell (p := ⟨w.heap.size, 0, none⟩) tz).trans t0; have t41 := (HB4.out.cell (p := ⟨w.heap.size, 1, none⟩) tz).trans t1; have t42 := (HB4.out.cell (p := ⟨w.heap.size, 2, none⟩) tz).trans t2; have t43 := (HB4.out.cell (p := ⟨w.heap.size, 3, none⟩) tz).trans t3; have t44 := (HB4.out.cell (p := ⟨w.heap.size, 4, none⟩) tz).trans t4; have f40 := (HB4.out.frozen (p := ⟨w.heap.size, 0, none⟩) tz).trans f0; have f41 := (HB4.out.frozen (p := ⟨w.heap.size, 1, none⟩) tz).trans f1; have f42 := (HB4.out.frozen (p := ⟨w.heap.size, 2, none⟩) tz).trans f2; have f43 := (HB4.out.frozen (p := ⟨w.heap.size, 3, none⟩) tz).trans f3; have f44 := (HB4.out.frozen (p := ⟨w.heap.size, 4, none⟩) tz).trans f4; have tz4 : w.heap.size < w4.heap.size := Nat.lt_of_lt_of_le tz HB4.out.size)
        | fail)
      all_goals go_wp2_with fail
      all_goals go_meet
      all_goals first
        | with_reducible exact ⟨rfl, _, _, _, _, _, _, _, _, Lib.hid (ob_a HB.out HL.out hl4 HB1.out tz HB4.out HF4.out HQ1.out HQ5.out), Lib.hid (bx_al (bx_set5 ⟨t40, t41, t42, t43, t44, f40, f41, f42, f43, f44, tz4⟩ _ _) _)⟩
        | with_reducible exact ⟨rfl, _, _, _, _, _, _, _, _, Lib.hid (ob_c HB.out HL.out HB1.out tz HB4.out HF4.out HI4.out HQ1.out HQ2.out (Nat.le_succ _) HQ4.out HQ3.out), Lib.hid (bx_set5 ⟨t40, t41, t42, t43, t44, f40, f41, f42, f43, f44, tz4⟩ _ _)⟩
        | with_reducible exact ⟨rfl, _, _, _, _, _, _, _, _, Lib.hid (ob_c HB.out HL.out HB1.out tz HB4.out HF4.out HI4.out HQ1.out HQ2.out (Nat.le_refl _) HQ4.out HQ3.out), Lib.hid (bx_set5 ⟨t40, t41, t42, t43, t44, f40, f41, f42, f43, f44, tz4⟩ _ _)⟩
    case rest =>
      obtain ⟨rfl, fa, fc, ia, ic, lf, hf, li, hi, HR, HX2⟩ := hcut
      clear t0 t1 t2 t3 t4 f0 f1 f2 f3 f4
      obtain ⟨t0, t1, t2, t3, t4, _, _, _, _, _, _⟩ := HX2.out
      go_wp2_with fail
      exact bodyPost_ret (v := .tuple #[.agg #[.slice fa L fc, .slice ia L ic, .int .i64 0, .slice none 0 0, .int .i64 0], .bool true]) (by simp [results, Tryd.results12, go_sem, t0, t1, t2, t3, t4]) rfl ⟨fa, fc, ia, ic, lf, hf, li, hi, by rw [obF_yes HB.out, HL.out, HB.out], HR.out⟩
set_option maxHeartbeats 400000 in
theorem eqMemoS_none (w : World) : Calls Tryd.prog 35 #[.slice none 0 0, .slice none 0 0] w fun e w' => e = .returned (.bool true) ∧ w' = w := by
  go_enter Tryd.func35, Tryd.ntmps35
  go_wp2_with fail
  go_loopw [5] (fun i wr => i = .int .i64 0 ∧ wr = w) (fun i _ => 0)
  case atStart => exact ⟨rfl, rfl⟩
  case round =>
    obtain ⟨rfl, rfl⟩ := hrel
    go_wp2_with fail
    go_ret
    exact ⟨rfl, rfl⟩
set_option maxHeartbeats 400000 in
theorem markMemoS_none (K : Int) (w : World) : Calls Tryd.prog 38 #[.slice none 0 0, .int .i64 K] w fun e w' => e = .returned (.int .i64 K) ∧ w' = w := by
  go_enter Tryd.func38, Tryd.ntmps38
  go_wp2_with fail
  go_loopw [1, 5] (fun m i wr => m = .int .i64 K ∧ i = .int .i64 0 ∧ wr = w) (fun _ i _ => 0)
  case atStart => exact ⟨rfl, rfl, rfl⟩
  case round =>
    obtain ⟨rfl, rfl, rfl⟩ := hrel
    go_wp2_with fail
    go_ret
    exact ⟨rfl, rfl⟩
set_option maxHeartbeats 400000 in
theorem heldMemoS_none (K : Int) (w : World) : Calls Tryd.prog 41 #[.slice none 0 0, .int .i64 K] w fun e w' => e = .returned (.int .i64 K) ∧ w' = w := by
  go_enter Tryd.func41, Tryd.ntmps41
  go_wp2_with fail
  go_loopw [1, 5] (fun m i wr => m = .int .i64 K ∧ i = .int .i64 0 ∧ wr = w) (fun _ i _ => 0)
  case atStart => exact ⟨rfl, rfl, rfl⟩
  case round =>
    obtain ⟨rfl, rfl, rfl⟩ := hrel
    go_wp2_with fail
    go_ret
    exact ⟨rfl, rfl⟩
end Go.Proofs.YtkekghdkbbjhpaaDoor
