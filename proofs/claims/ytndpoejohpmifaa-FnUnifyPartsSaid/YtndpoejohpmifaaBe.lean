/-
  The union-find under TypeSame: join.
-/
import Derived.Test.YtndpoejohpmifaaBd
import Derived.Deep.RegionLaw
import Derived.Deep.DeepCutAuto
namespace Go.Proofs.Ytndpoejohpmifaa
open Go.RowKit
set_option linter.unusedVariables false
set_option linter.unusedSimpArgs false
theorem good_rep {w : World} {bm : Nat} {M : List (KV × KV)} {rep : KV → KV} {dp : KV → Nat} (hu : UG w bm M) (hf : UF M rep dp) : ∀ (n : Nat) (k : KV), dp k < n → Good bm w k → Good bm w (rep k) := by
  intro n
  induction n with
  | zero => intro k hk; omega
  | succ n ih =>
    intro k hk hg
    rcases hl : look k M with _ | p
    · rw [hf.top k hl]; exact hg
    · obtain ⟨a1, a2⟩ := hf.up k p hl
      rw [← a1]; exact ih p (by omega) (hu.good hl)
/-- Where join stands: both leaders lie in its variables. -/
structure JS (w : World) (S bm : Nat) (wr : World) (x y a b : KV) (M : List (KV × KV)) : Prop where
  hx : KB wr (S + 1) x
  hy : KB wr (S + 1 + 1) y
  hm : wr.cell? ⟨S, 0, none⟩ = some (.map (some bm))
  hu : UG wr bm M
  ha : Good bm wr a
  hb : Good bm wr b
  hin : Inside bm (bm + 1) w wr
  hsz : S + 3 ≤ wr.heap.size
theorem JS.set {w : World} {S bm : Nat} {wr : World} {x y a b : KV} {M : List (KV × KV)} (h : JS w S bm wr x y a b M) (hS : w.heap.size = S) (hb : bm < S) (p q : KV) :
    JS w S bm ((((wr.setCell ⟨S + 1, 0, none⟩ (.pointer (some ⟨p.1, p.2.1, none⟩))).setCell ⟨S + 1, 1, none⟩ (.int .i64 (p.2.2 : Int))).setCell ⟨S + 1 + 1, 0, none⟩ (.pointer (some ⟨q.1, q.2.1, none⟩))).setCell ⟨S + 1 + 1, 1, none⟩ (.int .i64 (q.2.2 : Int))) p q a b M := by
  obtain ⟨W, hW⟩ : ∃ W, (wr.setCell ⟨S + 1, 0, none⟩ (.pointer (some ⟨p.1, p.2.1, none⟩))).setCell ⟨S + 1, 1, none⟩ (.int .i64 (p.2.2 : Int)) = W := ⟨_, rfl⟩
  have e1 : ∀ b, b ≠ S + 1 → W.heap[b]? = wr.heap[b]? := fun b hb => by rw [← hW]; exact (heap_setCell_other _ ⟨S + 1, 1, none⟩ b _ hb).trans (heap_setCell_other _ ⟨S + 1, 0, none⟩ b _ hb)
  have hx1 : KB W (S + 1) p := by rw [← hW]; exact h.hx.set p
  have sz1 : W.heap.size = wr.heap.size := by rw [← hW]; simp
  have hy1 : KB W (S + 1 + 1) y := h.hy.keep (by omega) (e1 _ (by omega))
  have hu1 : UG W bm M := by rw [← hW]; exact ug_set (ug_set h.hu _ (by omega)) _ (by omega)
  have ga1 : Good bm W a := by rw [← hW]; exact good_set (good_set h.ha _ _ _) _ _ _
  have gb1 : Good bm W b := by rw [← hW]; exact good_set (good_set h.hb _ _ _) _ _ _
  have hi1 : Inside bm (bm + 1) w W := by rw [← hW]; exact in_set (in_set h.hin (by omega) _) (by omega) _
  rw [hW]
  have e2 : ∀ b, b ≠ S + 1 + 1 → ((W.setCell ⟨S + 1 + 1, 0, none⟩ (.pointer (some ⟨q.1, q.2.1, none⟩))).setCell ⟨S + 1 + 1, 1, none⟩ (.int .i64 (q.2.2 : Int))).heap[b]? = W.heap[b]? := fun b hb => (heap_setCell_other _ ⟨S + 1 + 1, 1, none⟩ b _ hb).trans (heap_setCell_other _ ⟨S + 1 + 1, 0, none⟩ b _ hb)
  exact ⟨hx1.keep (by simp) (e2 _ (by omega)), hy1.set q, (cellEq (e2 S (by omega))).trans ((cellEq (e1 S (by omega))).trans h.hm), ug_set (ug_set hu1 _ (by omega)) _ (by omega), good_set (good_set ga1 _ _ _) _ _ _, good_set (good_set gb1 _ _ _) _ _ _, in_set (in_set hi1 (by omega) _) (by omega) _, by simp [sz1]; exact h.hsz⟩
theorem eqGuardK : Try.prog.eqGuardType Try.prog.depth 63 = false := by kernel_rfl
set_option maxRecDepth 100000 in
set_option maxHeartbeats 16000000 in
theorem join_any (bm : Nat) (M0 : List (KV × KV)) (rep : KV → KV) (dp : KV → Nat) (a b : KV) (w : World) (hu : UG w bm M0) (hf : UF M0 rep dp) (ha : Good bm w a) (hb : Good bm w b) :
    Calls Try.prog 46 #[.agg #[.map (some bm)], .agg #[.pointer (some ⟨a.1, a.2.1, none⟩), .int .i64 (a.2.2 : Int)], .agg #[.pointer (some ⟨b.1, b.2.1, none⟩), .int .i64 (b.2.2 : Int)]] w fun e w' => Inside bm (bm + 1) w w' ∧ ((rep a = rep b ∧ e = .returned (.bool false) ∧ ∃ M, UG w' bm M ∧ UF M rep dp) ∨ (rep a ≠ rep b ∧ e = .returned (.bool true) ∧ ∃ M, UG w' bm M ∧ UF M (repJ rep (rep a) (rep b)) (fun k => if rep k = rep a then dp k + dp (rep b) + 1 else dp k))) := by
  obtain ⟨S, hS⟩ : ∃ S, w.heap.size = S := ⟨_, rfl⟩
  have HS := Lib.hid hS
  have hbm : bm < S := by rw [← hS]; exact hu.m.lt
  obtain ⟨W1, hW1⟩ : ∃ W1, ((w.alloc (.cells #[.map (some bm)] 59)).alloc (.cells #[.pointer (some ⟨a.1, a.2.1, none⟩), .int .i64 (a.2.2 : Int)] 63)).alloc (.cells #[.pointer (some ⟨b.1, b.2.1, none⟩), .int .i64 (b.2.2 : Int)] 63) = W1 := ⟨_, rfl⟩
  have hB1 : Below w.heap.size w W1 := by rw [← hW1]; exact (((Below.refl _ _).alloc (Nat.le_refl _) _).alloc (by simp) _).alloc (by simp; omega) _
  have hz1 : W1.heap.size = S + 3 := by rw [← hW1, ← hS]; simp
  have HU1 := Lib.hid (hu.kept hB1)
  have HF := Lib.hid hf
  have HGA := Lib.hid (ha.kept hB1)
  have HGB := Lib.hid (hb.kept hB1)
  have HI1 : Hid (Inside bm (bm + 1) w W1) := Lib.hid (in_below hB1)
  have HA1 : Hid (KB W1 (S + 1) a) := Lib.hid (by
    have h := (kb_new (w.alloc (.cells #[.map (some bm)] 59)) a 63).kept ((Below.refl _ _).alloc (Nat.le_refl _) (.cells #[.pointer (some ⟨b.1, b.2.1, none⟩), .int .i64 (b.2.2 : Int)] 63))
    rw [sizeA', hW1, hS] at h; exact h)
  have HB1 : Hid (KB W1 (S + 1 + 1) b) := Lib.hid (by
    have h := kb_new ((w.alloc (.cells #[.map (some bm)] 59)).alloc (.cells #[.pointer (some ⟨a.1, a.2.1, none⟩), .int .i64 (a.2.2 : Int)] 63)) b 63
    rw [sizeA', sizeA', hW1, hS] at h; exact h)
  have c1 : W1.cell? ⟨S, 0, none⟩ = some (.map (some bm)) := by
    rw [← hW1, ← hS]
    refine (((Below.refl _ _).alloc (Nat.le_refl _) _).cell (p := ⟨w.heap.size, 0, none⟩) (by simp; omega)).trans ?_
    refine (((Below.refl _ _).alloc (Nat.le_refl _) _).cell (p := ⟨w.heap.size, 0, none⟩) (by simp)).trans ?_
    exact cell_fresh' w _ _
  have hq0 : S < W1.heap.size := by omega
  have hq1 : bm + 1 ≤ S + 1 := by omega
  have hq2 : bm + 1 ≤ S + 1 + 1 := by omega
  have hq3 : bm + 1 ≤ S := by omega
  have HW1 := Lib.hid hW1
  clear hu hf ha hb hB1 hW1
  go_enter Try.func46, Try.ntmps46
  go_wp2_with fail
  rw [HW1.out]
  clear hS hz1
  obtain ⟨xa0, xa1, xa2, xa3, xa4⟩ := HA1.out
  obtain ⟨xb0, xb1, xb2, xb3, xb4⟩ := HB1.out
  go_cut [] (fun wx => ∃ M, Hid (JS w S bm wx (rep a) (rep b) a b M) ∧ Hid (UF M rep dp))
  case first =>
    go_region_law (first
      | (go_simp; go_at_call 79; have hgd := HU2; clear hgd; refine (leader_any bm M2 rep dp b _ (HU2.out.kept (by first | exact Below.refl _ _ | exact (Below.refl _ _).drew)) HF2.out (HGB2.out.kept (by first | exact Below.refl _ _ | exact (Below.refl _ _).drew))).mono ?_; rintro e w3 ⟨rfl, hin, M3, hu3, hf3⟩; have hin3 : Inside bm (bm + 1) w2 w3 := (in_below (lo := bm) (hi := bm + 1) (w := w2) (by first | exact Below.refl _ _ | exact (Below.refl _ _).drew)).trans hin; have HU3 := Lib.hid hu3; have HF3 := Lib.hid hf3; have HI3 := Lib.hid (HI2.out.trans hin3); have HGB3 := Lib.hid (HGB2.out.keep (hin3.block _ HGB2.out.lt (by have := HGB2.out.ne HU2.out.m; omega))); have HGA3 := Lib.hid (HGA2.out.keep (hin3.block _ HGA2.out.lt (by have := HGA2.out.ne HU2.out.m; omega))); have HA3 := Lib.hid (HA2.out.keep hin3.size (hin3.block _ HA2.out.sz (.inr hq1))); have HB3 := Lib.hid (HB2.out.keep hin3.size (hin3.block _ HB2.out.sz (.inr hq2))); have c3 := (cellEq (i := 0) (hin3.block S (Nat.lt_of_lt_of_le hq0 hs2) (.inr hq3))).trans c2; obtain ⟨za0, za1, za2, za3, za4⟩ := HA3.out; obtain ⟨zb0, zb1, zb2, zb3, zb4⟩ := HB3.out; have hs3 : w2.heap.size ≤ w3.heap.size := hin3.size; clear hin hin3 hu3 hf3)
      | (go_simp; go_at_call 79; refine (leader_any bm M0 rep dp a _ (HU1.out.kept (by first | exact Below.refl _ _ | exact (Below.refl _ _).drew)) HF.out (HGA.out.kept (by first | exact Below.refl _ _ | exact (Below.refl _ _).drew))).mono ?_; rintro e w2 ⟨rfl, hin, M2, hu2, hf2⟩; have hin2 : Inside bm (bm + 1) W1 w2 := (in_below (lo := bm) (hi := bm + 1) (w := W1) (by first | exact Below.refl _ _ | exact (Below.refl _ _).drew)).trans hin; have HU2 := Lib.hid hu2; have HF2 := Lib.hid hf2; have HI2 := Lib.hid (HI1.out.trans hin2); have HGB2 := Lib.hid (HGB.out.keep (hin2.block _ HGB.out.lt (by have := HGB.out.ne HU1.out.m; omega))); have HGA2 := Lib.hid (HGA.out.keep (hin2.block _ HGA.out.lt (by have := HGA.out.ne HU1.out.m; omega))); have HA2 := Lib.hid (HA1.out.keep hin2.size (hin2.block _ HA1.out.sz (.inr hq1))); have HB2 := Lib.hid (HB1.out.keep hin2.size (hin2.block _ HB1.out.sz (.inr hq2))); have c2 := (cellEq (i := 0) (hin2.block S hq0 (.inr hq3))).trans c1; obtain ⟨ya0, ya1, ya2, ya3, ya4⟩ := HA2.out; obtain ⟨yb0, yb1, yb2, yb3, yb4⟩ := HB2.out; have hs2 : W1.heap.size ≤ w2.heap.size := hin2.size; clear hin hin2 hu2 hf2))
    all_goals go_wp2_with fail
    all_goals go_meet
    all_goals exact ⟨M3, Lib.hid ((JS.mk HA3.out HB3.out c3 HU3.out HGA3.out HGB3.out HI3.out (by omega)).set HS.out hbm (rep a) (rep b)), HF3⟩
  case rest =>
    clear xa0 xa1 xa2 xa3 xa4 xb0 xb1 xb2 xb3 xb4
    obtain ⟨M, hjs, huf⟩ := hcut
    obtain ⟨xa0, xa1, xa2, xa3, xa4⟩ := hjs.out.hx
    obtain ⟨xb0, xb1, xb2, xb3, xb4⟩ := hjs.out.hy
    have xm := hjs.out.hm
    have HRA := Lib.hid (good_rep hjs.out.hu huf.out _ a (Nat.lt_succ_self _) hjs.out.ha)
    have HRB := Lib.hid (good_rep hjs.out.hu huf.out _ b (Nat.lt_succ_self _) hjs.out.hb)
    have hG := eqGuardK
    have hp0 := ptr_run 9998 wc ⟨(rep a).1, (rep a).2.1, none⟩ ⟨(rep b).1, (rep b).2.1, none⟩ HRA.out.2 HRB.out.2
    by_cases heq : rep a = rep b
    · have hp : (Op.equalIn 9999 61 (.pointer (some ⟨(rep a).1, (rep a).2.1, none⟩)) (.pointer (some ⟨(rep b).1, (rep b).2.1, none⟩))).run Try.prog wc = .ok true wc := by
        rw [heq] at hp0 ⊢; simpa using hp0
      have hcb : (((rep a).2.2 : Int) == ((rep b).2.2 : Int)) = true := by rw [heq]; simp
      have HEQ := Lib.hid heq
      clear heq hp0
      go_wp2_with fail
      exact bodyPost_ret (v := .bool false) (by simp [results, Try.results46, go_sem]) rfl ⟨hjs.out.hin, .inl ⟨HEQ.out, rfl, M, hjs.out.hu, huf.out⟩⟩
    · by_cases had : (⟨(rep a).1, (rep a).2.1, none⟩ : Addr) = ⟨(rep b).1, (rep b).2.1, none⟩
      · have hp : (Op.equalIn 9999 61 (.pointer (some ⟨(rep a).1, (rep a).2.1, none⟩)) (.pointer (some ⟨(rep b).1, (rep b).2.1, none⟩))).run Try.prog wc = .ok true wc := by rw [decide_eq_true had] at hp0; exact hp0
        have hcb : (((rep a).2.2 : Int) == ((rep b).2.2 : Int)) = false := by
          rw [beq_eq_false_iff_ne]
          intro h
          injection had with e1 e2 _
          exact heq (Prod.ext e1 (Prod.ext e2 (by omega)))
        clear hp0
        obtain ⟨w4, L4, hum, hgr⟩ := update_run wc bm M (rep a) (rep b) hjs.out.hu.m HRA.out
        have L4' : (Instr.mapUpdate 57 (.map (some bm)) (.agg #[.pointer (some ⟨(rep a).1, (rep a).2.1, none⟩), .int .i64 ((rep a).2.2 : Int)]) (.agg #[.pointer (some ⟨(rep b).1, (rep b).2.1, none⟩), .int .i64 ((rep b).2.2 : Int)])).run Try.prog wc = .ok () w4 := L4
        have HUP := Lib.hid (hjs.out.hu.put HRB.out hum hgr)
        have HIN : Hid (Inside bm (bm + 1) w w4) := Lib.hid (hjs.out.hin.trans ⟨hgr.os, hgr.tape, hgr.output, hgr.size, fun b hb hx => hgr.block b hb (fun e => by injection e; omega)⟩)
        have HNE := Lib.hid heq
        clear L4 hum hgr heq had
        go_wp2_with fail
        exact bodyPost_ret (v := .bool true) (by simp [results, Try.results46, go_sem]) rfl ⟨HIN.out, .inr ⟨HNE.out, rfl, _, HUP.out, huf.out.join HNE.out⟩⟩
      · have hp : (Op.equalIn 9999 61 (.pointer (some ⟨(rep a).1, (rep a).2.1, none⟩)) (.pointer (some ⟨(rep b).1, (rep b).2.1, none⟩))).run Try.prog wc = .ok false wc := by rw [decide_eq_false had] at hp0; exact hp0
        clear hp0
        obtain ⟨w4, L4, hum, hgr⟩ := update_run wc bm M (rep a) (rep b) hjs.out.hu.m HRA.out
        have L4' : (Instr.mapUpdate 57 (.map (some bm)) (.agg #[.pointer (some ⟨(rep a).1, (rep a).2.1, none⟩), .int .i64 ((rep a).2.2 : Int)]) (.agg #[.pointer (some ⟨(rep b).1, (rep b).2.1, none⟩), .int .i64 ((rep b).2.2 : Int)])).run Try.prog wc = .ok () w4 := L4
        have HUP := Lib.hid (hjs.out.hu.put HRB.out hum hgr)
        have HIN : Hid (Inside bm (bm + 1) w w4) := Lib.hid (hjs.out.hin.trans ⟨hgr.os, hgr.tape, hgr.output, hgr.size, fun b hb hx => hgr.block b hb (fun e => by injection e; omega)⟩)
        have HNE := Lib.hid heq
        clear L4 hum hgr heq had
        go_wp2_with fail
        exact bodyPost_ret (v := .bool true) (by simp [results, Try.results46, go_sem]) rfl ⟨HIN.out, .inr ⟨HNE.out, rfl, _, HUP.out, huf.out.join HNE.out⟩⟩

end Go.Proofs.Ytndpoejohpmifaa
