/-
  The union-find under TypeSame: leader.
-/
import Derived.Test.YtndpoejohpmifaaBb
namespace Go.Proofs.Ytndpoejohpmifaa
open Go.RowKit
set_option linter.unusedVariables false
set_option linter.unusedSimpArgs false

theorem sizeA' (w : World) (o : Obj) : (w.alloc o).heap.size = w.heap.size + 1 := by simp
theorem cell_fresh' (w : World) (v : Value) (T : TypeId) : (w.alloc (.cells #[v] T)).cell? ⟨w.heap.size, 0, none⟩ = some v := by go_simp
theorem k2_new (w : World) (T : TypeId) : K2 (w.alloc (.cells #[.pointer none, .int .i64 0] T)) w.heap.size := ⟨by go_simp, by go_simp, by go_simp, by go_simp, by simp⟩
theorem in_set {lo hi : Nat} {w W : World} {B i : Nat} (h : Inside lo hi w W) (hB : w.heap.size ≤ B) (x : Value) : Inside lo hi w (W.setCell ⟨B, i, none⟩ x) :=
  ⟨h.os, h.tape, h.output, by simpa using h.size, fun b hb hx => (heap_setCell_other W ⟨B, i, none⟩ b x (by show b ≠ B; omega)).trans (h.block b hb hx)⟩
theorem good_set {bm : Nat} {w : World} {k : KV} (h : Good bm w k) (B i : Nat) (x : Value) : Good bm (w.setCell ⟨B, i, none⟩ x) k := by
  obtain ⟨hlt, C, T, h⟩ := h
  by_cases e : k.1 = B
  · exact ⟨hlt, _, T, by rw [e] at h ⊢; exact heap_setCell_same w B i C T x h⟩
  · exact ⟨hlt, C, T, (heap_setCell_other w ⟨B, i, none⟩ k.1 x e).trans h⟩
theorem ug_set {w : World} {bm : Nat} {M : List (KV × KV)} (h : UG w bm M) {B i : Nat} (x : Value) (hm : bm ≠ B) : UG (w.setCell ⟨B, i, none⟩ x) bm M := by
  obtain ⟨⟨es, c, h1, h2, h3⟩, h4⟩ := h
  exact ⟨⟨es, c, (heap_setCell_other w ⟨B, i, none⟩ bm x hm).trans h1, h2, fun p hp => good_set (h3 p hp) B i x⟩, fun p hp => good_set (h4 p hp) B i x⟩
/-- Where leader's loop stands. -/
structure LS (w : World) (S bm : Nat) (wr : World) (k : KV) (M : List (KV × KV)) : Prop where
  hk : KB wr (S + 1) k
  hm : wr.cell? ⟨S, 0, none⟩ = some (.map (some bm))
  hr : K2 wr (S + 1 + 1)
  hug : UG wr bm M
  hgd : Good bm wr k
  hin : Inside bm (bm + 1) w wr
  hsz : S + 3 ≤ wr.heap.size
theorem LS.set {w : World} {S bm : Nat} {wr : World} {k : KV} {M : List (KV × KV)} (h : LS w S bm wr k M) (hS : w.heap.size = S) (hb : bm < S) {p : KV} (hp : Good bm wr p) :
    LS w S bm ((wr.setCell ⟨S + 1, 0, none⟩ (.pointer (some ⟨p.1, p.2.1, none⟩))).setCell ⟨S + 1, 1, none⟩ (.int .i64 (p.2.2 : Int))) p M := by
  have e : ∀ b, b ≠ S + 1 → ((wr.setCell ⟨S + 1, 0, none⟩ (.pointer (some ⟨p.1, p.2.1, none⟩))).setCell ⟨S + 1, 1, none⟩ (.int .i64 (p.2.2 : Int))).heap[b]? = wr.heap[b]? := fun b hb => (heap_setCell_other _ ⟨S + 1, 1, none⟩ b _ hb).trans (heap_setCell_other _ ⟨S + 1, 0, none⟩ b _ hb)
  exact ⟨h.hk.set p, (cellEq (e S (by omega))).trans h.hm, h.hr.keep (by simp) (e _ (by omega)), ug_set (ug_set h.hug _ (by omega)) _ (by omega), good_set (good_set hp _ _ _) _ _ _, in_set (in_set h.hin (by omega) _) (by omega) _, by simpa using h.hsz⟩
theorem LS.kept {w : World} {S bm : Nat} {wr wr' : World} {k : KV} {M : List (KV × KV)} (h : LS w S bm wr k M) (hb : Below wr.heap.size wr wr') : LS w S bm wr' k M :=
  ⟨h.hk.kept hb, (hb.cell (p := ⟨S, 0, none⟩) (by have := h.hsz; show S < _; omega)).trans h.hm, h.hr.keep hb.size (hb.block _ h.hr.sz), h.hug.kept hb, h.hgd.kept hb, h.hin.trans (in_below hb), Nat.le_trans h.hsz hb.size⟩
theorem LS.grown {w : World} {S bm : Nat} {wr wr' : World} {k : KV} {M M' : List (KV × KV)} (h : LS w S bm wr k M) (hb : bm < S) (hug : UG wr' bm M') (hg : wr.grownBy wr' (some bm)) : LS w S bm wr' k M' := by
  have e : ∀ b, b < wr.heap.size → b ≠ bm → wr'.heap[b]? = wr.heap[b]? := fun b h1 h2 => hg.block b h1 (fun q => h2 (by injection q))
  have hz := h.hsz
  exact ⟨h.hk.keep hg.size (e _ (by omega) (by omega)), (cellEq (e S (by omega) (by omega))).trans h.hm, h.hr.keep hg.size (e _ (by omega) (by omega)), hug, grown_good h.hug.m hg h.hgd, h.hin.trans ⟨hg.os, hg.tape, hg.output, hg.size, fun b hb hx => e b hb (by omega)⟩, Nat.le_trans hz hg.size⟩
set_option maxRecDepth 100000 in
set_option maxHeartbeats 4000000 in
theorem leader_any (bm : Nat) (M0 : List (KV × KV)) (rep : KV → KV) (dp : KV → Nat) (k0 : KV) (w : World) (hu : UG w bm M0) (hf : UF M0 rep dp) (hg : Good bm w k0) :
    Calls Try.prog 79 #[.agg #[.map (some bm)], .agg #[.pointer (some ⟨k0.1, k0.2.1, none⟩), .int .i64 (k0.2.2 : Int)]] w fun e w' => e = .returned (.agg #[.pointer (some ⟨(rep k0).1, (rep k0).2.1, none⟩), .int .i64 ((rep k0).2.2 : Int)]) ∧ Inside bm (bm + 1) w w' ∧ ∃ M, UG w' bm M ∧ UF M rep dp := by
  obtain ⟨S, hS⟩ : ∃ S, w.heap.size = S := ⟨_, rfl⟩
  have HS := Lib.hid hS
  have hbm : bm < S := by rw [← hS]; exact hu.m.lt
  obtain ⟨W1, hW1⟩ : ∃ W1, ((w.alloc (.cells #[.map (some bm)] 59)).alloc (.cells #[.pointer (some ⟨k0.1, k0.2.1, none⟩), .int .i64 (k0.2.2 : Int)] 63)).alloc (.cells #[.pointer none, .int .i64 0] 63) = W1 := ⟨_, rfl⟩
  have hB1 : Below w.heap.size w W1 := by rw [← hW1]; exact (((Below.refl _ _).alloc (Nat.le_refl _) _).alloc (by simp) _).alloc (by simp; omega) _
  have hz1 : W1.heap.size = S + 3 := by rw [← hW1, ← hS]; simp
  have HU1 := Lib.hid (hu.kept hB1)
  have HF1 := Lib.hid hf
  have HG1 := Lib.hid (hg.kept hB1)
  have HK1 : Hid (KB W1 (S + 1) k0) := Lib.hid (by
    have h := (kb_new (w.alloc (.cells #[.map (some bm)] 59)) k0 63).kept ((Below.refl _ _).alloc (Nat.le_refl _) (.cells #[.pointer none, .int .i64 0] 63))
    rw [sizeA', hW1, hS] at h; exact h)
  have HM1 : Hid (W1.cell? ⟨S, 0, none⟩ = some (.map (some bm))) := Lib.hid (by
    rw [← hW1, ← hS]
    refine (((Below.refl _ _).alloc (Nat.le_refl _) _).cell (p := ⟨w.heap.size, 0, none⟩) (by simp; omega)).trans ?_
    refine (((Below.refl _ _).alloc (Nat.le_refl _) _).cell (p := ⟨w.heap.size, 0, none⟩) (by simp)).trans ?_
    exact cell_fresh' w _ _)
  have HR1 : Hid (K2 W1 (S + 1 + 1)) := Lib.hid (by
    have h := k2_new ((w.alloc (.cells #[.map (some bm)] 59)).alloc (.cells #[.pointer (some ⟨k0.1, k0.2.1, none⟩), .int .i64 (k0.2.2 : Int)] 63)) 63
    rw [sizeA', sizeA', hW1, hS] at h; exact h)
  have HI1 : Hid (Inside bm (bm + 1) w W1) := Lib.hid (in_below hB1)
  have HW1 := Lib.hid hW1
  clear hu hf hg hB1 hW1
  go_enter Try.func79, Try.ntmps79
  go_wp2_with fail
  rw [HW1.out]
  clear hS
  go_loopw [9] (fun _ wr => ∃ (k : KV) (M : List (KV × KV)), Hid (LS w S bm wr k M) ∧ Hid (UF M rep dp) ∧ Hid (rep k = rep k0)) (fun _ wr => dp (keyIn wr (S + 1)))
  case atStart => exact ⟨k0, M0, Lib.hid ⟨HK1.out, HM1.out, HR1.out, HU1.out, HG1.out, HI1.out, by omega⟩, HF1, Lib.hid rfl⟩
  case round =>
    obtain ⟨k, M, hls, huf, hrep⟩ := hrel
    have hk := Lib.hid hls.out.hk
    have hr := Lib.hid hls.out.hr
    have hm := Lib.hid hls.out.hm
    have hug := Lib.hid hls.out.hug
    have hgd := Lib.hid hls.out.hgd
    have hin := Lib.hid hls.out.hin
    have hsz := hls.out.hsz
    have hkey := hk.out.key
    obtain ⟨x0, x1, xf0, xf1, xz⟩ := hk.out
    obtain ⟨r0, r1, rf0, rf1, rz⟩ := hr.out
    have m0 := hm.out
    have hsz' : S + 1 + 1 < wr.heap.size := by omega
    have hsz0 : S < wr.heap.size := by omega
    rcases hl : look k M with _ | p
    · have L1 : (Instr.lookup 57 (.map (some bm)) (.agg #[.pointer (some ⟨k.1, k.2.1, none⟩), .int .i64 (k.2.2 : Int)]) true).run Try.prog wr = .ok (.tuple #[zeroK, .bool false]) wr := by
        have h := lookup_run wr bm M k hug.out.m hgd.out; rw [hl] at h; exact h
      have HT : Hid (rep k = k) := Lib.hid (huf.out.top k hl)
      unfold zeroK at L1
      clear hl
      go_wp2_with fail
      exact bodyPost_ret (v := .agg #[.pointer (some ⟨k.1, k.2.1, none⟩), .int .i64 (k.2.2 : Int)]) (by simp [results, Try.results79, go_sem, r0, r1, rz, hsz']) rfl ⟨by rw [← hrep.out, HT.out], (in_set (in_set hin.out (by rw [HS.out]; omega) _) (by rw [HS.out]; omega) _).trans (in_below ((Below.refl _ _).alloc (Nat.le_refl _) _)), M, (ug_set (ug_set hug.out _ (by omega)) _ (by omega)).kept ((Below.refl _ _).alloc (Nat.le_refl _) _), huf.out⟩
    · have L1 : (Instr.lookup 57 (.map (some bm)) (.agg #[.pointer (some ⟨k.1, k.2.1, none⟩), .int .i64 (k.2.2 : Int)]) true).run Try.prog wr = .ok (.tuple #[.agg #[.pointer (some ⟨p.1, p.2.1, none⟩), .int .i64 (p.2.2 : Int)], .bool true]) wr := by
        have h := lookup_run wr bm M k hug.out.m hgd.out; rw [hl] at h; exact h
      have HP : Hid (Good bm wr p) := Lib.hid (hug.out.good hl)
      have HUP := Lib.hid (huf.out.up k p hl)
      have hA1 : Below wr.heap.size wr (wr.alloc (.cells #[.pointer (some ⟨p.1, p.2.1, none⟩), .int .i64 (p.2.2 : Int)] 63)) := (Below.refl _ _).alloc (Nat.le_refl _) _
      rcases hl2 : look p M with _ | g
      · have L2 : (Instr.lookup 57 (.map (some bm)) (.agg #[.pointer (some ⟨p.1, p.2.1, none⟩), .int .i64 (p.2.2 : Int)]) true).run Try.prog (wr.alloc (.cells #[.pointer (some ⟨p.1, p.2.1, none⟩), .int .i64 (p.2.2 : Int)] 63)) = .ok (.tuple #[zeroK, .bool false]) (wr.alloc (.cells #[.pointer (some ⟨p.1, p.2.1, none⟩), .int .i64 (p.2.2 : Int)] 63)) := by
          have h := lookup_run _ bm M p (hug.out.kept hA1).m (HP.out.kept hA1); rw [hl2] at h; exact h
        unfold zeroK at L2
        clear hl hl2 hA1
        go_wp2_with fail
        go_roundw
        case rel => exact ⟨p, M, Lib.hid (((hls.out.set HS.out hbm HP.out).kept ((Below.refl _ _).alloc (Nat.le_refl _) _)).kept ((Below.refl _ _).alloc (Nat.le_refl _) _)), huf, Lib.hid (HUP.out.1.trans hrep.out)⟩
        case measure =>
          have h1 := (((hls.out.set HS.out hbm HP.out).kept ((Below.refl _ _).alloc (Nat.le_refl _) (.cells #[.pointer (some ⟨p.1, p.2.1, none⟩), .int .i64 (p.2.2 : Int)] 63))).kept ((Below.refl _ _).alloc (Nat.le_refl _) (.cells #[.pointer none, .int .i64 0] 63))).hk.key
          first | (rw [h1, hkey]; exact HUP.out.2) | (simp only [h1, hkey]; exact HUP.out.2)
      · have L2 : (Instr.lookup 57 (.map (some bm)) (.agg #[.pointer (some ⟨p.1, p.2.1, none⟩), .int .i64 (p.2.2 : Int)]) true).run Try.prog (wr.alloc (.cells #[.pointer (some ⟨p.1, p.2.1, none⟩), .int .i64 (p.2.2 : Int)] 63)) = .ok (.tuple #[.agg #[.pointer (some ⟨g.1, g.2.1, none⟩), .int .i64 (g.2.2 : Int)], .bool true]) (wr.alloc (.cells #[.pointer (some ⟨p.1, p.2.1, none⟩), .int .i64 (p.2.2 : Int)] 63)) := by
          have h := lookup_run _ bm M p (hug.out.kept hA1).m (HP.out.kept hA1); rw [hl2] at h; exact h
        have HG : Hid (Good bm wr g) := Lib.hid (hug.out.good hl2)
        have HH := Lib.hid (huf.out.halve hl hl2)
        have hA2 := hA1.alloc hA1.size (.cells #[.pointer (some ⟨g.1, g.2.1, none⟩), .int .i64 (g.2.2 : Int)] 63)
        obtain ⟨w3, L3, hum, hgr⟩ := update_run _ bm M k g (hug.out.kept hA2).m (hgd.out.kept hA2)
        have HLS := Lib.hid ((hls.out.kept hA2).grown hbm ((hug.out.kept hA2).put (HG.out.kept hA2) hum hgr) hgr)
        have HP3 := Lib.hid (grown_good (hug.out.kept hA2).m hgr (HP.out.kept hA2))
        have HKP : Hid (KB w3 wr.heap.size p) := Lib.hid (((kb_new wr p 63).kept ((Below.refl _ _).alloc (Nat.le_refl _) _)).keep hgr.size (hgr.block _ (by simp; omega) (fun e => by injection e; omega)))
        obtain ⟨y0, y1, yf0, yf1, yz⟩ := HKP.out
        obtain ⟨z0, z1, zf0, zf1, zz⟩ := HLS.out.hk
        have L3' : (Instr.mapUpdate 57 (.map (some bm)) (.agg #[.pointer (some ⟨k.1, k.2.1, none⟩), .int .i64 (k.2.2 : Int)]) (.agg #[.pointer (some ⟨g.1, g.2.1, none⟩), .int .i64 (g.2.2 : Int)])).run Try.prog ((wr.alloc (.cells #[.pointer (some ⟨p.1, p.2.1, none⟩), .int .i64 (p.2.2 : Int)] 63)).alloc (.cells #[.pointer (some ⟨g.1, g.2.1, none⟩), .int .i64 (g.2.2 : Int)] 63)) = .ok () w3 := L3
        clear hl hl2 hA1 hA2 L3 hum hgr
        go_wp2_with fail
        go_roundw
        case rel => exact ⟨p, upd k g M, Lib.hid (HLS.out.set HS.out hbm HP3.out), HH, Lib.hid (HUP.out.1.trans hrep.out)⟩
        case measure =>
          have h1 := (HLS.out.set HS.out hbm HP3.out).hk.key
          first | (rw [h1, hkey]; exact HUP.out.2) | (simp only [h1, hkey]; exact HUP.out.2)

end Go.Proofs.Ytndpoejohpmifaa
