/-
typeAt of the program's graph: the type at a node, its variables numbered as they are met.
What TypeSame of the model returns: for every two types in memory, whether they are the same; what was in memory stays.
The union-find under TypeSame: join.
-/
import Derived.Test.YtjhccdioainibaaW19
import Derived.Test.YtjhccdioainibaaProg
import Derived.Test.YtjhccdioainibaaW1
import Derived.Deep.RegionHeld3
import Derived.Deep.RegionWith
import Derived.Test.YtjhccdioainibaaW5
import Derived.Deep.RegionLaw
import Derived.Deep.DeepCutAuto
namespace Go.Proofs.Ytjhccdioainibaa.Nx
open Go.Proofs.Ytjhccdioainibaa Go.Proofs.Ytjhccdioainibaa.Mx
open Go.RowKit
set_option linter.unusedVariables false
set_option linter.unusedSimpArgs false

/-- Only the classes and the generator's blocks have changed. -/
structure Kp (am lo hi : Nat) (w w' : World) : Prop where
  os : w'.os = w.os
  tape : w'.tape = w.tape
  output : w'.output = w.output
  size : w.heap.size ≤ w'.heap.size
  block : ∀ b, b < w.heap.size → b ≠ am → (b < lo ∨ hi ≤ b) → w'.heap[b]? = w.heap[b]?
theorem Kp.refl (am lo hi : Nat) (w : World) : Kp am lo hi w w := ⟨rfl, rfl, rfl, Nat.le_refl _, fun _ _ _ _ => rfl⟩
theorem Kp.trans {am lo hi : Nat} {a b c : World} (h : Kp am lo hi a b) (k : Kp am lo hi b c) : Kp am lo hi a c :=
  ⟨k.os.trans h.os, k.tape.trans h.tape, k.output.trans h.output, Nat.le_trans h.size k.size, fun x hx h1 h2 => (k.block x (Nat.lt_of_lt_of_le hx h.size) h1 h2).trans (h.block x hx h1 h2)⟩
theorem Kp.below {am lo hi : Nat} {w w' : World} (h : Below w.heap.size w w') : Kp am lo hi w w' := ⟨h.os, h.tape, h.output, h.size, fun b hb _ _ => h.block b hb⟩
theorem Kp.inside {am lo hi : Nat} {w w' : World} (h : Inside lo hi w w') : Kp am lo hi w w' := ⟨h.os, h.tape, h.output, h.size, fun b hb _ h2 => h.block b hb h2⟩
theorem Kp.classes {am lo hi : Nat} {w w' : World} (h : Inside am (am + 1) w w') : Kp am lo hi w w' := ⟨h.os, h.tape, h.output, h.size, fun b hb h1 _ => h.block b hb (by omega)⟩
theorem Kp.res {am lo hi R : Nat} {w W : World} (h : Kp am lo hi w W) (hR : w.heap.size ≤ R) (x y z : Value) : Kp am lo hi w (((W.setCell ⟨R, 0, none⟩ x).setCell ⟨R, 1, none⟩ y).setCell ⟨R, 2, none⟩ z) :=
  ⟨h.os, h.tape, h.output, by simpa using h.size, fun b hb h1 h2 => (heap_res (by omega)).trans (h.block b hb h1 h2)⟩
theorem Kp.at {am lo hi B : Nat} {w w' : World} (h : Kp am lo hi w w') (hB : B < w.heap.size) (h1 : am < lo) (h2 : lo ≤ hi) (h3 : hi ≤ B) : w'.heap[B]? = w.heap[B]? := h.block B hB (by omega) (.inr h3)
theorem tbox_eq {w w' : World} {B : Nat} {x y z : Value} (h : TBox w B x y z) (e : w'.heap[B]? = w.heap[B]?) (hs : w.heap.size ≤ w'.heap.size) : TBox w' B x y z := by
  obtain ⟨a, b, c, d⟩ := h
  exact ⟨(cellEq e).trans a, (cellEq e).trans b, (cellEq e).trans c, Nat.lt_of_lt_of_le d hs⟩
theorem GM.far {w w' : World} {B n0 gb am vb M : Nat} {sh : Nat → Sh} {rep dp : Nat → Nat} {vm : Int → Option Nat} {sv : Value} {MA MV : List IV} (hg : GM w n0 gb am vb M sh rep dp vm sv MA MV) (hb : Below B w w') (h1 : gb < B) (h2 : am < B) (h3 : vb < B) (h4 : ∀ g, sv.ownBlock = some g → g < B) : GM w' n0 gb am vb M sh rep dp vm sv MA MV :=
  ⟨(hb.cell (p := ⟨gb, 0, none⟩) h1).trans hg.c0, (hb.cell (p := ⟨gb, 1, none⟩) h1).trans hg.c1, (hb.cell (p := ⟨gb, 2, none⟩) h1).trans hg.c2, (hb.frozen (p := ⟨gb, 0, none⟩) h1).trans hg.f0, Nat.lt_of_lt_of_le hg.gl hb.size, own_one hg.own (fun g e => hb.block g (h4 g e)), hg.ma.keep (hb.block am h2), hg.un, hg.mv.keep (hb.block vb h3), hg.vr, hg.lo, hg.d1, hg.d2⟩
/-- A graph that lies below the generator, and the generator. -/
structure GG (w : World) (lo hi q bm n0 gb am vb M : Nat) (sh : Nat → Sh) (rep : Nat → Nat) (vm : Int → Option Nat) (g cap : Nat) (MV : List IV) : Prop where
  gm : ∃ dp MA, GM w n0 gb am vb M sh rep dp vm (.slice (some ⟨g, 0, none⟩) M cap) MA MV
  l1 : gb < lo
  l2 : am < lo
  l3 : vb < lo
  l4 : g < lo
  lh : lo ≤ hi
  sz : hi ≤ w.heap.size
theorem GG.below {w w' : World} {B lo hi q bm n0 gb am vb M : Nat} {sh : Nat → Sh} {rep : Nat → Nat} {vm : Int → Option Nat} {g cap : Nat} {MV : List IV} (h : GG w lo hi q bm n0 gb am vb M sh rep vm g cap MV) (hb : Below B w w') (hB : lo ≤ B) : GG w' lo hi q bm n0 gb am vb M sh rep vm g cap MV := by
  obtain ⟨⟨dp, MA, hg⟩, l1, l2, l3, l4, lh, sz⟩ := h
  refine ⟨⟨dp, MA, GM.far hg hb (by omega) (by omega) (by omega) (fun x e => ?_)⟩, l1, l2, l3, l4, lh, Nat.le_trans sz hb.size⟩
  have e : g = x := by simpa [Value.ownBlock] using e
  omega
theorem GG.inside {w w' : World} {lo hi q bm n0 gb am vb M : Nat} {sh : Nat → Sh} {rep : Nat → Nat} {vm : Int → Option Nat} {g cap : Nat} {MV : List IV} (h : GG w lo hi q bm n0 gb am vb M sh rep vm g cap MV) (hi' : Inside lo hi w w') : GG w' lo hi q bm n0 gb am vb M sh rep vm g cap MV :=
  h.below (Inside.below hi' (Nat.le_refl _) (Below.refl _ _) (Nat.le_trans h.lh h.sz)) (Nat.le_refl _)
theorem GG.res {w : World} {R lo hi q bm n0 gb am vb M : Nat} {sh : Nat → Sh} {rep : Nat → Nat} {vm : Int → Option Nat} {g cap : Nat} {MV : List IV} (h : GG w lo hi q bm n0 gb am vb M sh rep vm g cap MV) (hR : hi ≤ R) (x y z : Value) : GG (((w.setCell ⟨R, 0, none⟩ x).setCell ⟨R, 1, none⟩ y).setCell ⟨R, 2, none⟩ z) lo hi q bm n0 gb am vb M sh rep vm g cap MV :=
  h.below (B := lo) ⟨rfl, rfl, rfl, by simp, fun b hb => heap_res (by have := h.lh; omega)⟩ (Nat.le_refl _)
/-- What typeAt leaves. -/
structure TaPost (lo hi q bm n0 gb am vb M : Nat) (sh : Nat → Sh) (rep : Nat → Nat) (vm : Int → Option Nat) (g cap : Nat) (MV : List IV) (d n : Nat) (st : List Int) (w : World) (e : Ending) (w' : World) : Prop where
  kp : Kp am lo hi w w'
  gg : GG w' lo hi q bm n0 gb am vb M sh rep vm g cap MV
  no : rt sh rep d n = none → e = .returned (.tuple #[.agg #[.int .i64 0, .int .i64 0, .slice none 0 0], .bool false])
  yes : ∀ u, rt sh rep d n = some u → ∃ v, e = .returned (.tuple #[.agg #[.int .i64 (rp fF d u st).1.k, .int .i64 (rp fF d u st).1.n, v], .bool true]) ∧ TyIn w' w.heap.size w'.heap.size (rp fF d u st).1 v ∧ Gen lo hi q bm (rp fF d u st).2 w'

set_option maxRecDepth 100000 in
set_option maxHeartbeats 8000000 in
theorem typeAt_any (lo hi q bm n0 gb am vb M : Nat) (sh : Nat → Sh) (rep : Nat → Nat) (vm : Int → Option Nat) (g cap : Nat) (MV : List IV) (hok : GOk M sh rep) (hMM : M ≤ 1000000) : ∀ (d n : Nat) (st : List Int) (w : World), d ≤ 100 → n < M → GG w lo hi q bm n0 gb am vb M sh rep vm g cap MV → Gen lo hi q bm st w →
    Calls Try.prog 64 #[.pointer (some ⟨gb, 0, none⟩), .int .i64 (n : Int), .int .i64 (d : Int), .func (.func 78) #[] #[.pointer (some ⟨q, 0, none⟩)]] w (TaPost lo hi q bm n0 gb am vb M sh rep vm g cap MV d n st w) := by
  have HOK := Lib.hid hok
  clear hok
  intro d
  induction d with
  | zero =>
    intro n st w hd hn hg hgen
    obtain ⟨W1, hW1⟩ : ∃ W1, w.alloc (.cells #[.int .i64 0, .int .i64 0, .slice none 0 0] 28) = W1 := ⟨_, rfl⟩
    have hB1 : Below w.heap.size w W1 := by rw [← hW1]; exact (Below.refl _ _).alloc (Nat.le_refl _) _
    have HR1 : Hid (RB W1 w.heap.size) := Lib.hid (by rw [← hW1]; exact rb_new w _)
    have HG1 := Lib.hid (hg.below hB1 (Nat.le_trans hg.lh hg.sz))
    have HK1 : Hid (Kp am lo hi w W1) := Lib.hid (Kp.below hB1)
    have hR : hi ≤ w.heap.size := hg.sz
    obtain ⟨p0, p1, p2, f0, f1, f2, psz⟩ := HR1.out
    clear hg hgen hB1
    rw [show ((0 : Nat) : Int) = 0 from rfl]
    go_enter Try.func64, Try.ntmps64
    go_wp2_with fail
    exact bodyPost_ret (v := .tuple #[.agg #[.int .i64 0, .int .i64 0, .slice none 0 0], .bool false]) (by simp [results, Try.results64, go_sem, p0, p1, p2, psz]) rfl ⟨HK1.out.res (Nat.le_refl _) _ _ _, HG1.out.res hR _ _ _, fun _ => rfl, fun u e => by (cases e)⟩
  | succ d ih =>
    intro n st w hd hn hg hgen
    have HIH := Lib.hid ih
    have HNN := Lib.hid hn
    obtain ⟨rn, hrn⟩ : ∃ rn, rep n = rn := ⟨_, rfl⟩
    have HRN := Lib.hid hrn
    have hrl : rn < M := by rw [← hrn]; exact HOK.out.lt n hn
    obtain ⟨W1, hW1⟩ : ∃ W1, w.alloc (.cells #[.int .i64 0, .int .i64 0, .slice none 0 0] 28) = W1 := ⟨_, rfl⟩
    have hB1 : Below w.heap.size w W1 := by rw [← hW1]; exact (Below.refl _ _).alloc (Nat.le_refl _) _
    have HR1 : Hid (RB W1 w.heap.size) := Lib.hid (by rw [← hW1]; exact rb_new w _)
    have hG1 := hg.below hB1 (Nat.le_trans hg.lh hg.sz)
    have HGN1 := Lib.hid ((gen_stays lo hi q bm).below hgen hB1)
    have HK1 : Hid (Kp am lo hi w W1) := Lib.hid (Kp.below hB1)
    have hz1 : W1.heap.size = w.heap.size + 1 := by rw [← hW1]; simp
    have hsz := hg.sz
    have hlh := hg.lh
    have hal := hg.l2
    obtain ⟨⟨dp, MA, hgm⟩, l1, l2, l3, l4, _, _⟩ := hG1
    have HGM1 := Lib.hid hgm
    have k1 := hgm.c1
    have hdn : ((d : Int) + 1 == 0) = false := by rw [beq_eq_false_iff_ne]; omega
    have hd63 : (d : Int) + 1 ≤ 1000 := by omega
    have hrl0 : (0 : Int) ≤ (rn : Int) := by omega
    have hrl1 : (rn : Int) < (M : Int) := by omega
    have toN : ((rn : Int)).toNat = rn := by omega
    clear ih hg hgen hgm hB1 hrn hn
    rw [show ((d + 1 : Nat) : Int) = (d : Int) + 1 from by omega]
    go_enter Try.func64, Try.ntmps64
    go_wp2_with fail
    clear hW1
    go_at_call 62
    refine (leaderN_any am MA rep dp n _ HGM1.out.ma HGM1.out.un).mono ?_
    rintro e w2 ⟨rfl, hin2, M2, hm2, hf2⟩
    rw [HRN.out]
    have HGM2 := Lib.hid (HGM1.out.classes hin2 hm2 hf2)
    have HK2 : Hid (Kp am lo hi w w2) := Lib.hid (HK1.out.trans (Kp.classes hin2))
    have HGN2 : Hid (Gen lo hi q bm st w2) := Lib.hid ((gen_stays lo hi q bm).keep st _ _ HGN1.out hin2.size (fun b h1 h2 => hin2.block b (Nat.lt_of_lt_of_le h2 HGN1.out.sz) (.inr (by omega))))
    have HR2 := Lib.hid (HR1.out.keep hin2.size (hin2.block _ HR1.out.sz (.inr (by omega))))
    have hz2 : W1.heap.size ≤ w2.heap.size := hin2.size
    have k0 := HGM2.out.c0
    have kn := HGM2.out.at hrl
    have HGG2 : Hid (GG w2 lo hi q bm n0 gb am vb M sh rep vm g cap MV) := Lib.hid ⟨⟨dp, M2, HGM2.out⟩, l1, l2, l3, l4, hlh, by omega⟩
    clear hin2 hm2 hf2 k1
    rcases hs : sh rn with _ | _ | ⟨k, l, r⟩
    · rw [hs] at kn; unfold shV at kn
      have HRT : Hid (rt sh rep (d + 1) n = some (.node 1 0 [])) := Lib.hid (rt_num (by rw [HRN.out]; exact hs))
      obtain ⟨p0, p1, p2, f0, f1, f2, psz⟩ := HR2.out
      clear hs
      go_wp2_with fail
      refine bodyPost_ret (v := .tuple #[.agg #[.int .i64 1, .int .i64 0, .slice none 0 0], .bool true]) (by simp [results, Try.results64, go_sem, p0, p1, p2, psz]) rfl ⟨HK2.out.res (Nat.le_refl _) _ _ _, HGG2.out.res hsz _ _ _, fun e => ?_, fun u e => ?_⟩
      · rw [HRT.out] at e; cases e
      · rw [HRT.out] at e
        injection e with e
        subst e
        have er : rp fF (d + 1) (.node 1 0 []) st = (.node 1 0 [], st) := by simp [rp]
        rw [er]
        exact ⟨.slice none 0 0, rfl, .bare _ _ _ _ _ _, (gen_stays lo hi q bm).res HGN2.out hsz _ _ _⟩
    · rw [hs] at kn; unfold shV at kn
      have HRT : Hid (rt sh rep (d + 1) n = some (.node 4 (rn : Int) [])) := Lib.hid (by rw [← HRN.out]; exact rt_var (by rw [HRN.out]; exact hs))
      obtain ⟨W3, hW3⟩ : ∃ W, w2.alloc (.cells #[] 103) = W := ⟨_, rfl⟩
      have hB3 : Below w2.heap.size w2 W3 := by rw [← hW3]; exact (Below.refl _ _).alloc (Nat.le_refl _) _
      have HG3 := Lib.hid (HGG2.out.below hB3 (by omega))
      have HGN3 := Lib.hid ((gen_stays lo hi q bm).below HGN2.out hB3)
      have HK3 := Lib.hid (HK2.out.trans (Kp.below hB3))
      have HR3 := Lib.hid (HR2.out.kept hB3)
      have hz3 : w2.heap.size ≤ W3.heap.size := hB3.size
      obtain ⟨ix, hix⟩ : ∃ ix, ixA st (rn : Int) = ix := ⟨_, rfl⟩
      have HIX := Lib.hid hix
      clear hs hB3 hix
      go_wp2_with fail
      go_at_call 78
      refine (fresh_any lo hi q bm st (rn : Int) hrl0 (by omega) W3 HGN3.out).mono ?_
      rintro e w4 ⟨rfl, hin4, hgn4⟩
      rw [HIX.out]
      have HGN4 := Lib.hid hgn4
      have HG4 := Lib.hid (HG3.out.inside hin4)
      have HK4 : Hid (Kp am lo hi w w4) := Lib.hid (HK3.out.trans (Kp.inside hin4))
      have HR4 := Lib.hid (HR3.out.keep hin4.size (hin4.block _ HR3.out.sz (.inr hsz)))
      have hz4 : W3.heap.size ≤ w4.heap.size := hin4.size
      clear hin4 hgn4 hW3
      go_wp2_with fail
      go_at_call 49
      refine (varType_any _ _).mono ?_
      rintro e w5 ⟨v5, rfl, hty5, hb5⟩
      obtain ⟨a5, k5, rfl, _⟩ := hty5.at.slice
      have HGN5 := Lib.hid ((gen_stays lo hi q bm).below HGN4.out hb5)
      have HG5 := Lib.hid (HG4.out.below hb5 (by omega))
      have HK5 := Lib.hid (HK4.out.trans (Kp.below hb5))
      have HR5 := Lib.hid (HR4.out.kept hb5)
      have HTY := Lib.hid hty5
      clear hty5 hb5
      obtain ⟨p0, p1, p2, f0, f1, f2, psz⟩ := HR5.out
      go_wp2_with fail
      refine bodyPost_ret (v := .tuple #[.agg #[.int .i64 4, .int .i64 ix, .slice a5 0 k5], .bool true]) (by simp [results, Try.results64, go_sem, p0, p1, p2, psz, Ty.k, Ty.n, Ty.ks]) rfl ⟨HK5.out.res (Nat.le_refl _) _ _ _, HG5.out.res hsz _ _ _, fun e => ?_, fun u e => ?_⟩
      · rw [HRT.out] at e; cases e
      · rw [HRT.out] at e
        injection e with e
        subst e
        have er : rp fF (d + 1) (.node 4 (rn : Int) []) st = (.node 4 ix [], addV st (rn : Int)) := by rw [← HIX.out]; simp [rp, fF]
        rw [er]
        exact ⟨.slice a5 0 k5, rfl, res_ty (HTY.out.wide (lo' := w.heap.size + 1) (by omega) (Nat.le_refl _)) (Nat.le_refl w.heap.size) _ _ _, (gen_stays lo hi q bm).res HGN5.out hsz _ _ _⟩
    · rw [hs] at kn; unfold shV at kn
      obtain ⟨hk, hl, hr⟩ := HOK.out.kid rn k l r hrl hs
      have HS : Hid (sh (rep n) = .join k l r) := Lib.hid (by rw [HRN.out]; exact hs)
      have HL := Lib.hid hl
      have HRR := Lib.hid hr
      have HK4 : Hid (k ≠ 4) := Lib.hid (by omega)
      obtain ⟨T3, hT3⟩ : ∃ T, w2.heap.size = T := ⟨_, rfl⟩
      obtain ⟨W3, hW3⟩ : ∃ W, w2.alloc (.cells #[.int .i64 k, .int .i64 (l : Int), .int .i64 (r : Int)] 105) = W := ⟨_, rfl⟩
      have hB3 : Below w2.heap.size w2 W3 := by rw [← hW3]; exact (Below.refl _ _).alloc (Nat.le_refl _) _
      have HX3 : Hid (TBox W3 T3 (.int .i64 k) (.int .i64 (l : Int)) (.int .i64 (r : Int))) := Lib.hid (by rw [← hT3, ← hW3]; exact tbox_new w2 _ _ _ _)
      have HG3 := Lib.hid (HGG2.out.below hB3 (by omega))
      have HGN3 := Lib.hid ((gen_stays lo hi q bm).below HGN2.out hB3)
      have HKP3 := Lib.hid (HK2.out.trans (Kp.below hB3))
      have HR3 := Lib.hid (HR2.out.kept hB3)
      have hz3 : W3.heap.size = T3 + 1 := by rw [← hW3, ← hT3]; simp
      have hT : w.heap.size + 1 ≤ T3 := by omega
      have hdw : IntKind.i64.wrap ((d : Int) + 1 - 1) = (d : Int) := by rw [show (d : Int) + 1 - 1 = (d : Int) from by omega]; exact IntWalk.i64_in _ ⟨by omega, by omega⟩
      obtain ⟨x0, x1, x2, xz⟩ := HX3.out
      have hd100 : d ≤ 100 := by omega
      clear hs hB3 hl hr hk hz1 hz2
      go_wp2_with fail
      refine (HIH.out l st W3 hd100 HL.out HG3.out HGN3.out).mono ?_
      rintro e w4 hp4
      have hR4 := HR3.out.keep hp4.kp.size (hp4.kp.at HR3.out.sz hal hlh hsz)
      have HR4 := Lib.hid hR4
      have hz4 : W3.heap.size ≤ w4.heap.size := hp4.kp.size
      have HKP4 := Lib.hid (HKP3.out.trans hp4.kp)
      have HG4 := Lib.hid hp4.gg
      rcases h1 : rt sh rep d l with _ | ua
      · obtain rfl := hp4.no h1
        have HRT : Hid (rt sh rep (d + 1) n = none) := Lib.hid (rt_left HS.out h1)
        have hbz : Below w4.heap.size w4 (w4.alloc (.cells #[.int .i64 0, .int .i64 0, .slice none 0 0] 28)) := (Below.refl _ _).alloc (Nat.le_refl _) _
        have HKP5 := Lib.hid (HKP4.out.trans (Kp.below hbz))
        have HG5 := Lib.hid (HG4.out.below hbz (by omega))
        obtain ⟨p0, p1, p2, f0, f1, f2, psz⟩ := HR4.out.kept hbz
        clear hp4 hR4 h1 hbz hW3 x0 x1 x2
        go_wp2_with fail
        exact bodyPost_ret (v := .tuple #[.agg #[.int .i64 0, .int .i64 0, .slice none 0 0], .bool false]) (by simp [results, Try.results64, go_sem, p0, p1, p2, psz]) rfl ⟨HKP5.out.res (Nat.le_refl _) _ _ _, HG5.out.res hsz _ _ _, fun _ => rfl, fun u e => by rw [HRT.out] at e; cases e⟩
      · obtain ⟨v4, rfl, hty4, hgn4⟩ := hp4.yes ua h1
        obtain ⟨y1, hy1⟩ : ∃ y, (rp fF d ua st).1 = y := ⟨_, rfl⟩
        obtain ⟨s1, hs1⟩ : ∃ y, (rp fF d ua st).2 = y := ⟨_, rfl⟩
        rw [hy1] at hty4 ⊢
        rw [hs1] at hgn4
        obtain ⟨a4, k4, rfl, _⟩ := hty4.at.slice
        have HY1 := Lib.hid hy1
        have HS1 := Lib.hid hs1
        have H1 := Lib.hid h1
        obtain ⟨T5, hT5⟩ : ∃ T, w4.heap.size = T := ⟨_, rfl⟩
        obtain ⟨W5, hW5⟩ : ∃ W, w4.alloc (.cells #[.int .i64 y1.k, .int .i64 y1.n, .slice a4 y1.ks.length k4] 28) = W := ⟨_, rfl⟩
        have hB5 : Below w4.heap.size w4 W5 := by rw [← hW5]; exact (Below.refl _ _).alloc (Nat.le_refl _) _
        have HX5 : Hid (TBox W5 T5 (.int .i64 y1.k) (.int .i64 y1.n) (.slice a4 y1.ks.length k4)) := Lib.hid (by rw [← hT5, ← hW5]; exact tbox_new w4 _ _ _ _)
        have HX35 := Lib.hid ((tbox_eq HX3.out (hp4.kp.at HX3.out.sz hal hlh (by omega)) hp4.kp.size).kept hB5)
        have HTY5 := Lib.hid (hty4.kept hB5)
        have HG5 := Lib.hid (HG4.out.below hB5 (by omega))
        have HGN5 := Lib.hid ((gen_stays lo hi q bm).below hgn4 hB5)
        have HKP5 := Lib.hid (HKP4.out.trans (Kp.below hB5))
        have HR5 := Lib.hid (HR4.out.kept hB5)
        have hz5 : W5.heap.size = T5 + 1 := by rw [← hW5, ← hT5]; simp
        have hT35 : W3.heap.size ≤ T5 := by omega
        obtain ⟨y0, y1', y2, yz⟩ := HX35.out
        clear hp4 hR4 h1 hy1 hs1 hty4 hgn4 hB5 x0 x1 x2 hW3
        go_wp2_with fail
        refine (HIH.out r s1 W5 hd100 HRR.out HG5.out HGN5.out).mono ?_
        rintro e w6 hp6
        have hR6 := HR5.out.keep hp6.kp.size (hp6.kp.at HR5.out.sz hal hlh hsz)
        have HR6 := Lib.hid hR6
        have hz6 : W5.heap.size ≤ w6.heap.size := hp6.kp.size
        have HKP6 := Lib.hid (HKP5.out.trans hp6.kp)
        have HG6 := Lib.hid hp6.gg
        rcases h2 : rt sh rep d r with _ | ub
        · obtain rfl := hp6.no h2
          have HRT : Hid (rt sh rep (d + 1) n = none) := Lib.hid (rt_right HS.out H1.out h2)
          have hbz : Below w6.heap.size w6 (w6.alloc (.cells #[.int .i64 0, .int .i64 0, .slice none 0 0] 28)) := (Below.refl _ _).alloc (Nat.le_refl _) _
          have HKP7 := Lib.hid (HKP6.out.trans (Kp.below hbz))
          have HG7 := Lib.hid (HG6.out.below hbz (by omega))
          obtain ⟨p0, p1, p2, f0, f1, f2, psz⟩ := HR6.out.kept hbz
          clear hp6 hR6 h2 hbz hW5 y0 y1' y2
          go_wp2_with fail
          exact bodyPost_ret (v := .tuple #[.agg #[.int .i64 0, .int .i64 0, .slice none 0 0], .bool false]) (by simp [results, Try.results64, go_sem, p0, p1, p2, psz]) rfl ⟨HKP7.out.res (Nat.le_refl _) _ _ _, HG7.out.res hsz _ _ _, fun _ => rfl, fun u e => by rw [HRT.out] at e; cases e⟩
        · obtain ⟨v6, rfl, hty6, hgn6⟩ := hp6.yes ub h2
          obtain ⟨y2x, hy2⟩ : ∃ y, (rp fF d ub s1).1 = y := ⟨_, rfl⟩
          obtain ⟨s2, hs2⟩ : ∃ y, (rp fF d ub s1).2 = y := ⟨_, rfl⟩
          rw [hy2] at hty6 ⊢
          rw [hs2] at hgn6
          obtain ⟨a6, k6, rfl, _⟩ := hty6.at.slice
          have HY2 := Lib.hid hy2
          have HS2 := Lib.hid hs2
          have H2 := Lib.hid h2
          obtain ⟨T7, hT7⟩ : ∃ T, w6.heap.size = T := ⟨_, rfl⟩
          obtain ⟨W7, hW7⟩ : ∃ W, w6.alloc (.cells #[.int .i64 y2x.k, .int .i64 y2x.n, .slice a6 y2x.ks.length k6] 28) = W := ⟨_, rfl⟩
          have hB7 : Below w6.heap.size w6 W7 := by rw [← hW7]; exact (Below.refl _ _).alloc (Nat.le_refl _) _
          have HX7 : Hid (TBox W7 T7 (.int .i64 y2x.k) (.int .i64 y2x.n) (.slice a6 y2x.ks.length k6)) := Lib.hid (by rw [← hT7, ← hW7]; exact tbox_new w6 _ _ _ _)
          have HX57 := Lib.hid ((tbox_eq HX5.out (hp6.kp.at HX5.out.sz hal hlh (by omega)) hp6.kp.size).kept hB7)
          have HX37 := Lib.hid ((tbox_eq HX35.out (hp6.kp.at HX35.out.sz hal hlh (by omega)) hp6.kp.size).kept hB7)
          have HTA := Lib.hid ((HTY5.out.keep hp6.kp.size (fun b h1 _ h3 => hp6.kp.block b h3 (by omega) (.inr (by omega)))).kept hB7)
          have HTB := Lib.hid (hty6.kept hB7)
          have HG7 := Lib.hid (HG6.out.below hB7 (by omega))
          have HGN7 := Lib.hid ((gen_stays lo hi q bm).below hgn6 hB7)
          have HKP7 := Lib.hid (HKP6.out.trans (Kp.below hB7))
          have HR7 := Lib.hid (HR6.out.kept hB7)
          have hz7 : W7.heap.size = T7 + 1 := by rw [← hW7, ← hT7]; simp
          have HRT : Hid (rt sh rep (d + 1) n = some (.node k 0 [ua, ub])) := Lib.hid (rt_join HS.out H1.out h2)
          obtain ⟨g0, g1, g2, gz⟩ := HX37.out
          obtain ⟨m0, m1, m2, mz⟩ := HX57.out
          obtain ⟨n0', n1', n2', nz⟩ := HX7.out
          have q1 : w.heap.size + 1 ≤ W3.heap.size := by omega
          have q2 : w.heap.size + 1 ≤ W5.heap.size := by omega
          have q3 : T5 ≤ W5.heap.size := by omega
          have q4 : T5 ≤ W7.heap.size := by omega
          have q5 : T7 ≤ W7.heap.size := by omega
          have q6 : w.heap.size + 1 ≤ W7.heap.size := by omega
          rw [hT5] at HTA
          rw [hT7] at HTB
          clear hp6 hR6 h2 hy2 hs2 hty6 hgn6 hB7 hW5 y0 y1' y2
          go_wp2_with fail
          go_at_call 73
          refine (joinType_any k y1 y2x _ _ (w.heap.size + 1) W3.heap.size T5 W5.heap.size T7 W7 HTA.out HTB.out q1 q2 q3 q4 q5 q6).mono ?_
          rintro e w8 ⟨v8, rfl, hty8, hb8⟩
          obtain ⟨a8, k8, rfl, _⟩ := hty8.at.slice
          have HG8 := Lib.hid (HG7.out.below hb8 (by omega))
          have HGN8 := Lib.hid ((gen_stays lo hi q bm).below HGN7.out hb8)
          have HKP8 := Lib.hid (HKP7.out.trans (Kp.below hb8))
          obtain ⟨p0, p1, p2, f0, f1, f2, psz⟩ := HR7.out.kept hb8
          have HTY8 := Lib.hid hty8
          clear hty8 hb8 hW7 g0 g1 g2 m0 m1 m2 n0' n1' n2'
          go_wp2_with fail
          refine bodyPost_ret (v := .tuple #[.agg #[.int .i64 k, .int .i64 0, .slice a8 2 k8], .bool true]) (by simp [results, Try.results64, go_sem, p0, p1, p2, psz, Ty.k, Ty.n, Ty.ks]) rfl ⟨HKP8.out.res (Nat.le_refl _) _ _ _, HG8.out.res hsz _ _ _, fun e => ?_, fun u e => ?_⟩
          · rw [HRT.out] at e; cases e
          · rw [HRT.out] at e
            injection e with e
            subst e
            have er : rp fF (d + 1) (.node k 0 [ua, ub]) st = (.node k 0 [y1, y2x], s2) := by
              rw [← HY1.out, ← HY2.out, ← HS2.out, ← HS1.out]
              simp [rp, HK4.out]
            rw [er]
            exact ⟨.slice a8 2 k8, rfl, res_ty HTY8.out (Nat.le_refl w.heap.size) _ _ _, (gen_stays lo hi q bm).res HGN8.out hsz _ _ _⟩

end Go.Proofs.Ytjhccdioainibaa.Nx

namespace Go.Proofs.Ytjhccdioainibaa
open Go.RowKit

theorem below_two2 {w wk : World} {o1 o2 : Obj} (h : Below (w.heap.size + 1 + 1) ((w.alloc o1).alloc o2) wk) : Below w.heap.size w wk :=
  (((Below.refl _ _).alloc (Nat.le_refl _) _).alloc (by simp) _).trans (h.mono (by omega))
theorem _root_.Go.RowKit.Below.size2 {w wk : World} {o1 o2 : Obj} (h : Below (w.heap.size + 1 + 1) ((w.alloc o1).alloc o2) wk) : w.heap.size + 1 + 1 ≤ wk.heap.size := by
  have := h.size; simpa using this
theorem six2 {w wk : World} {a1 a2 b1 b2 v1 v2 : Value} {T : TypeId} (h : Below (w.heap.size + 1 + 1) ((w.alloc (.cells #[a1, a2, v1] T)).alloc (.cells #[b1, b2, v2] T)) wk) :
    wk.cell? ⟨w.heap.size, 2, none⟩ = some v1 ∧ wk.cell? ⟨w.heap.size + 1, 2, none⟩ = some v2 := by
  have a0 : w.heap.size < w.heap.size + 1 + 1 := by omega
  have a1 : w.heap.size + 1 < w.heap.size + 1 + 1 := by omega
  constructor
  · rw [h.cell (p := ⟨w.heap.size, 2, none⟩) a0]; go_simp
  · rw [h.cell (p := ⟨w.heap.size + 1, 2, none⟩) a1]; go_simp
theorem ret_b {a b : Bool} (h : a = b) : Ending.returned (.bool a) = .returned (.bool b) := by rw [h]
end Go.Proofs.Ytjhccdioainibaa

namespace Go.Proofs.Ytjhccdioainibaa
open Go.RowKit
set_option linter.unusedVariables false
set_option linter.unusedSimpArgs false
theorem good_rep {w : World} {bm : Nat} {M : List (KV × KV)} {rep : KV → KV} {dp : KV → Nat} (hu : UG w bm M) (hf : UF M rep dp) : ∀ (n : Nat) (k : KV), dp k < n → Good bm w k → Good bm w (rep k) := by
  intro n
  induction n with
  | zero => intro k hk; omega
  | succ n ih =>
    intro k hk hg
    rcases hl : look k M with _ | p
    · rw [hf.top k hl]; exact hg
    · obtain ⟨a1, a2⟩ := hf.up k p hl
      rw [← a1]; exact ih p (by omega) (hu.good hl)
/-- Where join stands: both leaders lie in its variables. -/
structure JS (w : World) (S bm : Nat) (wr : World) (x y a b : KV) (M : List (KV × KV)) : Prop where
  hx : KB wr (S + 1) x
  hy : KB wr (S + 1 + 1) y
  hm : wr.cell? ⟨S, 0, none⟩ = some (.map (some bm))
  hu : UG wr bm M
  ha : Good bm wr a
  hb : Good bm wr b
  hin : Inside bm (bm + 1) w wr
  hsz : S + 3 ≤ wr.heap.size
theorem JS.set {w : World} {S bm : Nat} {wr : World} {x y a b : KV} {M : List (KV × KV)} (h : JS w S bm wr x y a b M) (hS : w.heap.size = S) (hb : bm < S) (p q : KV) :
    JS w S bm ((((wr.setCell ⟨S + 1, 0, none⟩ (.pointer (some ⟨p.1, p.2.1, none⟩))).setCell ⟨S + 1, 1, none⟩ (.int .i64 (p.2.2 : Int))).setCell ⟨S + 1 + 1, 0, none⟩ (.pointer (some ⟨q.1, q.2.1, none⟩))).setCell ⟨S + 1 + 1, 1, none⟩ (.int .i64 (q.2.2 : Int))) p q a b M := by
  obtain ⟨W, hW⟩ : ∃ W, (wr.setCell ⟨S + 1, 0, none⟩ (.pointer (some ⟨p.1, p.2.1, none⟩))).setCell ⟨S + 1, 1, none⟩ (.int .i64 (p.2.2 : Int)) = W := ⟨_, rfl⟩
  have e1 : ∀ b, b ≠ S + 1 → W.heap[b]? = wr.heap[b]? := fun b hb => by rw [← hW]; exact (heap_setCell_other _ ⟨S + 1, 1, none⟩ b _ hb).trans (heap_setCell_other _ ⟨S + 1, 0, none⟩ b _ hb)
  have hx1 : KB W (S + 1) p := by rw [← hW]; exact h.hx.set p
  have sz1 : W.heap.size = wr.heap.size := by rw [← hW]; simp
  have hy1 : KB W (S + 1 + 1) y := h.hy.keep (by omega) (e1 _ (by omega))
  have hu1 : UG W bm M := by rw [← hW]; exact ug_set (ug_set h.hu _ (by omega)) _ (by omega)
  have ga1 : Good bm W a := by rw [← hW]; exact good_set (good_set h.ha _ _ _) _ _ _
  have gb1 : Good bm W b := by rw [← hW]; exact good_set (good_set h.hb _ _ _) _ _ _
  have hi1 : Inside bm (bm + 1) w W := by rw [← hW]; exact in_set (in_set h.hin (by omega) _) (by omega) _
  rw [hW]
  have e2 : ∀ b, b ≠ S + 1 + 1 → ((W.setCell ⟨S + 1 + 1, 0, none⟩ (.pointer (some ⟨q.1, q.2.1, none⟩))).setCell ⟨S + 1 + 1, 1, none⟩ (.int .i64 (q.2.2 : Int))).heap[b]? = W.heap[b]? := fun b hb => (heap_setCell_other _ ⟨S + 1 + 1, 1, none⟩ b _ hb).trans (heap_setCell_other _ ⟨S + 1 + 1, 0, none⟩ b _ hb)
  exact ⟨hx1.keep (by simp) (e2 _ (by omega)), hy1.set q, (cellEq (e2 S (by omega))).trans ((cellEq (e1 S (by omega))).trans h.hm), ug_set (ug_set hu1 _ (by omega)) _ (by omega), good_set (good_set ga1 _ _ _) _ _ _, good_set (good_set gb1 _ _ _) _ _ _, in_set (in_set hi1 (by omega) _) (by omega) _, by simp [sz1]; exact h.hsz⟩
theorem eqGuardK : Try.prog.eqGuardType Try.prog.depth 67 = false := by kernel_rfl
set_option maxRecDepth 100000 in
set_option maxHeartbeats 16000000 in
theorem join_any (bm : Nat) (M0 : List (KV × KV)) (rep : KV → KV) (dp : KV → Nat) (a b : KV) (w : World) (hu : UG w bm M0) (hf : UF M0 rep dp) (ha : Good bm w a) (hb : Good bm w b) :
    Calls Try.prog 38 #[.agg #[.map (some bm)], .agg #[.pointer (some ⟨a.1, a.2.1, none⟩), .int .i64 (a.2.2 : Int)], .agg #[.pointer (some ⟨b.1, b.2.1, none⟩), .int .i64 (b.2.2 : Int)]] w fun e w' => Inside bm (bm + 1) w w' ∧ ((rep a = rep b ∧ e = .returned (.bool false) ∧ ∃ M, UG w' bm M ∧ UF M rep dp) ∨ (rep a ≠ rep b ∧ e = .returned (.bool true) ∧ ∃ M, UG w' bm M ∧ UF M (repJ rep (rep a) (rep b)) (fun k => if rep k = rep a then dp k + dp (rep b) + 1 else dp k))) := by
  obtain ⟨S, hS⟩ : ∃ S, w.heap.size = S := ⟨_, rfl⟩
  have HS := Lib.hid hS
  have hbm : bm < S := by rw [← hS]; exact hu.m.lt
  obtain ⟨W1, hW1⟩ : ∃ W1, ((w.alloc (.cells #[.map (some bm)] 63)).alloc (.cells #[.pointer (some ⟨a.1, a.2.1, none⟩), .int .i64 (a.2.2 : Int)] 67)).alloc (.cells #[.pointer (some ⟨b.1, b.2.1, none⟩), .int .i64 (b.2.2 : Int)] 67) = W1 := ⟨_, rfl⟩
  have hB1 : Below w.heap.size w W1 := by rw [← hW1]; exact (((Below.refl _ _).alloc (Nat.le_refl _) _).alloc (by simp) _).alloc (by simp; omega) _
  have hz1 : W1.heap.size = S + 3 := by rw [← hW1, ← hS]; simp
  have HU1 := Lib.hid (hu.kept hB1)
  have HF := Lib.hid hf
  have HGA := Lib.hid (ha.kept hB1)
  have HGB := Lib.hid (hb.kept hB1)
  have HI1 : Hid (Inside bm (bm + 1) w W1) := Lib.hid (in_below hB1)
  have HA1 : Hid (KB W1 (S + 1) a) := Lib.hid (by
    have h := (kb_new (w.alloc (.cells #[.map (some bm)] 63)) a 67).kept ((Below.refl _ _).alloc (Nat.le_refl _) (.cells #[.pointer (some ⟨b.1, b.2.1, none⟩), .int .i64 (b.2.2 : Int)] 67))
    rw [sizeA', hW1, hS] at h; exact h)
  have HB1 : Hid (KB W1 (S + 1 + 1) b) := Lib.hid (by
    have h := kb_new ((w.alloc (.cells #[.map (some bm)] 63)).alloc (.cells #[.pointer (some ⟨a.1, a.2.1, none⟩), .int .i64 (a.2.2 : Int)] 67)) b 67
    rw [sizeA', sizeA', hW1, hS] at h; exact h)
  have c1 : W1.cell? ⟨S, 0, none⟩ = some (.map (some bm)) := by
    rw [← hW1, ← hS]
    refine (((Below.refl _ _).alloc (Nat.le_refl _) _).cell (p := ⟨w.heap.size, 0, none⟩) (by simp; omega)).trans ?_
    refine (((Below.refl _ _).alloc (Nat.le_refl _) _).cell (p := ⟨w.heap.size, 0, none⟩) (by simp)).trans ?_
    exact cell_fresh' w _ _
  have hq0 : S < W1.heap.size := by omega
  have hq1 : bm + 1 ≤ S + 1 := by omega
  have hq2 : bm + 1 ≤ S + 1 + 1 := by omega
  have hq3 : bm + 1 ≤ S := by omega
  have HW1 := Lib.hid hW1
  clear hu hf ha hb hB1 hW1
  go_enter Try.func38, Try.ntmps38
  go_wp2_with fail
  rw [HW1.out]
  clear hS hz1
  obtain ⟨xa0, xa1, xa2, xa3, xa4⟩ := HA1.out
  obtain ⟨xb0, xb1, xb2, xb3, xb4⟩ := HB1.out
  go_cut [] (fun wx => ∃ M, Hid (JS w S bm wx (rep a) (rep b) a b M) ∧ Hid (UF M rep dp))
  case first =>
    go_region_law (first
      | (go_simp; go_at_call 68; have hgd := HU2; clear hgd; refine (leader_any bm M2 rep dp b _ (HU2.out.kept (by first | exact Below.refl _ _ | exact (Below.refl _ _).drew)) HF2.out (HGB2.out.kept (by first | exact Below.refl _ _ | exact (Below.refl _ _).drew))).mono ?_; rintro e w3 ⟨rfl, hin, M3, hu3, hf3⟩; have hin3 : Inside bm (bm + 1) w2 w3 := (in_below (lo := bm) (hi := bm + 1) (w := w2) (by first | exact Below.refl _ _ | exact (Below.refl _ _).drew)).trans hin; have HU3 := Lib.hid hu3; have HF3 := Lib.hid hf3; have HI3 := Lib.hid (HI2.out.trans hin3); have HGB3 := Lib.hid (HGB2.out.keep (hin3.block _ HGB2.out.lt (by have := HGB2.out.ne HU2.out.m; omega))); have HGA3 := Lib.hid (HGA2.out.keep (hin3.block _ HGA2.out.lt (by have := HGA2.out.ne HU2.out.m; omega))); have HA3 := Lib.hid (HA2.out.keep hin3.size (hin3.block _ HA2.out.sz (.inr hq1))); have HB3 := Lib.hid (HB2.out.keep hin3.size (hin3.block _ HB2.out.sz (.inr hq2))); have c3 := (cellEq (i := 0) (hin3.block S (Nat.lt_of_lt_of_le hq0 hs2) (.inr hq3))).trans c2; obtain ⟨za0, za1, za2, za3, za4⟩ := HA3.out; obtain ⟨zb0, zb1, zb2, zb3, zb4⟩ := HB3.out; have hs3 : w2.heap.size ≤ w3.heap.size := hin3.size; clear hin hin3 hu3 hf3)
      | (go_simp; go_at_call 68; refine (leader_any bm M0 rep dp a _ (HU1.out.kept (by first | exact Below.refl _ _ | exact (Below.refl _ _).drew)) HF.out (HGA.out.kept (by first | exact Below.refl _ _ | exact (Below.refl _ _).drew))).mono ?_; rintro e w2 ⟨rfl, hin, M2, hu2, hf2⟩; have hin2 : Inside bm (bm + 1) W1 w2 := (in_below (lo := bm) (hi := bm + 1) (w := W1) (by first | exact Below.refl _ _ | exact (Below.refl _ _).drew)).trans hin; have HU2 := Lib.hid hu2; have HF2 := Lib.hid hf2; have HI2 := Lib.hid (HI1.out.trans hin2); have HGB2 := Lib.hid (HGB.out.keep (hin2.block _ HGB.out.lt (by have := HGB.out.ne HU1.out.m; omega))); have HGA2 := Lib.hid (HGA.out.keep (hin2.block _ HGA.out.lt (by have := HGA.out.ne HU1.out.m; omega))); have HA2 := Lib.hid (HA1.out.keep hin2.size (hin2.block _ HA1.out.sz (.inr hq1))); have HB2 := Lib.hid (HB1.out.keep hin2.size (hin2.block _ HB1.out.sz (.inr hq2))); have c2 := (cellEq (i := 0) (hin2.block S hq0 (.inr hq3))).trans c1; obtain ⟨ya0, ya1, ya2, ya3, ya4⟩ := HA2.out; obtain ⟨yb0, yb1, yb2, yb3, yb4⟩ := HB2.out; have hs2 : W1.heap.size ≤ w2.heap.size := hin2.size; clear hin hin2 hu2 hf2))
    all_goals go_wp2_with fail
    all_goals go_meet
    all_goals exact ⟨M3, Lib.hid ((JS.mk HA3.out HB3.out c3 HU3.out HGA3.out HGB3.out HI3.out (by omega)).set HS.out hbm (rep a) (rep b)), HF3⟩
  case rest =>
    clear xa0 xa1 xa2 xa3 xa4 xb0 xb1 xb2 xb3 xb4
    obtain ⟨M, hjs, huf⟩ := hcut
    obtain ⟨xa0, xa1, xa2, xa3, xa4⟩ := hjs.out.hx
    obtain ⟨xb0, xb1, xb2, xb3, xb4⟩ := hjs.out.hy
    have xm := hjs.out.hm
    have HRA := Lib.hid (good_rep hjs.out.hu huf.out _ a (Nat.lt_succ_self _) hjs.out.ha)
    have HRB := Lib.hid (good_rep hjs.out.hu huf.out _ b (Nat.lt_succ_self _) hjs.out.hb)
    have hG := eqGuardK
    have hp0 := ptr_run 9998 wc ⟨(rep a).1, (rep a).2.1, none⟩ ⟨(rep b).1, (rep b).2.1, none⟩ HRA.out.2 HRB.out.2
    by_cases heq : rep a = rep b
    · have hp : (Op.equalIn 9999 65 (.pointer (some ⟨(rep a).1, (rep a).2.1, none⟩)) (.pointer (some ⟨(rep b).1, (rep b).2.1, none⟩))).run Try.prog wc = .ok true wc := by
        rw [heq] at hp0 ⊢; simpa using hp0
      have hcb : (((rep a).2.2 : Int) == ((rep b).2.2 : Int)) = true := by rw [heq]; simp
      have HEQ := Lib.hid heq
      clear heq hp0
      go_wp2_with fail
      exact bodyPost_ret (v := .bool false) (by simp [results, Try.results38, go_sem]) rfl ⟨hjs.out.hin, .inl ⟨HEQ.out, rfl, M, hjs.out.hu, huf.out⟩⟩
    · by_cases had : (⟨(rep a).1, (rep a).2.1, none⟩ : Addr) = ⟨(rep b).1, (rep b).2.1, none⟩
      · have hp : (Op.equalIn 9999 65 (.pointer (some ⟨(rep a).1, (rep a).2.1, none⟩)) (.pointer (some ⟨(rep b).1, (rep b).2.1, none⟩))).run Try.prog wc = .ok true wc := by rw [decide_eq_true had] at hp0; exact hp0
        have hcb : (((rep a).2.2 : Int) == ((rep b).2.2 : Int)) = false := by
          rw [beq_eq_false_iff_ne]
          intro h
          injection had with e1 e2 _
          exact heq (Prod.ext e1 (Prod.ext e2 (by omega)))
        clear hp0
        obtain ⟨w4, L4, hum, hgr⟩ := update_run wc bm M (rep a) (rep b) hjs.out.hu.m HRA.out
        have L4' : (Instr.mapUpdate 61 (.map (some bm)) (.agg #[.pointer (some ⟨(rep a).1, (rep a).2.1, none⟩), .int .i64 ((rep a).2.2 : Int)]) (.agg #[.pointer (some ⟨(rep b).1, (rep b).2.1, none⟩), .int .i64 ((rep b).2.2 : Int)])).run Try.prog wc = .ok () w4 := L4
        have HUP := Lib.hid (hjs.out.hu.put HRB.out hum hgr)
        have HIN : Hid (Inside bm (bm + 1) w w4) := Lib.hid (hjs.out.hin.trans ⟨hgr.os, hgr.tape, hgr.output, hgr.size, fun b hb hx => hgr.block b hb (fun e => by injection e; omega)⟩)
        have HNE := Lib.hid heq
        clear L4 hum hgr heq had
        go_wp2_with fail
        exact bodyPost_ret (v := .bool true) (by simp [results, Try.results38, go_sem]) rfl ⟨HIN.out, .inr ⟨HNE.out, rfl, _, HUP.out, huf.out.join HNE.out⟩⟩
      · have hp : (Op.equalIn 9999 65 (.pointer (some ⟨(rep a).1, (rep a).2.1, none⟩)) (.pointer (some ⟨(rep b).1, (rep b).2.1, none⟩))).run Try.prog wc = .ok false wc := by rw [decide_eq_false had] at hp0; exact hp0
        clear hp0
        obtain ⟨w4, L4, hum, hgr⟩ := update_run wc bm M (rep a) (rep b) hjs.out.hu.m HRA.out
        have L4' : (Instr.mapUpdate 61 (.map (some bm)) (.agg #[.pointer (some ⟨(rep a).1, (rep a).2.1, none⟩), .int .i64 ((rep a).2.2 : Int)]) (.agg #[.pointer (some ⟨(rep b).1, (rep b).2.1, none⟩), .int .i64 ((rep b).2.2 : Int)])).run Try.prog wc = .ok () w4 := L4
        have HUP := Lib.hid (hjs.out.hu.put HRB.out hum hgr)
        have HIN : Hid (Inside bm (bm + 1) w w4) := Lib.hid (hjs.out.hin.trans ⟨hgr.os, hgr.tape, hgr.output, hgr.size, fun b hb hx => hgr.block b hb (fun e => by injection e; omega)⟩)
        have HNE := Lib.hid heq
        clear L4 hum hgr heq had
        go_wp2_with fail
        exact bodyPost_ret (v := .bool true) (by simp [results, Try.results38, go_sem]) rfl ⟨HIN.out, .inr ⟨HNE.out, rfl, _, HUP.out, huf.out.join HNE.out⟩⟩

end Go.Proofs.Ytjhccdioainibaa
