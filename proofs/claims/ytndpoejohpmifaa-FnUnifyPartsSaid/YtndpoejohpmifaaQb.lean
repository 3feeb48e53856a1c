/-
  What the draw of the arguments of UnifyTypes returns: two types of little size. Nothing that was in memory changes.
-/
import Derived.Test.YtndpoejohpmifaaPce
import Derived.Test.YtndpoejohpmifaaAfh
import Derived.Test.YtndpoejohpmifaaQac
import Derived.Deep.DeepCutAuto
namespace Go.Proofs.Ytndpoejohpmifaa
open Go.RowKit
set_option linter.unusedVariables false
set_option linter.unusedSimpArgs false

theorem RB.dw {w w' : World} {B T : Nat} (h : RB w T) (hB : B < T) (hd : Dw B w w') : RB w' T := h.keep hd.size (hd.block T h.sz (by simp; omega))
theorem row3_at {w : World} {x y z : Ty} {vx vy vz : Value} (hx : TyAt w x vx) (hy : TyAt w y vy) (hz : TyAt w z vz) :
    TyAt (w.alloc (.cells #[.int .i64 x.k, .int .i64 x.n, vx, .int .i64 y.k, .int .i64 y.n, vy, .int .i64 z.k, .int .i64 z.n, vz] 25)) (.node 0 0 [x, y, z]) (.slice (some ⟨w.heap.size, 0, none⟩) 3 3) := by
  have hA : Below w.heap.size w (w.alloc (.cells #[.int .i64 x.k, .int .i64 x.n, vx, .int .i64 y.k, .int .i64 y.n, vy, .int .i64 z.k, .int .i64 z.n, vz] 25)) := (Below.refl _ _).alloc (Nat.le_refl _) _
  have hc : ∀ i, i < 3 → i = 0 ∨ i = 1 ∨ i = 2 := fun i h => by omega
  refine TyAt.row 0 0 [x, y, z] w.heap.size 0 3 (fun i => match i with | 0 => vx | 1 => vy | _ => vz) (by simp) (show 3 ≤ 9223372036854775807 by decide) ?_ ?_ ?_ ?_
  all_goals
    intro i hi
    rcases hc i hi with rfl | rfl | rfl
  all_goals first
    | exact hx.kept hA
    | exact hy.kept hA
    | exact hz.kept hA
    | (simp [List.getD]; done)
    | (go_simp; done)
theorem nodes_sb (ls : List Ty) (M : Nat) (hM : 1 ≤ M) (hr : ∀ n, nodes (sF ls [] n).1 ≤ M) : ∀ (d : Nat) (t : Ty), shp d t = true → nodes (sbT ls d t) ≤ nodes t * M := by
  intro d
  induction d with
  | zero => intro t h; cases h
  | succ d ih =>
    intro t h
    rcases shp_forms h with rfl | ⟨n, n0, n1, rfl⟩ | ⟨k, a, b, hk, rfl, ha, hb⟩
    · rw [Mx.sb_num]; show 1 ≤ 1 * M; omega
    · rw [Mx.sb_var]; show nodes (sF ls [] n).1 ≤ 1 * M; rw [Nat.one_mul]; exact hr n
    · rw [sbT_join (by omega), nodes_two, nodes_two, Nat.add_mul, Nat.add_mul]
      have h1 := ih a ha
      have h2 := ih b hb
      omega
theorem nodes_sb3 {x y z t : Ty} (hx : nodes x ≤ 7) (hy : nodes y ≤ 7) (hz : nodes z ≤ 7) (ht : shp 16 t = true) (hn : nodes t ≤ 40) : nodes (sbT [x, y, z] 16 t) ≤ 280 := by
  have h := nodes_sb [x, y, z] 7 (by omega) (fun n => by
    unfold sF
    split
    · have h3 : ∀ i : Nat, nodes ([x, y, z].getD i Ty.dummy) ≤ 7 := fun i => by
        match i with
        | 0 => exact hx
        | 1 => exact hy
        | 2 => exact hz
        | i + 3 => show nodes (.node 0 0 []) ≤ 7; simp [nodes, nodesL]
      exact h3 _
    · show nodes (.node 4 n []) ≤ 7
      simp [nodes, nodesL]) 16 t ht
  have : nodes t * 7 ≤ 40 * 7 := Nat.mul_le_mul_right 7 hn
  omega
theorem shp3 {x y z : Ty} (hx : shp 16 x = true) (hy : shp 16 y = true) (hz : shp 16 z = true) : ∀ i, i < [x, y, z].length → shp 16 ([x, y, z].getD i Ty.dummy) = true := fun i hi => by
  match i, hi with
  | 0, _ => exact hx
  | 1, _ => exact hy
  | 2, _ => exact hz
  | i + 3, hi => exact absurd hi (by simp)
theorem nodes7 {t : Ty} {d : Nat} (h : shp d t = true) (hd : d ≤ 3) : nodes t ≤ 7 := by
  have h := nodes_shp 3 t (shp_le h hd)
  have e : (2 : Nat) ^ 3 = 8 := by decide
  omega
theorem TyN.avoid {w : World} {lo E E' : Nat} {t : Ty} {v : Value} (h : TyN w lo E t v) (hE : w.heap.size ≤ E') : TyN w lo E' t v := h.moved (Nat.le_refl _) (fun _ _ _ => rfl) (.inr hE)
/-- Where the draw of two types stands: both lie in variables of the draw's own. -/
structure TwB (w : World) (S B T T2 : Nat) (a : Option Addr) (len cap : Nat) (zs : List Int) (p : Nat) (x : Ty) (vx : Value) (y : Ty) (vy : Value) (W : World) : Prop where
  q : QS w S B a len cap zs p W
  rb : RB W (S + 1)
  tb : TBox W T (.int .i64 x.k) (.int .i64 x.n) vx
  oc : OC W T2 y.k y.n vy
  tx : TyN W (B + 1) T2 x vx
  ty : TyN W (B + 1) T2 y vy
  hT : B < T
  hT2 : B < T2
  ne : T ≠ T2
theorem TwB.step {w : World} {S B T T2 : Nat} {a : Option Addr} {len cap : Nat} {zs : List Int} {p p' : Nat} {x : Ty} {vx : Value} {y : Ty} {vy : Value} {W W' : World} (h : TwB w S B T T2 a len cap zs p x vx y vy W) (hd : Dw B W W') (hr : Rd W' B a len cap zs p') : TwB w S B T T2 a len cap zs p' x vx y vy W' := by
  have hl := h.q.lt
  exact ⟨h.q.step hd hr, h.q.r1step h.rb (by omega) hd, h.tb.dw h.hT hd, h.oc.dw h.hT2 hd, h.tx.dw (by omega) hd, h.ty.dw (by omega) hd, h.hT, h.hT2, h.ne⟩
theorem TwB.put {w : World} {S B T T2 : Nat} {a : Option Addr} {len cap : Nat} {zs : List Int} {p : Nat} {x : Ty} {vx : Value} {y : Ty} {vy : Value} {W : World} (h : TwB w S B T T2 a len cap zs p x vx y vy W) {z : Ty} {vz : Value} (hz : TyN W (B + 1) T2 z vz) :
    TwB w S B T T2 a len cap zs p x vx z vz (((W.setCell ⟨T2, 0, none⟩ (.int .i64 z.k)).setCell ⟨T2, 1, none⟩ (.int .i64 z.n)).setCell ⟨T2, 2, none⟩ vz) := by
  have hl := h.q.lt
  have h2 := h.hT2
  have hs : ∀ b, b ≠ T2 → (((W.setCell ⟨T2, 0, none⟩ (.int .i64 z.k)).setCell ⟨T2, 1, none⟩ (.int .i64 z.n)).setCell ⟨T2, 2, none⟩ vz).heap[b]? = W.heap[b]? := fun b hb => heap_res hb
  have hz' : (((W.setCell ⟨T2, 0, none⟩ (.int .i64 z.k)).setCell ⟨T2, 1, none⟩ (.int .i64 z.n)).setCell ⟨T2, 2, none⟩ vz).heap.size = W.heap.size := by simp
  refine ⟨⟨((h.q.rd.setNew h2 0 _).setNew h2 1 _).setNew h2 2 _, rest_bl h.q.bl (by omega) _ _ _, rest_rb h.q.r1 (by omega) _ _ _, h.q.lt, h.q.eq⟩, rest_rb h.rb (by omega) _ _ _, ?_, ((h.oc.set0 _).set1 _).set2 _, h.tx.keep (by rw [hz']; exact Nat.le_refl _) (fun b _ hb _ => hs b hb), hz.keep (by rw [hz']; exact Nat.le_refl _) (fun b _ hb _ => hs b hb), h.hT, h.hT2, h.ne⟩
  have e := hs T h.ne
  exact ⟨(cellEq e).trans h.tb.c0, (cellEq e).trans h.tb.c1, (cellEq e).trans h.tb.c2, by rw [hz']; exact h.tb.sz⟩
theorem heap_al (W : World) (o : Obj) {b : Nat} (h : b < W.heap.size) : (W.alloc o).heap[b]? = W.heap[b]? := ((Below.refl W.heap.size W).alloc (Nat.le_refl _) o).block b h
theorem twb_alloc {w : World} {S B T lo : Nat} {a : Option Addr} {len cap : Nat} {zs : List Int} {p : Nat} {x : Ty} {vx : Value} {y : Ty} {vy : Value} {W : World} (q : QS w S B a len cap zs p W) (rb : RB W (S + 1)) (tb : TBox W T (.int .i64 x.k) (.int .i64 x.n) vx) (tx : TyN W (B + 1) W.heap.size x vx) (ty : TyIn W lo W.heap.size y vy) (hlo : B < lo) (hT : B < T) :
    TwB w S B T W.heap.size a len cap zs p x vx y vy (W.alloc (.cells #[.int .i64 y.k, .int .i64 y.n, vy] 25)) := by
  have hA : Below W.heap.size W (W.alloc (.cells #[.int .i64 y.k, .int .i64 y.n, vy] 25)) := (Below.refl _ _).alloc (Nat.le_refl _) _
  have hD := Dw.ofBelow (B := B) hA
  have hl := q.lt
  have hb := q.rd.big
  have ht := tb.sz
  exact ⟨q.step hD (q.rd.alloc _), q.r1step rb (by omega) hD, tb.kept hA, oc_new W _ _ _ _, tx.kept hA, (ty.toN (E := W.heap.size) hlo (.inl (Nat.le_refl _))).kept hA, hT, hb, by omega⟩
theorem twb_set {w : World} {S B T T2 lo hi : Nat} {a : Option Addr} {len cap : Nat} {zs : List Int} {p : Nat} {x : Ty} {vx : Value} {y : Ty} {vy : Value} {W : World} (q : QS w S B a len cap zs p W) (rb : RB W (S + 1)) (tb : TBox W T (.int .i64 x.k) (.int .i64 x.n) vx) (r2 : RB W T2) (tx : TyN W (B + 1) T2 x vx) (ty : TyIn W lo hi y vy) (hlo : T2 < lo) (hT : B < T) (hT2 : B < T2) (ne : T ≠ T2) :
    TwB w S B T T2 a len cap zs p x vx y vy (((W.setCell ⟨T2, 0, none⟩ (.int .i64 y.k)).setCell ⟨T2, 1, none⟩ (.int .i64 y.n)).setCell ⟨T2, 2, none⟩ vy) :=
  TwB.put (y := .node 0 0 []) (vy := .slice none 0 0) ⟨q, rb, tb, ⟨r2.c0, r2.c1, r2.c2, r2.f0, r2.f1, r2.f2, r2.sz⟩, tx, .bare _ _ _ _, hT, hT2, ne⟩ (ty.toN (E := T2) (by omega) (.inr hlo))
def DuoN (w : World) (e : Ending) (w' : World) : Prop := ∃ (x y : Ty) (vx vy : Value), nodes x ≤ 1000 ∧ nodes y ≤ 1000 ∧ e = .returned (.tuple #[.agg #[.int .i64 x.k, .int .i64 x.n, vx], .agg #[.int .i64 y.k, .int .i64 y.n, vy]]) ∧ TyN w' w.heap.size 0 x vx ∧ TyN w' w.heap.size 0 y vy ∧ Below w.heap.size w w'
/-- What the draw leaves. -/
def DuoPost (w : World) (e : Ending) (w' : World) : Prop := ∃ (x y : Ty) (vx vy : Value), nodes x ≤ 1000 ∧ nodes y ≤ 1000 ∧ e = .returned (.tuple #[.agg #[.int .i64 x.k, .int .i64 x.n, vx], .agg #[.int .i64 y.k, .int .i64 y.n, vy]]) ∧ TyOk w' x vx ∧ TyOk w' y vy ∧ Below w.heap.size w w'

set_option maxRecDepth 100000 in
set_option maxHeartbeats 16000000 in
theorem l2TwoN_any (a : Option Addr) (len cap : Nat) (zs : List Int) (w : World) (h : IsRow w a len cap zs) :
    Calls Try.prog 52 #[.slice a len cap] w (DuoN w) := by
  obtain ⟨W1, hW1⟩ : ∃ W, (w.alloc (.cells #[.int .i64 0, .int .i64 0, .slice none 0 0] 25)).alloc (.cells #[.int .i64 0, .int .i64 0, .slice none 0 0] 25) = W := ⟨_, rfl⟩
  obtain ⟨S, hS⟩ : ∃ S, w.heap.size = S := ⟨_, rfl⟩
  have hb1 : Below S w W1 := by rw [← hW1, ← hS]; exact ((Below.refl _ _).alloc (Nat.le_refl _) _).alloc (by simp) _
  have HB1 := Lib.hid hb1
  have HI : Hid (IsRow W1 a len cap zs) := Lib.hid (h.kept (by rw [hS]; exact hb1))
  have HR1 : Hid (RB W1 S) := Lib.hid (by rw [← hW1, ← hS]; exact (rb_new w _).kept ((Below.refl _ _).alloc (Nat.le_refl _) _))
  have HR2 : Hid (RB W1 (S + 1)) := Lib.hid (by have h := rb_new (w.alloc (.cells #[.int .i64 0, .int .i64 0, .slice none 0 0] 25)) 25; rw [hW1, sizeA, hS] at h; exact h)
  have hz1 : W1.heap.size = S + 2 := by rw [← hW1, ← hS]; simp
  have HZ1 := Lib.hid hz1
  have HW1 := Lib.hid hW1
  have HS := Lib.hid hS
  clear h hb1 hW1 hz1
  go_enter Try.func52, Try.ntmps52
  go_wp2_with fail
  rw [HW1.out]
  clear hS
  go_at_call 48
  refine (l16Open_any a len cap zs _ HI.out).mono ?_
  rintro e w1 ⟨ln, cp, rfl, hr, hb⟩
  obtain ⟨B, hB⟩ : ∃ B, W1.heap.size = B := ⟨_, rfl⟩
  rw [hB] at hr ⊢
  have hBS : S + 2 ≤ B := by rw [← hB, HZ1.out]; exact Nat.le_refl _
  have HQ1 : Hid (QS w S B a ln cp zs 0 w1) := Lib.hid ⟨hr, HB1.out.trans (hb.mono (by omega)), HR1.out.kept hb, by omega, HS.out⟩
  have HRB1 : Hid (RB w1 (S + 1)) := Lib.hid (HR2.out.kept hb)
  clear hr hb hB
  go_wp2_with fail
  go_at_call 50
  refine (l2Some_any B a ln cp zs 0 _ (fun t => shp 5 t = true) (fun t h => h) 100 (Nat.le_refl _) HQ1.out.rd (by omega)).mono ?_
  rintro e w2 ⟨x, vx, r0, hsx, hr0, rfl, hty, hd, hrd⟩
  have HNX := Lib.hid (nodes5 hsx)
  have HSX := Lib.hid (shp_le (d' := 16) hsx (by omega))
  have hb1 : B < w1.heap.size := HQ1.out.rd.big
  have HTX := Lib.hid (show TyN w2 (B + 1) 0 x vx from hty.toN (by omega) (.inr (by omega)))
  have HQ2 := Lib.hid (HQ1.out.step hd hrd)
  have HRB2 := Lib.hid (HQ1.out.r1step HRB1.out (by omega) hd)
  obtain ⟨ax, cx, rfl, _⟩ := hty.at.slice
  have hz2 := hd.size
  clear hty hd hrd hsx
  obtain ⟨W2, hW2⟩ : ∃ W, w2.alloc (.cells #[.int .i64 x.k, .int .i64 x.n, .slice ax x.ks.length cx] 25) = W := ⟨_, rfl⟩
  obtain ⟨T, hT⟩ : ∃ T, w2.heap.size = T := ⟨_, rfl⟩
  have hdW : Dw B w2 W2 := by rw [← hW2]; exact (Dw.refl B w2).alloc _
  have HT2 : Hid (TBox W2 T (.int .i64 x.k) (.int .i64 x.n) (.slice ax x.ks.length cx)) := Lib.hid (by rw [← hW2, ← hT]; exact tbox_new w2 _ _ _ _)
  have HR2' := Lib.hid (HQ2.out.r1step HRB2.out (by omega) hdW)
  have HQ2' := Lib.hid (HQ2.out.step hdW (by rw [← hW2]; exact HQ2.out.rd.alloc _))
  have HTX2 := Lib.hid (HTX.out.dw (B := B) (by omega) hdW)
  clear HQ2 HR2 HRB2
  have HQ2 := HQ2'
  have HR2 := HR2'
  clear HQ2' HR2'
  have hBT : B < T := by omega
  have HD2 : Hid (Dw B W2 W2) := Lib.hid (Dw.refl _ _)
  have HW2 := Lib.hid hW2
  obtain ⟨t02, t12, t22, tz2⟩ := HT2.out
  clear hW2 hdW
  go_wp2_with fail
  rw [HW2.out]
  clear hT
  go_cut [6] (fun s5 wx => ∃ (T2 p2 : Nat) (y : Ty) (ay : Option Addr) (cy : Nat), s5 = .pointer (some ⟨T2, 0, none⟩) ∧ p2 ≤ 500 ∧ Hid (nodes y ≤ 280) ∧ Hid (TwB w S B T T2 a ln cp zs p2 x (.slice ax x.ks.length cx) y (.slice ay y.ks.length cy) wx))
  case first =>
    have tok1 : True := True.intro
    go_region_held3 (fun w' => w'.cell? ⟨T, 0, none⟩ = some (.int .i64 x.k) ∧ w'.cell? ⟨T, 1, none⟩ = some (.int .i64 x.n) ∧ w'.cell? ⟨T, 2, none⟩ = some (.slice ax x.ks.length cx)) (first | go_keep | exact ⟨(cell_res ne0).trans t06, (cell_res ne0).trans t16, (cell_res ne0).trans t26⟩)
      (first
        | (clear tok4; go_at_call 88; have HX5 := Lib.hid (HTX2.out.dw (B := B) (by omega) HD5.out).ok.at; refine (l2Subst_any [y1, y2, y3] _ 3 _ (by first | exact row3_at HY1_5.out.ok.at HY2_5.out.ok.at HY3_5.out.ok.at | exact (row3_at HY1_5.out.ok.at HY2_5.out.ok.at HY3_5.out.ok.at).kept ((Below.refl _ _).alloc (Nat.le_refl _) _) | (have h := row3_at (w := w5.alloc (.cells #[.int .i64 0, .int .i64 0, .slice none 0 0] 25)) (HY1_5.out.ok.at.kept ((Below.refl _ _).alloc (Nat.le_refl _) _)) (HY2_5.out.ok.at.kept ((Below.refl _ _).alloc (Nat.le_refl _) _)) (HY3_5.out.ok.at.kept ((Below.refl _ _).alloc (Nat.le_refl _) _)); rw [sizeA'] at h; exact h)) (shp3 HS1.out HS2.out HS3.out) 16 x _ _ HSX.out (by first | exact HX5.out.kept ((Below.refl _ _).alloc (Nat.le_refl _) _) | exact HX5.out.kept (((Below.refl _ _).alloc (Nat.le_refl _) _).alloc (by simp) _)) (Below.refl _ _)).mono ?_; rintro e w6 ⟨v6, rfl, hty, hbx⟩; have HNY := Lib.hid (nodes_sb3 HN1.out HN2.out HN3.out HSX.out HNX.out); obtain ⟨y, hy⟩ : ∃ y, sbT [y1, y2, y3] 16 x = y := ⟨_, rfl⟩; rw [hy] at HNY hty ⊢; clear hy; (first | (have hrb := HBB.out; clear HBB; have HBB := Lib.hid (hrb.dw (w := w5) (by omega) (Dw.trans (B := B) (by first | exact (Dw.refl _ _).alloc _ | exact ((Dw.refl _ _).alloc _).alloc _) (Dw.ofBelow hbx))); clear hrb) | (have hrb : RB w6 w5.heap.size := ((rb_new w5 25).kept (Below.alloc (Below.refl _ _) (Nat.le_refl _) (.cells #[.int .i64 y1.k, .int .i64 y1.n, .slice ay1 y1.ks.length cy1, .int .i64 y2.k, .int .i64 y2.n, .slice ay2 y2.ks.length cy2, .int .i64 y3.k, .int .i64 y3.n, .slice ay3 y3.ks.length cy3] 25))).kept hbx; have HBB := Lib.hid hrb; clear hrb; have ne0 : ¬ T = w5.heap.size := (by omega)) | (have hrb := (rb_new (w5.alloc (.cells #[.int .i64 y1.k, .int .i64 y1.n, .slice ay1 y1.ks.length cy1, .int .i64 y2.k, .int .i64 y2.n, .slice ay2 y2.ks.length cy2, .int .i64 y3.k, .int .i64 y3.n, .slice ay3 y3.ks.length cy3] 25)) 25).kept hbx; rw [sizeA'] at hrb; have HBB := Lib.hid hrb; clear hrb; have ne0 : ¬ T = w5.heap.size + 1 := (by omega)) | skip); (try obtain ⟨u0, u1, u2, uf0, uf1, uf2, uz⟩ := HBB.out); have hbw : Below w5.heap.size w5 w6 := Below.trans (B := w5.heap.size) (by first | exact (Below.refl _ _).alloc (Nat.le_refl _) _ | exact ((Below.refl _ _).alloc (Nat.le_refl _) _).alloc (by simp) _) (hbx.mono (by simp; try omega)); have hd2 := Dw.ofBelow (B := B) hbw; have hty2 := hty; (try simp only [sizeA'] at hty2); obtain ⟨a6, c6, rfl, _⟩ := hty.at.slice; have HTY := Lib.hid hty2; have HQ6 := Lib.hid (HQ5.out.step hd2 (HQ5.out.rd.below hbw)); have HR6 := Lib.hid (HQ5.out.r1step HR5.out (by omega) hd2); have HT6 := Lib.hid (HT5.out.dw hBT hd2); have HD6 := Lib.hid (HD5.out.trans hd2); have hz6 : w5.heap.size ≤ w6.heap.size := hd2.size; obtain ⟨t06, t16, t26, tz6⟩ := HT6.out; clear hty hty2 hbx hbw hd2 HX5)
        | (clear tok1; go_at_call 82; refine (l2Draw_any 2 B a ln cp zs _ 2 _ rfl (by omega) (by with_reducible first | exact HQ2.out.rd | exact HQ2.out.rd.drew | exact HQ2.out.rd.alloc _ | exact (HQ2.out.rd.alloc _).drew | exact HQ2.out.rd.drew.alloc _) (by have : qd 2 ≤ 93 := (by decide); omega)).mono ?_; rintro e w3 ⟨y1, v1, r11, hs1, hr1, rfl, hty, hd, hrd⟩; have hq1 : r11 ≤ 93 := Nat.le_trans hr1 (by decide); clear hr1; (first | (have hrb := HBB.out; clear HBB; have HBB := Lib.hid (hrb.dw (by omega) hd); clear hrb) | (have hrl : B < W2.heap.size := (by omega); have hrb : RB w3 W2.heap.size := (by first | with_reducible exact (rb_new W2 25).dw hrl hd | (have h : Dw B (World.alloc (World.drew W2) (.cells #[.int .i64 0, .int .i64 0, .slice none 0 0] 25)) w3 := (by with_reducible exact hd); exact (rb_new (World.drew W2) 25).dw (show B < (World.drew W2).heap.size from hrl) h) | (have h : Dw B (World.drew (World.alloc W2 (.cells #[.int .i64 0, .int .i64 0, .slice none 0 0] 25))) w3 := (by with_reducible exact hd); exact ((rb_new W2 25).dw hrl (Dw.refl B _).drew).dw hrl h)); have HBB := Lib.hid hrb; clear hrb; have ne0 : ¬ T = W2.heap.size := (by omega)) | skip); (try obtain ⟨u0, u1, u2, uf0, uf1, uf2, uz⟩ := HBB.out); have hd2 : Dw B W2 w3 := Dw.trans (B := B) (by with_reducible first | exact Dw.refl _ _ | exact (Dw.refl _ _).drew | exact (Dw.refl _ _).alloc _ | exact ((Dw.refl _ _).alloc _).drew | exact (Dw.refl _ _).drew.alloc _) hd; have HY1_3 := Lib.hid (show TyN w3 (B + 1) 0 y1 v1 from hty.toN (by first | omega | (simp; done) | (simp; omega)) (.inr (by first | omega | (simp; done) | (simp; omega)))); obtain ⟨ay1, cy1, rfl, _⟩ := hty.at.slice; have HN1 := Lib.hid (nodes7 hs1 (by omega)); have HS1 := Lib.hid (shp_le (d' := 16) hs1 (by omega)); have HQ3 := Lib.hid (HQ2.out.step hd2 hrd); have HR3 := Lib.hid (HQ2.out.r1step HR2.out (by omega) hd2); have HT3 := Lib.hid (HT2.out.dw hBT hd2); have HD3 := Lib.hid (HD2.out.trans hd2); have hz3 : W2.heap.size ≤ w3.heap.size := hd2.size; obtain ⟨t03, t13, t23, tz3⟩ := HT3.out; clear hty hd hd2 hrd hs1; have tok2 : True := True.intro)
        | (clear tok3; go_at_call 82; refine (l2Draw_any 2 B a ln cp zs _ 2 _ rfl (by omega) (by with_reducible first | exact HQ4.out.rd | exact HQ4.out.rd.drew | exact HQ4.out.rd.alloc _ | exact (HQ4.out.rd.alloc _).drew | exact HQ4.out.rd.drew.alloc _) (by have : qd 2 ≤ 93 := (by decide); omega)).mono ?_; rintro e w5 ⟨y3, v3, r13, hs3, hr3, rfl, hty, hd, hrd⟩; have hq3 : r13 ≤ 93 := Nat.le_trans hr3 (by decide); clear hr3; (first | (have hrb := HBB.out; clear HBB; have HBB := Lib.hid (hrb.dw (by omega) hd); clear hrb) | (have hrl : B < w4.heap.size := (by omega); have hrb : RB w5 w4.heap.size := (by first | with_reducible exact (rb_new w4 25).dw hrl hd | (have h : Dw B (World.alloc (World.drew w4) (.cells #[.int .i64 0, .int .i64 0, .slice none 0 0] 25)) w5 := (by with_reducible exact hd); exact (rb_new (World.drew w4) 25).dw (show B < (World.drew w4).heap.size from hrl) h) | (have h : Dw B (World.drew (World.alloc w4 (.cells #[.int .i64 0, .int .i64 0, .slice none 0 0] 25))) w5 := (by with_reducible exact hd); exact ((rb_new w4 25).dw hrl (Dw.refl B _).drew).dw hrl h)); have HBB := Lib.hid hrb; clear hrb; have ne0 : ¬ T = w4.heap.size := (by omega)) | skip); (try obtain ⟨u0, u1, u2, uf0, uf1, uf2, uz⟩ := HBB.out); have hd2 : Dw B w4 w5 := Dw.trans (B := B) (by with_reducible first | exact Dw.refl _ _ | exact (Dw.refl _ _).drew | exact (Dw.refl _ _).alloc _ | exact ((Dw.refl _ _).alloc _).drew | exact (Dw.refl _ _).drew.alloc _) hd; have HY3_5 := Lib.hid (show TyN w5 (B + 1) 0 y3 v3 from hty.toN (by first | omega | (simp; done) | (simp; omega)) (.inr (by first | omega | (simp; done) | (simp; omega)))); obtain ⟨ay3, cy3, rfl, _⟩ := hty.at.slice; have HN3 := Lib.hid (nodes7 hs3 (by omega)); have HS3 := Lib.hid (shp_le (d' := 16) hs3 (by omega)); have HY1_5 := Lib.hid (HY1_4.out.dw (B := B) (by omega) hd2); have HY2_5 := Lib.hid (HY2_4.out.dw (B := B) (by omega) hd2); have HQ5 := Lib.hid (HQ4.out.step hd2 hrd); have HR5 := Lib.hid (HQ4.out.r1step HR4.out (by omega) hd2); have HT5 := Lib.hid (HT4.out.dw hBT hd2); have HD5 := Lib.hid (HD4.out.trans hd2); have hz5 : w4.heap.size ≤ w5.heap.size := hd2.size; obtain ⟨t05, t15, t25, tz5⟩ := HT5.out; clear hty hd hd2 hrd hs3; have tok4 : True := True.intro)
        | (clear tok2; go_at_call 82; refine (l2Draw_any 1 B a ln cp zs _ 1 _ rfl (by omega) (by with_reducible first | exact HQ3.out.rd | exact HQ3.out.rd.drew | exact HQ3.out.rd.alloc _ | exact (HQ3.out.rd.alloc _).drew | exact HQ3.out.rd.drew.alloc _) (by have : qd 1 ≤ 93 := (by decide); omega)).mono ?_; rintro e w4 ⟨y2, v2, r12, hs2, hr2, rfl, hty, hd, hrd⟩; have hq2 : r12 ≤ 93 := Nat.le_trans hr2 (by decide); clear hr2; (first | (have hrb := HBB.out; clear HBB; have HBB := Lib.hid (hrb.dw (by omega) hd); clear hrb) | (have hrl : B < w3.heap.size := (by omega); have hrb : RB w4 w3.heap.size := (by first | with_reducible exact (rb_new w3 25).dw hrl hd | (have h : Dw B (World.alloc (World.drew w3) (.cells #[.int .i64 0, .int .i64 0, .slice none 0 0] 25)) w4 := (by with_reducible exact hd); exact (rb_new (World.drew w3) 25).dw (show B < (World.drew w3).heap.size from hrl) h) | (have h : Dw B (World.drew (World.alloc w3 (.cells #[.int .i64 0, .int .i64 0, .slice none 0 0] 25))) w4 := (by with_reducible exact hd); exact ((rb_new w3 25).dw hrl (Dw.refl B _).drew).dw hrl h)); have HBB := Lib.hid hrb; clear hrb; have ne0 : ¬ T = w3.heap.size := (by omega)) | skip); (try obtain ⟨u0, u1, u2, uf0, uf1, uf2, uz⟩ := HBB.out); have hd2 : Dw B w3 w4 := Dw.trans (B := B) (by with_reducible first | exact Dw.refl _ _ | exact (Dw.refl _ _).drew | exact (Dw.refl _ _).alloc _ | exact ((Dw.refl _ _).alloc _).drew | exact (Dw.refl _ _).drew.alloc _) hd; have HY2_4 := Lib.hid (show TyN w4 (B + 1) 0 y2 v2 from hty.toN (by first | omega | (simp; done) | (simp; omega)) (.inr (by first | omega | (simp; done) | (simp; omega)))); obtain ⟨ay2, cy2, rfl, _⟩ := hty.at.slice; have HN2 := Lib.hid (nodes7 hs2 (by omega)); have HS2 := Lib.hid (shp_le (d' := 16) hs2 (by omega)); have HY1_4 := Lib.hid (HY1_3.out.dw (B := B) (by omega) hd2); have HQ4 := Lib.hid (HQ3.out.step hd2 hrd); have HR4 := Lib.hid (HQ3.out.r1step HR3.out (by omega) hd2); have HT4 := Lib.hid (HT3.out.dw hBT hd2); have HD4 := Lib.hid (HD3.out.trans hd2); have hz4 : w3.heap.size ≤ w4.heap.size := hd2.size; obtain ⟨t04, t14, t24, tz4⟩ := HT4.out; clear hty hd hd2 hrd hs2; have tok3 : True := True.intro))
    all_goals go_wp2_with fail
    all_goals go_meet
    all_goals first
      | exact ⟨_, _, _, _, _, rfl, by omega, HNY, Lib.hid (twb_alloc HQ6.out HR6.out HT6.out ((HTX2.out.avoid (by omega)).dw (B := B) (by omega) HD6.out) HTY.out (by omega) hBT)⟩
      | exact ⟨_, _, _, _, _, rfl, by omega, HNY, Lib.hid (twb_set HQ6.out HR6.out HT6.out HBB.out ((HTX2.out.avoid (by omega)).dw (B := B) (by omega) HD6.out) HTY.out (by omega) hBT (by omega) (by omega))⟩
  case rest =>
    have hz3 : T < W2.heap.size := HT2.out.sz
    clear t02 t12 t22 tz2
    obtain ⟨w3, hwC⟩ : ∃ x, x = wc := ⟨_, rfl⟩
    subst hwC
    obtain ⟨T2, p2, y, ay, cy, rfl, hp2, HNY, HTW⟩ := hcut
    have hSB : S < B + 1 := by omega
    have hSB1 : S + 1 < B + 1 := by omega
    have hn1 : ¬ T = S := by omega
    have hn2 : ¬ T = S + 1 := by omega
    have hn3 : ¬ S = T := by omega
    have hn4 : ¬ S + 1 = T := by omega
    have hB2 := HTW.out.hT2
    have hTT := HTW.out.ne
    have hn5 : ¬ T2 = S := by omega
    have hn6 : ¬ T2 = S + 1 := by omega
    have hn7 : ¬ S = T2 := by omega
    have hn8 : ¬ S + 1 = T2 := by omega
    have hn9 : ¬ T2 = T := by omega
    have hn10 : ¬ T = T2 := by omega
    go_wp2_with fail
    go_at_call 80
    refine (pick_any B a ln cp zs _ 3 _ HTW.out.q.rd (by omega) (by omega) (by omega)).mono ?_
    rintro e w5 ⟨k, hk, rfl, kk, hkk⟩
    have HTW5 := Lib.hid (HTW.out.step (Dw.pick hkk) (HTW.out.q.rd.picked hkk))
    clear hkk
    by_cases hk0 : k = 0
    · subst hk0
      go_wp2_with fail
      go_at_call 50
      refine (l2Some_any B a ln cp zs _ _ (fun t => nodes t ≤ 40) (fun t h => nodes5 h) 100 (Nat.le_refl _) HTW5.out.q.rd (by omega)).mono ?_
      rintro e w9 ⟨z, vz, r5, hnz, hr5, rfl, hty, hd, hrd⟩
      have HNZ := Lib.hid hnz
      have hb5 := HTW5.out.q.rd.big
      have ho5 := HTW5.out.oc.sz
      have HZT := Lib.hid (show TyN w9 (B + 1) T2 z vz from hty.toN (by omega) (.inr (by omega)))
      have HW9 := Lib.hid (HTW5.out.step hd hrd)
      obtain ⟨az, cz, rfl, _⟩ := hty.at.slice
      clear hty hd hrd hnz
      obtain ⟨w6, hw6⟩ : ∃ W, (((w9.setCell ⟨T2, 0, none⟩ (.int .i64 z.k)).setCell ⟨T2, 1, none⟩ (.int .i64 z.n)).setCell ⟨T2, 2, none⟩ (.slice az z.ks.length cz)) = W := ⟨_, rfl⟩
      have HWZ := Lib.hid (HW9.out.put HZT.out)
      rw [hw6] at HWZ
      have HWE := Lib.hid hw6
      clear hw6
      obtain ⟨q0, q1, q2, qf0, qf1, qf2, qz⟩ := HW9.out.oc
      go_wp2_with fail
      rw [HWE.out]
      clear q0 q1 q2 qf0 qf1 qf2 qz
      obtain ⟨g0, g1, g2, gz⟩ := HWZ.out.tb
      obtain ⟨o0, o1, o2, of0, of1, of2, oz⟩ := HWZ.out.oc
      go_region_held3 (fun w' => w'.cell? ⟨T, 0, none⟩ = some (.int .i64 x.k) ∧ w'.cell? ⟨T, 1, none⟩ = some (.int .i64 x.n) ∧ w'.cell? ⟨T, 2, none⟩ = some (.slice ax x.ks.length cx) ∧ w'.cell? ⟨T2, 0, none⟩ = some (.int .i64 z.k) ∧ w'.cell? ⟨T2, 1, none⟩ = some (.int .i64 z.n) ∧ w'.cell? ⟨T2, 2, none⟩ = some (.slice az z.ks.length cz)) (go_keep)
        (first
          | (have hgd := HM1; clear hgd; go_at_call 73; refine (l2Mutate_any z _ B a ln cp zs _ _ (fun t => nodes t ≤ 1000) (fun t h => by have := HNZ.out; omega) 2 (Nat.le_refl _) (by have := HNZ.out; omega) (by first | exact HW5.out.ty.ok.at | exact (HW5.out.ty.ok.at).kept (Below.refl _ _).drew) (by first | exact HW5.out.q.rd | exact HW5.out.q.rd.drew) (by omega)).mono ?_; rintro e w8 ⟨m2, vm2, rm2, hnm, hrm2, rfl, htm, hd, hrd⟩; have hd' : Dw B w7 w8 := (Dw.trans (B := B) (a := w7) (by first | exact Dw.refl _ _ | exact (Dw.refl _ _).drew) hd); have HM2 := Lib.hid (show TyN w8 (B + 1) 0 m2 vm2 from htm.low (by have := HW5.out.q.rd.big; first | omega | (simp; omega))); have HNM2 := Lib.hid hnm; have HM1' := Lib.hid (HM1.out.dw (B := B) (by omega) hd'); have HW6 := Lib.hid (HW5.out.step hd' hrd); obtain ⟨am2, cm2, rfl, _⟩ := htm.ok.at.slice; obtain ⟨g02, g12, g22, gz2⟩ := HW6.out.tb; obtain ⟨o02, o12, o22, of02, of12, of22, oz2⟩ := HW6.out.oc; obtain ⟨p0, p1, p2_, pf0, pf1, pf2, psz⟩ := HW6.out.q.r1; obtain ⟨b0, b1, b2, bf0, bf1, bf2, bsz⟩ := HW6.out.rb; clear hd hd' hrd hnm)
          | (go_at_call 73; refine (l2Mutate_any x _ B a ln cp zs _ _ (fun t => nodes t ≤ 1000) (fun t h => by have := HNX.out; omega) 2 (Nat.le_refl _) (by have := HNX.out; omega) (by first | exact HWZ.out.tx.ok.at | exact (HWZ.out.tx.ok.at).kept (Below.refl _ _).drew) (by first | exact HWZ.out.q.rd | exact HWZ.out.q.rd.drew) (by omega)).mono ?_; rintro e w7 ⟨m1, vm1, rm1, hnm, hrm1, rfl, htm, hd, hrd⟩; have hd' : Dw B w6 w7 := (Dw.trans (B := B) (a := w6) (by first | exact Dw.refl _ _ | exact (Dw.refl _ _).drew) hd); have HM1 := Lib.hid (show TyN w7 (B + 1) 0 m1 vm1 from htm.low (by have := HWZ.out.q.rd.big; first | omega | (simp; omega))); have HNM1 := Lib.hid hnm; have HW5 := Lib.hid (HWZ.out.step hd' hrd); obtain ⟨am1, cm1, rfl, _⟩ := htm.ok.at.slice; obtain ⟨g01, g11, g21, gz1⟩ := HW5.out.tb; obtain ⟨o01, o11, o21, of01, of11, of21, oz1⟩ := HW5.out.oc; clear hd hd' hrd hnm))
      all_goals go_wp2_with fail
      all_goals refine bodyPost_ret (v := .tuple #[.agg #[.int .i64 m1.k, .int .i64 m1.n, .slice am1 m1.ks.length cm1], .agg #[.int .i64 m2.k, .int .i64 m2.n, .slice am2 m2.ks.length cm2]]) (by simp [results, Try.results52, go_sem, p0, p1, p2_, b0, b1, b2]) rfl ⟨m1, m2, _, _, HNM1.out, HNM2.out, rfl, (rest_ty (rest_ty HM1'.out hSB _ _ _) hSB1 _ _ _).low (by rw [HS.out]; omega), (rest_ty (rest_ty HM2.out hSB _ _ _) hSB1 _ _ _).low (by rw [HS.out]; omega), ?_⟩
      all_goals rw [HS.out]
      all_goals exact rest_bl (rest_bl HW6.out.q.bl (Nat.le_refl _) _ _ _) (Nat.le_succ _) _ _ _
    · have hkb : ((k : Int) == 0) = false := by rw [beq_eq_false_iff_ne]; omega
      obtain ⟨z, hze⟩ : ∃ z, z = y := ⟨_, rfl⟩
      subst hze
      obtain ⟨az, hze⟩ : ∃ z, z = ay := ⟨_, rfl⟩
      subst hze
      obtain ⟨cz, hze⟩ : ∃ z, z = cy := ⟨_, rfl⟩
      subst hze
      obtain ⟨w6, hze⟩ : ∃ z, z = w5 := ⟨_, rfl⟩
      subst hze
      have HWZ := HTW5
      obtain ⟨g0, g1, g2, gz⟩ := HWZ.out.tb
      obtain ⟨o0, o1, o2, of0, of1, of2, oz⟩ := HWZ.out.oc
      go_wp2_with fail
      go_region_held3 (fun w' => w'.cell? ⟨T, 0, none⟩ = some (.int .i64 x.k) ∧ w'.cell? ⟨T, 1, none⟩ = some (.int .i64 x.n) ∧ w'.cell? ⟨T, 2, none⟩ = some (.slice ax x.ks.length cx) ∧ w'.cell? ⟨T2, 0, none⟩ = some (.int .i64 z.k) ∧ w'.cell? ⟨T2, 1, none⟩ = some (.int .i64 z.n) ∧ w'.cell? ⟨T2, 2, none⟩ = some (.slice az z.ks.length cz)) (go_keep)
        (first
          | (have hgd := HM1; clear hgd; go_at_call 73; refine (l2Mutate_any z _ B a ln cp zs _ _ (fun t => nodes t ≤ 1000) (fun t h => by have := HNY.out; omega) 2 (Nat.le_refl _) (by have := HNY.out; omega) (by first | exact HW5.out.ty.ok.at | exact (HW5.out.ty.ok.at).kept (Below.refl _ _).drew) (by first | exact HW5.out.q.rd | exact HW5.out.q.rd.drew) (by omega)).mono ?_; rintro e w8 ⟨m2, vm2, rm2, hnm, hrm2, rfl, htm, hd, hrd⟩; have hd' : Dw B w7 w8 := (Dw.trans (B := B) (a := w7) (by first | exact Dw.refl _ _ | exact (Dw.refl _ _).drew) hd); have HM2 := Lib.hid (show TyN w8 (B + 1) 0 m2 vm2 from htm.low (by have := HW5.out.q.rd.big; first | omega | (simp; omega))); have HNM2 := Lib.hid hnm; have HM1' := Lib.hid (HM1.out.dw (B := B) (by omega) hd'); have HW6 := Lib.hid (HW5.out.step hd' hrd); obtain ⟨am2, cm2, rfl, _⟩ := htm.ok.at.slice; obtain ⟨g02, g12, g22, gz2⟩ := HW6.out.tb; obtain ⟨o02, o12, o22, of02, of12, of22, oz2⟩ := HW6.out.oc; obtain ⟨p0, p1, p2_, pf0, pf1, pf2, psz⟩ := HW6.out.q.r1; obtain ⟨b0, b1, b2, bf0, bf1, bf2, bsz⟩ := HW6.out.rb; clear hd hd' hrd hnm)
          | (go_at_call 73; refine (l2Mutate_any x _ B a ln cp zs _ _ (fun t => nodes t ≤ 1000) (fun t h => by have := HNX.out; omega) 2 (Nat.le_refl _) (by have := HNX.out; omega) (by first | exact HWZ.out.tx.ok.at | exact (HWZ.out.tx.ok.at).kept (Below.refl _ _).drew) (by first | exact HWZ.out.q.rd | exact HWZ.out.q.rd.drew) (by omega)).mono ?_; rintro e w7 ⟨m1, vm1, rm1, hnm, hrm1, rfl, htm, hd, hrd⟩; have hd' : Dw B w6 w7 := (Dw.trans (B := B) (a := w6) (by first | exact Dw.refl _ _ | exact (Dw.refl _ _).drew) hd); have HM1 := Lib.hid (show TyN w7 (B + 1) 0 m1 vm1 from htm.low (by have := HWZ.out.q.rd.big; first | omega | (simp; omega))); have HNM1 := Lib.hid hnm; have HW5 := Lib.hid (HWZ.out.step hd' hrd); obtain ⟨am1, cm1, rfl, _⟩ := htm.ok.at.slice; obtain ⟨g01, g11, g21, gz1⟩ := HW5.out.tb; obtain ⟨o01, o11, o21, of01, of11, of21, oz1⟩ := HW5.out.oc; clear hd hd' hrd hnm))
      all_goals go_wp2_with fail
      all_goals refine bodyPost_ret (v := .tuple #[.agg #[.int .i64 m1.k, .int .i64 m1.n, .slice am1 m1.ks.length cm1], .agg #[.int .i64 m2.k, .int .i64 m2.n, .slice am2 m2.ks.length cm2]]) (by simp [results, Try.results52, go_sem, p0, p1, p2_, b0, b1, b2]) rfl ⟨m1, m2, _, _, HNM1.out, HNM2.out, rfl, (rest_ty (rest_ty HM1'.out hSB _ _ _) hSB1 _ _ _).low (by rw [HS.out]; omega), (rest_ty (rest_ty HM2.out hSB _ _ _) hSB1 _ _ _).low (by rw [HS.out]; omega), ?_⟩
      all_goals rw [HS.out]
      all_goals exact rest_bl (rest_bl HW6.out.q.bl (Nat.le_refl _) _ _ _) (Nat.le_succ _) _ _ _

set_option maxRecDepth 100000 in
set_option maxHeartbeats 8000000 in
theorem drawUnifyTypes_any (a : Option Addr) (len cap : Nat) (zs : List Int) (w : World) (h : IsRow w a len cap zs) :
    Calls Try.prog 27 #[.slice a len cap] w (DuoPost w) := by
  obtain ⟨W1, hW1⟩ : ∃ W, (w.alloc (.cells #[.int .i64 0, .int .i64 0, .slice none 0 0] 25)).alloc (.cells #[.int .i64 0, .int .i64 0, .slice none 0 0] 25) = W := ⟨_, rfl⟩
  obtain ⟨S, hS⟩ : ∃ S, w.heap.size = S := ⟨_, rfl⟩
  have hb1 : Below S w W1 := by rw [← hW1, ← hS]; exact ((Below.refl _ _).alloc (Nat.le_refl _) _).alloc (by simp) _
  have HB1 := Lib.hid hb1
  have HI : Hid (IsRow W1 a len cap zs) := Lib.hid (h.kept (by rw [hS]; exact hb1))
  have HR1 : Hid (RB W1 S) := Lib.hid (by rw [← hW1, ← hS]; exact (rb_new w _).kept ((Below.refl _ _).alloc (Nat.le_refl _) _))
  have HR2 : Hid (RB W1 (S + 1)) := Lib.hid (by have h := rb_new (w.alloc (.cells #[.int .i64 0, .int .i64 0, .slice none 0 0] 25)) 25; rw [hW1, sizeA, hS] at h; exact h)
  have HW1 := Lib.hid hW1
  have HS := Lib.hid hS
  clear h hb1 hW1
  go_enter Try.func27, Try.ntmps27
  go_wp2_with fail
  rw [HW1.out]
  clear hS
  go_at_call 52
  refine (l2TwoN_any a len cap zs _ HI.out).mono ?_
  rintro e w5 ⟨x, y, vx, vy, hnx, hny, rfl, htx, hty, hb⟩
  have HNX := Lib.hid hnx
  have HNY := Lib.hid hny
  have HTX := Lib.hid htx
  have HTY := Lib.hid hty
  have hsW : S + 1 < W1.heap.size := HR2.out.sz
  have HBL5 : Hid (Below S w w5) := Lib.hid (HB1.out.trans (hb.mono (by omega)))
  have HRA := Lib.hid (HR1.out.kept hb)
  have HRB := Lib.hid (HR2.out.kept hb)
  obtain ⟨ax, cx, rfl, _⟩ := htx.ok.at.slice
  obtain ⟨ay, cy, rfl, _⟩ := hty.ok.at.slice
  clear htx hty hb hnx hny
  obtain ⟨p0, p1, p2, f0, f1, f2, psz⟩ := HRA.out
  obtain ⟨o0, o1, o2, of0, of1, of2, oz⟩ := HRB.out
  go_wp2_with fail
  refine bodyPost_ret (v := .tuple #[.agg #[.int .i64 x.k, .int .i64 x.n, .slice ax x.ks.length cx], .agg #[.int .i64 y.k, .int .i64 y.n, .slice ay y.ks.length cy]]) (by simp [results, Try.results27, go_sem, p0, p1, p2, o0, o1, o2]) rfl ⟨x, y, _, _, HNX.out, HNY.out, rfl, (rest_ty (rest_ty HTX.out (by omega) _ _ _) hsW _ _ _).ok, (rest_ty (rest_ty HTY.out (by omega) _ _ _) hsW _ _ _).ok, ?_⟩
  rw [HS.out]
  exact rest_bl (rest_bl HBL5.out (Nat.le_refl _) _ _ _) (Nat.le_succ _) _ _ _

end Go.Proofs.Ytndpoejohpmifaa
