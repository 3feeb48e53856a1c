/-
What the draws of types return: some well-formed type of little depth, in blocks of its own. Only the reader's counter changes, and new memory is made.
Draws of types: a well-formed type; a copy whose row may still grow.
-/
import Derived.Test.YtjhccdioainibaaW15
import Derived.Test.YtjhccdioainibaaW9
import Derived.Test.YtjhccdioainibaaW6
namespace Go.Proofs.Ytjhccdioainibaa
open Go.RowKit
set_option linter.unusedVariables false
set_option linter.unusedSimpArgs false
theorem TyIn.dw {w w' : World} {lo hi B : Nat} {t : Ty} {v : Value} (h : TyIn w lo hi t v) (hB : B < lo) (hd : Dw B w w') : TyIn w' lo hi t v :=
  h.keep hd.size (fun b h1 _ h3 => hd.block b h3 (by simp; omega))
theorem Rd.below {w w' : World} {B : Nat} {a : Option Addr} {len cap : Nat} {zs : List Int} {p : Nat} (hr : Rd w B a len cap zs p) (h : Below w.heap.size w w') : Rd w' B a len cap zs p :=
  hr.kept (h.mono (by have := hr.big; omega))
/-- What the draw of a type leaves. -/
def DrPost (P : Ty → Prop) (w : World) (B : Nat) (a : Option Addr) (len cap : Nat) (zs : List Int) (p q : Nat) (e : Ending) (w' : World) : Prop :=
  ∃ (t : Ty) (v : Value) (r : Nat), P t ∧ r ≤ q ∧ e = .returned (.agg #[.int .i64 t.k, .int .i64 t.n, v]) ∧ TyIn w' w.heap.size w'.heap.size t v ∧ Dw B w w' ∧ Rd w' B a len cap zs (p + r)
/-- Where a draw stands: its reader, its result's cells, still empty. -/
structure DS (w : World) (S B : Nat) (a : Option Addr) (len cap : Nat) (zs : List Int) (p : Nat) (W : World) : Prop where
  rd : Rd W B a len cap zs p
  dw : Dw B w W
  rb : RB W S
  lt : B < S
  eq : w.heap.size = S
theorem DS.sz {w : World} {S B : Nat} {a : Option Addr} {len cap : Nat} {zs : List Int} {p : Nat} {W : World} (h : DS w S B a len cap zs p W) : S + 1 ≤ W.heap.size := h.rb.sz
theorem DS.step {w : World} {S B : Nat} {a : Option Addr} {len cap : Nat} {zs : List Int} {p p' : Nat} {W W' : World} (h : DS w S B a len cap zs p W) (hd : Dw B W W') (hr : Rd W' B a len cap zs p') : DS w S B a len cap zs p' W' :=
  ⟨hr, h.dw.trans hd, h.rb.keep hd.size (hd.block S h.rb.sz (by have := h.lt; simp; omega)), h.lt, h.eq⟩
theorem DS.pick {w : World} {S B : Nat} {a : Option Addr} {len cap : Nat} {zs : List Int} {p : Nat} {W W' : World} (h : DS w S B a len cap zs p W) {k : Nat} (hk : W' = (W.setCell ⟨B, 1, none⟩ (.int .i64 ((p : Int) + 1))).drewN k) : DS w S B a len cap zs (p + 1) W' :=
  h.step (Dw.pick hk) (h.rd.picked hk)
theorem DS.below {w : World} {S B : Nat} {a : Option Addr} {len cap : Nat} {zs : List Int} {p : Nat} {W W' : World} (h : DS w S B a len cap zs p W) (hb : Below W.heap.size W W') : DS w S B a len cap zs p W' :=
  h.step (Dw.ofBelow hb) (h.rd.below hb)
theorem DS.alloc {w : World} {S B : Nat} {a : Option Addr} {len cap : Nat} {zs : List Int} {p : Nat} {W : World} (h : DS w S B a len cap zs p W) (o : Obj) : DS w S B a len cap zs p (W.alloc o) :=
  h.step ((Dw.refl B W).alloc o) (h.rd.alloc o)
theorem ds_new {w : World} {B : Nat} {a : Option Addr} {len cap : Nat} {zs : List Int} {p : Nat} (h : Rd w B a len cap zs p) (T : TypeId) : DS w w.heap.size B a len cap zs p (w.alloc (.cells #[.int .i64 0, .int .i64 0, .slice none 0 0] T)) :=
  ⟨h.alloc _, (Dw.refl B w).alloc _, rb_new w T, h.big, rfl⟩
/-- The result goes into its cells. -/
theorem DS.done {w : World} {S B : Nat} {a : Option Addr} {len cap : Nat} {zs : List Int} {p : Nat} {W : World} (h : DS w S B a len cap zs p W) {t : Ty} {v : Value} {lo : Nat} (ht : TyIn W lo W.heap.size t v) (hlo : S + 1 ≤ lo) (x y z : Value) :
    TyIn (((W.setCell ⟨S, 0, none⟩ x).setCell ⟨S, 1, none⟩ y).setCell ⟨S, 2, none⟩ z) w.heap.size (((W.setCell ⟨S, 0, none⟩ x).setCell ⟨S, 1, none⟩ y).setCell ⟨S, 2, none⟩ z).heap.size t v ∧ Dw B w (((W.setCell ⟨S, 0, none⟩ x).setCell ⟨S, 1, none⟩ y).setCell ⟨S, 2, none⟩ z) ∧ Rd (((W.setCell ⟨S, 0, none⟩ x).setCell ⟨S, 1, none⟩ y).setCell ⟨S, 2, none⟩ z) B a len cap zs p := by
  have e := h.eq
  exact ⟨res_ty (ht.wide hlo (Nat.le_refl _)) (by omega) x y z, ((h.dw.setNew (by omega) 0 x).setNew (by omega) 1 y).setNew (by omega) 2 z, ((h.rd.setNew h.lt 0 x).setNew h.lt 1 y).setNew h.lt 2 z⟩
def qd : Nat → Nat
  | 0 => 3
  | d + 1 => 3 + (qd d + qd d)
theorem qd3 : ∀ d, 3 ≤ qd d
  | 0 => Nat.le_refl _
  | d + 1 => by unfold qd; omega
theorem shp_num (d : Nat) : shp (d + 1) (.node 1 0 []) = true := shp_iff.2 ⟨by decide, fun i hi => absurd hi (Nat.not_lt_zero _)⟩
theorem shp_var (d : Nat) (n : Int) (h : 0 ≤ n ∧ n ≤ 25) : shp (d + 1) (.node 4 n []) = true := shp_iff.2 ⟨by show fieldsB 4 n 0 = true; unfold fieldsB; exact decide_eq_true (.inr (.inr ⟨rfl, h.1, h.2, rfl⟩)), fun i hi => absurd hi (Nat.not_lt_zero _)⟩
theorem shp_two (d : Nat) (k : Int) (x y : Ty) (h : 2 ≤ k ∧ k ≤ 3) (hx : shp d x = true) (hy : shp d y = true) : shp (d + 1) (.node k 0 [x, y]) = true := shp_iff.2 ⟨by show fieldsB k 0 2 = true; unfold fieldsB; exact decide_eq_true (.inr (.inl ⟨by omega, rfl, rfl⟩)), fun i hi => by
  have hi : i < 2 := hi
  obtain rfl | rfl : i = 0 ∨ i = 1 := by omega
  · exact hx
  · exact hy⟩

set_option maxRecDepth 100000 in
set_option maxHeartbeats 4000000 in
theorem l2Draw_any : ∀ (d B : Nat) (a : Option Addr) (len cap : Nat) (zs : List Int) (p : Nat) (D : Int) (w : World), D = d → d ≤ 1000 → Rd w B a len cap zs p → p + qd d ≤ 1000000 →
    Calls Try.prog 45 #[.pointer (some ⟨B, 0, none⟩), .int .i64 D] w (DrPost (fun t => shp (d + 1) t = true) w B a len cap zs p (qd d)) := by
  intro d
  induction d with
  | zero =>
    intro B a len cap zs p D w hD hd hr hp
    have hD2 : D < 2 := by omega
    obtain ⟨q, hQ⟩ : ∃ q, qd 0 = q := ⟨_, rfl⟩
    have hq : 3 ≤ q := by rw [← hQ]; exact qd3 0
    rw [hQ] at hp ⊢
    clear hD hQ
    obtain ⟨W1, hW1⟩ : ∃ W, w.alloc (.cells #[.int .i64 0, .int .i64 0, .slice none 0 0] 28) = W := ⟨_, rfl⟩
    obtain ⟨S, hS⟩ : ∃ S, w.heap.size = S := ⟨_, rfl⟩
    have HD0 : Hid (DS w S B a len cap zs p W1) := Lib.hid (by rw [← hW1, ← hS]; exact ds_new hr _)
    have HW1 := Lib.hid hW1
    have HS := Lib.hid hS
    clear hr hW1
    go_enter Try.func45, Try.ntmps45
    go_wp2_with fail
    rw [HW1.out]
    clear hS
    go_at_call 67
    refine (pick_any B a len cap zs p 3 _ HD0.out.rd (by omega) (by omega) (by omega)).mono ?_
    rintro e wa ⟨xa, hxa, rfl, ka, hka⟩
    have HDa := Lib.hid (HD0.out.pick hka)
    clear hka
    by_cases hza : xa = 0
    · subst hza
      go_wp2_with fail
      go_at_call 70
      refine (l2Num_any _).mono ?_
      rintro e wb ⟨v, rfl, hty, hb⟩
      have HT := Lib.hid hty
      have HDb := Lib.hid (HDa.out.below hb)
      obtain ⟨av, cv, rfl, _⟩ := hty.at.slice
      clear hty hb
      obtain ⟨p0, p1, p2, f0, f1, f2, psz⟩ := HDb.out.rb
      go_wp2_with fail
      exact bodyPost_ret (v := .agg #[.int .i64 1, .int .i64 0, .slice av 0 cv]) (by simp [results, Try.results45, go_sem, p0, p1, p2, Ty.ks, Ty.k, Ty.n]) rfl ⟨_, _, 1, shp_num _, by omega, rfl, (HDb.out.done HT.out HDa.out.sz _ _ _).1, (HDb.out.done HT.out HDa.out.sz _ _ _).2.1, (HDb.out.done HT.out HDa.out.sz _ _ _).2.2⟩
    · have hzb : ((xa : Int) == 0) = false := by rw [beq_eq_false_iff_ne]; omega
      have hba := HDa.out.rd.big
      have HDc := Lib.hid (HDa.out.alloc (.cells #[.int .i64 0, .int .i64 1, .int .i64 2, .int .i64 0, .int .i64 25] 3))
      go_wp2_with fail
      go_at_call 44
      refine (num_any B a len cap zs _ _ HDc.out.rd (by omega) _ 5 5 0 25 (by omega) (by omega) (by omega) (intRow_new _ _ _ 5 0 25 rfl (by decide +kernel))).mono ?_
      rintro e wb ⟨n, hn, rfl, kb, hkb⟩
      have HN := Lib.hid hn
      have HDb := Lib.hid (HDc.out.pick hkb)
      clear hkb hn
      go_wp2_with fail
      go_at_call 72
      refine (l2Var_any n _).mono ?_
      rintro e wc ⟨v, rfl, hty, hb⟩
      have HT := Lib.hid hty
      have HDd := Lib.hid (HDb.out.below hb)
      obtain ⟨av, cv, rfl, _⟩ := hty.at.slice
      clear hty hb
      obtain ⟨p0, p1, p2, f0, f1, f2, psz⟩ := HDd.out.rb
      go_wp2_with fail
      exact bodyPost_ret (v := .agg #[.int .i64 4, .int .i64 n, .slice av 0 cv]) (by simp [results, Try.results45, go_sem, p0, p1, p2, Ty.ks, Ty.k, Ty.n]) rfl ⟨_, _, 2, shp_var _ n HN.out, by omega, rfl, (HDd.out.done HT.out HDb.out.sz _ _ _).1, (HDd.out.done HT.out HDb.out.sz _ _ _).2.1, (HDd.out.done HT.out HDb.out.sz _ _ _).2.2⟩
  | succ d ih =>
    intro B a len cap zs p D w hD hd hr hp
    obtain ⟨q, hQ⟩ : ∃ q, qd (d + 1) = q := ⟨_, rfl⟩
    obtain ⟨m, hm⟩ : ∃ m, qd d = m := ⟨_, rfl⟩
    have hq : 3 ≤ q := by rw [← hQ]; exact qd3 _
    have hqq : 3 + (m + m) ≤ q := by rw [← hQ, ← hm]; exact Nat.le_refl _
    rw [hQ] at hp ⊢
    rw [hm] at ih
    have HDD := Lib.hid (show D - 1 = (d : Int) by omega)
    have hDl : 0 ≤ D := by omega
    have hDu : D ≤ 2000 := by omega
    clear hQ hm hD
    by_cases h2 : D < 2
    · skip
      obtain ⟨W1, hW1⟩ : ∃ W, w.alloc (.cells #[.int .i64 0, .int .i64 0, .slice none 0 0] 28) = W := ⟨_, rfl⟩
      obtain ⟨S, hS⟩ : ∃ S, w.heap.size = S := ⟨_, rfl⟩
      have HD0 : Hid (DS w S B a len cap zs p W1) := Lib.hid (by rw [← hW1, ← hS]; exact ds_new hr _)
      have HW1 := Lib.hid hW1
      have HS := Lib.hid hS
      clear hr hW1
      go_enter Try.func45, Try.ntmps45
      go_wp2_with fail
      rw [HW1.out]
      clear hS
      go_at_call 67
      refine (pick_any B a len cap zs p 3 _ HD0.out.rd (by omega) (by omega) (by omega)).mono ?_
      rintro e wa ⟨xa, hxa, rfl, ka, hka⟩
      have HDa := Lib.hid (HD0.out.pick hka)
      clear hka
      by_cases hza : xa = 0
      · subst hza
        go_wp2_with fail
        go_at_call 70
        refine (l2Num_any _).mono ?_
        rintro e wb ⟨v, rfl, hty, hb⟩
        have HT := Lib.hid hty
        have HDb := Lib.hid (HDa.out.below hb)
        obtain ⟨av, cv, rfl, _⟩ := hty.at.slice
        clear hty hb
        obtain ⟨p0, p1, p2, f0, f1, f2, psz⟩ := HDb.out.rb
        go_wp2_with fail
        exact bodyPost_ret (v := .agg #[.int .i64 1, .int .i64 0, .slice av 0 cv]) (by simp [results, Try.results45, go_sem, p0, p1, p2, Ty.ks, Ty.k, Ty.n]) rfl ⟨_, _, 1, shp_num _, by omega, rfl, (HDb.out.done HT.out HDa.out.sz _ _ _).1, (HDb.out.done HT.out HDa.out.sz _ _ _).2.1, (HDb.out.done HT.out HDa.out.sz _ _ _).2.2⟩
      · have hzb : ((xa : Int) == 0) = false := by rw [beq_eq_false_iff_ne]; omega
        have hba := HDa.out.rd.big
        have HDc := Lib.hid (HDa.out.alloc (.cells #[.int .i64 0, .int .i64 1, .int .i64 2, .int .i64 0, .int .i64 25] 3))
        go_wp2_with fail
        go_at_call 44
        refine (num_any B a len cap zs _ _ HDc.out.rd (by omega) _ 5 5 0 25 (by omega) (by omega) (by omega) (intRow_new _ _ _ 5 0 25 rfl (by decide +kernel))).mono ?_
        rintro e wb ⟨n, hn, rfl, kb, hkb⟩
        have HN := Lib.hid hn
        have HDb := Lib.hid (HDc.out.pick hkb)
        clear hkb hn
        go_wp2_with fail
        go_at_call 72
        refine (l2Var_any n _).mono ?_
        rintro e wc ⟨v, rfl, hty, hb⟩
        have HT := Lib.hid hty
        have HDd := Lib.hid (HDb.out.below hb)
        obtain ⟨av, cv, rfl, _⟩ := hty.at.slice
        clear hty hb
        obtain ⟨p0, p1, p2, f0, f1, f2, psz⟩ := HDd.out.rb
        go_wp2_with fail
        exact bodyPost_ret (v := .agg #[.int .i64 4, .int .i64 n, .slice av 0 cv]) (by simp [results, Try.results45, go_sem, p0, p1, p2, Ty.ks, Ty.k, Ty.n]) rfl ⟨_, _, 2, shp_var _ n HN.out, by omega, rfl, (HDd.out.done HT.out HDb.out.sz _ _ _).1, (HDd.out.done HT.out HDb.out.sz _ _ _).2.1, (HDd.out.done HT.out HDb.out.sz _ _ _).2.2⟩
    · skip
      obtain ⟨W1, hW1⟩ : ∃ W, w.alloc (.cells #[.int .i64 0, .int .i64 0, .slice none 0 0] 28) = W := ⟨_, rfl⟩
      obtain ⟨S, hS⟩ : ∃ S, w.heap.size = S := ⟨_, rfl⟩
      have HD0 : Hid (DS w S B a len cap zs p W1) := Lib.hid (by rw [← hW1, ← hS]; exact ds_new hr _)
      have HW1 := Lib.hid hW1
      have HS := Lib.hid hS
      clear hr hW1
      go_enter Try.func45, Try.ntmps45
      go_wp2_with fail
      rw [HW1.out]
      clear hS
      go_at_call 67
      refine (pick_any B a len cap zs p 4 _ HD0.out.rd (by omega) (by omega) (by omega)).mono ?_
      rintro e w1 ⟨x1, hx1, rfl, k1, hk1⟩
      have HD1 := Lib.hid (HD0.out.pick hk1)
      clear hk1
      by_cases hz1 : x1 = 0
      · subst hz1
        go_wp2_with fail
        go_at_call 67
        refine (pick_any B a len cap zs _ 3 _ HD1.out.rd (by omega) (by omega) (by omega)).mono ?_
        rintro e wa ⟨xa, hxa, rfl, ka, hka⟩
        have HDa := Lib.hid (HD1.out.pick hka)
        clear hka
        by_cases hza : xa = 0
        · subst hza
          go_wp2_with fail
          go_at_call 70
          refine (l2Num_any _).mono ?_
          rintro e wb ⟨v, rfl, hty, hb⟩
          have HT := Lib.hid hty
          have HDb := Lib.hid (HDa.out.below hb)
          obtain ⟨av, cv, rfl, _⟩ := hty.at.slice
          clear hty hb
          obtain ⟨p0, p1, p2, f0, f1, f2, psz⟩ := HDb.out.rb
          go_wp2_with fail
          exact bodyPost_ret (v := .agg #[.int .i64 1, .int .i64 0, .slice av 0 cv]) (by simp [results, Try.results45, go_sem, p0, p1, p2, Ty.ks, Ty.k, Ty.n]) rfl ⟨_, _, 2, shp_num _, by omega, rfl, (HDb.out.done HT.out HDa.out.sz _ _ _).1, (HDb.out.done HT.out HDa.out.sz _ _ _).2.1, (HDb.out.done HT.out HDa.out.sz _ _ _).2.2⟩
        · have hzb : ((xa : Int) == 0) = false := by rw [beq_eq_false_iff_ne]; omega
          have hba := HDa.out.rd.big
          have HDc := Lib.hid (HDa.out.alloc (.cells #[.int .i64 0, .int .i64 1, .int .i64 2, .int .i64 0, .int .i64 25] 3))
          go_wp2_with fail
          go_at_call 44
          refine (num_any B a len cap zs _ _ HDc.out.rd (by omega) _ 5 5 0 25 (by omega) (by omega) (by omega) (intRow_new _ _ _ 5 0 25 rfl (by decide +kernel))).mono ?_
          rintro e wb ⟨n, hn, rfl, kb, hkb⟩
          have HN := Lib.hid hn
          have HDb := Lib.hid (HDc.out.pick hkb)
          clear hkb hn
          go_wp2_with fail
          go_at_call 72
          refine (l2Var_any n _).mono ?_
          rintro e wc ⟨v, rfl, hty, hb⟩
          have HT := Lib.hid hty
          have HDd := Lib.hid (HDb.out.below hb)
          obtain ⟨av, cv, rfl, _⟩ := hty.at.slice
          clear hty hb
          obtain ⟨p0, p1, p2, f0, f1, f2, psz⟩ := HDd.out.rb
          go_wp2_with fail
          exact bodyPost_ret (v := .agg #[.int .i64 4, .int .i64 n, .slice av 0 cv]) (by simp [results, Try.results45, go_sem, p0, p1, p2, Ty.ks, Ty.k, Ty.n]) rfl ⟨_, _, 3, shp_var _ n HN.out, by omega, rfl, (HDd.out.done HT.out HDb.out.sz _ _ _).1, (HDd.out.done HT.out HDb.out.sz _ _ _).2.1, (HDd.out.done HT.out HDb.out.sz _ _ _).2.2⟩
      · have hz1b : ((x1 : Int) == 0) = false := by rw [beq_eq_false_iff_ne]; omega
        have hb1 := HD1.out.rd.big
        have HDc := Lib.hid (HD1.out.alloc (.cells #[.int .i64 2, .int .i64 3, .int .i64 2] 3))
        go_wp2_with fail
        go_at_call 44
        refine (num_any B a len cap zs _ _ HDc.out.rd (by omega) _ 3 3 2 3 (by omega) (by omega) (by omega) (intRow_new _ _ _ 3 2 3 rfl (by decide +kernel))).mono ?_
        rintro e w2 ⟨n, hn, rfl, k2, hk2⟩
        have HN := Lib.hid hn
        have HD2 := Lib.hid (HDc.out.pick hk2)
        clear hk2 hn
        go_wp2_with fail
        go_at_call 45
        refine (ih B a len cap zs _ (D - 1) _ HDD.out (by omega) HD2.out.rd (by omega)).mono ?_
        rintro e w3 ⟨t1, v1, r1, hs1, hr1, rfl, hty1, hd1, hrd1⟩
        have HT1 := Lib.hid hty1
        have HS1 := Lib.hid hs1
        have HD3 := Lib.hid (HD2.out.step hd1 hrd1)
        obtain ⟨a1, c1, rfl, _⟩ := hty1.at.slice
        have HZ3 := Lib.hid hd1.size
        clear hty1 hs1 hd1 hrd1
        go_wp2_with fail
        go_at_call 45
        refine (ih B a len cap zs _ (D - 1) _ HDD.out (by omega) HD3.out.rd (by omega)).mono ?_
        rintro e w4 ⟨t2, v2, r2, hs2, hr2, rfl, hty2, hd2, hrd2⟩
        have HT2 := Lib.hid hty2
        have HS2 := Lib.hid hs2
        have HD4 := Lib.hid (HD3.out.step hd2 hrd2)
        have HT1' := Lib.hid (HT1.out.dw HD2.out.rd.big hd2)
        obtain ⟨a2, c2, rfl, _⟩ := hty2.at.slice
        have HZ4 := Lib.hid hd2.size
        clear hty2 hs2 hd2 hrd2
        go_wp2_with fail
        go_at_call 71
        refine (l2Node_any n t1 t2 _ _ w2.heap.size _ _ _ _ _ HT1'.out HT2.out (Nat.le_refl _) HZ3.out (Nat.le_refl _) HZ4.out (Nat.le_refl _) (Nat.le_trans HZ3.out HZ4.out)).mono ?_
        rintro e w5 ⟨v, rfl, hty, hb⟩
        have HT := Lib.hid hty
        have HD5 := Lib.hid (HD4.out.below hb)
        obtain ⟨av, cv, rfl, _⟩ := hty.at.slice
        clear hty hb
        obtain ⟨p0, p1, p2, f0, f1, f2, psz⟩ := HD5.out.rb
        go_wp2_with fail
        exact bodyPost_ret (v := .agg #[.int .i64 n, .int .i64 0, .slice av 2 cv]) (by simp [results, Try.results45, go_sem, p0, p1, p2, Ty.ks, Ty.k, Ty.n]) rfl ⟨_, _, 2 + (r1 + r2), shp_two _ n t1 t2 HN.out HS1.out HS2.out, by omega, rfl, (HD5.out.done HT.out HD2.out.sz _ _ _).1, (HD5.out.done HT.out HD2.out.sz _ _ _).2.1, by have h := (HD5.out.done HT.out HD2.out.sz (.int .i64 n) (.int .i64 0) (.slice av 2 cv)).2.2; rw [show p + 1 + 1 + r1 + r2 = p + (2 + (r1 + r2)) by omega] at h; exact h⟩

end Go.Proofs.Ytjhccdioainibaa

namespace Go.Proofs.Ytjhccdioainibaa
open Go.RowKit
set_option linter.unusedVariables false
set_option linter.unusedSimpArgs false
theorem sum_mem_le : ∀ (l : List Nat) (x : Nat), x ∈ l → x ≤ l.sum
  | [], x, h => by cases h
  | y :: l, x, h => by
    rcases List.mem_cons.1 h with h | h
    · subst h; simp
    · have := sum_mem_le l x h; simp; omega
theorem nodes_kid (t : Ty) (i : Nat) (hi : i < t.ks.length) : nodes (t.ks.getD i Ty.dummy) < nodes t := by
  cases t with
  | node k n ks =>
    rw [nodes_kids]
    have hi' : i < ks.length := hi
    have := sum_mem_le ((List.range ks.length).map fun i => nodes (ks.getD i Ty.dummy)) (nodes (ks.getD i Ty.dummy)) (List.mem_map.2 ⟨i, List.mem_range.2 hi', rfl⟩)
    show nodes (ks.getD i Ty.dummy) < _
    omega
theorem sum_len : ∀ (f : Nat → Nat) (n : Nat), (∀ i, 0 < f i) → n ≤ ((List.range n).map f).sum
  | f, 0, _ => Nat.zero_le _
  | f, n + 1, h => by
    have h1 := sum_len f n h
    have h2 := h n
    simp only [List.range_succ, List.map_append, List.sum_append, List.map_cons, List.map_nil, List.sum_cons, List.sum_nil]
    omega
theorem nodes_len (t : Ty) : t.ks.length < nodes t := by
  cases t with
  | node k n ks =>
    rw [nodes_kids]
    have := sum_len (fun i => nodes (ks.getD i Ty.dummy)) ks.length (fun i => nodes_pos _)
    show ks.length < _
    omega
/-- l2Copy copies every type of at most a million nodes. -/
theorem l2Copy_all : ∀ (m : Nat) (t : Ty) (v : Value) (w : World), nodes t < m → m ≤ 1000001 → TyAt w t v → Calls Try.prog 69 #[.agg #[.int .i64 t.k, .int .i64 t.n, v]] w (TyRet t w) := by
  intro m
  induction m with
  | zero => intro t v w h; exact absurd h (Nat.not_lt_zero _)
  | succ m ih =>
    intro t v w h hm hx
    have hl := nodes_len t
    have h1 := l2Copy_of t t.ks v w hx rfl (by omega) (fun i hi vi W hki => ih _ vi W (by have := nodes_kid t i hi; omega) (by omega) hki)
    cases t with
    | node k n ks => exact h1
theorem own_under {w : World} {B B' n sz : Nat} {e : TypeId} {v : Value} {xs : List Value} (h : w.ownsRow B e sz v n xs) (hb : B' ≤ B) : w.ownsRow B' e sz v n xs := by
  obtain ⟨hl, h | ⟨g, cap, cur, rfl, hb', hg, h1, h2, h3, h4⟩⟩ := h
  · exact ⟨hl, .inl h⟩
  · exact ⟨hl, .inr ⟨g, cap, cur, rfl, Nat.le_trans hb hb', hg, h1, h2, h3, h4⟩⟩
theorem Gr.under {rs : List Ty} {B B' j : Nat} {w : World} {cv : Value} {xs : List Value} {vs : Nat → Value} {l h : Nat → Nat} (f : Gr rs B j w cv xs vs l h) (hb : B' ≤ B) : Gr rs B' j w cv xs vs l h :=
  ⟨own_under f.own hb, f.x0, f.x1, f.x2, fun i hi => ⟨Nat.le_trans hb (f.lo i hi).1, (f.lo i hi).2⟩, f.di, f.ty, f.ap⟩
theorem Gr.res {rs : List Ty} {R B j : Nat} {w : World} {cv : Value} {xs : List Value} {vs : Nat → Value} {l h : Nat → Nat} (f : Gr rs B j w cv xs vs l h) (hR : R < B) (x y z : Value) : Gr rs B j (((w.setCell ⟨R, 0, none⟩ x).setCell ⟨R, 1, none⟩ y).setCell ⟨R, 2, none⟩ z) cv xs vs l h :=
  f.keep (by simp) (fun b hb _ => heap_res (by omega))
/-- What l2Copy leaves, its row one that may grow. -/
def GrRet (t : Ty) (w : World) (e : Ending) (w' : World) : Prop := ∃ (cv : Value) (xs : List Value) (vs : Nat → Value) (l h : Nat → Nat), e = .returned (.agg #[.int .i64 t.k, .int .i64 t.n, cv]) ∧ Gr t.ks w.heap.size t.ks.length w' cv xs vs l h ∧ Below w.heap.size w w'
set_option maxRecDepth 100000 in
set_option maxHeartbeats 8000000 in
theorem l2Copy_own (t : Ty) (rs : List Ty) (v : Value) (w : World) (hx : TyAt w t v) (hrs : rs.length = t.ks.length) (hsz : t.ks.length ≤ 1000000)
    (H : ∀ i, i < t.ks.length → ∀ (vi : Value) (W : World), TyAt W (t.ks.getD i Ty.dummy) vi → Calls Try.prog 69 #[.agg #[.int .i64 (t.ks.getD i Ty.dummy).k, .int .i64 (t.ks.getD i Ty.dummy).n, vi]] W (TyRet (rs.getD i Ty.dummy) W)) :
    Calls Try.prog 69 #[.agg #[.int .i64 t.k, .int .i64 t.n, v]] w (GrRet (.node t.k t.n rs) w) := by
  obtain ⟨i0, hi0, hz0, hz1, hz2⟩ := info_parts infoTy
  have HH := Lib.hid H
  have HX0 := Lib.hid hx
  obtain ⟨a, cap, rfl, hlen⟩ := hx.slice
  obtain ⟨L, hL⟩ : ∃ L, t.ks.length = L := ⟨_, rfl⟩
  have HL := Lib.hid hL
  have HRS := Lib.hid (hrs.trans hL)
  rw [hL] at hlen hsz ⊢
  obtain ⟨S, hS⟩ : ∃ S, w.heap.size = S := ⟨_, rfl⟩
  have HS := Lib.hid hS
  obtain ⟨W1, hW1⟩ : ∃ W1, ((w.alloc (.cells #[.int .i64 t.k, .int .i64 t.n, .slice a L cap] 28)).alloc (.cells #[.int .i64 0, .int .i64 0, .slice none 0 0] 28)).alloc (.cells #[.int .i64 t.k, .int .i64 t.n, .slice none 0 0] 28) = W1 := ⟨_, rfl⟩
  have HW1 := Lib.hid hW1
  have hB1 : Below w.heap.size w W1 := by rw [← hW1]; exact (((Below.refl _ _).alloc (Nat.le_refl _) _).alloc (by simp) _).alloc (by simp; omega) _
  have HB1S : Hid (Below S w W1) := Lib.hid (by rw [← hS]; exact hB1)
  have HT1 : Hid (TBox W1 S (.int .i64 t.k) (.int .i64 t.n) (.slice a L cap)) := Lib.hid (by rw [← hW1, ← hS]; exact ((tbox_new w _ _ _ _).kept ((Below.refl _ _).alloc (Nat.le_refl _) _)).kept ((Below.refl _ _).alloc (Nat.le_refl _) _))
  have HR1 : Hid (RB W1 (S + 1)) := Lib.hid (by have h := (rb_new (w.alloc (.cells #[.int .i64 t.k, .int .i64 t.n, .slice a L cap] 28)) 28).kept ((Below.refl _ _).alloc (Nat.le_refl _) (.cells #[.int .i64 t.k, .int .i64 t.n, .slice none 0 0] 28)); rw [sizeA, hW1, hS] at h; exact h)
  have HO1 : Hid (OB W1 (S + 1 + 1) t.k t.n (.slice none 0 0)) := Lib.hid (by
    have h := ob_new ((w.alloc (.cells #[.int .i64 t.k, .int .i64 t.n, .slice a L cap] 28)).alloc (.cells #[.int .i64 0, .int .i64 0, .slice none 0 0] 28)) t.k t.n (.slice none 0 0) 28
    rw [sizeA, sizeA, hW1, hS] at h
    exact h)
  have hz1' : W1.heap.size = S + 1 + 1 + 1 := by rw [← hW1, ← hS]; simp
  have HSW := Lib.hid (show S ≤ W1.heap.size by omega)
  clear hx hL hrs H hB1 hW1
  go_enter Try.func69, Try.ntmps69
  go_wp2_with fail
  rw [HW1.out]
  clear hS
  go_loopw [4] (fun i wr => ∃ (j : Nat) (cv : Value) (xs : List Value) (vs : Nat → Value) (l h : Nat → Nat), j ≤ L ∧ i = .int .i64 j ∧ Hid (Gr rs (S + 1 + 1 + 1) j wr cv xs vs l h) ∧ Hid (OB wr (S + 1 + 1) t.k t.n cv) ∧ Hid (Inside (S + 1 + 1) (S + 1 + 1 + 1) W1 wr)) (fun i _ => L - (intOf i).toNat)
  case atStart => exact ⟨0, _, [], _, _, _, Nat.zero_le _, rfl, Lib.hid (gr_nil rs (S + 1 + 1 + 1) W1), HO1, Lib.hid (Inside.refl _ _ _)⟩
  case round =>
    obtain ⟨j, cv, xs, vs, l, h, hj, rfl, hgr, hob, hin⟩ := hrel
    have HTw := Lib.hid (HT1.out.away hin.out (.inl (by omega)))
    have hszw : S + 1 + 1 + 1 ≤ wr.heap.size := by have := hin.out.size; omega
    by_cases hlt : j < L
    · have hji : (j : Int) < (L : Int) := by omega
      have hti := hin.out.below (B := S) (by omega) HB1S.out HSW.out
      obtain ⟨b, o, cap2, vi, ex, bl, y0, y1, y2, hkid⟩ := HX0.out.kid j (by rw [HL.out]; exact hlt)
      have ex1 : a = some ⟨b, o, none⟩ := by injection ex
      subst ex1
      rw [HS.out] at bl
      replace y0 := (hti.cell (p := ⟨b, o + j * 3, none⟩) bl).trans y0
      replace y1 := (hti.cell (p := ⟨b, o + j * 3 + 1, none⟩) bl).trans y1
      replace y2 := (hti.cell (p := ⟨b, o + j * 3 + 2, none⟩) bl).trans y2
      have HKID := Lib.hid (hkid.kept (by rw [HS.out]; exact hti))
      have HJ := Lib.hid (HH.out j (by rw [HL.out]; exact hlt) vi)
      obtain ⟨x, hx⟩ : ∃ x, t.ks.getD j Ty.dummy = x := ⟨_, rfl⟩
      obtain ⟨y, hy⟩ : ∃ y, rs.getD j Ty.dummy = y := ⟨_, rfl⟩
      rw [hx] at y0 y1 HKID HJ
      rw [hy] at HJ
      have HY := Lib.hid hy
      have hbw : b < wr.heap.size := by omega
      have h63 : j + 1 ≤ maxLen := by unfold maxLen; omega
      have hby : (j + 1) * 40 ≤ 140737488355328 := by omega
      obtain ⟨t0, t1, t2, tz⟩ := HTw.out
      obtain ⟨p0, p1, p2, pf2, pz⟩ := hob.out
      have hn0 : ¬ S = S + 1 + 1 := by omega
      have hn1 : ¬ b = S + 1 + 1 := by omega
      have HTI := Lib.hid hti
      have hszS : S ≤ wr.heap.size := by omega
      clear ex hkid hx hy hti t0 t1 tz
      go_wp2_with fail
      go_region_law (first
        | (refine step_append_lies _ (by rfl) _ _ _ (by rfl) (S + 1 + 1 + 1) 28 i0 _ 3 40 Try.underlying26 hi0 hz0 hz1 hz2 rfl (by omega) cv j xs (by rfl) (HOWN2.out.alloc _) ⟨w2.heap.size, 0, none⟩ 1 1 [.int .i64 y.k, .int .i64 y.n, .slice a2 y.ks.length k2] (by rfl) (by rfl) (World.news_of_block (cs := #[.int .i64 y.k, .int .i64 y.n, .slice a2 y.ks.length k2]) (t := 28) (fr := (0, 0)) (heap_alloc_new w2 _)) (by simp [Value.oneCell']) (by omega) h63 hby (hbase2 _) (w2.heap.size + 1) (by simp) ?_; intro g cap3 w3 hown3 hgrow hat hltg; obtain ⟨xs3, vs3, l3, h3, hg3⟩ := hgr.out.step (by omega) HY.out HB2.out HTY2.out hown3 hgrow hat; have hrow : ∀ q, cv.ownBlock = some q → S + 1 + 1 + 1 ≤ q := (fun q e => (own_low HOWN2.out e).1); have e0 := grow_old hgrow (q := S) (by omega) (fun q e => by have := hrow q e; omega); have e1 := grow_old hgrow (q := b) (by omega) (fun q e => by have := hrow q e; omega); have HO3 := Lib.hid (HO2.out.keep (by have := grow_size hgrow; omega) (grow_old hgrow (q := S + 1 + 1) (by omega) (fun q e => by have := hrow q e; omega))); have HI3 := Lib.hid (in_grow HI2.out hgrow (fun q e => by have := hrow q e; omega)); have HG3 := Lib.hid hg3; have f2 := (cellEq e0).trans c2; have g0 := (cellEq e1).trans d0; have g1 := (cellEq e1).trans d1; have g2 := (cellEq e1).trans d2; obtain ⟨o0, o1, o2, of2, oz⟩ := HO3.out; have hs3 := grow_size hgrow; clear hown3 hgrow hat hg3 e0 e1)
        | (go_simp; go_at_call 69; refine (HJ.out _ (HKID.out.kept (by first | exact Below.refl _ _ | exact (Below.refl _ _).drew))).mono ?_; rintro e w2 ⟨v2, rfl, hty2, hb2⟩; obtain ⟨a2, k2, rfl, _⟩ := hty2.at.slice; have hb2' : Below wr.heap.size wr w2 := Below.trans (B := wr.heap.size) (by first | exact Below.refl _ _ | exact (Below.refl _ _).drew) hb2; have hty2' : TyIn w2 wr.heap.size w2.heap.size y (.slice a2 y.ks.length k2) := hty2; have HTY2 := Lib.hid hty2'; have HB2 := Lib.hid hb2'; have HOWN2 := Lib.hid (own_below hgr.out.own hb2'); have HO2 := Lib.hid (hob.out.kept hb2'); have HT2 := Lib.hid (HTw.out.kept hb2'); have HI2 := Lib.hid (hin.out.trans (Inside.of_below hb2')); have hs2 : wr.heap.size ≤ w2.heap.size := hb2'.size; have hbase2 : ∀ o, S + 1 + 1 + 1 ≤ (w2.alloc o).heap.size := (fun o => by simp; omega); obtain ⟨c0, c1, c2, cz⟩ := HT2.out; obtain ⟨rp0, rp1, rp2, rpf, rpz⟩ := HO2.out; have d0 := (hb2'.cell (p := ⟨b, o + j * 3, none⟩) hbw).trans y0; have d1 := (hb2'.cell (p := ⟨b, o + j * 3 + 1, none⟩) hbw).trans y1; have d2 := (hb2'.cell (p := ⟨b, o + j * 3 + 2, none⟩) hbw).trans y2; clear hb2 hb2' hty2 hty2'))
      all_goals go_wp2_with fail
      all_goals go_roundw
      all_goals first
        | exact ⟨j + 1, _, _, _, _, _, by omega, by go_num, Lib.hid (HG3.out.keep (by simp) (fun q h1 _ => heap_setCell_other _ ⟨S + 1 + 1, 2, none⟩ q _ (by show q ≠ S + 1 + 1; omega))), Lib.hid (HO3.out.set _), Lib.hid (HI3.out.trans (Inside.set _ _ _ (Nat.le_refl _) (Nat.lt_succ_self _)))⟩
        | (simp [intOf]; omega)
    · have hji : ¬ (j : Int) < (L : Int) := by omega
      obtain rfl : j = L := by omega
      have hgd := hgr.out
      rw [← HRS.out] at hgd
      have HD := Lib.hid (hgd.done t.k t.n (by rw [HRS.out]; exact hlen))
      obtain ⟨ca, cc, rfl, _⟩ := HD.out.at.slice
      have HRw := Lib.hid (HR1.out.keep hin.out.size (hin.out.block _ HR1.out.sz (.inl (by omega))))
      have HBw := Lib.hid (hin.out.below (B := S) (by omega) HB1S.out HSW.out)
      obtain ⟨t0, t1, t2, tz⟩ := HTw.out
      obtain ⟨p0, p1, p2, pf2, pz⟩ := hob.out
      obtain ⟨q0, q1, q2, qf0, qf1, qf2, qz⟩ := HRw.out
      clear hgd
      go_wp2_with fail
      exact bodyPost_ret (v := .agg #[.int .i64 t.k, .int .i64 t.n, .slice ca (Ty.node t.k t.n rs).ks.length cc]) (by simp [results, Try.results69, go_sem, q0, q1, q2, Ty.ks, HRS.out]) rfl ⟨_, _, _, _, _, rfl, by have h := (hgr.out.under (Nat.le_succ_of_le (Nat.le_refl _))).res (R := S + 1) (by omega) (.int .i64 t.k) (.int .i64 t.n) (.slice ca (Ty.node t.k t.n rs).ks.length cc); have h2 := h.under (show w.heap.size ≤ S + 1 + 1 by rw [HS.out]; omega); rw [← HRS.out] at h2; exact h2, Inside.thin (in_res (lo := w.heap.size) (hi := w.heap.size) (Inside.of_below (by rw [HS.out]; exact HBw.out)) (by rw [HS.out]; omega) _ _ _)⟩

/-- A copy whose row may grow. -/
theorem l2Copy_gr (t : Ty) (v : Value) (w : World) (hn : nodes t ≤ 1000000) (hx : TyAt w t v) : Calls Try.prog 69 #[.agg #[.int .i64 t.k, .int .i64 t.n, v]] w (GrRet t w) := by
  have hl := nodes_len t
  have h1 := l2Copy_own t t.ks v w hx rfl (by omega) (fun i hi vi W hki => l2Copy_all _ _ vi W (Nat.lt_succ_self _) (by have := nodes_kid t i hi; omega) hki)
  cases t with
  | node k n ks => exact h1
theorem shp_up : ∀ (d : Nat) (t : Ty), shp d t = true → shp (d + 1) t = true := by
  intro d
  induction d with
  | zero => intro t h; cases h
  | succ d ih =>
    intro t h
    obtain ⟨h1, h2⟩ := shp_iff.1 h
    exact shp_iff.2 ⟨h1, fun i hi => ih _ (h2 i hi)⟩
theorem shp_add {d : Nat} {t : Ty} (h : shp d t = true) : ∀ m, shp (d + m) t = true
  | 0 => h
  | m + 1 => shp_up _ _ (shp_add h m)
theorem shp_le {d d' : Nat} {t : Ty} (h : shp d t = true) (hd : d ≤ d') : shp d' t = true := by
  have := shp_add h (d' - d); rwa [show d + (d' - d) = d' by omega] at this
theorem nodes_shp : ∀ (d : Nat) (t : Ty), shp d t = true → nodes t + 1 ≤ 2 ^ d := by
  intro d
  induction d with
  | zero => intro t h; cases h
  | succ d ih =>
    intro t h
    obtain ⟨h1, h2⟩ := shp_iff.1 h
    have hl := fieldsB_len h1
    cases t with
    | node k n ks =>
      rw [nodes_kids]
      have hp : 1 ≤ 2 ^ d := Nat.one_le_two_pow
      have e2 : 2 ^ (d + 1) = 2 ^ d + 2 ^ d := by rw [Nat.pow_succ]; omega
      match ks, hl, h2 with
      | [], _, _ => simp; omega
      | [x], _, h2 => have a := ih x (h2 0 (by simp [Ty.ks])); simp [List.range_succ]; omega
      | [x, y], _, h2 => have a := ih x (h2 0 (by simp [Ty.ks])); have b := ih y (h2 1 (by simp [Ty.ks])); simp [List.range_succ, List.getD]; omega
      | _ :: _ :: _ :: _, hl, _ => simp [Ty.ks] at hl
set_option maxRecDepth 100000 in
set_option maxHeartbeats 4000000 in
theorem l2Some_any (B : Nat) (a : Option Addr) (len cap : Nat) (zs : List Int) (p : Nat) (w : World) (P : Ty → Prop) (hP : ∀ t, shp 5 t = true → P t) (q : Nat) (hqq : 100 ≤ q) (hr : Rd w B a len cap zs p) (hp : p + q ≤ 1000000) :
    Calls Try.prog 43 #[.pointer (some ⟨B, 0, none⟩)] w (DrPost P w B a len cap zs p q) := by
  have HP := Lib.hid hP
  clear hP
  obtain ⟨W1, hW1⟩ : ∃ W, w.alloc (.cells #[.int .i64 0, .int .i64 0, .slice none 0 0] 28) = W := ⟨_, rfl⟩
  obtain ⟨S, hS⟩ : ∃ S, w.heap.size = S := ⟨_, rfl⟩
  have HD0 : Hid (DS w S B a len cap zs p W1) := Lib.hid (by rw [← hW1, ← hS]; exact ds_new hr _)
  have HW1 := Lib.hid hW1
  have HS := Lib.hid hS
  clear hr hW1
  go_enter Try.func43, Try.ntmps43
  go_wp2_with fail
  rw [HW1.out]
  clear hS
  have hb1 := HD0.out.rd.big
  have HDc := Lib.hid (HD0.out.alloc (.cells #[.int .i64 3, .int .i64 2, .int .i64 4, .int .i64 1] 3))
  have HIR : Hid (IntRow (W1.alloc (.cells #[.int .i64 3, .int .i64 2, .int .i64 4, .int .i64 1] 3)) (S + 1) 4 1 4) := Lib.hid (by
    have h := intRow_new W1 #[.int .i64 3, .int .i64 2, .int .i64 4, .int .i64 1] 3 4 1 4 rfl (by decide +kernel)
    have e : W1.heap.size = S + 1 := by rw [← HW1.out, ← HS.out]; simp
    rw [e] at h
    exact h)
  have hbs : ¬ S + 1 = B := by have := HD0.out.lt; omega
  go_at_call 44
  refine (num_any B a len cap zs _ _ HDc.out.rd (by omega) _ 4 4 1 4 (by omega) (by omega) hbs HIR.out).mono ?_
  rintro e w2 ⟨n, hn, rfl, k2, hk2⟩
  have HN := Lib.hid hn
  have HD2 := Lib.hid (HDc.out.pick hk2)
  clear hk2 hn
  obtain ⟨d, hd⟩ : ∃ d : Nat, n = d := ⟨n.toNat, by have := HN.out; omega⟩
  have hd4 : d ≤ 4 := by have := HN.out; omega
  have HDD := Lib.hid hd
  have hq : qd d ≤ 93 := by
    have : d = 0 ∨ d = 1 ∨ d = 2 ∨ d = 3 ∨ d = 4 := by omega
    rcases this with rfl | rfl | rfl | rfl | rfl <;> decide
  clear hd
  go_wp2_with fail
  go_at_call 45
  refine (l2Draw_any d B a len cap zs _ n _ HDD.out (by omega) HD2.out.rd (by omega)).mono ?_
  rintro e w3 ⟨t, v, r, hs, hr, rfl, hty, hdw, hrd⟩
  have HT := Lib.hid hty
  have HS1 := Lib.hid (HP.out t (shp_le (d' := 5) hs (by omega)))
  have HD3 := Lib.hid (HD2.out.step hdw hrd)
  obtain ⟨av, cv, rfl, _⟩ := hty.at.slice
  clear hty hs hdw hrd
  obtain ⟨p0, p1, p2, f0, f1, f2, psz⟩ := HD3.out.rb
  go_wp2_with fail
  exact bodyPost_ret (v := .agg #[.int .i64 t.k, .int .i64 t.n, .slice av t.ks.length cv]) (by simp [results, Try.results43, go_sem, p0, p1, p2, Ty.ks, Ty.k, Ty.n]) rfl ⟨_, _, 1 + r, HS1.out, by omega, rfl, (HD3.out.done HT.out HD2.out.sz _ _ _).1, (HD3.out.done HT.out HD2.out.sz _ _ _).2.1, by have h := (HD3.out.done HT.out HD2.out.sz (.int .i64 t.k) (.int .i64 t.n) (.slice av t.ks.length cv)).2.2; rw [show p + 1 + r = p + (1 + r) by omega] at h; exact h⟩

end Go.Proofs.Ytjhccdioainibaa
