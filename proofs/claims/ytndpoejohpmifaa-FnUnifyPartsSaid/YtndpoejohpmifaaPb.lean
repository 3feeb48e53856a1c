/-
  What the draws of types return: some well-formed type of little depth, in blocks of its own. Only the reader's counter changes, and new memory is made.
-/
import Derived.Test.YtndpoejohpmifaaPa
import Derived.Test.YtndpoejohpmifaaAd
namespace Go.Proofs.Ytndpoejohpmifaa
open Go.RowKit
set_option linter.unusedVariables false
set_option linter.unusedSimpArgs false
theorem TyIn.dw {w w' : World} {lo hi B : Nat} {t : Ty} {v : Value} (h : TyIn w lo hi t v) (hB : B < lo) (hd : Dw B w w') : TyIn w' lo hi t v :=
  h.keep hd.size (fun b h1 _ h3 => hd.block b h3 (by simp; omega))
theorem Rd.below {w w' : World} {B : Nat} {a : Option Addr} {len cap : Nat} {zs : List Int} {p : Nat} (hr : Rd w B a len cap zs p) (h : Below w.heap.size w w') : Rd w' B a len cap zs p :=
  hr.kept (h.mono (by have := hr.big; omega))
/-- What the draw of a type leaves. -/
def DrPost (P : Ty → Prop) (w : World) (B : Nat) (a : Option Addr) (len cap : Nat) (zs : List Int) (p q : Nat) (e : Ending) (w' : World) : Prop :=
  ∃ (t : Ty) (v : Value) (r : Nat), P t ∧ r ≤ q ∧ e = .returned (.agg #[.int .i64 t.k, .int .i64 t.n, v]) ∧ TyIn w' w.heap.size w'.heap.size t v ∧ Dw B w w' ∧ Rd w' B a len cap zs (p + r)
/-- Where a draw stands: its reader, its result's cells, still empty. -/
structure DS (w : World) (S B : Nat) (a : Option Addr) (len cap : Nat) (zs : List Int) (p : Nat) (W : World) : Prop where
  rd : Rd W B a len cap zs p
  dw : Dw B w W
  rb : RB W S
  lt : B < S
  eq : w.heap.size = S
theorem DS.sz {w : World} {S B : Nat} {a : Option Addr} {len cap : Nat} {zs : List Int} {p : Nat} {W : World} (h : DS w S B a len cap zs p W) : S + 1 ≤ W.heap.size := h.rb.sz
theorem DS.step {w : World} {S B : Nat} {a : Option Addr} {len cap : Nat} {zs : List Int} {p p' : Nat} {W W' : World} (h : DS w S B a len cap zs p W) (hd : Dw B W W') (hr : Rd W' B a len cap zs p') : DS w S B a len cap zs p' W' :=
  ⟨hr, h.dw.trans hd, h.rb.keep hd.size (hd.block S h.rb.sz (by have := h.lt; simp; omega)), h.lt, h.eq⟩
theorem DS.pick {w : World} {S B : Nat} {a : Option Addr} {len cap : Nat} {zs : List Int} {p : Nat} {W W' : World} (h : DS w S B a len cap zs p W) {k : Nat} (hk : W' = (W.setCell ⟨B, 1, none⟩ (.int .i64 ((p : Int) + 1))).drewN k) : DS w S B a len cap zs (p + 1) W' :=
  h.step (Dw.pick hk) (h.rd.picked hk)
theorem DS.below {w : World} {S B : Nat} {a : Option Addr} {len cap : Nat} {zs : List Int} {p : Nat} {W W' : World} (h : DS w S B a len cap zs p W) (hb : Below W.heap.size W W') : DS w S B a len cap zs p W' :=
  h.step (Dw.ofBelow hb) (h.rd.below hb)
theorem DS.alloc {w : World} {S B : Nat} {a : Option Addr} {len cap : Nat} {zs : List Int} {p : Nat} {W : World} (h : DS w S B a len cap zs p W) (o : Obj) : DS w S B a len cap zs p (W.alloc o) :=
  h.step ((Dw.refl B W).alloc o) (h.rd.alloc o)
theorem ds_new {w : World} {B : Nat} {a : Option Addr} {len cap : Nat} {zs : List Int} {p : Nat} (h : Rd w B a len cap zs p) (T : TypeId) : DS w w.heap.size B a len cap zs p (w.alloc (.cells #[.int .i64 0, .int .i64 0, .slice none 0 0] T)) :=
  ⟨h.alloc _, (Dw.refl B w).alloc _, rb_new w T, h.big, rfl⟩
/-- The result goes into its cells. -/
theorem DS.done {w : World} {S B : Nat} {a : Option Addr} {len cap : Nat} {zs : List Int} {p : Nat} {W : World} (h : DS w S B a len cap zs p W) {t : Ty} {v : Value} {lo : Nat} (ht : TyIn W lo W.heap.size t v) (hlo : S + 1 ≤ lo) (x y z : Value) :
    TyIn (((W.setCell ⟨S, 0, none⟩ x).setCell ⟨S, 1, none⟩ y).setCell ⟨S, 2, none⟩ z) w.heap.size (((W.setCell ⟨S, 0, none⟩ x).setCell ⟨S, 1, none⟩ y).setCell ⟨S, 2, none⟩ z).heap.size t v ∧ Dw B w (((W.setCell ⟨S, 0, none⟩ x).setCell ⟨S, 1, none⟩ y).setCell ⟨S, 2, none⟩ z) ∧ Rd (((W.setCell ⟨S, 0, none⟩ x).setCell ⟨S, 1, none⟩ y).setCell ⟨S, 2, none⟩ z) B a len cap zs p := by
  have e := h.eq
  exact ⟨res_ty (ht.wide hlo (Nat.le_refl _)) (by omega) x y z, ((h.dw.setNew (by omega) 0 x).setNew (by omega) 1 y).setNew (by omega) 2 z, ((h.rd.setNew h.lt 0 x).setNew h.lt 1 y).setNew h.lt 2 z⟩
def qd : Nat → Nat
  | 0 => 3
  | d + 1 => 3 + (qd d + qd d)
theorem qd3 : ∀ d, 3 ≤ qd d
  | 0 => Nat.le_refl _
  | d + 1 => by unfold qd; omega
theorem shp_num (d : Nat) : shp (d + 1) (.node 1 0 []) = true := shp_iff.2 ⟨by decide, fun i hi => absurd hi (Nat.not_lt_zero _)⟩
theorem shp_var (d : Nat) (n : Int) (h : 0 ≤ n ∧ n ≤ 25) : shp (d + 1) (.node 4 n []) = true := shp_iff.2 ⟨by show fieldsB 4 n 0 = true; unfold fieldsB; exact decide_eq_true (.inr (.inr ⟨rfl, h.1, h.2, rfl⟩)), fun i hi => absurd hi (Nat.not_lt_zero _)⟩
theorem shp_two (d : Nat) (k : Int) (x y : Ty) (h : 2 ≤ k ∧ k ≤ 3) (hx : shp d x = true) (hy : shp d y = true) : shp (d + 1) (.node k 0 [x, y]) = true := shp_iff.2 ⟨by show fieldsB k 0 2 = true; unfold fieldsB; exact decide_eq_true (.inr (.inl ⟨by omega, rfl, rfl⟩)), fun i hi => by
  have hi : i < 2 := hi
  obtain rfl | rfl : i = 0 ∨ i = 1 := by omega
  · exact hx
  · exact hy⟩

set_option maxRecDepth 100000 in
set_option maxHeartbeats 4000000 in
theorem l2Draw_any : ∀ (d B : Nat) (a : Option Addr) (len cap : Nat) (zs : List Int) (p : Nat) (D : Int) (w : World), D = d → d ≤ 1000 → Rd w B a len cap zs p → p + qd d ≤ 1000000 →
    Calls Try.prog 82 #[.pointer (some ⟨B, 0, none⟩), .int .i64 D] w (DrPost (fun t => shp (d + 1) t = true) w B a len cap zs p (qd d)) := by
  intro d
  induction d with
  | zero =>
    intro B a len cap zs p D w hD hd hr hp
    have hD2 : D < 2 := by omega
    obtain ⟨q, hQ⟩ : ∃ q, qd 0 = q := ⟨_, rfl⟩
    have hq : 3 ≤ q := by rw [← hQ]; exact qd3 0
    rw [hQ] at hp ⊢
    clear hD hQ
    obtain ⟨W1, hW1⟩ : ∃ W, w.alloc (.cells #[.int .i64 0, .int .i64 0, .slice none 0 0] 25) = W := ⟨_, rfl⟩
    obtain ⟨S, hS⟩ : ∃ S, w.heap.size = S := ⟨_, rfl⟩
    have HD0 : Hid (DS w S B a len cap zs p W1) := Lib.hid (by rw [← hW1, ← hS]; exact ds_new hr _)
    have HW1 := Lib.hid hW1
    have HS := Lib.hid hS
    clear hr hW1
    go_enter Try.func82, Try.ntmps82
    go_wp2_with fail
    rw [HW1.out]
    clear hS
    go_at_call 80
    refine (pick_any B a len cap zs p 3 _ HD0.out.rd (by omega) (by omega) (by omega)).mono ?_
    rintro e wa ⟨xa, hxa, rfl, ka, hka⟩
    have HDa := Lib.hid (HD0.out.pick hka)
    clear hka
    by_cases hza : xa = 0
    · subst hza
      go_wp2_with fail
      go_at_call 84
      refine (l2Num_any _).mono ?_
      rintro e wb ⟨v, rfl, hty, hb⟩
      have HT := Lib.hid hty
      have HDb := Lib.hid (HDa.out.below hb)
      obtain ⟨av, cv, rfl, _⟩ := hty.at.slice
      clear hty hb
      obtain ⟨p0, p1, p2, f0, f1, f2, psz⟩ := HDb.out.rb
      go_wp2_with fail
      exact bodyPost_ret (v := .agg #[.int .i64 1, .int .i64 0, .slice av 0 cv]) (by simp [results, Try.results82, go_sem, p0, p1, p2, Ty.ks, Ty.k, Ty.n]) rfl ⟨_, _, 1, shp_num _, by omega, rfl, (HDb.out.done HT.out HDa.out.sz _ _ _).1, (HDb.out.done HT.out HDa.out.sz _ _ _).2.1, (HDb.out.done HT.out HDa.out.sz _ _ _).2.2⟩
    · have hzb : ((xa : Int) == 0) = false := by rw [beq_eq_false_iff_ne]; omega
      have hba := HDa.out.rd.big
      have HDc := Lib.hid (HDa.out.alloc (.cells #[.int .i64 0, .int .i64 1, .int .i64 2, .int .i64 0, .int .i64 25] 3))
      go_wp2_with fail
      go_at_call 83
      refine (num_any B a len cap zs _ _ HDc.out.rd (by omega) _ 5 5 0 25 (by omega) (by omega) (by omega) (intRow_new _ _ _ 5 0 25 rfl (by decide +kernel))).mono ?_
      rintro e wb ⟨n, hn, rfl, kb, hkb⟩
      have HN := Lib.hid hn
      have HDb := Lib.hid (HDc.out.pick hkb)
      clear hkb hn
      go_wp2_with fail
      go_at_call 85
      refine (l2Var_any n _).mono ?_
      rintro e wc ⟨v, rfl, hty, hb⟩
      have HT := Lib.hid hty
      have HDd := Lib.hid (HDb.out.below hb)
      obtain ⟨av, cv, rfl, _⟩ := hty.at.slice
      clear hty hb
      obtain ⟨p0, p1, p2, f0, f1, f2, psz⟩ := HDd.out.rb
      go_wp2_with fail
      exact bodyPost_ret (v := .agg #[.int .i64 4, .int .i64 n, .slice av 0 cv]) (by simp [results, Try.results82, go_sem, p0, p1, p2, Ty.ks, Ty.k, Ty.n]) rfl ⟨_, _, 2, shp_var _ n HN.out, by omega, rfl, (HDd.out.done HT.out HDb.out.sz _ _ _).1, (HDd.out.done HT.out HDb.out.sz _ _ _).2.1, (HDd.out.done HT.out HDb.out.sz _ _ _).2.2⟩
  | succ d ih =>
    intro B a len cap zs p D w hD hd hr hp
    obtain ⟨q, hQ⟩ : ∃ q, qd (d + 1) = q := ⟨_, rfl⟩
    obtain ⟨m, hm⟩ : ∃ m, qd d = m := ⟨_, rfl⟩
    have hq : 3 ≤ q := by rw [← hQ]; exact qd3 _
    have hqq : 3 + (m + m) ≤ q := by rw [← hQ, ← hm]; exact Nat.le_refl _
    rw [hQ] at hp ⊢
    rw [hm] at ih
    have HDD := Lib.hid (show D - 1 = (d : Int) by omega)
    have hDl : 0 ≤ D := by omega
    have hDu : D ≤ 2000 := by omega
    clear hQ hm hD
    by_cases h2 : D < 2
    · skip
      obtain ⟨W1, hW1⟩ : ∃ W, w.alloc (.cells #[.int .i64 0, .int .i64 0, .slice none 0 0] 25) = W := ⟨_, rfl⟩
      obtain ⟨S, hS⟩ : ∃ S, w.heap.size = S := ⟨_, rfl⟩
      have HD0 : Hid (DS w S B a len cap zs p W1) := Lib.hid (by rw [← hW1, ← hS]; exact ds_new hr _)
      have HW1 := Lib.hid hW1
      have HS := Lib.hid hS
      clear hr hW1
      go_enter Try.func82, Try.ntmps82
      go_wp2_with fail
      rw [HW1.out]
      clear hS
      go_at_call 80
      refine (pick_any B a len cap zs p 3 _ HD0.out.rd (by omega) (by omega) (by omega)).mono ?_
      rintro e wa ⟨xa, hxa, rfl, ka, hka⟩
      have HDa := Lib.hid (HD0.out.pick hka)
      clear hka
      by_cases hza : xa = 0
      · subst hza
        go_wp2_with fail
        go_at_call 84
        refine (l2Num_any _).mono ?_
        rintro e wb ⟨v, rfl, hty, hb⟩
        have HT := Lib.hid hty
        have HDb := Lib.hid (HDa.out.below hb)
        obtain ⟨av, cv, rfl, _⟩ := hty.at.slice
        clear hty hb
        obtain ⟨p0, p1, p2, f0, f1, f2, psz⟩ := HDb.out.rb
        go_wp2_with fail
        exact bodyPost_ret (v := .agg #[.int .i64 1, .int .i64 0, .slice av 0 cv]) (by simp [results, Try.results82, go_sem, p0, p1, p2, Ty.ks, Ty.k, Ty.n]) rfl ⟨_, _, 1, shp_num _, by omega, rfl, (HDb.out.done HT.out HDa.out.sz _ _ _).1, (HDb.out.done HT.out HDa.out.sz _ _ _).2.1, (HDb.out.done HT.out HDa.out.sz _ _ _).2.2⟩
      · have hzb : ((xa : Int) == 0) = false := by rw [beq_eq_false_iff_ne]; omega
        have hba := HDa.out.rd.big
        have HDc := Lib.hid (HDa.out.alloc (.cells #[.int .i64 0, .int .i64 1, .int .i64 2, .int .i64 0, .int .i64 25] 3))
        go_wp2_with fail
        go_at_call 83
        refine (num_any B a len cap zs _ _ HDc.out.rd (by omega) _ 5 5 0 25 (by omega) (by omega) (by omega) (intRow_new _ _ _ 5 0 25 rfl (by decide +kernel))).mono ?_
        rintro e wb ⟨n, hn, rfl, kb, hkb⟩
        have HN := Lib.hid hn
        have HDb := Lib.hid (HDc.out.pick hkb)
        clear hkb hn
        go_wp2_with fail
        go_at_call 85
        refine (l2Var_any n _).mono ?_
        rintro e wc ⟨v, rfl, hty, hb⟩
        have HT := Lib.hid hty
        have HDd := Lib.hid (HDb.out.below hb)
        obtain ⟨av, cv, rfl, _⟩ := hty.at.slice
        clear hty hb
        obtain ⟨p0, p1, p2, f0, f1, f2, psz⟩ := HDd.out.rb
        go_wp2_with fail
        exact bodyPost_ret (v := .agg #[.int .i64 4, .int .i64 n, .slice av 0 cv]) (by simp [results, Try.results82, go_sem, p0, p1, p2, Ty.ks, Ty.k, Ty.n]) rfl ⟨_, _, 2, shp_var _ n HN.out, by omega, rfl, (HDd.out.done HT.out HDb.out.sz _ _ _).1, (HDd.out.done HT.out HDb.out.sz _ _ _).2.1, (HDd.out.done HT.out HDb.out.sz _ _ _).2.2⟩
    · skip
      obtain ⟨W1, hW1⟩ : ∃ W, w.alloc (.cells #[.int .i64 0, .int .i64 0, .slice none 0 0] 25) = W := ⟨_, rfl⟩
      obtain ⟨S, hS⟩ : ∃ S, w.heap.size = S := ⟨_, rfl⟩
      have HD0 : Hid (DS w S B a len cap zs p W1) := Lib.hid (by rw [← hW1, ← hS]; exact ds_new hr _)
      have HW1 := Lib.hid hW1
      have HS := Lib.hid hS
      clear hr hW1
      go_enter Try.func82, Try.ntmps82
      go_wp2_with fail
      rw [HW1.out]
      clear hS
      go_at_call 80
      refine (pick_any B a len cap zs p 4 _ HD0.out.rd (by omega) (by omega) (by omega)).mono ?_
      rintro e w1 ⟨x1, hx1, rfl, k1, hk1⟩
      have HD1 := Lib.hid (HD0.out.pick hk1)
      clear hk1
      by_cases hz1 : x1 = 0
      · subst hz1
        go_wp2_with fail
        go_at_call 80
        refine (pick_any B a len cap zs _ 3 _ HD1.out.rd (by omega) (by omega) (by omega)).mono ?_
        rintro e wa ⟨xa, hxa, rfl, ka, hka⟩
        have HDa := Lib.hid (HD1.out.pick hka)
        clear hka
        by_cases hza : xa = 0
        · subst hza
          go_wp2_with fail
          go_at_call 84
          refine (l2Num_any _).mono ?_
          rintro e wb ⟨v, rfl, hty, hb⟩
          have HT := Lib.hid hty
          have HDb := Lib.hid (HDa.out.below hb)
          obtain ⟨av, cv, rfl, _⟩ := hty.at.slice
          clear hty hb
          obtain ⟨p0, p1, p2, f0, f1, f2, psz⟩ := HDb.out.rb
          go_wp2_with fail
          exact bodyPost_ret (v := .agg #[.int .i64 1, .int .i64 0, .slice av 0 cv]) (by simp [results, Try.results82, go_sem, p0, p1, p2, Ty.ks, Ty.k, Ty.n]) rfl ⟨_, _, 2, shp_num _, by omega, rfl, (HDb.out.done HT.out HDa.out.sz _ _ _).1, (HDb.out.done HT.out HDa.out.sz _ _ _).2.1, (HDb.out.done HT.out HDa.out.sz _ _ _).2.2⟩
        · have hzb : ((xa : Int) == 0) = false := by rw [beq_eq_false_iff_ne]; omega
          have hba := HDa.out.rd.big
          have HDc := Lib.hid (HDa.out.alloc (.cells #[.int .i64 0, .int .i64 1, .int .i64 2, .int .i64 0, .int .i64 25] 3))
          go_wp2_with fail
          go_at_call 83
          refine (num_any B a len cap zs _ _ HDc.out.rd (by omega) _ 5 5 0 25 (by omega) (by omega) (by omega) (intRow_new _ _ _ 5 0 25 rfl (by decide +kernel))).mono ?_
          rintro e wb ⟨n, hn, rfl, kb, hkb⟩
          have HN := Lib.hid hn
          have HDb := Lib.hid (HDc.out.pick hkb)
          clear hkb hn
          go_wp2_with fail
          go_at_call 85
          refine (l2Var_any n _).mono ?_
          rintro e wc ⟨v, rfl, hty, hb⟩
          have HT := Lib.hid hty
          have HDd := Lib.hid (HDb.out.below hb)
          obtain ⟨av, cv, rfl, _⟩ := hty.at.slice
          clear hty hb
          obtain ⟨p0, p1, p2, f0, f1, f2, psz⟩ := HDd.out.rb
          go_wp2_with fail
          exact bodyPost_ret (v := .agg #[.int .i64 4, .int .i64 n, .slice av 0 cv]) (by simp [results, Try.results82, go_sem, p0, p1, p2, Ty.ks, Ty.k, Ty.n]) rfl ⟨_, _, 3, shp_var _ n HN.out, by omega, rfl, (HDd.out.done HT.out HDb.out.sz _ _ _).1, (HDd.out.done HT.out HDb.out.sz _ _ _).2.1, (HDd.out.done HT.out HDb.out.sz _ _ _).2.2⟩
      · have hz1b : ((x1 : Int) == 0) = false := by rw [beq_eq_false_iff_ne]; omega
        have hb1 := HD1.out.rd.big
        have HDc := Lib.hid (HD1.out.alloc (.cells #[.int .i64 2, .int .i64 3, .int .i64 2] 3))
        go_wp2_with fail
        go_at_call 83
        refine (num_any B a len cap zs _ _ HDc.out.rd (by omega) _ 3 3 2 3 (by omega) (by omega) (by omega) (intRow_new _ _ _ 3 2 3 rfl (by decide +kernel))).mono ?_
        rintro e w2 ⟨n, hn, rfl, k2, hk2⟩
        have HN := Lib.hid hn
        have HD2 := Lib.hid (HDc.out.pick hk2)
        clear hk2 hn
        go_wp2_with fail
        go_at_call 82
        refine (ih B a len cap zs _ (D - 1) _ HDD.out (by omega) HD2.out.rd (by omega)).mono ?_
        rintro e w3 ⟨t1, v1, r1, hs1, hr1, rfl, hty1, hd1, hrd1⟩
        have HT1 := Lib.hid hty1
        have HS1 := Lib.hid hs1
        have HD3 := Lib.hid (HD2.out.step hd1 hrd1)
        obtain ⟨a1, c1, rfl, _⟩ := hty1.at.slice
        have HZ3 := Lib.hid hd1.size
        clear hty1 hs1 hd1 hrd1
        go_wp2_with fail
        go_at_call 82
        refine (ih B a len cap zs _ (D - 1) _ HDD.out (by omega) HD3.out.rd (by omega)).mono ?_
        rintro e w4 ⟨t2, v2, r2, hs2, hr2, rfl, hty2, hd2, hrd2⟩
        have HT2 := Lib.hid hty2
        have HS2 := Lib.hid hs2
        have HD4 := Lib.hid (HD3.out.step hd2 hrd2)
        have HT1' := Lib.hid (HT1.out.dw HD2.out.rd.big hd2)
        obtain ⟨a2, c2, rfl, _⟩ := hty2.at.slice
        have HZ4 := Lib.hid hd2.size
        clear hty2 hs2 hd2 hrd2
        go_wp2_with fail
        go_at_call 87
        refine (l2Node_any n t1 t2 _ _ w2.heap.size _ _ _ _ _ HT1'.out HT2.out (Nat.le_refl _) HZ3.out (Nat.le_refl _) HZ4.out (Nat.le_refl _) (Nat.le_trans HZ3.out HZ4.out)).mono ?_
        rintro e w5 ⟨v, rfl, hty, hb⟩
        have HT := Lib.hid hty
        have HD5 := Lib.hid (HD4.out.below hb)
        obtain ⟨av, cv, rfl, _⟩ := hty.at.slice
        clear hty hb
        obtain ⟨p0, p1, p2, f0, f1, f2, psz⟩ := HD5.out.rb
        go_wp2_with fail
        exact bodyPost_ret (v := .agg #[.int .i64 n, .int .i64 0, .slice av 2 cv]) (by simp [results, Try.results82, go_sem, p0, p1, p2, Ty.ks, Ty.k, Ty.n]) rfl ⟨_, _, 2 + (r1 + r2), shp_two _ n t1 t2 HN.out HS1.out HS2.out, by omega, rfl, (HD5.out.done HT.out HD2.out.sz _ _ _).1, (HD5.out.done HT.out HD2.out.sz _ _ _).2.1, by have h := (HD5.out.done HT.out HD2.out.sz (.int .i64 n) (.int .i64 0) (.slice av 2 cv)).2.2; rw [show p + 1 + 1 + r1 + r2 = p + (2 + (r1 + r2)) by omega] at h; exact h⟩

end Go.Proofs.Ytndpoejohpmifaa
