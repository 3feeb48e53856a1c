/-
  FormatType of the program and of the model: for every type in memory, its text; what was in memory stays.
  FormatType of the program and of the model: for every type in memory, its text, or the empty one if it is not valid; what was in memory stays.
-/
import Derived.Test.YtndpoejohpmifaaZe
import Derived.Laws.IdiomStrings
import Derived.Laws.Concat
import Derived.Maps.AppendAt
import Derived.BigQuiet
import Derived.Deep.RegionHeld3
import Derived.Deep.DeepCutAuto
import Derived.Test.YtndpoejohpmifaaZh
namespace Go.Proofs.Ytndpoejohpmifaa
open Go.RowKit

/-- The text of a type, down to a depth. -/
def txt : Nat → Ty → ByteArray
  | 0, _ => ⟨#[]⟩
  | d + 1, t => if t.k = 1 then ⟨#[73]⟩ else if t.k = 4 then ⟨#[UInt8.ofNat (97 + t.n.toNat)]⟩
    else ⟨#[40]⟩ ++ txt d (t.ks.getD 0 Ty.dummy) ++ (if t.k = 3 then ⟨#[42]⟩ else ⟨#[62]⟩) ++ txt d (t.ks.getD 1 Ty.dummy) ++ ⟨#[41]⟩
theorem txt_num {d : Nat} {t : Ty} (h : t.k = 1) : txt (d + 1) t = ⟨#[73]⟩ := by rw [txt, if_pos h]
theorem txt_var {d : Nat} {t : Ty} (h : t.k = 4) : txt (d + 1) t = ⟨#[UInt8.ofNat (97 + t.n.toNat)]⟩ := by rw [txt, if_neg (by omega), if_pos h]
theorem txt_fun {d : Nat} {t : Ty} (h : t.k = 2) : txt (d + 1) t = ⟨#[40]⟩ ++ txt d (t.ks.getD 0 Ty.dummy) ++ ⟨#[62]⟩ ++ txt d (t.ks.getD 1 Ty.dummy) ++ ⟨#[41]⟩ := by
  rw [txt, if_neg (by omega), if_neg (by omega), if_neg (by omega)]
theorem txt_pair {d : Nat} {t : Ty} (h : t.k = 3) : txt (d + 1) t = ⟨#[40]⟩ ++ txt d (t.ks.getD 0 Ty.dummy) ++ ⟨#[42]⟩ ++ txt d (t.ks.getD 1 Ty.dummy) ++ ⟨#[41]⟩ := by
  rw [txt, if_neg (by omega), if_neg (by omega), if_pos h]
theorem one_size (c : UInt8) : (⟨#[c]⟩ : ByteArray).size = 1 := rfl
theorem txt_size : ∀ (d : Nat) (t : Ty), shp d t = true → (txt d t).size + 3 ≤ 2 ^ (d + 2) := by
  intro d
  induction d with
  | zero => intro t h; cases h
  | succ d ih =>
    intro t h
    obtain ⟨hf, hk⟩ := shp_iff.1 h
    have hp : 2 ^ (d + 1 + 2) = 2 * 2 ^ (d + 2) := by rw [Nat.pow_succ]; omega
    have h4 : 4 ≤ 2 ^ (d + 2) := by have : 2 ^ 2 ≤ 2 ^ (d + 2) := Nat.pow_le_pow_right (by omega) (by omega); simpa using this
    rcases fieldsB_iff.1 hf with ⟨h1, _, _⟩ | ⟨h1, _, h2⟩ | ⟨h1, _, _, _⟩
    · rw [txt_num h1, one_size]; omega
    · have i0 := ih _ (hk 0 (by omega))
      have i1 := ih _ (hk 1 (by omega))
      rcases h1 with h1 | h1
      · rw [txt_fun h1]; simp only [ByteArray.size_append, one_size]; omega
      · rw [txt_pair h1]; simp only [ByteArray.size_append, one_size]; omega
    · rw [txt_var h1, one_size]; omega
theorem txt_le {d : Nat} {t : Ty} (hd : d ≤ 16) (h : shp d t = true) : (txt d t).size ≤ 262144 := by
  have h1 := txt_size d t h
  have h2 : 2 ^ (d + 2) ≤ 262144 := Nat.le_trans (Nat.pow_le_pow_right (by omega) (show d + 2 ≤ 18 by omega)) (by decide)
  omega
theorem enc_letter {n : Int} (h0 : 0 ≤ n) (h1 : n ≤ 25) : Utf8.encode (97 + n) = ⟨#[UInt8.ofNat (97 + n.toNat)]⟩ := by
  obtain ⟨m, rfl⟩ : ∃ m : Nat, n = m := ⟨n.toNat, by omega⟩
  have key : ∀ m : Fin 26, Utf8.encode (97 + (m.val : Int)) = ⟨#[UInt8.ofNat (97 + (m.val : Int).toNat)]⟩ := by decide
  exact key ⟨m, by omega⟩
structure TBox3 (w : World) (B : Nat) (z : Value) : Prop where
  c2 : w.cell? ⟨B, 2, none⟩ = some z
  sz : B < w.heap.size
theorem TBox3.kept {w w' : World} {B : Nat} {z : Value} (h : TBox3 w B z) (hb : Below w.heap.size w w') : TBox3 w' B z :=
  ⟨(hb.cell (p := ⟨B, 2, none⟩) h.sz).trans h.c2, Nat.lt_of_lt_of_le h.sz hb.size⟩
theorem tbox3_new (w : World) (x y z : Value) (T : TypeId) : TBox3 (w.alloc (.cells #[x, y, z] T)) w.heap.size z := ⟨by go_simp, by simp⟩
def TextIs (s : ByteArray) (w : World) (e : Ending) (w' : World) : Prop := e = .returned (.string s) ∧ Below w.heap.size w w'

set_option maxRecDepth 100000 in
set_option maxHeartbeats 4000000 in
theorem typeText_any : ∀ (d : Nat) (t : Ty) (v : Value) (w : World), d ≤ 16 → shp d t = true → TyAt w t v →
    Calls Try.prog 39 #[.agg #[.int .i64 t.k, .int .i64 t.n, v]] w (TextIs (txt d t) w) := by
  intro d
  induction d with
  | zero => intro t v w _ hs _; cases hs
  | succ d ih =>
    intro t v w hd hs hx
    have HX := Lib.hid hx
    obtain ⟨a, cap, rfl, hlen⟩ := hx.slice
    obtain ⟨hf, hkids⟩ := shp_iff.1 hs
    have HKIDS := Lib.hid hkids
    obtain ⟨k, hk⟩ : ∃ k, t.k = k := ⟨_, rfl⟩
    obtain ⟨n, hn⟩ : ∃ n, t.n = n := ⟨_, rfl⟩
    obtain ⟨L, hL⟩ : ∃ L, t.ks.length = L := ⟨_, rfl⟩
    have HK := Lib.hid hk
    have HN := Lib.hid hn
    have HL := Lib.hid hL
    have HIH := Lib.hid ih
    rw [hk, hn, hL] at hf ⊢
    rw [hL] at hlen
    clear hx hk hn hL ih hkids hs
    have HF := fieldsB_iff.1 hf
    clear hf
    rcases HF with ⟨rfl, rfl, hL2⟩ | ⟨h1, rfl, hL2⟩ | ⟨rfl, hn0, hn1, hL2⟩
    · have HT := Lib.hid (txt_num (d := d) HK.out)
      go_enter Try.func39, Try.ntmps39
      go_wp2
      go_ret
      exact ⟨by rw [HT.out]; rfl, (Below.refl _ _).alloc (Nat.le_refl _) _⟩
    · rcases h1 with rfl | rfl
      · 
        have HT : Hid (txt (d + 1) t = ⟨#[40]⟩ ++ txt d (t.ks.getD 0 Ty.dummy) ++ ⟨#[62]⟩ ++ txt d (t.ks.getD 1 Ty.dummy) ++ ⟨#[41]⟩) := Lib.hid (txt_fun HK.out)
        have HS0 := Lib.hid (HKIDS.out 0 (by rw [HL.out]; omega))
        have HS1 := Lib.hid (HKIDS.out 1 (by rw [HL.out]; omega))
        have hz0 := txt_le (show d ≤ 16 by omega) HS0.out
        have hz1 := txt_le (show d ≤ 16 by omega) HS1.out
        obtain ⟨b, o, cap0, v0, ex, bl, x0, x1, x2, hk0⟩ := HX.out.kid 0 (by rw [HL.out]; omega)
        obtain ⟨b', o', cap1, v1, ex', bl', y0, y1, y2, hk1⟩ := HX.out.kid 1 (by rw [HL.out]; omega)
        have ea : a = some ⟨b, o, none⟩ := by injection ex
        have ea' : a = some ⟨b', o', none⟩ := by injection ex'
        have eb : b' = b ∧ o' = o := by rw [ea] at ea'; injection ea' with e; injection e with e1 e2; exact ⟨e1.symm, e2.symm⟩
        obtain ⟨rfl, rfl⟩ := eb
        subst ea
        obtain ⟨u0, hu0⟩ : ∃ x, t.ks.getD 0 Ty.dummy = x := ⟨_, rfl⟩
        obtain ⟨u1, hu1⟩ : ∃ x, t.ks.getD 1 Ty.dummy = x := ⟨_, rfl⟩
        rw [hu0] at x0 x1 hk0 HT HS0 hz0
        rw [hu1] at y0 y1 hk1 HT HS1 hz1
        obtain ⟨g0, j0, rfl, _⟩ := hk0.slice
        obtain ⟨g1, j1, rfl, _⟩ := hk1.slice
        have HK0 := Lib.hid hk0
        have HK1 := Lib.hid hk1
        obtain ⟨s0, hs0⟩ : ∃ s, txt d u0 = s := ⟨_, rfl⟩
        obtain ⟨s1, hs1⟩ : ∃ s, txt d u1 = s := ⟨_, rfl⟩
        have HQ0 := Lib.hid hs0
        have HQ1 := Lib.hid hs1
        rw [hs0, hs1] at HT
        rw [hs0] at hz0
        rw [hs1] at hz1
        subst hL2
        clear ex ex' ea' hu0 hu1 hk0 hk1 hs0 hs1
        simp only [Nat.zero_mul, Nat.add_zero, Nat.one_mul, Nat.add_assoc, Nat.reduceAdd] at x0 x1 x2 y0 y1 y2
        have HD16 : Hid (d ≤ 16) := Lib.hid (by omega)
        have k5 : 1 + s0.size ≤ 9223372036854775807 := by omega
        have k6 : 1 + s0.size + 1 ≤ 9223372036854775807 := by omega
        have k7 : 1 + s0.size + 1 + s1.size ≤ 9223372036854775807 := by omega
        have k8 : 1 + s0.size + 1 + s1.size + 1 ≤ 9223372036854775807 := by omega
        have E5 : ∀ W, (Op.stringOp .add ⟨#[40]⟩ s0).run Try.prog W = .ok (.string (⟨#[40]⟩ ++ s0)) W := fun W => run_string_add_sum _ _ _ (by show 1 + s0.size ≤ _; omega)
        have E6 : ∀ W, (Op.stringOp .add (⟨#[40]⟩ ++ s0) ⟨#[62]⟩).run Try.prog W = .ok (.string (⟨#[40]⟩ ++ s0 ++ ⟨#[62]⟩)) W := fun W => run_string_add_sum _ _ _ (by rw [ByteArray.size_append]; show 1 + s0.size + 1 ≤ _; omega)
        have E7 : ∀ W, (Op.stringOp .add (⟨#[40]⟩ ++ s0 ++ ⟨#[62]⟩) s1).run Try.prog W = .ok (.string (⟨#[40]⟩ ++ s0 ++ ⟨#[62]⟩ ++ s1)) W := fun W => run_string_add_sum _ _ _ (by rw [ByteArray.size_append, ByteArray.size_append]; show 1 + s0.size + 1 + s1.size ≤ _; omega)
        have E8 : ∀ W, (Op.stringOp .add (⟨#[40]⟩ ++ s0 ++ ⟨#[62]⟩ ++ s1) ⟨#[41]⟩).run Try.prog W = .ok (.string (⟨#[40]⟩ ++ s0 ++ ⟨#[62]⟩ ++ s1 ++ ⟨#[41]⟩)) W := fun W => run_string_add_sum _ _ _ (by rw [ByteArray.size_append, ByteArray.size_append, ByteArray.size_append]; show 1 + s0.size + 1 + s1.size + 1 ≤ _; omega)
        have HA0 : Hid (Below w.heap.size w (w.alloc (.cells #[.int .i64 2, .int .i64 0, .slice (some ⟨b', o', none⟩) 2 cap] 25))) := Lib.hid ((Below.refl _ _).alloc (Nat.le_refl _) _)
        have HB0 : Hid (TBox3 (w.alloc (.cells #[.int .i64 2, .int .i64 0, .slice (some ⟨b', o', none⟩) 2 cap] 25)) w.heap.size (.slice (some ⟨b', o', none⟩) 2 cap)) := Lib.hid (tbox3_new w _ _ _ _)
        go_enter Try.func39, Try.ntmps39
        go_wp2_with fail
        go_region_held3 (fun w' => w'.cell? ⟨w.heap.size, 2, none⟩ = some (.slice (some ⟨b', o', none⟩) 2 cap) ∧ w'.cell? ⟨b', o', none⟩ = some (.int .i64 u0.k) ∧ w'.cell? ⟨b', o' + 1, none⟩ = some (.int .i64 u0.n) ∧ w'.cell? ⟨b', o' + 2, none⟩ = some (.slice g0 u0.ks.length j0) ∧ w'.cell? ⟨b', o' + 3, none⟩ = some (.int .i64 u1.k) ∧ w'.cell? ⟨b', o' + 4, none⟩ = some (.int .i64 u1.n) ∧ w'.cell? ⟨b', o' + 5, none⟩ = some (.slice g1 u1.ks.length j1)) (go_keep)
          (first
            | (go_at_call 39; have hgd := HB5; clear hgd; refine (HIH.out u1 _ _ HD16.out HS1.out (HK1.out.kept (by first | exact HB5.out | exact HB5.out.drew))).mono ?_; rw [HQ1.out]; rintro e w6 ⟨rfl, hb6⟩; have hb6' : Below w5.heap.size w5 w6 := Below.trans (B := w5.heap.size) (by first | exact Below.refl _ _ | exact (Below.refl _ _).drew) hb6; have HB6 := Lib.hid (HB5.out.trans (hb6'.mono HB5.out.size)); have HT6 := Lib.hid (HT5.out.kept hb6'); obtain ⟨d2, dz⟩ := HT6.out; have t0 := (HB6.out.cell (p := ⟨b', o', none⟩) bl').trans x0; have t1 := (HB6.out.cell (p := ⟨b', o' + 1, none⟩) bl').trans x1; have t2 := (HB6.out.cell (p := ⟨b', o' + 2, none⟩) bl').trans x2; have t3 := (HB6.out.cell (p := ⟨b', o' + 3, none⟩) bl').trans y0; have t4 := (HB6.out.cell (p := ⟨b', o' + 4, none⟩) bl').trans y1; have t5 := (HB6.out.cell (p := ⟨b', o' + 5, none⟩) bl').trans y2; clear hb6 hb6')
            | (go_at_call 39; refine (HIH.out u0 _ _ HD16.out HS0.out (HK0.out.kept HA0.out.drew)).mono ?_; rw [HQ0.out]; rintro e w5 ⟨rfl, hb5⟩; have hb5' : Below ((w.alloc (.cells #[.int .i64 2, .int .i64 0, .slice (some ⟨b', o', none⟩) 2 cap] 25))).heap.size (w.alloc (.cells #[.int .i64 2, .int .i64 0, .slice (some ⟨b', o', none⟩) 2 cap] 25)) w5 := (Below.refl ((w.alloc (.cells #[.int .i64 2, .int .i64 0, .slice (some ⟨b', o', none⟩) 2 cap] 25))).heap.size (w.alloc (.cells #[.int .i64 2, .int .i64 0, .slice (some ⟨b', o', none⟩) 2 cap] 25))).drew.trans hb5; have HB5 := Lib.hid (HA0.out.trans (hb5'.mono HA0.out.size)); have HT5 := Lib.hid (HB0.out.kept hb5'); obtain ⟨c2, cz⟩ := HT5.out; have z0 := (HB5.out.cell (p := ⟨b', o', none⟩) bl').trans x0; have z1 := (HB5.out.cell (p := ⟨b', o' + 1, none⟩) bl').trans x1; have z2 := (HB5.out.cell (p := ⟨b', o' + 2, none⟩) bl').trans x2; have z3 := (HB5.out.cell (p := ⟨b', o' + 3, none⟩) bl').trans y0; have z4 := (HB5.out.cell (p := ⟨b', o' + 4, none⟩) bl').trans y1; have z5 := (HB5.out.cell (p := ⟨b', o' + 5, none⟩) bl').trans y2; clear hb5 hb5'))
        all_goals go_wp2_with fail
        all_goals go_ret
        all_goals first | exact ⟨by rw [HT.out]; rfl, HB6.out⟩ | exact ⟨by rw [HT.out]; rfl, HB6.out.drew⟩
      · 
        have HT : Hid (txt (d + 1) t = ⟨#[40]⟩ ++ txt d (t.ks.getD 0 Ty.dummy) ++ ⟨#[42]⟩ ++ txt d (t.ks.getD 1 Ty.dummy) ++ ⟨#[41]⟩) := Lib.hid (txt_pair HK.out)
        have HS0 := Lib.hid (HKIDS.out 0 (by rw [HL.out]; omega))
        have HS1 := Lib.hid (HKIDS.out 1 (by rw [HL.out]; omega))
        have hz0 := txt_le (show d ≤ 16 by omega) HS0.out
        have hz1 := txt_le (show d ≤ 16 by omega) HS1.out
        obtain ⟨b, o, cap0, v0, ex, bl, x0, x1, x2, hk0⟩ := HX.out.kid 0 (by rw [HL.out]; omega)
        obtain ⟨b', o', cap1, v1, ex', bl', y0, y1, y2, hk1⟩ := HX.out.kid 1 (by rw [HL.out]; omega)
        have ea : a = some ⟨b, o, none⟩ := by injection ex
        have ea' : a = some ⟨b', o', none⟩ := by injection ex'
        have eb : b' = b ∧ o' = o := by rw [ea] at ea'; injection ea' with e; injection e with e1 e2; exact ⟨e1.symm, e2.symm⟩
        obtain ⟨rfl, rfl⟩ := eb
        subst ea
        obtain ⟨u0, hu0⟩ : ∃ x, t.ks.getD 0 Ty.dummy = x := ⟨_, rfl⟩
        obtain ⟨u1, hu1⟩ : ∃ x, t.ks.getD 1 Ty.dummy = x := ⟨_, rfl⟩
        rw [hu0] at x0 x1 hk0 HT HS0 hz0
        rw [hu1] at y0 y1 hk1 HT HS1 hz1
        obtain ⟨g0, j0, rfl, _⟩ := hk0.slice
        obtain ⟨g1, j1, rfl, _⟩ := hk1.slice
        have HK0 := Lib.hid hk0
        have HK1 := Lib.hid hk1
        obtain ⟨s0, hs0⟩ : ∃ s, txt d u0 = s := ⟨_, rfl⟩
        obtain ⟨s1, hs1⟩ : ∃ s, txt d u1 = s := ⟨_, rfl⟩
        have HQ0 := Lib.hid hs0
        have HQ1 := Lib.hid hs1
        rw [hs0, hs1] at HT
        rw [hs0] at hz0
        rw [hs1] at hz1
        subst hL2
        clear ex ex' ea' hu0 hu1 hk0 hk1 hs0 hs1
        simp only [Nat.zero_mul, Nat.add_zero, Nat.one_mul, Nat.add_assoc, Nat.reduceAdd] at x0 x1 x2 y0 y1 y2
        have HD16 : Hid (d ≤ 16) := Lib.hid (by omega)
        have k5 : 1 + s0.size ≤ 9223372036854775807 := by omega
        have k6 : 1 + s0.size + 1 ≤ 9223372036854775807 := by omega
        have k7 : 1 + s0.size + 1 + s1.size ≤ 9223372036854775807 := by omega
        have k8 : 1 + s0.size + 1 + s1.size + 1 ≤ 9223372036854775807 := by omega
        have E5 : ∀ W, (Op.stringOp .add ⟨#[40]⟩ s0).run Try.prog W = .ok (.string (⟨#[40]⟩ ++ s0)) W := fun W => run_string_add_sum _ _ _ (by show 1 + s0.size ≤ _; omega)
        have E6 : ∀ W, (Op.stringOp .add (⟨#[40]⟩ ++ s0) ⟨#[42]⟩).run Try.prog W = .ok (.string (⟨#[40]⟩ ++ s0 ++ ⟨#[42]⟩)) W := fun W => run_string_add_sum _ _ _ (by rw [ByteArray.size_append]; show 1 + s0.size + 1 ≤ _; omega)
        have E7 : ∀ W, (Op.stringOp .add (⟨#[40]⟩ ++ s0 ++ ⟨#[42]⟩) s1).run Try.prog W = .ok (.string (⟨#[40]⟩ ++ s0 ++ ⟨#[42]⟩ ++ s1)) W := fun W => run_string_add_sum _ _ _ (by rw [ByteArray.size_append, ByteArray.size_append]; show 1 + s0.size + 1 + s1.size ≤ _; omega)
        have E8 : ∀ W, (Op.stringOp .add (⟨#[40]⟩ ++ s0 ++ ⟨#[42]⟩ ++ s1) ⟨#[41]⟩).run Try.prog W = .ok (.string (⟨#[40]⟩ ++ s0 ++ ⟨#[42]⟩ ++ s1 ++ ⟨#[41]⟩)) W := fun W => run_string_add_sum _ _ _ (by rw [ByteArray.size_append, ByteArray.size_append, ByteArray.size_append]; show 1 + s0.size + 1 + s1.size + 1 ≤ _; omega)
        have HA0 : Hid (Below w.heap.size w (w.alloc (.cells #[.int .i64 3, .int .i64 0, .slice (some ⟨b', o', none⟩) 2 cap] 25))) := Lib.hid ((Below.refl _ _).alloc (Nat.le_refl _) _)
        have HB0 : Hid (TBox3 (w.alloc (.cells #[.int .i64 3, .int .i64 0, .slice (some ⟨b', o', none⟩) 2 cap] 25)) w.heap.size (.slice (some ⟨b', o', none⟩) 2 cap)) := Lib.hid (tbox3_new w _ _ _ _)
        go_enter Try.func39, Try.ntmps39
        go_wp2_with fail
        go_region_held3 (fun w' => w'.cell? ⟨w.heap.size, 2, none⟩ = some (.slice (some ⟨b', o', none⟩) 2 cap) ∧ w'.cell? ⟨b', o', none⟩ = some (.int .i64 u0.k) ∧ w'.cell? ⟨b', o' + 1, none⟩ = some (.int .i64 u0.n) ∧ w'.cell? ⟨b', o' + 2, none⟩ = some (.slice g0 u0.ks.length j0) ∧ w'.cell? ⟨b', o' + 3, none⟩ = some (.int .i64 u1.k) ∧ w'.cell? ⟨b', o' + 4, none⟩ = some (.int .i64 u1.n) ∧ w'.cell? ⟨b', o' + 5, none⟩ = some (.slice g1 u1.ks.length j1)) (go_keep)
          (first
            | (go_at_call 39; have hgd := HB5; clear hgd; refine (HIH.out u1 _ _ HD16.out HS1.out (HK1.out.kept (by first | exact HB5.out | exact HB5.out.drew))).mono ?_; rw [HQ1.out]; rintro e w6 ⟨rfl, hb6⟩; have hb6' : Below w5.heap.size w5 w6 := Below.trans (B := w5.heap.size) (by first | exact Below.refl _ _ | exact (Below.refl _ _).drew) hb6; have HB6 := Lib.hid (HB5.out.trans (hb6'.mono HB5.out.size)); have HT6 := Lib.hid (HT5.out.kept hb6'); obtain ⟨d2, dz⟩ := HT6.out; have t0 := (HB6.out.cell (p := ⟨b', o', none⟩) bl').trans x0; have t1 := (HB6.out.cell (p := ⟨b', o' + 1, none⟩) bl').trans x1; have t2 := (HB6.out.cell (p := ⟨b', o' + 2, none⟩) bl').trans x2; have t3 := (HB6.out.cell (p := ⟨b', o' + 3, none⟩) bl').trans y0; have t4 := (HB6.out.cell (p := ⟨b', o' + 4, none⟩) bl').trans y1; have t5 := (HB6.out.cell (p := ⟨b', o' + 5, none⟩) bl').trans y2; clear hb6 hb6')
            | (go_at_call 39; refine (HIH.out u0 _ _ HD16.out HS0.out (HK0.out.kept HA0.out.drew)).mono ?_; rw [HQ0.out]; rintro e w5 ⟨rfl, hb5⟩; have hb5' : Below ((w.alloc (.cells #[.int .i64 3, .int .i64 0, .slice (some ⟨b', o', none⟩) 2 cap] 25))).heap.size (w.alloc (.cells #[.int .i64 3, .int .i64 0, .slice (some ⟨b', o', none⟩) 2 cap] 25)) w5 := (Below.refl ((w.alloc (.cells #[.int .i64 3, .int .i64 0, .slice (some ⟨b', o', none⟩) 2 cap] 25))).heap.size (w.alloc (.cells #[.int .i64 3, .int .i64 0, .slice (some ⟨b', o', none⟩) 2 cap] 25))).drew.trans hb5; have HB5 := Lib.hid (HA0.out.trans (hb5'.mono HA0.out.size)); have HT5 := Lib.hid (HB0.out.kept hb5'); obtain ⟨c2, cz⟩ := HT5.out; have z0 := (HB5.out.cell (p := ⟨b', o', none⟩) bl').trans x0; have z1 := (HB5.out.cell (p := ⟨b', o' + 1, none⟩) bl').trans x1; have z2 := (HB5.out.cell (p := ⟨b', o' + 2, none⟩) bl').trans x2; have z3 := (HB5.out.cell (p := ⟨b', o' + 3, none⟩) bl').trans y0; have z4 := (HB5.out.cell (p := ⟨b', o' + 4, none⟩) bl').trans y1; have z5 := (HB5.out.cell (p := ⟨b', o' + 5, none⟩) bl').trans y2; clear hb5 hb5'))
        all_goals go_wp2_with fail
        all_goals go_ret
        all_goals first | exact ⟨by rw [HT.out]; rfl, HB6.out⟩ | exact ⟨by rw [HT.out]; rfl, HB6.out.drew⟩
    · have HT := Lib.hid (txt_var (d := d) HK.out)
      have HE := Lib.hid (enc_letter hn0 hn1)
      have HN2 := HN.out
      subst hL2
      go_enter Try.func39, Try.ntmps39
      go_wp2
      go_ret
      exact ⟨by rw [HT.out, HN2, ← HE.out]; rfl, (Below.refl _ _).alloc (Nat.le_refl _) _⟩

set_option maxRecDepth 100000 in
set_option maxHeartbeats 400000 in
theorem l2Letter_any (n : Int) (h0 : 0 ≤ n) (h1 : n ≤ 25) (w : World) : Calls Try.prog 76 #[.int .i64 n] w (TextIs ⟨#[UInt8.ofNat (97 + n.toNat)]⟩ w) := by
  obtain ⟨m, rfl⟩ : ∃ m : Nat, n = m := ⟨n.toNat, by omega⟩
  have hc0 : ((UInt8.ofNat (97 + ((m : Nat) : Int).toNat)).toNat : Int) = 97 + (m : Int) := by
    have : (UInt8.ofNat (97 + ((m : Nat) : Int).toNat)).toNat = 97 + m := by simp; omega
    rw [this]; push_cast; rfl
  obtain ⟨c, hcd⟩ : ∃ c, UInt8.ofNat (97 + ((m : Nat) : Int).toNat) = c := ⟨_, rfl⟩
  rw [hcd] at hc0 ⊢
  have HC := Lib.hid hc0
  clear hc0 hcd
  go_enter Try.func76, Try.ntmps76
  go_wp2_with fail
  have E : (convert 22 9 (.slice (some ⟨w.heap.size, 0, none⟩) 1 1)).run Try.prog (w.alloc (.cells #[.int .u8 (97 + (m : Int))] 5)) = .ok (.string ⟨#[c]⟩) (w.alloc (.cells #[.int .u8 (97 + (m : Int))] 5)) :=
    run_convert_bytes_back _ _ _ 5 _ _ [c] Try.underlying22 Try.underlying5 Try.underlying9 (fun i hi => by
      have hi0 : i = 0 := by simpa using hi
      subst hi0
      have := cell_one_new w (.int .u8 (97 + (m : Int))) 5
      rw [List.getElem_cons_zero, HC.out]
      exact this 0 _ rfl)
  rw [E]
  clear E
  go_wp2_with fail
  go_ret
  exact ⟨rfl, (Below.refl _ _).alloc (Nat.le_refl _) _⟩

set_option maxRecDepth 100000 in
set_option maxHeartbeats 4000000 in
theorem l2Text_any : ∀ (d : Nat) (t : Ty) (v : Value) (w : World), d ≤ 16 → shp d t = true → TyAt w t v →
    Calls Try.prog 41 #[.agg #[.int .i64 t.k, .int .i64 t.n, v]] w (TextIs (txt d t) w) := by
  intro d
  induction d with
  | zero => intro t v w _ hs _; cases hs
  | succ d ih =>
    intro t v w hd hs hx
    have HX := Lib.hid hx
    obtain ⟨a, cap, rfl, hlen⟩ := hx.slice
    obtain ⟨hf, hkids⟩ := shp_iff.1 hs
    have HKIDS := Lib.hid hkids
    obtain ⟨k, hk⟩ : ∃ k, t.k = k := ⟨_, rfl⟩
    obtain ⟨n, hn⟩ : ∃ n, t.n = n := ⟨_, rfl⟩
    obtain ⟨L, hL⟩ : ∃ L, t.ks.length = L := ⟨_, rfl⟩
    have HK := Lib.hid hk
    have HN := Lib.hid hn
    have HL := Lib.hid hL
    have HIH := Lib.hid ih
    rw [hk, hn, hL] at hf ⊢
    rw [hL] at hlen
    clear hx hk hn hL ih hkids hs
    have HF := fieldsB_iff.1 hf
    clear hf
    rcases HF with ⟨rfl, rfl, hL2⟩ | ⟨h1, rfl, hL2⟩ | ⟨rfl, hn0, hn1, hL2⟩
    · have HT := Lib.hid (txt_num (d := d) HK.out)
      go_enter Try.func41, Try.ntmps41
      go_wp2
      go_ret
      exact ⟨by rw [HT.out]; rfl, (Below.refl _ _).alloc (Nat.le_refl _) _⟩
    · rcases h1 with rfl | rfl
      · 
        have HT : Hid (txt (d + 1) t = ⟨#[40]⟩ ++ txt d (t.ks.getD 0 Ty.dummy) ++ ⟨#[62]⟩ ++ txt d (t.ks.getD 1 Ty.dummy) ++ ⟨#[41]⟩) := Lib.hid (txt_fun HK.out)
        have HS0 := Lib.hid (HKIDS.out 0 (by rw [HL.out]; omega))
        have HS1 := Lib.hid (HKIDS.out 1 (by rw [HL.out]; omega))
        have hz0 := txt_le (show d ≤ 16 by omega) HS0.out
        have hz1 := txt_le (show d ≤ 16 by omega) HS1.out
        obtain ⟨b, o, cap0, v0, ex, bl, x0, x1, x2, hk0⟩ := HX.out.kid 0 (by rw [HL.out]; omega)
        obtain ⟨b', o', cap1, v1, ex', bl', y0, y1, y2, hk1⟩ := HX.out.kid 1 (by rw [HL.out]; omega)
        have ea : a = some ⟨b, o, none⟩ := by injection ex
        have ea' : a = some ⟨b', o', none⟩ := by injection ex'
        have eb : b' = b ∧ o' = o := by rw [ea] at ea'; injection ea' with e; injection e with e1 e2; exact ⟨e1.symm, e2.symm⟩
        obtain ⟨rfl, rfl⟩ := eb
        subst ea
        obtain ⟨u0, hu0⟩ : ∃ x, t.ks.getD 0 Ty.dummy = x := ⟨_, rfl⟩
        obtain ⟨u1, hu1⟩ : ∃ x, t.ks.getD 1 Ty.dummy = x := ⟨_, rfl⟩
        rw [hu0] at x0 x1 hk0 HT HS0 hz0
        rw [hu1] at y0 y1 hk1 HT HS1 hz1
        obtain ⟨g0, j0, rfl, _⟩ := hk0.slice
        obtain ⟨g1, j1, rfl, _⟩ := hk1.slice
        have HK0 := Lib.hid hk0
        have HK1 := Lib.hid hk1
        obtain ⟨s0, hs0⟩ : ∃ s, txt d u0 = s := ⟨_, rfl⟩
        obtain ⟨s1, hs1⟩ : ∃ s, txt d u1 = s := ⟨_, rfl⟩
        have HQ0 := Lib.hid hs0
        have HQ1 := Lib.hid hs1
        rw [hs0, hs1] at HT
        rw [hs0] at hz0
        rw [hs1] at hz1
        subst hL2
        clear ex ex' ea' hu0 hu1 hk0 hk1 hs0 hs1
        simp only [Nat.zero_mul, Nat.add_zero, Nat.one_mul, Nat.add_assoc, Nat.reduceAdd] at x0 x1 x2 y0 y1 y2
        have HD16 : Hid (d ≤ 16) := Lib.hid (by omega)
        have k5 : 1 + s0.size ≤ 9223372036854775807 := by omega
        have k6 : 1 + s0.size + 1 ≤ 9223372036854775807 := by omega
        have k7 : 1 + s0.size + 1 + s1.size ≤ 9223372036854775807 := by omega
        have k8 : 1 + s0.size + 1 + s1.size + 1 ≤ 9223372036854775807 := by omega
        have E5 : ∀ W, (Op.stringOp .add ⟨#[40]⟩ s0).run Try.prog W = .ok (.string (⟨#[40]⟩ ++ s0)) W := fun W => run_string_add_sum _ _ _ (by show 1 + s0.size ≤ _; omega)
        have E6 : ∀ W, (Op.stringOp .add (⟨#[40]⟩ ++ s0) ⟨#[62]⟩).run Try.prog W = .ok (.string (⟨#[40]⟩ ++ s0 ++ ⟨#[62]⟩)) W := fun W => run_string_add_sum _ _ _ (by rw [ByteArray.size_append]; show 1 + s0.size + 1 ≤ _; omega)
        have E7 : ∀ W, (Op.stringOp .add (⟨#[40]⟩ ++ s0 ++ ⟨#[62]⟩) s1).run Try.prog W = .ok (.string (⟨#[40]⟩ ++ s0 ++ ⟨#[62]⟩ ++ s1)) W := fun W => run_string_add_sum _ _ _ (by rw [ByteArray.size_append, ByteArray.size_append]; show 1 + s0.size + 1 + s1.size ≤ _; omega)
        have E8 : ∀ W, (Op.stringOp .add (⟨#[40]⟩ ++ s0 ++ ⟨#[62]⟩ ++ s1) ⟨#[41]⟩).run Try.prog W = .ok (.string (⟨#[40]⟩ ++ s0 ++ ⟨#[62]⟩ ++ s1 ++ ⟨#[41]⟩)) W := fun W => run_string_add_sum _ _ _ (by rw [ByteArray.size_append, ByteArray.size_append, ByteArray.size_append]; show 1 + s0.size + 1 + s1.size + 1 ≤ _; omega)
        have HA0 : Hid (Below w.heap.size w (w.alloc (.cells #[.int .i64 2, .int .i64 0, .slice (some ⟨b', o', none⟩) 2 cap] 25))) := Lib.hid ((Below.refl _ _).alloc (Nat.le_refl _) _)
        have HB0 : Hid (TBox3 (w.alloc (.cells #[.int .i64 2, .int .i64 0, .slice (some ⟨b', o', none⟩) 2 cap] 25)) w.heap.size (.slice (some ⟨b', o', none⟩) 2 cap)) := Lib.hid (tbox3_new w _ _ _ _)
        go_enter Try.func41, Try.ntmps41
        go_wp2_with fail
        go_region_held3 (fun w' => w'.cell? ⟨w.heap.size, 2, none⟩ = some (.slice (some ⟨b', o', none⟩) 2 cap) ∧ w'.cell? ⟨b', o', none⟩ = some (.int .i64 u0.k) ∧ w'.cell? ⟨b', o' + 1, none⟩ = some (.int .i64 u0.n) ∧ w'.cell? ⟨b', o' + 2, none⟩ = some (.slice g0 u0.ks.length j0) ∧ w'.cell? ⟨b', o' + 3, none⟩ = some (.int .i64 u1.k) ∧ w'.cell? ⟨b', o' + 4, none⟩ = some (.int .i64 u1.n) ∧ w'.cell? ⟨b', o' + 5, none⟩ = some (.slice g1 u1.ks.length j1)) (go_keep)
          (first
            | (go_at_call 41; have hgd := HB5; clear hgd; refine (HIH.out u1 _ _ HD16.out HS1.out (HK1.out.kept (by first | exact HB5.out | exact HB5.out.drew))).mono ?_; rw [HQ1.out]; rintro e w6 ⟨rfl, hb6⟩; have hb6' : Below w5.heap.size w5 w6 := Below.trans (B := w5.heap.size) (by first | exact Below.refl _ _ | exact (Below.refl _ _).drew) hb6; have HB6 := Lib.hid (HB5.out.trans (hb6'.mono HB5.out.size)); have HT6 := Lib.hid (HT5.out.kept hb6'); obtain ⟨d2, dz⟩ := HT6.out; have t0 := (HB6.out.cell (p := ⟨b', o', none⟩) bl').trans x0; have t1 := (HB6.out.cell (p := ⟨b', o' + 1, none⟩) bl').trans x1; have t2 := (HB6.out.cell (p := ⟨b', o' + 2, none⟩) bl').trans x2; have t3 := (HB6.out.cell (p := ⟨b', o' + 3, none⟩) bl').trans y0; have t4 := (HB6.out.cell (p := ⟨b', o' + 4, none⟩) bl').trans y1; have t5 := (HB6.out.cell (p := ⟨b', o' + 5, none⟩) bl').trans y2; clear hb6 hb6')
            | (go_at_call 41; refine (HIH.out u0 _ _ HD16.out HS0.out (HK0.out.kept HA0.out.drew)).mono ?_; rw [HQ0.out]; rintro e w5 ⟨rfl, hb5⟩; have hb5' : Below ((w.alloc (.cells #[.int .i64 2, .int .i64 0, .slice (some ⟨b', o', none⟩) 2 cap] 25))).heap.size (w.alloc (.cells #[.int .i64 2, .int .i64 0, .slice (some ⟨b', o', none⟩) 2 cap] 25)) w5 := (Below.refl ((w.alloc (.cells #[.int .i64 2, .int .i64 0, .slice (some ⟨b', o', none⟩) 2 cap] 25))).heap.size (w.alloc (.cells #[.int .i64 2, .int .i64 0, .slice (some ⟨b', o', none⟩) 2 cap] 25))).drew.trans hb5; have HB5 := Lib.hid (HA0.out.trans (hb5'.mono HA0.out.size)); have HT5 := Lib.hid (HB0.out.kept hb5'); obtain ⟨c2, cz⟩ := HT5.out; have z0 := (HB5.out.cell (p := ⟨b', o', none⟩) bl').trans x0; have z1 := (HB5.out.cell (p := ⟨b', o' + 1, none⟩) bl').trans x1; have z2 := (HB5.out.cell (p := ⟨b', o' + 2, none⟩) bl').trans x2; have z3 := (HB5.out.cell (p := ⟨b', o' + 3, none⟩) bl').trans y0; have z4 := (HB5.out.cell (p := ⟨b', o' + 4, none⟩) bl').trans y1; have z5 := (HB5.out.cell (p := ⟨b', o' + 5, none⟩) bl').trans y2; clear hb5 hb5'))
        all_goals go_wp2_with fail
        all_goals go_ret
        all_goals first | exact ⟨by rw [HT.out]; rfl, HB6.out⟩ | exact ⟨by rw [HT.out]; rfl, HB6.out.drew⟩
      · 
        have HT : Hid (txt (d + 1) t = ⟨#[40]⟩ ++ txt d (t.ks.getD 0 Ty.dummy) ++ ⟨#[42]⟩ ++ txt d (t.ks.getD 1 Ty.dummy) ++ ⟨#[41]⟩) := Lib.hid (txt_pair HK.out)
        have HS0 := Lib.hid (HKIDS.out 0 (by rw [HL.out]; omega))
        have HS1 := Lib.hid (HKIDS.out 1 (by rw [HL.out]; omega))
        have hz0 := txt_le (show d ≤ 16 by omega) HS0.out
        have hz1 := txt_le (show d ≤ 16 by omega) HS1.out
        obtain ⟨b, o, cap0, v0, ex, bl, x0, x1, x2, hk0⟩ := HX.out.kid 0 (by rw [HL.out]; omega)
        obtain ⟨b', o', cap1, v1, ex', bl', y0, y1, y2, hk1⟩ := HX.out.kid 1 (by rw [HL.out]; omega)
        have ea : a = some ⟨b, o, none⟩ := by injection ex
        have ea' : a = some ⟨b', o', none⟩ := by injection ex'
        have eb : b' = b ∧ o' = o := by rw [ea] at ea'; injection ea' with e; injection e with e1 e2; exact ⟨e1.symm, e2.symm⟩
        obtain ⟨rfl, rfl⟩ := eb
        subst ea
        obtain ⟨u0, hu0⟩ : ∃ x, t.ks.getD 0 Ty.dummy = x := ⟨_, rfl⟩
        obtain ⟨u1, hu1⟩ : ∃ x, t.ks.getD 1 Ty.dummy = x := ⟨_, rfl⟩
        rw [hu0] at x0 x1 hk0 HT HS0 hz0
        rw [hu1] at y0 y1 hk1 HT HS1 hz1
        obtain ⟨g0, j0, rfl, _⟩ := hk0.slice
        obtain ⟨g1, j1, rfl, _⟩ := hk1.slice
        have HK0 := Lib.hid hk0
        have HK1 := Lib.hid hk1
        obtain ⟨s0, hs0⟩ : ∃ s, txt d u0 = s := ⟨_, rfl⟩
        obtain ⟨s1, hs1⟩ : ∃ s, txt d u1 = s := ⟨_, rfl⟩
        have HQ0 := Lib.hid hs0
        have HQ1 := Lib.hid hs1
        rw [hs0, hs1] at HT
        rw [hs0] at hz0
        rw [hs1] at hz1
        subst hL2
        clear ex ex' ea' hu0 hu1 hk0 hk1 hs0 hs1
        simp only [Nat.zero_mul, Nat.add_zero, Nat.one_mul, Nat.add_assoc, Nat.reduceAdd] at x0 x1 x2 y0 y1 y2
        have HD16 : Hid (d ≤ 16) := Lib.hid (by omega)
        have k5 : 1 + s0.size ≤ 9223372036854775807 := by omega
        have k6 : 1 + s0.size + 1 ≤ 9223372036854775807 := by omega
        have k7 : 1 + s0.size + 1 + s1.size ≤ 9223372036854775807 := by omega
        have k8 : 1 + s0.size + 1 + s1.size + 1 ≤ 9223372036854775807 := by omega
        have E5 : ∀ W, (Op.stringOp .add ⟨#[40]⟩ s0).run Try.prog W = .ok (.string (⟨#[40]⟩ ++ s0)) W := fun W => run_string_add_sum _ _ _ (by show 1 + s0.size ≤ _; omega)
        have E6 : ∀ W, (Op.stringOp .add (⟨#[40]⟩ ++ s0) ⟨#[42]⟩).run Try.prog W = .ok (.string (⟨#[40]⟩ ++ s0 ++ ⟨#[42]⟩)) W := fun W => run_string_add_sum _ _ _ (by rw [ByteArray.size_append]; show 1 + s0.size + 1 ≤ _; omega)
        have E7 : ∀ W, (Op.stringOp .add (⟨#[40]⟩ ++ s0 ++ ⟨#[42]⟩) s1).run Try.prog W = .ok (.string (⟨#[40]⟩ ++ s0 ++ ⟨#[42]⟩ ++ s1)) W := fun W => run_string_add_sum _ _ _ (by rw [ByteArray.size_append, ByteArray.size_append]; show 1 + s0.size + 1 + s1.size ≤ _; omega)
        have E8 : ∀ W, (Op.stringOp .add (⟨#[40]⟩ ++ s0 ++ ⟨#[42]⟩ ++ s1) ⟨#[41]⟩).run Try.prog W = .ok (.string (⟨#[40]⟩ ++ s0 ++ ⟨#[42]⟩ ++ s1 ++ ⟨#[41]⟩)) W := fun W => run_string_add_sum _ _ _ (by rw [ByteArray.size_append, ByteArray.size_append, ByteArray.size_append]; show 1 + s0.size + 1 + s1.size + 1 ≤ _; omega)
        have HA0 : Hid (Below w.heap.size w (w.alloc (.cells #[.int .i64 3, .int .i64 0, .slice (some ⟨b', o', none⟩) 2 cap] 25))) := Lib.hid ((Below.refl _ _).alloc (Nat.le_refl _) _)
        have HB0 : Hid (TBox3 (w.alloc (.cells #[.int .i64 3, .int .i64 0, .slice (some ⟨b', o', none⟩) 2 cap] 25)) w.heap.size (.slice (some ⟨b', o', none⟩) 2 cap)) := Lib.hid (tbox3_new w _ _ _ _)
        go_enter Try.func41, Try.ntmps41
        go_wp2_with fail
        go_region_held3 (fun w' => w'.cell? ⟨w.heap.size, 2, none⟩ = some (.slice (some ⟨b', o', none⟩) 2 cap) ∧ w'.cell? ⟨b', o', none⟩ = some (.int .i64 u0.k) ∧ w'.cell? ⟨b', o' + 1, none⟩ = some (.int .i64 u0.n) ∧ w'.cell? ⟨b', o' + 2, none⟩ = some (.slice g0 u0.ks.length j0) ∧ w'.cell? ⟨b', o' + 3, none⟩ = some (.int .i64 u1.k) ∧ w'.cell? ⟨b', o' + 4, none⟩ = some (.int .i64 u1.n) ∧ w'.cell? ⟨b', o' + 5, none⟩ = some (.slice g1 u1.ks.length j1)) (go_keep)
          (first
            | (go_at_call 41; have hgd := HB5; clear hgd; refine (HIH.out u1 _ _ HD16.out HS1.out (HK1.out.kept (by first | exact HB5.out | exact HB5.out.drew))).mono ?_; rw [HQ1.out]; rintro e w6 ⟨rfl, hb6⟩; have hb6' : Below w5.heap.size w5 w6 := Below.trans (B := w5.heap.size) (by first | exact Below.refl _ _ | exact (Below.refl _ _).drew) hb6; have HB6 := Lib.hid (HB5.out.trans (hb6'.mono HB5.out.size)); have HT6 := Lib.hid (HT5.out.kept hb6'); obtain ⟨d2, dz⟩ := HT6.out; have t0 := (HB6.out.cell (p := ⟨b', o', none⟩) bl').trans x0; have t1 := (HB6.out.cell (p := ⟨b', o' + 1, none⟩) bl').trans x1; have t2 := (HB6.out.cell (p := ⟨b', o' + 2, none⟩) bl').trans x2; have t3 := (HB6.out.cell (p := ⟨b', o' + 3, none⟩) bl').trans y0; have t4 := (HB6.out.cell (p := ⟨b', o' + 4, none⟩) bl').trans y1; have t5 := (HB6.out.cell (p := ⟨b', o' + 5, none⟩) bl').trans y2; clear hb6 hb6')
            | (go_at_call 41; refine (HIH.out u0 _ _ HD16.out HS0.out (HK0.out.kept HA0.out.drew)).mono ?_; rw [HQ0.out]; rintro e w5 ⟨rfl, hb5⟩; have hb5' : Below ((w.alloc (.cells #[.int .i64 3, .int .i64 0, .slice (some ⟨b', o', none⟩) 2 cap] 25))).heap.size (w.alloc (.cells #[.int .i64 3, .int .i64 0, .slice (some ⟨b', o', none⟩) 2 cap] 25)) w5 := (Below.refl ((w.alloc (.cells #[.int .i64 3, .int .i64 0, .slice (some ⟨b', o', none⟩) 2 cap] 25))).heap.size (w.alloc (.cells #[.int .i64 3, .int .i64 0, .slice (some ⟨b', o', none⟩) 2 cap] 25))).drew.trans hb5; have HB5 := Lib.hid (HA0.out.trans (hb5'.mono HA0.out.size)); have HT5 := Lib.hid (HB0.out.kept hb5'); obtain ⟨c2, cz⟩ := HT5.out; have z0 := (HB5.out.cell (p := ⟨b', o', none⟩) bl').trans x0; have z1 := (HB5.out.cell (p := ⟨b', o' + 1, none⟩) bl').trans x1; have z2 := (HB5.out.cell (p := ⟨b', o' + 2, none⟩) bl').trans x2; have z3 := (HB5.out.cell (p := ⟨b', o' + 3, none⟩) bl').trans y0; have z4 := (HB5.out.cell (p := ⟨b', o' + 4, none⟩) bl').trans y1; have z5 := (HB5.out.cell (p := ⟨b', o' + 5, none⟩) bl').trans y2; clear hb5 hb5'))
        all_goals go_wp2_with fail
        all_goals go_ret
        all_goals first | exact ⟨by rw [HT.out]; rfl, HB6.out⟩ | exact ⟨by rw [HT.out]; rfl, HB6.out.drew⟩
    · have HT := Lib.hid (txt_var (d := d) HK.out)
      have HN2 := HN.out
      have HLE := Lib.hid (fun W => l2Letter_any n hn0 hn1 W)
      obtain ⟨c, hc⟩ : ∃ c, UInt8.ofNat (97 + n.toNat) = c := ⟨_, rfl⟩
      rw [HN2, hc] at HT
      rw [hc] at HLE
      clear hc HN2
      subst hL2
      go_enter Try.func41, Try.ntmps41
      go_wp2_with (go_at_call 76; refine (HLE.out _).mono ?_; rintro e w1 ⟨rfl, hb1⟩)
      go_ret
      exact ⟨by rw [HT.out]; rfl, ((Below.refl _ _).alloc (Nat.le_refl _) _).trans (hb1.mono (by simp))⟩

end Go.Proofs.Ytndpoejohpmifaa

namespace Go.Proofs.Ytndpoejohpmifaa
open Go.RowKit

theorem tvT_shp {t : Ty} (h : tvT t = true) : shp 16 t = true := by
  rcases hs : shp 16 t with _ | _
  · rw [tvT_no hs] at h; cases h
  · rfl
/-- The text that FormatType returns. -/
def fmtT (t : Ty) : ByteArray := if tvT t = true then txt 16 t else ⟨#[]⟩
theorem fmtT_no {t : Ty} (h : tvT t = false) : fmtT t = ⟨#[]⟩ := by unfold fmtT; rw [if_neg (by rw [h]; decide)]
theorem fmtT_yes {t : Ty} (h : tvT t = true) : fmtT t = txt 16 t := by unfold fmtT; rw [if_pos h]

theorem typeText_val {t : Ty} {s : ByteArray} (hs : shp 16 t = true) (ht : txt 16 t = s) (v : Value) (w : World) (hx : TyAt w t v) :
    Calls Try.prog 39 #[.agg #[.int .i64 t.k, .int .i64 t.n, v]] w (TextIs s w) := by
  subst ht; exact typeText_any 16 t v w (by omega) hs hx
theorem typeValid_impl_val {t : Ty} {b : Bool} (hb : tvT t = b) (v : Value) (w : World) (hx : TyAt w t v) :
    Calls Try.prog 15 #[.agg #[.int .i64 t.k, .int .i64 t.n, v]] w fun e w' => e = .returned (.bool b) ∧ Below w.heap.size w w' := by
  subst hb; exact typeValid_impl t v w hx
set_option maxRecDepth 100000 in
set_option maxHeartbeats 1000000 in
theorem formatType_impl_val {t : Ty} {s : ByteArray} (ht : fmtT t = s) (v : Value) (w : World) (hx : TyAt w t v) :
    Calls Try.prog 12 #[.agg #[.int .i64 t.k, .int .i64 t.n, v]] w fun e w' => e = .returned (.string s) ∧ Below w.heap.size w w' := by
  obtain ⟨a, cap, rfl, hlen⟩ := hx.slice
  have HX := Lib.hid hx
  clear hx
  have HP0 := Lib.hid (tbox_new w (.int .i64 t.k) (.int .i64 t.n) (.slice a t.ks.length cap) 25)
  have HA0 : Hid (Below w.heap.size w (w.alloc (.cells #[.int .i64 t.k, .int .i64 t.n, .slice a t.ks.length cap] 25))) := Lib.hid ((Below.refl _ _).alloc (Nat.le_refl _) _)
  rcases hv : tvT t with _ | _
  · have HV := Lib.hid hv
    have HS : Hid (s = ⟨#[]⟩) := Lib.hid (by rw [← ht, fmtT_no hv])
    clear hv ht
    go_enter Try.func12, Try.ntmps12
    go_wp2_with fail
    go_at_call 15
    refine (typeValid_impl_val HV.out _ _ (HX.out.kept HA0.out)).mono ?_
    rintro e w1 ⟨rfl, hb1⟩
    have H1 := Lib.hid (HA0.out.trans (hb1.mono HA0.out.size))
    clear hb1
    go_wp2_with fail
    go_ret
    exact ⟨by rw [HS.out]; rfl, H1.out⟩
  · have HV := Lib.hid hv
    have HS : Hid (txt 16 t = s) := Lib.hid (by rw [← ht, fmtT_yes hv])
    have HSH := Lib.hid (tvT_shp hv)
    clear hv ht
    go_enter Try.func12, Try.ntmps12
    go_wp2_with fail
    go_at_call 15
    refine (typeValid_impl_val HV.out _ _ (HX.out.kept HA0.out)).mono ?_
    rintro e w1 ⟨rfl, hb1⟩
    have HP1 := Lib.hid (HP0.out.kept hb1)
    have H1 := Lib.hid (HA0.out.trans (hb1.mono HA0.out.size))
    clear hb1
    obtain ⟨p0, p1, p2, pz⟩ := HP1.out
    go_wp2_with fail
    go_at_call 39
    refine (typeText_val HSH.out HS.out _ _ (HX.out.kept H1.out)).mono ?_
    rintro e w2 ⟨rfl, hb2⟩
    have H2 := Lib.hid (H1.out.trans (hb2.mono H1.out.size))
    clear hb2
    go_wp2_with fail
    go_ret
    exact ⟨rfl, H2.out⟩
theorem formatType_impl (t : Ty) (v : Value) (w : World) (hx : TyAt w t v) :
    Calls Try.prog 12 #[.agg #[.int .i64 t.k, .int .i64 t.n, v]] w fun e w' => e = .returned (.string (fmtT t)) ∧ Below w.heap.size w w' := formatType_impl_val rfl v w hx

theorem l2Text_val {t : Ty} {s : ByteArray} (hs : shp 16 t = true) (ht : txt 16 t = s) (v : Value) (w : World) (hx : TyAt w t v) :
    Calls Try.prog 41 #[.agg #[.int .i64 t.k, .int .i64 t.n, v]] w (TextIs s w) := by
  subst ht; exact l2Text_any 16 t v w (by omega) hs hx
theorem typeValid_spec_val {t : Ty} {b : Bool} (hb : tvT t = b) (v : Value) (w : World) (hx : TyAt w t v) :
    Calls Try.prog 16 #[.agg #[.int .i64 t.k, .int .i64 t.n, v]] w fun e w' => e = .returned (.bool b) ∧ Below w.heap.size w w' := by
  subst hb; exact typeValid_spec t v w hx
set_option maxRecDepth 100000 in
set_option maxHeartbeats 1000000 in
theorem formatType_spec_val {t : Ty} {s : ByteArray} (ht : fmtT t = s) (v : Value) (w : World) (hx : TyAt w t v) :
    Calls Try.prog 14 #[.agg #[.int .i64 t.k, .int .i64 t.n, v]] w fun e w' => e = .returned (.string s) ∧ Below w.heap.size w w' := by
  obtain ⟨a, cap, rfl, hlen⟩ := hx.slice
  have HX := Lib.hid hx
  clear hx
  have HP0 := Lib.hid (tbox_new w (.int .i64 t.k) (.int .i64 t.n) (.slice a t.ks.length cap) 25)
  have HA0 : Hid (Below w.heap.size w (w.alloc (.cells #[.int .i64 t.k, .int .i64 t.n, .slice a t.ks.length cap] 25))) := Lib.hid ((Below.refl _ _).alloc (Nat.le_refl _) _)
  rcases hv : tvT t with _ | _
  · have HV := Lib.hid hv
    have HS : Hid (s = ⟨#[]⟩) := Lib.hid (by rw [← ht, fmtT_no hv])
    clear hv ht
    go_enter Try.func14, Try.ntmps14
    go_wp2_with fail
    go_at_call 16
    refine (typeValid_spec_val HV.out _ _ (HX.out.kept HA0.out)).mono ?_
    rintro e w1 ⟨rfl, hb1⟩
    have H1 := Lib.hid (HA0.out.trans (hb1.mono HA0.out.size))
    clear hb1
    go_wp2_with fail
    go_ret
    exact ⟨by rw [HS.out]; rfl, H1.out⟩
  · have HV := Lib.hid hv
    have HS : Hid (txt 16 t = s) := Lib.hid (by rw [← ht, fmtT_yes hv])
    have HSH := Lib.hid (tvT_shp hv)
    clear hv ht
    go_enter Try.func14, Try.ntmps14
    go_wp2_with fail
    go_at_call 16
    refine (typeValid_spec_val HV.out _ _ (HX.out.kept HA0.out)).mono ?_
    rintro e w1 ⟨rfl, hb1⟩
    have HP1 := Lib.hid (HP0.out.kept hb1)
    have H1 := Lib.hid (HA0.out.trans (hb1.mono HA0.out.size))
    clear hb1
    obtain ⟨p0, p1, p2, pz⟩ := HP1.out
    go_wp2_with fail
    go_at_call 41
    refine (l2Text_val HSH.out HS.out _ _ (HX.out.kept H1.out)).mono ?_
    rintro e w2 ⟨rfl, hb2⟩
    have H2 := Lib.hid (H1.out.trans (hb2.mono H1.out.size))
    clear hb2
    go_wp2_with fail
    go_ret
    exact ⟨rfl, H2.out⟩
theorem formatType_spec (t : Ty) (v : Value) (w : World) (hx : TyAt w t v) :
    Calls Try.prog 14 #[.agg #[.int .i64 t.k, .int .i64 t.n, v]] w fun e w' => e = .returned (.string (fmtT t)) ∧ Below w.heap.size w w' := formatType_spec_val rfl v w hx

end Go.Proofs.Ytndpoejohpmifaa

