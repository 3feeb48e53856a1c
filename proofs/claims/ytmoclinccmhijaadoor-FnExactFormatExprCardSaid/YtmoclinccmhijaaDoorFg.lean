/-
  The text of an expression, of the model: for every expression in memory, its text; what was in memory stays.
-/
import Derived.Test.YtmoclinccmhijaaDoorFb
import Derived.Test.YtmoclinccmhijaaDoorEh
namespace Go.Proofs.YtmoclinccmhijaaDoor.Ox
open Go.Proofs.YtmoclinccmhijaaDoor
open Go.RowKit
set_option linter.unusedVariables false
set_option linter.unusedSimpArgs false

theorem frm_nil {f : Ex → ByteArray} {s : ByteArray} {ks : List Ex} : frmX f s [] ks = ⟨#[]⟩ := by rw [frmX]
theorem frm_x {f : Ex → ByteArray} {s : ByteArray} {bs : List UInt8} {ks : List Ex} : frmX f s (120 :: bs) ks = s ++ frmX f s bs ks := by rw [frmX, if_pos rfl]
theorem frm_E {f : Ex → ByteArray} {s : ByteArray} {bs : List UInt8} {ks : List Ex} : frmX f s (69 :: bs) ks = f (ks.headD Ex.dummy) ++ frmX f s bs ks.tail := by rw [frmX, if_neg (by decide), if_pos rfl]
theorem frm_c {f : Ex → ByteArray} {s : ByteArray} {c : UInt8} {bs : List UInt8} {ks : List Ex} (h1 : c ≠ 120) (h2 : c ≠ 69) : frmX f s (c :: bs) ks = ⟨#[c]⟩ ++ frmX f s bs ks := by rw [frmX, if_neg h1, if_neg h2]
theorem len_one {l : List Ex} (h : l.length = 1) : ∃ a, l = [a] := by
  match l, h with
  | [a], _ => exact ⟨a, rfl⟩
theorem len_two {l : List Ex} (h : l.length = 2) : ∃ a b, l = [a, b] := by
  match l, h with
  | [a, b], _ => exact ⟨a, b, rfl⟩
theorem len_three {l : List Ex} (h : l.length = 3) : ∃ a b c, l = [a, b, c] := by
  match l, h with
  | [a, b, c], _ => exact ⟨a, b, c, rfl⟩
theorem nd_kid (d : Nat) (x : Ex) (i : Nat) (hi : i < x.ks.length) : ndX d (x.ks.getD i Ex.dummy) < ndX (d + 1) x := by
  have h1 := ndkX_mono d x (show i + 1 ≤ x.ks.length from hi)
  rw [ndkX_succ] at h1
  rw [ndX_succ]
  omega
/-- What FormatExpr answers. -/
def fmtB (x : Ex) : ByteArray := if okX 12 x = true then txE 12 x else ⟨#[]⟩
/-- l3Text down to a depth. -/
def LtT (d : Nat) : Prop := ∀ (x : Ex) (v : Value) (w : World), shpX d x = true → ndX d x ≤ 60 → ExAt w x v → Calls Tryd.prog 24 #[.agg #[.int .i64 x.k, .int .i64 x.n, .string x.m, .string x.s, v]] w (TextIsX (txE d x) w)

set_option maxRecDepth 100000 in
set_option maxHeartbeats 8000000 in
theorem l3Text_3 (d : Nat) (HIH : Hid (LtT d)) (n : Int) (m s : ByteArray) (hs1 : s.size ≤ 1) (u0 : Ex) (a : Option Addr) (cap : Nat)
    (HKID : Hid (∀ u ∈ [u0], shpX d u = true ∧ ndX d u ≤ 60)) (w : World) (hx : ExAt w (.node 3 n m s [u0]) (.slice a 1 cap)) :
    Calls Tryd.prog 24 #[.agg #[.int .i64 3, .int .i64 n, .string m, .string s, .slice a 1 cap]] w (TextIsX (frmX (txE d) s (formX 3).data.toList [u0]) w) := by
  have HX := Lib.hid hx
  clear hx
  obtain ⟨b0, o0, cap0, v0, ex0, bl0, ⟨y00, y01, y02, y03, y04⟩, hk0⟩ := HX.out.kid 0 (by show 0 < 1; omega)
  obtain rfl : a = some ⟨b0, o0, none⟩ := by injection ex0
  obtain ⟨g0, j0, rfl, _⟩ := hk0.slice
  have HS0 := Lib.hid (HKID.out u0 (by simp)).1
  have HN0 := Lib.hid (HKID.out u0 (by simp)).2
  have z0 : (txE d u0).size ≤ 480 := Nat.le_trans (tx_size d _ HS0.out) (by have := HN0.out; omega)
  obtain ⟨t0, ht0⟩ : ∃ t, txE d u0 = t := ⟨_, rfl⟩
  rw [ht0] at z0
  have HQ0 := Lib.hid ht0
  have HK0 : Hid (ExAt w u0 _) := Lib.hid hk0
  have x00 : w.cell? ⟨b0, o0, none⟩ = some (.int .i64 u0.k) := y00
  have x01 : w.cell? ⟨b0, o0 + 1, none⟩ = some (.int .i64 u0.n) := y01
  have x02 : w.cell? ⟨b0, o0 + 2, none⟩ = some (.string u0.m) := y02
  have x03 : w.cell? ⟨b0, o0 + 3, none⟩ = some (.string u0.s) := y03
  have x04 : w.cell? ⟨b0, o0 + 4, none⟩ = some (.slice g0 u0.ks.length j0) := y04
  have HT : Hid (frmX (txE d) s (formX 3).data.toList [u0] = ⟨#[92]⟩ ++ s ++ ⟨#[46]⟩ ++ t0) := Lib.hid (by
    have ef : (formX 3).data.toList = [92, 120, 46, 69] := by decide
    rw [ef, frm_c (by decide) (by decide), frm_x, frm_c (by decide) (by decide), frm_E]
    simp only [List.headD_cons, List.tail_cons, frm_nil, app_nil, ByteArray.append_assoc, HQ0.out])
  have E0 : ∀ W, (Op.stringOp .add (⟨#[92]⟩) (s)).run Tryd.prog W = .ok (.string (⟨#[92]⟩ ++ s)) W := fun W => run_string_add_sum _ _ _ (by (try simp only [ByteArray.size_append]); show 1 + s.size ≤ _; omega)
  have E1 : ∀ W, (Op.stringOp .add (⟨#[92]⟩ ++ s) (⟨#[46]⟩)).run Tryd.prog W = .ok (.string (⟨#[92]⟩ ++ s ++ ⟨#[46]⟩)) W := fun W => run_string_add_sum _ _ _ (by (try simp only [ByteArray.size_append]); show 1 + s.size + 1 ≤ _; omega)
  have E2 : ∀ W, (Op.stringOp .add (⟨#[92]⟩ ++ s ++ ⟨#[46]⟩) (t0)).run Tryd.prog W = .ok (.string (⟨#[92]⟩ ++ s ++ ⟨#[46]⟩ ++ t0)) W := fun W => run_string_add_sum _ _ _ (by (try simp only [ByteArray.size_append]); show 1 + s.size + 1 + t0.size ≤ _; omega)
  clear ht0 hk0 ex0 z0 y00 y01 y02 y03 y04
  clear hs1
  obtain ⟨S, hS⟩ : ∃ S, w.heap.size = S := ⟨_, rfl⟩
  obtain ⟨W1, hW1⟩ : ∃ W, w.alloc (.cells #[.int .i64 3, .int .i64 n, .string m, .string s, .slice (some ⟨b0, o0, none⟩) 1 cap] 29) = W := ⟨_, rfl⟩
  have HB1 : Hid (Below w.heap.size w W1) := Lib.hid (by rw [← hW1]; exact (Below.refl _ _).alloc (Nat.le_refl _) _)
  have HP1 : Hid (EBox W1 S (.int .i64 3) (.int .i64 n) (.string m) (.string s) (.slice (some ⟨b0, o0, none⟩) 1 cap)) := Lib.hid (by rw [← hW1, ← hS]; exact ebox_new w _ _ _ _ _ _)
  have HW1 := Lib.hid hW1
  have HSS := Lib.hid hS
  clear hW1
  obtain ⟨p0, p1, p2, p3, p4, pz⟩ := HP1.out
  have c00 := (HB1.out.cell (p := ⟨b0, o0, none⟩) bl0).trans x00
  have c01 := (HB1.out.cell (p := ⟨b0, o0 + 1, none⟩) bl0).trans x01
  have c02 := (HB1.out.cell (p := ⟨b0, o0 + 2, none⟩) bl0).trans x02
  have c03 := (HB1.out.cell (p := ⟨b0, o0 + 3, none⟩) bl0).trans x03
  have c04 := (HB1.out.cell (p := ⟨b0, o0 + 4, none⟩) bl0).trans x04
  go_enter Tryd.func24, Tryd.ntmps24
  go_wp2_with fail
  rw [HW1.out]
  try rw [hS]
  try go_wp2_with fail
  have tok0 : True := True.intro
  go_region_held3 (fun w' => w'.cell? ⟨S, 3, none⟩ = some (.string s) ∧ w'.cell? ⟨S, 4, none⟩ = some (.slice (some ⟨b0, o0, none⟩) 1 cap) ∧ w'.cell? ⟨b0, o0, none⟩ = some (.int .i64 u0.k) ∧ w'.cell? ⟨b0, o0 + 1, none⟩ = some (.int .i64 u0.n) ∧ w'.cell? ⟨b0, o0 + 2, none⟩ = some (.string u0.m) ∧ w'.cell? ⟨b0, o0 + 3, none⟩ = some (.string u0.s) ∧ w'.cell? ⟨b0, o0 + 4, none⟩ = some (.slice g0 u0.ks.length j0)) (go_keep)
    (first
      | (clear tok0; go_at_call 24; refine (HIH.out u0 _ _ HS0.out HN0.out (HK0.out.kept (by first | exact HB1.out | exact HB1.out.drew))).mono ?_; rw [HQ0.out]; rintro e w5 ⟨rfl, hb0⟩; have hb0' : Below W1.heap.size W1 w5 := Below.trans (B := W1.heap.size) (by first | exact Below.refl _ _ | exact (Below.refl _ _).drew) hb0; have HB5 := Lib.hid (HB1.out.trans (hb0'.mono HB1.out.size)); have HP5 := Lib.hid (HP1.out.kept hb0'); obtain ⟨_, _, _, q03, q04, q0z⟩ := HP5.out; have c000 := (HB5.out.cell (p := ⟨b0, o0, none⟩) bl0).trans x00; have c001 := (HB5.out.cell (p := ⟨b0, o0 + 1, none⟩) bl0).trans x01; have c002 := (HB5.out.cell (p := ⟨b0, o0 + 2, none⟩) bl0).trans x02; have c003 := (HB5.out.cell (p := ⟨b0, o0 + 3, none⟩) bl0).trans x03; have c004 := (HB5.out.cell (p := ⟨b0, o0 + 4, none⟩) bl0).trans x04; clear hb0 hb0'; have tok1 : True := True.intro))
  all_goals go_wp2_with fail
  all_goals go_ret
  all_goals first | exact ⟨by rw [HT.out]; rfl, HB5.out⟩ | exact ⟨by rw [HT.out]; rfl, HB5.out.drew⟩
set_option maxRecDepth 100000 in
set_option maxHeartbeats 8000000 in
theorem l3Text_4 (d : Nat) (HIH : Hid (LtT d)) (n : Int) (m s : ByteArray) (hs1 : s.size ≤ 1) (u0 u1 : Ex) (a : Option Addr) (cap : Nat)
    (HKID : Hid (∀ u ∈ [u0, u1], shpX d u = true ∧ ndX d u ≤ 60)) (w : World) (hx : ExAt w (.node 4 n m s [u0, u1]) (.slice a 2 cap)) :
    Calls Tryd.prog 24 #[.agg #[.int .i64 4, .int .i64 n, .string m, .string s, .slice a 2 cap]] w (TextIsX (frmX (txE d) s (formX 4).data.toList [u0, u1]) w) := by
  have HX := Lib.hid hx
  clear hx
  obtain ⟨b0, o0, cap0, v0, ex0, bl0, ⟨y00, y01, y02, y03, y04⟩, hk0⟩ := HX.out.kid 0 (by show 0 < 2; omega)
  obtain ⟨b1, o1, cap1, v1, ex1, bl1, ⟨y10, y11, y12, y13, y14⟩, hk1⟩ := HX.out.kid 1 (by show 1 < 2; omega)
  obtain ⟨rfl, rfl⟩ : b0 = b1 ∧ o0 = o1 := by have e := ex0.symm.trans ex1; injection e with h1 h2 h3; injection h1 with h4; injection h4 with h5 h6; exact ⟨h5, h6⟩
  obtain rfl : a = some ⟨b0, o0, none⟩ := by injection ex0
  obtain ⟨g0, j0, rfl, _⟩ := hk0.slice
  have HS0 := Lib.hid (HKID.out u0 (by simp)).1
  have HN0 := Lib.hid (HKID.out u0 (by simp)).2
  have z0 : (txE d u0).size ≤ 480 := Nat.le_trans (tx_size d _ HS0.out) (by have := HN0.out; omega)
  obtain ⟨t0, ht0⟩ : ∃ t, txE d u0 = t := ⟨_, rfl⟩
  rw [ht0] at z0
  have HQ0 := Lib.hid ht0
  have HK0 : Hid (ExAt w u0 _) := Lib.hid hk0
  have x00 : w.cell? ⟨b0, o0, none⟩ = some (.int .i64 u0.k) := y00
  have x01 : w.cell? ⟨b0, o0 + 1, none⟩ = some (.int .i64 u0.n) := y01
  have x02 : w.cell? ⟨b0, o0 + 2, none⟩ = some (.string u0.m) := y02
  have x03 : w.cell? ⟨b0, o0 + 3, none⟩ = some (.string u0.s) := y03
  have x04 : w.cell? ⟨b0, o0 + 4, none⟩ = some (.slice g0 u0.ks.length j0) := y04
  obtain ⟨g1, j1, rfl, _⟩ := hk1.slice
  have HS1 := Lib.hid (HKID.out u1 (by simp)).1
  have HN1 := Lib.hid (HKID.out u1 (by simp)).2
  have z1 : (txE d u1).size ≤ 480 := Nat.le_trans (tx_size d _ HS1.out) (by have := HN1.out; omega)
  obtain ⟨t1, ht1⟩ : ∃ t, txE d u1 = t := ⟨_, rfl⟩
  rw [ht1] at z1
  have HQ1 := Lib.hid ht1
  have HK1 : Hid (ExAt w u1 _) := Lib.hid hk1
  have x10 : w.cell? ⟨b0, o0 + 5, none⟩ = some (.int .i64 u1.k) := by have h := y10; first | exact h | (rw [show o0 + 5 = o0 + 1 * 5 + 0 from rfl]; exact h)
  have x11 : w.cell? ⟨b0, o0 + 6, none⟩ = some (.int .i64 u1.n) := by have h := y11; first | exact h | (rw [show o0 + 6 = o0 + 1 * 5 + 1 from rfl]; exact h)
  have x12 : w.cell? ⟨b0, o0 + 7, none⟩ = some (.string u1.m) := by have h := y12; first | exact h | (rw [show o0 + 7 = o0 + 1 * 5 + 2 from rfl]; exact h)
  have x13 : w.cell? ⟨b0, o0 + 8, none⟩ = some (.string u1.s) := by have h := y13; first | exact h | (rw [show o0 + 8 = o0 + 1 * 5 + 3 from rfl]; exact h)
  have x14 : w.cell? ⟨b0, o0 + 9, none⟩ = some (.slice g1 u1.ks.length j1) := by have h := y14; first | exact h | (rw [show o0 + 9 = o0 + 1 * 5 + 4 from rfl]; exact h)
  have HT : Hid (frmX (txE d) s (formX 4).data.toList [u0, u1] = ⟨#[40]⟩ ++ t0 ++ ⟨#[32]⟩ ++ t1 ++ ⟨#[41]⟩) := Lib.hid (by
    have ef : (formX 4).data.toList = [40, 69, 32, 69, 41] := by decide
    rw [ef, frm_c (by decide) (by decide), frm_E, frm_c (by decide) (by decide), frm_E, frm_c (by decide) (by decide)]
    simp only [List.headD_cons, List.tail_cons, frm_nil, app_nil, ByteArray.append_assoc, HQ0.out, HQ1.out])
  have E0 : ∀ W, (Op.stringOp .add (⟨#[40]⟩) (t0)).run Tryd.prog W = .ok (.string (⟨#[40]⟩ ++ t0)) W := fun W => run_string_add_sum _ _ _ (by (try simp only [ByteArray.size_append]); show 1 + t0.size ≤ _; omega)
  have E1 : ∀ W, (Op.stringOp .add (⟨#[40]⟩ ++ t0) (⟨#[32]⟩)).run Tryd.prog W = .ok (.string (⟨#[40]⟩ ++ t0 ++ ⟨#[32]⟩)) W := fun W => run_string_add_sum _ _ _ (by (try simp only [ByteArray.size_append]); show 1 + t0.size + 1 ≤ _; omega)
  have E2 : ∀ W, (Op.stringOp .add (⟨#[40]⟩ ++ t0 ++ ⟨#[32]⟩) (t1)).run Tryd.prog W = .ok (.string (⟨#[40]⟩ ++ t0 ++ ⟨#[32]⟩ ++ t1)) W := fun W => run_string_add_sum _ _ _ (by (try simp only [ByteArray.size_append]); show 1 + t0.size + 1 + t1.size ≤ _; omega)
  have E3 : ∀ W, (Op.stringOp .add (⟨#[40]⟩ ++ t0 ++ ⟨#[32]⟩ ++ t1) (⟨#[41]⟩)).run Tryd.prog W = .ok (.string (⟨#[40]⟩ ++ t0 ++ ⟨#[32]⟩ ++ t1 ++ ⟨#[41]⟩)) W := fun W => run_string_add_sum _ _ _ (by (try simp only [ByteArray.size_append]); show 1 + t0.size + 1 + t1.size + 1 ≤ _; omega)
  clear ht0 hk0 ex0 z0 y00 y01 y02 y03 y04 ht1 hk1 ex1 z1 y10 y11 y12 y13 y14
  clear hs1
  obtain ⟨S, hS⟩ : ∃ S, w.heap.size = S := ⟨_, rfl⟩
  obtain ⟨W1, hW1⟩ : ∃ W, w.alloc (.cells #[.int .i64 4, .int .i64 n, .string m, .string s, .slice (some ⟨b0, o0, none⟩) 2 cap] 29) = W := ⟨_, rfl⟩
  have HB1 : Hid (Below w.heap.size w W1) := Lib.hid (by rw [← hW1]; exact (Below.refl _ _).alloc (Nat.le_refl _) _)
  have HP1 : Hid (EBox W1 S (.int .i64 4) (.int .i64 n) (.string m) (.string s) (.slice (some ⟨b0, o0, none⟩) 2 cap)) := Lib.hid (by rw [← hW1, ← hS]; exact ebox_new w _ _ _ _ _ _)
  have HW1 := Lib.hid hW1
  have HSS := Lib.hid hS
  clear hW1
  obtain ⟨p0, p1, p2, p3, p4, pz⟩ := HP1.out
  have c00 := (HB1.out.cell (p := ⟨b0, o0, none⟩) bl0).trans x00
  have c01 := (HB1.out.cell (p := ⟨b0, o0 + 1, none⟩) bl0).trans x01
  have c02 := (HB1.out.cell (p := ⟨b0, o0 + 2, none⟩) bl0).trans x02
  have c03 := (HB1.out.cell (p := ⟨b0, o0 + 3, none⟩) bl0).trans x03
  have c04 := (HB1.out.cell (p := ⟨b0, o0 + 4, none⟩) bl0).trans x04
  have c10 := (HB1.out.cell (p := ⟨b0, o0 + 5, none⟩) bl0).trans x10
  have c11 := (HB1.out.cell (p := ⟨b0, o0 + 6, none⟩) bl0).trans x11
  have c12 := (HB1.out.cell (p := ⟨b0, o0 + 7, none⟩) bl0).trans x12
  have c13 := (HB1.out.cell (p := ⟨b0, o0 + 8, none⟩) bl0).trans x13
  have c14 := (HB1.out.cell (p := ⟨b0, o0 + 9, none⟩) bl0).trans x14
  go_enter Tryd.func24, Tryd.ntmps24
  go_wp2_with fail
  rw [HW1.out]
  try rw [hS]
  try go_wp2_with fail
  have tok0 : True := True.intro
  go_region_held3 (fun w' => w'.cell? ⟨S, 4, none⟩ = some (.slice (some ⟨b0, o0, none⟩) 2 cap) ∧ w'.cell? ⟨b0, o0, none⟩ = some (.int .i64 u0.k) ∧ w'.cell? ⟨b0, o0 + 1, none⟩ = some (.int .i64 u0.n) ∧ w'.cell? ⟨b0, o0 + 2, none⟩ = some (.string u0.m) ∧ w'.cell? ⟨b0, o0 + 3, none⟩ = some (.string u0.s) ∧ w'.cell? ⟨b0, o0 + 4, none⟩ = some (.slice g0 u0.ks.length j0) ∧ w'.cell? ⟨b0, o0 + 5, none⟩ = some (.int .i64 u1.k) ∧ w'.cell? ⟨b0, o0 + 6, none⟩ = some (.int .i64 u1.n) ∧ w'.cell? ⟨b0, o0 + 7, none⟩ = some (.string u1.m) ∧ w'.cell? ⟨b0, o0 + 8, none⟩ = some (.string u1.s) ∧ w'.cell? ⟨b0, o0 + 9, none⟩ = some (.slice g1 u1.ks.length j1)) (go_keep)
    (first
      | (clear tok0; go_at_call 24; refine (HIH.out u0 _ _ HS0.out HN0.out (HK0.out.kept (by first | exact HB1.out | exact HB1.out.drew))).mono ?_; rw [HQ0.out]; rintro e w5 ⟨rfl, hb0⟩; have hb0' : Below W1.heap.size W1 w5 := Below.trans (B := W1.heap.size) (by first | exact Below.refl _ _ | exact (Below.refl _ _).drew) hb0; have HB5 := Lib.hid (HB1.out.trans (hb0'.mono HB1.out.size)); have HP5 := Lib.hid (HP1.out.kept hb0'); obtain ⟨_, _, _, q03, q04, q0z⟩ := HP5.out; have c000 := (HB5.out.cell (p := ⟨b0, o0, none⟩) bl0).trans x00; have c001 := (HB5.out.cell (p := ⟨b0, o0 + 1, none⟩) bl0).trans x01; have c002 := (HB5.out.cell (p := ⟨b0, o0 + 2, none⟩) bl0).trans x02; have c003 := (HB5.out.cell (p := ⟨b0, o0 + 3, none⟩) bl0).trans x03; have c004 := (HB5.out.cell (p := ⟨b0, o0 + 4, none⟩) bl0).trans x04; have c010 := (HB5.out.cell (p := ⟨b0, o0 + 5, none⟩) bl0).trans x10; have c011 := (HB5.out.cell (p := ⟨b0, o0 + 6, none⟩) bl0).trans x11; have c012 := (HB5.out.cell (p := ⟨b0, o0 + 7, none⟩) bl0).trans x12; have c013 := (HB5.out.cell (p := ⟨b0, o0 + 8, none⟩) bl0).trans x13; have c014 := (HB5.out.cell (p := ⟨b0, o0 + 9, none⟩) bl0).trans x14; clear hb0 hb0'; have tok1 : True := True.intro)
      | (clear tok1; go_at_call 24; refine (HIH.out u1 _ _ HS1.out HN1.out (HK1.out.kept (by first | exact HB5.out | exact HB5.out.drew))).mono ?_; rw [HQ1.out]; rintro e w6 ⟨rfl, hb1⟩; have hb1' : Below w5.heap.size w5 w6 := Below.trans (B := w5.heap.size) (by first | exact Below.refl _ _ | exact (Below.refl _ _).drew) hb1; have HB6 := Lib.hid (HB5.out.trans (hb1'.mono HB5.out.size)); have HP6 := Lib.hid (HP5.out.kept hb1'); obtain ⟨_, _, _, q13, q14, q1z⟩ := HP6.out; have c100 := (HB6.out.cell (p := ⟨b0, o0, none⟩) bl0).trans x00; have c101 := (HB6.out.cell (p := ⟨b0, o0 + 1, none⟩) bl0).trans x01; have c102 := (HB6.out.cell (p := ⟨b0, o0 + 2, none⟩) bl0).trans x02; have c103 := (HB6.out.cell (p := ⟨b0, o0 + 3, none⟩) bl0).trans x03; have c104 := (HB6.out.cell (p := ⟨b0, o0 + 4, none⟩) bl0).trans x04; have c110 := (HB6.out.cell (p := ⟨b0, o0 + 5, none⟩) bl0).trans x10; have c111 := (HB6.out.cell (p := ⟨b0, o0 + 6, none⟩) bl0).trans x11; have c112 := (HB6.out.cell (p := ⟨b0, o0 + 7, none⟩) bl0).trans x12; have c113 := (HB6.out.cell (p := ⟨b0, o0 + 8, none⟩) bl0).trans x13; have c114 := (HB6.out.cell (p := ⟨b0, o0 + 9, none⟩) bl0).trans x14; clear hb1 hb1'; have tok2 : True := True.intro))
  all_goals go_wp2_with fail
  all_goals go_ret
  all_goals first | exact ⟨by rw [HT.out]; rfl, HB6.out⟩ | exact ⟨by rw [HT.out]; rfl, HB6.out.drew⟩
set_option maxRecDepth 100000 in
set_option maxHeartbeats 8000000 in
theorem l3Text_5 (d : Nat) (HIH : Hid (LtT d)) (n : Int) (m s : ByteArray) (hs1 : s.size ≤ 1) (u0 u1 : Ex) (a : Option Addr) (cap : Nat)
    (HKID : Hid (∀ u ∈ [u0, u1], shpX d u = true ∧ ndX d u ≤ 60)) (w : World) (hx : ExAt w (.node 5 n m s [u0, u1]) (.slice a 2 cap)) :
    Calls Tryd.prog 24 #[.agg #[.int .i64 5, .int .i64 n, .string m, .string s, .slice a 2 cap]] w (TextIsX (frmX (txE d) s (formX 5).data.toList [u0, u1]) w) := by
  have HX := Lib.hid hx
  clear hx
  obtain ⟨b0, o0, cap0, v0, ex0, bl0, ⟨y00, y01, y02, y03, y04⟩, hk0⟩ := HX.out.kid 0 (by show 0 < 2; omega)
  obtain ⟨b1, o1, cap1, v1, ex1, bl1, ⟨y10, y11, y12, y13, y14⟩, hk1⟩ := HX.out.kid 1 (by show 1 < 2; omega)
  obtain ⟨rfl, rfl⟩ : b0 = b1 ∧ o0 = o1 := by have e := ex0.symm.trans ex1; injection e with h1 h2 h3; injection h1 with h4; injection h4 with h5 h6; exact ⟨h5, h6⟩
  obtain rfl : a = some ⟨b0, o0, none⟩ := by injection ex0
  obtain ⟨g0, j0, rfl, _⟩ := hk0.slice
  have HS0 := Lib.hid (HKID.out u0 (by simp)).1
  have HN0 := Lib.hid (HKID.out u0 (by simp)).2
  have z0 : (txE d u0).size ≤ 480 := Nat.le_trans (tx_size d _ HS0.out) (by have := HN0.out; omega)
  obtain ⟨t0, ht0⟩ : ∃ t, txE d u0 = t := ⟨_, rfl⟩
  rw [ht0] at z0
  have HQ0 := Lib.hid ht0
  have HK0 : Hid (ExAt w u0 _) := Lib.hid hk0
  have x00 : w.cell? ⟨b0, o0, none⟩ = some (.int .i64 u0.k) := y00
  have x01 : w.cell? ⟨b0, o0 + 1, none⟩ = some (.int .i64 u0.n) := y01
  have x02 : w.cell? ⟨b0, o0 + 2, none⟩ = some (.string u0.m) := y02
  have x03 : w.cell? ⟨b0, o0 + 3, none⟩ = some (.string u0.s) := y03
  have x04 : w.cell? ⟨b0, o0 + 4, none⟩ = some (.slice g0 u0.ks.length j0) := y04
  obtain ⟨g1, j1, rfl, _⟩ := hk1.slice
  have HS1 := Lib.hid (HKID.out u1 (by simp)).1
  have HN1 := Lib.hid (HKID.out u1 (by simp)).2
  have z1 : (txE d u1).size ≤ 480 := Nat.le_trans (tx_size d _ HS1.out) (by have := HN1.out; omega)
  obtain ⟨t1, ht1⟩ : ∃ t, txE d u1 = t := ⟨_, rfl⟩
  rw [ht1] at z1
  have HQ1 := Lib.hid ht1
  have HK1 : Hid (ExAt w u1 _) := Lib.hid hk1
  have x10 : w.cell? ⟨b0, o0 + 5, none⟩ = some (.int .i64 u1.k) := by have h := y10; first | exact h | (rw [show o0 + 5 = o0 + 1 * 5 + 0 from rfl]; exact h)
  have x11 : w.cell? ⟨b0, o0 + 6, none⟩ = some (.int .i64 u1.n) := by have h := y11; first | exact h | (rw [show o0 + 6 = o0 + 1 * 5 + 1 from rfl]; exact h)
  have x12 : w.cell? ⟨b0, o0 + 7, none⟩ = some (.string u1.m) := by have h := y12; first | exact h | (rw [show o0 + 7 = o0 + 1 * 5 + 2 from rfl]; exact h)
  have x13 : w.cell? ⟨b0, o0 + 8, none⟩ = some (.string u1.s) := by have h := y13; first | exact h | (rw [show o0 + 8 = o0 + 1 * 5 + 3 from rfl]; exact h)
  have x14 : w.cell? ⟨b0, o0 + 9, none⟩ = some (.slice g1 u1.ks.length j1) := by have h := y14; first | exact h | (rw [show o0 + 9 = o0 + 1 * 5 + 4 from rfl]; exact h)
  have HT : Hid (frmX (txE d) s (formX 5).data.toList [u0, u1] = ⟨#[40]⟩ ++ t0 ++ ⟨#[43]⟩ ++ t1 ++ ⟨#[41]⟩) := Lib.hid (by
    have ef : (formX 5).data.toList = [40, 69, 43, 69, 41] := by decide
    rw [ef, frm_c (by decide) (by decide), frm_E, frm_c (by decide) (by decide), frm_E, frm_c (by decide) (by decide)]
    simp only [List.headD_cons, List.tail_cons, frm_nil, app_nil, ByteArray.append_assoc, HQ0.out, HQ1.out])
  have E0 : ∀ W, (Op.stringOp .add (⟨#[40]⟩) (t0)).run Tryd.prog W = .ok (.string (⟨#[40]⟩ ++ t0)) W := fun W => run_string_add_sum _ _ _ (by (try simp only [ByteArray.size_append]); show 1 + t0.size ≤ _; omega)
  have E1 : ∀ W, (Op.stringOp .add (⟨#[40]⟩ ++ t0) (⟨#[43]⟩)).run Tryd.prog W = .ok (.string (⟨#[40]⟩ ++ t0 ++ ⟨#[43]⟩)) W := fun W => run_string_add_sum _ _ _ (by (try simp only [ByteArray.size_append]); show 1 + t0.size + 1 ≤ _; omega)
  have E2 : ∀ W, (Op.stringOp .add (⟨#[40]⟩ ++ t0 ++ ⟨#[43]⟩) (t1)).run Tryd.prog W = .ok (.string (⟨#[40]⟩ ++ t0 ++ ⟨#[43]⟩ ++ t1)) W := fun W => run_string_add_sum _ _ _ (by (try simp only [ByteArray.size_append]); show 1 + t0.size + 1 + t1.size ≤ _; omega)
  have E3 : ∀ W, (Op.stringOp .add (⟨#[40]⟩ ++ t0 ++ ⟨#[43]⟩ ++ t1) (⟨#[41]⟩)).run Tryd.prog W = .ok (.string (⟨#[40]⟩ ++ t0 ++ ⟨#[43]⟩ ++ t1 ++ ⟨#[41]⟩)) W := fun W => run_string_add_sum _ _ _ (by (try simp only [ByteArray.size_append]); show 1 + t0.size + 1 + t1.size + 1 ≤ _; omega)
  clear ht0 hk0 ex0 z0 y00 y01 y02 y03 y04 ht1 hk1 ex1 z1 y10 y11 y12 y13 y14
  clear hs1
  obtain ⟨S, hS⟩ : ∃ S, w.heap.size = S := ⟨_, rfl⟩
  obtain ⟨W1, hW1⟩ : ∃ W, w.alloc (.cells #[.int .i64 5, .int .i64 n, .string m, .string s, .slice (some ⟨b0, o0, none⟩) 2 cap] 29) = W := ⟨_, rfl⟩
  have HB1 : Hid (Below w.heap.size w W1) := Lib.hid (by rw [← hW1]; exact (Below.refl _ _).alloc (Nat.le_refl _) _)
  have HP1 : Hid (EBox W1 S (.int .i64 5) (.int .i64 n) (.string m) (.string s) (.slice (some ⟨b0, o0, none⟩) 2 cap)) := Lib.hid (by rw [← hW1, ← hS]; exact ebox_new w _ _ _ _ _ _)
  have HW1 := Lib.hid hW1
  have HSS := Lib.hid hS
  clear hW1
  obtain ⟨p0, p1, p2, p3, p4, pz⟩ := HP1.out
  have c00 := (HB1.out.cell (p := ⟨b0, o0, none⟩) bl0).trans x00
  have c01 := (HB1.out.cell (p := ⟨b0, o0 + 1, none⟩) bl0).trans x01
  have c02 := (HB1.out.cell (p := ⟨b0, o0 + 2, none⟩) bl0).trans x02
  have c03 := (HB1.out.cell (p := ⟨b0, o0 + 3, none⟩) bl0).trans x03
  have c04 := (HB1.out.cell (p := ⟨b0, o0 + 4, none⟩) bl0).trans x04
  have c10 := (HB1.out.cell (p := ⟨b0, o0 + 5, none⟩) bl0).trans x10
  have c11 := (HB1.out.cell (p := ⟨b0, o0 + 6, none⟩) bl0).trans x11
  have c12 := (HB1.out.cell (p := ⟨b0, o0 + 7, none⟩) bl0).trans x12
  have c13 := (HB1.out.cell (p := ⟨b0, o0 + 8, none⟩) bl0).trans x13
  have c14 := (HB1.out.cell (p := ⟨b0, o0 + 9, none⟩) bl0).trans x14
  go_enter Tryd.func24, Tryd.ntmps24
  go_wp2_with fail
  rw [HW1.out]
  try rw [hS]
  try go_wp2_with fail
  have tok0 : True := True.intro
  go_region_held3 (fun w' => w'.cell? ⟨S, 4, none⟩ = some (.slice (some ⟨b0, o0, none⟩) 2 cap) ∧ w'.cell? ⟨b0, o0, none⟩ = some (.int .i64 u0.k) ∧ w'.cell? ⟨b0, o0 + 1, none⟩ = some (.int .i64 u0.n) ∧ w'.cell? ⟨b0, o0 + 2, none⟩ = some (.string u0.m) ∧ w'.cell? ⟨b0, o0 + 3, none⟩ = some (.string u0.s) ∧ w'.cell? ⟨b0, o0 + 4, none⟩ = some (.slice g0 u0.ks.length j0) ∧ w'.cell? ⟨b0, o0 + 5, none⟩ = some (.int .i64 u1.k) ∧ w'.cell? ⟨b0, o0 + 6, none⟩ = some (.int .i64 u1.n) ∧ w'.cell? ⟨b0, o0 + 7, none⟩ = some (.string u1.m) ∧ w'.cell? ⟨b0, o0 + 8, none⟩ = some (.string u1.s) ∧ w'.cell? ⟨b0, o0 + 9, none⟩ = some (.slice g1 u1.ks.length j1)) (go_keep)
    (first
      | (clear tok0; go_at_call 24; refine (HIH.out u0 _ _ HS0.out HN0.out (HK0.out.kept (by first | exact HB1.out | exact HB1.out.drew))).mono ?_; rw [HQ0.out]; rintro e w5 ⟨rfl, hb0⟩; have hb0' : Below W1.heap.size W1 w5 := Below.trans (B := W1.heap.size) (by first | exact Below.refl _ _ | exact (Below.refl _ _).drew) hb0; have HB5 := Lib.hid (HB1.out.trans (hb0'.mono HB1.out.size)); have HP5 := Lib.hid (HP1.out.kept hb0'); obtain ⟨_, _, _, q03, q04, q0z⟩ := HP5.out; have c000 := (HB5.out.cell (p := ⟨b0, o0, none⟩) bl0).trans x00; have c001 := (HB5.out.cell (p := ⟨b0, o0 + 1, none⟩) bl0).trans x01; have c002 := (HB5.out.cell (p := ⟨b0, o0 + 2, none⟩) bl0).trans x02; have c003 := (HB5.out.cell (p := ⟨b0, o0 + 3, none⟩) bl0).trans x03; have c004 := (HB5.out.cell (p := ⟨b0, o0 + 4, none⟩) bl0).trans x04; have c010 := (HB5.out.cell (p := ⟨b0, o0 + 5, none⟩) bl0).trans x10; have c011 := (HB5.out.cell (p := ⟨b0, o0 + 6, none⟩) bl0).trans x11; have c012 := (HB5.out.cell (p := ⟨b0, o0 + 7, none⟩) bl0).trans x12; have c013 := (HB5.out.cell (p := ⟨b0, o0 + 8, none⟩) bl0).trans x13; have c014 := (HB5.out.cell (p := ⟨b0, o0 + 9, none⟩) bl0).trans x14; clear hb0 hb0'; have tok1 : True := True.intro)
      | (clear tok1; go_at_call 24; refine (HIH.out u1 _ _ HS1.out HN1.out (HK1.out.kept (by first | exact HB5.out | exact HB5.out.drew))).mono ?_; rw [HQ1.out]; rintro e w6 ⟨rfl, hb1⟩; have hb1' : Below w5.heap.size w5 w6 := Below.trans (B := w5.heap.size) (by first | exact Below.refl _ _ | exact (Below.refl _ _).drew) hb1; have HB6 := Lib.hid (HB5.out.trans (hb1'.mono HB5.out.size)); have HP6 := Lib.hid (HP5.out.kept hb1'); obtain ⟨_, _, _, q13, q14, q1z⟩ := HP6.out; have c100 := (HB6.out.cell (p := ⟨b0, o0, none⟩) bl0).trans x00; have c101 := (HB6.out.cell (p := ⟨b0, o0 + 1, none⟩) bl0).trans x01; have c102 := (HB6.out.cell (p := ⟨b0, o0 + 2, none⟩) bl0).trans x02; have c103 := (HB6.out.cell (p := ⟨b0, o0 + 3, none⟩) bl0).trans x03; have c104 := (HB6.out.cell (p := ⟨b0, o0 + 4, none⟩) bl0).trans x04; have c110 := (HB6.out.cell (p := ⟨b0, o0 + 5, none⟩) bl0).trans x10; have c111 := (HB6.out.cell (p := ⟨b0, o0 + 6, none⟩) bl0).trans x11; have c112 := (HB6.out.cell (p := ⟨b0, o0 + 7, none⟩) bl0).trans x12; have c113 := (HB6.out.cell (p := ⟨b0, o0 + 8, none⟩) bl0).trans x13; have c114 := (HB6.out.cell (p := ⟨b0, o0 + 9, none⟩) bl0).trans x14; clear hb1 hb1'; have tok2 : True := True.intro))
  all_goals go_wp2_with fail
  all_goals go_ret
  all_goals first | exact ⟨by rw [HT.out]; rfl, HB6.out⟩ | exact ⟨by rw [HT.out]; rfl, HB6.out.drew⟩
set_option maxRecDepth 100000 in
set_option maxHeartbeats 8000000 in
theorem l3Text_6 (d : Nat) (HIH : Hid (LtT d)) (n : Int) (m s : ByteArray) (hs1 : s.size ≤ 1) (u0 u1 : Ex) (a : Option Addr) (cap : Nat)
    (HKID : Hid (∀ u ∈ [u0, u1], shpX d u = true ∧ ndX d u ≤ 60)) (w : World) (hx : ExAt w (.node 6 n m s [u0, u1]) (.slice a 2 cap)) :
    Calls Tryd.prog 24 #[.agg #[.int .i64 6, .int .i64 n, .string m, .string s, .slice a 2 cap]] w (TextIsX (frmX (txE d) s (formX 6).data.toList [u0, u1]) w) := by
  have HX := Lib.hid hx
  clear hx
  obtain ⟨b0, o0, cap0, v0, ex0, bl0, ⟨y00, y01, y02, y03, y04⟩, hk0⟩ := HX.out.kid 0 (by show 0 < 2; omega)
  obtain ⟨b1, o1, cap1, v1, ex1, bl1, ⟨y10, y11, y12, y13, y14⟩, hk1⟩ := HX.out.kid 1 (by show 1 < 2; omega)
  obtain ⟨rfl, rfl⟩ : b0 = b1 ∧ o0 = o1 := by have e := ex0.symm.trans ex1; injection e with h1 h2 h3; injection h1 with h4; injection h4 with h5 h6; exact ⟨h5, h6⟩
  obtain rfl : a = some ⟨b0, o0, none⟩ := by injection ex0
  obtain ⟨g0, j0, rfl, _⟩ := hk0.slice
  have HS0 := Lib.hid (HKID.out u0 (by simp)).1
  have HN0 := Lib.hid (HKID.out u0 (by simp)).2
  have z0 : (txE d u0).size ≤ 480 := Nat.le_trans (tx_size d _ HS0.out) (by have := HN0.out; omega)
  obtain ⟨t0, ht0⟩ : ∃ t, txE d u0 = t := ⟨_, rfl⟩
  rw [ht0] at z0
  have HQ0 := Lib.hid ht0
  have HK0 : Hid (ExAt w u0 _) := Lib.hid hk0
  have x00 : w.cell? ⟨b0, o0, none⟩ = some (.int .i64 u0.k) := y00
  have x01 : w.cell? ⟨b0, o0 + 1, none⟩ = some (.int .i64 u0.n) := y01
  have x02 : w.cell? ⟨b0, o0 + 2, none⟩ = some (.string u0.m) := y02
  have x03 : w.cell? ⟨b0, o0 + 3, none⟩ = some (.string u0.s) := y03
  have x04 : w.cell? ⟨b0, o0 + 4, none⟩ = some (.slice g0 u0.ks.length j0) := y04
  obtain ⟨g1, j1, rfl, _⟩ := hk1.slice
  have HS1 := Lib.hid (HKID.out u1 (by simp)).1
  have HN1 := Lib.hid (HKID.out u1 (by simp)).2
  have z1 : (txE d u1).size ≤ 480 := Nat.le_trans (tx_size d _ HS1.out) (by have := HN1.out; omega)
  obtain ⟨t1, ht1⟩ : ∃ t, txE d u1 = t := ⟨_, rfl⟩
  rw [ht1] at z1
  have HQ1 := Lib.hid ht1
  have HK1 : Hid (ExAt w u1 _) := Lib.hid hk1
  have x10 : w.cell? ⟨b0, o0 + 5, none⟩ = some (.int .i64 u1.k) := by have h := y10; first | exact h | (rw [show o0 + 5 = o0 + 1 * 5 + 0 from rfl]; exact h)
  have x11 : w.cell? ⟨b0, o0 + 6, none⟩ = some (.int .i64 u1.n) := by have h := y11; first | exact h | (rw [show o0 + 6 = o0 + 1 * 5 + 1 from rfl]; exact h)
  have x12 : w.cell? ⟨b0, o0 + 7, none⟩ = some (.string u1.m) := by have h := y12; first | exact h | (rw [show o0 + 7 = o0 + 1 * 5 + 2 from rfl]; exact h)
  have x13 : w.cell? ⟨b0, o0 + 8, none⟩ = some (.string u1.s) := by have h := y13; first | exact h | (rw [show o0 + 8 = o0 + 1 * 5 + 3 from rfl]; exact h)
  have x14 : w.cell? ⟨b0, o0 + 9, none⟩ = some (.slice g1 u1.ks.length j1) := by have h := y14; first | exact h | (rw [show o0 + 9 = o0 + 1 * 5 + 4 from rfl]; exact h)
  have HT : Hid (frmX (txE d) s (formX 6).data.toList [u0, u1] = ⟨#[123]⟩ ++ s ++ ⟨#[61]⟩ ++ t0 ++ ⟨#[59]⟩ ++ t1 ++ ⟨#[125]⟩) := Lib.hid (by
    have ef : (formX 6).data.toList = [123, 120, 61, 69, 59, 69, 125] := by decide
    rw [ef, frm_c (by decide) (by decide), frm_x, frm_c (by decide) (by decide), frm_E, frm_c (by decide) (by decide), frm_E, frm_c (by decide) (by decide)]
    simp only [List.headD_cons, List.tail_cons, frm_nil, app_nil, ByteArray.append_assoc, HQ0.out, HQ1.out])
  have E0 : ∀ W, (Op.stringOp .add (⟨#[123]⟩) (s)).run Tryd.prog W = .ok (.string (⟨#[123]⟩ ++ s)) W := fun W => run_string_add_sum _ _ _ (by (try simp only [ByteArray.size_append]); show 1 + s.size ≤ _; omega)
  have E1 : ∀ W, (Op.stringOp .add (⟨#[123]⟩ ++ s) (⟨#[61]⟩)).run Tryd.prog W = .ok (.string (⟨#[123]⟩ ++ s ++ ⟨#[61]⟩)) W := fun W => run_string_add_sum _ _ _ (by (try simp only [ByteArray.size_append]); show 1 + s.size + 1 ≤ _; omega)
  have E2 : ∀ W, (Op.stringOp .add (⟨#[123]⟩ ++ s ++ ⟨#[61]⟩) (t0)).run Tryd.prog W = .ok (.string (⟨#[123]⟩ ++ s ++ ⟨#[61]⟩ ++ t0)) W := fun W => run_string_add_sum _ _ _ (by (try simp only [ByteArray.size_append]); show 1 + s.size + 1 + t0.size ≤ _; omega)
  have E3 : ∀ W, (Op.stringOp .add (⟨#[123]⟩ ++ s ++ ⟨#[61]⟩ ++ t0) (⟨#[59]⟩)).run Tryd.prog W = .ok (.string (⟨#[123]⟩ ++ s ++ ⟨#[61]⟩ ++ t0 ++ ⟨#[59]⟩)) W := fun W => run_string_add_sum _ _ _ (by (try simp only [ByteArray.size_append]); show 1 + s.size + 1 + t0.size + 1 ≤ _; omega)
  have E4 : ∀ W, (Op.stringOp .add (⟨#[123]⟩ ++ s ++ ⟨#[61]⟩ ++ t0 ++ ⟨#[59]⟩) (t1)).run Tryd.prog W = .ok (.string (⟨#[123]⟩ ++ s ++ ⟨#[61]⟩ ++ t0 ++ ⟨#[59]⟩ ++ t1)) W := fun W => run_string_add_sum _ _ _ (by (try simp only [ByteArray.size_append]); show 1 + s.size + 1 + t0.size + 1 + t1.size ≤ _; omega)
  have E5 : ∀ W, (Op.stringOp .add (⟨#[123]⟩ ++ s ++ ⟨#[61]⟩ ++ t0 ++ ⟨#[59]⟩ ++ t1) (⟨#[125]⟩)).run Tryd.prog W = .ok (.string (⟨#[123]⟩ ++ s ++ ⟨#[61]⟩ ++ t0 ++ ⟨#[59]⟩ ++ t1 ++ ⟨#[125]⟩)) W := fun W => run_string_add_sum _ _ _ (by (try simp only [ByteArray.size_append]); show 1 + s.size + 1 + t0.size + 1 + t1.size + 1 ≤ _; omega)
  clear ht0 hk0 ex0 z0 y00 y01 y02 y03 y04 ht1 hk1 ex1 z1 y10 y11 y12 y13 y14
  clear hs1
  obtain ⟨S, hS⟩ : ∃ S, w.heap.size = S := ⟨_, rfl⟩
  obtain ⟨W1, hW1⟩ : ∃ W, w.alloc (.cells #[.int .i64 6, .int .i64 n, .string m, .string s, .slice (some ⟨b0, o0, none⟩) 2 cap] 29) = W := ⟨_, rfl⟩
  have HB1 : Hid (Below w.heap.size w W1) := Lib.hid (by rw [← hW1]; exact (Below.refl _ _).alloc (Nat.le_refl _) _)
  have HP1 : Hid (EBox W1 S (.int .i64 6) (.int .i64 n) (.string m) (.string s) (.slice (some ⟨b0, o0, none⟩) 2 cap)) := Lib.hid (by rw [← hW1, ← hS]; exact ebox_new w _ _ _ _ _ _)
  have HW1 := Lib.hid hW1
  have HSS := Lib.hid hS
  clear hW1
  obtain ⟨p0, p1, p2, p3, p4, pz⟩ := HP1.out
  have c00 := (HB1.out.cell (p := ⟨b0, o0, none⟩) bl0).trans x00
  have c01 := (HB1.out.cell (p := ⟨b0, o0 + 1, none⟩) bl0).trans x01
  have c02 := (HB1.out.cell (p := ⟨b0, o0 + 2, none⟩) bl0).trans x02
  have c03 := (HB1.out.cell (p := ⟨b0, o0 + 3, none⟩) bl0).trans x03
  have c04 := (HB1.out.cell (p := ⟨b0, o0 + 4, none⟩) bl0).trans x04
  have c10 := (HB1.out.cell (p := ⟨b0, o0 + 5, none⟩) bl0).trans x10
  have c11 := (HB1.out.cell (p := ⟨b0, o0 + 6, none⟩) bl0).trans x11
  have c12 := (HB1.out.cell (p := ⟨b0, o0 + 7, none⟩) bl0).trans x12
  have c13 := (HB1.out.cell (p := ⟨b0, o0 + 8, none⟩) bl0).trans x13
  have c14 := (HB1.out.cell (p := ⟨b0, o0 + 9, none⟩) bl0).trans x14
  go_enter Tryd.func24, Tryd.ntmps24
  go_wp2_with fail
  rw [HW1.out]
  try rw [hS]
  try go_wp2_with fail
  have tok0 : True := True.intro
  go_region_held3 (fun w' => w'.cell? ⟨S, 3, none⟩ = some (.string s) ∧ w'.cell? ⟨S, 4, none⟩ = some (.slice (some ⟨b0, o0, none⟩) 2 cap) ∧ w'.cell? ⟨b0, o0, none⟩ = some (.int .i64 u0.k) ∧ w'.cell? ⟨b0, o0 + 1, none⟩ = some (.int .i64 u0.n) ∧ w'.cell? ⟨b0, o0 + 2, none⟩ = some (.string u0.m) ∧ w'.cell? ⟨b0, o0 + 3, none⟩ = some (.string u0.s) ∧ w'.cell? ⟨b0, o0 + 4, none⟩ = some (.slice g0 u0.ks.length j0) ∧ w'.cell? ⟨b0, o0 + 5, none⟩ = some (.int .i64 u1.k) ∧ w'.cell? ⟨b0, o0 + 6, none⟩ = some (.int .i64 u1.n) ∧ w'.cell? ⟨b0, o0 + 7, none⟩ = some (.string u1.m) ∧ w'.cell? ⟨b0, o0 + 8, none⟩ = some (.string u1.s) ∧ w'.cell? ⟨b0, o0 + 9, none⟩ = some (.slice g1 u1.ks.length j1)) (go_keep)
    (first
      | (clear tok0; go_at_call 24; refine (HIH.out u0 _ _ HS0.out HN0.out (HK0.out.kept (by first | exact HB1.out | exact HB1.out.drew))).mono ?_; rw [HQ0.out]; rintro e w5 ⟨rfl, hb0⟩; have hb0' : Below W1.heap.size W1 w5 := Below.trans (B := W1.heap.size) (by first | exact Below.refl _ _ | exact (Below.refl _ _).drew) hb0; have HB5 := Lib.hid (HB1.out.trans (hb0'.mono HB1.out.size)); have HP5 := Lib.hid (HP1.out.kept hb0'); obtain ⟨_, _, _, q03, q04, q0z⟩ := HP5.out; have c000 := (HB5.out.cell (p := ⟨b0, o0, none⟩) bl0).trans x00; have c001 := (HB5.out.cell (p := ⟨b0, o0 + 1, none⟩) bl0).trans x01; have c002 := (HB5.out.cell (p := ⟨b0, o0 + 2, none⟩) bl0).trans x02; have c003 := (HB5.out.cell (p := ⟨b0, o0 + 3, none⟩) bl0).trans x03; have c004 := (HB5.out.cell (p := ⟨b0, o0 + 4, none⟩) bl0).trans x04; have c010 := (HB5.out.cell (p := ⟨b0, o0 + 5, none⟩) bl0).trans x10; have c011 := (HB5.out.cell (p := ⟨b0, o0 + 6, none⟩) bl0).trans x11; have c012 := (HB5.out.cell (p := ⟨b0, o0 + 7, none⟩) bl0).trans x12; have c013 := (HB5.out.cell (p := ⟨b0, o0 + 8, none⟩) bl0).trans x13; have c014 := (HB5.out.cell (p := ⟨b0, o0 + 9, none⟩) bl0).trans x14; clear hb0 hb0'; have tok1 : True := True.intro)
      | (clear tok1; go_at_call 24; refine (HIH.out u1 _ _ HS1.out HN1.out (HK1.out.kept (by first | exact HB5.out | exact HB5.out.drew))).mono ?_; rw [HQ1.out]; rintro e w6 ⟨rfl, hb1⟩; have hb1' : Below w5.heap.size w5 w6 := Below.trans (B := w5.heap.size) (by first | exact Below.refl _ _ | exact (Below.refl _ _).drew) hb1; have HB6 := Lib.hid (HB5.out.trans (hb1'.mono HB5.out.size)); have HP6 := Lib.hid (HP5.out.kept hb1'); obtain ⟨_, _, _, q13, q14, q1z⟩ := HP6.out; have c100 := (HB6.out.cell (p := ⟨b0, o0, none⟩) bl0).trans x00; have c101 := (HB6.out.cell (p := ⟨b0, o0 + 1, none⟩) bl0).trans x01; have c102 := (HB6.out.cell (p := ⟨b0, o0 + 2, none⟩) bl0).trans x02; have c103 := (HB6.out.cell (p := ⟨b0, o0 + 3, none⟩) bl0).trans x03; have c104 := (HB6.out.cell (p := ⟨b0, o0 + 4, none⟩) bl0).trans x04; have c110 := (HB6.out.cell (p := ⟨b0, o0 + 5, none⟩) bl0).trans x10; have c111 := (HB6.out.cell (p := ⟨b0, o0 + 6, none⟩) bl0).trans x11; have c112 := (HB6.out.cell (p := ⟨b0, o0 + 7, none⟩) bl0).trans x12; have c113 := (HB6.out.cell (p := ⟨b0, o0 + 8, none⟩) bl0).trans x13; have c114 := (HB6.out.cell (p := ⟨b0, o0 + 9, none⟩) bl0).trans x14; clear hb1 hb1'; have tok2 : True := True.intro))
  all_goals go_wp2_with fail
  all_goals go_ret
  all_goals first | exact ⟨by rw [HT.out]; rfl, HB6.out⟩ | exact ⟨by rw [HT.out]; rfl, HB6.out.drew⟩
set_option maxRecDepth 100000 in
set_option maxHeartbeats 8000000 in
theorem l3Text_7 (d : Nat) (HIH : Hid (LtT d)) (n : Int) (m s : ByteArray) (hs1 : s.size ≤ 1) (u0 u1 u2 : Ex) (a : Option Addr) (cap : Nat)
    (HKID : Hid (∀ u ∈ [u0, u1, u2], shpX d u = true ∧ ndX d u ≤ 60)) (w : World) (hx : ExAt w (.node 7 n m s [u0, u1, u2]) (.slice a 3 cap)) :
    Calls Tryd.prog 24 #[.agg #[.int .i64 7, .int .i64 n, .string m, .string s, .slice a 3 cap]] w (TextIsX (frmX (txE d) s (formX 7).data.toList [u0, u1, u2]) w) := by
  have HX := Lib.hid hx
  clear hx
  obtain ⟨b0, o0, cap0, v0, ex0, bl0, ⟨y00, y01, y02, y03, y04⟩, hk0⟩ := HX.out.kid 0 (by show 0 < 3; omega)
  obtain ⟨b1, o1, cap1, v1, ex1, bl1, ⟨y10, y11, y12, y13, y14⟩, hk1⟩ := HX.out.kid 1 (by show 1 < 3; omega)
  obtain ⟨rfl, rfl⟩ : b0 = b1 ∧ o0 = o1 := by have e := ex0.symm.trans ex1; injection e with h1 h2 h3; injection h1 with h4; injection h4 with h5 h6; exact ⟨h5, h6⟩
  obtain ⟨b2, o2, cap2, v2, ex2, bl2, ⟨y20, y21, y22, y23, y24⟩, hk2⟩ := HX.out.kid 2 (by show 2 < 3; omega)
  obtain ⟨rfl, rfl⟩ : b0 = b2 ∧ o0 = o2 := by have e := ex0.symm.trans ex2; injection e with h1 h2 h3; injection h1 with h4; injection h4 with h5 h6; exact ⟨h5, h6⟩
  obtain rfl : a = some ⟨b0, o0, none⟩ := by injection ex0
  obtain ⟨g0, j0, rfl, _⟩ := hk0.slice
  have HS0 := Lib.hid (HKID.out u0 (by simp)).1
  have HN0 := Lib.hid (HKID.out u0 (by simp)).2
  have z0 : (txE d u0).size ≤ 480 := Nat.le_trans (tx_size d _ HS0.out) (by have := HN0.out; omega)
  obtain ⟨t0, ht0⟩ : ∃ t, txE d u0 = t := ⟨_, rfl⟩
  rw [ht0] at z0
  have HQ0 := Lib.hid ht0
  have HK0 : Hid (ExAt w u0 _) := Lib.hid hk0
  have x00 : w.cell? ⟨b0, o0, none⟩ = some (.int .i64 u0.k) := y00
  have x01 : w.cell? ⟨b0, o0 + 1, none⟩ = some (.int .i64 u0.n) := y01
  have x02 : w.cell? ⟨b0, o0 + 2, none⟩ = some (.string u0.m) := y02
  have x03 : w.cell? ⟨b0, o0 + 3, none⟩ = some (.string u0.s) := y03
  have x04 : w.cell? ⟨b0, o0 + 4, none⟩ = some (.slice g0 u0.ks.length j0) := y04
  obtain ⟨g1, j1, rfl, _⟩ := hk1.slice
  have HS1 := Lib.hid (HKID.out u1 (by simp)).1
  have HN1 := Lib.hid (HKID.out u1 (by simp)).2
  have z1 : (txE d u1).size ≤ 480 := Nat.le_trans (tx_size d _ HS1.out) (by have := HN1.out; omega)
  obtain ⟨t1, ht1⟩ : ∃ t, txE d u1 = t := ⟨_, rfl⟩
  rw [ht1] at z1
  have HQ1 := Lib.hid ht1
  have HK1 : Hid (ExAt w u1 _) := Lib.hid hk1
  have x10 : w.cell? ⟨b0, o0 + 5, none⟩ = some (.int .i64 u1.k) := by have h := y10; first | exact h | (rw [show o0 + 5 = o0 + 1 * 5 + 0 from rfl]; exact h)
  have x11 : w.cell? ⟨b0, o0 + 6, none⟩ = some (.int .i64 u1.n) := by have h := y11; first | exact h | (rw [show o0 + 6 = o0 + 1 * 5 + 1 from rfl]; exact h)
  have x12 : w.cell? ⟨b0, o0 + 7, none⟩ = some (.string u1.m) := by have h := y12; first | exact h | (rw [show o0 + 7 = o0 + 1 * 5 + 2 from rfl]; exact h)
  have x13 : w.cell? ⟨b0, o0 + 8, none⟩ = some (.string u1.s) := by have h := y13; first | exact h | (rw [show o0 + 8 = o0 + 1 * 5 + 3 from rfl]; exact h)
  have x14 : w.cell? ⟨b0, o0 + 9, none⟩ = some (.slice g1 u1.ks.length j1) := by have h := y14; first | exact h | (rw [show o0 + 9 = o0 + 1 * 5 + 4 from rfl]; exact h)
  obtain ⟨g2, j2, rfl, _⟩ := hk2.slice
  have HS2 := Lib.hid (HKID.out u2 (by simp)).1
  have HN2 := Lib.hid (HKID.out u2 (by simp)).2
  have z2 : (txE d u2).size ≤ 480 := Nat.le_trans (tx_size d _ HS2.out) (by have := HN2.out; omega)
  obtain ⟨t2, ht2⟩ : ∃ t, txE d u2 = t := ⟨_, rfl⟩
  rw [ht2] at z2
  have HQ2 := Lib.hid ht2
  have HK2 : Hid (ExAt w u2 _) := Lib.hid hk2
  have x20 : w.cell? ⟨b0, o0 + 10, none⟩ = some (.int .i64 u2.k) := by have h := y20; first | exact h | (rw [show o0 + 10 = o0 + 2 * 5 + 0 from rfl]; exact h)
  have x21 : w.cell? ⟨b0, o0 + 11, none⟩ = some (.int .i64 u2.n) := by have h := y21; first | exact h | (rw [show o0 + 11 = o0 + 2 * 5 + 1 from rfl]; exact h)
  have x22 : w.cell? ⟨b0, o0 + 12, none⟩ = some (.string u2.m) := by have h := y22; first | exact h | (rw [show o0 + 12 = o0 + 2 * 5 + 2 from rfl]; exact h)
  have x23 : w.cell? ⟨b0, o0 + 13, none⟩ = some (.string u2.s) := by have h := y23; first | exact h | (rw [show o0 + 13 = o0 + 2 * 5 + 3 from rfl]; exact h)
  have x24 : w.cell? ⟨b0, o0 + 14, none⟩ = some (.slice g2 u2.ks.length j2) := by have h := y24; first | exact h | (rw [show o0 + 14 = o0 + 2 * 5 + 4 from rfl]; exact h)
  have HT : Hid (frmX (txE d) s (formX 7).data.toList [u0, u1, u2] = ⟨#[63, 60]⟩ ++ t0 ++ ⟨#[44]⟩ ++ t1 ++ ⟨#[44]⟩ ++ t2 ++ ⟨#[62]⟩) := Lib.hid (by
    have ef : (formX 7).data.toList = [63, 60, 69, 44, 69, 44, 69, 62] := by decide
    rw [ef, frm_c (by decide) (by decide), frm_c (by decide) (by decide), frm_E, frm_c (by decide) (by decide), frm_E, frm_c (by decide) (by decide), frm_E, frm_c (by decide) (by decide)]
    simp only [List.headD_cons, List.tail_cons, frm_nil, app_nil, ByteArray.append_assoc, HQ0.out, HQ1.out, HQ2.out]
    rw [← ByteArray.append_assoc, show (⟨#[63]⟩ : ByteArray) ++ ⟨#[60]⟩ = ⟨#[63, 60]⟩ from rfl])
  have E0 : ∀ W, (Op.stringOp .add (⟨#[63, 60]⟩) (t0)).run Tryd.prog W = .ok (.string (⟨#[63, 60]⟩ ++ t0)) W := fun W => run_string_add_sum _ _ _ (by (try simp only [ByteArray.size_append]); show 2 + t0.size ≤ _; omega)
  have E1 : ∀ W, (Op.stringOp .add (⟨#[63, 60]⟩ ++ t0) (⟨#[44]⟩)).run Tryd.prog W = .ok (.string (⟨#[63, 60]⟩ ++ t0 ++ ⟨#[44]⟩)) W := fun W => run_string_add_sum _ _ _ (by (try simp only [ByteArray.size_append]); show 2 + t0.size + 1 ≤ _; omega)
  have E2 : ∀ W, (Op.stringOp .add (⟨#[63, 60]⟩ ++ t0 ++ ⟨#[44]⟩) (t1)).run Tryd.prog W = .ok (.string (⟨#[63, 60]⟩ ++ t0 ++ ⟨#[44]⟩ ++ t1)) W := fun W => run_string_add_sum _ _ _ (by (try simp only [ByteArray.size_append]); show 2 + t0.size + 1 + t1.size ≤ _; omega)
  have E3 : ∀ W, (Op.stringOp .add (⟨#[63, 60]⟩ ++ t0 ++ ⟨#[44]⟩ ++ t1) (⟨#[44]⟩)).run Tryd.prog W = .ok (.string (⟨#[63, 60]⟩ ++ t0 ++ ⟨#[44]⟩ ++ t1 ++ ⟨#[44]⟩)) W := fun W => run_string_add_sum _ _ _ (by (try simp only [ByteArray.size_append]); show 2 + t0.size + 1 + t1.size + 1 ≤ _; omega)
  have E4 : ∀ W, (Op.stringOp .add (⟨#[63, 60]⟩ ++ t0 ++ ⟨#[44]⟩ ++ t1 ++ ⟨#[44]⟩) (t2)).run Tryd.prog W = .ok (.string (⟨#[63, 60]⟩ ++ t0 ++ ⟨#[44]⟩ ++ t1 ++ ⟨#[44]⟩ ++ t2)) W := fun W => run_string_add_sum _ _ _ (by (try simp only [ByteArray.size_append]); show 2 + t0.size + 1 + t1.size + 1 + t2.size ≤ _; omega)
  have E5 : ∀ W, (Op.stringOp .add (⟨#[63, 60]⟩ ++ t0 ++ ⟨#[44]⟩ ++ t1 ++ ⟨#[44]⟩ ++ t2) (⟨#[62]⟩)).run Tryd.prog W = .ok (.string (⟨#[63, 60]⟩ ++ t0 ++ ⟨#[44]⟩ ++ t1 ++ ⟨#[44]⟩ ++ t2 ++ ⟨#[62]⟩)) W := fun W => run_string_add_sum _ _ _ (by (try simp only [ByteArray.size_append]); show 2 + t0.size + 1 + t1.size + 1 + t2.size + 1 ≤ _; omega)
  clear ht0 hk0 ex0 z0 y00 y01 y02 y03 y04 ht1 hk1 ex1 z1 y10 y11 y12 y13 y14 ht2 hk2 ex2 z2 y20 y21 y22 y23 y24
  clear hs1
  obtain ⟨S, hS⟩ : ∃ S, w.heap.size = S := ⟨_, rfl⟩
  obtain ⟨W1, hW1⟩ : ∃ W, w.alloc (.cells #[.int .i64 7, .int .i64 n, .string m, .string s, .slice (some ⟨b0, o0, none⟩) 3 cap] 29) = W := ⟨_, rfl⟩
  have HB1 : Hid (Below w.heap.size w W1) := Lib.hid (by rw [← hW1]; exact (Below.refl _ _).alloc (Nat.le_refl _) _)
  have HP1 : Hid (EBox W1 S (.int .i64 7) (.int .i64 n) (.string m) (.string s) (.slice (some ⟨b0, o0, none⟩) 3 cap)) := Lib.hid (by rw [← hW1, ← hS]; exact ebox_new w _ _ _ _ _ _)
  have HW1 := Lib.hid hW1
  have HSS := Lib.hid hS
  clear hW1
  obtain ⟨p0, p1, p2, p3, p4, pz⟩ := HP1.out
  have c00 := (HB1.out.cell (p := ⟨b0, o0, none⟩) bl0).trans x00
  have c01 := (HB1.out.cell (p := ⟨b0, o0 + 1, none⟩) bl0).trans x01
  have c02 := (HB1.out.cell (p := ⟨b0, o0 + 2, none⟩) bl0).trans x02
  have c03 := (HB1.out.cell (p := ⟨b0, o0 + 3, none⟩) bl0).trans x03
  have c04 := (HB1.out.cell (p := ⟨b0, o0 + 4, none⟩) bl0).trans x04
  have c10 := (HB1.out.cell (p := ⟨b0, o0 + 5, none⟩) bl0).trans x10
  have c11 := (HB1.out.cell (p := ⟨b0, o0 + 6, none⟩) bl0).trans x11
  have c12 := (HB1.out.cell (p := ⟨b0, o0 + 7, none⟩) bl0).trans x12
  have c13 := (HB1.out.cell (p := ⟨b0, o0 + 8, none⟩) bl0).trans x13
  have c14 := (HB1.out.cell (p := ⟨b0, o0 + 9, none⟩) bl0).trans x14
  have c20 := (HB1.out.cell (p := ⟨b0, o0 + 10, none⟩) bl0).trans x20
  have c21 := (HB1.out.cell (p := ⟨b0, o0 + 11, none⟩) bl0).trans x21
  have c22 := (HB1.out.cell (p := ⟨b0, o0 + 12, none⟩) bl0).trans x22
  have c23 := (HB1.out.cell (p := ⟨b0, o0 + 13, none⟩) bl0).trans x23
  have c24 := (HB1.out.cell (p := ⟨b0, o0 + 14, none⟩) bl0).trans x24
  go_enter Tryd.func24, Tryd.ntmps24
  go_wp2_with fail
  rw [HW1.out]
  try rw [hS]
  try go_wp2_with fail
  have tok0 : True := True.intro
  go_region_held3 (fun w' => w'.cell? ⟨S, 4, none⟩ = some (.slice (some ⟨b0, o0, none⟩) 3 cap) ∧ w'.cell? ⟨b0, o0, none⟩ = some (.int .i64 u0.k) ∧ w'.cell? ⟨b0, o0 + 1, none⟩ = some (.int .i64 u0.n) ∧ w'.cell? ⟨b0, o0 + 2, none⟩ = some (.string u0.m) ∧ w'.cell? ⟨b0, o0 + 3, none⟩ = some (.string u0.s) ∧ w'.cell? ⟨b0, o0 + 4, none⟩ = some (.slice g0 u0.ks.length j0) ∧ w'.cell? ⟨b0, o0 + 5, none⟩ = some (.int .i64 u1.k) ∧ w'.cell? ⟨b0, o0 + 6, none⟩ = some (.int .i64 u1.n) ∧ w'.cell? ⟨b0, o0 + 7, none⟩ = some (.string u1.m) ∧ w'.cell? ⟨b0, o0 + 8, none⟩ = some (.string u1.s) ∧ w'.cell? ⟨b0, o0 + 9, none⟩ = some (.slice g1 u1.ks.length j1) ∧ w'.cell? ⟨b0, o0 + 10, none⟩ = some (.int .i64 u2.k) ∧ w'.cell? ⟨b0, o0 + 11, none⟩ = some (.int .i64 u2.n) ∧ w'.cell? ⟨b0, o0 + 12, none⟩ = some (.string u2.m) ∧ w'.cell? ⟨b0, o0 + 13, none⟩ = some (.string u2.s) ∧ w'.cell? ⟨b0, o0 + 14, none⟩ = some (.slice g2 u2.ks.length j2)) (go_keep)
    (first
      | (clear tok0; go_at_call 24; refine (HIH.out u0 _ _ HS0.out HN0.out (HK0.out.kept (by first | exact HB1.out | exact HB1.out.drew))).mono ?_; rw [HQ0.out]; rintro e w5 ⟨rfl, hb0⟩; have hb0' : Below W1.heap.size W1 w5 := Below.trans (B := W1.heap.size) (by first | exact Below.refl _ _ | exact (Below.refl _ _).drew) hb0; have HB5 := Lib.hid (HB1.out.trans (hb0'.mono HB1.out.size)); have HP5 := Lib.hid (HP1.out.kept hb0'); obtain ⟨_, _, _, q03, q04, q0z⟩ := HP5.out; have c000 := (HB5.out.cell (p := ⟨b0, o0, none⟩) bl0).trans x00; have c001 := (HB5.out.cell (p := ⟨b0, o0 + 1, none⟩) bl0).trans x01; have c002 := (HB5.out.cell (p := ⟨b0, o0 + 2, none⟩) bl0).trans x02; have c003 := (HB5.out.cell (p := ⟨b0, o0 + 3, none⟩) bl0).trans x03; have c004 := (HB5.out.cell (p := ⟨b0, o0 + 4, none⟩) bl0).trans x04; have c010 := (HB5.out.cell (p := ⟨b0, o0 + 5, none⟩) bl0).trans x10; have c011 := (HB5.out.cell (p := ⟨b0, o0 + 6, none⟩) bl0).trans x11; have c012 := (HB5.out.cell (p := ⟨b0, o0 + 7, none⟩) bl0).trans x12; have c013 := (HB5.out.cell (p := ⟨b0, o0 + 8, none⟩) bl0).trans x13; have c014 := (HB5.out.cell (p := ⟨b0, o0 + 9, none⟩) bl0).trans x14; have c020 := (HB5.out.cell (p := ⟨b0, o0 + 10, none⟩) bl0).trans x20; have c021 := (HB5.out.cell (p := ⟨b0, o0 + 11, none⟩) bl0).trans x21; have c022 := (HB5.out.cell (p := ⟨b0, o0 + 12, none⟩) bl0).trans x22; have c023 := (HB5.out.cell (p := ⟨b0, o0 + 13, none⟩) bl0).trans x23; have c024 := (HB5.out.cell (p := ⟨b0, o0 + 14, none⟩) bl0).trans x24; clear hb0 hb0'; have tok1 : True := True.intro)
      | (clear tok1; go_at_call 24; refine (HIH.out u1 _ _ HS1.out HN1.out (HK1.out.kept (by first | exact HB5.out | exact HB5.out.drew))).mono ?_; rw [HQ1.out]; rintro e w6 ⟨rfl, hb1⟩; have hb1' : Below w5.heap.size w5 w6 := Below.trans (B := w5.heap.size) (by first | exact Below.refl _ _ | exact (Below.refl _ _).drew) hb1; have HB6 := Lib.hid (HB5.out.trans (hb1'.mono HB5.out.size)); have HP6 := Lib.hid (HP5.out.kept hb1'); obtain ⟨_, _, _, q13, q14, q1z⟩ := HP6.out; have c100 := (HB6.out.cell (p := ⟨b0, o0, none⟩) bl0).trans x00; have c101 := (HB6.out.cell (p := ⟨b0, o0 + 1, none⟩) bl0).trans x01; have c102 := (HB6.out.cell (p := ⟨b0, o0 + 2, none⟩) bl0).trans x02; have c103 := (HB6.out.cell (p := ⟨b0, o0 + 3, none⟩) bl0).trans x03; have c104 := (HB6.out.cell (p := ⟨b0, o0 + 4, none⟩) bl0).trans x04; have c110 := (HB6.out.cell (p := ⟨b0, o0 + 5, none⟩) bl0).trans x10; have c111 := (HB6.out.cell (p := ⟨b0, o0 + 6, none⟩) bl0).trans x11; have c112 := (HB6.out.cell (p := ⟨b0, o0 + 7, none⟩) bl0).trans x12; have c113 := (HB6.out.cell (p := ⟨b0, o0 + 8, none⟩) bl0).trans x13; have c114 := (HB6.out.cell (p := ⟨b0, o0 + 9, none⟩) bl0).trans x14; have c120 := (HB6.out.cell (p := ⟨b0, o0 + 10, none⟩) bl0).trans x20; have c121 := (HB6.out.cell (p := ⟨b0, o0 + 11, none⟩) bl0).trans x21; have c122 := (HB6.out.cell (p := ⟨b0, o0 + 12, none⟩) bl0).trans x22; have c123 := (HB6.out.cell (p := ⟨b0, o0 + 13, none⟩) bl0).trans x23; have c124 := (HB6.out.cell (p := ⟨b0, o0 + 14, none⟩) bl0).trans x24; clear hb1 hb1'; have tok2 : True := True.intro)
      | (clear tok2; go_at_call 24; refine (HIH.out u2 _ _ HS2.out HN2.out (HK2.out.kept (by first | exact HB6.out | exact HB6.out.drew))).mono ?_; rw [HQ2.out]; rintro e w7 ⟨rfl, hb2⟩; have hb2' : Below w6.heap.size w6 w7 := Below.trans (B := w6.heap.size) (by first | exact Below.refl _ _ | exact (Below.refl _ _).drew) hb2; have HB7 := Lib.hid (HB6.out.trans (hb2'.mono HB6.out.size)); have HP7 := Lib.hid (HP6.out.kept hb2'); obtain ⟨_, _, _, q23, q24, q2z⟩ := HP7.out; have c200 := (HB7.out.cell (p := ⟨b0, o0, none⟩) bl0).trans x00; have c201 := (HB7.out.cell (p := ⟨b0, o0 + 1, none⟩) bl0).trans x01; have c202 := (HB7.out.cell (p := ⟨b0, o0 + 2, none⟩) bl0).trans x02; have c203 := (HB7.out.cell (p := ⟨b0, o0 + 3, none⟩) bl0).trans x03; have c204 := (HB7.out.cell (p := ⟨b0, o0 + 4, none⟩) bl0).trans x04; have c210 := (HB7.out.cell (p := ⟨b0, o0 + 5, none⟩) bl0).trans x10; have c211 := (HB7.out.cell (p := ⟨b0, o0 + 6, none⟩) bl0).trans x11; have c212 := (HB7.out.cell (p := ⟨b0, o0 + 7, none⟩) bl0).trans x12; have c213 := (HB7.out.cell (p := ⟨b0, o0 + 8, none⟩) bl0).trans x13; have c214 := (HB7.out.cell (p := ⟨b0, o0 + 9, none⟩) bl0).trans x14; have c220 := (HB7.out.cell (p := ⟨b0, o0 + 10, none⟩) bl0).trans x20; have c221 := (HB7.out.cell (p := ⟨b0, o0 + 11, none⟩) bl0).trans x21; have c222 := (HB7.out.cell (p := ⟨b0, o0 + 12, none⟩) bl0).trans x22; have c223 := (HB7.out.cell (p := ⟨b0, o0 + 13, none⟩) bl0).trans x23; have c224 := (HB7.out.cell (p := ⟨b0, o0 + 14, none⟩) bl0).trans x24; clear hb2 hb2'; have tok3 : True := True.intro))
  all_goals go_wp2_with fail
  all_goals go_ret
  all_goals first | exact ⟨by rw [HT.out]; rfl, HB7.out⟩ | exact ⟨by rw [HT.out]; rfl, HB7.out.drew⟩
set_option maxRecDepth 100000 in
set_option maxHeartbeats 8000000 in
theorem l3Text_8 (d : Nat) (HIH : Hid (LtT d)) (n : Int) (m s : ByteArray) (hs1 : s.size ≤ 1) (u0 u1 : Ex) (a : Option Addr) (cap : Nat)
    (HKID : Hid (∀ u ∈ [u0, u1], shpX d u = true ∧ ndX d u ≤ 60)) (w : World) (hx : ExAt w (.node 8 n m s [u0, u1]) (.slice a 2 cap)) :
    Calls Tryd.prog 24 #[.agg #[.int .i64 8, .int .i64 n, .string m, .string s, .slice a 2 cap]] w (TextIsX (frmX (txE d) s (formX 8).data.toList [u0, u1]) w) := by
  have HX := Lib.hid hx
  clear hx
  obtain ⟨b0, o0, cap0, v0, ex0, bl0, ⟨y00, y01, y02, y03, y04⟩, hk0⟩ := HX.out.kid 0 (by show 0 < 2; omega)
  obtain ⟨b1, o1, cap1, v1, ex1, bl1, ⟨y10, y11, y12, y13, y14⟩, hk1⟩ := HX.out.kid 1 (by show 1 < 2; omega)
  obtain ⟨rfl, rfl⟩ : b0 = b1 ∧ o0 = o1 := by have e := ex0.symm.trans ex1; injection e with h1 h2 h3; injection h1 with h4; injection h4 with h5 h6; exact ⟨h5, h6⟩
  obtain rfl : a = some ⟨b0, o0, none⟩ := by injection ex0
  obtain ⟨g0, j0, rfl, _⟩ := hk0.slice
  have HS0 := Lib.hid (HKID.out u0 (by simp)).1
  have HN0 := Lib.hid (HKID.out u0 (by simp)).2
  have z0 : (txE d u0).size ≤ 480 := Nat.le_trans (tx_size d _ HS0.out) (by have := HN0.out; omega)
  obtain ⟨t0, ht0⟩ : ∃ t, txE d u0 = t := ⟨_, rfl⟩
  rw [ht0] at z0
  have HQ0 := Lib.hid ht0
  have HK0 : Hid (ExAt w u0 _) := Lib.hid hk0
  have x00 : w.cell? ⟨b0, o0, none⟩ = some (.int .i64 u0.k) := y00
  have x01 : w.cell? ⟨b0, o0 + 1, none⟩ = some (.int .i64 u0.n) := y01
  have x02 : w.cell? ⟨b0, o0 + 2, none⟩ = some (.string u0.m) := y02
  have x03 : w.cell? ⟨b0, o0 + 3, none⟩ = some (.string u0.s) := y03
  have x04 : w.cell? ⟨b0, o0 + 4, none⟩ = some (.slice g0 u0.ks.length j0) := y04
  obtain ⟨g1, j1, rfl, _⟩ := hk1.slice
  have HS1 := Lib.hid (HKID.out u1 (by simp)).1
  have HN1 := Lib.hid (HKID.out u1 (by simp)).2
  have z1 : (txE d u1).size ≤ 480 := Nat.le_trans (tx_size d _ HS1.out) (by have := HN1.out; omega)
  obtain ⟨t1, ht1⟩ : ∃ t, txE d u1 = t := ⟨_, rfl⟩
  rw [ht1] at z1
  have HQ1 := Lib.hid ht1
  have HK1 : Hid (ExAt w u1 _) := Lib.hid hk1
  have x10 : w.cell? ⟨b0, o0 + 5, none⟩ = some (.int .i64 u1.k) := by have h := y10; first | exact h | (rw [show o0 + 5 = o0 + 1 * 5 + 0 from rfl]; exact h)
  have x11 : w.cell? ⟨b0, o0 + 6, none⟩ = some (.int .i64 u1.n) := by have h := y11; first | exact h | (rw [show o0 + 6 = o0 + 1 * 5 + 1 from rfl]; exact h)
  have x12 : w.cell? ⟨b0, o0 + 7, none⟩ = some (.string u1.m) := by have h := y12; first | exact h | (rw [show o0 + 7 = o0 + 1 * 5 + 2 from rfl]; exact h)
  have x13 : w.cell? ⟨b0, o0 + 8, none⟩ = some (.string u1.s) := by have h := y13; first | exact h | (rw [show o0 + 8 = o0 + 1 * 5 + 3 from rfl]; exact h)
  have x14 : w.cell? ⟨b0, o0 + 9, none⟩ = some (.slice g1 u1.ks.length j1) := by have h := y14; first | exact h | (rw [show o0 + 9 = o0 + 1 * 5 + 4 from rfl]; exact h)
  have HT : Hid (frmX (txE d) s (formX 8).data.toList [u0, u1] = ⟨#[40]⟩ ++ t0 ++ ⟨#[44]⟩ ++ t1 ++ ⟨#[41]⟩) := Lib.hid (by
    have ef : (formX 8).data.toList = [40, 69, 44, 69, 41] := by decide
    rw [ef, frm_c (by decide) (by decide), frm_E, frm_c (by decide) (by decide), frm_E, frm_c (by decide) (by decide)]
    simp only [List.headD_cons, List.tail_cons, frm_nil, app_nil, ByteArray.append_assoc, HQ0.out, HQ1.out])
  have E0 : ∀ W, (Op.stringOp .add (⟨#[40]⟩) (t0)).run Tryd.prog W = .ok (.string (⟨#[40]⟩ ++ t0)) W := fun W => run_string_add_sum _ _ _ (by (try simp only [ByteArray.size_append]); show 1 + t0.size ≤ _; omega)
  have E1 : ∀ W, (Op.stringOp .add (⟨#[40]⟩ ++ t0) (⟨#[44]⟩)).run Tryd.prog W = .ok (.string (⟨#[40]⟩ ++ t0 ++ ⟨#[44]⟩)) W := fun W => run_string_add_sum _ _ _ (by (try simp only [ByteArray.size_append]); show 1 + t0.size + 1 ≤ _; omega)
  have E2 : ∀ W, (Op.stringOp .add (⟨#[40]⟩ ++ t0 ++ ⟨#[44]⟩) (t1)).run Tryd.prog W = .ok (.string (⟨#[40]⟩ ++ t0 ++ ⟨#[44]⟩ ++ t1)) W := fun W => run_string_add_sum _ _ _ (by (try simp only [ByteArray.size_append]); show 1 + t0.size + 1 + t1.size ≤ _; omega)
  have E3 : ∀ W, (Op.stringOp .add (⟨#[40]⟩ ++ t0 ++ ⟨#[44]⟩ ++ t1) (⟨#[41]⟩)).run Tryd.prog W = .ok (.string (⟨#[40]⟩ ++ t0 ++ ⟨#[44]⟩ ++ t1 ++ ⟨#[41]⟩)) W := fun W => run_string_add_sum _ _ _ (by (try simp only [ByteArray.size_append]); show 1 + t0.size + 1 + t1.size + 1 ≤ _; omega)
  clear ht0 hk0 ex0 z0 y00 y01 y02 y03 y04 ht1 hk1 ex1 z1 y10 y11 y12 y13 y14
  clear hs1
  obtain ⟨S, hS⟩ : ∃ S, w.heap.size = S := ⟨_, rfl⟩
  obtain ⟨W1, hW1⟩ : ∃ W, w.alloc (.cells #[.int .i64 8, .int .i64 n, .string m, .string s, .slice (some ⟨b0, o0, none⟩) 2 cap] 29) = W := ⟨_, rfl⟩
  have HB1 : Hid (Below w.heap.size w W1) := Lib.hid (by rw [← hW1]; exact (Below.refl _ _).alloc (Nat.le_refl _) _)
  have HP1 : Hid (EBox W1 S (.int .i64 8) (.int .i64 n) (.string m) (.string s) (.slice (some ⟨b0, o0, none⟩) 2 cap)) := Lib.hid (by rw [← hW1, ← hS]; exact ebox_new w _ _ _ _ _ _)
  have HW1 := Lib.hid hW1
  have HSS := Lib.hid hS
  clear hW1
  obtain ⟨p0, p1, p2, p3, p4, pz⟩ := HP1.out
  have c00 := (HB1.out.cell (p := ⟨b0, o0, none⟩) bl0).trans x00
  have c01 := (HB1.out.cell (p := ⟨b0, o0 + 1, none⟩) bl0).trans x01
  have c02 := (HB1.out.cell (p := ⟨b0, o0 + 2, none⟩) bl0).trans x02
  have c03 := (HB1.out.cell (p := ⟨b0, o0 + 3, none⟩) bl0).trans x03
  have c04 := (HB1.out.cell (p := ⟨b0, o0 + 4, none⟩) bl0).trans x04
  have c10 := (HB1.out.cell (p := ⟨b0, o0 + 5, none⟩) bl0).trans x10
  have c11 := (HB1.out.cell (p := ⟨b0, o0 + 6, none⟩) bl0).trans x11
  have c12 := (HB1.out.cell (p := ⟨b0, o0 + 7, none⟩) bl0).trans x12
  have c13 := (HB1.out.cell (p := ⟨b0, o0 + 8, none⟩) bl0).trans x13
  have c14 := (HB1.out.cell (p := ⟨b0, o0 + 9, none⟩) bl0).trans x14
  go_enter Tryd.func24, Tryd.ntmps24
  go_wp2_with fail
  rw [HW1.out]
  try rw [hS]
  try go_wp2_with fail
  have tok0 : True := True.intro
  go_region_held3 (fun w' => w'.cell? ⟨S, 4, none⟩ = some (.slice (some ⟨b0, o0, none⟩) 2 cap) ∧ w'.cell? ⟨b0, o0, none⟩ = some (.int .i64 u0.k) ∧ w'.cell? ⟨b0, o0 + 1, none⟩ = some (.int .i64 u0.n) ∧ w'.cell? ⟨b0, o0 + 2, none⟩ = some (.string u0.m) ∧ w'.cell? ⟨b0, o0 + 3, none⟩ = some (.string u0.s) ∧ w'.cell? ⟨b0, o0 + 4, none⟩ = some (.slice g0 u0.ks.length j0) ∧ w'.cell? ⟨b0, o0 + 5, none⟩ = some (.int .i64 u1.k) ∧ w'.cell? ⟨b0, o0 + 6, none⟩ = some (.int .i64 u1.n) ∧ w'.cell? ⟨b0, o0 + 7, none⟩ = some (.string u1.m) ∧ w'.cell? ⟨b0, o0 + 8, none⟩ = some (.string u1.s) ∧ w'.cell? ⟨b0, o0 + 9, none⟩ = some (.slice g1 u1.ks.length j1)) (go_keep)
    (first
      | (clear tok0; go_at_call 24; refine (HIH.out u0 _ _ HS0.out HN0.out (HK0.out.kept (by first | exact HB1.out | exact HB1.out.drew))).mono ?_; rw [HQ0.out]; rintro e w5 ⟨rfl, hb0⟩; have hb0' : Below W1.heap.size W1 w5 := Below.trans (B := W1.heap.size) (by first | exact Below.refl _ _ | exact (Below.refl _ _).drew) hb0; have HB5 := Lib.hid (HB1.out.trans (hb0'.mono HB1.out.size)); have HP5 := Lib.hid (HP1.out.kept hb0'); obtain ⟨_, _, _, q03, q04, q0z⟩ := HP5.out; have c000 := (HB5.out.cell (p := ⟨b0, o0, none⟩) bl0).trans x00; have c001 := (HB5.out.cell (p := ⟨b0, o0 + 1, none⟩) bl0).trans x01; have c002 := (HB5.out.cell (p := ⟨b0, o0 + 2, none⟩) bl0).trans x02; have c003 := (HB5.out.cell (p := ⟨b0, o0 + 3, none⟩) bl0).trans x03; have c004 := (HB5.out.cell (p := ⟨b0, o0 + 4, none⟩) bl0).trans x04; have c010 := (HB5.out.cell (p := ⟨b0, o0 + 5, none⟩) bl0).trans x10; have c011 := (HB5.out.cell (p := ⟨b0, o0 + 6, none⟩) bl0).trans x11; have c012 := (HB5.out.cell (p := ⟨b0, o0 + 7, none⟩) bl0).trans x12; have c013 := (HB5.out.cell (p := ⟨b0, o0 + 8, none⟩) bl0).trans x13; have c014 := (HB5.out.cell (p := ⟨b0, o0 + 9, none⟩) bl0).trans x14; clear hb0 hb0'; have tok1 : True := True.intro)
      | (clear tok1; go_at_call 24; refine (HIH.out u1 _ _ HS1.out HN1.out (HK1.out.kept (by first | exact HB5.out | exact HB5.out.drew))).mono ?_; rw [HQ1.out]; rintro e w6 ⟨rfl, hb1⟩; have hb1' : Below w5.heap.size w5 w6 := Below.trans (B := w5.heap.size) (by first | exact Below.refl _ _ | exact (Below.refl _ _).drew) hb1; have HB6 := Lib.hid (HB5.out.trans (hb1'.mono HB5.out.size)); have HP6 := Lib.hid (HP5.out.kept hb1'); obtain ⟨_, _, _, q13, q14, q1z⟩ := HP6.out; have c100 := (HB6.out.cell (p := ⟨b0, o0, none⟩) bl0).trans x00; have c101 := (HB6.out.cell (p := ⟨b0, o0 + 1, none⟩) bl0).trans x01; have c102 := (HB6.out.cell (p := ⟨b0, o0 + 2, none⟩) bl0).trans x02; have c103 := (HB6.out.cell (p := ⟨b0, o0 + 3, none⟩) bl0).trans x03; have c104 := (HB6.out.cell (p := ⟨b0, o0 + 4, none⟩) bl0).trans x04; have c110 := (HB6.out.cell (p := ⟨b0, o0 + 5, none⟩) bl0).trans x10; have c111 := (HB6.out.cell (p := ⟨b0, o0 + 6, none⟩) bl0).trans x11; have c112 := (HB6.out.cell (p := ⟨b0, o0 + 7, none⟩) bl0).trans x12; have c113 := (HB6.out.cell (p := ⟨b0, o0 + 8, none⟩) bl0).trans x13; have c114 := (HB6.out.cell (p := ⟨b0, o0 + 9, none⟩) bl0).trans x14; clear hb1 hb1'; have tok2 : True := True.intro))
  all_goals go_wp2_with fail
  all_goals go_ret
  all_goals first | exact ⟨by rw [HT.out]; rfl, HB6.out⟩ | exact ⟨by rw [HT.out]; rfl, HB6.out.drew⟩
set_option maxRecDepth 100000 in
set_option maxHeartbeats 8000000 in
theorem l3Text_9 (d : Nat) (HIH : Hid (LtT d)) (n : Int) (m s : ByteArray) (hs1 : s.size ≤ 1) (u0 : Ex) (a : Option Addr) (cap : Nat)
    (HKID : Hid (∀ u ∈ [u0], shpX d u = true ∧ ndX d u ≤ 60)) (w : World) (hx : ExAt w (.node 9 n m s [u0]) (.slice a 1 cap)) :
    Calls Tryd.prog 24 #[.agg #[.int .i64 9, .int .i64 n, .string m, .string s, .slice a 1 cap]] w (TextIsX (frmX (txE d) s (formX 9).data.toList [u0]) w) := by
  have HX := Lib.hid hx
  clear hx
  obtain ⟨b0, o0, cap0, v0, ex0, bl0, ⟨y00, y01, y02, y03, y04⟩, hk0⟩ := HX.out.kid 0 (by show 0 < 1; omega)
  obtain rfl : a = some ⟨b0, o0, none⟩ := by injection ex0
  obtain ⟨g0, j0, rfl, _⟩ := hk0.slice
  have HS0 := Lib.hid (HKID.out u0 (by simp)).1
  have HN0 := Lib.hid (HKID.out u0 (by simp)).2
  have z0 : (txE d u0).size ≤ 480 := Nat.le_trans (tx_size d _ HS0.out) (by have := HN0.out; omega)
  obtain ⟨t0, ht0⟩ : ∃ t, txE d u0 = t := ⟨_, rfl⟩
  rw [ht0] at z0
  have HQ0 := Lib.hid ht0
  have HK0 : Hid (ExAt w u0 _) := Lib.hid hk0
  have x00 : w.cell? ⟨b0, o0, none⟩ = some (.int .i64 u0.k) := y00
  have x01 : w.cell? ⟨b0, o0 + 1, none⟩ = some (.int .i64 u0.n) := y01
  have x02 : w.cell? ⟨b0, o0 + 2, none⟩ = some (.string u0.m) := y02
  have x03 : w.cell? ⟨b0, o0 + 3, none⟩ = some (.string u0.s) := y03
  have x04 : w.cell? ⟨b0, o0 + 4, none⟩ = some (.slice g0 u0.ks.length j0) := y04
  have HT : Hid (frmX (txE d) s (formX 9).data.toList [u0] = ⟨#[94]⟩ ++ t0) := Lib.hid (by
    have ef : (formX 9).data.toList = [94, 69] := by decide
    rw [ef, frm_c (by decide) (by decide), frm_E]
    simp only [List.headD_cons, List.tail_cons, frm_nil, app_nil, ByteArray.append_assoc, HQ0.out])
  have E0 : ∀ W, (Op.stringOp .add (⟨#[94]⟩) (t0)).run Tryd.prog W = .ok (.string (⟨#[94]⟩ ++ t0)) W := fun W => run_string_add_sum _ _ _ (by (try simp only [ByteArray.size_append]); show 1 + t0.size ≤ _; omega)
  clear ht0 hk0 ex0 z0 y00 y01 y02 y03 y04
  clear hs1
  obtain ⟨S, hS⟩ : ∃ S, w.heap.size = S := ⟨_, rfl⟩
  obtain ⟨W1, hW1⟩ : ∃ W, w.alloc (.cells #[.int .i64 9, .int .i64 n, .string m, .string s, .slice (some ⟨b0, o0, none⟩) 1 cap] 29) = W := ⟨_, rfl⟩
  have HB1 : Hid (Below w.heap.size w W1) := Lib.hid (by rw [← hW1]; exact (Below.refl _ _).alloc (Nat.le_refl _) _)
  have HP1 : Hid (EBox W1 S (.int .i64 9) (.int .i64 n) (.string m) (.string s) (.slice (some ⟨b0, o0, none⟩) 1 cap)) := Lib.hid (by rw [← hW1, ← hS]; exact ebox_new w _ _ _ _ _ _)
  have HW1 := Lib.hid hW1
  have HSS := Lib.hid hS
  clear hW1
  obtain ⟨p0, p1, p2, p3, p4, pz⟩ := HP1.out
  have c00 := (HB1.out.cell (p := ⟨b0, o0, none⟩) bl0).trans x00
  have c01 := (HB1.out.cell (p := ⟨b0, o0 + 1, none⟩) bl0).trans x01
  have c02 := (HB1.out.cell (p := ⟨b0, o0 + 2, none⟩) bl0).trans x02
  have c03 := (HB1.out.cell (p := ⟨b0, o0 + 3, none⟩) bl0).trans x03
  have c04 := (HB1.out.cell (p := ⟨b0, o0 + 4, none⟩) bl0).trans x04
  have e00 : (w.alloc (.cells #[.int .i64 9, .int .i64 n, .string m, .string s, .slice (some ⟨b0, o0, none⟩) 1 cap] 29)).cell? ⟨b0, o0, none⟩ = some (.int .i64 u0.k) := by rw [HW1.out]; exact c00
  have e01 : (w.alloc (.cells #[.int .i64 9, .int .i64 n, .string m, .string s, .slice (some ⟨b0, o0, none⟩) 1 cap] 29)).cell? ⟨b0, o0 + 1, none⟩ = some (.int .i64 u0.n) := by rw [HW1.out]; exact c01
  have e02 : (w.alloc (.cells #[.int .i64 9, .int .i64 n, .string m, .string s, .slice (some ⟨b0, o0, none⟩) 1 cap] 29)).cell? ⟨b0, o0 + 2, none⟩ = some (.string u0.m) := by rw [HW1.out]; exact c02
  have e03 : (w.alloc (.cells #[.int .i64 9, .int .i64 n, .string m, .string s, .slice (some ⟨b0, o0, none⟩) 1 cap] 29)).cell? ⟨b0, o0 + 3, none⟩ = some (.string u0.s) := by rw [HW1.out]; exact c03
  have e04 : (w.alloc (.cells #[.int .i64 9, .int .i64 n, .string m, .string s, .slice (some ⟨b0, o0, none⟩) 1 cap] 29)).cell? ⟨b0, o0 + 4, none⟩ = some (.slice g0 u0.ks.length j0) := by rw [HW1.out]; exact c04
  go_enter Tryd.func24, Tryd.ntmps24
  go_wp2_with fail
  rw [HW1.out]
  try rw [hS]
  try go_wp2_with fail
  have tok0 : True := True.intro
  clear tok0
  go_at_call 24
  refine (HIH.out u0 _ _ HS0.out HN0.out (HK0.out.kept (by first | exact HB1.out | exact HB1.out.drew))).mono ?_
  rw [HQ0.out]
  rintro e w5 ⟨rfl, hb0⟩
  have hb0' : Below W1.heap.size W1 w5 := Below.trans (B := W1.heap.size) (by first | exact Below.refl _ _ | exact (Below.refl _ _).drew) hb0
  have HB5 := Lib.hid (HB1.out.trans (hb0'.mono HB1.out.size))
  have HP5 := Lib.hid (HP1.out.kept hb0')
  obtain ⟨_, _, _, q03, q04, q0z⟩ := HP5.out
  have c000 := (HB5.out.cell (p := ⟨b0, o0, none⟩) bl0).trans x00
  have c001 := (HB5.out.cell (p := ⟨b0, o0 + 1, none⟩) bl0).trans x01
  have c002 := (HB5.out.cell (p := ⟨b0, o0 + 2, none⟩) bl0).trans x02
  have c003 := (HB5.out.cell (p := ⟨b0, o0 + 3, none⟩) bl0).trans x03
  have c004 := (HB5.out.cell (p := ⟨b0, o0 + 4, none⟩) bl0).trans x04
  clear hb0 hb0'
  have tok1 : True := True.intro
  all_goals go_wp2_with fail
  all_goals go_ret
  all_goals first | exact ⟨by rw [HT.out]; rfl, HB5.out⟩ | exact ⟨by rw [HT.out]; rfl, HB5.out.drew⟩
set_option maxRecDepth 100000 in
set_option maxHeartbeats 8000000 in
theorem l3Text_10 (d : Nat) (HIH : Hid (LtT d)) (n : Int) (m s : ByteArray) (hs1 : s.size ≤ 1) (u0 : Ex) (a : Option Addr) (cap : Nat)
    (HKID : Hid (∀ u ∈ [u0], shpX d u = true ∧ ndX d u ≤ 60)) (w : World) (hx : ExAt w (.node 10 n m s [u0]) (.slice a 1 cap)) :
    Calls Tryd.prog 24 #[.agg #[.int .i64 10, .int .i64 n, .string m, .string s, .slice a 1 cap]] w (TextIsX (frmX (txE d) s (formX 10).data.toList [u0]) w) := by
  have HX := Lib.hid hx
  clear hx
  obtain ⟨b0, o0, cap0, v0, ex0, bl0, ⟨y00, y01, y02, y03, y04⟩, hk0⟩ := HX.out.kid 0 (by show 0 < 1; omega)
  obtain rfl : a = some ⟨b0, o0, none⟩ := by injection ex0
  obtain ⟨g0, j0, rfl, _⟩ := hk0.slice
  have HS0 := Lib.hid (HKID.out u0 (by simp)).1
  have HN0 := Lib.hid (HKID.out u0 (by simp)).2
  have z0 : (txE d u0).size ≤ 480 := Nat.le_trans (tx_size d _ HS0.out) (by have := HN0.out; omega)
  obtain ⟨t0, ht0⟩ : ∃ t, txE d u0 = t := ⟨_, rfl⟩
  rw [ht0] at z0
  have HQ0 := Lib.hid ht0
  have HK0 : Hid (ExAt w u0 _) := Lib.hid hk0
  have x00 : w.cell? ⟨b0, o0, none⟩ = some (.int .i64 u0.k) := y00
  have x01 : w.cell? ⟨b0, o0 + 1, none⟩ = some (.int .i64 u0.n) := y01
  have x02 : w.cell? ⟨b0, o0 + 2, none⟩ = some (.string u0.m) := y02
  have x03 : w.cell? ⟨b0, o0 + 3, none⟩ = some (.string u0.s) := y03
  have x04 : w.cell? ⟨b0, o0 + 4, none⟩ = some (.slice g0 u0.ks.length j0) := y04
  have HT : Hid (frmX (txE d) s (formX 10).data.toList [u0] = ⟨#[95]⟩ ++ t0) := Lib.hid (by
    have ef : (formX 10).data.toList = [95, 69] := by decide
    rw [ef, frm_c (by decide) (by decide), frm_E]
    simp only [List.headD_cons, List.tail_cons, frm_nil, app_nil, ByteArray.append_assoc, HQ0.out])
  have E0 : ∀ W, (Op.stringOp .add (⟨#[95]⟩) (t0)).run Tryd.prog W = .ok (.string (⟨#[95]⟩ ++ t0)) W := fun W => run_string_add_sum _ _ _ (by (try simp only [ByteArray.size_append]); show 1 + t0.size ≤ _; omega)
  clear ht0 hk0 ex0 z0 y00 y01 y02 y03 y04
  clear hs1
  obtain ⟨S, hS⟩ : ∃ S, w.heap.size = S := ⟨_, rfl⟩
  obtain ⟨W1, hW1⟩ : ∃ W, w.alloc (.cells #[.int .i64 10, .int .i64 n, .string m, .string s, .slice (some ⟨b0, o0, none⟩) 1 cap] 29) = W := ⟨_, rfl⟩
  have HB1 : Hid (Below w.heap.size w W1) := Lib.hid (by rw [← hW1]; exact (Below.refl _ _).alloc (Nat.le_refl _) _)
  have HP1 : Hid (EBox W1 S (.int .i64 10) (.int .i64 n) (.string m) (.string s) (.slice (some ⟨b0, o0, none⟩) 1 cap)) := Lib.hid (by rw [← hW1, ← hS]; exact ebox_new w _ _ _ _ _ _)
  have HW1 := Lib.hid hW1
  have HSS := Lib.hid hS
  clear hW1
  obtain ⟨p0, p1, p2, p3, p4, pz⟩ := HP1.out
  have c00 := (HB1.out.cell (p := ⟨b0, o0, none⟩) bl0).trans x00
  have c01 := (HB1.out.cell (p := ⟨b0, o0 + 1, none⟩) bl0).trans x01
  have c02 := (HB1.out.cell (p := ⟨b0, o0 + 2, none⟩) bl0).trans x02
  have c03 := (HB1.out.cell (p := ⟨b0, o0 + 3, none⟩) bl0).trans x03
  have c04 := (HB1.out.cell (p := ⟨b0, o0 + 4, none⟩) bl0).trans x04
  have e00 : (w.alloc (.cells #[.int .i64 10, .int .i64 n, .string m, .string s, .slice (some ⟨b0, o0, none⟩) 1 cap] 29)).cell? ⟨b0, o0, none⟩ = some (.int .i64 u0.k) := by rw [HW1.out]; exact c00
  have e01 : (w.alloc (.cells #[.int .i64 10, .int .i64 n, .string m, .string s, .slice (some ⟨b0, o0, none⟩) 1 cap] 29)).cell? ⟨b0, o0 + 1, none⟩ = some (.int .i64 u0.n) := by rw [HW1.out]; exact c01
  have e02 : (w.alloc (.cells #[.int .i64 10, .int .i64 n, .string m, .string s, .slice (some ⟨b0, o0, none⟩) 1 cap] 29)).cell? ⟨b0, o0 + 2, none⟩ = some (.string u0.m) := by rw [HW1.out]; exact c02
  have e03 : (w.alloc (.cells #[.int .i64 10, .int .i64 n, .string m, .string s, .slice (some ⟨b0, o0, none⟩) 1 cap] 29)).cell? ⟨b0, o0 + 3, none⟩ = some (.string u0.s) := by rw [HW1.out]; exact c03
  have e04 : (w.alloc (.cells #[.int .i64 10, .int .i64 n, .string m, .string s, .slice (some ⟨b0, o0, none⟩) 1 cap] 29)).cell? ⟨b0, o0 + 4, none⟩ = some (.slice g0 u0.ks.length j0) := by rw [HW1.out]; exact c04
  go_enter Tryd.func24, Tryd.ntmps24
  go_wp2_with fail
  rw [HW1.out]
  try rw [hS]
  try go_wp2_with fail
  have tok0 : True := True.intro
  clear tok0
  go_at_call 24
  refine (HIH.out u0 _ _ HS0.out HN0.out (HK0.out.kept (by first | exact HB1.out | exact HB1.out.drew))).mono ?_
  rw [HQ0.out]
  rintro e w5 ⟨rfl, hb0⟩
  have hb0' : Below W1.heap.size W1 w5 := Below.trans (B := W1.heap.size) (by first | exact Below.refl _ _ | exact (Below.refl _ _).drew) hb0
  have HB5 := Lib.hid (HB1.out.trans (hb0'.mono HB1.out.size))
  have HP5 := Lib.hid (HP1.out.kept hb0')
  obtain ⟨_, _, _, q03, q04, q0z⟩ := HP5.out
  have c000 := (HB5.out.cell (p := ⟨b0, o0, none⟩) bl0).trans x00
  have c001 := (HB5.out.cell (p := ⟨b0, o0 + 1, none⟩) bl0).trans x01
  have c002 := (HB5.out.cell (p := ⟨b0, o0 + 2, none⟩) bl0).trans x02
  have c003 := (HB5.out.cell (p := ⟨b0, o0 + 3, none⟩) bl0).trans x03
  have c004 := (HB5.out.cell (p := ⟨b0, o0 + 4, none⟩) bl0).trans x04
  clear hb0 hb0'
  have tok1 : True := True.intro
  all_goals go_wp2_with fail
  all_goals go_ret
  all_goals first | exact ⟨by rw [HT.out]; rfl, HB5.out⟩ | exact ⟨by rw [HT.out]; rfl, HB5.out.drew⟩
set_option maxRecDepth 100000 in
set_option maxHeartbeats 4000000 in
theorem l3Text_num (n : Int) (h0 : 0 ≤ n) (h9 : n ≤ 99) (m s : ByteArray) (a : Option Addr) (l cap : Nat) (w : World) :
    Calls Tryd.prog 24 #[.agg #[.int .i64 1, .int .i64 n, .string m, .string s, .slice a l cap]] w (TextIsX (decB n) w) := by
  have H0 := Lib.hid h0
  have H9 := Lib.hid h9
  clear h0 h9
  go_enter Tryd.func24, Tryd.ntmps24
  go_wp2_with fail
  go_at_call 47
  refine (l16Dec_any n H0.out H9.out _).mono ?_
  rintro e w6 ⟨rfl, hb6⟩
  have HB6 : Hid (Below w.heap.size w w6) := Lib.hid (((Below.refl _ _).alloc (Nat.le_refl _) _).trans (hb6.mono (by simp)))
  clear hb6
  go_wp2_with fail
  go_ret
  exact ⟨rfl, HB6.out⟩
set_option maxRecDepth 100000 in
set_option maxHeartbeats 4000000 in
theorem l3Text_name (n : Int) (m s : ByteArray) (hm : m.size ≤ 1) (hs : s.size ≤ 1) (a : Option Addr) (l cap : Nat) (w : World) :
    Calls Tryd.prog 24 #[.agg #[.int .i64 2, .int .i64 n, .string m, .string s, .slice a l cap]] w (TextIsX (pathB m s) w) := by
  have HM := Lib.hid hm
  have HS := Lib.hid hs
  clear hm hs
  go_enter Tryd.func24, Tryd.ntmps24
  go_wp2_with fail
  go_at_call 48
  refine (l3Path_any m s HM.out HS.out _).mono ?_
  rintro e w6 ⟨rfl, rfl⟩
  go_wp2_with fail
  go_ret
  exact ⟨rfl, (Below.refl _ _).alloc (Nat.le_refl _) _⟩
theorem l3Text_any : ∀ d, LtT d := by
  intro d
  induction d with
  | zero => intro x v w h; cases h
  | succ d ih =>
    intro x v w hs hn hx
    obtain ⟨hf, hk⟩ := shpX_iff.1 hs
    cases x with
    | node k n m s ks =>
      have hf' : fieldsX k n m s ks.length = true := hf
      obtain ⟨hm, hs1⟩ := fields_small hf'
      obtain ⟨a, cap, rfl, hlen⟩ := hx.slice
      show Calls _ _ #[.agg #[.int .i64 k, .int .i64 n, .string m, .string s, .slice a ks.length cap]] w _
      rcases fields_kind hf' with ⟨rfl, h0, h9, hl⟩ | ⟨rfl, hl⟩ | hrest
      · exact (l3Text_num n h0 h9 m s a ks.length cap w).mono (fun e w' h => h.of (by unfold txE; rw [if_pos rfl]))
      · exact (l3Text_name n m s hm hs1 a ks.length cap w).mono (fun e w' h => h.of (by unfold txE; rw [if_neg (by decide), if_pos rfl]))
      have hT : txE (d + 1) (.node k n m s ks) = frmX (txE d) s (formX k).data.toList ks := by unfold txE; rw [if_neg (by omega), if_neg (by omega)]
      rw [hT]
      have HKD : ∀ u ∈ ks, shpX d u = true ∧ ndX d u ≤ 60 := by
        intro u hu
        obtain ⟨i, hi, rfl⟩ := List.getElem_of_mem hu
        have h1 := hk i hi
        have h2 := nd_kid d (.node k n m s ks) i hi
        have e : (Ex.node k n m s ks).ks.getD i Ex.dummy = ks[i] := by show ks.getD i Ex.dummy = _; simp [List.getD, hi]
        rw [e] at h1 h2
        exact ⟨h1, Nat.le_trans (Nat.le_of_lt h2) hn⟩
      rcases hrest with ⟨rfl, hl⟩ | ⟨rfl, hl⟩ | ⟨rfl, hl⟩ | ⟨rfl, hl⟩ | ⟨rfl, hl⟩ | ⟨rfl, hl⟩ | ⟨rfl, hl⟩ | ⟨rfl, hl⟩
      · obtain ⟨u0, rfl⟩ := len_one hl; exact l3Text_3 d (Lib.hid ih) n m s hs1 u0 a cap (Lib.hid HKD) w hx
      · obtain ⟨u0, u1, rfl⟩ := len_two hl; exact l3Text_4 d (Lib.hid ih) n m s hs1 u0 u1 a cap (Lib.hid HKD) w hx
      · obtain ⟨u0, u1, rfl⟩ := len_two hl; exact l3Text_5 d (Lib.hid ih) n m s hs1 u0 u1 a cap (Lib.hid HKD) w hx
      · obtain ⟨u0, u1, rfl⟩ := len_two hl; exact l3Text_6 d (Lib.hid ih) n m s hs1 u0 u1 a cap (Lib.hid HKD) w hx
      · obtain ⟨u0, u1, u2, rfl⟩ := len_three hl; exact l3Text_7 d (Lib.hid ih) n m s hs1 u0 u1 u2 a cap (Lib.hid HKD) w hx
      · obtain ⟨u0, u1, rfl⟩ := len_two hl; exact l3Text_8 d (Lib.hid ih) n m s hs1 u0 u1 a cap (Lib.hid HKD) w hx
      · obtain ⟨u0, rfl⟩ := len_one hl; exact l3Text_9 d (Lib.hid ih) n m s hs1 u0 a cap (Lib.hid HKD) w hx
      · obtain ⟨u0, rfl⟩ := len_one hl; exact l3Text_10 d (Lib.hid ih) n m s hs1 u0 a cap (Lib.hid HKD) w hx
set_option maxRecDepth 100000 in
set_option maxHeartbeats 4000000 in
theorem formatExpr_spec (x : Ex) (v : Value) (w : World) (hx : ExAt w x v) :
    Calls Tryd.prog 7 #[.agg #[.int .i64 x.k, .int .i64 x.n, .string x.m, .string x.s, v]] w (TextIsX (fmtB x) w) := by
  obtain ⟨a, cap, rfl, hlen⟩ := hx.slice
  have HX := Lib.hid hx
  obtain ⟨S, hS⟩ : ∃ S, w.heap.size = S := ⟨_, rfl⟩
  have HS := Lib.hid hS
  obtain ⟨W1, hW1⟩ : ∃ W, w.alloc (.cells #[.int .i64 x.k, .int .i64 x.n, .string x.m, .string x.s, .slice a x.ks.length cap] 29) = W := ⟨_, rfl⟩
  have hb1 : Below w.heap.size w W1 := by rw [← hW1]; exact (Below.refl _ _).alloc (Nat.le_refl _) _
  have HB1 := Lib.hid hb1
  have HP1 : Hid (EBox W1 S (.int .i64 x.k) (.int .i64 x.n) (.string x.m) (.string x.s) (.slice a x.ks.length cap)) := Lib.hid (by rw [← hW1, ← hS]; exact ebox_new w _ _ _ _ _ _)
  have HX1 := Lib.hid (hx.kept hb1)
  have HW1 := Lib.hid hW1
  obtain ⟨q, hq⟩ : ∃ q, okX 12 x = q := ⟨_, rfl⟩
  have HV := Lib.hid hq
  clear hx hb1 hW1 hq
  obtain ⟨p0, p1, p2, p3, p4, pz⟩ := HP1.out
  go_enter Tryd.func7, Tryd.ntmps7
  go_wp2_with fail
  rw [HW1.out]
  try rw [hS]
  go_at_call 23
  refine (exprValid_spec x _ _ HX1.out).mono ?_
  rintro e w2 ⟨rfl, hb2⟩
  rw [HV.out]
  have HP2 := Lib.hid (HP1.out.kept hb2)
  have HX2 := Lib.hid (HX1.out.kept hb2)
  have HB2 : Hid (Below w.heap.size w w2) := Lib.hid (HB1.out.trans (hb2.mono HB1.out.size))
  clear hb2 p0 p1 p2 p3 p4 pz
  obtain ⟨p0, p1, p2, p3, p4, pz⟩ := HP2.out
  cases q with
  | false =>
    have HR : Hid (fmtB x = ⟨#[]⟩) := Lib.hid (by unfold fmtB; rw [HV.out]; rfl)
    go_wp2_with fail
    go_ret
    exact ⟨by rw [HR.out]; rfl, HB2.out⟩
  | true =>
    have HR : Hid (fmtB x = txE 12 x) := Lib.hid (by unfold fmtB; rw [if_pos HV.out])
    have HOK := Lib.hid (okX_iff.1 HV.out)
    go_wp2_with fail
    go_at_call 24
    refine (l3Text_any 12 x _ _ HOK.out.1 HOK.out.2 HX2.out).mono ?_
    rintro e w3 ⟨rfl, hb3⟩
    have HB3 : Hid (Below w.heap.size w w3) := Lib.hid (HB2.out.trans (hb3.mono HB2.out.size))
    clear hb3
    go_wp2_with fail
    go_ret
    exact ⟨by rw [HR.out]; rfl, HB3.out⟩

end Go.Proofs.YtmoclinccmhijaaDoor.Ox
