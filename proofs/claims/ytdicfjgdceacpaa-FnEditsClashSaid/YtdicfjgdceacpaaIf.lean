/-
  What the draws of a text and two edits return. Nothing that was in memory changes.
  Conditions: the bytes that are drawn from can be read.
-/
import Derived.Test.YtdicfjgdceacpaaProg
import Derived.Test.YtdicfjgdceacpaaIe
import Derived.Test.YtdicfjgdceacpaaUd
import Derived.Deep.RegionHeld3
import Derived.Deep.RegionWith
import Derived.Deep.DeepCutAuto
namespace Go.Proofs.Ytdicfjgdceacpaa
open Go.RowKit
set_option linter.unusedVariables false
set_option linter.unusedSimpArgs false

/-- A reader behind two empty edits. -/
structure DS (v w : World) (a : Option Addr) (len cap : Nat) (zs : List Int) (p : Nat) : Prop where
  r : Rd w (v.heap.size + 1 + 1) a len cap zs p
  P : EdAt w v.heap.size 0 0 ⟨#[]⟩
  Q : EdAt w (v.heap.size + 1) 0 0 ⟨#[]⟩
  bel : Below v.heap.size v w
theorem DS.move {v w w' : World} {a : Option Addr} {len cap : Nat} {zs : List Int} {p q : Nat} (h : DS v w a len cap zs p) (hd : Dw (v.heap.size + 1 + 1) w w') (hr : Rd w' (v.heap.size + 1 + 1) a len cap zs q) : DS v w' a len cap zs q :=
  ⟨hr, h.P.kept hd (by omega), h.Q.kept hd (by omega), h.bel.trans (hd.below (by omega) h.bel.size)⟩
/-- And an edit in a variable. -/
structure DX (v w : World) (a : Option Addr) (len cap : Nat) (zs : List Int) (p X : Nat) (f t : Int) (i : ByteArray) : Prop where
  d : DS v w a len cap zs p
  x : EdAt w X f t i
  hx : v.heap.size + 1 + 1 < X
theorem DX.move {v w w' : World} {a : Option Addr} {len cap : Nat} {zs : List Int} {p q X : Nat} {f t : Int} {i : ByteArray} (h : DX v w a len cap zs p X f t i) (hd : Dw (v.heap.size + 1 + 1) w w') (hr : Rd w' (v.heap.size + 1 + 1) a len cap zs q) : DX v w' a len cap zs q X f t i :=
  ⟨h.d.move hd hr, h.x.kept hd (by have := h.hx; omega), h.hx⟩
theorem DS.add {v w : World} {a : Option Addr} {len cap : Nat} {zs : List Int} {p : Nat} (h : DS v w a len cap zs p) (f t : Int) (i : ByteArray) : DX v (w.alloc (.cells #[.int .i64 f, .int .i64 t, .string i] 24)) a len cap zs p w.heap.size f t i :=
  ⟨h.move ((Dw.refl _ _).alloc _) (h.r.alloc _), edAt_new w f t i _, h.r.big⟩
/-- And two edits in variables. -/
structure DU (v w : World) (a : Option Addr) (len cap : Nat) (zs : List Int) (p X Y : Nat) (f t : Int) (i : ByteArray) (g u : Int) (j : ByteArray) : Prop where
  d : DX v w a len cap zs p X f t i
  y : EdAt w Y g u j
  hy : v.heap.size + 1 + 1 < Y
  ne : ¬ X = Y
theorem DU.move {v w w' : World} {a : Option Addr} {len cap : Nat} {zs : List Int} {p q X Y : Nat} {f t : Int} {i : ByteArray} {g u : Int} {j : ByteArray} (h : DU v w a len cap zs p X Y f t i g u j) (hd : Dw (v.heap.size + 1 + 1) w w') (hr : Rd w' (v.heap.size + 1 + 1) a len cap zs q) : DU v w' a len cap zs q X Y f t i g u j :=
  ⟨h.d.move hd hr, h.y.kept hd (by have := h.hy; omega), h.hy, h.ne⟩
theorem DU.drew {v w : World} {a : Option Addr} {len cap : Nat} {zs : List Int} {p X Y : Nat} {f t : Int} {i : ByteArray} {g u : Int} {j : ByteArray} (h : DU v w a len cap zs p X Y f t i g u j) : DU v w.drew a len cap zs p X Y f t i g u j :=
  h.move (Dw.refl _ _).drew h.d.d.r.drew
theorem DX.add {v w : World} {a : Option Addr} {len cap : Nat} {zs : List Int} {p X : Nat} {f t : Int} {i : ByteArray} (h : DX v w a len cap zs p X f t i) (g u : Int) (j : ByteArray) : DU v (w.alloc (.cells #[.int .i64 g, .int .i64 u, .string j] 24)) a len cap zs p X w.heap.size f t i g u j :=
  ⟨h.move ((Dw.refl _ _).alloc _) (h.d.r.alloc _), edAt_new w g u j _, h.d.r.big, by have := h.x.sz; omega⟩
theorem edAt_set2 {w : World} {E : Nat} {f t : Int} {i : ByteArray} (h : EdAt w E f t i) (v : ByteArray) : EdAt (w.setCell ⟨E, 2, none⟩ (.string v)) E f t v := by
  obtain ⟨a0, a1, a2, b0, b1, b2, sz⟩ := h
  exact ⟨by go_simp, by go_simp, by go_simp, by go_simp, by go_simp, by go_simp, by simpa using sz⟩
theorem DU.set {v w : World} {a : Option Addr} {len cap : Nat} {zs : List Int} {p X Y : Nat} {f t : Int} {i : ByteArray} {g u : Int} {j : ByteArray} (h : DU v w a len cap zs p X Y f t i g u j) (m n : Int) (k : ByteArray) :
    DU v (((w.setCell ⟨Y, 0, none⟩ (.int .i64 m)).setCell ⟨Y, 1, none⟩ (.int .i64 n)).setCell ⟨Y, 2, none⟩ (.string k)) a len cap zs p X Y f t i m n k := by
  have hy := h.hy
  have ne := h.ne
  obtain ⟨⟨⟨r, P, Q, bel⟩, x, hx⟩, y, _, _⟩ := h
  exact ⟨⟨⟨((r.setNew hy _ _).setNew hy _ _).setNew hy _ _, ((P.other (by omega) _ _).other (by omega) _ _).other (by omega) _ _, ((Q.other (by omega) _ _).other (by omega) _ _).other (by omega) _ _, below_set3 bel (by omega)⟩, ((x.other ne _ _).other ne _ _).other ne _ _, hx⟩, edAt_set2 ((y.set0 m).set1 n) k, hy, ne⟩

/-- What the draw of a text, two edits and a bit leaves. -/
def TrPost (w : World) (e : Ending) (w' : World) : Prop :=
  ∃ (s : ByteArray) (f t : Int) (i : ByteArray) (g u : Int) (j : ByteArray) (c : Bool), s.size ≤ 2010 ∧ i.size ≤ 16 ∧ j.size ≤ 16 ∧ e = .returned (.tuple #[.string s, .agg #[.int .i64 f, .int .i64 t, .string i], .agg #[.int .i64 g, .int .i64 u, .string j], .bool c]) ∧ Below w.heap.size w w'
/-- What the draw of a text and two edits leaves. -/
def TePost (w : World) (e : Ending) (w' : World) : Prop :=
  ∃ (s : ByteArray) (f t : Int) (i : ByteArray) (g u : Int) (j : ByteArray), s.size ≤ 2010 ∧ i.size ≤ 16 ∧ j.size ≤ 16 ∧ e = .returned (.tuple #[.string s, .agg #[.int .i64 f, .int .i64 t, .string i], .agg #[.int .i64 g, .int .i64 u, .string j]]) ∧ Below w.heap.size w w'
theorem twoZ (w : World) : EdAt ((w.alloc (.cells #[.int .i64 0, .int .i64 0, .string ⟨#[]⟩] 24)).alloc (.cells #[.int .i64 0, .int .i64 0, .string ⟨#[]⟩] 24)) w.heap.size 0 0 ⟨#[]⟩ ∧ EdAt ((w.alloc (.cells #[.int .i64 0, .int .i64 0, .string ⟨#[]⟩] 24)).alloc (.cells #[.int .i64 0, .int .i64 0, .string ⟨#[]⟩] 24)) (w.heap.size + 1) 0 0 ⟨#[]⟩ ∧ Below w.heap.size w ((w.alloc (.cells #[.int .i64 0, .int .i64 0, .string ⟨#[]⟩] 24)).alloc (.cells #[.int .i64 0, .int .i64 0, .string ⟨#[]⟩] 24)) := by
  refine ⟨(edAt_new w 0 0 ⟨#[]⟩ 24).below ((Below.refl _ _).alloc (Nat.le_refl _) _), ?_, ((Below.refl _ _).alloc (Nat.le_refl _) _).alloc (by simp) _⟩
  have h := edAt_new (w.alloc (.cells #[.int .i64 0, .int .i64 0, .string ⟨#[]⟩] 24)) 0 0 ⟨#[]⟩ 24
  rw [sizeE] at h
  exact h

set_option maxHeartbeats 8000000 in
theorem drawTransformEdit_any (a : Option Addr) (len cap : Nat) (zs : List Int) (w : World) (h : IsRow w a len cap zs) :
    Calls Try.prog 17 #[.slice a len cap] w (TrPost w) := by
  have HRow := Lib.hid h
  clear h
  obtain ⟨W2, hW2⟩ : ∃ W, (w.alloc (.cells #[.int .i64 0, .int .i64 0, .string ⟨#[]⟩] 24)).alloc (.cells #[.int .i64 0, .int .i64 0, .string ⟨#[]⟩] 24) = W := ⟨_, rfl⟩
  have HZ : Hid (EdAt W2 w.heap.size 0 0 ⟨#[]⟩ ∧ EdAt W2 (w.heap.size + 1) 0 0 ⟨#[]⟩ ∧ Below w.heap.size w W2) := Lib.hid (hW2 ▸ twoZ w)
  have hs2 : W2.heap.size = w.heap.size + 1 + 1 := by rw [← hW2]; simp
  have HS2 := Lib.hid hs2
  have HW2 := Lib.hid hW2
  clear hW2 hs2
  go_enter Try.func17, Try.ntmps17
  go_wp2_with fail
  rw [HW2.out]
  go_at_call 43
  refine (l16Open_any a len cap zs _ (HRow.out.kept HZ.out.2.2)).mono ?_
  rintro e w1 ⟨len1, cap1, rfl, hr1, hb1⟩
  rw [HS2.out] at hr1 ⊢
  have HD1 : Hid (DS w w1 a len1 cap1 zs 0) := Lib.hid ⟨hr1, HZ.out.1.below hb1, HZ.out.2.1.below hb1, HZ.out.2.2.trans (hb1.mono HZ.out.2.2.size)⟩
  clear hr1 hb1
  go_wp2_with fail
  go_at_call 44
  refine (l1Text_any _ _ _ _ _ _ _ HD1.out.r (by omega)).mono ?_
  rintro e w2 ⟨s, hs, rfl, hd2, hr2⟩
  have HS := Lib.hid hs
  have HD2 := Lib.hid (HD1.out.move hd2 hr2)
  clear hd2 hr2
  go_wp2_with fail
  go_at_call 45
  refine (l1Edit_any _ _ _ _ _ _ s w2 HD2.out.r (by omega) hs).mono ?_
  rintro e w3 ⟨f, t, i, r3, hi, hr3b, rfl, hd3, hr3⟩
  have HI := Lib.hid hi
  have HD3 := Lib.hid ((HD2.out.move hd3 hr3).add f t i)
  clear hd3 hr3 hi
  go_wp2_with fail
  generalize w3.alloc _ = w4 at *
  generalize w3.heap.size = X at *
  (try go_wp2_with fail)
  go_at_call 45
  refine (l1Edit_any _ _ _ _ _ _ s w4 HD3.out.d.r (by omega) hs).mono ?_
  rintro e w5 ⟨g, u, j, r5, hj, hr5b, rfl, hd5, hr5⟩
  have HJ := Lib.hid hj
  have HD5 := Lib.hid ((HD3.out.move hd5 hr5).add g u j)
  clear hd5 hr5 hj hs
  go_wp2_with fail
  generalize w5.alloc _ = w6 at *
  generalize w5.heap.size = Y at *
  (try go_wp2_with fail)
  go_at_call 46
  refine (pick_any _ _ _ _ _ _ 4 _ HD5.out.d.d.r (by omega) (by omega) (by omega)).mono ?_
  rintro e w7 ⟨q, hq, rfl, k7, hw7⟩
  have HD7 := Lib.hid (HD5.out.move (Dw.pick hw7) (HD5.out.d.d.r.picked hw7))
  clear hw7
  obtain ⟨⟨⟨_, ⟨p0, p1, p2, p3, p4, p5, p6⟩, ⟨q0, q1, q2, q3, q4, q5, q6⟩, _⟩, ⟨x0, x1, x2, x3, x4, x5, x6⟩, hx⟩, ⟨y0, y1, y2, y3, y4, y5, y6⟩, hy, ne⟩ := HD7.out
  have v0 : ¬ X = w.heap.size := by omega
  have v1 : ¬ w.heap.size = X := by omega
  have v2 : ¬ X = w.heap.size + 1 := by omega
  have v3 : ¬ w.heap.size + 1 = X := by omega
  have v4 : ¬ Y = w.heap.size := by omega
  have v5 : ¬ w.heap.size = Y := by omega
  have v6 : ¬ Y = w.heap.size + 1 := by omega
  have v7 : ¬ w.heap.size + 1 = Y := by omega
  have v8 : ¬ Y = X := by omega
  have v9 : ¬ w.heap.size = w.heap.size + 1 := by omega
  have v10 : ¬ w.heap.size + 1 = w.heap.size := by omega
  by_cases hq0 : q = 0
  case neg =>
    have e0 : ((q : Int) == 0) = false := by simp; omega
    clear hq0
    go_wp2_with fail
    have HUd := Lib.hid HD7.out.drew
    go_region_held3 (fun w' => w'.cell? ⟨X, 0, none⟩ = some (.int .i64 f) ∧ w'.cell? ⟨X, 1, none⟩ = some (.int .i64 t) ∧ w'.cell? ⟨X, 2, none⟩ = some (.string i) ∧ w'.cell? ⟨Y, 0, none⟩ = some (.int .i64 g) ∧ w'.cell? ⟨Y, 1, none⟩ = some (.int .i64 u) ∧ w'.cell? ⟨Y, 2, none⟩ = some (.string j)) (first | go_keep | go_simp)
      (first | (go_at_call 46; refine (pick_any _ _ _ _ _ _ 2 _ HUd.out.d.d.r (by omega) (by omega) (by omega)).mono ?_; rintro e w8 ⟨q2, hq2, rfl, k8, hw8⟩; have HU8 := Lib.hid (HUd.out.move (Dw.pick hw8) (HUd.out.d.d.r.picked hw8)); clear hw8; obtain ⟨⟨⟨_, ⟨p0e, p1e, p2e, p3e, p4e, p5e, p6e⟩, ⟨q0e, q1e, q2e, q3e, q4e, q5e, q6e⟩, _⟩, ⟨x0e, x1e, x2e, x3e, x4e, x5e, x6e⟩, hxe⟩, ⟨y0e, y1e, y2e, y3e, y4e, y5e, y6e⟩, hye, nee⟩ := HU8.out))
    all_goals go_wp2_with fail
    all_goals exact bodyPost_ret (v := .tuple #[.string s, .agg #[.int .i64 f, .int .i64 t, .string i], .agg #[.int .i64 g, .int .i64 u, .string j], .bool ((q2 : Int) == 0)]) (by simp [results, Try.results17, go_sem, p0e, p1e, p2e, q0e, q1e, q2e]) rfl ⟨s, f, t, i, g, u, j, _, HS.out, HI.out, HJ.out, rfl, below_set3 (below_set3 HU8.out.d.d.bel (Nat.le_refl _)) (Nat.le_succ _)⟩
  case pos =>
    subst hq0
    go_wp2_with fail
    have HUf := Lib.hid HD7.out.drew
    go_cut [] (fun wx => ∃ (j2 : ByteArray) (p2 : Nat), p2 ≤ 100 ∧ Hid (j2.size ≤ 16) ∧ Hid (DU w wx a len1 cap1 zs p2 X Y f t i f f j2))
    case first =>
      go_region_held3 (fun w' => w'.cell? ⟨X, 0, none⟩ = some (.int .i64 f)) (first | go_keep | go_simp)
        (first | (go_at_call 47; refine (l1Insert_any _ _ _ _ _ _ _ HUf.out.d.d.r (by omega)).mono ?_; rintro e w8 ⟨j2, hj2, rfl, hd8, hr8⟩; have HU8 := Lib.hid (HUf.out.move hd8 hr8); clear hd8 hr8; obtain ⟨⟨⟨_, ⟨p0e, p1e, p2e, p3e, p4e, p5e, p6e⟩, ⟨q0e, q1e, q2e, q3e, q4e, q5e, q6e⟩, _⟩, ⟨x0e, x1e, x2e, x3e, x4e, x5e, x6e⟩, hxe⟩, ⟨y0e, y1e, y2e, y3e, y4e, y5e, y6e⟩, hye, nee⟩ := HU8.out))
      all_goals
        go_wp2_with fail
        go_meet
        exact ⟨j2, _, by omega, Lib.hid hj2, Lib.hid (HU8.out.set _ _ _)⟩
    case rest =>
      obtain ⟨j2, np, hnp, HJ2, HUg⟩ := hcut
      clear p0 p1 p2 p3 p4 p5 p6 q0 q1 q2 q3 q4 q5 q6 x0 x1 x2 x3 x4 x5 x6 y0 y1 y2 y3 y4 y5 y6 hx hy ne
      obtain ⟨⟨⟨_, ⟨p0, p1, p2, p3, p4, p5, p6⟩, ⟨q0, q1, q2, q3, q4, q5, q6⟩, _⟩, ⟨x0, x1, x2, x3, x4, x5, x6⟩, hx⟩, ⟨y0, y1, y2, y3, y4, y5, y6⟩, hy, ne⟩ := HUg.out
      go_wp2_with fail
      have HUd := Lib.hid HUg.out.drew
      go_region_held3 (fun w' => w'.cell? ⟨X, 0, none⟩ = some (.int .i64 f) ∧ w'.cell? ⟨X, 1, none⟩ = some (.int .i64 t) ∧ w'.cell? ⟨X, 2, none⟩ = some (.string i) ∧ w'.cell? ⟨Y, 0, none⟩ = some (.int .i64 f) ∧ w'.cell? ⟨Y, 1, none⟩ = some (.int .i64 f) ∧ w'.cell? ⟨Y, 2, none⟩ = some (.string j2)) (first | go_keep | go_simp)
        (first | (go_at_call 46; refine (pick_any _ _ _ _ _ _ 2 _ HUd.out.d.d.r (by omega) (by omega) (by omega)).mono ?_; rintro e w8 ⟨q2, hq2, rfl, k8, hw8⟩; have HU8 := Lib.hid (HUd.out.move (Dw.pick hw8) (HUd.out.d.d.r.picked hw8)); clear hw8; obtain ⟨⟨⟨_, ⟨p0e, p1e, p2e, p3e, p4e, p5e, p6e⟩, ⟨q0e, q1e, q2e, q3e, q4e, q5e, q6e⟩, _⟩, ⟨x0e, x1e, x2e, x3e, x4e, x5e, x6e⟩, hxe⟩, ⟨y0e, y1e, y2e, y3e, y4e, y5e, y6e⟩, hye, nee⟩ := HU8.out))
      all_goals go_wp2_with fail
      all_goals exact bodyPost_ret (v := .tuple #[.string s, .agg #[.int .i64 f, .int .i64 t, .string i], .agg #[.int .i64 f, .int .i64 f, .string j2], .bool ((q2 : Int) == 0)]) (by simp [results, Try.results17, go_sem, p0e, p1e, p2e, q0e, q1e, q2e]) rfl ⟨s, f, t, i, f, f, j2, _, HS.out, HI.out, HJ2.out, rfl, below_set3 (below_set3 HU8.out.d.d.bel (Nat.le_refl _)) (Nat.le_succ _)⟩

set_option maxHeartbeats 4000000 in
theorem drawEditsClash_any (a : Option Addr) (len cap : Nat) (zs : List Int) (w : World) (h : IsRow w a len cap zs) :
    Calls Try.prog 21 #[.slice a len cap] w (TePost w) := by
  have HRow := Lib.hid h
  clear h
  obtain ⟨W2, hW2⟩ : ∃ W, (w.alloc (.cells #[.int .i64 0, .int .i64 0, .string ⟨#[]⟩] 24)).alloc (.cells #[.int .i64 0, .int .i64 0, .string ⟨#[]⟩] 24) = W := ⟨_, rfl⟩
  have HZ : Hid (EdAt W2 w.heap.size 0 0 ⟨#[]⟩ ∧ EdAt W2 (w.heap.size + 1) 0 0 ⟨#[]⟩ ∧ Below w.heap.size w W2) := Lib.hid (hW2 ▸ twoZ w)
  have HW2 := Lib.hid hW2
  clear hW2
  go_enter Try.func21, Try.ntmps21
  go_wp2_with fail
  rw [HW2.out]
  go_at_call 17
  refine (drawTransformEdit_any a len cap zs _ (HRow.out.kept HZ.out.2.2)).mono ?_
  rintro e w1 ⟨s, f, t, i, g, u, j, c, hs, hi, hj, rfl, hb1⟩
  have HP1 := Lib.hid (HZ.out.1.below hb1)
  have HQ1 := Lib.hid (HZ.out.2.1.below hb1)
  have HB1 := Lib.hid (HZ.out.2.2.trans (hb1.mono HZ.out.2.2.size))
  have HS := Lib.hid hs
  have HI := Lib.hid hi
  have HJ := Lib.hid hj
  clear hs hi hj hb1
  obtain ⟨p0, p1, p2, p3, p4, p5, p6⟩ := HP1.out
  obtain ⟨q0, q1, q2, q3, q4, q5, q6⟩ := HQ1.out
  have hX : w.heap.size + 1 < w1.heap.size := HQ1.out.sz
  obtain ⟨w3, hw3⟩ : ∃ W, (w1.alloc (.cells #[.int .i64 f, .int .i64 t, .string i] 24)).alloc (.cells #[.int .i64 g, .int .i64 u, .string j] 24) = W := ⟨_, rfl⟩
  have HT : Hid (TA w1 w3 f t i g u j) := Lib.hid (hw3 ▸ TA.new w1 f t i g u j)
  have HP3 := Lib.hid (HP1.out.below (HT.out.bel))
  have HQ3 := Lib.hid (HQ1.out.below (HT.out.bel))
  have HB3 := Lib.hid (HB1.out.trans (HT.out.bel.mono HB1.out.size))
  have HW3 := Lib.hid hw3
  clear hw3
  go_wp2_with fail
  rw [HW3.out]
  clear p0 p1 p2 p3 p4 p5 p6 q0 q1 q2 q3 q4 q5 q6
  obtain ⟨⟨x0, x1, x2, x3, x4, x5, x6⟩, ⟨y0, y1, y2, y3, y4, y5, y6⟩, _⟩ := HT.out
  obtain ⟨p0, p1, p2, p3, p4, p5, p6⟩ := HP3.out
  obtain ⟨q0, q1, q2, q3, q4, q5, q6⟩ := HQ3.out
  have v0 : ¬ w1.heap.size = w.heap.size := by omega
  have v1 : ¬ w.heap.size = w1.heap.size := by omega
  have v2 : ¬ w1.heap.size = w.heap.size + 1 := by omega
  have v3 : ¬ w.heap.size + 1 = w1.heap.size := by omega
  have v4 : ¬ w1.heap.size + 1 = w.heap.size := by omega
  have v5 : ¬ w.heap.size = w1.heap.size + 1 := by omega
  have v6 : ¬ w1.heap.size + 1 = w.heap.size + 1 := by omega
  have v7 : ¬ w.heap.size + 1 = w1.heap.size + 1 := by omega
  have v8 : ¬ w.heap.size = w.heap.size + 1 := by omega
  have v9 : ¬ w.heap.size + 1 = w.heap.size := by omega
  go_region_held3 (fun w' => w'.cell? ⟨w1.heap.size, 0, none⟩ = some (.int .i64 f) ∧ w'.cell? ⟨w1.heap.size, 1, none⟩ = some (.int .i64 t) ∧ w'.cell? ⟨w1.heap.size, 2, none⟩ = some (.string i) ∧ w'.cell? ⟨w1.heap.size + 1, 0, none⟩ = some (.int .i64 g) ∧ w'.cell? ⟨w1.heap.size + 1, 1, none⟩ = some (.int .i64 u) ∧ w'.cell? ⟨w1.heap.size + 1, 2, none⟩ = some (.string j)) (first | go_keep | go_simp) (fail)
  all_goals go_wp2_with fail
  all_goals exact bodyPost_ret (v := .tuple #[.string s, .agg #[.int .i64 f, .int .i64 t, .string i], .agg #[.int .i64 g, .int .i64 u, .string j]]) (by simp [results, Try.results21, go_sem, p0, p1, p2, q0, q1, q2]) rfl ⟨s, f, t, i, g, u, j, HS.out, HI.out, HJ.out, rfl, (below_set3 (below_set3 HB3.out (Nat.le_refl _)) (Nat.le_succ _)).drew⟩

set_option maxHeartbeats 4000000 in
theorem drawMergeEdits_any (a : Option Addr) (len cap : Nat) (zs : List Int) (w : World) (h : IsRow w a len cap zs) :
    Calls Try.prog 25 #[.slice a len cap] w (TePost w) := by
  have HRow := Lib.hid h
  clear h
  obtain ⟨W2, hW2⟩ : ∃ W, (w.alloc (.cells #[.int .i64 0, .int .i64 0, .string ⟨#[]⟩] 24)).alloc (.cells #[.int .i64 0, .int .i64 0, .string ⟨#[]⟩] 24) = W := ⟨_, rfl⟩
  have HZ : Hid (EdAt W2 w.heap.size 0 0 ⟨#[]⟩ ∧ EdAt W2 (w.heap.size + 1) 0 0 ⟨#[]⟩ ∧ Below w.heap.size w W2) := Lib.hid (hW2 ▸ twoZ w)
  have HW2 := Lib.hid hW2
  clear hW2
  go_enter Try.func25, Try.ntmps25
  go_wp2_with fail
  rw [HW2.out]
  go_at_call 21
  refine (drawEditsClash_any a len cap zs _ (HRow.out.kept HZ.out.2.2)).mono ?_
  rintro e w1 ⟨s, f, t, i, g, u, j, hs, hi, hj, rfl, hb1⟩
  have HP1 := Lib.hid (HZ.out.1.below hb1)
  have HQ1 := Lib.hid (HZ.out.2.1.below hb1)
  have HB1 := Lib.hid (HZ.out.2.2.trans (hb1.mono HZ.out.2.2.size))
  have HS := Lib.hid hs
  have HI := Lib.hid hi
  have HJ := Lib.hid hj
  clear hs hi hj hb1
  obtain ⟨p0, p1, p2, p3, p4, p5, p6⟩ := HP1.out
  obtain ⟨q0, q1, q2, q3, q4, q5, q6⟩ := HQ1.out
  go_wp2_with fail
  exact bodyPost_ret (v := .tuple #[.string s, .agg #[.int .i64 f, .int .i64 t, .string i], .agg #[.int .i64 g, .int .i64 u, .string j]]) (by simp [results, Try.results25, go_sem, p0, p1, p2, q0, q1, q2]) rfl ⟨s, f, t, i, g, u, j, HS.out, HI.out, HJ.out, rfl, below_set3 (below_set3 HB1.out (Nat.le_refl _)) (Nat.le_succ _)⟩


end Go.Proofs.Ytdicfjgdceacpaa
