/-
  What the draw of an edit returns: some edit that inserts at most 16 bytes. Only the reader's counter changes, and new memory is made.
  Conditions: as for 'pick'; the text has at most 2010 bytes.
-/
import Derived.Test.YtpihopmgckdigaaDoorProg
import Derived.Test.YtpihopmgckdigaaDoorUb
import Derived.Deep.RegionHeld3
import Derived.Deep.RegionWith
namespace Go.Proofs.YtpihopmgckdigaaDoor
open Go.RowKit

/-- An edit in a variable at block E. -/
structure EdAt (w : World) (E : Nat) (f t : Int) (i : ByteArray) : Prop where
  a0 : w.cell? ⟨E, 0, none⟩ = some (.int .i64 f)
  a1 : w.cell? ⟨E, 1, none⟩ = some (.int .i64 t)
  a2 : w.cell? ⟨E, 2, none⟩ = some (.string i)
  b0 : w.frozen? ⟨E, 0, none⟩ = false
  b1 : w.frozen? ⟨E, 1, none⟩ = false
  b2 : w.frozen? ⟨E, 2, none⟩ = false
  sz : E < w.heap.size
theorem EdAt.kept {w w' : World} {B E : Nat} {f t : Int} {i : ByteArray} (h : EdAt w E f t i) (hd : Dw B w w') (hne : ¬ E = B) : EdAt w' E f t i := by
  obtain ⟨a0, a1, a2, b0, b1, b2, sz⟩ := h
  obtain ⟨hc, hf⟩ := hd.cells
  exact ⟨by rw [hc _ _ sz hne]; exact a0, by rw [hc _ _ sz hne]; exact a1, by rw [hc _ _ sz hne]; exact a2, by rw [hf _ _ sz hne]; exact b0, by rw [hf _ _ sz hne]; exact b1, by rw [hf _ _ sz hne]; exact b2, Nat.lt_of_lt_of_le sz hd.size⟩
theorem EdAt.below {w w' : World} {E : Nat} {f t : Int} {i : ByteArray} (h : EdAt w E f t i) (hd : Below w.heap.size w w') : EdAt w' E f t i := by
  obtain ⟨a0, a1, a2, b0, b1, b2, sz⟩ := h
  have hc := fun o => hd.cell (p := ⟨E, o, none⟩) sz
  have hf := fun o => hd.frozen (p := ⟨E, o, none⟩) sz
  exact ⟨by rw [hc]; exact a0, by rw [hc]; exact a1, by rw [hc]; exact a2, by rw [hf]; exact b0, by rw [hf]; exact b1, by rw [hf]; exact b2, Nat.lt_of_lt_of_le sz hd.size⟩
theorem EdAt.set0 {w : World} {E : Nat} {f t : Int} {i : ByteArray} (h : EdAt w E f t i) (v : Int) : EdAt (w.setCell ⟨E, 0, none⟩ (.int .i64 v)) E v t i := by
  obtain ⟨a0, a1, a2, b0, b1, b2, sz⟩ := h
  exact ⟨by go_simp, by go_simp, by go_simp, by go_simp, by go_simp, by go_simp, by simpa using sz⟩
theorem EdAt.set1 {w : World} {E : Nat} {f t : Int} {i : ByteArray} (h : EdAt w E f t i) (v : Int) : EdAt (w.setCell ⟨E, 1, none⟩ (.int .i64 v)) E f v i := by
  obtain ⟨a0, a1, a2, b0, b1, b2, sz⟩ := h
  exact ⟨by go_simp, by go_simp, by go_simp, by go_simp, by go_simp, by go_simp, by simpa using sz⟩
theorem EdAt.drew {w : World} {E : Nat} {f t : Int} {i : ByteArray} (h : EdAt w E f t i) : EdAt w.drew E f t i := ⟨h.a0, h.a1, h.a2, h.b0, h.b1, h.b2, h.sz⟩
theorem Rd.setNew {w : World} {B : Nat} {a : Option Addr} {len cap : Nat} {zs : List Int} {p : Nat} (hr : Rd w B a len cap zs p) {E : Nat} (hE : B < E) (o : Nat) (v : Value) : Rd (w.setCell ⟨E, o, none⟩ v) B a len cap zs p :=
  hr.kept ((Below.refl _ _).setCell (p := ⟨E, o, none⟩) hE v)
theorem Rd.drew {w : World} {B : Nat} {a : Option Addr} {len cap : Nat} {zs : List Int} {p : Nat} (hr : Rd w B a len cap zs p) : Rd w.drew B a len cap zs p := hr.kept (Below.refl _ _).drew
theorem EdAt.other {w : World} {E R : Nat} {f t : Int} {i : ByteArray} (h : EdAt w R f t i) (hne : ¬ R = E) (o : Nat) (v : Value) : EdAt (w.setCell ⟨E, o, none⟩ v) R f t i := by
  obtain ⟨a0, a1, a2, b0, b1, b2, sz⟩ := h
  have hne' : ¬ E = R := fun e => hne e.symm
  exact ⟨by go_simp, by go_simp, by go_simp, by go_simp, by go_simp, by go_simp, by simpa using sz⟩
theorem edAt_new (w : World) (f t : Int) (i : ByteArray) (T : TypeId) : EdAt (w.alloc (.cells #[.int .i64 f, .int .i64 t, .string i] T)) w.heap.size f t i :=
  ⟨by go_simp, by go_simp, by go_simp, by go_simp, by go_simp, by go_simp, by simp⟩

/-- What the draw of an edit leaves. -/
def EdPost (w : World) (B : Nat) (a : Option Addr) (len cap : Nat) (zs : List Int) (p q : Nat) (e : Ending) (w' : World) : Prop :=
  ∃ (f t : Int) (i : ByteArray) (r : Nat), i.size ≤ 16 ∧ r ≤ q ∧ e = .returned (.agg #[.int .i64 f, .int .i64 t, .string i]) ∧ Dw B w w' ∧ Rd w' B a len cap zs (p + r)

set_option maxRecDepth 100000 in
set_option maxHeartbeats 4000000 in
theorem l1Edit_any (B : Nat) (a : Option Addr) (len cap : Nat) (zs : List Int) (p : Nat) (s : ByteArray) (w : World) (hr : Rd w B a len cap zs p) (hp : p ≤ 999000) (hs : s.size ≤ 2010) :
    Calls Tryd.prog 43 #[.pointer (some ⟨B, 0, none⟩), .string s] w (EdPost w B a len cap zs p 6) := by
  have HR := Lib.hid hr
  have hB := hr.big
  clear hr
  go_enter Tryd.func43, Tryd.ntmps43
  go_wp2_with fail
  go_at_call 24
  refine (pick_any B a len cap zs p _ _ (HR.out.alloc _) (by omega) (by omega) (by omega)).mono ?_
  rintro e w1 ⟨x, hxm, rfl, k, hw1⟩
  have HR1 := Lib.hid ((HR.out.alloc _).picked hw1)
  have HD1 := Lib.hid (((Dw.refl B w).alloc _).trans (Dw.pick hw1))
  have hRB : ¬ w.heap.size = B := by omega
  have HQ1 := Lib.hid ((edAt_new w 0 0 ⟨#[]⟩ 54).kept (Dw.pick hw1) hRB)
  have hz1 : w.heap.size + 1 ≤ w1.heap.size := by rw [hw1]; simp
  clear hw1
  go_wp2_with fail
  go_at_call 68
  refine (l1Insert_any B a len cap zs (p + 1) _ HR1.out (by omega)).mono ?_
  rintro e w2 ⟨i, hi, rfl, hd2, hr2⟩
  have HR2 := Lib.hid hr2
  have HD2 := Lib.hid (HD1.out.trans hd2)
  have HQ2 := Lib.hid (HQ1.out.kept hd2 hRB)
  have hz2 : w.heap.size + 1 ≤ w2.heap.size := Nat.le_trans hz1 hd2.size
  have HI := Lib.hid hi
  clear hd2 hr2
  have HE3 := Lib.hid (edAt_new w2 (x : Int) 0 i 54)
  have HR3 := Lib.hid (HR2.out.alloc (.cells #[.int .i64 (x : Int), .int .i64 0, .string i] 54))
  have HD3 := Lib.hid (HD2.out.alloc (.cells #[.int .i64 (x : Int), .int .i64 0, .string i] 54))
  have HQ3 := Lib.hid (HQ2.out.kept ((Dw.refl B w2).alloc (.cells #[.int .i64 (x : Int), .int .i64 0, .string i] 54)) hRB)
  go_wp2_with fail
  generalize w2.alloc _ = W3 at *
  have hle1 := hz2
  clear hz1 hi
  generalize w2.heap.size = E at *
  have hRE : ¬ w.heap.size = E := by omega
  have hER : ¬ E = w.heap.size := by omega
  have hBE : B < E := by omega
  have hEB : ¬ E = B := by omega
  have hBE' : ¬ B = E := by omega
  have hle : w.heap.size ≤ E := by omega
  obtain ⟨g0, g1, g2, g3, g4, g5, gz⟩ := HE3.out
  go_region_held3 (fun w' => w'.cell? ⟨E, 0, none⟩ = some (.int .i64 x)) (first | go_keep | go_simp)
    (first | (go_at_call 21; refine (num_any B a len cap zs _ _ (HR3.out.drew.alloc _) (by omega) _ 5 5 0 5 (by omega) (by omega) (HR3.out.ne) (intRow_new _ _ _ _ _ _ rfl (by kernel_rfl))).mono ?_; rintro e w4 ⟨n4, hn4, rfl, k4, hw4⟩; have HD4 := Lib.hid ((((Dw.refl B W3).drew).alloc _).trans (Dw.pick hw4)); have HR4 := Lib.hid ((HR3.out.drew.alloc _).picked hw4); have HE4 := Lib.hid (HE3.out.kept HD4.out hEB); clear hw4; obtain ⟨j0, j1, j2, j3, j4, j5, jz⟩ := HE4.out))
  clear g0 g1 g2 g3 g4 g5 gz
  clear hn4
  generalize IntKind.i64.wrap ((x : Int) + n4) = t at *
  have HQ4 := Lib.hid (HQ3.out.kept HD4.out hRB)
  have HDD := Lib.hid (HD3.out.trans HD4.out)
  clear HD3 HD4
  have HD4 := HDD
  have HE5 := Lib.hid (HE4.out.set1 t)
  have HR5 := Lib.hid (HR4.out.setNew hBE 1 (.int .i64 t))
  have HQ5 := Lib.hid (HQ4.out.other hRE 1 (.int .i64 t))
  have HD5 := Lib.hid (HD4.out.setNew hle 1 (.int .i64 t))
  clear j0 j1 j2 j3 j4 j5 jz
  generalize w4.setCell _ _ = W5 at *
  go_wp2_with fail
  go_at_call 24
  refine (pick_any B a len cap zs _ 12 _ HR5.out (by omega) (by omega) (by omega)).mono ?_
  rintro e w6 ⟨y6, hy6, rfl, k6, hw6⟩
  have HR6 := Lib.hid (HR5.out.picked hw6)
  have HE6 := Lib.hid (HE5.out.kept (Dw.pick hw6) hEB)
  have HQ6 := Lib.hid (HQ5.out.kept (Dw.pick hw6) hRB)
  have HD6 := Lib.hid (HD5.out.trans (Dw.pick hw6))
  clear hw6
  by_cases hy0 : y6 = 0
  · subst hy0
    obtain ⟨a60, a61, a62, b60, b61, b62, s6z⟩ := HE6.out
    obtain ⟨c60, c61, c62, d60, d61, d62, q6z⟩ := HQ6.out
    go_wp2_with fail
    go_at_call 21
    refine (num_any B a len cap zs _ _ (HR6.out.alloc _) (by omega) _ 3 3 (-1) (9223372036854775807) (by omega) (by omega) HR6.out.ne (intRow_new _ _ _ _ _ _ rfl (by kernel_rfl))).mono ?_
    rintro e w7 ⟨n7, hn7, rfl, k7, hw7⟩
    have HR7 := Lib.hid ((HR6.out.alloc _).picked hw7)
    have HDs7 := Lib.hid (((Dw.refl B _).alloc _).trans (Dw.pick hw7))
    have HE7 := Lib.hid (HE6.out.kept HDs7.out hEB)
    have HQ7 := Lib.hid (HQ6.out.kept HDs7.out hRB)
    have HD7 := Lib.hid (HD6.out.trans HDs7.out)
    clear hw7 hn7
    obtain ⟨a70, a71, a72, b70, b71, b72, s7z⟩ := HE7.out
    obtain ⟨c70, c71, c72, d70, d71, d72, q7z⟩ := HQ7.out
    by_cases hgt : (s.size : Int) < n7
    · go_wp2_with fail
      have HE8 := Lib.hid (HE7.out.set1 n7)
      have HR8 := Lib.hid (HR7.out.setNew hBE 1 (.int .i64 n7))
      have HQ8 := Lib.hid (HQ7.out.other hRE 1 (.int .i64 n7))
      have HD8 := Lib.hid (HD7.out.setNew hle 1 (.int .i64 n7))
      generalize w7.setCell _ _ = W8 at *
      obtain ⟨a80, a81, a82, b80, b81, b82, s8z⟩ := HE8.out
      obtain ⟨c80, c81, c82, d80, d81, d82, q8z⟩ := HQ8.out
      go_at_call 24
      refine (pick_any B a len cap zs _ 3 _ HR8.out (by omega) (by omega) (by omega)).mono ?_
      rintro e wp8 ⟨yp8, hyp8, rfl, kp8, hwp8⟩
      have HRp8 := Lib.hid (HR8.out.picked hwp8)
      have HEp8 := Lib.hid (HE8.out.kept (Dw.pick hwp8) hEB)
      have HQp8 := Lib.hid (HQ8.out.kept (Dw.pick hwp8) hRB)
      have HDp8 := Lib.hid (HD8.out.trans (Dw.pick hwp8))
      clear hwp8
      by_cases hz : yp8 = 0
      · subst hz
        obtain ⟨ap80, ap81, ap82, bp80, bp81, bp82, sp8z⟩ := HEp8.out
        obtain ⟨cp80, cp81, cp82, dp80, dp81, dp82, qp8z⟩ := HQp8.out
        go_wp2_with fail
        exact bodyPost_ret (v := .agg #[.int .i64 x, .int .i64 n7, .string i]) (by simp [results, Tryd.results43, go_sem, cp80, cp81, cp82]) rfl ⟨x, n7, i, 6, HI.out, by omega, rfl, (((HDp8.out.setNew (Nat.le_refl _) 0 _).setNew (Nat.le_refl _) 1 _).setNew (Nat.le_refl _) 2 _), ((((HRp8.out).setNew hB 0 _).setNew hB 1 _).setNew hB 2 _)⟩
      · have hpos : (0 : Int) < (yp8 : Int) := by omega
        clear hz
        obtain ⟨ap80, ap81, ap82, bp80, bp81, bp82, sp8z⟩ := HEp8.out
        obtain ⟨cp80, cp81, cp82, dp80, dp81, dp82, qp8z⟩ := HQp8.out
        go_wp2_with fail
        have HEs8 := Lib.hid (HEp8.out.set1 (s.size : Int))
        have HRs8 := Lib.hid (HRp8.out.setNew hBE 1 (.int .i64 (s.size : Int)))
        have HQs8 := Lib.hid (HQp8.out.other hRE 1 (.int .i64 (s.size : Int)))
        have HDs8 := Lib.hid (HDp8.out.setNew hle 1 (.int .i64 (s.size : Int)))
        generalize wp8.setCell _ _ = Ws at *
        obtain ⟨as80, as81, as82, bs80, bs81, bs82, ss8z⟩ := HEs8.out
        obtain ⟨cs80, cs81, cs82, ds80, ds81, ds82, qs8z⟩ := HQs8.out
        exact bodyPost_ret (v := .agg #[.int .i64 x, .int .i64 s.size, .string i]) (by simp [results, Tryd.results43, go_sem, cs80, cs81, cs82]) rfl ⟨x, s.size, i, 6, HI.out, by omega, rfl, (((HDs8.out.setNew (Nat.le_refl _) 0 _).setNew (Nat.le_refl _) 1 _).setNew (Nat.le_refl _) 2 _), ((((HRs8.out).setNew hB 0 _).setNew hB 1 _).setNew hB 2 _)⟩
    · go_wp2_with fail
      have HE8 := Lib.hid (HE7.out.set1 n7)
      have HR8 := Lib.hid (HR7.out.setNew hBE 1 (.int .i64 n7))
      have HQ8 := Lib.hid (HQ7.out.other hRE 1 (.int .i64 n7))
      have HD8 := Lib.hid (HD7.out.setNew hle 1 (.int .i64 n7))
      generalize w7.setCell _ _ = W8 at *
      obtain ⟨a80, a81, a82, b80, b81, b82, s8z⟩ := HE8.out
      obtain ⟨c80, c81, c82, d80, d81, d82, q8z⟩ := HQ8.out
      exact bodyPost_ret (v := .agg #[.int .i64 x, .int .i64 n7, .string i]) (by simp [results, Tryd.results43, go_sem, c80, c81, c82]) rfl ⟨x, n7, i, 5, HI.out, by omega, rfl, (((HD8.out.setNew (Nat.le_refl _) 0 _).setNew (Nat.le_refl _) 1 _).setNew (Nat.le_refl _) 2 _), ((((HR8.out).setNew hB 0 _).setNew hB 1 _).setNew hB 2 _)⟩
  by_cases hy1 : y6 = 1
  · subst hy1
    obtain ⟨a60, a61, a62, b60, b61, b62, s6z⟩ := HE6.out
    obtain ⟨c60, c61, c62, d60, d61, d62, q6z⟩ := HQ6.out
    go_wp2_with fail
    go_at_call 21
    refine (num_any B a len cap zs _ _ (HR6.out.alloc _) (by omega) _ 3 3 (-1) (9223372036854775807) (by omega) (by omega) HR6.out.ne (intRow_new _ _ _ _ _ _ rfl (by kernel_rfl))).mono ?_
    rintro e w7 ⟨n7, hn7, rfl, k7, hw7⟩
    have HR7 := Lib.hid ((HR6.out.alloc _).picked hw7)
    have HDs7 := Lib.hid (((Dw.refl B _).alloc _).trans (Dw.pick hw7))
    have HE7 := Lib.hid (HE6.out.kept HDs7.out hEB)
    have HQ7 := Lib.hid (HQ6.out.kept HDs7.out hRB)
    have HD7 := Lib.hid (HD6.out.trans HDs7.out)
    clear hw7 hn7
    obtain ⟨a70, a71, a72, b70, b71, b72, s7z⟩ := HE7.out
    obtain ⟨c70, c71, c72, d70, d71, d72, q7z⟩ := HQ7.out
    by_cases hgt : (s.size : Int) < t
    · go_wp2_with fail
      have HE8 := Lib.hid (HE7.out.set0 n7)
      have HR8 := Lib.hid (HR7.out.setNew hBE 0 (.int .i64 n7))
      have HQ8 := Lib.hid (HQ7.out.other hRE 0 (.int .i64 n7))
      have HD8 := Lib.hid (HD7.out.setNew hle 0 (.int .i64 n7))
      generalize w7.setCell _ _ = W8 at *
      obtain ⟨a80, a81, a82, b80, b81, b82, s8z⟩ := HE8.out
      obtain ⟨c80, c81, c82, d80, d81, d82, q8z⟩ := HQ8.out
      go_at_call 24
      refine (pick_any B a len cap zs _ 3 _ HR8.out (by omega) (by omega) (by omega)).mono ?_
      rintro e wp8 ⟨yp8, hyp8, rfl, kp8, hwp8⟩
      have HRp8 := Lib.hid (HR8.out.picked hwp8)
      have HEp8 := Lib.hid (HE8.out.kept (Dw.pick hwp8) hEB)
      have HQp8 := Lib.hid (HQ8.out.kept (Dw.pick hwp8) hRB)
      have HDp8 := Lib.hid (HD8.out.trans (Dw.pick hwp8))
      clear hwp8
      by_cases hz : yp8 = 0
      · subst hz
        obtain ⟨ap80, ap81, ap82, bp80, bp81, bp82, sp8z⟩ := HEp8.out
        obtain ⟨cp80, cp81, cp82, dp80, dp81, dp82, qp8z⟩ := HQp8.out
        go_wp2_with fail
        exact bodyPost_ret (v := .agg #[.int .i64 n7, .int .i64 t, .string i]) (by simp [results, Tryd.results43, go_sem, cp80, cp81, cp82]) rfl ⟨n7, t, i, 6, HI.out, by omega, rfl, (((HDp8.out.setNew (Nat.le_refl _) 0 _).setNew (Nat.le_refl _) 1 _).setNew (Nat.le_refl _) 2 _), ((((HRp8.out).setNew hB 0 _).setNew hB 1 _).setNew hB 2 _)⟩
      · have hpos : (0 : Int) < (yp8 : Int) := by omega
        clear hz
        obtain ⟨ap80, ap81, ap82, bp80, bp81, bp82, sp8z⟩ := HEp8.out
        obtain ⟨cp80, cp81, cp82, dp80, dp81, dp82, qp8z⟩ := HQp8.out
        go_wp2_with fail
        have HEs8 := Lib.hid (HEp8.out.set1 (s.size : Int))
        have HRs8 := Lib.hid (HRp8.out.setNew hBE 1 (.int .i64 (s.size : Int)))
        have HQs8 := Lib.hid (HQp8.out.other hRE 1 (.int .i64 (s.size : Int)))
        have HDs8 := Lib.hid (HDp8.out.setNew hle 1 (.int .i64 (s.size : Int)))
        generalize wp8.setCell _ _ = Ws at *
        obtain ⟨as80, as81, as82, bs80, bs81, bs82, ss8z⟩ := HEs8.out
        obtain ⟨cs80, cs81, cs82, ds80, ds81, ds82, qs8z⟩ := HQs8.out
        exact bodyPost_ret (v := .agg #[.int .i64 n7, .int .i64 s.size, .string i]) (by simp [results, Tryd.results43, go_sem, cs80, cs81, cs82]) rfl ⟨n7, s.size, i, 6, HI.out, by omega, rfl, (((HDs8.out.setNew (Nat.le_refl _) 0 _).setNew (Nat.le_refl _) 1 _).setNew (Nat.le_refl _) 2 _), ((((HRs8.out).setNew hB 0 _).setNew hB 1 _).setNew hB 2 _)⟩
    · go_wp2_with fail
      have HE8 := Lib.hid (HE7.out.set0 n7)
      have HR8 := Lib.hid (HR7.out.setNew hBE 0 (.int .i64 n7))
      have HQ8 := Lib.hid (HQ7.out.other hRE 0 (.int .i64 n7))
      have HD8 := Lib.hid (HD7.out.setNew hle 0 (.int .i64 n7))
      generalize w7.setCell _ _ = W8 at *
      obtain ⟨a80, a81, a82, b80, b81, b82, s8z⟩ := HE8.out
      obtain ⟨c80, c81, c82, d80, d81, d82, q8z⟩ := HQ8.out
      exact bodyPost_ret (v := .agg #[.int .i64 n7, .int .i64 t, .string i]) (by simp [results, Tryd.results43, go_sem, c80, c81, c82]) rfl ⟨n7, t, i, 5, HI.out, by omega, rfl, (((HD8.out.setNew (Nat.le_refl _) 0 _).setNew (Nat.le_refl _) 1 _).setNew (Nat.le_refl _) 2 _), ((((HR8.out).setNew hB 0 _).setNew hB 1 _).setNew hB 2 _)⟩
  have e0 : ((y6 : Int) == 0) = false := by simp; omega
  have e1 : ((y6 : Int) == 1) = false := by simp; omega
  clear hy0 hy1
  obtain ⟨a60, a61, a62, b60, b61, b62, s6z⟩ := HE6.out
  obtain ⟨c60, c61, c62, d60, d61, d62, q6z⟩ := HQ6.out
  by_cases hgt : (s.size : Int) < t
  · go_wp2_with fail
    go_at_call 24
    refine (pick_any B a len cap zs _ 3 _ HR6.out (by omega) (by omega) (by omega)).mono ?_
    rintro e wp6 ⟨yp6, hyp6, rfl, kp6, hwp6⟩
    have HRp6 := Lib.hid (HR6.out.picked hwp6)
    have HEp6 := Lib.hid (HE6.out.kept (Dw.pick hwp6) hEB)
    have HQp6 := Lib.hid (HQ6.out.kept (Dw.pick hwp6) hRB)
    have HDp6 := Lib.hid (HD6.out.trans (Dw.pick hwp6))
    clear hwp6
    by_cases hz : yp6 = 0
    · subst hz
      obtain ⟨ap60, ap61, ap62, bp60, bp61, bp62, sp6z⟩ := HEp6.out
      obtain ⟨cp60, cp61, cp62, dp60, dp61, dp62, qp6z⟩ := HQp6.out
      go_wp2_with fail
      exact bodyPost_ret (v := .agg #[.int .i64 x, .int .i64 t, .string i]) (by simp [results, Tryd.results43, go_sem, cp60, cp61, cp62]) rfl ⟨x, t, i, 5, HI.out, by omega, rfl, (((HDp6.out.setNew (Nat.le_refl _) 0 _).setNew (Nat.le_refl _) 1 _).setNew (Nat.le_refl _) 2 _), ((((HRp6.out).setNew hB 0 _).setNew hB 1 _).setNew hB 2 _)⟩
    · have hpos : (0 : Int) < (yp6 : Int) := by omega
      clear hz
      obtain ⟨ap60, ap61, ap62, bp60, bp61, bp62, sp6z⟩ := HEp6.out
      obtain ⟨cp60, cp61, cp62, dp60, dp61, dp62, qp6z⟩ := HQp6.out
      go_wp2_with fail
      have HEs6 := Lib.hid (HEp6.out.set1 (s.size : Int))
      have HRs6 := Lib.hid (HRp6.out.setNew hBE 1 (.int .i64 (s.size : Int)))
      have HQs6 := Lib.hid (HQp6.out.other hRE 1 (.int .i64 (s.size : Int)))
      have HDs6 := Lib.hid (HDp6.out.setNew hle 1 (.int .i64 (s.size : Int)))
      generalize wp6.setCell _ _ = Ws at *
      obtain ⟨as60, as61, as62, bs60, bs61, bs62, ss6z⟩ := HEs6.out
      obtain ⟨cs60, cs61, cs62, ds60, ds61, ds62, qs6z⟩ := HQs6.out
      exact bodyPost_ret (v := .agg #[.int .i64 x, .int .i64 s.size, .string i]) (by simp [results, Tryd.results43, go_sem, cs60, cs61, cs62]) rfl ⟨x, s.size, i, 5, HI.out, by omega, rfl, (((HDs6.out.setNew (Nat.le_refl _) 0 _).setNew (Nat.le_refl _) 1 _).setNew (Nat.le_refl _) 2 _), ((((HRs6.out).setNew hB 0 _).setNew hB 1 _).setNew hB 2 _)⟩
  · go_wp2_with fail
    exact bodyPost_ret (v := .agg #[.int .i64 x, .int .i64 t, .string i]) (by simp [results, Tryd.results43, go_sem, c60, c61, c62]) rfl ⟨x, t, i, 4, HI.out, by omega, rfl, (((HD6.out.setNew (Nat.le_refl _) 0 _).setNew (Nat.le_refl _) 1 _).setNew (Nat.le_refl _) 2 _), ((((HR6.out).setNew hB 0 _).setNew hB 1 _).setNew hB 2 _)⟩

end Go.Proofs.YtpihopmgckdigaaDoor
