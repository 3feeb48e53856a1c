/-
  FnExactLineSame returns true for every two lines, and they read as they did: LineSame answers as its model. No conditions.
-/
import Derived.Test.YtncpakpamfocbaaRows
import Derived.ProofKit
import Derived.OpenShut
import Derived.ShutString
import Derived.ChangeOld
import Derived.Below
import Derived.Lib.SmallJoins
import Derived.Test.YtncpakpamfocbaaMd
namespace Go.Proofs.Ytncpakpamfocbaa.fnExactLineSame
open Go.Proofs.Ytncpakpamfocbaa
open Go.ChangeShapes Go.WideShapes Go.ChangeAt Go.RowKit Go.Joins
open Go.ChangeMaps (open_string shut_string)
set_option linter.unusedVariables false
set_option linter.unusedSimpArgs false

theorem own : ownKnob Try.prog.godebug = none := by kernel_rfl
theorem laidOut : laidOutB Try.prog = true := by kernel_rfl

set_option maxRecDepth 100000 in
set_option maxHeartbeats 32000000 in
theorem walk (x : Ln) (vt ve : Value) (y : Ln) (ut ue : Value) (w : World) (hx1 : TyAt w x.t vt) (hx2 : ExAt w x.e ve) (hcx : ∃ ct ce, LnCnt x ct ce) (hy1 : TyAt w y.t ut) (hy2 : ExAt w y.e ue) (hcy : ∃ ct ce, LnCnt y ct ce) :
    Calls Try.prog 7 #[.agg #[.int .i64 x.k, .string x.s, .int .i64 x.t.k, .int .i64 x.t.n, vt, .int .i64 x.e.k, .int .i64 x.e.n, .string x.e.m, .string x.e.s, ve, .int .i64 x.c], .agg #[.int .i64 y.k, .string y.s, .int .i64 y.t.k, .int .i64 y.t.n, ut, .int .i64 y.e.k, .int .i64 y.e.n, .string y.e.m, .string y.e.s, ue, .int .i64 y.c]] w fun e w' => e = .returned (.bool true) ∧ Below w.heap.size w w' := by
  obtain ⟨ct, ce, hc⟩ := hcx
  obtain ⟨dt, de, hd⟩ := hcy
  have HX1 := Lib.hid hx1
  have HX2 := Lib.hid hx2
  have HY1 := Lib.hid hy1
  have HY2 := Lib.hid hy2
  have HC := Lib.hid hc
  have HD := Lib.hid hd
  obtain ⟨ta, tc, rfl, _⟩ := hx1.slice
  obtain ⟨ea, ec, rfl, _⟩ := hx2.slice
  obtain ⟨tb, td, rfl, _⟩ := hy1.slice
  obtain ⟨eb, ed, rfl, _⟩ := hy2.slice
  clear hx1 hx2 hy1 hy2 hc hd
  obtain ⟨W1, hW1⟩ : ∃ W, (w.alloc (.cells #[.int .i64 x.k, .string x.s, .int .i64 x.t.k, .int .i64 x.t.n, .slice ta x.t.ks.length tc, .int .i64 x.e.k, .int .i64 x.e.n, .string x.e.m, .string x.e.s, .slice ea x.e.ks.length ec, .int .i64 x.c] 46)).alloc (.cells #[.int .i64 y.k, .string y.s, .int .i64 y.t.k, .int .i64 y.t.n, .slice tb y.t.ks.length td, .int .i64 y.e.k, .int .i64 y.e.n, .string y.e.m, .string y.e.s, .slice eb y.e.ks.length ed, .int .i64 y.c] 46) = W := ⟨_, rfl⟩
  have HA0 : Hid (Below w.heap.size w W1) := Lib.hid (by rw [← hW1]; exact ((Below.refl _ _).alloc (Nat.le_refl _) _).alloc (by simp) _)
  have HP0 : Hid (LBox W1 w.heap.size (.int .i64 x.k) (.string x.s) (.int .i64 x.t.k) (.int .i64 x.t.n) (.slice ta x.t.ks.length tc) (.int .i64 x.e.k) (.int .i64 x.e.n) (.string x.e.m) (.string x.e.s) (.slice ea x.e.ks.length ec) (.int .i64 x.c)) := Lib.hid (by rw [← hW1]; exact (lbox_new w _ _ _ _ _ _ _ _ _ _ _ _).kept ((Below.refl _ _).alloc (Nat.le_refl _) _))
  have HR0 : Hid (LBox W1 (w.heap.size + 1) (.int .i64 y.k) (.string y.s) (.int .i64 y.t.k) (.int .i64 y.t.n) (.slice tb y.t.ks.length td) (.int .i64 y.e.k) (.int .i64 y.e.n) (.string y.e.m) (.string y.e.s) (.slice eb y.e.ks.length ed) (.int .i64 y.c)) := Lib.hid (by
    have h := lbox_new (w.alloc (.cells #[.int .i64 x.k, .string x.s, .int .i64 x.t.k, .int .i64 x.t.n, .slice ta x.t.ks.length tc, .int .i64 x.e.k, .int .i64 x.e.n, .string x.e.m, .string x.e.s, .slice ea x.e.ks.length ec, .int .i64 x.c] 46)) (.int .i64 y.k) (.string y.s) (.int .i64 y.t.k) (.int .i64 y.t.n) (.slice tb y.t.ks.length td) (.int .i64 y.e.k) (.int .i64 y.e.n) (.string y.e.m) (.string y.e.s) (.slice eb y.e.ks.length ed) (.int .i64 y.c) 46
    rw [hW1, sizeA2] at h; exact h)
  have HW1 := Lib.hid hW1
  clear hW1
  obtain ⟨c, hcc⟩ : ∃ c, x.s.size + ct + ce = c := ⟨_, rfl⟩
  obtain ⟨cl, hcd⟩ : ∃ c, y.s.size + dt + de = c := ⟨_, rfl⟩
  have HSX := Lib.hid hcc
  have HSY := Lib.hid hcd
  by_cases hle : (c : Int) ≤ 1048576
  case neg =>
    have HLE := Lib.hid (leftOf_no hle)
    clear hcc hcd
    go_enter Try.func7, Try.ntmps7
    go_wp2_with fail
    rw [HW1.out]
    obtain ⟨p0, p1, p2, p3, p4, p5, p6, p7, p8, p9, p10, pz⟩ := HP0.out
    obtain ⟨r0, r1, r2, r3, r4, r5, r6, r7, r8, r9, r10, rz⟩ := HR0.out
    go_wp2_with fail
    go_at_call 24
    refine (szLine_any x ct ce _ _ 1048576 _ HC.out (HX1.out.kept HA0.out) (HX2.out.kept HA0.out) (by omega) (by omega)).mono ?_
    rintro e w1 ⟨rfl, hb1⟩
    rw [HSX.out, HLE.out]
    have H1 := Lib.hid (HA0.out.trans (hb1.mono HA0.out.size))
    clear hb1
    go_wp2_with fail
    go_ret
    exact ⟨rfl, H1.out⟩
  have HLE := Lib.hid (leftOf_yes hle)
  have hnn : 0 ≤ 1048576 - (c : Int) := by omega
  have hct1 : ct ≤ 1048576 := by omega
  have hce1 : ce ≤ 1048576 := by omega
  obtain ⟨left, hleft⟩ : ∃ left : Int, 1048576 - (c : Int) = left := ⟨_, rfl⟩
  rw [hleft] at HLE hnn
  have hl1 : left ≤ 1048576 := by omega
  have hln : ¬ left < 0 := by omega
  by_cases hle2 : (cl : Int) ≤ left
  case neg =>
    have HLE2 := Lib.hid (leftOf_no hle2)
    clear hle hle2 hleft hcc hcd
    go_enter Try.func7, Try.ntmps7
    go_wp2_with fail
    rw [HW1.out]
    obtain ⟨p0, p1, p2, p3, p4, p5, p6, p7, p8, p9, p10, pz⟩ := HP0.out
    obtain ⟨r0, r1, r2, r3, r4, r5, r6, r7, r8, r9, r10, rz⟩ := HR0.out
    go_wp2_with fail
    go_at_call 24
    refine (szLine_any x ct ce _ _ 1048576 _ HC.out (HX1.out.kept HA0.out) (HX2.out.kept HA0.out) (by omega) (by omega)).mono ?_
    rintro e w1 ⟨rfl, hb1⟩
    rw [HSX.out, HLE.out]
    have H1 := Lib.hid (HA0.out.trans (hb1.mono HA0.out.size))
    have HR1 := Lib.hid (HR0.out.kept hb1)
    clear hb1 p0 p1 p2 p3 p4 p5 p6 p7 p8 p9 p10 pz r0 r1 r2 r3 r4 r5 r6 r7 r8 r9 r10 rz
    obtain ⟨r0, r1, r2, r3, r4, r5, r6, r7, r8, r9, r10, rz⟩ := HR1.out
    go_wp2_with fail
    go_at_call 24
    refine (szLine_any y dt de _ _ left _ HD.out (HY1.out.kept H1.out) (HY2.out.kept H1.out) hnn hl1).mono ?_
    rintro e w2 ⟨rfl, hb2⟩
    rw [HSY.out, HLE2.out]
    have H2 := Lib.hid (H1.out.trans (hb2.mono H1.out.size))
    clear hb2
    go_wp2_with fail
    go_ret
    exact ⟨rfl, H2.out⟩
  have HLE2 := Lib.hid (leftOf_yes hle2)
  have hdt1 : dt ≤ 1048576 := by omega
  have hde1 : de ≤ 1048576 := by omega
  obtain ⟨left2, hleft2⟩ : ∃ left2 : Int, left - (cl : Int) = left2 := ⟨_, rfl⟩
  rw [hleft2] at HLE2
  have hln2 : ¬ left2 < 0 := by omega
  obtain ⟨b, hb⟩ : ∃ b, sameN x y = b := ⟨_, rfl⟩
  have HV := Lib.hid hb
  have hbb : (b != b) = false := by cases b <;> rfl
  have HN1 : Hid (nodes x.t ≤ 1048577) := Lib.hid (by rw [HC.out.2.1.nodes]; omega)
  have HN2 : Hid (Ox.nodes x.e ≤ 1048577) := Lib.hid (by have := HC.out.2.2.nodes; omega)
  clear hle hle2 hleft hleft2 hb hcc hcd
  go_enter Try.func7, Try.ntmps7
  go_wp2_with fail
  rw [HW1.out]
  obtain ⟨p0, p1, p2, p3, p4, p5, p6, p7, p8, p9, p10, pz⟩ := HP0.out
  obtain ⟨r0, r1, r2, r3, r4, r5, r6, r7, r8, r9, r10, rz⟩ := HR0.out
  go_wp2_with fail
  go_at_call 24
  refine (szLine_any x ct ce _ _ 1048576 _ HC.out (HX1.out.kept HA0.out) (HX2.out.kept HA0.out) (by omega) (by omega)).mono ?_
  rintro e w1 ⟨rfl, hb1⟩
  rw [HSX.out, HLE.out]
  have HP1 := Lib.hid (HP0.out.kept hb1)
  have HR1 := Lib.hid (HR0.out.kept hb1)
  have H1 := Lib.hid (HA0.out.trans (hb1.mono HA0.out.size))
  clear hb1 p0 p1 p2 p3 p4 p5 p6 p7 p8 p9 p10 pz r0 r1 r2 r3 r4 r5 r6 r7 r8 r9 r10 rz
  obtain ⟨r0, r1, r2, r3, r4, r5, r6, r7, r8, r9, r10, rz⟩ := HR1.out
  go_wp2_with fail
  go_at_call 24
  refine (szLine_any y dt de _ _ left _ HD.out (HY1.out.kept H1.out) (HY2.out.kept H1.out) hnn hl1).mono ?_
  rintro e w2 ⟨rfl, hb2⟩
  rw [HSY.out, HLE2.out]
  have HP2 := Lib.hid (HP1.out.kept hb2)
  have HR2 := Lib.hid (HR1.out.kept hb2)
  have H2 := Lib.hid (H1.out.trans (hb2.mono H1.out.size))
  clear hb2 r0 r1 r2 r3 r4 r5 r6 r7 r8 r9 r10 rz
  have Z1 := Lib.hid (show w.heap.size + 2 ≤ w2.heap.size from HR2.out.sz)
  obtain ⟨bf101, bg101, bh101, bi101, bj101, bk101, bl101, bm101, bn101, bo101, bp101, bz101⟩ := HP2.out
  obtain ⟨bf102, bg102, bh102, bi102, bj102, bk102, bl102, bm102, bn102, bo102, bp102, bz102⟩ := HR2.out
  go_wp2_with fail
  go_region_held3 (fun w' => w'.cell? ⟨w.heap.size, 0, none⟩ = some (.int .i64 x.k) ∧ w'.cell? ⟨w.heap.size, 1, none⟩ = some (.string x.s) ∧ w'.cell? ⟨w.heap.size, 2, none⟩ = some (.int .i64 x.t.k) ∧ w'.cell? ⟨w.heap.size, 3, none⟩ = some (.int .i64 x.t.n) ∧ w'.cell? ⟨w.heap.size, 4, none⟩ = some (.slice ta x.t.ks.length tc) ∧ w'.cell? ⟨w.heap.size, 5, none⟩ = some (.int .i64 x.e.k) ∧ w'.cell? ⟨w.heap.size, 6, none⟩ = some (.int .i64 x.e.n) ∧ w'.cell? ⟨w.heap.size, 7, none⟩ = some (.string x.e.m) ∧ w'.cell? ⟨w.heap.size, 8, none⟩ = some (.string x.e.s) ∧ w'.cell? ⟨w.heap.size, 9, none⟩ = some (.slice ea x.e.ks.length ec) ∧ w'.cell? ⟨w.heap.size, 10, none⟩ = some (.int .i64 x.c) ∧ w'.cell? ⟨(w.heap.size + 1), 0, none⟩ = some (.int .i64 y.k) ∧ w'.cell? ⟨(w.heap.size + 1), 1, none⟩ = some (.string y.s) ∧ w'.cell? ⟨(w.heap.size + 1), 2, none⟩ = some (.int .i64 y.t.k) ∧ w'.cell? ⟨(w.heap.size + 1), 3, none⟩ = some (.int .i64 y.t.n) ∧ w'.cell? ⟨(w.heap.size + 1), 4, none⟩ = some (.slice tb y.t.ks.length td) ∧ w'.cell? ⟨(w.heap.size + 1), 5, none⟩ = some (.int .i64 y.e.k) ∧ w'.cell? ⟨(w.heap.size + 1), 6, none⟩ = some (.int .i64 y.e.n) ∧ w'.cell? ⟨(w.heap.size + 1), 7, none⟩ = some (.string y.e.m) ∧ w'.cell? ⟨(w.heap.size + 1), 8, none⟩ = some (.string y.e.s) ∧ w'.cell? ⟨(w.heap.size + 1), 9, none⟩ = some (.slice eb y.e.ks.length ed) ∧ w'.cell? ⟨(w.heap.size + 1), 10, none⟩ = some (.int .i64 y.c)) (go_keep)
    (first
      | (have hgd2 := H116; clear hgd2; go_at_call 25; refine (lineSame_spec x y _ _ _ _ _ (by first | exact T114.out.at | exact (T114.out.at).kept (Below.refl _ _).drew) (by first | exact T115.out.at | exact (T115.out.at).kept (Below.refl _ _).drew) (by first | exact T4.out.at | exact (T4.out.at).kept (Below.refl _ _).drew) (by first | exact X4.out.at | exact (X4.out.at).kept (Below.refl _ _).drew)).mono ?_; rintro e w5 ⟨rfl, hbx⟩; have hbd : Below w4.heap.size w4 w5 := Below.trans (B := w4.heap.size) (by first | exact Below.refl _ _ | exact (Below.refl _ _).drew) hbx; rw [HV.out]; have Z120 := Lib.hid (show w4.heap.size ≤ w5.heap.size from hbd.size); have B121 := Lib.hid (B112.out.kept hbd); have B122 := Lib.hid (B113.out.kept hbd); have T123 := Lib.hid (T114.out.kept hbd); have T124 := Lib.hid (T115.out.kept hbd); have T125 := Lib.hid (T4.out.kept hbd); have T126 := Lib.hid (X4.out.kept hbd); have H127 := Lib.hid (H116.out.trans (hbd.mono H116.out.size)); obtain ⟨bf128, bg128, bh128, bi128, bj128, bk128, bl128, bm128, bn128, bo128, bp128, bz128⟩ := B121.out; obtain ⟨bf129, bg129, bh129, bi129, bj129, bk129, bl129, bm129, bn129, bo129, bp129, bz129⟩ := B122.out; clear hbx hbd)
      | (have hgd1 := H107; clear hgd1; go_at_call 26; refine (toLine_any y dt de _ _ _ HD.out hdt1 hde1 (HY1.out.kept (by first | exact H107.out | exact H107.out.drew)) (HY2.out.kept (by first | exact H107.out | exact H107.out.drew))).mono ?_; rintro e w4 ⟨vt4, ve4, B4, rfl, _, _, hty4, htx4, hbx⟩; have hbd : Below w3.heap.size w3 w4 := Below.trans (B := w3.heap.size) (by first | exact Below.refl _ _ | exact (Below.refl _ _).drew) hbx; obtain ⟨a4, k4, rfl, _⟩ := hty4.at.slice; obtain ⟨b4, j4, rfl, _⟩ := htx4.at.slice; have T4 := Lib.hid hty4; have X4 := Lib.hid htx4; clear hty4 htx4; have Z111 := Lib.hid (show w3.heap.size ≤ w4.heap.size from hbd.size); have B112 := Lib.hid (B105.out.kept hbd); have B113 := Lib.hid (B106.out.kept hbd); have T114 := Lib.hid (T3.out.kept hbd); have T115 := Lib.hid (X3.out.kept hbd); have H116 := Lib.hid (H107.out.trans (hbd.mono H107.out.size)); obtain ⟨bf117, bg117, bh117, bi117, bj117, bk117, bl117, bm117, bn117, bo117, bp117, bz117⟩ := B112.out; obtain ⟨bf118, bg118, bh118, bi118, bj118, bk118, bl118, bm118, bn118, bo118, bp118, bz118⟩ := B113.out; clear hbx hbd)
      | (go_at_call 26; refine (toLine_any x ct ce _ _ _ HC.out hct1 hce1 (HX1.out.kept (by first | exact H2.out | exact H2.out.drew)) (HX2.out.kept (by first | exact H2.out | exact H2.out.drew))).mono ?_; rintro e w3 ⟨vt3, ve3, B3, rfl, _, _, hty3, htx3, hbx⟩; have hbd : Below w2.heap.size w2 w3 := Below.trans (B := w2.heap.size) (by first | exact Below.refl _ _ | exact (Below.refl _ _).drew) hbx; obtain ⟨a3, k3, rfl, _⟩ := hty3.at.slice; obtain ⟨b3, j3, rfl, _⟩ := htx3.at.slice; have T3 := Lib.hid hty3; have X3 := Lib.hid htx3; clear hty3 htx3; have Z104 := Lib.hid (show w2.heap.size ≤ w3.heap.size from hbd.size); have B105 := Lib.hid (HP2.out.kept hbd); have B106 := Lib.hid (HR2.out.kept hbd); have H107 := Lib.hid (H2.out.trans (hbd.mono H2.out.size)); obtain ⟨bf108, bg108, bh108, bi108, bj108, bk108, bl108, bm108, bn108, bo108, bp108, bz108⟩ := B105.out; obtain ⟨bf109, bg109, bh109, bi109, bj109, bk109, bl109, bm109, bn109, bo109, bp109, bz109⟩ := B106.out; clear hbx hbd))
  go_wp2_with fail
  go_at_call 26
  refine (toLine_any x ct ce _ _ _ HC.out hct1 hce1 (HX1.out.kept H127.out) (HX2.out.kept H127.out)).mono ?_
  rintro e w6 ⟨vt6, ve6, B6, rfl, _, _, hty6, htx6, hb⟩
  obtain ⟨a6, k6, rfl, _⟩ := hty6.at.slice
  obtain ⟨b6, j6, rfl, _⟩ := htx6.at.slice
  have T6 := Lib.hid hty6
  have X6 := Lib.hid htx6
  clear hty6 htx6
  have Z131 := Lib.hid (show w5.heap.size ≤ w6.heap.size from hb.size)
  have B132 := Lib.hid (B121.out.kept hb)
  have B133 := Lib.hid (B122.out.kept hb)
  have H134 := Lib.hid (H127.out.trans (hb.mono H127.out.size))
  clear bf101 bg101 bh101 bi101 bj101 bk101 bl101 bm101 bn101 bo101 bp101 bz101 bf102 bg102 bh102 bi102 bj102 bk102 bl102 bm102 bn102 bo102 bp102 bz102 bf108 bg108 bh108 bi108 bj108 bk108 bl108 bm108 bn108 bo108 bp108 bz108 bf109 bg109 bh109 bi109 bj109 bk109 bl109 bm109 bn109 bo109 bp109 bz109 bf117 bg117 bh117 bi117 bj117 bk117 bl117 bm117 bn117 bo117 bp117 bz117 bf118 bg118 bh118 bi118 bj118 bk118 bl118 bm118 bn118 bo118 bp118 bz118 bf128 bg128 bh128 bi128 bj128 bk128 bl128 bm128 bn128 bo128 bp128 bz128 bf129 bg129 bh129 bi129 bj129 bk129 bl129 bm129 bn129 bo129 bp129 bz129
  clear hb
  obtain ⟨W6, hW135⟩ : ∃ W, w6.alloc (.cells #[.int .i64 x.k, .string x.s, .int .i64 x.t.k, .int .i64 x.t.n, .slice a6 x.t.ks.length k6, .int .i64 x.e.k, .int .i64 x.e.n, .string x.e.m, .string x.e.s, .slice b6 x.e.ks.length j6, .int .i64 x.c] 53) = W := ⟨_, rfl⟩
  have hA135 : Below w6.heap.size w6 W6 := by rw [← hW135]; exact (Below.refl _ _).alloc (Nat.le_refl _) _
  have hZ135 : W6.heap.size = w6.heap.size + 1 := by rw [← hW135]; simp
  have B135n : Hid (LBox W6 w6.heap.size (.int .i64 x.k) (.string x.s) (.int .i64 x.t.k) (.int .i64 x.t.n) (.slice a6 x.t.ks.length k6) (.int .i64 x.e.k) (.int .i64 x.e.n) (.string x.e.m) (.string x.e.s) (.slice b6 x.e.ks.length j6) (.int .i64 x.c)) := Lib.hid (by rw [← hW135]; exact lbox_new w6 _ _ _ _ _ _ _ _ _ _ _ _)
  have Zb135 := Lib.hid hZ135
  have Z137 := Lib.hid (show w6.heap.size ≤ W6.heap.size from hA135.size)
  have B138 := Lib.hid (B132.out.kept hA135)
  have B139 := Lib.hid (B133.out.kept hA135)
  have T140 := Lib.hid (T6.out.kept hA135)
  have T141 := Lib.hid (X6.out.kept hA135)
  have H142 := Lib.hid (H134.out.trans (hA135.mono H134.out.size))
  clear hA135 hZ135
  obtain ⟨bf143, bg143, bh143, bi143, bj143, bk143, bl143, bm143, bn143, bo143, bp143, bz143⟩ := B139.out
  go_wp2_with fail
  clear hW135
  go_at_call 26
  refine (toLine_any y dt de _ _ _ HD.out hdt1 hde1 (HY1.out.kept H142.out) (HY2.out.kept H142.out)).mono ?_
  rintro e w7 ⟨vt7, ve7, B7, rfl, _, _, hty7, htx7, hb⟩
  obtain ⟨a7, k7, rfl, _⟩ := hty7.at.slice
  obtain ⟨b7, j7, rfl, _⟩ := htx7.at.slice
  have T7 := Lib.hid hty7
  have X7 := Lib.hid htx7
  clear hty7 htx7
  have Z145 := Lib.hid (show W6.heap.size ≤ w7.heap.size from hb.size)
  have B146 := Lib.hid (B138.out.kept hb)
  have B147 := Lib.hid (B139.out.kept hb)
  have B148 := Lib.hid (B135n.out.kept hb)
  have T149 := Lib.hid (T140.out.kept hb)
  have T150 := Lib.hid (T141.out.kept hb)
  have H151 := Lib.hid (H142.out.trans (hb.mono H142.out.size))
  clear bf143 bg143 bh143 bi143 bj143 bk143 bl143 bm143 bn143 bo143 bp143 bz143
  clear hb
  obtain ⟨W7, hW152⟩ : ∃ W, w7.alloc (.cells #[.int .i64 y.k, .string y.s, .int .i64 y.t.k, .int .i64 y.t.n, .slice a7 y.t.ks.length k7, .int .i64 y.e.k, .int .i64 y.e.n, .string y.e.m, .string y.e.s, .slice b7 y.e.ks.length j7, .int .i64 y.c] 53) = W := ⟨_, rfl⟩
  have hA152 : Below w7.heap.size w7 W7 := by rw [← hW152]; exact (Below.refl _ _).alloc (Nat.le_refl _) _
  have hZ152 : W7.heap.size = w7.heap.size + 1 := by rw [← hW152]; simp
  have B152n : Hid (LBox W7 w7.heap.size (.int .i64 y.k) (.string y.s) (.int .i64 y.t.k) (.int .i64 y.t.n) (.slice a7 y.t.ks.length k7) (.int .i64 y.e.k) (.int .i64 y.e.n) (.string y.e.m) (.string y.e.s) (.slice b7 y.e.ks.length j7) (.int .i64 y.c)) := Lib.hid (by rw [← hW152]; exact lbox_new w7 _ _ _ _ _ _ _ _ _ _ _ _)
  have Zb152 := Lib.hid hZ152
  have Z154 := Lib.hid (show w7.heap.size ≤ W7.heap.size from hA152.size)
  have B155 := Lib.hid (B146.out.kept hA152)
  have B156 := Lib.hid (B147.out.kept hA152)
  have B157 := Lib.hid (B148.out.kept hA152)
  have T158 := Lib.hid (T149.out.kept hA152)
  have T159 := Lib.hid (T150.out.kept hA152)
  have T160 := Lib.hid (T7.out.kept hA152)
  have T161 := Lib.hid (X7.out.kept hA152)
  have H162 := Lib.hid (H151.out.trans (hA152.mono H151.out.size))
  clear hA152 hZ152
  obtain ⟨bf163, bg163, bh163, bi163, bj163, bk163, bl163, bm163, bn163, bo163, bp163, bz163⟩ := B157.out
  obtain ⟨bf164, bg164, bh164, bi164, bj164, bk164, bl164, bm164, bn164, bo164, bp164, bz164⟩ := B152n.out
  go_wp2_with fail
  clear hW152
  go_at_call 27
  refine (lineSame_impl x y _ _ _ _ _ HN1.out HN2.out T158.out.ok T159.out.ok T160.out.ok T161.out.ok).mono ?_
  rintro e w8 ⟨rfl, hb⟩
  have Z166 := Lib.hid (show W7.heap.size ≤ w8.heap.size from hb.size)
  have B167 := Lib.hid (B155.out.kept hb)
  have B168 := Lib.hid (B156.out.kept hb)
  have B169 := Lib.hid (B157.out.kept hb)
  have B170 := Lib.hid (B152n.out.kept hb)
  have T171 := Lib.hid (T158.out.kept hb)
  have T172 := Lib.hid (T159.out.kept hb)
  have T173 := Lib.hid (T160.out.kept hb)
  have T174 := Lib.hid (T161.out.kept hb)
  have H175 := Lib.hid (H162.out.trans (hb.mono H162.out.size))
  rw [HV.out]
  clear bf163 bg163 bh163 bi163 bj163 bk163 bl163 bm163 bn163 bo163 bp163 bz163 bf164 bg164 bh164 bi164 bj164 bk164 bl164 bm164 bn164 bo164 bp164 bz164
  clear hb
  obtain ⟨bf176, bg176, bh176, bi176, bj176, bk176, bl176, bm176, bn176, bo176, bp176, bz176⟩ := B167.out
  obtain ⟨bf177, bg177, bh177, bi177, bj177, bk177, bl177, bm177, bn177, bo177, bp177, bz177⟩ := B169.out
  go_wp2_with fail
  go_region_held3 (fun w' => w'.cell? ⟨w6.heap.size, 0, none⟩ = some (.int .i64 x.k) ∧ w'.cell? ⟨w6.heap.size, 1, none⟩ = some (.string x.s) ∧ w'.cell? ⟨w6.heap.size, 2, none⟩ = some (.int .i64 x.t.k) ∧ w'.cell? ⟨w6.heap.size, 3, none⟩ = some (.int .i64 x.t.n) ∧ w'.cell? ⟨w6.heap.size, 4, none⟩ = some (.slice a6 x.t.ks.length k6) ∧ w'.cell? ⟨w6.heap.size, 5, none⟩ = some (.int .i64 x.e.k) ∧ w'.cell? ⟨w6.heap.size, 6, none⟩ = some (.int .i64 x.e.n) ∧ w'.cell? ⟨w6.heap.size, 7, none⟩ = some (.string x.e.m) ∧ w'.cell? ⟨w6.heap.size, 8, none⟩ = some (.string x.e.s) ∧ w'.cell? ⟨w6.heap.size, 9, none⟩ = some (.slice b6 x.e.ks.length j6) ∧ w'.cell? ⟨w6.heap.size, 10, none⟩ = some (.int .i64 x.c) ∧ w'.cell? ⟨w.heap.size, 0, none⟩ = some (.int .i64 x.k) ∧ w'.cell? ⟨w.heap.size, 1, none⟩ = some (.string x.s) ∧ w'.cell? ⟨w.heap.size, 2, none⟩ = some (.int .i64 x.t.k) ∧ w'.cell? ⟨w.heap.size, 3, none⟩ = some (.int .i64 x.t.n) ∧ w'.cell? ⟨w.heap.size, 4, none⟩ = some (.slice ta x.t.ks.length tc) ∧ w'.cell? ⟨w.heap.size, 5, none⟩ = some (.int .i64 x.e.k) ∧ w'.cell? ⟨w.heap.size, 6, none⟩ = some (.int .i64 x.e.n) ∧ w'.cell? ⟨w.heap.size, 7, none⟩ = some (.string x.e.m) ∧ w'.cell? ⟨w.heap.size, 8, none⟩ = some (.string x.e.s) ∧ w'.cell? ⟨w.heap.size, 9, none⟩ = some (.slice ea x.e.ks.length ec) ∧ w'.cell? ⟨w.heap.size, 10, none⟩ = some (.int .i64 x.c)) (go_keep)
    (first
      | (go_at_call 26; refine (toLine_any x ct ce _ _ _ HC.out hct1 hce1 (HX1.out.kept (by first | exact H175.out | exact H175.out.drew)) (HX2.out.kept (by first | exact H175.out | exact H175.out.drew))).mono ?_; rintro e w10 ⟨vc1, uc1, Bc1, rfl, _, _, htc1, hxc1, hbc1⟩; obtain ⟨ac1, kc1, rfl, _⟩ := htc1.at.slice; have hbd : Below w8.heap.size w8 w10 := Below.trans (B := w8.heap.size) (by first | exact Below.refl _ _ | exact (Below.refl _ _).drew) hbc1; obtain ⟨bc1, jc1, rfl, _⟩ := hxc1.at.slice; have TC1 := Lib.hid htc1.at; have XC1 := Lib.hid hxc1.at; have Z179 := Lib.hid (show w8.heap.size ≤ w10.heap.size from hbd.size); have B180 := Lib.hid (B167.out.kept hbd); have B181 := Lib.hid (B168.out.kept hbd); have B182 := Lib.hid (B169.out.kept hbd); have B183 := Lib.hid (B170.out.kept hbd); have T184 := Lib.hid (T171.out.kept hbd); have T185 := Lib.hid (T172.out.kept hbd); have T186 := Lib.hid (T173.out.kept hbd); have T187 := Lib.hid (T174.out.kept hbd); have H188 := Lib.hid (H175.out.trans (hbd.mono H175.out.size)); obtain ⟨bf189, bg189, bh189, bi189, bj189, bk189, bl189, bm189, bn189, bo189, bp189, bz189⟩ := B182.out; obtain ⟨bf190, bg190, bh190, bi190, bj190, bk190, bl190, bm190, bn190, bo190, bp190, bz190⟩ := B180.out; clear hbc1 hbd htc1 hxc1)
      | (go_at_call 28; refine (eqLine_any x ct ce _ _ _ _ _ HC.out hct1 hce1 (by first | exact T184.out.at | exact (T184.out.at).kept (Below.refl _ _).drew) (by first | exact T185.out.at | exact (T185.out.at).kept (Below.refl _ _).drew) (by first | exact TC1.out | exact TC1.out.kept (Below.refl _ _).drew) (by first | exact XC1.out | exact XC1.out.kept (Below.refl _ _).drew)).mono ?_; rintro e w11 ⟨rfl, hbc2⟩; have hbd : Below w10.heap.size w10 w11 := Below.trans (B := w10.heap.size) (by first | exact Below.refl _ _ | exact (Below.refl _ _).drew) hbc2; have Z192 := Lib.hid (show w10.heap.size ≤ w11.heap.size from hbd.size); have B193 := Lib.hid (B180.out.kept hbd); have B194 := Lib.hid (B181.out.kept hbd); have B195 := Lib.hid (B182.out.kept hbd); have B196 := Lib.hid (B183.out.kept hbd); have T197 := Lib.hid (T184.out.kept hbd); have T198 := Lib.hid (T185.out.kept hbd); have T199 := Lib.hid (T186.out.kept hbd); have T200 := Lib.hid (T187.out.kept hbd); have H201 := Lib.hid (H188.out.trans (hbd.mono H188.out.size)); obtain ⟨bf202, bg202, bh202, bi202, bj202, bk202, bl202, bm202, bn202, bo202, bp202, bz202⟩ := B195.out; obtain ⟨bf203, bg203, bh203, bi203, bj203, bk203, bl203, bm203, bn203, bo203, bp203, bz203⟩ := B193.out; clear hbc2 hbd))
  obtain ⟨bf204, bg204, bh204, bi204, bj204, bk204, bl204, bm204, bn204, bo204, bp204, bz204⟩ := B194.out
  obtain ⟨bf205, bg205, bh205, bi205, bj205, bk205, bl205, bm205, bn205, bo205, bp205, bz205⟩ := B196.out
  go_wp2_with fail
  go_region_held3 (fun w' => w'.cell? ⟨w7.heap.size, 0, none⟩ = some (.int .i64 y.k) ∧ w'.cell? ⟨w7.heap.size, 1, none⟩ = some (.string y.s) ∧ w'.cell? ⟨w7.heap.size, 2, none⟩ = some (.int .i64 y.t.k) ∧ w'.cell? ⟨w7.heap.size, 3, none⟩ = some (.int .i64 y.t.n) ∧ w'.cell? ⟨w7.heap.size, 4, none⟩ = some (.slice a7 y.t.ks.length k7) ∧ w'.cell? ⟨w7.heap.size, 5, none⟩ = some (.int .i64 y.e.k) ∧ w'.cell? ⟨w7.heap.size, 6, none⟩ = some (.int .i64 y.e.n) ∧ w'.cell? ⟨w7.heap.size, 7, none⟩ = some (.string y.e.m) ∧ w'.cell? ⟨w7.heap.size, 8, none⟩ = some (.string y.e.s) ∧ w'.cell? ⟨w7.heap.size, 9, none⟩ = some (.slice b7 y.e.ks.length j7) ∧ w'.cell? ⟨w7.heap.size, 10, none⟩ = some (.int .i64 y.c) ∧ w'.cell? ⟨(w.heap.size + 1), 0, none⟩ = some (.int .i64 y.k) ∧ w'.cell? ⟨(w.heap.size + 1), 1, none⟩ = some (.string y.s) ∧ w'.cell? ⟨(w.heap.size + 1), 2, none⟩ = some (.int .i64 y.t.k) ∧ w'.cell? ⟨(w.heap.size + 1), 3, none⟩ = some (.int .i64 y.t.n) ∧ w'.cell? ⟨(w.heap.size + 1), 4, none⟩ = some (.slice tb y.t.ks.length td) ∧ w'.cell? ⟨(w.heap.size + 1), 5, none⟩ = some (.int .i64 y.e.k) ∧ w'.cell? ⟨(w.heap.size + 1), 6, none⟩ = some (.int .i64 y.e.n) ∧ w'.cell? ⟨(w.heap.size + 1), 7, none⟩ = some (.string y.e.m) ∧ w'.cell? ⟨(w.heap.size + 1), 8, none⟩ = some (.string y.e.s) ∧ w'.cell? ⟨(w.heap.size + 1), 9, none⟩ = some (.slice eb y.e.ks.length ed) ∧ w'.cell? ⟨(w.heap.size + 1), 10, none⟩ = some (.int .i64 y.c)) (go_keep)
    (first
      | (go_at_call 26; refine (toLine_any y dt de _ _ _ HD.out hdt1 hde1 (HY1.out.kept (by first | exact H201.out | exact H201.out.drew)) (HY2.out.kept (by first | exact H201.out | exact H201.out.drew))).mono ?_; rintro e w13 ⟨vc1, uc1, Bc1, rfl, _, _, htc1, hxc1, hbc1⟩; obtain ⟨ac1, kc1, rfl, _⟩ := htc1.at.slice; have hbd : Below w11.heap.size w11 w13 := Below.trans (B := w11.heap.size) (by first | exact Below.refl _ _ | exact (Below.refl _ _).drew) hbc1; obtain ⟨bc1, jc1, rfl, _⟩ := hxc1.at.slice; have TC1 := Lib.hid htc1.at; have XC1 := Lib.hid hxc1.at; have Z207 := Lib.hid (show w11.heap.size ≤ w13.heap.size from hbd.size); have B208 := Lib.hid (B193.out.kept hbd); have B209 := Lib.hid (B194.out.kept hbd); have B210 := Lib.hid (B195.out.kept hbd); have B211 := Lib.hid (B196.out.kept hbd); have T212 := Lib.hid (T197.out.kept hbd); have T213 := Lib.hid (T198.out.kept hbd); have T214 := Lib.hid (T199.out.kept hbd); have T215 := Lib.hid (T200.out.kept hbd); have H216 := Lib.hid (H201.out.trans (hbd.mono H201.out.size)); obtain ⟨bf217, bg217, bh217, bi217, bj217, bk217, bl217, bm217, bn217, bo217, bp217, bz217⟩ := B211.out; obtain ⟨bf218, bg218, bh218, bi218, bj218, bk218, bl218, bm218, bn218, bo218, bp218, bz218⟩ := B209.out; clear hbc1 hbd htc1 hxc1)
      | (go_at_call 28; refine (eqLine_any y dt de _ _ _ _ _ HD.out hdt1 hde1 (by first | exact T214.out.at | exact (T214.out.at).kept (Below.refl _ _).drew) (by first | exact T215.out.at | exact (T215.out.at).kept (Below.refl _ _).drew) (by first | exact TC1.out | exact TC1.out.kept (Below.refl _ _).drew) (by first | exact XC1.out | exact XC1.out.kept (Below.refl _ _).drew)).mono ?_; rintro e w14 ⟨rfl, hbc2⟩; have hbd : Below w13.heap.size w13 w14 := Below.trans (B := w13.heap.size) (by first | exact Below.refl _ _ | exact (Below.refl _ _).drew) hbc2; have Z220 := Lib.hid (show w13.heap.size ≤ w14.heap.size from hbd.size); have B221 := Lib.hid (B208.out.kept hbd); have B222 := Lib.hid (B209.out.kept hbd); have B223 := Lib.hid (B210.out.kept hbd); have B224 := Lib.hid (B211.out.kept hbd); have T225 := Lib.hid (T212.out.kept hbd); have T226 := Lib.hid (T213.out.kept hbd); have T227 := Lib.hid (T214.out.kept hbd); have T228 := Lib.hid (T215.out.kept hbd); have H229 := Lib.hid (H216.out.trans (hbd.mono H216.out.size)); obtain ⟨bf230, bg230, bh230, bi230, bj230, bk230, bl230, bm230, bn230, bo230, bp230, bz230⟩ := B224.out; obtain ⟨bf231, bg231, bh231, bi231, bj231, bk231, bl231, bm231, bn231, bo231, bp231, bz231⟩ := B222.out; clear hbc2 hbd))
  go_wp2_with fail
  go_ret
  exact ⟨rfl, H229.out⟩

set_option maxRecDepth 100000 in
theorem lifted (os : Os) (started : os.Started) (H : Type) (enc : TypeId × Value → H) :
    ReturnsInHanded {} Try.checked os 7 .any (Rows.fnExactLineSameSpec.pre6 enc Try.prog Try.f7 Rows.fnExactLineSameRow.domain false) (Rows.fnExactLineSameSpec.post enc Try.prog Try.f7 false true false false) := by
  refine returnsInHanded_of_change (C := Try.checked) own started (by kernel_rfl) Try.func7
    (ChangeSpec.witness6 (enc := enc) (C := Try.checked) false ⟨#[], #[.agg #[.int .i64 0, .string ⟨#[]⟩, .int .i64 0, .int .i64 0, .slice none 0 0, .int .i64 0, .int .i64 0, .string ⟨#[]⟩, .string ⟨#[]⟩, .slice none 0 0, .int .i64 0], .agg #[.int .i64 0, .string ⟨#[]⟩, .int .i64 0, .int .i64 0, .slice none 0 0, .int .i64 0, .int .i64 0, .string ⟨#[]⟩, .string ⟨#[]⟩, .slice none 0 0, .int .i64 0]], []⟩ 8 (by kernel_rfl) (by kernel_rfl) (by kernel_rfl) (by kernel_rfl)) ?_
  intro W base args ds gs before hval0 hW hcnd _
  have hval : ∀ (j : Nat) t v, Try.f7.params[j]? = some t → args[j]? = some v → Value.okWide Try.prog W .any base t v := hval0
  have hW' := hW
  obtain ⟨p, q, hA0, hV, rfl, hfz, hnd⟩ := hW
  have hA : DataW.TrodAll enc Try.prog W 0 (fun _ => true) true Try.f7.params.toList args.toList ds p := hA0
  rw [Try.params7] at hA hval
  obtain ⟨v0, vs0, d0, ds0, p0, q0, hargs, rfl, rfl, h0, r0⟩ := trodAll_cons hA
  obtain ⟨v1, vs1, d1, ds1, p1, q1, rfl, rfl, rfl, h1, r1⟩ := trodAll_cons r0
  obtain ⟨rfl, rfl, rfl⟩ := trodAll_nil r1
  obtain rfl : args = #[v0, v1] := by cases args; simp_all
  obtain ⟨rfl, rfl⟩ := trodVars_none hV
  have k0 := h0
  have lt0 : ∀ x ∈ p0, x.block < W.heap.size := by obtain ⟨m, hm⟩ := k0; exact DataW.trod_lt m _ _ _ hm
  have k1 := h1
  have lt1 : ∀ x ∈ p1, x.block < W.heap.size := by obtain ⟨m, hm⟩ := k1; exact DataW.trod_lt m _ _ _ hm
  obtain ⟨cs0, rfl, _⟩ := okWide_struct Try.underlying46 (hval 0 46 v0 rfl rfl)
  obtain ⟨u0, z0, y0, w0, hz0, hy0, hn0⟩ : ∃ (l : Ln) (vt ve : Value), cs0 = #[.int .i64 l.k, .string l.s, .int .i64 l.t.k, .int .i64 l.t.n, vt, .int .i64 l.e.k, .int .i64 l.e.n, .string l.e.m, .string l.e.s, ve, .int .i64 l.c] ∧ TyAt W l.t vt ∧ ExAt W l.e ve ∧ ∃ ct ce, LnCnt l ct ce := by
    obtain ⟨fuel, hf⟩ := h0
    obtain ⟨l, vt, ve, ct, ce, hcs, hat, hae, hct⟩ := ln_of_trod fuel _ _ hf
    exact ⟨l, vt, ve, Array.toList_inj.1 hcs, hat, hae, ct, ce, hct⟩
  subst w0
  obtain ⟨cs1, rfl, _⟩ := okWide_struct Try.underlying46 (hval 1 46 v1 rfl rfl)
  obtain ⟨u1, z1, y1, w1, hz1, hy1, hn1⟩ : ∃ (l : Ln) (vt ve : Value), cs1 = #[.int .i64 l.k, .string l.s, .int .i64 l.t.k, .int .i64 l.t.n, vt, .int .i64 l.e.k, .int .i64 l.e.n, .string l.e.m, .string l.e.s, ve, .int .i64 l.c] ∧ TyAt W l.t vt ∧ ExAt W l.e ve ∧ ∃ ct ce, LnCnt l ct ce := by
    obtain ⟨fuel, hf⟩ := h1
    obtain ⟨l, vt, ve, ct, ce, hcs, hat, hae, hct⟩ := ln_of_trod fuel _ _ hf
    exact ⟨l, vt, ve, Array.toList_inj.1 hcs, hat, hae, ct, ce, hct⟩
  subst w1
  clear hA0 hval0
  refine (walk u0 z0 y0 u1 z1 y1 W hz0 hy0 hn0 hz1 hy1 hn1).mono fun e W' ⟨he, bel⟩ => ?_
  subst he
  exact ⟨_, rfl, _, _, _, [], _, [], hW', trodAll_mk1 (shut_bool Try.underlying4 _), (trodAll_cons_mk (Below.trod laidOut (by kernel_rfl) (of_decide_eq_true (by kernel_rfl)) k0 bel lt0) (trodAll_cons_mk (Below.trod laidOut (by kernel_rfl) (of_decide_eq_true (by kernel_rfl)) k1 bel lt1) trodAll_mk0)), rfl, bel.frame _, fun h => by cases h⟩

theorem over : Rows.fnExactLineSameRow.holds Try.pinned (OpenSpec.ofChange Rows.fnExactLineSameSpec) :=
  OpenClaim.holds_of_wide 7 Try.f7 rfl rfl rfl rfl rfl rfl rfl ⟨rfl, rfl, rfl, rfl, rfl⟩ rfl rfl rfl rfl rfl (by kernel_rfl) Try.func7 (by kernel_rfl)
    (of_decide_eq_true (by kernel_rfl)) (by unfold Func.isWrapper; first | (rw [if_pos (by decide +kernel)]; kernel_rfl) | (rw [if_neg (by decide +kernel)]; exact ⟨rfl, rfl⟩))
    (fun os started H enc _ => lifted os started H enc)

/-- The given statement. -/
theorem proved : Rows.FnExactLineSameSaid := over
end Go.Proofs.Ytncpakpamfocbaa.fnExactLineSame
