/-
  FnExactOpenBase returns true for every list of files, and it reads as it did: OpenBase answers as its model, and its answer lies in memory of its own. The row lists tables that the program's text lays; the card ties them.
-/
import Derived.Test.YtkekghdkbbjhpaaDoorVw
import Derived.Test.YtkekghdkbbjhpaaDoorJd
namespace Go.Proofs.YtkekghdkbbjhpaaDoor.fnExactOpenBase
open Go.Proofs.YtkekghdkbbjhpaaDoor
open Go.ChangeShapes Go.WideShapes Go.ChangeAt Go.RowKit Go.Joins
open Go.ChangeMaps (open_string shut_string)
set_option linter.unusedVariables false

theorem FsAt.len {w : World} {ls : List Fl} {m : Nat} {a : Option Addr} {c : Nat} (hm : ls.length = m) (h : FsAt w ls (.slice a m c)) : FsAt w ls (.slice a m c) := h
theorem FO.len {w : World} {lo hi : Nat} {ls : List Fl} {m : Nat} {v : Value} (hm : ls.length = m) (h : FO w lo hi v ls) : FO w lo hi v ls := h
theorem openBase_spec' (ls : List Fl) (m : Nat) (hm : ls.length = m) (hl : ls.length ≤ 2000000) (hz : FlSz ls) (g c : Nat) (hcap : m ≤ c) (hcm : c ≤ 2000000) (w : World) (h : FO w g (g + 1) (.slice (some ⟨g, 0, none⟩) m c) ls) :
    Calls Tryd.prog 12 #[.slice (some ⟨g, 0, none⟩) m c] w (ObPost ls w) := by subst hm; exact openBase_spec ls hl hz g c hcap hcm w h
theorem openBase_impl' (ls : List Fl) (m : Nat) (hm : ls.length = m) (hl : ls.length ≤ 2000000) (hz : FlSz ls) (g c : Nat) (hcap : m ≤ c) (hcm : c ≤ 2000000) (w : World) (h : FO w g (g + 1) (.slice (some ⟨g, 0, none⟩) m c) ls) :
    Calls Tryd.prog 13 #[.slice (some ⟨g, 0, none⟩) m c] w (ObPost ls w) := by subst hm; exact openBase_impl ls hl hz g c hcap hcm w h
theorem toFileS_own' (ls : List Fl) (m : Nat) (hm : ls.length = m) (v : Value) (w : World) (hl : (ls.length : Int) ≤ 1048576) (hx : FsAt w ls v) :
    Calls Tryd.prog 9 #[v] w fun e w' => ∃ g, e = .returned (.slice (some ⟨g, 0, none⟩) m m) ∧ FO w' g (g + 1) (.slice (some ⟨g, 0, none⟩) m m) ls ∧ w.heap.size ≤ g ∧ g < w'.heap.size ∧ Below w.heap.size w w' := by subst hm; exact toFileS_own ls v w hl hx
set_option maxRecDepth 100000 in
set_option maxHeartbeats 8000000 in
theorem walk (ls : List Fl) (lv : Value) (w : World) (hx : FsAt w ls lv) (hz : FlSz ls) :
    Calls Tryd.prog 4 #[lv] w fun e w' => e = .returned (.bool true) ∧ Below w.heap.size w w' := by
  have HX := Lib.hid hx
  have HZ : Hid (FlSz ls) := Lib.hid hz
  obtain ⟨a, cap, rfl, hlen⟩ := hx.slice
  obtain ⟨m, hm⟩ : ∃ m, ls.length = m := ⟨_, rfl⟩
  have HN := Lib.hid hm
  rw [hm] at hlen HX ⊢
  clear hx hz
  by_cases hl2 : (m : Int) ≤ 1048576
  case neg =>
    have HL2 : Hid (¬ (ls.length : Int) ≤ 1048576) := Lib.hid (by rw [hm]; exact hl2)
    clear hm hl2
    go_enter Tryd.func4, Tryd.ntmps4
    go_wp2_with fail
    go_at_call 7
    refine (szFileS_long ls _ _ HX.out (by have := HL2.out; omega)).mono ?_
    rintro e w1 ⟨rfl, hb1⟩
    go_wp2_with fail
    go_ret
    exact ⟨rfl, hb1⟩
  have HL : Hid ((ls.length : Int) ≤ 1048576) := Lib.hid (by rw [hm]; exact hl2)
  have HM : Hid (ls.length ≤ 2000000) := Lib.hid (by rw [hm]; omega)
  obtain ⟨b, hb⟩ : ∃ b, lff (1048576 - ls.length) ls = b := ⟨_, rfl⟩
  have hbr := lff_range (ls := ls) (n := 1048576 - ls.length) (by rw [hm]; omega)
  rw [hb] at hbr
  have HBB := Lib.hid hb
  clear hm hb hl2
  rcases hbr with rfl | ⟨hb0, hb1⟩
  · go_enter Tryd.func4, Tryd.ntmps4
    go_wp2_with fail
    go_at_call 7
    refine (szFileS_any ls _ _ _ HZ.out HX.out HL.out HBB.out).mono ?_
    rintro e w1 ⟨rfl, hb1⟩
    go_wp2_with fail
    go_ret
    exact ⟨rfl, hb1⟩
  have hbn : ¬ b < 0 := by omega
  clear hb0 hb1
  obtain ⟨v, hv⟩ : ∃ v, filesB ls = v := ⟨_, rfl⟩
  have HV := Lib.hid hv
  obtain ⟨fs, hfs⟩ : ∃ fs, obF ls = fs := ⟨_, rfl⟩
  obtain ⟨n, hn⟩ : ∃ n, fs.length = n := ⟨_, rfl⟩
  have HFS := Lib.hid hfs
  have HNN := Lib.hid hn
  have hn4 : n ≤ 4 := by rw [← hn, ← hfs]; exact obF_le ls
  have HN4 := Lib.hid hn4
  have HZL : Hid ((zs0 n).length = n) := Lib.hid (zs0_len n)
  have hvv : (v != v) = false := by cases v <;> rfl
  have hqm : ¬ (1 : Int) + 2 * (m : Int) < 0 := by omega
  have hqn : ¬ (1 : Int) + 3 * (n : Int) < 0 := by omega
  clear hv hfs hn hn4
  go_enter Tryd.func4, Tryd.ntmps4
  go_wp2_with fail
  go_at_call 7
  refine (szFileS_any ls _ _ _ HZ.out HX.out HL.out HBB.out).mono ?_
  rintro e w1 ⟨rfl, hb⟩
  have HB1 := Lib.hid ((Below.refl w.heap.size w).trans (hb.mono (Below.refl w.heap.size w).size))
  clear hb
  have HX_0 := Lib.hid (HX.out.kept HB1.out)
  go_wp2_with fail
  go_at_call 9
  refine (toFileS_own' ls m HN.out _ _ HL.out HX_0.out).mono ?_
  rintro e w2 ⟨g1, rfl, hF, hg1, hg2, hb⟩
  have HGg1 := Lib.hid hg1
  have HKg1 := Lib.hid hg2
  clear hg1 hg2
  have HB2 := Lib.hid (HB1.out.trans (hb.mono HB1.out.size))
  have HX_2 := Lib.hid (HX_0.out.kept hb)
  clear hb
  have A1 := Lib.hid hF
  clear hF
  go_wp2_with fail
  go_at_call 12
  refine (openBase_spec' ls m HN.out HM.out HZ.out g1 m (Nat.le_refl _) (by have := HM.out; have := HN.out; omega) _ A1.out).mono ?_
  rintro e w3 ⟨fax, fcx, iax, icx, lfx, hfx, lix, hix, rfl, hO⟩
  obtain ⟨hF, hI, h1, h2, h3, h4, h5, hb⟩ := hO
  rw [HFS.out] at hF hI ⊢
  rw [HNN.out] at hF hI ⊢
  rw [HV.out]
  have HS2 : Hid (w2.heap.size ≤ w3.heap.size) := Lib.hid hb.size
  have HOx := Lib.hid (And.intro h1 (And.intro h2 (And.intro h3 (And.intro h4 h5))))
  clear h1 h2 h3 h4 h5
  have HB3 := Lib.hid (HB2.out.trans (hb.mono HB2.out.size))
  have HX_3 := Lib.hid (HX_2.out.kept hb)
  have A1_3 := Lib.hid (A1.out.kept hb)
  clear hb
  have Fx := Lib.hid hF
  clear hF
  have Ix := Lib.hid hI
  clear hI
  have hA := (Below.refl w3.heap.size w3).alloc (Nat.le_refl _) (.cells #[.slice fax n fcx, .slice iax n icx, .int .i64 0, .slice none 0 0, .int .i64 0] 33)
  have hX := Bx.new w3 (.slice fax n fcx) (.slice iax n icx)
  have HW4 : Hid (w3.heap.size < (w3.alloc (.cells #[.slice fax n fcx, .slice iax n icx, .int .i64 0, .slice none 0 0, .int .i64 0] 33)).heap.size) := Lib.hid (by rw [World.size_alloc]; omega)
  obtain ⟨w4, hW4⟩ : ∃ W, w3.alloc (.cells #[.slice fax n fcx, .slice iax n icx, .int .i64 0, .slice none 0 0, .int .i64 0] 33) = W := ⟨_, rfl⟩
  rw [hW4] at hA hX HW4
  have HQ4 := Lib.hid hW4
  clear hW4
  have HB4 := Lib.hid (HB3.out.trans (hA.mono HB3.out.size))
  have HX_4 := Lib.hid (HX_3.out.kept hA)
  have Fx_4 := Lib.hid (Fx.out.kept hA)
  have Ix_4 := Lib.hid (Ix.out.kept hA)
  have Xx := Lib.hid hX
  clear hX
  clear hA
  go_wp2_with fail
  try rw [HQ4.out]
  go_at_call 9
  refine (toFileS_own' ls m HN.out _ _ HL.out HX_4.out).mono ?_
  rintro e w5 ⟨g2, rfl, hF, hg1, hg2, hb⟩
  have HGg2 := Lib.hid hg1
  have HKg2 := Lib.hid hg2
  clear hg1 hg2
  have HB5 := Lib.hid (HB4.out.trans (hb.mono HB4.out.size))
  have HX_5 := Lib.hid (HX_4.out.kept hb)
  have Fx_5 := Lib.hid (Fx_4.out.kept hb)
  have Ix_5 := Lib.hid (Ix_4.out.kept hb)
  have Xx_5 := Lib.hid (Xx.out.kept hb)
  clear hb
  have A2 := Lib.hid hF
  clear hF
  go_wp2_with fail
  go_at_call 13
  refine (openBase_impl' ls m HN.out HM.out HZ.out g2 m (Nat.le_refl _) (by have := HM.out; have := HN.out; omega) _ A2.out).mono ?_
  rintro e w6 ⟨fay, fcy, iay, icy, lfy, hfy, liy, hiy, rfl, hO⟩
  obtain ⟨hF, hI, h1, h2, h3, h4, h5, hb⟩ := hO
  rw [HFS.out] at hF hI ⊢
  rw [HNN.out] at hF hI ⊢
  rw [HV.out]
  have HS4 : Hid (w5.heap.size ≤ w6.heap.size) := Lib.hid hb.size
  have HOy := Lib.hid (And.intro h1 (And.intro h2 (And.intro h3 (And.intro h4 h5))))
  clear h1 h2 h3 h4 h5
  have HB6 := Lib.hid (HB5.out.trans (hb.mono HB5.out.size))
  have HX_6 := Lib.hid (HX_5.out.kept hb)
  have Fx_6 := Lib.hid (Fx_5.out.kept hb)
  have Ix_6 := Lib.hid (Ix_5.out.kept hb)
  have Xx_6 := Lib.hid (Xx_5.out.kept hb)
  have A2_6 := Lib.hid (A2.out.kept hb)
  clear hb
  have Fy := Lib.hid hF
  clear hF
  have Iy := Lib.hid hI
  clear hI
  have hA := (Below.refl w6.heap.size w6).alloc (Nat.le_refl _) (.cells #[.slice fay n fcy, .slice iay n icy, .int .i64 0, .slice none 0 0, .int .i64 0] 33)
  have hX := Bx.new w6 (.slice fay n fcy) (.slice iay n icy)
  have HW7 : Hid (w6.heap.size < (w6.alloc (.cells #[.slice fay n fcy, .slice iay n icy, .int .i64 0, .slice none 0 0, .int .i64 0] 33)).heap.size) := Lib.hid (by rw [World.size_alloc]; omega)
  obtain ⟨w7, hW7⟩ : ∃ W, w6.alloc (.cells #[.slice fay n fcy, .slice iay n icy, .int .i64 0, .slice none 0 0, .int .i64 0] 33) = W := ⟨_, rfl⟩
  rw [hW7] at hA hX HW7
  have HQ7 := Lib.hid hW7
  clear hW7
  have HB7 := Lib.hid (HB6.out.trans (hA.mono HB6.out.size))
  have HX_7 := Lib.hid (HX_6.out.kept hA)
  have Fx_7 := Lib.hid (Fx_6.out.kept hA)
  have Ix_7 := Lib.hid (Ix_6.out.kept hA)
  have Xx_7 := Lib.hid (Xx_6.out.kept hA)
  have A2_7 := Lib.hid (A2_6.out.kept hA)
  have Fy_7 := Lib.hid (Fy.out.kept hA)
  have Iy_7 := Lib.hid (Iy.out.kept hA)
  have Xy := Lib.hid hX
  clear hX
  clear hA
  obtain ⟨q0, q1, q2, q3, q4, _, _, _, _, _, qz⟩ := Xx_6.out
  go_wp2_with fail
  try rw [HQ7.out]
  clear q0 q1 q2 q3 q4 qz
  go_at_call 14
  refine (eqBase_same fs (zs0 n) n _ _ fay fax iay iax fcy fcx icy icx _ HNN.out HZL.out HN4.out Fy_7.out.at Fx_7.out.at Iy_7.out.at Ix_7.out.at).mono ?_
  rintro e w8 ⟨rfl, hb⟩
  have HB8 := Lib.hid (HB7.out.trans (hb.mono HB7.out.size))
  have HX_8 := Lib.hid (HX_7.out.kept hb)
  have Fx_8 := Lib.hid (Fx_7.out.kept hb)
  have Ix_8 := Lib.hid (Ix_7.out.kept hb)
  have Xx_8 := Lib.hid (Xx_7.out.kept hb)
  have A2_8 := Lib.hid (A2_7.out.kept hb)
  have Fy_8 := Lib.hid (Fy_7.out.kept hb)
  have Iy_8 := Lib.hid (Iy_7.out.kept hb)
  have Xy_8 := Lib.hid (Xy.out.kept hb)
  clear hb
  go_wp2_with fail
  go_at_call 9
  refine (toFileS_own' ls m HN.out _ _ HL.out HX_8.out).mono ?_
  rintro e w9 ⟨g3, rfl, hF, hg1, hg2, hb⟩
  have HGg3 := Lib.hid hg1
  have HKg3 := Lib.hid hg2
  clear hg1 hg2
  have HB9 := Lib.hid (HB8.out.trans (hb.mono HB8.out.size))
  have HX_9 := Lib.hid (HX_8.out.kept hb)
  have Fx_9 := Lib.hid (Fx_8.out.kept hb)
  have Ix_9 := Lib.hid (Ix_8.out.kept hb)
  have Xx_9 := Lib.hid (Xx_8.out.kept hb)
  have A2_9 := Lib.hid (A2_8.out.kept hb)
  have Fy_9 := Lib.hid (Fy_8.out.kept hb)
  have Iy_9 := Lib.hid (Iy_8.out.kept hb)
  have Xy_9 := Lib.hid (Xy_8.out.kept hb)
  clear hb
  have A3 := Lib.hid hF
  clear hF
  go_wp2_with fail
  go_at_call 11
  refine (eqFileS_any ls _ _ _ HL.out (FsAt.len HN.out A2_9.out.at) (FsAt.len HN.out A3.out.at)).mono ?_
  rintro e w10 ⟨rfl, hb⟩
  have HB10 := Lib.hid (HB9.out.trans (hb.mono HB9.out.size))
  have HX_10 := Lib.hid (HX_9.out.kept hb)
  have Fx_10 := Lib.hid (Fx_9.out.kept hb)
  have Ix_10 := Lib.hid (Ix_9.out.kept hb)
  have Xx_10 := Lib.hid (Xx_9.out.kept hb)
  have A2_10 := Lib.hid (A2_9.out.kept hb)
  have Fy_10 := Lib.hid (Fy_9.out.kept hb)
  have Iy_10 := Lib.hid (Iy_9.out.kept hb)
  have Xy_10 := Lib.hid (Xy_9.out.kept hb)
  have A3_10 := Lib.hid (A3.out.kept hb)
  clear hb
  go_wp2_with fail
  go_at_call 15
  refine (markFileS_any g2 (g2 + 1) 1 ls HM.out ⟨by omega, by omega⟩ _ _ (FO.len HN.out A2_10.out)).mono ?_
  rintro e w11 ⟨rfl, hF, hI⟩
  rw [HN.out]
  have HI11 := Lib.hid hI
  have HB11 := Lib.hid (hI.below (by have n1 := HW4.out; have n2 := HGg2.out; have n3 := HKg2.out; have n4 := HOx.out; have n5 := HOy.out; have n6 := HS2.out; have n7 := HS4.out; have n8 := HW7.out; have n10 := HB4.out.size; omega) HB10.out (by exact HB10.out.size))
  clear hF hI
  have HX_11 := Lib.hid (HX.out.kept HB11.out)
  have Fx_11 := Lib.hid (Fx_10.out.inside HI11.out (by have n1 := HW4.out; have n2 := HGg2.out; have n3 := HKg2.out; have n4 := HOx.out; have n5 := HOy.out; have n6 := HS2.out; have n7 := HS4.out; have n8 := HW7.out; omega))
  have Ix_11 := Lib.hid (Ix_10.out.inside HI11.out (by have n1 := HW4.out; have n2 := HGg2.out; have n3 := HKg2.out; have n4 := HOx.out; have n5 := HOy.out; have n6 := HS2.out; have n7 := HS4.out; have n8 := HW7.out; omega))
  have Xx_11 := Lib.hid (Xx_10.out.inside HI11.out (by have n1 := HW4.out; have n2 := HGg2.out; have n3 := HKg2.out; have n4 := HOx.out; have n5 := HOy.out; have n6 := HS2.out; have n7 := HS4.out; have n8 := HW7.out; omega))
  have Fy_11 := Lib.hid (Fy_10.out.inside HI11.out (by have n1 := HW4.out; have n2 := HGg2.out; have n3 := HKg2.out; have n4 := HOx.out; have n5 := HOy.out; have n6 := HS2.out; have n7 := HS4.out; have n8 := HW7.out; omega))
  have Iy_11 := Lib.hid (Iy_10.out.inside HI11.out (by have n1 := HW4.out; have n2 := HGg2.out; have n3 := HKg2.out; have n4 := HOx.out; have n5 := HOy.out; have n6 := HS2.out; have n7 := HS4.out; have n8 := HW7.out; omega))
  have Xy_11 := Lib.hid (Xy_10.out.inside HI11.out (by have n1 := HW4.out; have n2 := HGg2.out; have n3 := HKg2.out; have n4 := HOx.out; have n5 := HOy.out; have n6 := HS2.out; have n7 := HS4.out; have n8 := HW7.out; omega))
  have HZ11 := Lib.hid HI11.out.size
  obtain ⟨p0, p1, p2, p3, p4, _, _, _, _, _, pz⟩ := Xy_11.out
  obtain ⟨q0, q1, q2, q3, q4, _, _, _, _, _, qz⟩ := Xx_11.out
  go_wp2_with fail
  clear p0 p1 p2 p3 p4 pz q0 q1 q2 q3 q4 qz
  go_at_call 14
  refine (eqBase_same fs (zs0 n) n _ _ fay fax iay iax fcy fcx icy icx _ HNN.out HZL.out HN4.out Fy_11.out.at Fx_11.out.at Iy_11.out.at Ix_11.out.at).mono ?_
  rintro e w12 ⟨rfl, hb⟩
  have HB12 := Lib.hid (HB11.out.trans (hb.mono HB11.out.size))
  have HX_12 := Lib.hid (HX_11.out.kept hb)
  have Fx_12 := Lib.hid (Fx_11.out.kept hb)
  have Ix_12 := Lib.hid (Ix_11.out.kept hb)
  have Xx_12 := Lib.hid (Xx_11.out.kept hb)
  have Fy_12 := Lib.hid (Fy_11.out.kept hb)
  have Iy_12 := Lib.hid (Iy_11.out.kept hb)
  have Xy_12 := Lib.hid (Xy_11.out.kept hb)
  clear hb
  obtain ⟨p0, p1, p2, p3, p4, _, _, _, _, _, pz⟩ := Xy_12.out
  go_wp2_with fail
  clear p0 p1 p2 p3 p4 pz
  go_at_call 16
  refine (markBase_any fs (zs0 n) n 1 fay iay fcy icy lfy hfy liy hiy w5.heap.size w6.heap.size _ HNN.out HZL.out HN4.out ⟨by omega, by omega⟩ Fy_12.out Iy_12.out (by have n1 := HW4.out; have n2 := HGg2.out; have n3 := HKg2.out; have n4 := HOx.out; have n5 := HOy.out; have n6 := HS2.out; have n7 := HS4.out; have n8 := HW7.out; omega) (by have n1 := HW4.out; have n2 := HGg2.out; have n3 := HKg2.out; have n4 := HOx.out; have n5 := HOy.out; have n6 := HS2.out; have n7 := HS4.out; have n8 := HW7.out; omega) (by have n1 := HW4.out; have n2 := HGg2.out; have n3 := HKg2.out; have n4 := HOx.out; have n5 := HOy.out; have n6 := HS2.out; have n7 := HS4.out; have n8 := HW7.out; omega) (by have n1 := HW4.out; have n2 := HGg2.out; have n3 := HKg2.out; have n4 := HOx.out; have n5 := HOy.out; have n6 := HS2.out; have n7 := HS4.out; have n8 := HW7.out; omega) (by have n1 := HW4.out; have n2 := HGg2.out; have n3 := HKg2.out; have n4 := HOx.out; have n5 := HOy.out; have n6 := HS2.out; have n7 := HS4.out; have n8 := HW7.out; omega) (by have n1 := HW4.out; have n2 := HGg2.out; have n3 := HKg2.out; have n4 := HOx.out; have n5 := HOy.out; have n6 := HS2.out; have n7 := HS4.out; have n8 := HW7.out; have n11 := Xy_12.out.sz; omega)).mono ?_
  rintro e w13 ⟨rfl, hF, hZ, hI⟩
  have HI13 := Lib.hid hI
  have HB13 := Lib.hid (hI.below (by have n1 := HW4.out; have n2 := HGg2.out; have n3 := HKg2.out; have n4 := HOx.out; have n5 := HOy.out; have n6 := HS2.out; have n7 := HS4.out; have n8 := HW7.out; have n10 := HB5.out.size; omega) HB12.out (by exact HB12.out.size))
  clear hI
  have HX_13 := Lib.hid (HX.out.kept HB13.out)
  have Fx_13 := Lib.hid (Fx_12.out.inside HI13.out (by have n1 := HW4.out; have n2 := HGg2.out; have n3 := HKg2.out; have n4 := HOx.out; have n5 := HOy.out; have n6 := HS2.out; have n7 := HS4.out; have n8 := HW7.out; omega))
  have Ix_13 := Lib.hid (Ix_12.out.inside HI13.out (by have n1 := HW4.out; have n2 := HGg2.out; have n3 := HKg2.out; have n4 := HOx.out; have n5 := HOy.out; have n6 := HS2.out; have n7 := HS4.out; have n8 := HW7.out; omega))
  have Xx_13 := Lib.hid (Xx_12.out.inside HI13.out (by have n1 := HW4.out; have n2 := HGg2.out; have n3 := HKg2.out; have n4 := HOx.out; have n5 := HOy.out; have n6 := HS2.out; have n7 := HS4.out; have n8 := HW7.out; omega))
  have Xy_13 := Lib.hid (Xy_12.out.inside HI13.out (by have n1 := HW4.out; have n2 := HGg2.out; have n3 := HKg2.out; have n4 := HOx.out; have n5 := HOy.out; have n6 := HS2.out; have n7 := HS4.out; have n8 := HW7.out; omega))
  have Fy := Lib.hid hF
  clear hF
  have Iy := Lib.hid hZ
  clear hZ
  obtain ⟨p0, p1, p2, p3, p4, _, _, _, _, _, pz⟩ := Xy_13.out
  go_wp2_with fail
  clear p0 p1 p2 p3 p4 pz
  go_at_call 17
  refine (heldBase_any n 1 _ fay iay fcy icy _ HN4.out ⟨by omega, by omega⟩ Fy.out.at (by exact Iy.out.at)).mono ?_
  rintro e w14 ⟨rfl, hb⟩
  have HB14 := Lib.hid (HB13.out.trans (hb.mono HB13.out.size))
  have HX_14 := Lib.hid (HX_13.out.kept hb)
  have Fx_14 := Lib.hid (Fx_13.out.kept hb)
  have Ix_14 := Lib.hid (Ix_13.out.kept hb)
  have Xx_14 := Lib.hid (Xx_13.out.kept hb)
  have Xy_14 := Lib.hid (Xy_13.out.kept hb)
  have Fy_14 := Lib.hid (Fy.out.kept hb)
  have Iy_14 := Lib.hid (Iy.out.kept hb)
  clear hb
  go_wp2_with fail
  go_at_call 9
  refine (toFileS_own' ls m HN.out _ _ HL.out HX_14.out).mono ?_
  rintro e w15 ⟨g4, rfl, hF, hg1, hg2, hb⟩
  have HGg4 := Lib.hid hg1
  have HKg4 := Lib.hid hg2
  clear hg1 hg2
  have HB15 := Lib.hid (HB14.out.trans (hb.mono HB14.out.size))
  have HX_15 := Lib.hid (HX_14.out.kept hb)
  have Fx_15 := Lib.hid (Fx_14.out.kept hb)
  have Ix_15 := Lib.hid (Ix_14.out.kept hb)
  have Xx_15 := Lib.hid (Xx_14.out.kept hb)
  have Xy_15 := Lib.hid (Xy_14.out.kept hb)
  have Fy_15 := Lib.hid (Fy_14.out.kept hb)
  have Iy_15 := Lib.hid (Iy_14.out.kept hb)
  clear hb
  have A4 := Lib.hid hF
  clear hF
  go_wp2_with fail
  go_at_call 13
  refine (openBase_impl' ls m HN.out HM.out HZ.out g4 m (Nat.le_refl _) (by have := HM.out; have := HN.out; omega) _ A4.out).mono ?_
  rintro e w16 ⟨faz, fcz, iaz, icz, lfz, hfz, liz, hiz, rfl, hO⟩
  obtain ⟨hF, hI, h1, h2, h3, h4, h5, hb⟩ := hO
  rw [HFS.out] at hF hI ⊢
  rw [HNN.out] at hF hI ⊢
  rw [HV.out]
  have HOz := Lib.hid (And.intro h1 (And.intro h2 (And.intro h3 (And.intro h4 h5))))
  clear h1 h2 h3 h4 h5
  have HB16 := Lib.hid (HB15.out.trans (hb.mono HB15.out.size))
  have HX_16 := Lib.hid (HX_15.out.kept hb)
  have Fx_16 := Lib.hid (Fx_15.out.kept hb)
  have Ix_16 := Lib.hid (Ix_15.out.kept hb)
  have Xx_16 := Lib.hid (Xx_15.out.kept hb)
  have Xy_16 := Lib.hid (Xy_15.out.kept hb)
  have Fy_16 := Lib.hid (Fy_15.out.kept hb)
  have Iy_16 := Lib.hid (Iy_15.out.kept hb)
  have A4_16 := Lib.hid (A4.out.kept hb)
  clear hb
  have Fz := Lib.hid hF
  clear hF
  have Iz := Lib.hid hI
  clear hI
  have hA := (Below.refl w16.heap.size w16).alloc (Nat.le_refl _) (.cells #[.slice faz n fcz, .slice iaz n icz, .int .i64 0, .slice none 0 0, .int .i64 0] 33)
  have hX := Bx.new w16 (.slice faz n fcz) (.slice iaz n icz)
  have HW17 : Hid (w16.heap.size < (w16.alloc (.cells #[.slice faz n fcz, .slice iaz n icz, .int .i64 0, .slice none 0 0, .int .i64 0] 33)).heap.size) := Lib.hid (by rw [World.size_alloc]; omega)
  obtain ⟨w17, hW17⟩ : ∃ W, w16.alloc (.cells #[.slice faz n fcz, .slice iaz n icz, .int .i64 0, .slice none 0 0, .int .i64 0] 33) = W := ⟨_, rfl⟩
  rw [hW17] at hA hX HW17
  have HQ17 := Lib.hid hW17
  clear hW17
  have HB17 := Lib.hid (HB16.out.trans (hA.mono HB16.out.size))
  have HX_17 := Lib.hid (HX_16.out.kept hA)
  have Fx_17 := Lib.hid (Fx_16.out.kept hA)
  have Ix_17 := Lib.hid (Ix_16.out.kept hA)
  have Xx_17 := Lib.hid (Xx_16.out.kept hA)
  have Xy_17 := Lib.hid (Xy_16.out.kept hA)
  have Fy_17 := Lib.hid (Fy_16.out.kept hA)
  have Iy_17 := Lib.hid (Iy_16.out.kept hA)
  have Fz_17 := Lib.hid (Fz.out.kept hA)
  have Iz_17 := Lib.hid (Iz.out.kept hA)
  have Xz := Lib.hid hX
  clear hX
  clear hA
  obtain ⟨q0, q1, q2, q3, q4, _, _, _, _, _, qz⟩ := Xx_16.out
  go_wp2_with fail
  try rw [HQ17.out]
  clear q0 q1 q2 q3 q4 qz
  go_at_call 14
  refine (eqBase_same fs (zs0 n) n _ _ faz fax iaz iax fcz fcx icz icx _ HNN.out HZL.out HN4.out Fz_17.out.at Fx_17.out.at Iz_17.out.at Ix_17.out.at).mono ?_
  rintro e w18 ⟨rfl, hb⟩
  have HB18 := Lib.hid (HB17.out.trans (hb.mono HB17.out.size))
  have HX_18 := Lib.hid (HX_17.out.kept hb)
  have Fx_18 := Lib.hid (Fx_17.out.kept hb)
  have Ix_18 := Lib.hid (Ix_17.out.kept hb)
  have Xx_18 := Lib.hid (Xx_17.out.kept hb)
  have Xy_18 := Lib.hid (Xy_17.out.kept hb)
  have Fy_18 := Lib.hid (Fy_17.out.kept hb)
  have Iy_18 := Lib.hid (Iy_17.out.kept hb)
  have Fz_18 := Lib.hid (Fz_17.out.kept hb)
  have Iz_18 := Lib.hid (Iz_17.out.kept hb)
  have Xz_18 := Lib.hid (Xz.out.kept hb)
  clear hb
  obtain ⟨p0, p1, p2, p3, p4, _, _, _, _, _, pz⟩ := Xy_18.out
  go_wp2_with fail
  clear p0 p1 p2 p3 p4 pz
  go_at_call 17
  refine (heldBase_any n 1 _ fay iay fcy icy _ HN4.out ⟨by omega, by omega⟩ Fy_18.out.at (by exact Iy_18.out.at)).mono ?_
  rintro e w19 ⟨rfl, hb⟩
  have HB19 := Lib.hid (HB18.out.trans (hb.mono HB18.out.size))
  have HX_19 := Lib.hid (HX_18.out.kept hb)
  have Fx_19 := Lib.hid (Fx_18.out.kept hb)
  have Ix_19 := Lib.hid (Ix_18.out.kept hb)
  have Xx_19 := Lib.hid (Xx_18.out.kept hb)
  have Xy_19 := Lib.hid (Xy_18.out.kept hb)
  have Fy_19 := Lib.hid (Fy_18.out.kept hb)
  have Iy_19 := Lib.hid (Iy_18.out.kept hb)
  have Fz_19 := Lib.hid (Fz_18.out.kept hb)
  have Iz_19 := Lib.hid (Iz_18.out.kept hb)
  have Xz_19 := Lib.hid (Xz_18.out.kept hb)
  clear hb
  go_wp2_with fail
  go_ret
  exact ⟨rfl, HB19.out⟩

set_option maxRecDepth 100000 in
theorem contract (H : Type) (enc : TypeId × Value → H) (W : World) (base : Nat) (args : Array Value) (ds gs : List (DataW H)) (before : List MemPlace)
    (hval0 : ∀ (j : Nat) t v, Tryd.f4.params[j]? = some t → args[j]? = some v → Value.okWide Tryd.prog W .any base t v)
    (hW : DataW.Whole enc Tryd.prog Tryd.f4.params.toList Rows.fnExactOpenBaseSpec.vars false W args.toList ds gs before) :
    Calls Tryd.prog 4 args W fun e W' => ∃ v, e = .returned v ∧ Rows.fnExactOpenBaseSpec.post enc Tryd.prog Tryd.f4 false true false false W args v W' := by
  have hval : ∀ (j : Nat) t v, Tryd.f4.params[j]? = some t → args[j]? = some v → Value.okWide Tryd.prog W .any base t v := hval0
  have hW' := hW
  obtain ⟨p, q, hA0, hV, rfl, hfz, hnd⟩ := hW
  have hA : DataW.TrodAll enc Tryd.prog W 0 (fun _ => true) true Tryd.f4.params.toList args.toList ds p := hA0
  rw [Tryd.params4] at hA hval
  obtain ⟨v0, vs0, d0, ds0, p0, q0, hargs, rfl, rfl, h0, r0⟩ := trodAll_cons hA
  obtain ⟨rfl, rfl, rfl⟩ := trodAll_nil r0
  obtain rfl : args = #[v0] := by cases args; simp_all
  obtain ⟨rfl, rfl⟩ := trodVars_none hV
  have k0 := h0
  have lt0 : ∀ x ∈ p0, x.block < W.heap.size := by obtain ⟨m, hm⟩ := k0; exact DataW.trod_lt m _ _ _ hm
  obtain ⟨a0, len0, cap0, rfl⟩ := okWide_slice Tryd.underlying22 (hval 0 22 v0 rfl rfl)
  obtain ⟨u0, hz0, hn0⟩ : ∃ (ls : List Fl), FsAt W ls (.slice a0 len0 cap0) ∧ FlSz ls := by
    obtain ⟨fuel, hf⟩ := h0
    obtain ⟨ls, v, hcs, hat, hsz⟩ := fls_of_trod fuel _ _ hf
    simp [Value.cells] at hcs
    exact ⟨ls, hcs ▸ hat, hsz⟩
  clear hA0 hval0
  refine (walk u0 (.slice a0 len0 cap0) W hz0 hn0).mono fun e W' ⟨he, bel⟩ => ?_
  subst he
  exact ⟨_, rfl, _, _, _, [], _, [], hW', trodAll_mk1 (shut_bool Tryd.underlying4 _), (trodAll_cons_mk (Below.trod laidOut (by kernel_rfl) (of_decide_eq_true (by kernel_rfl)) k0 bel lt0) trodAll_mk0), rfl, bel.frame _, fun h => by cases h⟩

theorem laid_met (os : Os) : laidMet Tryd.prog Rows.fnExactOpenBaseRow.laid ((laidWorld os).forCall (fun _ _ => 0) ⟨#[], #[.slice none 0 0], []⟩).memory :=
  laidMet_of_run' 8 (by kernel_rfl) (by kernel_rfl)
theorem reads (os : Os) {H : Type} (enc : TypeId × Value → H) : ∃ places, DataW.whole enc Tryd.prog ((laidWorld os).forCall (fun _ _ => 0) ⟨#[], #[.slice none 0 0], []⟩).memory Tryd.f4.params.toList Rows.fnExactOpenBaseSpec.vars false (#[Value.slice none 0 0] : Array Value).toList 8 = some ([.nil], [], places) :=
  ⟨[], by kernel_rfl⟩

set_option maxRecDepth 100000 in
theorem lifted (os : Os) (started : os.Started) (H : Type) (enc : TypeId × Value → H) (F : Stop.Interp) :
    ReturnsInHanded {} Tryd.checked os 4 .any ((OpenSpec.ofChange Rows.fnExactOpenBaseSpec).preRow enc Tryd.prog Tryd.f4 Rows.fnExactOpenBaseRow.domain false Rows.fnExactOpenBaseRow.laid) (((OpenSpec.ofChange Rows.fnExactOpenBaseSpec).at F).post enc Tryd.prog Tryd.f4 false true false false) := by
  obtain ⟨places, hx⟩ := reads os enc
  refine returnsInHanded_of_row (C := Tryd.checked) (s := OpenSpec.ofChange Rows.fnExactOpenBaseSpec) own started (by kernel_rfl) Tryd.func4
    (witness_row_at (enc := enc) (C := Tryd.checked) false (laidWorld os) #[.slice none 0 0] rfl (by kernel_rfl) (by kernel_rfl) (by kernel_rfl)
      (OpenSpec.preRow_of_cond 8 hx (by kernel_rfl) (fun k hk => by cases hk) (by kernel_rfl) (laid_met os))) ?_
  intro W base args ds gs before hval hW _ _ _ _ _ _
  exact contract H enc W base args ds gs before hval hW

theorem said : Rows.FnExactOpenBaseSaid :=
  OpenClaim.holds_of_cond 4 Tryd.f4 rfl rfl rfl rfl rfl rfl rfl ⟨rfl, rfl, rfl, rfl, rfl⟩ rfl rfl rfl rfl rfl (by kernel_rfl) Tryd.func4 (by kernel_rfl)
    (of_decide_eq_true (by kernel_rfl)) (by unfold Func.isWrapper; first | (rw [if_pos (by decide +kernel)]; kernel_rfl) | (rw [if_neg (by decide +kernel)]; exact ⟨rfl, rfl⟩))
    (fun os started H enc _ F => by rw [OpenClaim.pre_eq_preRow]; exact lifted os started H enc F)

theorem plain (f : FuncId) (fn : Func) (hf : Tryd.pinned.checked.prog.funcNamed "loop.example/livetyper/laws.FnExactOpenBase" = some f) (hfn : Tryd.pinned.checked.prog.funcs[f]? = some fn) :
    false = Tryd.pinned.checked.prog.looks [] ∧ ∀ (j : Nat) t, fn.params[j]? = some t → Tryd.pinned.checked.prog.wantsStandIn t = false := by
  obtain rfl : f = 4 := Option.some.inj ((show Tryd.prog.funcNamed "loop.example/livetyper/laws.FnExactOpenBase" = some 4 by kernel_rfl).symm.trans hf) |>.symm
  obtain rfl : fn = Tryd.f4 := (Option.some.inj (Tryd.func4.symm.trans hfn)).symm
  refine ⟨by kernel_rfl, fun j t ht => ?_⟩
  rw [Tryd.params4] at ht
  have hm := Array.mem_of_getElem? ht
  simp at hm
  rcases hm with rfl
  · exact (show Tryd.prog.wantsStandIn 22 = false by kernel_rfl)

/-- The given statement. -/
theorem proved : Rows.FnExactOpenBaseCardSaid :=
  Claim7.holds_tied_plain_at .later [] _ _ _ _ said (fun _ h => by cases h) (by kernel_rfl) (fun _ h => by cases h) fnExactOpenBase_row_tie rfl ⟨rfl, rfl⟩ (by kernel_rfl) rfl plain (by kernel_rfl)
end Go.Proofs.YtkekghdkbbjhpaaDoor.fnExactOpenBase
