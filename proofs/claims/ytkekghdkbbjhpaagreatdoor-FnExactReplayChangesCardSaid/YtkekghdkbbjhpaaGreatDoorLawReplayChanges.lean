/-
  FnExactReplayChanges returns true for every list of files and every list of changes, and they read as they did: ReplayChanges answers as its model, and its answer lies in memory of its own. The row lists tables that the program's text lays; the card ties them.
-/
import Derived.Test.YtkekghdkbbjhpaaGreatDoorVw
import Derived.Test.YtkekghdkbbjhpaaGreatDoorJmx
namespace Go.Proofs.YtkekghdkbbjhpaaGreatDoor.fnExactReplayChanges
open Go.Proofs.YtkekghdkbbjhpaaGreatDoor
open Go.ChangeShapes Go.WideShapes Go.ChangeAt Go.RowKit Go.Joins
open Go.ChangeMaps (open_string shut_string)
set_option linter.unusedVariables false

theorem FsAt.of {w : World} {ls : List Fl} {m : Nat} {a : Option Addr} {c : Nat} (hm : ls.length = m) (h : FsAt w ls (.slice a m c)) : FsAt w ls (.slice a m c) := h
theorem CO.of {w : World} {lo hi : Nat} {cs : List Ch} {n : Nat} {v : Value} (hn : cs.length = n) (h : CO w lo hi v cs) : OB w lo hi 86 4 v n (cellsC cs) := by subst hn; exact h
theorem rpF_le (ls : List Fl) (cs : List Ch) : (rpF ls cs).length ≤ 4 := by
  unfold rpF rpR
  by_cases h : (filesB ls && decide (cs.length ≤ 100)) = true
  · rw [if_pos h]
    have hf : filesB ls = true := by rw [Bool.and_eq_true] at h; exact h.1
    rcases hr : rpC ls cs with _ | fs
    · exact Nat.zero_le _
    · show fs.length ≤ 4
      rw [rpC_len cs ls fs hr]
      exact filesB_le hf
  · rw [if_neg h]; exact Nat.zero_le _
theorem toFileS_own' (ls : List Fl) (m : Nat) (hm : ls.length = m) (v : Value) (w : World) (hl : (ls.length : Int) ≤ 1048576) (hx : FsAt w ls v) :
    Calls Tryz.prog 18 #[v] w fun e w' => ∃ g, e = .returned (.slice (some ⟨g, 0, none⟩) m m) ∧ FO w' g (g + 1) (.slice (some ⟨g, 0, none⟩) m m) ls ∧ w.heap.size ≤ g ∧ g < w'.heap.size ∧ Below w.heap.size w w' := by subst hm; exact toFileS_own ls v w hl hx
theorem toChangeS_own' (ls : List Ch) (m : Nat) (hm : ls.length = m) (v : Value) (w : World) (hl : (ls.length : Int) ≤ 1048576) (hx : CsAt w ls v) :
    Calls Tryz.prog 19 #[v] w fun e w' => ∃ g, e = .returned (.slice (some ⟨g, 0, none⟩) m m) ∧ CO w' g (g + 1) (.slice (some ⟨g, 0, none⟩) m m) ls ∧ w.heap.size ≤ g ∧ g < w'.heap.size ∧ Below w.heap.size w w' := by subst hm; exact toChangeS_own ls v w hl hx
set_option maxRecDepth 100000 in
set_option maxHeartbeats 8000000 in
theorem walk (ls : List Fl) (lv : Value) (cs : List Ch) (cv : Value) (w : World) (hx : FsAt w ls lv) (hz : FlSz ls) (hc : CsAt w cs cv) (hcz : ChSz cs) :
    Calls Tryz.prog 4 #[lv, cv] w fun e w' => e = .returned (.bool true) ∧ Below w.heap.size w w' := by
  have HX := Lib.hid hx
  have HZ : Hid (FlSz ls) := Lib.hid hz
  have HC := Lib.hid hc
  have HCZ : Hid (ChSz cs) := Lib.hid hcz
  obtain ⟨a, cap, rfl, hlen⟩ := hx.slice
  obtain ⟨ca, ccap, rfl, hclen⟩ := hc.slice
  obtain ⟨m, hm⟩ : ∃ m, ls.length = m := ⟨_, rfl⟩
  obtain ⟨n, hn⟩ : ∃ n, cs.length = n := ⟨_, rfl⟩
  have HN := Lib.hid hm
  have HCN := Lib.hid hn
  rw [hm] at hlen HX ⊢
  rw [hn] at hclen HC ⊢
  clear hx hz hc hcz
  by_cases hl2 : (m : Int) ≤ 1048576
  case neg =>
    have HL2 : Hid (¬ (ls.length : Int) ≤ 1048576) := Lib.hid (by rw [hm]; exact hl2)
    clear hm hl2 hn
    go_enter Tryz.func4, Tryz.ntmps4
    go_wp2_with fail
    go_at_call 15
    refine (szFileS_long ls _ _ HX.out (by have := HL2.out; omega)).mono ?_
    rintro e w1 ⟨rfl, hb1⟩
    go_wp2_with fail
    go_ret
    exact ⟨rfl, hb1⟩
  have HL : Hid ((ls.length : Int) ≤ 1048576) := Lib.hid (by rw [hm]; exact hl2)
  have HM : Hid (ls.length ≤ 2000000) := Lib.hid (by rw [hm]; omega)
  obtain ⟨b, hb⟩ : ∃ b, lff (1048576 - ls.length) ls = b := ⟨_, rfl⟩
  have hbr := lff_range (ls := ls) (n := 1048576 - ls.length) (by rw [hm]; omega)
  rw [hb] at hbr
  have HBB := Lib.hid hb
  have hm2 : m ≤ 1048576 := by omega
  rw [hm] at hbr
  clear hm hb hl2
  rcases hbr with rfl | ⟨hb0, hb1⟩
  · clear hn
    go_enter Tryz.func4, Tryz.ntmps4
    go_wp2_with fail
    go_at_call 15
    refine (szFileS_any ls _ _ _ HZ.out HX.out HL.out HBB.out).mono ?_
    rintro e w1 ⟨rfl, hb1⟩
    go_wp2_with fail
    go_ret
    exact ⟨rfl, hb1⟩
  have hbn : ¬ b < 0 := by omega
  by_cases hl3 : (n : Int) ≤ b
  case neg =>
    have HL3 : Hid (¬ (cs.length : Int) ≤ b) := Lib.hid (by rw [hn]; exact hl3)
    have HB0 : Hid (b ≤ 1048576 ∧ 0 ≤ b) := Lib.hid (by omega)
    clear hn hl3 hb0 hb1
    go_enter Tryz.func4, Tryz.ntmps4
    go_wp2_with fail
    go_at_call 15
    refine (szFileS_any ls _ _ _ HZ.out HX.out HL.out HBB.out).mono ?_
    rintro e w1 ⟨rfl, hb1⟩
    have HCC := Lib.hid (HC.out.kept hb1)
    go_wp2_with fail
    go_at_call 16
    refine (szChangeS_long cs _ b _ HCC.out HB0.out.1 HB0.out.2 (by have := HL3.out; omega)).mono ?_
    rintro e w2 ⟨rfl, hb2⟩
    have HB2 := Lib.hid (hb1.trans (hb2.mono hb1.size))
    go_wp2_with fail
    go_ret
    exact ⟨rfl, HB2.out⟩
  have HL3 : Hid ((cs.length : Int) ≤ b) := Lib.hid (by rw [hn]; exact hl3)
  have HBM : Hid (b ≤ 1048576) := Lib.hid (by omega)
  obtain ⟨r, hr⟩ : ∃ r, lfc (b - cs.length) cs = r := ⟨_, rfl⟩
  have hrr := lfc_range (ls := cs) (n := b - cs.length) (by rw [hn]; omega)
  rw [hr] at hrr
  have HRR := Lib.hid hr
  have hn2 : n ≤ 1048576 := by omega
  have HCL : Hid ((cs.length : Int) ≤ 1048576) := Lib.hid (by rw [hn]; omega)
  clear hr hn hl3
  rcases hrr with rfl | ⟨hr0, hr1⟩
  · clear hb0 hb1
    go_enter Tryz.func4, Tryz.ntmps4
    go_wp2_with fail
    go_at_call 15
    refine (szFileS_any ls _ _ _ HZ.out HX.out HL.out HBB.out).mono ?_
    rintro e w1 ⟨rfl, hb1⟩
    have HCC := Lib.hid (HC.out.kept hb1)
    go_wp2_with fail
    go_at_call 16
    refine (szChangeS_any cs _ b _ _ HCZ.out HCC.out HBM.out HL3.out HRR.out).mono ?_
    rintro e w2 ⟨rfl, hb2⟩
    have HB2 := Lib.hid (hb1.trans (hb2.mono hb1.size))
    go_wp2_with fail
    go_ret
    exact ⟨rfl, HB2.out⟩
  have hrn : ¬ r < 0 := by omega
  clear hb0 hb1 hr0 hr1
  obtain ⟨v, hv⟩ : ∃ v, rpB ls cs = v := ⟨_, rfl⟩
  have HV := Lib.hid hv
  obtain ⟨fs, hfs⟩ : ∃ fs, rpF ls cs = fs := ⟨_, rfl⟩
  obtain ⟨k, hk⟩ : ∃ k, fs.length = k := ⟨_, rfl⟩
  have HFS := Lib.hid hfs
  have HK := Lib.hid hk
  have hk4 : k ≤ 4 := by rw [← hk, ← hfs]; exact rpF_le ls cs
  have HKL : Hid ((fs.length : Int) ≤ 1048576) := Lib.hid (by rw [hk]; omega)
  have HKM : Hid (fs.length ≤ 2000000) := Lib.hid (by rw [hk]; omega)
  have hvv : (v != v) = false := by cases v <;> rfl
  have hqm : ¬ (1 : Int) + 2 * (m : Int) + 4 * (n : Int) < 0 := by omega
  have hqk : ¬ (1 : Int) + 2 * (k : Int) < 0 := by omega
  clear hv hfs hk
  go_enter Tryz.func4, Tryz.ntmps4
  go_wp2_with fail
  go_at_call 15
  refine (szFileS_any ls _ _ _ HZ.out HX.out HL.out HBB.out).mono ?_
  rintro e w1 ⟨rfl, hb⟩
  have HB1 := Lib.hid ((Below.refl w.heap.size w).trans (hb.mono (Below.refl w.heap.size w).size))
  have HZ1 : Hid (w.heap.size ≤ w1.heap.size) := Lib.hid hb.size
  have HX_1 := Lib.hid (HX.out.kept hb)
  have HC_1 := Lib.hid (HC.out.kept hb)
  clear hb
  go_wp2_with fail
  go_at_call 16
  refine (szChangeS_any cs _ b _ _ HCZ.out HC_1.out HBM.out HL3.out HRR.out).mono ?_
  rintro e w2 ⟨rfl, hb⟩
  have HB2 := Lib.hid (HB1.out.trans (hb.mono HB1.out.size))
  have HZ2 : Hid (w1.heap.size ≤ w2.heap.size) := Lib.hid hb.size
  have HX_2 := Lib.hid (HX_1.out.kept hb)
  have HC_2 := Lib.hid (HC_1.out.kept hb)
  clear hb
  go_wp2_with fail
  go_at_call 18
  refine (toFileS_own' ls m HN.out _ _ HL.out HX_2.out).mono ?_
  rintro e w3 ⟨g1, rfl, hF, hg1, hg2, hb⟩
  have HGg1 := Lib.hid hg1
  have HHg1 := Lib.hid hg2
  clear hg1 hg2
  have HB3 := Lib.hid (HB2.out.trans (hb.mono HB2.out.size))
  have HZ3 : Hid (w2.heap.size ≤ w3.heap.size) := Lib.hid hb.size
  have HX_3 := Lib.hid (HX_2.out.kept hb)
  have HC_3 := Lib.hid (HC_2.out.kept hb)
  clear hb
  have A1 := Lib.hid hF
  clear hF
  go_wp2_with fail
  go_at_call 19
  refine (toChangeS_own' cs n HCN.out _ _ HCL.out HC_3.out).mono ?_
  rintro e w4 ⟨h1, rfl, hF, hg1, hg2, hb⟩
  have HGh1 := Lib.hid hg1
  have HHh1 := Lib.hid hg2
  clear hg1 hg2
  have HB4 := Lib.hid (HB3.out.trans (hb.mono HB3.out.size))
  have HZ4 : Hid (w3.heap.size ≤ w4.heap.size) := Lib.hid hb.size
  have HX_4 := Lib.hid (HX_3.out.kept hb)
  have HC_4 := Lib.hid (HC_3.out.kept hb)
  have A1_4 := Lib.hid (A1.out.kept hb)
  clear hb
  have C1 := Lib.hid hF
  clear hF
  go_wp2_with fail
  go_at_call 17
  refine (replay_spec ls m HN.out (by omega) HZ.out cs n HCN.out HCZ.out _ _ _ _ (Nat.le_refl _) (by omega) _ A1_4.out.at C1.out.at).mono ?_
  rintro e w5 ⟨rx, cx, lox, hix, rfl, hF, hl, hh, hb⟩
  rw [HFS.out] at hF ⊢
  rw [HK.out] at hF ⊢
  rw [HV.out]
  have HLx := Lib.hid hl
  have HRx := Lib.hid hh
  clear hl hh
  have HB5 := Lib.hid (HB4.out.trans (hb.mono HB4.out.size))
  have HZ5 : Hid (w4.heap.size ≤ w5.heap.size) := Lib.hid hb.size
  have HX_5 := Lib.hid (HX_4.out.kept hb)
  have HC_5 := Lib.hid (HC_4.out.kept hb)
  have A1_5 := Lib.hid (A1_4.out.kept hb)
  have C1_5 := Lib.hid (C1.out.kept hb)
  clear hb
  have Fx := Lib.hid hF
  clear hF
  go_wp2_with fail
  go_at_call 18
  refine (toFileS_own' ls m HN.out _ _ HL.out HX_5.out).mono ?_
  rintro e w6 ⟨g2, rfl, hF, hg1, hg2, hb⟩
  have HGg2 := Lib.hid hg1
  have HHg2 := Lib.hid hg2
  clear hg1 hg2
  have HB6 := Lib.hid (HB5.out.trans (hb.mono HB5.out.size))
  have HZ6 : Hid (w5.heap.size ≤ w6.heap.size) := Lib.hid hb.size
  have HX_6 := Lib.hid (HX_5.out.kept hb)
  have HC_6 := Lib.hid (HC_5.out.kept hb)
  have Fx_6 := Lib.hid (Fx.out.kept hb)
  clear hb
  have A2 := Lib.hid hF
  clear hF
  go_wp2_with fail
  go_at_call 19
  refine (toChangeS_own' cs n HCN.out _ _ HCL.out HC_6.out).mono ?_
  rintro e w7 ⟨h2, rfl, hF, hg1, hg2, hb⟩
  have HGh2 := Lib.hid hg1
  have HHh2 := Lib.hid hg2
  clear hg1 hg2
  have HB7 := Lib.hid (HB6.out.trans (hb.mono HB6.out.size))
  have HZ7 : Hid (w6.heap.size ≤ w7.heap.size) := Lib.hid hb.size
  have HX_7 := Lib.hid (HX_6.out.kept hb)
  have HC_7 := Lib.hid (HC_6.out.kept hb)
  have Fx_7 := Lib.hid (Fx_6.out.kept hb)
  have A2_7 := Lib.hid (A2.out.kept hb)
  clear hb
  have C2 := Lib.hid hF
  clear hF
  go_wp2_with fail
  go_at_call 20
  refine (replay_impl ls m HN.out (by omega) HZ.out cs n HCN.out HCZ.out _ _ _ _ _ A2_7.out.at C2.out.at).mono ?_
  rintro e w8 ⟨ry, cy, loy, hiy, rfl, hF, hl, hh, hb⟩
  rw [HFS.out] at hF ⊢
  rw [HK.out] at hF ⊢
  rw [HV.out]
  have HLy := Lib.hid hl
  have HRy := Lib.hid hh
  clear hl hh
  have HB8 := Lib.hid (HB7.out.trans (hb.mono HB7.out.size))
  have HZ8 : Hid (w7.heap.size ≤ w8.heap.size) := Lib.hid hb.size
  have HX_8 := Lib.hid (HX_7.out.kept hb)
  have HC_8 := Lib.hid (HC_7.out.kept hb)
  have Fx_8 := Lib.hid (Fx_7.out.kept hb)
  have A2_8 := Lib.hid (A2_7.out.kept hb)
  have C2_8 := Lib.hid (C2.out.kept hb)
  clear hb
  have Fy := Lib.hid hF
  clear hF
  go_wp2_with fail
  go_at_call 21
  refine (eqFileS_any fs _ _ _ HKL.out (FsAt.of HK.out Fy.out.at) (FsAt.of HK.out Fx_8.out.at)).mono ?_
  rintro e w9 ⟨rfl, hb⟩
  have HB9 := Lib.hid (HB8.out.trans (hb.mono HB8.out.size))
  have HZ9 : Hid (w8.heap.size ≤ w9.heap.size) := Lib.hid hb.size
  have HX_9 := Lib.hid (HX_8.out.kept hb)
  have HC_9 := Lib.hid (HC_8.out.kept hb)
  have Fx_9 := Lib.hid (Fx_8.out.kept hb)
  have A2_9 := Lib.hid (A2_8.out.kept hb)
  have C2_9 := Lib.hid (C2_8.out.kept hb)
  have Fy_9 := Lib.hid (Fy.out.kept hb)
  clear hb
  go_wp2_with fail
  go_at_call 18
  refine (toFileS_own' ls m HN.out _ _ HL.out HX_9.out).mono ?_
  rintro e w10 ⟨g3, rfl, hF, hg1, hg2, hb⟩
  have HGg3 := Lib.hid hg1
  have HHg3 := Lib.hid hg2
  clear hg1 hg2
  have HB10 := Lib.hid (HB9.out.trans (hb.mono HB9.out.size))
  have HZ10 : Hid (w9.heap.size ≤ w10.heap.size) := Lib.hid hb.size
  have HX_10 := Lib.hid (HX_9.out.kept hb)
  have HC_10 := Lib.hid (HC_9.out.kept hb)
  have Fx_10 := Lib.hid (Fx_9.out.kept hb)
  have A2_10 := Lib.hid (A2_9.out.kept hb)
  have C2_10 := Lib.hid (C2_9.out.kept hb)
  have Fy_10 := Lib.hid (Fy_9.out.kept hb)
  clear hb
  have A3 := Lib.hid hF
  clear hF
  go_wp2_with fail
  go_at_call 21
  refine (eqFileS_any ls _ _ _ HL.out A2_10.out.at A3.out.at).mono ?_
  rintro e w11 ⟨rfl, hb⟩
  have HB11 := Lib.hid (HB10.out.trans (hb.mono HB10.out.size))
  have HZ11 : Hid (w10.heap.size ≤ w11.heap.size) := Lib.hid hb.size
  have HX_11 := Lib.hid (HX_10.out.kept hb)
  have HC_11 := Lib.hid (HC_10.out.kept hb)
  have Fx_11 := Lib.hid (Fx_10.out.kept hb)
  have A2_11 := Lib.hid (A2_10.out.kept hb)
  have C2_11 := Lib.hid (C2_10.out.kept hb)
  have Fy_11 := Lib.hid (Fy_10.out.kept hb)
  have A3_11 := Lib.hid (A3.out.kept hb)
  clear hb
  go_wp2_with fail
  go_at_call 19
  refine (toChangeS_own' cs n HCN.out _ _ HCL.out HC_11.out).mono ?_
  rintro e w12 ⟨h3, rfl, hF, hg1, hg2, hb⟩
  have HGh3 := Lib.hid hg1
  have HHh3 := Lib.hid hg2
  clear hg1 hg2
  have HB12 := Lib.hid (HB11.out.trans (hb.mono HB11.out.size))
  have HZ12 : Hid (w11.heap.size ≤ w12.heap.size) := Lib.hid hb.size
  have HX_12 := Lib.hid (HX_11.out.kept hb)
  have HC_12 := Lib.hid (HC_11.out.kept hb)
  have Fx_12 := Lib.hid (Fx_11.out.kept hb)
  have A2_12 := Lib.hid (A2_11.out.kept hb)
  have C2_12 := Lib.hid (C2_11.out.kept hb)
  have Fy_12 := Lib.hid (Fy_11.out.kept hb)
  clear hb
  have C3 := Lib.hid hF
  clear hF
  go_wp2_with fail
  go_at_call 22
  refine (eqChangeS_any cs _ _ _ HCL.out C2_12.out.at C3.out.at).mono ?_
  rintro e w13 ⟨rfl, hb⟩
  have HB13 := Lib.hid (HB12.out.trans (hb.mono HB12.out.size))
  have HZ13 : Hid (w12.heap.size ≤ w13.heap.size) := Lib.hid hb.size
  have HX_13 := Lib.hid (HX_12.out.kept hb)
  have HC_13 := Lib.hid (HC_12.out.kept hb)
  have Fx_13 := Lib.hid (Fx_12.out.kept hb)
  have A2_13 := Lib.hid (A2_12.out.kept hb)
  have C2_13 := Lib.hid (C2_12.out.kept hb)
  have Fy_13 := Lib.hid (Fy_12.out.kept hb)
  have C3_13 := Lib.hid (C3.out.kept hb)
  clear hb
  go_wp2_with fail
  go_at_call 23
  refine (markFileS_any g2 (g2 + 1) 1 ls HM.out ⟨by omega, by omega⟩ _ _ A2_13.out).mono ?_
  rintro e w14 ⟨rfl, hF, hI⟩
  rw [HN.out]
  clear hF
  have HI14 := Lib.hid hI
  have HB14 := Lib.hid (hI.below (by have := HB2.out.size; have nHZ1 := HZ1.out; have nHZ2 := HZ2.out; have nHZ3 := HZ3.out; have nHGg1 := HGg1.out; have nHHg1 := HHg1.out; have nHZ4 := HZ4.out; have nHGh1 := HGh1.out; have nHHh1 := HHh1.out; have nHZ5 := HZ5.out; have nHLx := HLx.out; have nHRx := HRx.out; have nHZ6 := HZ6.out; have nHGg2 := HGg2.out; have nHHg2 := HHg2.out; have nHZ7 := HZ7.out; have nHGh2 := HGh2.out; have nHHh2 := HHh2.out; have nHZ8 := HZ8.out; have nHLy := HLy.out; have nHRy := HRy.out; have nHZ9 := HZ9.out; have nHZ10 := HZ10.out; have nHGg3 := HGg3.out; have nHHg3 := HHg3.out; have nHZ11 := HZ11.out; have nHZ12 := HZ12.out; have nHGh3 := HGh3.out; have nHHh3 := HHh3.out; have nHZ13 := HZ13.out; omega) HB13.out (by exact HB13.out.size))
  have HZ14 : Hid (w13.heap.size ≤ w14.heap.size) := Lib.hid hI.size
  clear hI
  have HX_14 := Lib.hid (HX.out.kept HB14.out)
  have HC_14 := Lib.hid (HC.out.kept HB14.out)
  have C2_14 := Lib.hid (C2_13.out.inside HI14.out (by have nHZ1 := HZ1.out; have nHZ2 := HZ2.out; have nHZ3 := HZ3.out; have nHGg1 := HGg1.out; have nHHg1 := HHg1.out; have nHZ4 := HZ4.out; have nHGh1 := HGh1.out; have nHHh1 := HHh1.out; have nHZ5 := HZ5.out; have nHLx := HLx.out; have nHRx := HRx.out; have nHZ6 := HZ6.out; have nHGg2 := HGg2.out; have nHHg2 := HHg2.out; have nHZ7 := HZ7.out; have nHGh2 := HGh2.out; have nHHh2 := HHh2.out; have nHZ8 := HZ8.out; have nHLy := HLy.out; have nHRy := HRy.out; have nHZ9 := HZ9.out; have nHZ10 := HZ10.out; have nHGg3 := HGg3.out; have nHHg3 := HHg3.out; have nHZ11 := HZ11.out; have nHZ12 := HZ12.out; have nHGh3 := HGh3.out; have nHHh3 := HHh3.out; have nHZ13 := HZ13.out; have nHZ14 := HZ14.out; omega))
  have Fx_14 := Lib.hid (Fx_13.out.inside HI14.out (by have nHZ1 := HZ1.out; have nHZ2 := HZ2.out; have nHZ3 := HZ3.out; have nHGg1 := HGg1.out; have nHHg1 := HHg1.out; have nHZ4 := HZ4.out; have nHGh1 := HGh1.out; have nHHh1 := HHh1.out; have nHZ5 := HZ5.out; have nHLx := HLx.out; have nHRx := HRx.out; have nHZ6 := HZ6.out; have nHGg2 := HGg2.out; have nHHg2 := HHg2.out; have nHZ7 := HZ7.out; have nHGh2 := HGh2.out; have nHHh2 := HHh2.out; have nHZ8 := HZ8.out; have nHLy := HLy.out; have nHRy := HRy.out; have nHZ9 := HZ9.out; have nHZ10 := HZ10.out; have nHGg3 := HGg3.out; have nHHg3 := HHg3.out; have nHZ11 := HZ11.out; have nHZ12 := HZ12.out; have nHGh3 := HGh3.out; have nHHh3 := HHh3.out; have nHZ13 := HZ13.out; have nHZ14 := HZ14.out; omega))
  have Fy_14 := Lib.hid (Fy_13.out.inside HI14.out (by have nHZ1 := HZ1.out; have nHZ2 := HZ2.out; have nHZ3 := HZ3.out; have nHGg1 := HGg1.out; have nHHg1 := HHg1.out; have nHZ4 := HZ4.out; have nHGh1 := HGh1.out; have nHHh1 := HHh1.out; have nHZ5 := HZ5.out; have nHLx := HLx.out; have nHRx := HRx.out; have nHZ6 := HZ6.out; have nHGg2 := HGg2.out; have nHHg2 := HHg2.out; have nHZ7 := HZ7.out; have nHGh2 := HGh2.out; have nHHh2 := HHh2.out; have nHZ8 := HZ8.out; have nHLy := HLy.out; have nHRy := HRy.out; have nHZ9 := HZ9.out; have nHZ10 := HZ10.out; have nHGg3 := HGg3.out; have nHHg3 := HHg3.out; have nHZ11 := HZ11.out; have nHZ12 := HZ12.out; have nHGh3 := HGh3.out; have nHHh3 := HHh3.out; have nHZ13 := HZ13.out; have nHZ14 := HZ14.out; omega))
  go_wp2_with fail
  go_at_call 24
  refine (markChangeS_any h2 (h2 + 1) (1 + 2 * m) n (by omega) ⟨by omega, by omega⟩ _ _ _ ⟨_, CO.of HCN.out C2_14.out⟩).mono ?_
  rintro e w15 ⟨rfl, hI⟩
  have HI15 := Lib.hid hI
  have HB15 := Lib.hid (hI.below (by have := HB2.out.size; have nHZ1 := HZ1.out; have nHZ2 := HZ2.out; have nHZ3 := HZ3.out; have nHGg1 := HGg1.out; have nHHg1 := HHg1.out; have nHZ4 := HZ4.out; have nHGh1 := HGh1.out; have nHHh1 := HHh1.out; have nHZ5 := HZ5.out; have nHLx := HLx.out; have nHRx := HRx.out; have nHZ6 := HZ6.out; have nHGg2 := HGg2.out; have nHHg2 := HHg2.out; have nHZ7 := HZ7.out; have nHGh2 := HGh2.out; have nHHh2 := HHh2.out; have nHZ8 := HZ8.out; have nHLy := HLy.out; have nHRy := HRy.out; have nHZ9 := HZ9.out; have nHZ10 := HZ10.out; have nHGg3 := HGg3.out; have nHHg3 := HHg3.out; have nHZ11 := HZ11.out; have nHZ12 := HZ12.out; have nHGh3 := HGh3.out; have nHHh3 := HHh3.out; have nHZ13 := HZ13.out; have nHZ14 := HZ14.out; omega) HB14.out (by exact HB14.out.size))
  have HZ15 : Hid (w14.heap.size ≤ w15.heap.size) := Lib.hid hI.size
  clear hI
  have HX_15 := Lib.hid (HX.out.kept HB15.out)
  have HC_15 := Lib.hid (HC.out.kept HB15.out)
  have Fx_15 := Lib.hid (Fx_14.out.inside HI15.out (by have nHZ1 := HZ1.out; have nHZ2 := HZ2.out; have nHZ3 := HZ3.out; have nHGg1 := HGg1.out; have nHHg1 := HHg1.out; have nHZ4 := HZ4.out; have nHGh1 := HGh1.out; have nHHh1 := HHh1.out; have nHZ5 := HZ5.out; have nHLx := HLx.out; have nHRx := HRx.out; have nHZ6 := HZ6.out; have nHGg2 := HGg2.out; have nHHg2 := HHg2.out; have nHZ7 := HZ7.out; have nHGh2 := HGh2.out; have nHHh2 := HHh2.out; have nHZ8 := HZ8.out; have nHLy := HLy.out; have nHRy := HRy.out; have nHZ9 := HZ9.out; have nHZ10 := HZ10.out; have nHGg3 := HGg3.out; have nHHg3 := HHg3.out; have nHZ11 := HZ11.out; have nHZ12 := HZ12.out; have nHGh3 := HGh3.out; have nHHh3 := HHh3.out; have nHZ13 := HZ13.out; have nHZ14 := HZ14.out; have nHZ15 := HZ15.out; omega))
  have Fy_15 := Lib.hid (Fy_14.out.inside HI15.out (by have nHZ1 := HZ1.out; have nHZ2 := HZ2.out; have nHZ3 := HZ3.out; have nHGg1 := HGg1.out; have nHHg1 := HHg1.out; have nHZ4 := HZ4.out; have nHGh1 := HGh1.out; have nHHh1 := HHh1.out; have nHZ5 := HZ5.out; have nHLx := HLx.out; have nHRx := HRx.out; have nHZ6 := HZ6.out; have nHGg2 := HGg2.out; have nHHg2 := HHg2.out; have nHZ7 := HZ7.out; have nHGh2 := HGh2.out; have nHHh2 := HHh2.out; have nHZ8 := HZ8.out; have nHLy := HLy.out; have nHRy := HRy.out; have nHZ9 := HZ9.out; have nHZ10 := HZ10.out; have nHGg3 := HGg3.out; have nHHg3 := HHg3.out; have nHZ11 := HZ11.out; have nHZ12 := HZ12.out; have nHGh3 := HGh3.out; have nHHh3 := HHh3.out; have nHZ13 := HZ13.out; have nHZ14 := HZ14.out; have nHZ15 := HZ15.out; omega))
  go_wp2_with fail
  go_at_call 21
  refine (eqFileS_any fs _ _ _ HKL.out (FsAt.of HK.out Fy_15.out.at) (FsAt.of HK.out Fx_15.out.at)).mono ?_
  rintro e w16 ⟨rfl, hb⟩
  have HB16 := Lib.hid (HB15.out.trans (hb.mono HB15.out.size))
  have HZ16 : Hid (w15.heap.size ≤ w16.heap.size) := Lib.hid hb.size
  have HX_16 := Lib.hid (HX_15.out.kept hb)
  have HC_16 := Lib.hid (HC_15.out.kept hb)
  have Fx_16 := Lib.hid (Fx_15.out.kept hb)
  have Fy_16 := Lib.hid (Fy_15.out.kept hb)
  clear hb
  go_wp2_with fail
  go_at_call 23
  refine (markFileS_any loy hiy 1 fs HKM.out ⟨by omega, by omega⟩ _ _ Fy_16.out).mono ?_
  rintro e w17 ⟨rfl, hF, hI⟩
  rw [HK.out] at hF ⊢
  have HI17 := Lib.hid hI
  have HB17 := Lib.hid (hI.below (by have := HB2.out.size; have nHZ1 := HZ1.out; have nHZ2 := HZ2.out; have nHZ3 := HZ3.out; have nHGg1 := HGg1.out; have nHHg1 := HHg1.out; have nHZ4 := HZ4.out; have nHGh1 := HGh1.out; have nHHh1 := HHh1.out; have nHZ5 := HZ5.out; have nHLx := HLx.out; have nHRx := HRx.out; have nHZ6 := HZ6.out; have nHGg2 := HGg2.out; have nHHg2 := HHg2.out; have nHZ7 := HZ7.out; have nHGh2 := HGh2.out; have nHHh2 := HHh2.out; have nHZ8 := HZ8.out; have nHLy := HLy.out; have nHRy := HRy.out; have nHZ9 := HZ9.out; have nHZ10 := HZ10.out; have nHGg3 := HGg3.out; have nHHg3 := HHg3.out; have nHZ11 := HZ11.out; have nHZ12 := HZ12.out; have nHGh3 := HGh3.out; have nHHh3 := HHh3.out; have nHZ13 := HZ13.out; have nHZ14 := HZ14.out; have nHZ15 := HZ15.out; have nHZ16 := HZ16.out; omega) HB16.out (by exact HB16.out.size))
  have HZ17 : Hid (w16.heap.size ≤ w17.heap.size) := Lib.hid hI.size
  clear hI
  have HX_17 := Lib.hid (HX.out.kept HB17.out)
  have HC_17 := Lib.hid (HC.out.kept HB17.out)
  have Fx_17 := Lib.hid (Fx_16.out.inside HI17.out (by have nHZ1 := HZ1.out; have nHZ2 := HZ2.out; have nHZ3 := HZ3.out; have nHGg1 := HGg1.out; have nHHg1 := HHg1.out; have nHZ4 := HZ4.out; have nHGh1 := HGh1.out; have nHHh1 := HHh1.out; have nHZ5 := HZ5.out; have nHLx := HLx.out; have nHRx := HRx.out; have nHZ6 := HZ6.out; have nHGg2 := HGg2.out; have nHHg2 := HHg2.out; have nHZ7 := HZ7.out; have nHGh2 := HGh2.out; have nHHh2 := HHh2.out; have nHZ8 := HZ8.out; have nHLy := HLy.out; have nHRy := HRy.out; have nHZ9 := HZ9.out; have nHZ10 := HZ10.out; have nHGg3 := HGg3.out; have nHHg3 := HHg3.out; have nHZ11 := HZ11.out; have nHZ12 := HZ12.out; have nHGh3 := HGh3.out; have nHHh3 := HHh3.out; have nHZ13 := HZ13.out; have nHZ14 := HZ14.out; have nHZ15 := HZ15.out; have nHZ16 := HZ16.out; have nHZ17 := HZ17.out; omega))
  have Fy := Lib.hid hF
  clear hF
  go_wp2_with fail
  go_at_call 25
  refine (heldFileS_any 1 k (by omega) ⟨by omega, by omega⟩ _ _ (FsAt.of (mkF_len 1 k) Fy.out.at)).mono ?_
  rintro e w18 ⟨rfl, hb⟩
  have HB18 := Lib.hid (HB17.out.trans (hb.mono HB17.out.size))
  have HZ18 : Hid (w17.heap.size ≤ w18.heap.size) := Lib.hid hb.size
  have HX_18 := Lib.hid (HX_17.out.kept hb)
  have HC_18 := Lib.hid (HC_17.out.kept hb)
  have Fx_18 := Lib.hid (Fx_17.out.kept hb)
  have Fy_18 := Lib.hid (Fy.out.kept hb)
  clear hb
  go_wp2_with fail
  go_at_call 18
  refine (toFileS_own' ls m HN.out _ _ HL.out HX_18.out).mono ?_
  rintro e w19 ⟨g4, rfl, hF, hg1, hg2, hb⟩
  have HGg4 := Lib.hid hg1
  have HHg4 := Lib.hid hg2
  clear hg1 hg2
  have HB19 := Lib.hid (HB18.out.trans (hb.mono HB18.out.size))
  have HZ19 : Hid (w18.heap.size ≤ w19.heap.size) := Lib.hid hb.size
  have HX_19 := Lib.hid (HX_18.out.kept hb)
  have HC_19 := Lib.hid (HC_18.out.kept hb)
  have Fx_19 := Lib.hid (Fx_18.out.kept hb)
  have Fy_19 := Lib.hid (Fy_18.out.kept hb)
  clear hb
  have A4 := Lib.hid hF
  clear hF
  go_wp2_with fail
  go_at_call 19
  refine (toChangeS_own' cs n HCN.out _ _ HCL.out HC_19.out).mono ?_
  rintro e w20 ⟨h4, rfl, hF, hg1, hg2, hb⟩
  have HGh4 := Lib.hid hg1
  have HHh4 := Lib.hid hg2
  clear hg1 hg2
  have HB20 := Lib.hid (HB19.out.trans (hb.mono HB19.out.size))
  have HZ20 : Hid (w19.heap.size ≤ w20.heap.size) := Lib.hid hb.size
  have HX_20 := Lib.hid (HX_19.out.kept hb)
  have HC_20 := Lib.hid (HC_19.out.kept hb)
  have Fx_20 := Lib.hid (Fx_19.out.kept hb)
  have Fy_20 := Lib.hid (Fy_19.out.kept hb)
  have A4_20 := Lib.hid (A4.out.kept hb)
  clear hb
  have C4 := Lib.hid hF
  clear hF
  go_wp2_with fail
  go_at_call 20
  refine (replay_impl ls m HN.out (by omega) HZ.out cs n HCN.out HCZ.out _ _ _ _ _ A4_20.out.at C4.out.at).mono ?_
  rintro e w21 ⟨rz, cz, loz, hiz, rfl, hF, hl, hh, hb⟩
  rw [HFS.out] at hF ⊢
  rw [HK.out] at hF ⊢
  rw [HV.out]
  have HLz := Lib.hid hl
  have HRz := Lib.hid hh
  clear hl hh
  have HB21 := Lib.hid (HB20.out.trans (hb.mono HB20.out.size))
  have HZ21 : Hid (w20.heap.size ≤ w21.heap.size) := Lib.hid hb.size
  have HX_21 := Lib.hid (HX_20.out.kept hb)
  have HC_21 := Lib.hid (HC_20.out.kept hb)
  have Fx_21 := Lib.hid (Fx_20.out.kept hb)
  have Fy_21 := Lib.hid (Fy_20.out.kept hb)
  have A4_21 := Lib.hid (A4_20.out.kept hb)
  have C4_21 := Lib.hid (C4.out.kept hb)
  clear hb
  have Fz := Lib.hid hF
  clear hF
  go_wp2_with fail
  go_at_call 21
  refine (eqFileS_any fs _ _ _ HKL.out (FsAt.of HK.out Fz.out.at) (FsAt.of HK.out Fx_21.out.at)).mono ?_
  rintro e w22 ⟨rfl, hb⟩
  have HB22 := Lib.hid (HB21.out.trans (hb.mono HB21.out.size))
  have HZ22 : Hid (w21.heap.size ≤ w22.heap.size) := Lib.hid hb.size
  have HX_22 := Lib.hid (HX_21.out.kept hb)
  have HC_22 := Lib.hid (HC_21.out.kept hb)
  have Fx_22 := Lib.hid (Fx_21.out.kept hb)
  have Fy_22 := Lib.hid (Fy_21.out.kept hb)
  have Fz_22 := Lib.hid (Fz.out.kept hb)
  clear hb
  go_wp2_with fail
  go_at_call 25
  refine (heldFileS_any 1 k (by omega) ⟨by omega, by omega⟩ _ _ (FsAt.of (mkF_len 1 k) Fy_22.out.at)).mono ?_
  rintro e w23 ⟨rfl, hb⟩
  have HB23 := Lib.hid (HB22.out.trans (hb.mono HB22.out.size))
  have HZ23 : Hid (w22.heap.size ≤ w23.heap.size) := Lib.hid hb.size
  have HX_23 := Lib.hid (HX_22.out.kept hb)
  have HC_23 := Lib.hid (HC_22.out.kept hb)
  have Fx_23 := Lib.hid (Fx_22.out.kept hb)
  have Fy_23 := Lib.hid (Fy_22.out.kept hb)
  have Fz_23 := Lib.hid (Fz_22.out.kept hb)
  clear hb
  go_wp2_with fail
  go_ret
  exact ⟨rfl, HB23.out⟩

set_option maxRecDepth 100000 in
theorem contract (H : Type) (enc : TypeId × Value → H) (W : World) (base : Nat) (args : Array Value) (ds gs : List (DataW H)) (before : List MemPlace)
    (hval0 : ∀ (j : Nat) t v, Tryz.f4.params[j]? = some t → args[j]? = some v → Value.okWide Tryz.prog W .any base t v)
    (hW : DataW.Whole enc Tryz.prog Tryz.f4.params.toList Rows.fnExactReplayChangesSpec.vars false W args.toList ds gs before) :
    Calls Tryz.prog 4 args W fun e W' => ∃ v, e = .returned v ∧ Rows.fnExactReplayChangesSpec.post enc Tryz.prog Tryz.f4 false true false false W args v W' := by
  have hval : ∀ (j : Nat) t v, Tryz.f4.params[j]? = some t → args[j]? = some v → Value.okWide Tryz.prog W .any base t v := hval0
  have hW' := hW
  obtain ⟨p, q, hA0, hV, rfl, hfz, hnd⟩ := hW
  have hA : DataW.TrodAll enc Tryz.prog W 0 (fun _ => true) true Tryz.f4.params.toList args.toList ds p := hA0
  rw [Tryz.params4] at hA hval
  obtain ⟨v0, vs0, d0, ds0, p0, q0, hargs, rfl, rfl, h0, r0⟩ := trodAll_cons hA
  obtain ⟨v1, vs1, d1, ds1, p1, q1, rfl, rfl, rfl, h1, r1⟩ := trodAll_cons r0
  obtain ⟨rfl, rfl, rfl⟩ := trodAll_nil r1
  obtain rfl : args = #[v0, v1] := by cases args; simp_all
  obtain ⟨rfl, rfl⟩ := trodVars_none hV
  have k0 := h0
  have lt0 : ∀ x ∈ p0, x.block < W.heap.size := by obtain ⟨m, hm⟩ := k0; exact DataW.trod_lt m _ _ _ hm
  have k1 := h1
  have lt1 : ∀ x ∈ p1, x.block < W.heap.size := by obtain ⟨m, hm⟩ := k1; exact DataW.trod_lt m _ _ _ hm
  obtain ⟨a0, len0, cap0, rfl⟩ := okWide_slice Tryz.underlying22 (hval 0 22 v0 rfl rfl)
  obtain ⟨u0, hz0, hn0⟩ : ∃ (ls : List Fl), FsAt W ls (.slice a0 len0 cap0) ∧ FlSz ls := by
    obtain ⟨fuel, hf⟩ := h0
    obtain ⟨ls, v, hcs, hat, hsz⟩ := fls_of_trod fuel _ _ hf
    simp [Value.cells] at hcs
    exact ⟨ls, hcs ▸ hat, hsz⟩
  obtain ⟨a1, len1, cap1, rfl⟩ := okWide_slice Tryz.underlying43 (hval 1 43 v1 rfl rfl)
  obtain ⟨u1, hz1, hn1⟩ : ∃ (ls : List Ch), CsAt W ls (.slice a1 len1 cap1) ∧ ChSz ls := by
    obtain ⟨fuel, hf⟩ := h1
    obtain ⟨ls, v, hcs, hat, hsz⟩ := chs_of_trod fuel _ _ hf
    simp [Value.cells] at hcs
    exact ⟨ls, hcs ▸ hat, hsz⟩
  clear hA0 hval0
  refine (walk u0 (.slice a0 len0 cap0) u1 (.slice a1 len1 cap1) W hz0 hn0 hz1 hn1).mono fun e W' ⟨he, bel⟩ => ?_
  subst he
  exact ⟨_, rfl, _, _, _, [], _, [], hW', trodAll_mk1 (shut_bool Tryz.underlying4 _), (trodAll_cons_mk (Below.trod laidOut (by kernel_rfl) (of_decide_eq_true (by kernel_rfl)) k0 bel lt0) (trodAll_cons_mk (Below.trod laidOut (by kernel_rfl) (of_decide_eq_true (by kernel_rfl)) k1 bel lt1) trodAll_mk0)), rfl, bel.frame _, fun h => by cases h⟩

theorem laid_met (os : Os) : laidMet Tryz.prog Rows.fnExactReplayChangesRow.laid ((laidWorld os).forCall (fun _ _ => 0) ⟨#[], #[.slice none 0 0, .slice none 0 0], []⟩).memory :=
  laidMet_of_run' 8 (by kernel_rfl) (by kernel_rfl)
theorem reads (os : Os) {H : Type} (enc : TypeId × Value → H) : ∃ places, DataW.whole enc Tryz.prog ((laidWorld os).forCall (fun _ _ => 0) ⟨#[], #[.slice none 0 0, .slice none 0 0], []⟩).memory Tryz.f4.params.toList Rows.fnExactReplayChangesSpec.vars false (#[Value.slice none 0 0, Value.slice none 0 0] : Array Value).toList 8 = some ([.nil, .nil], [], places) :=
  ⟨[], by kernel_rfl⟩

set_option maxRecDepth 100000 in
theorem lifted (os : Os) (started : os.Started) (H : Type) (enc : TypeId × Value → H) (F : Stop.Interp) :
    ReturnsInHanded {} Tryz.checked os 4 .any ((OpenSpec.ofChange Rows.fnExactReplayChangesSpec).preRow enc Tryz.prog Tryz.f4 Rows.fnExactReplayChangesRow.domain false Rows.fnExactReplayChangesRow.laid) (((OpenSpec.ofChange Rows.fnExactReplayChangesSpec).at F).post enc Tryz.prog Tryz.f4 false true false false) := by
  obtain ⟨places, hx⟩ := reads os enc
  refine returnsInHanded_of_row (C := Tryz.checked) (s := OpenSpec.ofChange Rows.fnExactReplayChangesSpec) own started (by kernel_rfl) Tryz.func4
    (witness_row_at (enc := enc) (C := Tryz.checked) false (laidWorld os) #[.slice none 0 0, .slice none 0 0] rfl (by kernel_rfl) (by kernel_rfl) (by kernel_rfl)
      (OpenSpec.preRow_of_cond 8 hx (by kernel_rfl) (fun k hk => by cases hk) (by kernel_rfl) (laid_met os))) ?_
  intro W base args ds gs before hval hW _ _ _ _ _ _
  exact contract H enc W base args ds gs before hval hW

theorem said : Rows.FnExactReplayChangesSaid :=
  OpenClaim.holds_of_cond 4 Tryz.f4 rfl rfl rfl rfl rfl rfl rfl ⟨rfl, rfl, rfl, rfl, rfl⟩ rfl rfl rfl rfl rfl (by kernel_rfl) Tryz.func4 (by kernel_rfl)
    (of_decide_eq_true (by kernel_rfl)) (by unfold Func.isWrapper; first | (rw [if_pos (by decide +kernel)]; kernel_rfl) | (rw [if_neg (by decide +kernel)]; exact ⟨rfl, rfl⟩))
    (fun os started H enc _ F => by rw [OpenClaim.pre_eq_preRow]; exact lifted os started H enc F)

theorem plain (f : FuncId) (fn : Func) (hf : Tryz.pinned.checked.prog.funcNamed "loop.example/livetyper/laws.FnExactReplayChanges" = some f) (hfn : Tryz.pinned.checked.prog.funcs[f]? = some fn) :
    true = Tryz.pinned.checked.prog.looks [] ∧ ∀ (j : Nat) t, fn.params[j]? = some t → Tryz.pinned.checked.prog.wantsStandIn t = false := by
  obtain rfl : f = 4 := Option.some.inj ((show Tryz.prog.funcNamed "loop.example/livetyper/laws.FnExactReplayChanges" = some 4 by kernel_rfl).symm.trans hf) |>.symm
  obtain rfl : fn = Tryz.f4 := (Option.some.inj (Tryz.func4.symm.trans hfn)).symm
  refine ⟨by kernel_rfl, fun j t ht => ?_⟩
  rw [Tryz.params4] at ht
  have hm := Array.mem_of_getElem? ht
  simp at hm
  rcases hm with rfl | rfl
  · exact (show Tryz.prog.wantsStandIn 22 = false by kernel_rfl)
  · exact (show Tryz.prog.wantsStandIn 43 = false by kernel_rfl)

/-- The given statement. -/
theorem proved : Rows.FnExactReplayChangesCardSaid :=
  Claim7.holds_tied_plain_at .later [] _ _ _ _ said (fun _ h => by cases h) (by kernel_rfl) (fun _ h => by cases h) fnExactReplayChanges_row_tie rfl ⟨rfl, rfl⟩ (by kernel_rfl) rfl plain (by kernel_rfl)
end Go.Proofs.YtkekghdkbbjhpaaGreatDoor.fnExactReplayChanges
