/-
  InstanceOf of the model and of the program: whether the variables of a type can be replaced so that it becomes another one; what was in memory stays.
-/
import Derived.Test.YtncpakpamfocbabGc
import Derived.Test.YtncpakpamfocbabGd
import Derived.Test.YtncpakpamfocbabZe
namespace Go.Proofs.Ytncpakpamfocbab.Mx
open Go.Proofs.Ytncpakpamfocbab
open Go.RowKit
set_option linter.unusedVariables false
set_option linter.unusedSimpArgs false

/-- Whether s is an instance of g. -/
noncomputable def instB (s g : Ty) : Bool := tvT s && (tvT g && (mtf 16 g s []).isSome)
theorem tv_shp {t : Ty} (h : tvT t = true) : shp 16 t = true := by
  rcases hs : shp 16 t with _ | _
  · rw [tvT_no hs] at h; cases h
  · rfl
def rowZ : Array Value := madeCells #[.int .i64 0, .int .i64 0, .slice none 0 0] 78
theorem rowZ_at : ∀ n, n < 26 → rowZ.toList[n * 3]? = some (.int .i64 0) := by
  intro n hn
  have h : n * 3 < 78 := by omega
  have hm : n * 3 % 3 = 0 := by omega
  simp [rowZ, madeCells, h, hm]
theorem rowZ_size : rowZ.size = 26 * 3 := by kernel_rfl
theorem RelS.start (w0 : World) : RelS w0 [] rowZ.toList := ⟨fun n hn _ => rowZ_at n hn, fun n hn t h => by cases h⟩
theorem kr_new (w : World) (kb : Nat) (h : w.heap.size = kb) : KR (w.alloc (.cells rowZ 29)) kb rowZ.toList := by
  subst h
  exact World.ownsRow_lit (e := 29) (size := 3) w rowZ 26 (Nat.le_refl _) (by decide) rowZ_size
theorem make_run (w : World) : (Instr.makeSlice 27 (.int .i64 26) (.int .i64 26)).run Try.prog w = .ok (.slice (some ⟨w.heap.size, 0, none⟩) 26 26) (w.alloc (.cells rowZ 29)) := by
  obtain ⟨i0, hi, hz0, hz1, hz2⟩ := info_parts infoTyp
  have h := run_make (P := Try.prog) w 27 29 i0 _ Try.underlying27 hi hz0 .i64 .i64 26 26 (by decide) (by decide) (by rw [hz2]; decide) (by decide)
  rw [hz1] at h
  exact h

set_option maxRecDepth 100000 in
set_option maxHeartbeats 4000000 in
theorem instanceOf_spec (s g : Ty) (vs vg : Value) (w : World) (hs : TyAt w s vs) (hg : TyAt w g vg) :
    Calls Try.prog 18 #[.agg #[.int .i64 s.k, .int .i64 s.n, vs], .agg #[.int .i64 g.k, .int .i64 g.n, vg]] w fun e w' => e = .returned (.bool (instB s g)) ∧ Below w.heap.size w w' := by
  have HVS := Lib.hid hs
  have HVG := Lib.hid hg
  obtain ⟨sa, sc, rfl, _⟩ := hs.slice
  obtain ⟨ga, gc, rfl, _⟩ := hg.slice
  clear hs hg
  obtain ⟨W1, hW1⟩ : ∃ W, (w.alloc (.cells #[.int .i64 s.k, .int .i64 s.n, .slice sa s.ks.length sc] 29)).alloc (.cells #[.int .i64 g.k, .int .i64 g.n, .slice ga g.ks.length gc] 29) = W := ⟨_, rfl⟩
  have HB1 : Hid (Below w.heap.size w W1) := Lib.hid (by rw [← hW1]; exact ((Below.refl _ _).alloc (Nat.le_refl _) _).alloc (by simp) _)
  have HX1 : Hid (TBox W1 w.heap.size (.int .i64 s.k) (.int .i64 s.n) (.slice sa s.ks.length sc)) := Lib.hid (by
    rw [← hW1]; exact (tbox_new w _ _ _ _).kept ((Below.refl _ _).alloc (Nat.le_refl _) _))
  have HY1 : Hid (TBox W1 (w.heap.size + 1) (.int .i64 g.k) (.int .i64 g.n) (.slice ga g.ks.length gc)) := Lib.hid (by
    have h := tbox_new (w.alloc (.cells #[.int .i64 s.k, .int .i64 s.n, .slice sa s.ks.length sc] 29)) (.int .i64 g.k) (.int .i64 g.n) (.slice ga g.ks.length gc) 29
    rw [hW1, sizeA'] at h; exact h)
  have HW1 := Lib.hid hW1
  clear hW1
  rcases h1 : tvT s with _ | _
  · have H1 := Lib.hid h1
    clear h1
    go_enter Try.func18, Try.ntmps18
    go_wp2_with fail
    rw [HW1.out]
    go_at_call 40
    refine (typeValid_spec s _ W1 (HVS.out.kept HB1.out)).mono ?_
    rintro e w2 ⟨rfl, hb2⟩
    rw [H1.out]
    have HB2 := Lib.hid (HB1.out.trans (hb2.mono HB1.out.size))
    clear hb2
    go_wp2_with fail
    go_ret
    exact ⟨by unfold instB; rw [H1.out]; rfl, HB2.out⟩
  have H1 := Lib.hid h1
  rcases h2 : tvT g with _ | _
  · have H2 := Lib.hid h2
    clear h1 h2
    go_enter Try.func18, Try.ntmps18
    go_wp2_with fail
    rw [HW1.out]
    go_at_call 40
    refine (typeValid_spec s _ W1 (HVS.out.kept HB1.out)).mono ?_
    rintro e w2 ⟨rfl, hb2⟩
    rw [H1.out]
    have HB2 := Lib.hid (HB1.out.trans (hb2.mono HB1.out.size))
    have HY2 := Lib.hid (HY1.out.kept hb2)
    clear hb2
    obtain ⟨y0, y1, y2, yz⟩ := HY2.out
    go_wp2_with fail
    go_at_call 40
    refine (typeValid_spec g _ w2 (HVG.out.kept HB2.out)).mono ?_
    rintro e w3 ⟨rfl, hb3⟩
    rw [H2.out]
    have HB3 := Lib.hid (HB2.out.trans (hb3.mono HB2.out.size))
    clear hb3
    go_wp2_with fail
    go_ret
    exact ⟨by unfold instB; rw [H1.out, H2.out]; rfl, HB3.out⟩
  have H2 := Lib.hid h2
  have HSS := Lib.hid (tv_shp h1)
  have HSG := Lib.hid (tv_shp h2)
  clear h1 h2
  obtain ⟨b, hb⟩ : ∃ b, (mtf 16 g s []).isSome = b := ⟨_, rfl⟩
  have HM := Lib.hid hb
  clear hb
  go_enter Try.func18, Try.ntmps18
  go_wp2_with fail
  rw [HW1.out]
  go_at_call 40
  refine (typeValid_spec s _ W1 (HVS.out.kept HB1.out)).mono ?_
  rintro e w2 ⟨rfl, hb2⟩
  rw [H1.out]
  have HB2 := Lib.hid (HB1.out.trans (hb2.mono HB1.out.size))
  have HX2 := Lib.hid (HX1.out.kept hb2)
  have HY2 := Lib.hid (HY1.out.kept hb2)
  clear hb2
  obtain ⟨y0, y1, y2, yz⟩ := HY2.out
  go_wp2_with fail
  go_at_call 40
  refine (typeValid_spec g _ w2 (HVG.out.kept HB2.out)).mono ?_
  rintro e w3 ⟨rfl, hb3⟩
  rw [H2.out]
  have HB3 := Lib.hid (HB2.out.trans (hb3.mono HB2.out.size))
  have HX3 := Lib.hid (HX2.out.kept hb3)
  have HY3 := Lib.hid (HY2.out.kept hb3)
  clear hb3 y0 y1 y2 yz
  obtain ⟨x0, x1, x2, xz⟩ := HX3.out
  obtain ⟨y0, y1, y2, yz⟩ := HY3.out
  have hmk := make_run
  go_wp2_with fail
  go_region_held3 (fun w' => w'.cell? ⟨w.heap.size, 0, none⟩ = some (.int .i64 s.k) ∧ w'.cell? ⟨w.heap.size, 1, none⟩ = some (.int .i64 s.n) ∧ w'.cell? ⟨w.heap.size, 2, none⟩ = some (.slice sa s.ks.length sc) ∧ w'.cell? ⟨w.heap.size + 1, 0, none⟩ = some (.int .i64 g.k) ∧ w'.cell? ⟨w.heap.size + 1, 1, none⟩ = some (.int .i64 g.n) ∧ w'.cell? ⟨w.heap.size + 1, 2, none⟩ = some (.slice ga g.ks.length gc)) (go_keep)
    (first | (go_at_call 41; have hA : Below w3.heap.size w3 (w3.alloc (.cells rowZ 29)) := (Below.refl _ _).alloc (Nat.le_refl _) _; have hAd : Below w3.heap.size w3 (w3.alloc (.cells rowZ 29)).drew := hA.drew; have hkr : KR (w3.alloc (.cells rowZ 29)).drew w3.heap.size rowZ.toList := (kr_new w3 _ rfl).below (Below.refl _ _).drew; refine (l2Match_any w3 w3.heap.size (Nat.le_refl _) 16 s g _ _ [] rowZ.toList _ HSS.out HSG.out (HVS.out.kept HB3.out) (HVG.out.kept HB3.out) hAd hkr (RelS.start w3)).mono ?_; rintro e w4 ⟨rfl, hi4, _⟩; rw [HM.out]; have hb4 : Below w3.heap.size w3 w4 := hi4.below (Nat.le_refl _) hAd hAd.size; have HB4 := Lib.hid (HB3.out.trans (hb4.mono HB3.out.size)); have zx0 := (hb4.cell (p := ⟨w.heap.size, 0, none⟩) xz).trans x0; have zx1 := (hb4.cell (p := ⟨w.heap.size, 1, none⟩) xz).trans x1; have zx2 := (hb4.cell (p := ⟨w.heap.size, 2, none⟩) xz).trans x2; have zy0 := (hb4.cell (p := ⟨w.heap.size + 1, 0, none⟩) yz).trans y0; have zy1 := (hb4.cell (p := ⟨w.heap.size + 1, 1, none⟩) yz).trans y1; have zy2 := (hb4.cell (p := ⟨w.heap.size + 1, 2, none⟩) yz).trans y2; clear hA hAd hkr hi4 hb4))
  all_goals go_wp2_with fail
  all_goals go_ret
  all_goals exact ⟨by unfold instB; rw [H1.out, H2.out, HM.out]; rfl, HB4.out⟩

set_option maxRecDepth 100000 in
set_option maxHeartbeats 4000000 in
theorem instanceOf_impl (s g : Ty) (vs vg : Value) (w : World) (hn : nodes s ≤ 1048577) (hs : TyOk w s vs) (hg : TyOk w g vg) :
    Calls Try.prog 19 #[.agg #[.int .i64 s.k, .int .i64 s.n, vs], .agg #[.int .i64 g.k, .int .i64 g.n, vg]] w fun e w' => e = .returned (.bool (instB s g)) ∧ Below w.heap.size w w' := by
  have HVS := Lib.hid hs
  have HVG := Lib.hid hg
  obtain ⟨sa, sc, rfl, _⟩ := hs.at.slice
  obtain ⟨ga, gc, rfl, _⟩ := hg.at.slice
  clear hs hg
  obtain ⟨W1, hW1⟩ : ∃ W, (w.alloc (.cells #[.int .i64 s.k, .int .i64 s.n, .slice sa s.ks.length sc] 29)).alloc (.cells #[.int .i64 g.k, .int .i64 g.n, .slice ga g.ks.length gc] 29) = W := ⟨_, rfl⟩
  have HB1 : Hid (Below w.heap.size w W1) := Lib.hid (by rw [← hW1]; exact ((Below.refl _ _).alloc (Nat.le_refl _) _).alloc (by simp) _)
  have HX1 : Hid (TBox W1 w.heap.size (.int .i64 s.k) (.int .i64 s.n) (.slice sa s.ks.length sc)) := Lib.hid (by
    rw [← hW1]; exact (tbox_new w _ _ _ _).kept ((Below.refl _ _).alloc (Nat.le_refl _) _))
  have HY1 : Hid (TBox W1 (w.heap.size + 1) (.int .i64 g.k) (.int .i64 g.n) (.slice ga g.ks.length gc)) := Lib.hid (by
    have h := tbox_new (w.alloc (.cells #[.int .i64 s.k, .int .i64 s.n, .slice sa s.ks.length sc] 29)) (.int .i64 g.k) (.int .i64 g.n) (.slice ga g.ks.length gc) 29
    rw [hW1, sizeA'] at h; exact h)
  have HW1 := Lib.hid hW1
  clear hW1
  rcases h1 : tvT s with _ | _
  · have H1 := Lib.hid h1
    clear h1
    go_enter Try.func19, Try.ntmps19
    go_wp2_with fail
    rw [HW1.out]
    go_at_call 42
    refine (typeValid_impl s _ W1 (HVS.out.at.kept HB1.out)).mono ?_
    rintro e w2 ⟨rfl, hb2⟩
    rw [H1.out]
    have HB2 := Lib.hid (HB1.out.trans (hb2.mono HB1.out.size))
    clear hb2
    go_wp2_with fail
    go_ret
    exact ⟨by unfold instB; rw [H1.out]; rfl, HB2.out⟩
  have H1 := Lib.hid h1
  rcases h2 : tvT g with _ | _
  · have H2 := Lib.hid h2
    clear h1 h2
    go_enter Try.func19, Try.ntmps19
    go_wp2_with fail
    rw [HW1.out]
    go_at_call 42
    refine (typeValid_impl s _ W1 (HVS.out.at.kept HB1.out)).mono ?_
    rintro e w2 ⟨rfl, hb2⟩
    rw [H1.out]
    have HB2 := Lib.hid (HB1.out.trans (hb2.mono HB1.out.size))
    have HY2 := Lib.hid (HY1.out.kept hb2)
    clear hb2
    obtain ⟨y0, y1, y2, yz⟩ := HY2.out
    go_wp2_with fail
    go_at_call 42
    refine (typeValid_impl g _ w2 (HVG.out.at.kept HB2.out)).mono ?_
    rintro e w3 ⟨rfl, hb3⟩
    rw [H2.out]
    have HB3 := Lib.hid (HB2.out.trans (hb3.mono HB2.out.size))
    clear hb3
    go_wp2_with fail
    go_ret
    exact ⟨by unfold instB; rw [H1.out, H2.out]; rfl, HB3.out⟩
  have H2 := Lib.hid h2
  have HSS := Lib.hid (tv_shp h1)
  have HSG := Lib.hid (tv_shp h2)
  clear h1 h2
  obtain ⟨b, hb⟩ : ∃ b, (mtf 16 g s []).isSome = b := ⟨_, rfl⟩
  have HM := Lib.hid hb
  clear hb
  go_enter Try.func19, Try.ntmps19
  go_wp2_with fail
  rw [HW1.out]
  go_at_call 42
  refine (typeValid_impl s _ W1 (HVS.out.at.kept HB1.out)).mono ?_
  rintro e w2 ⟨rfl, hb2⟩
  rw [H1.out]
  have HB2 := Lib.hid (HB1.out.trans (hb2.mono HB1.out.size))
  have HX2 := Lib.hid (HX1.out.kept hb2)
  have HY2 := Lib.hid (HY1.out.kept hb2)
  clear hb2
  obtain ⟨y0, y1, y2, yz⟩ := HY2.out
  go_wp2_with fail
  go_at_call 42
  refine (typeValid_impl g _ w2 (HVG.out.at.kept HB2.out)).mono ?_
  rintro e w3 ⟨rfl, hb3⟩
  rw [H2.out]
  have HB3 := Lib.hid (HB2.out.trans (hb3.mono HB2.out.size))
  have HX3 := Lib.hid (HX2.out.kept hb3)
  have HY3 := Lib.hid (HY2.out.kept hb3)
  clear hb3 y0 y1 y2 yz
  obtain ⟨x0, x1, x2, xz⟩ := HX3.out
  obtain ⟨y0, y1, y2, yz⟩ := HY3.out
  have hmm := @run_makeMap Try.prog
  go_wp2_with fail
  go_at_call 43
  have hA : Below w3.heap.size w3 (w3.alloc (.map #[] 0)) := (Below.refl _ _).alloc (Nat.le_refl _) _
  refine (matchType_any w3 w3.heap.size (Nat.le_refl _) 16 s g _ _ [] [] _ HSS.out HSG.out hn (HVS.out.kept HB3.out) (HVG.out.kept HB3.out) hA (imap_new w3) (RelI.nil w3)).mono ?_
  rintro e w4 ⟨rfl, hi4, _⟩
  rw [HM.out]
  have HB4 := Lib.hid (HB3.out.trans ((hi4.below (Nat.le_refl _) hA (by rw [sizeA']; omega)).mono HB3.out.size))
  clear hi4 hA
  go_wp2_with fail
  go_ret
  exact ⟨by unfold instB; rw [H1.out, H2.out, HM.out]; rfl, HB4.out⟩

end Go.Proofs.Ytncpakpamfocbab.Mx
