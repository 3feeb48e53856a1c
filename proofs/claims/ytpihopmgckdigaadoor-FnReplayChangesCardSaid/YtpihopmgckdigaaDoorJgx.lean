/-
  What InvertEdit returns, in the program and in the model: for every text of at most maxLen bytes and every edit; what was in memory stays.
  l11Change and ReplayChanges of the model.
-/
import Derived.Test.YtpihopmgckdigaaDoorProg
import Derived.Test.YtpihopmgckdigaaDoorTd
import Derived.RegionTactic
import Derived.ChangeAlike
import Derived.Test.YtpihopmgckdigaaDoorJef
import Derived.Deep.RegionLaw
namespace Go.Proofs.YtpihopmgckdigaaDoor
open Go.RowKit

theorem below_set3 {B : Nat} {a w : World} (h : Below B a w) {b o1 o2 o3 : Nat} {x y z : Value} (hp : B ≤ b) : Below B a (((w.setCell ⟨b, o1, none⟩ x).setCell ⟨b, o2, none⟩ y).setCell ⟨b, o3, none⟩ z) :=
  ((h.setCell (p := ⟨b, o1, none⟩) hp x).setCell (p := ⟨b, o2, none⟩) hp y).setCell (p := ⟨b, o3, none⟩) hp z

set_option maxRecDepth 100000 in
set_option maxHeartbeats 400000 in
theorem invertEdit_spec_no (s : ByteArray) (f t : Int) (i : ByteArray) (hb : fitsB s f t i = false) (hs : s.size ≤ maxLen) (hi : i.size ≤ maxLen) (w : World) :
    Calls Tryd.prog 46 #[.string s, .agg #[.int .i64 f, .int .i64 t, .string i]] w fun e w' => e = .returned (.tuple #[.agg #[.int .i64 0, .int .i64 0, .string ⟨#[]⟩], .bool false]) ∧ Below w.heap.size w w' := by
  have HSL := Lib.hid hs
  have HIL := Lib.hid hi
  have HB := Lib.hid hb
  unfold maxLen at hs hi
  clear hb
  go_enter Tryd.func46, Tryd.ntmps46
  go_wp2_with fail
  go_at_call 66
  refine (editValid_spec s f t i _ HB.out HSL.out HIL.out _).mono ?_
  rintro e w1 ⟨rfl, hb1⟩
  obtain ⟨hc1, hf1⟩ := bcell hb1
  have hz1 : w.heap.size + 1 < w1.heap.size := by have := hb1.size; (try simp at this); omega
  go_wp2
  exact bodyPost_ret (v := .tuple #[.agg #[.int .i64 0, .int .i64 0, .string ⟨#[]⟩], .bool false]) (by simp [results, Tryd.results46, go_sem, hc1]) rfl ⟨rfl, below_set3 ((((Below.refl _ _).alloc (Nat.le_refl _) _).alloc (by simp) _).trans (hb1.mono (by first | omega | (simp; done) | (simp; omega)))) (by simp)⟩
set_option maxRecDepth 100000 in
set_option maxHeartbeats 400000 in
theorem invertEdit_spec_yes (s : ByteArray) (f t : Int) (i : ByteArray) (hb : fitsB s f t i = true) (w : World) :
    Calls Tryd.prog 46 #[.string s, .agg #[.int .i64 f, .int .i64 t, .string i]] w fun e w' => e = .returned (.tuple #[.agg #[.int .i64 f, .int .i64 (f + i.size), .string (s.extract f.toNat t.toNat)], .bool true]) ∧ Below w.heap.size w w' := by
  have HB := Lib.hid hb
  obtain ⟨hv1, hv2, h0, h1, h2, h3⟩ := fitsB_iff.mp hb
  have hs := tv_size hv1
  have hi := tv_size hv2
  clear hb hv1 hv2
  go_enter Tryd.func46, Tryd.ntmps46
  go_wp2_with fail
  go_at_call 66
  refine (editValid_spec s f t i _ HB.out (by unfold maxLen; omega) (by unfold maxLen; omega) _).mono ?_
  rintro e w1 ⟨rfl, hb1⟩
  obtain ⟨hc1, hf1⟩ := bcell hb1
  have hz1 : w.heap.size + 1 < w1.heap.size := by have := hb1.size; (try simp at this); omega
  have H1 : Below w.heap.size w w1 := (((Below.refl _ _).alloc (Nat.le_refl _) _).alloc (by simp) _).trans (hb1.mono (by first | omega | (simp; done) | (simp; omega)))
  go_wp2_with fail
  go_region
  all_goals go_wp2
  all_goals exact bodyPost_ret (v := .tuple #[.agg #[.int .i64 f, .int .i64 (f + i.size), .string (s.extract f.toNat t.toNat)], .bool true]) (by simp [results, Tryd.results46, go_sem, hc1]) rfl ⟨rfl, below_set3 H1.drew (by simp)⟩

end Go.Proofs.YtpihopmgckdigaaDoor

namespace Go.Proofs.YtpihopmgckdigaaDoor
open Go.RowKit
set_option linter.unusedVariables false
set_option linter.unusedSimpArgs false

/-- The variable in which an edit lies. -/
structure BxE (w : World) (T : Nat) (f t : Int) (i : ByteArray) : Prop where
  c0 : w.cell? ⟨T, 0, none⟩ = some (.int .i64 f)
  c1 : w.cell? ⟨T, 1, none⟩ = some (.int .i64 t)
  c2 : w.cell? ⟨T, 2, none⟩ = some (.string i)
  sz : T < w.heap.size
theorem BxE.block {w w' : World} {T : Nat} {f t : Int} {i : ByteArray} (h : BxE w T f t i) (e : w'.heap[T]? = w.heap[T]?) (hs : w.heap.size ≤ w'.heap.size) : BxE w' T f t i :=
  ⟨(cellEq e).trans h.c0, (cellEq e).trans h.c1, (cellEq e).trans h.c2, Nat.lt_of_lt_of_le h.sz hs⟩
theorem BxE.kept {w w' : World} {T : Nat} {f t : Int} {i : ByteArray} (h : BxE w T f t i) (hb : Below w.heap.size w w') : BxE w' T f t i := h.block (hb.block T h.sz) hb.size
theorem BxE.inside {w w' : World} {T lo hi : Nat} {f t : Int} {i : ByteArray} (h : BxE w T f t i) (hI : Inside lo hi w w') (hd : T < lo ∨ hi ≤ T) : BxE w' T f t i := h.block (hI.block T h.sz hd) hI.size
theorem BxE.new (w : World) (f t : Int) (i : ByteArray) : BxE (w.alloc (.cells #[.int .i64 f, .int .i64 t, .string i] 54)) w.heap.size f t i := by
  have h := World.alloc_heap_new w (.cells #[.int .i64 f, .int .i64 t, .string i] 54)
  refine ⟨?_, ?_, ?_, by simp⟩
  all_goals (simp only [World.cell?, h]; rfl)
theorem below_da2 {w w2 : World} {x y z : Value} {t : TypeId} (h : Below ((w.alloc (.cells #[x, y, z] t)).drew).heap.size (w.alloc (.cells #[x, y, z] t)).drew w2) : Below w.heap.size w w2 :=
  (below_da w _).trans (h.mono (le_d1 _ _))
theorem bxf_of {w w2 : World} {x y z : Value} {t : TypeId} (h : Below ((w.alloc (.cells #[x, y, z] t)).drew).heap.size (w.alloc (.cells #[x, y, z] t)).drew w2) :
    w2.cell? ⟨w.heap.size, 0, none⟩ = some x ∧ w2.cell? ⟨w.heap.size, 1, none⟩ = some y ∧ w2.cell? ⟨w.heap.size, 2, none⟩ = some z ∧ w2.frozen? ⟨w.heap.size, 0, none⟩ = false ∧ w2.frozen? ⟨w.heap.size, 1, none⟩ = false ∧ w2.frozen? ⟨w.heap.size, 2, none⟩ = false ∧ w.heap.size < w2.heap.size := by
  have hs := h.size
  rw [size_drw, World.size_alloc] at hs
  have e := (h.block w.heap.size (by rw [size_drw, World.size_alloc]; omega)).trans (World.alloc_heap_new w (.cells #[x, y, z] t))
  refine ⟨?_, ?_, ?_, ?_, ?_, ?_, by omega⟩
  all_goals first | (simp only [World.cell?, e]; rfl) | (simp only [World.frozen?, e]; rfl)
set_option maxRecDepth 100000 in
set_option maxHeartbeats 1000000 in
theorem l11_none (ls : List Fl) (L : Nat) (hL : ls.length = L) (hl : L ≤ 2000000) (hz : FlSz ls) (x : Ch) (hxn : x.n.size ≤ maxLen) (hxi : x.i.size ≤ maxLen) (hr : fdI ls x.n = -1) (g c : Nat) (w : World) (h : FsAt w ls (.slice (some ⟨g, 0, none⟩) L c)) :
    Calls Tryd.prog 23 #[.slice (some ⟨g, 0, none⟩) L c, .agg #[.string x.n, .int .i64 x.f, .int .i64 x.t, .string x.i]] w (MdPost ls x w) := by
  have hA := ((Below.refl w.heap.size w).alloc (Nat.le_refl _) (.cells #[.string x.n, .int .i64 x.f, .int .i64 x.t, .string x.i] 56)).alloc (by rw [World.size_alloc]; omega) (.cells #[.string ⟨#[]⟩, .int .i64 0, .int .i64 0, .string ⟨#[]⟩] 56)
  have HB1 := Lib.hid hA
  have HF := Lib.hid (h.kept hA)
  have HX1 := Lib.hid ((BxC.new w x.n x.f x.t x.i).kept ((Below.refl _ _).alloc (Nat.le_refl _) (.cells #[.string ⟨#[]⟩, .int .i64 0, .int .i64 0, .string ⟨#[]⟩] 56)))
  have hX2 := BxC.new (w.alloc (.cells #[.string x.n, .int .i64 x.f, .int .i64 x.t, .string x.i] 56)) ⟨#[]⟩ 0 0 ⟨#[]⟩
  rw [World.size_alloc] at hX2
  have HX2 := Lib.hid hX2
  have HL := Lib.hid hL
  have HLB : Hid (ls.length ≤ 2000000) := Lib.hid (by rw [hL]; omega)
  have HZ : Hid (FlSz ls) := Lib.hid hz
  have HXI := Lib.hid hxi
  have HR : Hid (FdR ls x.n (-1)) := Lib.hid (by rw [← hr]; exact fdI_is ls x.n)
  have HOK : Hid (okC ls x = false) := Lib.hid (okC_no1 hr)
  clear h hA hX2 hz hL hr
  go_enter Tryd.func23, Tryd.ntmps23
  go_wp2_with fail
  go_at_call 45
  refine (l5Find_at ls HLB.out _ x.n (-1) HR.out _ HF.out).mono ?_
  rintro e w1 ⟨rfl, rfl⟩
  obtain ⟨t0, t1, t2, t3, g0, g1, g2, g3, tz⟩ := HX2.out
  go_wp2_with fail
  exact bodyPost_ret (v := .tuple #[.slice none 0 0, .agg #[.string ⟨#[]⟩, .int .i64 0, .int .i64 0, .string ⟨#[]⟩], .bool false]) (by simp [results, Tryd.results23, go_sem, t0, t1, t2, t3]) rfl ⟨.inl ⟨HOK.out, rfl⟩, HB1.out⟩
set_option maxRecDepth 100000 in
set_option maxHeartbeats 1000000 in
theorem l11_unfit (ls : List Fl) (L : Nat) (hL : ls.length = L) (hl : L ≤ 2000000) (hz : FlSz ls) (x : Ch) (hxn : x.n.size ≤ maxLen) (hxi : x.i.size ≤ maxLen) (k : Nat) (hr : fdI ls x.n = k) (hk : k < L) (y : Fl) (hy : ls.getD k Fl.dummy = y) (hf : fitsB y.t x.f x.t x.i = false) (g c : Nat) (w : World) (h : FsAt w ls (.slice (some ⟨g, 0, none⟩) L c)) :
    Calls Tryd.prog 23 #[.slice (some ⟨g, 0, none⟩) L c, .agg #[.string x.n, .int .i64 x.f, .int .i64 x.t, .string x.i]] w (MdPost ls x w) := by
  have hA := ((Below.refl w.heap.size w).alloc (Nat.le_refl _) (.cells #[.string x.n, .int .i64 x.f, .int .i64 x.t, .string x.i] 56)).alloc (by rw [World.size_alloc]; omega) (.cells #[.string ⟨#[]⟩, .int .i64 0, .int .i64 0, .string ⟨#[]⟩] 56)
  have HB1 := Lib.hid hA
  have HF := Lib.hid (h.kept hA)
  have HX1 := Lib.hid ((BxC.new w x.n x.f x.t x.i).kept ((Below.refl _ _).alloc (Nat.le_refl _) (.cells #[.string ⟨#[]⟩, .int .i64 0, .int .i64 0, .string ⟨#[]⟩] 56)))
  have hX2 := BxC.new (w.alloc (.cells #[.string x.n, .int .i64 x.f, .int .i64 x.t, .string x.i] 56)) ⟨#[]⟩ 0 0 ⟨#[]⟩
  rw [World.size_alloc] at hX2
  have HX2 := Lib.hid hX2
  have HL := Lib.hid hL
  have HLB : Hid (ls.length ≤ 2000000) := Lib.hid (by rw [hL]; omega)
  have HZ : Hid (FlSz ls) := Lib.hid hz
  have HXI := Lib.hid hxi
  have HR : Hid (FdR ls x.n k) := Lib.hid (by rw [← hr]; exact fdI_is ls x.n)
  have HY := Lib.hid hy
  have HYS : Hid (y.t.size ≤ maxLen) := Lib.hid (by rw [← hy]; exact (hz k (by rw [hL]; exact hk)).2)
  have HFB := Lib.hid hf
  have HOK : Hid (okC ls x = false) := Lib.hid (okC_no2 hr (by rw [hy]; exact hf))
  clear h hA hX2 hz hL hr hf hy
  go_enter Tryd.func23, Tryd.ntmps23
  go_wp2_with fail
  go_at_call 45
  refine (l5Find_at ls HLB.out _ x.n ((k : Nat)) HR.out _ HF.out).mono ?_
  rintro e w1 ⟨rfl, rfl⟩
  obtain ⟨bb, oo, cc, ex, lb, x0, x1⟩ := FsAt.kidL HF.out k HL.out hk
  have f1 : bb = g ∧ oo = 0 := by injection ex with e1 e2 e3; injection e1 with e1; injection e1 with e1 e2; exact ⟨e1.symm, e2.symm⟩
  obtain ⟨rfl, rfl⟩ := f1
  obtain ⟨p0, p1, p2, p3, _, _, _, _, pz⟩ := HX1.out
  rw [HY.out, Nat.zero_add] at x0 x1
  have hki : (k : Int) < (L : Int) := by omega
  have hkn : ¬ (k : Int) < 0 := by omega
  clear ex
  obtain ⟨W1, hW1⟩ : ∃ W, ((w.alloc (.cells #[.string x.n, .int .i64 x.f, .int .i64 x.t, .string x.i] 56)).alloc (.cells #[.string ⟨#[]⟩, .int .i64 0, .int .i64 0, .string ⟨#[]⟩] 56)) = W := ⟨_, rfl⟩
  rw [hW1] at HB1 HF HX1 HX2 lb x0 x1 p0 p1 p2 p3 pz ⊢
  clear hW1
  go_wp2_with fail
  go_cut [8, 9] (fun p b wx => ∃ E, p = .pointer (some ⟨E, 0, none⟩) ∧ b = .bool false ∧ Hid (BxE wx E (0) (0) (⟨#[]⟩)) ∧ Hid (Below W1.heap.size W1 wx) ∧ Hid (W1.heap.size ≤ E))
  case first =>
    go_region_law (first
      | (go_simp; go_at_call 46; refine (invertEdit_spec_no y.t x.f x.t x.i HFB.out HYS.out HXI.out _).mono ?_; rintro e w2 ⟨rfl, hb2⟩; first | (have hda := below_da2 hb2; have HB2 := Lib.hid hda; obtain ⟨b0, b1, b2, b3, b4, b5, b6⟩ := bxf_of hb2; have hz2 : Hid (W1.heap.size < w2.heap.size) := Lib.hid b6; clear hb2 hda) | (have HB2 : Hid (Below W1.heap.size W1 w2) := Lib.hid (Below.trans (Below.refl _ _).drew hb2); clear hb2))
      | fail)
    all_goals go_wp2_with fail
    all_goals go_meet
    all_goals first
      | with_reducible exact ⟨w2.heap.size, rfl, rfl, Lib.hid (BxE.new w2 _ _ _), Lib.hid (HB2.out.alloc HB2.out.size _), Lib.hid HB2.out.size⟩
      | exact ⟨W1.heap.size, rfl, rfl, Lib.hid ⟨by go_simp, by go_simp, by go_simp, by simpa using hz2.out⟩, Lib.hid (below_set3 HB2.out (Nat.le_refl _)), Lib.hid (Nat.le_refl _)⟩
      | exact ⟨W1.heap.size, rfl, rfl, Lib.hid ⟨b0, b1, b2, hz2.out⟩, HB2, Lib.hid (Nat.le_refl _)⟩
  case rest =>
    obtain ⟨E, rfl, rfl, HE, HBC, HEZ⟩ := hcut
    have HB2 := Lib.hid (HB1.out.trans (HBC.out.mono HB1.out.size))
    have HX12 := Lib.hid (HX1.out.kept HBC.out)
    have HX22 := Lib.hid (HX2.out.kept HBC.out)
    have HF2 := Lib.hid (HF.out.kept HBC.out)
    replace x1 := (HBC.out.cell (p := ⟨bb, k * 2 + 1, none⟩) lb).trans x1
    clear p0 p1 p2 p3 x0
    obtain ⟨p0, p1, p2, p3, _, _, _, _, _⟩ := HX12.out
    rename_i wc _ _ _ _ _ _
    go_wp2_with fail
    go_cut [10, 11] (fun p b wx => p = .string ⟨#[]⟩ ∧ b = .bool false ∧ Hid (Below wc.heap.size wc wx))
    case first =>
      go_region_law (first
        | (go_simp; go_at_call 42; refine (applyEdit_spec_no y.t x.f x.t x.i HFB.out HYS.out HXI.out _).mono ?_; rintro e w3 ⟨rfl, hb3⟩; have HB3 : Hid (Below wc.heap.size wc w3) := Lib.hid (by exact Below.trans (Below.refl _ _).drew hb3); clear hb3)
        | fail)
      all_goals go_wp2_with fail
      all_goals go_meet
      all_goals exact ⟨rfl, rfl, HB3⟩
    case rest =>
      obtain ⟨rfl, rfl, HBD⟩ := hcut
      have HB4 := Lib.hid (HB2.out.trans (HBD.out.mono HB2.out.size))
      have HX13 := Lib.hid (HX12.out.kept HBD.out)
      have HX23 := Lib.hid (HX22.out.kept HBD.out)
      have HF3 := Lib.hid (HF2.out.kept HBD.out)
      have HE3 := Lib.hid (HE.out.kept HBD.out)
      clear p0 p1 p2 p3 x1
      obtain ⟨t0, t1, t2, t3, g0, g1, g2, g3, tz⟩ := HX23.out
      go_wp2_with fail
      exact bodyPost_ret (v := .tuple #[.slice none 0 0, .agg #[.string ⟨#[]⟩, .int .i64 0, .int .i64 0, .string ⟨#[]⟩], .bool false]) (by simp [results, Tryd.results23, go_sem, t0, t1, t2, t3]) rfl ⟨.inl ⟨HOK.out, rfl⟩, below_set4 HB4.out (Nat.le_succ _) _ _ _ _⟩
set_option maxRecDepth 100000 in
set_option maxHeartbeats 1000000 in
theorem l11_untext (ls : List Fl) (L : Nat) (hL : ls.length = L) (hl : L ≤ 2000000) (hz : FlSz ls) (x : Ch) (hxn : x.n.size ≤ maxLen) (hxi : x.i.size ≤ maxLen) (k : Nat) (hr : fdI ls x.n = k) (hk : k < L) (y : Fl) (hy : ls.getD k Fl.dummy = y) (hf : fitsB y.t x.f x.t x.i = true) (ht : ftB (ap y.t x.f x.t x.i) = false) (g c : Nat) (w : World) (h : FsAt w ls (.slice (some ⟨g, 0, none⟩) L c)) :
    Calls Tryd.prog 23 #[.slice (some ⟨g, 0, none⟩) L c, .agg #[.string x.n, .int .i64 x.f, .int .i64 x.t, .string x.i]] w (MdPost ls x w) := by
  have hA := ((Below.refl w.heap.size w).alloc (Nat.le_refl _) (.cells #[.string x.n, .int .i64 x.f, .int .i64 x.t, .string x.i] 56)).alloc (by rw [World.size_alloc]; omega) (.cells #[.string ⟨#[]⟩, .int .i64 0, .int .i64 0, .string ⟨#[]⟩] 56)
  have HB1 := Lib.hid hA
  have HF := Lib.hid (h.kept hA)
  have HX1 := Lib.hid ((BxC.new w x.n x.f x.t x.i).kept ((Below.refl _ _).alloc (Nat.le_refl _) (.cells #[.string ⟨#[]⟩, .int .i64 0, .int .i64 0, .string ⟨#[]⟩] 56)))
  have hX2 := BxC.new (w.alloc (.cells #[.string x.n, .int .i64 x.f, .int .i64 x.t, .string x.i] 56)) ⟨#[]⟩ 0 0 ⟨#[]⟩
  rw [World.size_alloc] at hX2
  have HX2 := Lib.hid hX2
  have HL := Lib.hid hL
  have HLB : Hid (ls.length ≤ 2000000) := Lib.hid (by rw [hL]; omega)
  have HZ : Hid (FlSz ls) := Lib.hid hz
  have HXI := Lib.hid hxi
  have HR : Hid (FdR ls x.n k) := Lib.hid (by rw [← hr]; exact fdI_is ls x.n)
  have HY := Lib.hid hy
  have HYS : Hid (y.t.size ≤ maxLen) := Lib.hid (by rw [← hy]; exact (hz k (by rw [hL]; exact hk)).2)
  have HFB := Lib.hid hf
  obtain ⟨s2, hs2⟩ : ∃ s2, ap y.t x.f x.t x.i = s2 := ⟨_, rfl⟩
  have HS2 := Lib.hid hs2
  have HSZ : Hid (s2.size ≤ maxLen) := Lib.hid (by rw [← hs2]; exact ap_size hf)
  have HOK : Hid (okC ls x = false) := Lib.hid (by rw [okC_is hr (by rw [hy]; exact hf), hy]; exact ht)
  have HFT : Hid (ftB s2 = false) := Lib.hid (by rw [← hs2]; exact ht)
  clear h hA hX2 hz hL hr hf hy ht hs2
  go_enter Tryd.func23, Tryd.ntmps23
  go_wp2_with fail
  go_at_call 45
  refine (l5Find_at ls HLB.out _ x.n ((k : Nat)) HR.out _ HF.out).mono ?_
  rintro e w1 ⟨rfl, rfl⟩
  obtain ⟨bb, oo, cc, ex, lb, x0, x1⟩ := FsAt.kidL HF.out k HL.out hk
  have f1 : bb = g ∧ oo = 0 := by injection ex with e1 e2 e3; injection e1 with e1; injection e1 with e1 e2; exact ⟨e1.symm, e2.symm⟩
  obtain ⟨rfl, rfl⟩ := f1
  obtain ⟨p0, p1, p2, p3, _, _, _, _, pz⟩ := HX1.out
  rw [HY.out, Nat.zero_add] at x0 x1
  have hki : (k : Int) < (L : Int) := by omega
  have hkn : ¬ (k : Int) < 0 := by omega
  clear ex
  obtain ⟨W1, hW1⟩ : ∃ W, ((w.alloc (.cells #[.string x.n, .int .i64 x.f, .int .i64 x.t, .string x.i] 56)).alloc (.cells #[.string ⟨#[]⟩, .int .i64 0, .int .i64 0, .string ⟨#[]⟩] 56)) = W := ⟨_, rfl⟩
  rw [hW1] at HB1 HF HX1 HX2 lb x0 x1 p0 p1 p2 p3 pz ⊢
  clear hW1
  go_wp2_with fail
  go_cut [8, 9] (fun p b wx => ∃ E, p = .pointer (some ⟨E, 0, none⟩) ∧ b = .bool true ∧ Hid (BxE wx E (x.f) (x.f + x.i.size) (y.t.extract x.f.toNat x.t.toNat)) ∧ Hid (Below W1.heap.size W1 wx) ∧ Hid (W1.heap.size ≤ E))
  case first =>
    go_region_law (first
      | (go_simp; go_at_call 46; refine (invertEdit_spec_yes y.t x.f x.t x.i HFB.out _).mono ?_; rintro e w2 ⟨rfl, hb2⟩; first | (have hda := below_da2 hb2; have HB2 := Lib.hid hda; obtain ⟨b0, b1, b2, b3, b4, b5, b6⟩ := bxf_of hb2; have hz2 : Hid (W1.heap.size < w2.heap.size) := Lib.hid b6; clear hb2 hda) | (have HB2 : Hid (Below W1.heap.size W1 w2) := Lib.hid (Below.trans (Below.refl _ _).drew hb2); clear hb2))
      | fail)
    all_goals go_wp2_with fail
    all_goals go_meet
    all_goals first
      | with_reducible exact ⟨w2.heap.size, rfl, rfl, Lib.hid (BxE.new w2 _ _ _), Lib.hid (HB2.out.alloc HB2.out.size _), Lib.hid HB2.out.size⟩
      | exact ⟨W1.heap.size, rfl, rfl, Lib.hid ⟨by go_simp, by go_simp, by go_simp, by simpa using hz2.out⟩, Lib.hid (below_set3 HB2.out (Nat.le_refl _)), Lib.hid (Nat.le_refl _)⟩
      | exact ⟨W1.heap.size, rfl, rfl, Lib.hid ⟨b0, b1, b2, hz2.out⟩, HB2, Lib.hid (Nat.le_refl _)⟩
  case rest =>
    obtain ⟨E, rfl, rfl, HE, HBC, HEZ⟩ := hcut
    have HB2 := Lib.hid (HB1.out.trans (HBC.out.mono HB1.out.size))
    have HX12 := Lib.hid (HX1.out.kept HBC.out)
    have HX22 := Lib.hid (HX2.out.kept HBC.out)
    have HF2 := Lib.hid (HF.out.kept HBC.out)
    replace x1 := (HBC.out.cell (p := ⟨bb, k * 2 + 1, none⟩) lb).trans x1
    clear p0 p1 p2 p3 x0
    obtain ⟨p0, p1, p2, p3, _, _, _, _, _⟩ := HX12.out
    rename_i wc _ _ _ _ _ _
    go_wp2_with fail
    go_cut [10, 11] (fun p b wx => p = .string s2 ∧ b = .bool true ∧ Hid (Below wc.heap.size wc wx))
    case first =>
      go_region_law (first
        | (go_simp; go_at_call 42; refine (applyEdit_spec_yes y.t x.f x.t x.i HFB.out _).mono ?_; rintro e w3 ⟨rfl, hb3⟩; have HB3 : Hid (Below wc.heap.size wc w3) := Lib.hid (by exact Below.trans (Below.refl _ _).drew hb3); clear hb3)
        | fail)
      all_goals go_wp2_with fail
      all_goals go_meet
      all_goals exact ⟨by rw [HS2.out], rfl, HB3⟩
    case rest =>
      obtain ⟨rfl, rfl, HBD⟩ := hcut
      have HB4 := Lib.hid (HB2.out.trans (HBD.out.mono HB2.out.size))
      have HX13 := Lib.hid (HX12.out.kept HBD.out)
      have HX23 := Lib.hid (HX22.out.kept HBD.out)
      have HF3 := Lib.hid (HF2.out.kept HBD.out)
      have HE3 := Lib.hid (HE.out.kept HBD.out)
      clear p0 p1 p2 p3 x1
      go_wp2_with fail
      go_at_call 44
      refine (l5Text_any s2 HSZ.out _).mono ?_
      rintro e w4 ⟨rfl, hb4⟩
      rw [HFT.out]
      have HB5 := Lib.hid (HB4.out.trans (hb4.mono HB4.out.size))
      have HX14 := Lib.hid (HX13.out.kept hb4)
      have HX24 := Lib.hid (HX23.out.kept hb4)
      have HF4 := Lib.hid (HF3.out.kept hb4)
      have HE4 := Lib.hid (HE3.out.kept hb4)
      clear hb4
      obtain ⟨t0, t1, t2, t3, g0, g1, g2, g3, tz⟩ := HX24.out
      go_wp2_with fail
      exact bodyPost_ret (v := .tuple #[.slice none 0 0, .agg #[.string ⟨#[]⟩, .int .i64 0, .int .i64 0, .string ⟨#[]⟩], .bool false]) (by simp [results, Tryd.results23, go_sem, t0, t1, t2, t3]) rfl ⟨.inl ⟨HOK.out, rfl⟩, below_set4 HB5.out (Nat.le_succ _) _ _ _ _⟩
set_option maxRecDepth 100000 in
set_option maxHeartbeats 1000000 in
theorem l11_yes (ls : List Fl) (L : Nat) (hL : ls.length = L) (hl : L ≤ 2000000) (hz : FlSz ls) (x : Ch) (hxn : x.n.size ≤ maxLen) (hxi : x.i.size ≤ maxLen) (k : Nat) (hr : fdI ls x.n = k) (hk : k < L) (y : Fl) (hy : ls.getD k Fl.dummy = y) (hf : fitsB y.t x.f x.t x.i = true) (ht : ftB (ap y.t x.f x.t x.i) = true) (g c : Nat) (w : World) (h : FsAt w ls (.slice (some ⟨g, 0, none⟩) L c)) :
    Calls Tryd.prog 23 #[.slice (some ⟨g, 0, none⟩) L c, .agg #[.string x.n, .int .i64 x.f, .int .i64 x.t, .string x.i]] w (MdPost ls x w) := by
  have hA := ((Below.refl w.heap.size w).alloc (Nat.le_refl _) (.cells #[.string x.n, .int .i64 x.f, .int .i64 x.t, .string x.i] 56)).alloc (by rw [World.size_alloc]; omega) (.cells #[.string ⟨#[]⟩, .int .i64 0, .int .i64 0, .string ⟨#[]⟩] 56)
  have HB1 := Lib.hid hA
  have HF := Lib.hid (h.kept hA)
  have HX1 := Lib.hid ((BxC.new w x.n x.f x.t x.i).kept ((Below.refl _ _).alloc (Nat.le_refl _) (.cells #[.string ⟨#[]⟩, .int .i64 0, .int .i64 0, .string ⟨#[]⟩] 56)))
  have hX2 := BxC.new (w.alloc (.cells #[.string x.n, .int .i64 x.f, .int .i64 x.t, .string x.i] 56)) ⟨#[]⟩ 0 0 ⟨#[]⟩
  rw [World.size_alloc] at hX2
  have HX2 := Lib.hid hX2
  have HL := Lib.hid hL
  have HLB : Hid (ls.length ≤ 2000000) := Lib.hid (by rw [hL]; omega)
  have HZ : Hid (FlSz ls) := Lib.hid hz
  have HXI := Lib.hid hxi
  have HR : Hid (FdR ls x.n k) := Lib.hid (by rw [← hr]; exact fdI_is ls x.n)
  have HY := Lib.hid hy
  have HYS : Hid (y.t.size ≤ maxLen) := Lib.hid (by rw [← hy]; exact (hz k (by rw [hL]; exact hk)).2)
  have HFB := Lib.hid hf
  obtain ⟨s2, hs2⟩ : ∃ s2, ap y.t x.f x.t x.i = s2 := ⟨_, rfl⟩
  have HS2 := Lib.hid hs2
  have HSZ : Hid (s2.size ≤ maxLen) := Lib.hid (by rw [← hs2]; exact ap_size hf)
  have HOK : Hid (okC ls x = true) := Lib.hid (by rw [okC_is hr (by rw [hy]; exact hf), hy]; exact ht)
  have HFT : Hid (ftB s2 = true) := Lib.hid (by rw [← hs2]; exact ht)
  have HUP : Hid (upC ls x = ls.set k ⟨(ls.getD k Fl.dummy).n, s2⟩) := Lib.hid (by rw [upC_is hr, hy, hs2])
  have HCL : Hid ((cellsF ls).length = L * 2) := Lib.hid (by rw [cellsF_len, hL])
  clear h hA hX2 hz hL hr hf hy ht hs2
  go_enter Tryd.func23, Tryd.ntmps23
  go_wp2_with fail
  go_at_call 45
  refine (l5Find_at ls HLB.out _ x.n ((k : Nat)) HR.out _ HF.out).mono ?_
  rintro e w1 ⟨rfl, rfl⟩
  obtain ⟨bb, oo, cc, ex, lb, x0, x1⟩ := FsAt.kidL HF.out k HL.out hk
  have f1 : bb = g ∧ oo = 0 := by injection ex with e1 e2 e3; injection e1 with e1; injection e1 with e1 e2; exact ⟨e1.symm, e2.symm⟩
  obtain ⟨rfl, rfl⟩ := f1
  obtain ⟨p0, p1, p2, p3, _, _, _, _, pz⟩ := HX1.out
  rw [HY.out, Nat.zero_add] at x0 x1
  have hki : (k : Int) < (L : Int) := by omega
  have hkn : ¬ (k : Int) < 0 := by omega
  clear ex
  obtain ⟨W1, hW1⟩ : ∃ W, ((w.alloc (.cells #[.string x.n, .int .i64 x.f, .int .i64 x.t, .string x.i] 56)).alloc (.cells #[.string ⟨#[]⟩, .int .i64 0, .int .i64 0, .string ⟨#[]⟩] 56)) = W := ⟨_, rfl⟩
  rw [hW1] at HB1 HF HX1 HX2 lb x0 x1 p0 p1 p2 p3 pz ⊢
  clear hW1
  go_wp2_with fail
  go_cut [8, 9] (fun p b wx => ∃ E, p = .pointer (some ⟨E, 0, none⟩) ∧ b = .bool true ∧ Hid (BxE wx E (x.f) (x.f + x.i.size) (y.t.extract x.f.toNat x.t.toNat)) ∧ Hid (Below W1.heap.size W1 wx) ∧ Hid (W1.heap.size ≤ E))
  case first =>
    go_region_law (first
      | (go_simp; go_at_call 46; refine (invertEdit_spec_yes y.t x.f x.t x.i HFB.out _).mono ?_; rintro e w2 ⟨rfl, hb2⟩; first | (have hda := below_da2 hb2; have HB2 := Lib.hid hda; obtain ⟨b0, b1, b2, b3, b4, b5, b6⟩ := bxf_of hb2; have hz2 : Hid (W1.heap.size < w2.heap.size) := Lib.hid b6; clear hb2 hda) | (have HB2 : Hid (Below W1.heap.size W1 w2) := Lib.hid (Below.trans (Below.refl _ _).drew hb2); clear hb2))
      | fail)
    all_goals go_wp2_with fail
    all_goals go_meet
    all_goals first
      | with_reducible exact ⟨w2.heap.size, rfl, rfl, Lib.hid (BxE.new w2 _ _ _), Lib.hid (HB2.out.alloc HB2.out.size _), Lib.hid HB2.out.size⟩
      | exact ⟨W1.heap.size, rfl, rfl, Lib.hid ⟨by go_simp, by go_simp, by go_simp, by simpa using hz2.out⟩, Lib.hid (below_set3 HB2.out (Nat.le_refl _)), Lib.hid (Nat.le_refl _)⟩
      | exact ⟨W1.heap.size, rfl, rfl, Lib.hid ⟨b0, b1, b2, hz2.out⟩, HB2, Lib.hid (Nat.le_refl _)⟩
  case rest =>
    obtain ⟨E, rfl, rfl, HE, HBC, HEZ⟩ := hcut
    have HB2 := Lib.hid (HB1.out.trans (HBC.out.mono HB1.out.size))
    have HX12 := Lib.hid (HX1.out.kept HBC.out)
    have HX22 := Lib.hid (HX2.out.kept HBC.out)
    have HF2 := Lib.hid (HF.out.kept HBC.out)
    replace x1 := (HBC.out.cell (p := ⟨bb, k * 2 + 1, none⟩) lb).trans x1
    clear p0 p1 p2 p3 x0
    obtain ⟨p0, p1, p2, p3, _, _, _, _, _⟩ := HX12.out
    rename_i wc _ _ _ _ _ _
    go_wp2_with fail
    go_cut [10, 11] (fun p b wx => p = .string s2 ∧ b = .bool true ∧ Hid (Below wc.heap.size wc wx))
    case first =>
      go_region_law (first
        | (go_simp; go_at_call 42; refine (applyEdit_spec_yes y.t x.f x.t x.i HFB.out _).mono ?_; rintro e w3 ⟨rfl, hb3⟩; have HB3 : Hid (Below wc.heap.size wc w3) := Lib.hid (by exact Below.trans (Below.refl _ _).drew hb3); clear hb3)
        | fail)
      all_goals go_wp2_with fail
      all_goals go_meet
      all_goals exact ⟨by rw [HS2.out], rfl, HB3⟩
    case rest =>
      obtain ⟨rfl, rfl, HBD⟩ := hcut
      have HB4 := Lib.hid (HB2.out.trans (HBD.out.mono HB2.out.size))
      have HX13 := Lib.hid (HX12.out.kept HBD.out)
      have HX23 := Lib.hid (HX22.out.kept HBD.out)
      have HF3 := Lib.hid (HF2.out.kept HBD.out)
      have HE3 := Lib.hid (HE.out.kept HBD.out)
      clear p0 p1 p2 p3 x1
      go_wp2_with fail
      go_at_call 44
      refine (l5Text_any s2 HSZ.out _).mono ?_
      rintro e w4 ⟨rfl, hb4⟩
      rw [HFT.out]
      have HB5 := Lib.hid (HB4.out.trans (hb4.mono HB4.out.size))
      have HX14 := Lib.hid (HX13.out.kept hb4)
      have HX24 := Lib.hid (HX23.out.kept hb4)
      have HF4 := Lib.hid (HF3.out.kept hb4)
      have HE4 := Lib.hid (HE3.out.kept hb4)
      clear hb4
      obtain ⟨i0, hi, hz0, hz1, hz2⟩ := info_parts Tryd.infoFile
      have HN : Hid (News ls bb w4) := Lib.hid (news_at HF4.out HL.out)
      go_wp2_with (at_builtin; suffices hgoal : _ ∧ True from hgoal.1)
      refine ⟨?_, trivial⟩
      refine wpList_append_own _ rfl _ _ 23 rfl w4.heap.size 66 i0 _ 2 32 Tryd.underlying23 hi hz0 hz1 hz2 rfl (by omega) (.slice (some ⟨w4.heap.size, 0, none⟩) 0 0) 0 [] rfl (litO w4 (Nat.le_refl _)) ⟨bb, 0, none⟩ L c (cellsF ls) rfl HCL.out (fun j u hj => Lib.cell?_alloc_some _ (HN.out j u hj)) cellsF_one (by unfold maxLen; omega) (by omega) (by rw [World.size_alloc]; omega) ?_
      intro v' w5 hown hgrow hnil
      have hnn := not_nil hnil rfl
      rw [Nat.zero_add, List.nil_append] at hown
      obtain ⟨q, fc, rfl, hO, hq1, hq2⟩ := own_pin hown hnn
      have HO : Hid (FO w5 q (q + 1) (.slice (some ⟨q, 0, none⟩) L fc) ls) := Lib.hid (by unfold FO; rw [HL.out]; exact hO)
      have HBG : Hid (Below w4.heap.size w4 w5) := Lib.hid (((Below.refl _ w4).alloc (Nat.le_refl _) _).grown hgrow (by rw [World.size_alloc]; omega) (fun k hk => by injection hk with hk; exact Nat.le_of_eq hk))
      have HQ := Lib.hid (And.intro (Nat.le_trans HB5.out.size hq1) (And.intro hq2 (And.intro (Nat.lt_of_lt_of_le HX14.out.sz hq1) (And.intro (Nat.lt_of_lt_of_le HX24.out.sz hq1) (Nat.lt_of_lt_of_le HE4.out.sz hq1)))))
      obtain ⟨_, y1, y2⟩ := FO.cellk HO.out HL.out hk
      clear hown hgrow hnil hnn hO hq1 hq2
      have HB6 := Lib.hid (HB5.out.trans (HBG.out.mono HB5.out.size))
      have HX15 := Lib.hid (HX14.out.kept HBG.out)
      have HX25 := Lib.hid (HX24.out.kept HBG.out)
      have HE5 := Lib.hid (HE4.out.kept HBG.out)
      obtain ⟨w6, hw6⟩ : ∃ W, w5.setCell ⟨q, k * 2 + 1, none⟩ (.string s2) = W := ⟨_, rfl⟩
      have hI5 : Inside q (q + 1) w5 w6 := by rw [← hw6]; exact Inside.set w5 _ _ (Nat.le_refl _) (Nat.lt_succ_self _)
      have HF6 : Hid (FO w6 q (q + 1) (.slice (some ⟨q, 0, none⟩) L fc) (upC ls x)) := Lib.hid (by rw [← hw6, HUP.out]; exact HO.out.put HL.out hk s2)
      have HX16 := Lib.hid (HX15.out.inside hI5 (.inl HQ.out.2.2.1))
      have HX26 := Lib.hid (HX25.out.inside hI5 (.inl HQ.out.2.2.2.1))
      have HE6 := Lib.hid (HE5.out.inside hI5 (.inl HQ.out.2.2.2.2))
      have HB7 := Lib.hid (hI5.below HQ.out.1 HB6.out HB6.out.size)
      have HZ6 := Lib.hid hI5.size
      clear hI5
      obtain ⟨p0, p1, p2, p3, _, _, _, _, pz⟩ := HX16.out
      obtain ⟨t0, t1, t2, t3, g0, g1, g2, g3, tz⟩ := HX26.out
      obtain ⟨e0, e1, e2, ez⟩ := HE6.out
      go_wp2_with fail
      try rw [hw6]
      clear hw6 y1 y2
      go_cut [4, 6] (fun a b wx => a = .slice (some ⟨q, 0, none⟩) L fc ∧ b = .bool true ∧ ∃ bf bt bi, Hid (BxC wx (w.heap.size + 1) x.n bf bt bi) ∧ Hid (FO wx q (q + 1) (.slice (some ⟨q, 0, none⟩) L fc) (upC ls x)) ∧ Hid (Below w.heap.size w wx) ∧ Hid (q < wx.heap.size))
      case first =>
        go_region
        all_goals go_wp2_with fail
        all_goals go_meet
        all_goals
          refine ⟨rfl, rfl, x.f, x.f + x.i.size, y.t.extract x.f.toNat x.t.toNat, Lib.hid ⟨by go_simp, by go_simp, by go_simp, by go_simp, by go_simp, by go_simp, by go_simp, by go_simp, by have := HX26.out.sz; simpa using this⟩, Lib.hid ((HF6.out.kept (Below.refl _ _).drew).inside (inside_set4 _ _ _ _ _ _) (.inr (by have := HQ.out; omega))), Lib.hid (below_set4 HB7.out.drew (Nat.le_succ _) _ _ _ _), Lib.hid ?_⟩
          have z2 := HQ.out.2.1
          have z3 := HZ6.out
          simp
          omega
      case rest =>
        obtain ⟨rfl, rfl, bf, bt, bi, HC, HFF, HBB, HQQ⟩ := hcut
        clear p0 p1 p2 p3 t0 t1 t2 t3 g0 g1 g2 g3 e0 e1 e2
        obtain ⟨t0, t1, t2, t3, _, _, _, _, _⟩ := HC.out
        go_wp2_with fail
        exact bodyPost_ret (v := .tuple #[.slice (some ⟨q, 0, none⟩) L fc, .agg #[.string x.n, .int .i64 bf, .int .i64 bt, .string bi], .bool true]) (by simp [results, Tryd.results23, go_sem, t0, t1, t2, t3]) rfl ⟨.inr ⟨HOK.out, q, fc, bf, bt, bi, by rw [HL.out], by rw [HL.out]; exact HFF.out, HQ.out.1, HQQ.out⟩, HBB.out⟩
theorem l11_any (ls : List Fl) (L : Nat) (hL : ls.length = L) (hl : L ≤ 2000000) (hz : FlSz ls) (x : Ch) (hxn : x.n.size ≤ maxLen) (hxi : x.i.size ≤ maxLen) (g c : Nat) (w : World) (h : FsAt w ls (.slice (some ⟨g, 0, none⟩) L c)) :
    Calls Tryd.prog 23 #[.slice (some ⟨g, 0, none⟩) L c, .agg #[.string x.n, .int .i64 x.f, .int .i64 x.t, .string x.i]] w (MdPost ls x w) := by
  rcases fdI_is ls x.n with ⟨hr, _⟩ | ⟨k, hk, hr, _, _⟩
  · exact l11_none ls L hL hl hz x hxn hxi hr g c w h
  · rw [hL] at hk
    rcases hf : fitsB (ls.getD k Fl.dummy).t x.f x.t x.i with _ | _
    · exact l11_unfit ls L hL hl hz x hxn hxi k hr hk _ rfl hf g c w h
    · rcases ht : ftB (ap (ls.getD k Fl.dummy).t x.f x.t x.i) with _ | _
      · exact l11_untext ls L hL hl hz x hxn hxi k hr hk _ rfl hf ht g c w h
      · exact l11_yes ls L hL hl hz x hxn hxi k hr hk _ rfl hf ht g c w h
end Go.Proofs.YtpihopmgckdigaaDoor

