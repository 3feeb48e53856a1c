/-
  Leaves and joins of types, results in boxes: what the texts behind need where no parser of types is translated.
-/
import Derived.Test.YtjciindcdcgclaaZj
import Derived.Test.YtjciindcdcgclaaZq
import Derived.Test.YtjciindcdcgclaaZh
import Derived.Test.YtjciindcdcgclaaZg
import Derived.Deep.RegionHeld3
import Derived.Deep.RegionWith
import Derived.Deep.DeepCutAuto
import Derived.BigQuiet
namespace Go.Proofs.Ytjciindcdcgclaa
open Go.RowKit
set_option linter.unusedVariables false
set_option linter.unusedSimpArgs false
/-- A type has come back, in blocks of its own. -/
def TyRet (t : Ty) (w : World) (e : Ending) (w' : World) : Prop := ∃ v, e = .returned (.agg #[.int .i64 t.k, .int .i64 t.n, v]) ∧ TyIn w' w.heap.size w'.heap.size t v ∧ Below w.heap.size w w'
theorem l2Num_any (w : World) : Calls Try.prog 66 #[] w (TyRet (.node 1 0 []) w) := by
  go_enter Try.func66, Try.ntmps66
  go_wp2_with fail
  refine bodyPost_ret (v := .agg #[.int .i64 1, .int .i64 0, .slice none 0 0]) (by simp [results, Try.results66, go_sem]) rfl ⟨_, rfl, .bare _ _ _ _ _ _, ?_⟩
  exact (Below.refl _ _).alloc (Nat.le_refl _) _
theorem l2Var_any (n : Int) (w : World) : Calls Try.prog 128 #[.int .i64 n] w (TyRet (.node 4 n []) w) := by
  go_enter Try.func128, Try.ntmps128
  go_wp2_with fail
  refine bodyPost_ret (v := .agg #[.int .i64 4, .int .i64 n, .slice none 0 0]) (by simp [results, Try.results128, go_sem]) rfl ⟨_, rfl, .bare _ _ _ _ _ _, ?_⟩
  exact (Below.refl _ _).alloc (Nat.le_refl _) _
theorem varType_any (n : Int) (w : World) : Calls Try.prog 73 #[.int .i64 n] w (TyRet (.node 4 n []) w) := by
  go_enter Try.func73, Try.ntmps73
  go_wp2_with fail
  refine bodyPost_ret (v := .agg #[.int .i64 4, .int .i64 n, .slice none 0 0]) (by simp [results, Try.results73, go_sem]) rfl ⟨_, rfl, .bare _ _ _ _ _ _, ?_⟩
  exact (Below.refl _ _).alloc (Nat.le_refl _) _
set_option maxRecDepth 100000 in
set_option maxHeartbeats 1000000 in
theorem l2Node_any (k : Int) (x y : Ty) (vx vy : Value) (lo l h l' h' : Nat) (w : World) (hx : TyIn w l h x vx) (hy : TyIn w l' h' y vy) (hl : lo ≤ l) (hll : lo ≤ l') (hd : h ≤ l') (hh : h ≤ w.heap.size) (hh' : h' ≤ w.heap.size) (hlo : lo ≤ w.heap.size) :
    Calls Try.prog 106 #[.int .i64 k, .agg #[.int .i64 x.k, .int .i64 x.n, vx], .agg #[.int .i64 y.k, .int .i64 y.n, vy]] w fun e w' => ∃ v, e = .returned (.agg #[.int .i64 k, .int .i64 0, v]) ∧ TyIn w' lo w'.heap.size (.node k 0 [x, y]) v ∧ Below w.heap.size w w' := by
  have HX := Lib.hid hx
  have HY := Lib.hid hy
  obtain ⟨ax, cx, rfl, _⟩ := hx.at.slice
  obtain ⟨ay, cy, rfl, _⟩ := hy.at.slice
  obtain ⟨nx, hnx⟩ : ∃ n, x.ks.length = n := ⟨_, rfl⟩
  obtain ⟨ny, hny⟩ : ∃ n, y.ks.length = n := ⟨_, rfl⟩
  obtain ⟨kx, hkx⟩ : ∃ n, x.k = n := ⟨_, rfl⟩
  obtain ⟨ky, hky⟩ : ∃ n, y.k = n := ⟨_, rfl⟩
  obtain ⟨mx, hmx⟩ : ∃ n, x.n = n := ⟨_, rfl⟩
  obtain ⟨my, hmy⟩ : ∃ n, y.n = n := ⟨_, rfl⟩
  have HE := Lib.hid (And.intro hkx (And.intro hky (And.intro hmx hmy)))
  rw [hnx] at HX ⊢
  rw [hny] at HY ⊢
  rw [hkx, hky, hmx, hmy]
  have HLO := Lib.hid (And.intro hl (And.intro hll (And.intro hd (And.intro hh (And.intro hh' hlo)))))
  clear hx hy hkx hky hmx hmy hnx hny hl hll hd hh hh' hlo
  go_enter Try.func106, Try.ntmps106
  go_wp2_with fail
  refine bodyPost_ret (v := .agg #[.int .i64 k, .int .i64 0, .slice (some ⟨w.heap.size + 1 + 1 + 1, 0, none⟩) 2 2]) (by simp [results, Try.results106, go_sem]) rfl ⟨_, rfl, ?_, ?_⟩
  · obtain ⟨e1, e2, e3, e4⟩ := HE.out
    obtain ⟨h1, h2, h3, h4, h5, h6⟩ := HLO.out
    refine TyIn.pair (b := w.heap.size + 1 + 1 + 1) (l := l) (h := h) (l' := l') (h' := h') (vx := .slice ax nx cx) (vy := .slice ay ny cy) (HX.out.kept ?_) (HY.out.kept ?_) (by omega) (by simp) (row_at (by simp)) (by rw [e1]; go_simp) (by rw [e3]; go_simp) (by go_simp) (by rw [e2]; go_simp) (by rw [e4]; go_simp) (by go_simp) ?_ h1 (by simp; omega) h2 (by simp; omega) (.inr (by omega)) (.inr (by omega)) h3
    · exact ((((Below.refl _ _).alloc (Nat.le_refl _) _).alloc (by simp) _).alloc (by simp; omega) _).alloc (by simp; omega) _
    · exact ((((Below.refl _ _).alloc (Nat.le_refl _) _).alloc (by simp) _).alloc (by simp; omega) _).alloc (by simp; omega) _
    · intro i hi
      rcases (show i = 0 ∨ i = 1 ∨ i = 2 ∨ i = 3 ∨ i = 4 ∨ i = 5 by omega) with rfl | rfl | rfl | rfl | rfl | rfl <;> go_simp
  · exact ((((Below.refl _ _).alloc (Nat.le_refl _) _).alloc (by simp) _).alloc (by simp; omega) _).alloc (by simp; omega) _
set_option maxRecDepth 100000 in
set_option maxHeartbeats 1000000 in
theorem joinType_any (k : Int) (x y : Ty) (vx vy : Value) (lo l h l' h' : Nat) (w : World) (hx : TyIn w l h x vx) (hy : TyIn w l' h' y vy) (hl : lo ≤ l) (hll : lo ≤ l') (hd : h ≤ l') (hh : h ≤ w.heap.size) (hh' : h' ≤ w.heap.size) (hlo : lo ≤ w.heap.size) :
    Calls Try.prog 109 #[.int .i64 k, .agg #[.int .i64 x.k, .int .i64 x.n, vx], .agg #[.int .i64 y.k, .int .i64 y.n, vy]] w fun e w' => ∃ v, e = .returned (.agg #[.int .i64 k, .int .i64 0, v]) ∧ TyIn w' lo w'.heap.size (.node k 0 [x, y]) v ∧ Below w.heap.size w w' := by
  have HX := Lib.hid hx
  have HY := Lib.hid hy
  obtain ⟨ax, cx, rfl, _⟩ := hx.at.slice
  obtain ⟨ay, cy, rfl, _⟩ := hy.at.slice
  obtain ⟨nx, hnx⟩ : ∃ n, x.ks.length = n := ⟨_, rfl⟩
  obtain ⟨ny, hny⟩ : ∃ n, y.ks.length = n := ⟨_, rfl⟩
  obtain ⟨kx, hkx⟩ : ∃ n, x.k = n := ⟨_, rfl⟩
  obtain ⟨ky, hky⟩ : ∃ n, y.k = n := ⟨_, rfl⟩
  obtain ⟨mx, hmx⟩ : ∃ n, x.n = n := ⟨_, rfl⟩
  obtain ⟨my, hmy⟩ : ∃ n, y.n = n := ⟨_, rfl⟩
  have HE := Lib.hid (And.intro hkx (And.intro hky (And.intro hmx hmy)))
  rw [hnx] at HX ⊢
  rw [hny] at HY ⊢
  rw [hkx, hky, hmx, hmy]
  have HLO := Lib.hid (And.intro hl (And.intro hll (And.intro hd (And.intro hh (And.intro hh' hlo)))))
  clear hx hy hkx hky hmx hmy hnx hny hl hll hd hh hh' hlo
  go_enter Try.func109, Try.ntmps109
  go_wp2_with fail
  refine bodyPost_ret (v := .agg #[.int .i64 k, .int .i64 0, .slice (some ⟨w.heap.size + 1 + 1 + 1, 0, none⟩) 2 2]) (by simp [results, Try.results109, go_sem]) rfl ⟨_, rfl, ?_, ?_⟩
  · obtain ⟨e1, e2, e3, e4⟩ := HE.out
    obtain ⟨h1, h2, h3, h4, h5, h6⟩ := HLO.out
    refine TyIn.pair (b := w.heap.size + 1 + 1 + 1) (l := l) (h := h) (l' := l') (h' := h') (vx := .slice ax nx cx) (vy := .slice ay ny cy) (HX.out.kept ?_) (HY.out.kept ?_) (by omega) (by simp) (row_at (by simp)) (by rw [e1]; go_simp) (by rw [e3]; go_simp) (by go_simp) (by rw [e2]; go_simp) (by rw [e4]; go_simp) (by go_simp) ?_ h1 (by simp; omega) h2 (by simp; omega) (.inr (by omega)) (.inr (by omega)) h3
    · exact ((((Below.refl _ _).alloc (Nat.le_refl _) _).alloc (by simp) _).alloc (by simp; omega) _).alloc (by simp; omega) _
    · exact ((((Below.refl _ _).alloc (Nat.le_refl _) _).alloc (by simp) _).alloc (by simp; omega) _).alloc (by simp; omega) _
    · intro i hi
      rcases (show i = 0 ∨ i = 1 ∨ i = 2 ∨ i = 3 ∨ i = 4 ∨ i = 5 by omega) with rfl | rfl | rfl | rfl | rfl | rfl <;> go_simp
  · exact ((((Below.refl _ _).alloc (Nat.le_refl _) _).alloc (by simp) _).alloc (by simp; omega) _).alloc (by simp; omega) _
theorem Inside.of_below {lo hi : Nat} {w w' : World} (h : Below w.heap.size w w') : Inside lo hi w w' := ⟨h.os, h.tape, h.output, h.size, fun x hx _ => h.block x hx⟩
/-- A result's cells, still empty. -/
structure RB (w : World) (B : Nat) : Prop where
  c0 : w.cell? ⟨B, 0, none⟩ = some (.int .i64 0)
  c1 : w.cell? ⟨B, 1, none⟩ = some (.int .i64 0)
  c2 : w.cell? ⟨B, 2, none⟩ = some (.slice none 0 0)
  f0 : w.frozen? ⟨B, 0, none⟩ = false
  f1 : w.frozen? ⟨B, 1, none⟩ = false
  f2 : w.frozen? ⟨B, 2, none⟩ = false
  sz : B < w.heap.size
theorem RB.keep {w w' : World} {B : Nat} (h : RB w B) (hs : w.heap.size ≤ w'.heap.size) (hb : w'.heap[B]? = w.heap[B]?) : RB w' B :=
  ⟨(cellEq hb).trans h.c0, (cellEq hb).trans h.c1, (cellEq hb).trans h.c2, (frozenEq hb).trans h.f0, (frozenEq hb).trans h.f1, (frozenEq hb).trans h.f2, Nat.lt_of_lt_of_le h.sz hs⟩
theorem RB.kept {w w' : World} {B : Nat} (h : RB w B) (hb : Below w.heap.size w w') : RB w' B := h.keep hb.size (hb.block B h.sz)
theorem rb_new (w : World) (T : TypeId) : RB (w.alloc (.cells #[.int .i64 0, .int .i64 0, .slice none 0 0] T)) w.heap.size := ⟨by go_simp, by go_simp, by go_simp, by go_simp, by go_simp, by go_simp, by simp⟩
theorem res_below {w W : World} (h : Below w.heap.size w W) (x y z : Value) : Below w.heap.size w (((W.setCell ⟨w.heap.size, 0, none⟩ x).setCell ⟨w.heap.size, 1, none⟩ y).setCell ⟨w.heap.size, 2, none⟩ z) :=
  ((h.setCell (p := ⟨w.heap.size, 0, none⟩) (Nat.le_refl _) _).setCell (p := ⟨w.heap.size, 1, none⟩) (Nat.le_refl _) _).setCell (p := ⟨w.heap.size, 2, none⟩) (Nat.le_refl _) _
theorem res_ty {w W : World} {B : Nat} {t : Ty} {v : Value} (h : TyIn W (B + 1) W.heap.size t v) (hB : w.heap.size ≤ B) (x y z : Value) :
    TyIn (((W.setCell ⟨B, 0, none⟩ x).setCell ⟨B, 1, none⟩ y).setCell ⟨B, 2, none⟩ z) w.heap.size (((W.setCell ⟨B, 0, none⟩ x).setCell ⟨B, 1, none⟩ y).setCell ⟨B, 2, none⟩ z).heap.size t v := by
  refine TyIn.wide (h.keep (by simp) (fun b h1 _ _ => ?_)) (by omega) (by simp)
  rw [heap_setCell_other _ ⟨B, 2, none⟩ b _ (by show b ≠ B; omega), heap_setCell_other _ ⟨B, 1, none⟩ b _ (by show b ≠ B; omega), heap_setCell_other _ ⟨B, 0, none⟩ b _ (by show b ≠ B; omega)]
theorem sizeA (w : World) (o : Obj) : (w.alloc o).heap.size = w.heap.size + 1 := by simp
theorem RB.inside {w w' : World} {B p : Nat} (h : RB w B) (hI : Inside p (p + 1) w w') (hp : p < B) : RB w' B := h.keep hI.size (hI.block B h.sz (.inr (by omega)))
theorem box_inside {w w1 w2 : World} {B p : Nat} {x y z : Value} (h : w1.cell? ⟨B, 0, none⟩ = some x ∧ w1.cell? ⟨B, 1, none⟩ = some y ∧ w1.cell? ⟨B, 2, none⟩ = some z) (hI : Inside p (p + 1) w1 w2) (hp : p < B) (hB : B < w1.heap.size) :
    w2.cell? ⟨B, 0, none⟩ = some x ∧ w2.cell? ⟨B, 1, none⟩ = some y ∧ w2.cell? ⟨B, 2, none⟩ = some z := by
  have e := hI.block B hB (.inr (by omega))
  exact ⟨(cellEq e).trans h.1, (cellEq e).trans h.2.1, (cellEq e).trans h.2.2⟩
theorem box_new (w : World) (x y z : Value) (T : TypeId) : (w.alloc (.cells #[x, y, z] T)).cell? ⟨w.heap.size, 0, none⟩ = some x ∧ (w.alloc (.cells #[x, y, z] T)).cell? ⟨w.heap.size, 1, none⟩ = some y ∧ (w.alloc (.cells #[x, y, z] T)).cell? ⟨w.heap.size, 2, none⟩ = some z := ⟨by go_simp, by go_simp, by go_simp⟩
theorem TyIn.inside {w w' : World} {lo hi p : Nat} {t : Ty} {v : Value} (h : TyIn w lo hi t v) (hI : Inside p (p + 1) w w') (hp : p < lo) : TyIn w' lo hi t v :=
  h.keep hI.size (fun b h1 _ h3 => hI.block b h3 (.inr (by omega)))
/-- A type and whether there is one. -/
def OptRet : Option Ty → World → Ending → World → Prop
  | some t, w, e, w' => ∃ v, e = .returned (.tuple #[.agg #[.int .i64 t.k, .int .i64 t.n, v], .bool true]) ∧ TyIn w' w.heap.size w'.heap.size t v ∧ Below w.heap.size w w'
  | none, w, e, w' => e = .returned (.tuple #[.agg #[.int .i64 0, .int .i64 0, .slice none 0 0], .bool false]) ∧ Below w.heap.size w w'
theorem RB.below {w w' : World} {B : Nat} (h : RB w B) (hb : Below w.heap.size w w') : RB w' B := h.kept hb
theorem cnt_shp : ∀ (d : Nat) (t : Ty), shp d t = true → Cnt t (nd d t - 1) := by
  intro d
  induction d with
  | zero => intro t h; cases h
  | succ d ih =>
    intro t h
    obtain ⟨_, hk⟩ := shp_iff.1 h
    have e : nd (d + 1) t - 1 = t.ks.length + ((List.range t.ks.length).map fun i => nd d (t.ks.getD i Ty.dummy) - 1).sum := by
      rw [nd_succ]
      have key : ∀ j, ndk d t j = j + ((List.range j).map fun i => nd d (t.ks.getD i Ty.dummy) - 1).sum := by
        intro j
        induction j with
        | zero => rfl
        | succ j ihj =>
          rw [ndk_succ, sum_succ, ihj]
          have := nd_pos d (t.ks.getD j Ty.dummy)
          omega
      rw [key]; omega
    rw [e]
    cases t with
    | node k n ks => exact .node k n ks _ (fun i hi => ih _ (hk i hi))
theorem cnt_valid {t : Ty} (h : tvT t = true) : ∃ c, Cnt t c ∧ c ≤ 62 := by
  unfold tvT at h
  simp only [Bool.and_eq_true, decide_eq_true_eq] at h
  exact ⟨_, cnt_shp 16 t h.1, by omega⟩
/-- The type that comes with 'some', or the zero value. -/
def optT : Option Ty → Ty
  | some t => t
  | none => .node 0 0 []
theorem OptRet.flat {r : Option Ty} {w : World} {e : Ending} {w' : World} (h : OptRet r w e w') : ∃ v, e = .returned (.tuple #[.agg #[.int .i64 (optT r).k, .int .i64 (optT r).n, v], .bool r.isSome]) ∧ TyIn w' w.heap.size w'.heap.size (optT r) v ∧ Below w.heap.size w w' := by
  cases r with
  | none => exact ⟨_, h.1, .bare _ _ _ _ _ _, h.2⟩
  | some t => exact h
theorem TBox.away {w w' : World} {B lo hi : Nat} {x y z : Value} (h : TBox w B x y z) (hI : Inside lo hi w w') (hB : B < lo ∨ hi ≤ B) : TBox w' B x y z := by
  have e := hI.block B h.sz hB
  exact ⟨(cellEq e).trans h.c0, (cellEq e).trans h.c1, (cellEq e).trans h.c2, Nat.lt_of_lt_of_le h.sz hI.size⟩
theorem TyIn.apart {w w' : World} {lo hi l h : Nat} {t : Ty} {v : Value} (hx : TyIn w l h t v) (hI : Inside lo hi w w') (hd : h ≤ lo ∨ hi ≤ l) : TyIn w' l h t v :=
  hx.keep hI.size (fun b h1 h2 h3 => hI.block b h3 (by omega))
end Go.Proofs.Ytjciindcdcgclaa
