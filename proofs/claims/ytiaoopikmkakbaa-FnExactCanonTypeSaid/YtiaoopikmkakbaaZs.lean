/-
  Under ParseType: a join of two types, the kind of a join, the next byte.
-/
import Derived.Test.YtiaoopikmkakbaaZr
namespace Go.Proofs.Ytiaoopikmkakbaa
open Go.RowKit

set_option maxHeartbeats 1000000 in
theorem l2Node_any (k : Int) (x y : Ty) (vx vy : Value) (lo l h l' h' : Nat) (w : World) (hx : TyIn w l h x vx) (hy : TyIn w l' h' y vy) (hl : lo ≤ l) (hll : lo ≤ l') (hd : h ≤ l') (hh : h ≤ w.heap.size) (hh' : h' ≤ w.heap.size) (hlo : lo ≤ w.heap.size) :
    Calls Try.prog 57 #[.int .i64 k, .agg #[.int .i64 x.k, .int .i64 x.n, vx], .agg #[.int .i64 y.k, .int .i64 y.n, vy]] w fun e w' => ∃ v, e = .returned (.agg #[.int .i64 k, .int .i64 0, v]) ∧ TyIn w' lo w'.heap.size (.node k 0 [x, y]) v ∧ Below w.heap.size w w' := by
  have HX := Lib.hid hx
  have HY := Lib.hid hy
  obtain ⟨ax, cx, rfl, _⟩ := hx.at.slice
  obtain ⟨ay, cy, rfl, _⟩ := hy.at.slice
  obtain ⟨nx, hnx⟩ : ∃ n, x.ks.length = n := ⟨_, rfl⟩
  obtain ⟨ny, hny⟩ : ∃ n, y.ks.length = n := ⟨_, rfl⟩
  obtain ⟨kx, hkx⟩ : ∃ n, x.k = n := ⟨_, rfl⟩
  obtain ⟨ky, hky⟩ : ∃ n, y.k = n := ⟨_, rfl⟩
  obtain ⟨mx, hmx⟩ : ∃ n, x.n = n := ⟨_, rfl⟩
  obtain ⟨my, hmy⟩ : ∃ n, y.n = n := ⟨_, rfl⟩
  have HE := Lib.hid (And.intro hkx (And.intro hky (And.intro hmx hmy)))
  rw [hnx] at HX ⊢
  rw [hny] at HY ⊢
  rw [hkx, hky, hmx, hmy]
  have HLO := Lib.hid (And.intro hl (And.intro hll (And.intro hd (And.intro hh (And.intro hh' hlo)))))
  clear hx hy hkx hky hmx hmy hnx hny hl hll hd hh hh' hlo
  go_enter Try.func57, Try.ntmps57
  go_wp2_with fail
  refine bodyPost_ret (v := .agg #[.int .i64 k, .int .i64 0, .slice (some ⟨w.heap.size + 1 + 1 + 1, 0, none⟩) 2 2]) (by simp [results, Try.results57, go_sem]) rfl ⟨_, rfl, ?_, ?_⟩
  · obtain ⟨e1, e2, e3, e4⟩ := HE.out
    obtain ⟨h1, h2, h3, h4, h5, h6⟩ := HLO.out
    refine TyIn.pair (b := w.heap.size + 1 + 1 + 1) (l := l) (h := h) (l' := l') (h' := h') (vx := .slice ax nx cx) (vy := .slice ay ny cy) (HX.out.kept ?_) (HY.out.kept ?_) (by omega) (by simp) (by simp) (by rw [e1]; go_simp) (by rw [e3]; go_simp) (by go_simp) (by rw [e2]; go_simp) (by rw [e4]; go_simp) (by go_simp) ?_ h1 (by simp; omega) h2 (by simp; omega) (.inr (by omega)) (.inr (by omega)) h3
    · exact ((((Below.refl _ _).alloc (Nat.le_refl _) _).alloc (by simp) _).alloc (by simp; omega) _).alloc (by simp; omega) _
    · exact ((((Below.refl _ _).alloc (Nat.le_refl _) _).alloc (by simp) _).alloc (by simp; omega) _).alloc (by simp; omega) _
    · intro i hi
      rcases (show i = 0 ∨ i = 1 ∨ i = 2 ∨ i = 3 ∨ i = 4 ∨ i = 5 by omega) with rfl | rfl | rfl | rfl | rfl | rfl <;> go_simp
  · exact ((((Below.refl _ _).alloc (Nat.le_refl _) _).alloc (by simp) _).alloc (by simp; omega) _).alloc (by simp; omega) _

set_option maxHeartbeats 1000000 in
theorem joinType_any (k : Int) (x y : Ty) (vx vy : Value) (lo l h l' h' : Nat) (w : World) (hx : TyIn w l h x vx) (hy : TyIn w l' h' y vy) (hl : lo ≤ l) (hll : lo ≤ l') (hd : h ≤ l') (hh : h ≤ w.heap.size) (hh' : h' ≤ w.heap.size) (hlo : lo ≤ w.heap.size) :
    Calls Try.prog 62 #[.int .i64 k, .agg #[.int .i64 x.k, .int .i64 x.n, vx], .agg #[.int .i64 y.k, .int .i64 y.n, vy]] w fun e w' => ∃ v, e = .returned (.agg #[.int .i64 k, .int .i64 0, v]) ∧ TyIn w' lo w'.heap.size (.node k 0 [x, y]) v ∧ Below w.heap.size w w' := by
  have HX := Lib.hid hx
  have HY := Lib.hid hy
  obtain ⟨ax, cx, rfl, _⟩ := hx.at.slice
  obtain ⟨ay, cy, rfl, _⟩ := hy.at.slice
  obtain ⟨nx, hnx⟩ : ∃ n, x.ks.length = n := ⟨_, rfl⟩
  obtain ⟨ny, hny⟩ : ∃ n, y.ks.length = n := ⟨_, rfl⟩
  obtain ⟨kx, hkx⟩ : ∃ n, x.k = n := ⟨_, rfl⟩
  obtain ⟨ky, hky⟩ : ∃ n, y.k = n := ⟨_, rfl⟩
  obtain ⟨mx, hmx⟩ : ∃ n, x.n = n := ⟨_, rfl⟩
  obtain ⟨my, hmy⟩ : ∃ n, y.n = n := ⟨_, rfl⟩
  have HE := Lib.hid (And.intro hkx (And.intro hky (And.intro hmx hmy)))
  rw [hnx] at HX ⊢
  rw [hny] at HY ⊢
  rw [hkx, hky, hmx, hmy]
  have HLO := Lib.hid (And.intro hl (And.intro hll (And.intro hd (And.intro hh (And.intro hh' hlo)))))
  clear hx hy hkx hky hmx hmy hnx hny hl hll hd hh hh' hlo
  go_enter Try.func62, Try.ntmps62
  go_wp2_with fail
  refine bodyPost_ret (v := .agg #[.int .i64 k, .int .i64 0, .slice (some ⟨w.heap.size + 1 + 1 + 1, 0, none⟩) 2 2]) (by simp [results, Try.results62, go_sem]) rfl ⟨_, rfl, ?_, ?_⟩
  · obtain ⟨e1, e2, e3, e4⟩ := HE.out
    obtain ⟨h1, h2, h3, h4, h5, h6⟩ := HLO.out
    refine TyIn.pair (b := w.heap.size + 1 + 1 + 1) (l := l) (h := h) (l' := l') (h' := h') (vx := .slice ax nx cx) (vy := .slice ay ny cy) (HX.out.kept ?_) (HY.out.kept ?_) (by omega) (by simp) (by simp) (by rw [e1]; go_simp) (by rw [e3]; go_simp) (by go_simp) (by rw [e2]; go_simp) (by rw [e4]; go_simp) (by go_simp) ?_ h1 (by simp; omega) h2 (by simp; omega) (.inr (by omega)) (.inr (by omega)) h3
    · exact ((((Below.refl _ _).alloc (Nat.le_refl _) _).alloc (by simp) _).alloc (by simp; omega) _).alloc (by simp; omega) _
    · exact ((((Below.refl _ _).alloc (Nat.le_refl _) _).alloc (by simp) _).alloc (by simp; omega) _).alloc (by simp; omega) _
    · intro i hi
      rcases (show i = 0 ∨ i = 1 ∨ i = 2 ∨ i = 3 ∨ i = 4 ∨ i = 5 by omega) with rfl | rfl | rfl | rfl | rfl | rfl <;> go_simp
  · exact ((((Below.refl _ _).alloc (Nat.le_refl _) _).alloc (by simp) _).alloc (by simp; omega) _).alloc (by simp; omega) _

theorem joinKind_fun (w : World) : Calls Try.prog 65 #[.int .u8 62] w fun e w' => e = .returned (.tuple #[.int .i64 2, .bool true]) ∧ w' = w := by
  go_enter Try.func65, Try.ntmps65
  go_wp2_with fail
  exact bodyPost_ret (v := .tuple #[.int .i64 2, .bool true]) (by simp [results, Try.results65, go_sem]) rfl ⟨rfl, rfl⟩
theorem joinKind_pair (w : World) : Calls Try.prog 65 #[.int .u8 42] w fun e w' => e = .returned (.tuple #[.int .i64 3, .bool true]) ∧ w' = w := by
  go_enter Try.func65, Try.ntmps65
  go_wp2_with fail
  exact bodyPost_ret (v := .tuple #[.int .i64 3, .bool true]) (by simp [results, Try.results65, go_sem]) rfl ⟨rfl, rfl⟩
theorem joinKind_no (c : Int) (h1 : c ≠ 62) (h2 : c ≠ 42) (w : World) : Calls Try.prog 65 #[.int .u8 c] w fun e w' => e = .returned (.tuple #[.int .i64 0, .bool false]) ∧ w' = w := by
  have e1 : (c == 62) = false := by simpa using h1
  have e2 : (c == 42) = false := by simpa using h2
  clear h1 h2
  go_enter Try.func65, Try.ntmps65
  go_wp2_with fail
  exact bodyPost_ret (v := .tuple #[.int .i64 0, .bool false]) (by simp [results, Try.results65, go_sem]) rfl ⟨rfl, rfl⟩

/-- Where the parser stands. -/
structure PAt (w : World) (p : Nat) (s : ByteArray) (i : Nat) : Prop where
  c0 : w.cell? ⟨p, 0, none⟩ = some (.string s)
  c1 : w.cell? ⟨p, 1, none⟩ = some (.int .i64 (i : Int))
  f1 : w.frozen? ⟨p, 1, none⟩ = false
  sz : p < w.heap.size
theorem PAt.kept {w w' : World} {p : Nat} {s : ByteArray} {i : Nat} (h : PAt w p s i) (hb : Below w.heap.size w w') : PAt w' p s i :=
  ⟨(hb.cell (p := ⟨p, 0, none⟩) h.sz).trans h.c0, (hb.cell (p := ⟨p, 1, none⟩) h.sz).trans h.c1, (hb.frozen (p := ⟨p, 1, none⟩) h.sz).trans h.f1, Nat.lt_of_lt_of_le h.sz hb.size⟩
theorem PAt.set {w : World} {p : Nat} {s : ByteArray} {i : Nat} (h : PAt w p s i) (j : Nat) : PAt (w.setCell ⟨p, 1, none⟩ (.int .i64 (j : Int))) p s j :=
  ⟨(World.cell?_setCell_other _ _ _ _ (fun e => by injection e with _ e2 _; omega)).trans h.c0, World.cell?_setCell_same' _ _ _ (by rw [h.c1]; rfl), by rw [World.frozen?_setCell]; exact h.f1, by simpa using h.sz⟩
theorem Inside.of_below {lo hi : Nat} {w w' : World} (h : Below w.heap.size w w') : Inside lo hi w w' := ⟨h.os, h.tape, h.output, h.size, fun x hx _ => h.block x hx⟩
theorem next_done {w wd : World} {p i : Nat} {s : ByteArray} (hp : PAt w p s i) (hb : Below w.heap.size w wd) :
    PAt (wd.setCell ⟨p, 1, none⟩ (.int .i64 ((i : Int) + 1))) p s (i + 1) ∧ Inside p (p + 1) w (wd.setCell ⟨p, 1, none⟩ (.int .i64 ((i : Int) + 1))) := by
  have h1 := (hp.kept hb).set (i + 1)
  push_cast at h1
  exact ⟨h1, (Inside.of_below hb).trans (Inside.set wd 1 _ (Nat.le_refl _) (Nat.lt_succ_self _))⟩
/-- What next leaves: it has drawn, or moved on. -/
theorem next_end (p : Nat) (s : ByteArray) (w : World) (hp : PAt w p s s.size) :
    Calls Try.prog 58 #[.pointer (some ⟨p, 0, none⟩)] w fun e w' => e = .returned (.int .u8 0) ∧ PAt w' p s s.size ∧ Inside p (p + 1) w w' := by
  have HP := Lib.hid hp
  obtain ⟨p0, p1, pf, psz⟩ := hp
  go_enter Try.func58, Try.ntmps58
  go_wp2_with fail
  go_quiet (fail)
  all_goals go_wp2_with fail
  all_goals go_ret
  all_goals exact ⟨rfl, HP.out.kept (by first | exact Below.refl _ _ | exact (Below.refl _ _).drew | exact below_drewN (Below.refl _ _) _), Inside.of_below (by first | exact Below.refl _ _ | exact (Below.refl _ _).drew | exact below_drewN (Below.refl _ _) _)⟩
theorem next_in (p : Nat) (s : ByteArray) (i : Nat) (w : World) (hp : PAt w p s i) (hi : i < s.size) (hs : s.size ≤ 1048576) :
    Calls Try.prog 58 #[.pointer (some ⟨p, 0, none⟩)] w fun e w' => e = .returned (.int .u8 (by8 s i)) ∧ PAt w' p s (i + 1) ∧ Inside p (p + 1) w w' := by
  have HP := Lib.hid hp
  obtain ⟨p0, p1, pf, psz⟩ := hp
  have h1 : ((i : Int) == (s.size : Int)) = false := by simp; omega
  have r1 := by8_idx Try.prog 9 Try.underlying9 hi
  go_enter Try.func58, Try.ntmps58
  go_wp2_with fail
  go_quiet (fail)
  all_goals go_wp2_with fail
  all_goals go_quiet (fail)
  all_goals go_wp2_with fail
  all_goals go_ret
  all_goals exact ⟨rfl, next_done HP.out (by first | exact Below.refl _ _ | exact (Below.refl _ _).drew | exact below_drewN (Below.refl _ _) _)⟩

end Go.Proofs.Ytiaoopikmkakbaa
