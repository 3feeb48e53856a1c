/-
  The text of a type read: the plain parser, and the small functions under ParseType of the program and of the model.
  Under ParseType: a join of two types, the kind of a join, the next byte.
  l2Parse of the model: the type at an offset.
  l2Parse of the model: two types joined.
  l2Parse of the model for every text; parse of the program: the leaves.
  parseJoin of the program, and so parse for every text.
  FormatType of the program and of the model: for every type in memory, its text; what was in memory stays.
  FormatType of the program and of the model: for every type in memory, its text, or the empty one if it is not valid; what was in memory stays.
  ParseType of the model and of the program.
  The exact laws' marks in a type that lies in blocks of its own, and that they are held.
  The exact laws' marks: heldTypeS finds them.
  Plain facts for the laws on functions that return a type: how many nodes lie below a valid type's root, one form for both results.
-/
import Derived.Test.YtlgbkhkmfgdehaaZe
import Derived.Test.YtlgbkhkmfgdehaaZo
import Derived.Laws.IdiomStrings
import Derived.Laws.Concat
import Derived.Maps.AppendAt
import Derived.BigQuiet
import Derived.Deep.RegionHeld3
import Derived.Deep.DeepCutAuto
import Derived.Test.YtlgbkhkmfgdehaaZh
import Derived.Test.YtlgbkhkmfgdehaaZg
namespace Go.Proofs.Ytlgbkhkmfgdehaa
open Go.RowKit

/-- The byte at an offset, 0 at the end. -/
def by8 (s : ByteArray) (i : Nat) : Int := if h : i < s.size then (s[i].toNat : Int) else 0
theorem by8_in {s : ByteArray} {i : Nat} (h : i < s.size) : by8 s i = (s[i].toNat : Int) := by unfold by8; rw [dif_pos h]
theorem by8_end {s : ByteArray} {i : Nat} (h : ¬ i < s.size) : by8 s i = 0 := by unfold by8; rw [dif_neg h]
theorem by8_idx (P : Program) (T : TypeId) (h : P.underlying T = some .string) {s : ByteArray} {i : Nat} (hi : i < s.size) (w : World) :
    (Instr.index T (.string s) (.int .i64 (i : Int))).run P w = .ok (.int .u8 (by8 s i)) w := by
  have ht : ((i : Int)).toNat = i := by omega
  rw [run_index_string _ _ _ _ _ h, dif_pos ⟨by omega, by omega⟩, by8_in hi]
  simp only [ht]
/-- The type at an offset, no deeper than d, and the offset after it. -/
def prs (s : ByteArray) : Nat → Nat → Option (Ty × Nat)
  | 0, _ => none
  | d + 1, i =>
    if i < s.size then
      if by8 s i = 73 then some (.node 1 0 [], i + 1)
      else if 97 ≤ by8 s i ∧ by8 s i ≤ 122 then some (.node 4 (by8 s i - 97) [], i + 1)
      else if by8 s i = 40 then
        match prs s d (i + 1) with
        | none => none
        | some (a, n) =>
          if by8 s n = 42 ∨ by8 s n = 62 then
            match prs s d (n + 1) with
            | none => none
            | some (b, m) => if by8 s m = 41 then some (.node (if by8 s n = 42 then 3 else 2) 0 [a, b], m + 1) else none
          else none
      else none
    else none
theorem prs_le (s : ByteArray) : ∀ (d i : Nat) (t : Ty) (n : Nat), prs s d i = some (t, n) → n ≤ s.size := by
  intro d
  induction d with
  | zero => intro i t n h; cases h
  | succ d ih =>
    intro i t n h
    rw [prs] at h
    split at h
    · rename_i hi
      split at h
      · injection h with h; injection h with _ h; omega
      split at h
      · injection h with h; injection h with _ h; omega
      split at h
      · split at h
        · cases h
        split at h
        · split at h
          · cases h
          · split at h
            · rename_i hm
              injection h with h; injection h with _ h
              by_cases hh : n - 1 < s.size
              · omega
              · exfalso
                rename_i m _ _
                have : by8 s (n - 1) = 41 := by rw [← h]; exact hm
                rw [by8_end hh] at this; omega
            · cases h
        · cases h
      · cases h
    · cases h
/-- Whether a byte stands at an offset. -/
def sgn (s : ByteArray) (i : Nat) (c : Int) : Bool := decide (i < s.size) && (by8 s i == c)
theorem sgn_is {s : ByteArray} {i : Nat} {c : Int} (hc : c ≠ 0) : sgn s i c = (by8 s i == c) := by
  unfold sgn
  by_cases h : i < s.size
  · simp [h]
  · rw [by8_end h]; simp [h]; omega


theorem l2Sign_y (s : ByteArray) (i : Nat) (c : Int) (w : World) (h : i < s.size) (hb : (by8 s i == c) = true) :
    Calls Try.prog 75 #[.string s, .int .i64 (i : Int), .int .u8 c] w fun e w' => e = .returned (.bool true) ∧ w' = w := by
  have h1 : (i : Int) < (s.size : Int) := by omega
  have h0 : ¬ (i : Int) < 0 := by omega
  have r1 := by8_idx Try.prog 9 Try.underlying9 h
  clear h
  go_enter Try.func75, Try.ntmps75
  go_wp2_with fail
  go_ret
  exact ⟨rfl, rfl⟩

theorem l2Sign_n (s : ByteArray) (i : Nat) (c : Int) (w : World) (h : i < s.size) (hb : (by8 s i == c) = false) :
    Calls Try.prog 75 #[.string s, .int .i64 (i : Int), .int .u8 c] w fun e w' => e = .returned (.bool false) ∧ w' = w := by
  have h1 : (i : Int) < (s.size : Int) := by omega
  have h0 : ¬ (i : Int) < 0 := by omega
  have r1 := by8_idx Try.prog 9 Try.underlying9 h
  clear h
  go_enter Try.func75, Try.ntmps75
  go_wp2_with fail
  go_ret
  exact ⟨rfl, rfl⟩

theorem l2Sign_e (s : ByteArray) (i : Nat) (c : Int) (w : World) (h : ¬ i < s.size) :
    Calls Try.prog 75 #[.string s, .int .i64 (i : Int), .int .u8 c] w fun e w' => e = .returned (.bool false) ∧ w' = w := by
  have h1 : ¬ (i : Int) < (s.size : Int) := by omega
  have h0 : ¬ (i : Int) < 0 := by omega
  clear h
  go_enter Try.func75, Try.ntmps75
  go_wp2_with fail
  go_ret
  exact ⟨rfl, rfl⟩

theorem l2Sign_any (s : ByteArray) (i : Nat) (c : Int) (b : Bool) (hc : c ≠ 0) (hb : (by8 s i == c) = b) (w : World) :
    Calls Try.prog 75 #[.string s, .int .i64 (i : Int), .int .u8 c] w fun e w' => e = .returned (.bool b) ∧ w' = w := by
  by_cases h : i < s.size
  · cases b with
    | true => exact l2Sign_y s i c w h hb
    | false => exact l2Sign_n s i c w h hb
  · have hb' : b = false := by rw [← hb, by8_end h]; simp; omega
    subst hb'
    exact l2Sign_e s i c w h

/-- A type has come back, in blocks of its own. -/
def TyRet (t : Ty) (w : World) (e : Ending) (w' : World) : Prop := ∃ v, e = .returned (.agg #[.int .i64 t.k, .int .i64 t.n, v]) ∧ TyIn w' w.heap.size w'.heap.size t v ∧ Below w.heap.size w w'

theorem l2Num_any (w : World) : Calls Try.prog 52 #[] w (TyRet (.node 1 0 []) w) := by
  go_enter Try.func52, Try.ntmps52
  go_wp2_with fail
  refine bodyPost_ret (v := .agg #[.int .i64 1, .int .i64 0, .slice none 0 0]) (by simp [results, Try.results52, go_sem]) rfl ⟨_, rfl, .bare _ _ _ _ _ _, ?_⟩
  exact (Below.refl _ _).alloc (Nat.le_refl _) _

theorem l2Var_any (n : Int) (w : World) : Calls Try.prog 110 #[.int .i64 n] w (TyRet (.node 4 n []) w) := by
  go_enter Try.func110, Try.ntmps110
  go_wp2_with fail
  refine bodyPost_ret (v := .agg #[.int .i64 4, .int .i64 n, .slice none 0 0]) (by simp [results, Try.results110, go_sem]) rfl ⟨_, rfl, .bare _ _ _ _ _ _, ?_⟩
  exact (Below.refl _ _).alloc (Nat.le_refl _) _

theorem varType_any (n : Int) (w : World) : Calls Try.prog 59 #[.int .i64 n] w (TyRet (.node 4 n []) w) := by
  go_enter Try.func59, Try.ntmps59
  go_wp2_with fail
  refine bodyPost_ret (v := .agg #[.int .i64 4, .int .i64 n, .slice none 0 0]) (by simp [results, Try.results59, go_sem]) rfl ⟨_, rfl, .bare _ _ _ _ _ _, ?_⟩
  exact (Below.refl _ _).alloc (Nat.le_refl _) _

end Go.Proofs.Ytlgbkhkmfgdehaa

namespace Go.Proofs.Ytlgbkhkmfgdehaa
open Go.RowKit

set_option maxRecDepth 100000 in
set_option maxHeartbeats 1000000 in
theorem l2Node_any (k : Int) (x y : Ty) (vx vy : Value) (lo l h l' h' : Nat) (w : World) (hx : TyIn w l h x vx) (hy : TyIn w l' h' y vy) (hl : lo ≤ l) (hll : lo ≤ l') (hd : h ≤ l') (hh : h ≤ w.heap.size) (hh' : h' ≤ w.heap.size) (hlo : lo ≤ w.heap.size) :
    Calls Try.prog 90 #[.int .i64 k, .agg #[.int .i64 x.k, .int .i64 x.n, vx], .agg #[.int .i64 y.k, .int .i64 y.n, vy]] w fun e w' => ∃ v, e = .returned (.agg #[.int .i64 k, .int .i64 0, v]) ∧ TyIn w' lo w'.heap.size (.node k 0 [x, y]) v ∧ Below w.heap.size w w' := by
  have HX := Lib.hid hx
  have HY := Lib.hid hy
  obtain ⟨ax, cx, rfl, _⟩ := hx.at.slice
  obtain ⟨ay, cy, rfl, _⟩ := hy.at.slice
  obtain ⟨nx, hnx⟩ : ∃ n, x.ks.length = n := ⟨_, rfl⟩
  obtain ⟨ny, hny⟩ : ∃ n, y.ks.length = n := ⟨_, rfl⟩
  obtain ⟨kx, hkx⟩ : ∃ n, x.k = n := ⟨_, rfl⟩
  obtain ⟨ky, hky⟩ : ∃ n, y.k = n := ⟨_, rfl⟩
  obtain ⟨mx, hmx⟩ : ∃ n, x.n = n := ⟨_, rfl⟩
  obtain ⟨my, hmy⟩ : ∃ n, y.n = n := ⟨_, rfl⟩
  have HE := Lib.hid (And.intro hkx (And.intro hky (And.intro hmx hmy)))
  rw [hnx] at HX ⊢
  rw [hny] at HY ⊢
  rw [hkx, hky, hmx, hmy]
  have HLO := Lib.hid (And.intro hl (And.intro hll (And.intro hd (And.intro hh (And.intro hh' hlo)))))
  clear hx hy hkx hky hmx hmy hnx hny hl hll hd hh hh' hlo
  go_enter Try.func90, Try.ntmps90
  go_wp2_with fail
  refine bodyPost_ret (v := .agg #[.int .i64 k, .int .i64 0, .slice (some ⟨w.heap.size + 1 + 1 + 1, 0, none⟩) 2 2]) (by simp [results, Try.results90, go_sem]) rfl ⟨_, rfl, ?_, ?_⟩
  · obtain ⟨e1, e2, e3, e4⟩ := HE.out
    obtain ⟨h1, h2, h3, h4, h5, h6⟩ := HLO.out
    refine TyIn.pair (b := w.heap.size + 1 + 1 + 1) (l := l) (h := h) (l' := l') (h' := h') (vx := .slice ax nx cx) (vy := .slice ay ny cy) (HX.out.kept ?_) (HY.out.kept ?_) (by omega) (by simp) (row_at (by simp)) (by rw [e1]; go_simp) (by rw [e3]; go_simp) (by go_simp) (by rw [e2]; go_simp) (by rw [e4]; go_simp) (by go_simp) ?_ h1 (by simp; omega) h2 (by simp; omega) (.inr (by omega)) (.inr (by omega)) h3
    · exact ((((Below.refl _ _).alloc (Nat.le_refl _) _).alloc (by simp) _).alloc (by simp; omega) _).alloc (by simp; omega) _
    · exact ((((Below.refl _ _).alloc (Nat.le_refl _) _).alloc (by simp) _).alloc (by simp; omega) _).alloc (by simp; omega) _
    · intro i hi
      rcases (show i = 0 ∨ i = 1 ∨ i = 2 ∨ i = 3 ∨ i = 4 ∨ i = 5 by omega) with rfl | rfl | rfl | rfl | rfl | rfl <;> go_simp
  · exact ((((Below.refl _ _).alloc (Nat.le_refl _) _).alloc (by simp) _).alloc (by simp; omega) _).alloc (by simp; omega) _

set_option maxRecDepth 100000 in
set_option maxHeartbeats 1000000 in
theorem joinType_any (k : Int) (x y : Ty) (vx vy : Value) (lo l h l' h' : Nat) (w : World) (hx : TyIn w l h x vx) (hy : TyIn w l' h' y vy) (hl : lo ≤ l) (hll : lo ≤ l') (hd : h ≤ l') (hh : h ≤ w.heap.size) (hh' : h' ≤ w.heap.size) (hlo : lo ≤ w.heap.size) :
    Calls Try.prog 93 #[.int .i64 k, .agg #[.int .i64 x.k, .int .i64 x.n, vx], .agg #[.int .i64 y.k, .int .i64 y.n, vy]] w fun e w' => ∃ v, e = .returned (.agg #[.int .i64 k, .int .i64 0, v]) ∧ TyIn w' lo w'.heap.size (.node k 0 [x, y]) v ∧ Below w.heap.size w w' := by
  have HX := Lib.hid hx
  have HY := Lib.hid hy
  obtain ⟨ax, cx, rfl, _⟩ := hx.at.slice
  obtain ⟨ay, cy, rfl, _⟩ := hy.at.slice
  obtain ⟨nx, hnx⟩ : ∃ n, x.ks.length = n := ⟨_, rfl⟩
  obtain ⟨ny, hny⟩ : ∃ n, y.ks.length = n := ⟨_, rfl⟩
  obtain ⟨kx, hkx⟩ : ∃ n, x.k = n := ⟨_, rfl⟩
  obtain ⟨ky, hky⟩ : ∃ n, y.k = n := ⟨_, rfl⟩
  obtain ⟨mx, hmx⟩ : ∃ n, x.n = n := ⟨_, rfl⟩
  obtain ⟨my, hmy⟩ : ∃ n, y.n = n := ⟨_, rfl⟩
  have HE := Lib.hid (And.intro hkx (And.intro hky (And.intro hmx hmy)))
  rw [hnx] at HX ⊢
  rw [hny] at HY ⊢
  rw [hkx, hky, hmx, hmy]
  have HLO := Lib.hid (And.intro hl (And.intro hll (And.intro hd (And.intro hh (And.intro hh' hlo)))))
  clear hx hy hkx hky hmx hmy hnx hny hl hll hd hh hh' hlo
  go_enter Try.func93, Try.ntmps93
  go_wp2_with fail
  refine bodyPost_ret (v := .agg #[.int .i64 k, .int .i64 0, .slice (some ⟨w.heap.size + 1 + 1 + 1, 0, none⟩) 2 2]) (by simp [results, Try.results93, go_sem]) rfl ⟨_, rfl, ?_, ?_⟩
  · obtain ⟨e1, e2, e3, e4⟩ := HE.out
    obtain ⟨h1, h2, h3, h4, h5, h6⟩ := HLO.out
    refine TyIn.pair (b := w.heap.size + 1 + 1 + 1) (l := l) (h := h) (l' := l') (h' := h') (vx := .slice ax nx cx) (vy := .slice ay ny cy) (HX.out.kept ?_) (HY.out.kept ?_) (by omega) (by simp) (row_at (by simp)) (by rw [e1]; go_simp) (by rw [e3]; go_simp) (by go_simp) (by rw [e2]; go_simp) (by rw [e4]; go_simp) (by go_simp) ?_ h1 (by simp; omega) h2 (by simp; omega) (.inr (by omega)) (.inr (by omega)) h3
    · exact ((((Below.refl _ _).alloc (Nat.le_refl _) _).alloc (by simp) _).alloc (by simp; omega) _).alloc (by simp; omega) _
    · exact ((((Below.refl _ _).alloc (Nat.le_refl _) _).alloc (by simp) _).alloc (by simp; omega) _).alloc (by simp; omega) _
    · intro i hi
      rcases (show i = 0 ∨ i = 1 ∨ i = 2 ∨ i = 3 ∨ i = 4 ∨ i = 5 by omega) with rfl | rfl | rfl | rfl | rfl | rfl <;> go_simp
  · exact ((((Below.refl _ _).alloc (Nat.le_refl _) _).alloc (by simp) _).alloc (by simp; omega) _).alloc (by simp; omega) _

/-- Where the parser stands. -/
structure PAt (w : World) (p : Nat) (s : ByteArray) (i : Nat) : Prop where
  c0 : w.cell? ⟨p, 0, none⟩ = some (.string s)
  c1 : w.cell? ⟨p, 1, none⟩ = some (.int .i64 (i : Int))
  f1 : w.frozen? ⟨p, 1, none⟩ = false
  sz : p < w.heap.size
theorem PAt.kept {w w' : World} {p : Nat} {s : ByteArray} {i : Nat} (h : PAt w p s i) (hb : Below w.heap.size w w') : PAt w' p s i :=
  ⟨(hb.cell (p := ⟨p, 0, none⟩) h.sz).trans h.c0, (hb.cell (p := ⟨p, 1, none⟩) h.sz).trans h.c1, (hb.frozen (p := ⟨p, 1, none⟩) h.sz).trans h.f1, Nat.lt_of_lt_of_le h.sz hb.size⟩
theorem PAt.set {w : World} {p : Nat} {s : ByteArray} {i : Nat} (h : PAt w p s i) (j : Nat) : PAt (w.setCell ⟨p, 1, none⟩ (.int .i64 (j : Int))) p s j :=
  ⟨(World.cell?_setCell_other _ _ _ _ (fun e => by injection e with _ e2 _; omega)).trans h.c0, World.cell?_setCell_same' _ _ _ (by rw [h.c1]; rfl), by rw [World.frozen?_setCell]; exact h.f1, by simpa using h.sz⟩
theorem Inside.of_below {lo hi : Nat} {w w' : World} (h : Below w.heap.size w w') : Inside lo hi w w' := ⟨h.os, h.tape, h.output, h.size, fun x hx _ => h.block x hx⟩
theorem next_done {w wd : World} {p i : Nat} {s : ByteArray} (hp : PAt w p s i) (hb : Below w.heap.size w wd) :
    PAt (wd.setCell ⟨p, 1, none⟩ (.int .i64 ((i : Int) + 1))) p s (i + 1) ∧ Inside p (p + 1) w (wd.setCell ⟨p, 1, none⟩ (.int .i64 ((i : Int) + 1))) := by
  have h1 := (hp.kept hb).set (i + 1)
  push_cast at h1
  exact ⟨h1, (Inside.of_below hb).trans (Inside.set wd 1 _ (Nat.le_refl _) (Nat.lt_succ_self _))⟩
end Go.Proofs.Ytlgbkhkmfgdehaa

namespace Go.Proofs.Ytlgbkhkmfgdehaa
open Go.RowKit
set_option linter.unusedVariables false
set_option linter.unusedSimpArgs false

/-- A result's cells, still empty. -/
structure RB (w : World) (B : Nat) : Prop where
  c0 : w.cell? ⟨B, 0, none⟩ = some (.int .i64 0)
  c1 : w.cell? ⟨B, 1, none⟩ = some (.int .i64 0)
  c2 : w.cell? ⟨B, 2, none⟩ = some (.slice none 0 0)
  f0 : w.frozen? ⟨B, 0, none⟩ = false
  f1 : w.frozen? ⟨B, 1, none⟩ = false
  f2 : w.frozen? ⟨B, 2, none⟩ = false
  sz : B < w.heap.size
theorem RB.keep {w w' : World} {B : Nat} (h : RB w B) (hs : w.heap.size ≤ w'.heap.size) (hb : w'.heap[B]? = w.heap[B]?) : RB w' B :=
  ⟨(cellEq hb).trans h.c0, (cellEq hb).trans h.c1, (cellEq hb).trans h.c2, (frozenEq hb).trans h.f0, (frozenEq hb).trans h.f1, (frozenEq hb).trans h.f2, Nat.lt_of_lt_of_le h.sz hs⟩
theorem RB.kept {w w' : World} {B : Nat} (h : RB w B) (hb : Below w.heap.size w w') : RB w' B := h.keep hb.size (hb.block B h.sz)
theorem rb_new (w : World) (T : TypeId) : RB (w.alloc (.cells #[.int .i64 0, .int .i64 0, .slice none 0 0] T)) w.heap.size := ⟨by go_simp, by go_simp, by go_simp, by go_simp, by go_simp, by go_simp, by simp⟩
theorem res_below {w W : World} (h : Below w.heap.size w W) (x y z : Value) : Below w.heap.size w (((W.setCell ⟨w.heap.size, 0, none⟩ x).setCell ⟨w.heap.size, 1, none⟩ y).setCell ⟨w.heap.size, 2, none⟩ z) :=
  ((h.setCell (p := ⟨w.heap.size, 0, none⟩) (Nat.le_refl _) _).setCell (p := ⟨w.heap.size, 1, none⟩) (Nat.le_refl _) _).setCell (p := ⟨w.heap.size, 2, none⟩) (Nat.le_refl _) _
theorem res_ty {w W : World} {B : Nat} {t : Ty} {v : Value} (h : TyIn W (B + 1) W.heap.size t v) (hB : w.heap.size ≤ B) (x y z : Value) :
    TyIn (((W.setCell ⟨B, 0, none⟩ x).setCell ⟨B, 1, none⟩ y).setCell ⟨B, 2, none⟩ z) w.heap.size (((W.setCell ⟨B, 0, none⟩ x).setCell ⟨B, 1, none⟩ y).setCell ⟨B, 2, none⟩ z).heap.size t v := by
  refine TyIn.wide (h.keep (by simp) (fun b h1 _ _ => ?_)) (by omega) (by simp)
  rw [heap_setCell_other _ ⟨B, 2, none⟩ b _ (by show b ≠ B; omega), heap_setCell_other _ ⟨B, 1, none⟩ b _ (by show b ≠ B; omega), heap_setCell_other _ ⟨B, 0, none⟩ b _ (by show b ≠ B; omega)]

/-- What l2Parse returns: the type and the offset after it, or a negative number. -/
def PrsRet : Option (Ty × Nat) → World → Ending → World → Prop
  | some (t, n), w, e, w' => ∃ (v : Value) (N : Int), N = (n : Int) ∧ e = .returned (.tuple #[.agg #[.int .i64 t.k, .int .i64 t.n, v], .int .i64 N]) ∧ TyIn w' w.heap.size w'.heap.size t v ∧ Below w.heap.size w w'
  | none, w, e, w' => ∃ N : Int, N < 0 ∧ -1048600 ≤ N ∧ e = .returned (.tuple #[.agg #[.int .i64 0, .int .i64 0, .slice none 0 0], .int .i64 N]) ∧ Below w.heap.size w w'
def PrsT (s : ByteArray) (d : Nat) : Prop := ∀ (D : Int) (i : Nat) (I : Int) (w : World) (r : Option (Ty × Nat)), D = d → I = i → i ≤ 1048577 → prs s d i = r →
    Calls Try.prog 92 #[.string s, .int .i64 I, .int .i64 D] w (PrsRet r w)

theorem prs_0 (s : ByteArray) : PrsT s 0 := by
  intro D i I w r hD hI hi hr
  obtain rfl : D = 0 := by omega
  have hr2 : r = none := by rw [← hr]; rfl
  subst hr2
  have h0 : 0 ≤ I := by omega
  have h1 : I ≤ 1048577 := by omega
  clear hr hI hi hD
  go_enter Try.func92, Try.ntmps92
  go_wp2_with fail
  exact bodyPost_ret (v := .tuple #[.agg #[.int .i64 0, .int .i64 0, .slice none 0 0], .int .i64 (-1 - I)]) (by simp [results, Try.results92, go_sem]) rfl ⟨_, by omega, by omega, rfl, (Below.refl _ _).alloc (Nat.le_refl _) _⟩
theorem prs_e (s : ByteArray) (d : Nat) (D : Int) (i : Nat) (I : Int) (w : World) (hD : D = ((d + 1 : Nat) : Int)) (hI : I = i) (hi : i ≤ 1048577) (he : ¬ i < s.size) :
    Calls Try.prog 92 #[.string s, .int .i64 I, .int .i64 D] w (PrsRet none w) := by
  have h0 : 0 ≤ I := by omega
  have h1 : I ≤ 1048577 := by omega
  have h2 : ¬ D < 1 := by omega
  have h3 : ¬ I < (s.size : Int) := by omega
  clear hI hi hD he
  go_enter Try.func92, Try.ntmps92
  go_wp2_with fail
  exact bodyPost_ret (v := .tuple #[.agg #[.int .i64 0, .int .i64 0, .slice none 0 0], .int .i64 (-1 - I)]) (by simp [results, Try.results92, go_sem]) rfl ⟨_, by omega, by omega, rfl, (Below.refl _ _).alloc (Nat.le_refl _) _⟩

set_option maxRecDepth 100000 in
set_option maxHeartbeats 1000000 in
theorem prs_num (s : ByteArray) (hs : s.size ≤ 1048576) (d : Nat) (hd : d ≤ 16) (D : Int) (i : Nat) (I : Int) (w : World) (hD : D = ((d + 1 : Nat) : Int)) (hI : I = i) (hi : i < s.size) (c : Int) (hc : by8 s i = c) (h73 : (c == 73) = true) :
    Calls Try.prog 92 #[.string s, .int .i64 I, .int .i64 D] w (PrsRet (some (.node 1 0 [], i + 1)) w) := by
  have r1 := by8_idx Try.prog 9 Try.underlying9 hi
  rw [← hI, hc] at r1
  have h0 : 0 ≤ I := by omega
  have h1 : I ≤ 1048577 := by omega
  have h2 : ¬ D < 1 := by omega
  have h3 : I < (s.size : Int) := by omega
  have HI := Lib.hid (show I + 1 = ((i + 1 : Nat) : Int) by omega)
  have HR := Lib.hid (rb_new w 28)
  have HA0 : Hid (Below w.heap.size w (w.alloc (.cells #[.int .i64 0, .int .i64 0, .slice none 0 0] 28))) := Lib.hid ((Below.refl _ _).alloc (Nat.le_refl _) _)
  clear hI hi hD hc
  go_enter Try.func92, Try.ntmps92
  go_wp2_with fail
  go_at_call 52
  refine (l2Num_any _).mono ?_
  rintro e w1 ⟨v, rfl, hty, hb⟩
  obtain ⟨a1, k1, rfl, _⟩ := hty.at.slice
  have HR1 := Lib.hid (HR.out.kept hb)
  obtain ⟨p0, p1, p2, f0, f1, f2, psz⟩ := HR1.out
  have HB1 := Lib.hid (HA0.out.trans (hb.mono HA0.out.size))
  have HT := Lib.hid hty
  clear hty hb
  go_wp2_with fail
  exact bodyPost_ret (v := .tuple #[.agg #[.int .i64 1, .int .i64 0, .slice a1 0 k1], .int .i64 (I + 1)]) (by simp [results, Try.results92, go_sem, p0, p1, p2, Ty.k, Ty.n, Ty.ks]) rfl ⟨_, _, HI.out, rfl, res_ty (by have h := HT.out; simp at h; exact h) (Nat.le_refl _) _ _ _, res_below HB1.out _ _ _⟩

set_option maxRecDepth 100000 in
set_option maxHeartbeats 1000000 in
theorem prs_var (s : ByteArray) (hs : s.size ≤ 1048576) (d : Nat) (hd : d ≤ 16) (D : Int) (i : Nat) (I : Int) (w : World) (hD : D = ((d + 1 : Nat) : Int)) (hI : I = i) (hi : i < s.size) (c : Int) (hc : by8 s i = c) (h97 : 97 ≤ c) (h122 : c ≤ 122) :
    Calls Try.prog 92 #[.string s, .int .i64 I, .int .i64 D] w (PrsRet (some (.node 4 (c - 97) [], i + 1)) w) := by
  have r1 := by8_idx Try.prog 9 Try.underlying9 hi
  rw [← hI, hc] at r1
  have h0 : 0 ≤ I := by omega
  have h1 : I ≤ 1048577 := by omega
  have h2 : ¬ D < 1 := by omega
  have h3 : I < (s.size : Int) := by omega
  have HI := Lib.hid (show I + 1 = ((i + 1 : Nat) : Int) by omega)
  have HR := Lib.hid (rb_new w 28)
  have HA0 : Hid (Below w.heap.size w (w.alloc (.cells #[.int .i64 0, .int .i64 0, .slice none 0 0] 28))) := Lib.hid ((Below.refl _ _).alloc (Nat.le_refl _) _)
  have h73 : (c == 73) = false := by simp; omega
  have h97' : ¬ c < 97 := by omega
  clear hI hi hD hc
  go_enter Try.func92, Try.ntmps92
  go_wp2_with fail
  go_at_call 110
  refine (l2Var_any _ _).mono ?_
  rintro e w1 ⟨v, rfl, hty, hb⟩
  obtain ⟨a1, k1, rfl, _⟩ := hty.at.slice
  have HR1 := Lib.hid (HR.out.kept hb)
  obtain ⟨p0, p1, p2, f0, f1, f2, psz⟩ := HR1.out
  have HB1 := Lib.hid (HA0.out.trans (hb.mono HA0.out.size))
  have HT := Lib.hid hty
  clear hty hb
  go_wp2_with fail
  exact bodyPost_ret (v := .tuple #[.agg #[.int .i64 4, .int .i64 (c - 97), .slice a1 0 k1], .int .i64 (I + 1)]) (by simp [results, Try.results92, go_sem, p0, p1, p2, Ty.k, Ty.n, Ty.ks]) rfl ⟨_, _, HI.out, rfl, res_ty (by have h := HT.out; simp at h; exact h) (Nat.le_refl _) _ _ _, res_below HB1.out _ _ _⟩

set_option maxRecDepth 100000 in
set_option maxHeartbeats 1000000 in
theorem prs_lo (s : ByteArray) (hs : s.size ≤ 1048576) (d : Nat) (hd : d ≤ 16) (D : Int) (i : Nat) (I : Int) (w : World) (hD : D = ((d + 1 : Nat) : Int)) (hI : I = i) (hi : i < s.size) (c : Int) (hc : by8 s i = c) (h73 : (c == 73) = false) (h97 : c < 97) (h40 : (c == 40) = false) :
    Calls Try.prog 92 #[.string s, .int .i64 I, .int .i64 D] w (PrsRet none w) := by
  have r1 := by8_idx Try.prog 9 Try.underlying9 hi
  rw [← hI, hc] at r1
  have h0 : 0 ≤ I := by omega
  have h1 : I ≤ 1048577 := by omega
  have h2 : ¬ D < 1 := by omega
  have h3 : I < (s.size : Int) := by omega
  have HI := Lib.hid (show I + 1 = ((i + 1 : Nat) : Int) by omega)
  have HR := Lib.hid (rb_new w 28)
  have HA0 : Hid (Below w.heap.size w (w.alloc (.cells #[.int .i64 0, .int .i64 0, .slice none 0 0] 28))) := Lib.hid ((Below.refl _ _).alloc (Nat.le_refl _) _)
  have h97' : ¬ 97 ≤ c := by omega
  clear hI hi hD hc HR HI
  go_enter Try.func92, Try.ntmps92
  go_wp2_with fail
  exact bodyPost_ret (v := .tuple #[.agg #[.int .i64 0, .int .i64 0, .slice none 0 0], .int .i64 (-1 - I)]) (by simp [results, Try.results92, go_sem]) rfl ⟨_, by omega, by omega, rfl, HA0.out⟩

set_option maxRecDepth 100000 in
set_option maxHeartbeats 1000000 in
theorem prs_hi (s : ByteArray) (hs : s.size ≤ 1048576) (d : Nat) (hd : d ≤ 16) (D : Int) (i : Nat) (I : Int) (w : World) (hD : D = ((d + 1 : Nat) : Int)) (hI : I = i) (hi : i < s.size) (c : Int) (hc : by8 s i = c) (h122 : ¬ c ≤ 122) :
    Calls Try.prog 92 #[.string s, .int .i64 I, .int .i64 D] w (PrsRet none w) := by
  have r1 := by8_idx Try.prog 9 Try.underlying9 hi
  rw [← hI, hc] at r1
  have h0 : 0 ≤ I := by omega
  have h1 : I ≤ 1048577 := by omega
  have h2 : ¬ D < 1 := by omega
  have h3 : I < (s.size : Int) := by omega
  have HI := Lib.hid (show I + 1 = ((i + 1 : Nat) : Int) by omega)
  have HR := Lib.hid (rb_new w 28)
  have HA0 : Hid (Below w.heap.size w (w.alloc (.cells #[.int .i64 0, .int .i64 0, .slice none 0 0] 28))) := Lib.hid ((Below.refl _ _).alloc (Nat.le_refl _) _)
  have h73 : (c == 73) = false := by simp; omega
  have h40 : (c == 40) = false := by simp; omega
  have h97 : 97 ≤ c := by omega
  clear hI hi hD hc HR HI
  go_enter Try.func92, Try.ntmps92
  go_wp2_with fail
  exact bodyPost_ret (v := .tuple #[.agg #[.int .i64 0, .int .i64 0, .slice none 0 0], .int .i64 (-1 - I)]) (by simp [results, Try.results92, go_sem]) rfl ⟨_, by omega, by omega, rfl, HA0.out⟩

set_option maxRecDepth 100000 in
set_option maxHeartbeats 1000000 in
theorem prs_j0 (s : ByteArray) (hs : s.size ≤ 1048576) (d : Nat) (hd : d ≤ 16) (D : Int) (i : Nat) (I : Int) (w : World) (hD : D = ((d + 1 : Nat) : Int)) (hI : I = i) (hi : i < s.size) (hc : by8 s i = 40) (HIH : Hid (PrsT s d)) (HX : Hid (prs s d (i + 1) = none)) :
    Calls Try.prog 92 #[.string s, .int .i64 I, .int .i64 D] w (PrsRet none w) := by
  have r1 := by8_idx Try.prog 9 Try.underlying9 hi
  rw [← hI, hc] at r1
  have h0 : 0 ≤ I := by omega
  have h1 : I ≤ 1048577 := by omega
  have h2 : ¬ D < 1 := by omega
  have h3 : I < (s.size : Int) := by omega
  have HI := Lib.hid (show I + 1 = ((i + 1 : Nat) : Int) by omega)
  have HR := Lib.hid (rb_new w 28)
  have HA0 : Hid (Below w.heap.size w (w.alloc (.cells #[.int .i64 0, .int .i64 0, .slice none 0 0] 28))) := Lib.hid ((Below.refl _ _).alloc (Nat.le_refl _) _)
  have HD := Lib.hid (show D - 1 = (d : Int) by omega)
  have HLE := Lib.hid (show i + 1 ≤ 1048577 by omega)
  have h4 : 1 ≤ D := by omega
  have h5 : D ≤ 17 := by omega
  clear hI hi hD hc
  go_enter Try.func92, Try.ntmps92
  go_wp2_with fail
  go_at_call 92
  refine (HIH.out _ _ _ _ _ HD.out HI.out HLE.out HX.out).mono ?_
  rintro e w1 ⟨N, hN, hN2, rfl, hb⟩
  have HR1 := Lib.hid (HR.out.kept hb)
  obtain ⟨p0, p1, p2, f0, f1, f2, psz⟩ := HR1.out
  have HBB := Lib.hid (HA0.out.trans (hb.mono HA0.out.size))
  clear hb
  go_wp2_with fail
  exact bodyPost_ret (v := .tuple #[.agg #[.int .i64 0, .int .i64 0, .slice none 0 0], .int .i64 (N)]) (by simp [results, Try.results92, go_sem, p0, p1, p2, psz]) rfl ⟨_, by omega, by omega, rfl, (res_below HBB.out _ _ _).alloc (by have := HBB.out.size; simp; omega) _⟩

end Go.Proofs.Ytlgbkhkmfgdehaa

namespace Go.Proofs.Ytlgbkhkmfgdehaa
open Go.RowKit
set_option linter.unusedVariables false
set_option linter.unusedSimpArgs false

theorem sizeA (w : World) (o : Obj) : (w.alloc o).heap.size = w.heap.size + 1 := by simp
theorem sign_N (s : ByteArray) (n : Nat) (N : Int) (hN : N = n) (c : Int) (b : Bool) (hc : c ≠ 0) (hb : (by8 s n == c) = b) (w : World) :
    Calls Try.prog 75 #[.string s, .int .i64 N, .int .u8 c] w fun e w' => e = .returned (.bool b) ∧ w' = w := by
  subst hN; exact l2Sign_any s n c b hc hb w
theorem boxes {w w2 : World} {B : Nat} {x y z : Value} {T : TypeId} (hb : Below (w.alloc (.cells #[x, y, z] T)).heap.size (w.alloc (.cells #[x, y, z] T)) w2) (hB : B = w.heap.size) :
    w2.cell? ⟨B, 0, none⟩ = some x ∧ w2.cell? ⟨B, 1, none⟩ = some y ∧ w2.cell? ⟨B, 2, none⟩ = some z := by
  subst hB
  have hlt : w.heap.size < (w.alloc (.cells #[x, y, z] T)).heap.size := by simp
  exact ⟨(hb.cell (p := ⟨w.heap.size, 0, none⟩) hlt).trans (by go_simp), (hb.cell (p := ⟨w.heap.size, 1, none⟩) hlt).trans (by go_simp), (hb.cell (p := ⟨w.heap.size, 2, none⟩) hlt).trans (by go_simp)⟩

set_option maxRecDepth 100000 in
set_option maxHeartbeats 2000000 in
theorem prs_j1 (s : ByteArray) (hs : s.size ≤ 1048576) (d : Nat) (hd : d ≤ 16) (D : Int) (i : Nat) (I : Int) (w : World) (hD : D = ((d + 1 : Nat) : Int)) (hI : I = i) (hi : i < s.size) (hc : by8 s i = 40) (HIH : Hid (PrsT s d)) (ta : Ty) (n : Nat) (HX : Hid (prs s d (i + 1) = some (ta, n))) (H42 : Hid ((by8 s n == 42) = false)) (H62 : Hid ((by8 s n == 62) = false)) :
    Calls Try.prog 92 #[.string s, .int .i64 I, .int .i64 D] w (PrsRet none w) := by
  have r1 := by8_idx Try.prog 9 Try.underlying9 hi
  rw [← hI, hc] at r1
  have h0 : 0 ≤ I := by omega
  have h1 : I ≤ 1048577 := by omega
  have h2 : ¬ D < 1 := by omega
  have h3 : I < (s.size : Int) := by omega
  have HI := Lib.hid (show I + 1 = ((i + 1 : Nat) : Int) by omega)
  have HR := Lib.hid (rb_new w 28)
  have HA0 : Hid (Below w.heap.size w (w.alloc (.cells #[.int .i64 0, .int .i64 0, .slice none 0 0] 28))) := Lib.hid ((Below.refl _ _).alloc (Nat.le_refl _) _)
  have HD := Lib.hid (show D - 1 = (d : Int) by omega)
  have HLE := Lib.hid (show i + 1 ≤ 1048577 by omega)
  have h4 : 1 ≤ D := by omega
  have h5 : D ≤ 17 := by omega
  have hn : n ≤ 1048576 := Nat.le_trans (prs_le s d _ _ _ HX.out) hs
  clear hI hi hD hc
  go_enter Try.func92, Try.ntmps92
  go_wp2_with fail
  go_at_call 92
  refine (HIH.out _ _ _ _ _ HD.out HI.out HLE.out HX.out).mono ?_
  rintro e w1 ⟨v, N, hN, rfl, hty, hb⟩
  rw [sizeA] at hty
  have HT := Lib.hid hty
  obtain ⟨a1, k1, rfl, _⟩ := hty.at.slice
  have hz1 : w.heap.size < w1.heap.size := by have := hb.size; simp at this; omega
  have HR1 := Lib.hid (HR.out.kept hb)
  have HB1 := Lib.hid (HA0.out.trans (hb.mono HA0.out.size))
  have hN0 : ¬ N < 0 := by omega
  have hN1 : 0 ≤ N := by omega
  have hN2 : N ≤ 1048577 := by omega
  have HN := Lib.hid hN
  have HNS := Lib.hid (show N + 1 = ((n + 1 : Nat) : Int) by omega)
  have HLE2 := Lib.hid (show n + 1 ≤ 1048577 by omega)
  have HR2 := Lib.hid (HR1.out.kept ((Below.refl w1.heap.size w1).alloc (Nat.le_refl _) (.cells #[.int .i64 ta.k, .int .i64 ta.n, .slice a1 ta.ks.length k1] 28)))
  have HB2 := Lib.hid (HB1.out.alloc HB1.out.size (.cells #[.int .i64 ta.k, .int .i64 ta.n, .slice a1 ta.ks.length k1] 28))
  obtain ⟨p0, p1, p2, f0, f1, f2, psz⟩ := HR1.out
  have HZ1 := Lib.hid hz1
  clear hb hty hN hn
  go_wp2_with fail
  go_at_call 75
  refine (sign_N s n N HN.out 42 false (by omega) H42.out _).mono ?_
  rintro e wq ⟨rfl, rfl⟩
  go_wp2_with fail
  go_at_call 75
  refine (sign_N s n N HN.out 42 false (by omega) H42.out _).mono ?_
  rintro e wq ⟨rfl, rfl⟩
  go_wp2_with fail
  go_at_call 75
  refine (sign_N s n N HN.out 62 false (by omega) H62.out _).mono ?_
  rintro e wq ⟨rfl, rfl⟩
  go_wp2_with fail
  exact bodyPost_ret (v := .tuple #[.agg #[.int .i64 0, .int .i64 0, .slice none 0 0], .int .i64 (-1 - N)]) (by simp [results, Try.results92, go_sem, p0, p1, p2, psz, hz1]) rfl ⟨_, by omega, by omega, rfl, (res_below HB1.out _ _ _).alloc (by have := HB1.out.size; simp; omega) _⟩

set_option maxRecDepth 100000 in
set_option maxHeartbeats 2000000 in
theorem prs_j2_3 (s : ByteArray) (hs : s.size ≤ 1048576) (d : Nat) (hd : d ≤ 16) (D : Int) (i : Nat) (I : Int) (w : World) (hD : D = ((d + 1 : Nat) : Int)) (hI : I = i) (hi : i < s.size) (hc : by8 s i = 40) (HIH : Hid (PrsT s d)) (ta : Ty) (n : Nat) (HX : Hid (prs s d (i + 1) = some (ta, n))) (H42 : Hid ((by8 s n == 42) = true)) (H62 : Hid ((by8 s n == 62) = false)) (HY : Hid (prs s d (n + 1) = none)) :
    Calls Try.prog 92 #[.string s, .int .i64 I, .int .i64 D] w (PrsRet none w) := by
  have r1 := by8_idx Try.prog 9 Try.underlying9 hi
  rw [← hI, hc] at r1
  have h0 : 0 ≤ I := by omega
  have h1 : I ≤ 1048577 := by omega
  have h2 : ¬ D < 1 := by omega
  have h3 : I < (s.size : Int) := by omega
  have HI := Lib.hid (show I + 1 = ((i + 1 : Nat) : Int) by omega)
  have HR := Lib.hid (rb_new w 28)
  have HA0 : Hid (Below w.heap.size w (w.alloc (.cells #[.int .i64 0, .int .i64 0, .slice none 0 0] 28))) := Lib.hid ((Below.refl _ _).alloc (Nat.le_refl _) _)
  have HD := Lib.hid (show D - 1 = (d : Int) by omega)
  have HLE := Lib.hid (show i + 1 ≤ 1048577 by omega)
  have h4 : 1 ≤ D := by omega
  have h5 : D ≤ 17 := by omega
  have hn : n ≤ 1048576 := Nat.le_trans (prs_le s d _ _ _ HX.out) hs
  clear hI hi hD hc
  go_enter Try.func92, Try.ntmps92
  go_wp2_with fail
  go_at_call 92
  refine (HIH.out _ _ _ _ _ HD.out HI.out HLE.out HX.out).mono ?_
  rintro e w1 ⟨v, N, hN, rfl, hty, hb⟩
  rw [sizeA] at hty
  have HT := Lib.hid hty
  obtain ⟨a1, k1, rfl, _⟩ := hty.at.slice
  have hz1 : w.heap.size < w1.heap.size := by have := hb.size; simp at this; omega
  have HR1 := Lib.hid (HR.out.kept hb)
  have HB1 := Lib.hid (HA0.out.trans (hb.mono HA0.out.size))
  have hN0 : ¬ N < 0 := by omega
  have hN1 : 0 ≤ N := by omega
  have hN2 : N ≤ 1048577 := by omega
  have HN := Lib.hid hN
  have HNS := Lib.hid (show N + 1 = ((n + 1 : Nat) : Int) by omega)
  have HLE2 := Lib.hid (show n + 1 ≤ 1048577 by omega)
  have HR2 := Lib.hid (HR1.out.kept ((Below.refl w1.heap.size w1).alloc (Nat.le_refl _) (.cells #[.int .i64 ta.k, .int .i64 ta.n, .slice a1 ta.ks.length k1] 28)))
  have HB2 := Lib.hid (HB1.out.alloc HB1.out.size (.cells #[.int .i64 ta.k, .int .i64 ta.n, .slice a1 ta.ks.length k1] 28))
  obtain ⟨p0, p1, p2, f0, f1, f2, psz⟩ := HR1.out
  have HZ1 := Lib.hid hz1
  clear hb hty hN hn
  go_wp2_with fail
  go_at_call 75
  refine (sign_N s n N HN.out 42 true (by omega) H42.out _).mono ?_
  rintro e wq ⟨rfl, rfl⟩
  go_wp2_with fail
  go_at_call 75
  refine (sign_N s n N HN.out 42 true (by omega) H42.out _).mono ?_
  rintro e wq ⟨rfl, rfl⟩
  go_wp2_with fail
  go_at_call 92
  refine (HIH.out _ _ _ _ _ HD.out HNS.out HLE2.out HY.out).mono ?_
  rintro e w2 ⟨E, hE, hE2, rfl, hb⟩
  have HR3 := Lib.hid (HR2.out.kept hb)
  have HB3 := Lib.hid (HB2.out.trans (hb.mono HB2.out.size))
  have hz2 : w.heap.size < w2.heap.size := HR3.out.sz
  clear p0 p1 p2 f0 f1 f2 psz
  obtain ⟨p0, p1, p2, f0, f1, f2, psz⟩ := HR3.out
  clear hb
  go_wp2_with fail
  exact bodyPost_ret (v := .tuple #[.agg #[.int .i64 0, .int .i64 0, .slice none 0 0], .int .i64 E]) (by simp [results, Try.results92, go_sem, p0, p1, p2, psz]) rfl ⟨_, by omega, by omega, rfl, (res_below HB3.out _ _ _).alloc (by have := HB3.out.size; simp; omega) _⟩

set_option maxRecDepth 100000 in
set_option maxHeartbeats 2000000 in
theorem prs_j3_3 (s : ByteArray) (hs : s.size ≤ 1048576) (d : Nat) (hd : d ≤ 16) (D : Int) (i : Nat) (I : Int) (w : World) (hD : D = ((d + 1 : Nat) : Int)) (hI : I = i) (hi : i < s.size) (hc : by8 s i = 40) (HIH : Hid (PrsT s d)) (ta : Ty) (n : Nat) (HX : Hid (prs s d (i + 1) = some (ta, n))) (H42 : Hid ((by8 s n == 42) = true)) (H62 : Hid ((by8 s n == 62) = false)) (tb : Ty) (m : Nat) (HY : Hid (prs s d (n + 1) = some (tb, m))) (H41 : Hid ((by8 s m == 41) = false)) :
    Calls Try.prog 92 #[.string s, .int .i64 I, .int .i64 D] w (PrsRet none w) := by
  have r1 := by8_idx Try.prog 9 Try.underlying9 hi
  rw [← hI, hc] at r1
  have h0 : 0 ≤ I := by omega
  have h1 : I ≤ 1048577 := by omega
  have h2 : ¬ D < 1 := by omega
  have h3 : I < (s.size : Int) := by omega
  have HI := Lib.hid (show I + 1 = ((i + 1 : Nat) : Int) by omega)
  have HR := Lib.hid (rb_new w 28)
  have HA0 : Hid (Below w.heap.size w (w.alloc (.cells #[.int .i64 0, .int .i64 0, .slice none 0 0] 28))) := Lib.hid ((Below.refl _ _).alloc (Nat.le_refl _) _)
  have HD := Lib.hid (show D - 1 = (d : Int) by omega)
  have HLE := Lib.hid (show i + 1 ≤ 1048577 by omega)
  have h4 : 1 ≤ D := by omega
  have h5 : D ≤ 17 := by omega
  have hn : n ≤ 1048576 := Nat.le_trans (prs_le s d _ _ _ HX.out) hs
  clear hI hi hD hc
  go_enter Try.func92, Try.ntmps92
  go_wp2_with fail
  go_at_call 92
  refine (HIH.out _ _ _ _ _ HD.out HI.out HLE.out HX.out).mono ?_
  rintro e w1 ⟨v, N, hN, rfl, hty, hb⟩
  rw [sizeA] at hty
  have HT := Lib.hid hty
  obtain ⟨a1, k1, rfl, _⟩ := hty.at.slice
  have hz1 : w.heap.size < w1.heap.size := by have := hb.size; simp at this; omega
  have HR1 := Lib.hid (HR.out.kept hb)
  have HB1 := Lib.hid (HA0.out.trans (hb.mono HA0.out.size))
  have hN0 : ¬ N < 0 := by omega
  have hN1 : 0 ≤ N := by omega
  have hN2 : N ≤ 1048577 := by omega
  have HN := Lib.hid hN
  have HNS := Lib.hid (show N + 1 = ((n + 1 : Nat) : Int) by omega)
  have HLE2 := Lib.hid (show n + 1 ≤ 1048577 by omega)
  have HR2 := Lib.hid (HR1.out.kept ((Below.refl w1.heap.size w1).alloc (Nat.le_refl _) (.cells #[.int .i64 ta.k, .int .i64 ta.n, .slice a1 ta.ks.length k1] 28)))
  have HB2 := Lib.hid (HB1.out.alloc HB1.out.size (.cells #[.int .i64 ta.k, .int .i64 ta.n, .slice a1 ta.ks.length k1] 28))
  obtain ⟨p0, p1, p2, f0, f1, f2, psz⟩ := HR1.out
  have HZ1 := Lib.hid hz1
  clear hb hty hN hn
  go_wp2_with fail
  go_at_call 75
  refine (sign_N s n N HN.out 42 true (by omega) H42.out _).mono ?_
  rintro e wq ⟨rfl, rfl⟩
  go_wp2_with fail
  go_at_call 75
  refine (sign_N s n N HN.out 42 true (by omega) H42.out _).mono ?_
  rintro e wq ⟨rfl, rfl⟩
  go_wp2_with fail
  go_at_call 92
  refine (HIH.out _ _ _ _ _ HD.out HNS.out HLE2.out HY.out).mono ?_
  rintro e w2 ⟨v2, E, hE, rfl, hty2, hb⟩
  have HT2 := Lib.hid hty2
  obtain ⟨a2, k2, rfl, _⟩ := hty2.at.slice
  have hm : m ≤ 1048576 := Nat.le_trans (prs_le s d _ _ _ HY.out) hs
  have HR3 := Lib.hid (HR2.out.kept hb)
  have HB3 := Lib.hid (HB2.out.trans (hb.mono HB2.out.size))
  have hz2 : w.heap.size < w2.heap.size := HR3.out.sz
  have hz3 : w1.heap.size < w2.heap.size := by have := hb.size; simp at this; omega
  have hE0 : ¬ E < 0 := by omega
  have hE1 : 0 ≤ E := by omega
  have hE2 : E ≤ 1048577 := by omega
  have HE := Lib.hid hE
  obtain ⟨q0, q1, q2⟩ := boxes hb rfl
  have HT1 := Lib.hid ((HT.out.kept ((Below.refl w1.heap.size w1).alloc (Nat.le_refl _) (.cells #[.int .i64 ta.k, .int .i64 ta.n, .slice a1 ta.ks.length k1] 28))).kept hb)
  have HR4 := Lib.hid (HR3.out.kept ((Below.refl w2.heap.size w2).alloc (Nat.le_refl _) (.cells #[.int .i64 tb.k, .int .i64 tb.n, .slice a2 tb.ks.length k2] 28)))
  have HB4 := Lib.hid (HB3.out.alloc HB3.out.size (.cells #[.int .i64 tb.k, .int .i64 tb.n, .slice a2 tb.ks.length k2] 28))
  clear p0 p1 p2 f0 f1 f2 psz
  obtain ⟨p0, p1, p2, f0, f1, f2, psz⟩ := HR3.out
  clear hb hty2 hE hm
  go_wp2_with fail
  go_at_call 75
  refine (sign_N s m E HE.out 41 false (by omega) H41.out _).mono ?_
  rintro e wq ⟨rfl, rfl⟩
  go_wp2_with fail
  exact bodyPost_ret (v := .tuple #[.agg #[.int .i64 0, .int .i64 0, .slice none 0 0], .int .i64 (-1 - E)]) (by simp [results, Try.results92, go_sem, p0, p1, p2, psz, hz2]) rfl ⟨_, by omega, by omega, rfl, (res_below HB3.out _ _ _).alloc (by have := HB3.out.size; simp; omega) _⟩

set_option maxRecDepth 100000 in
set_option maxHeartbeats 2000000 in
theorem prs_j4_3 (s : ByteArray) (hs : s.size ≤ 1048576) (d : Nat) (hd : d ≤ 16) (D : Int) (i : Nat) (I : Int) (w : World) (hD : D = ((d + 1 : Nat) : Int)) (hI : I = i) (hi : i < s.size) (hc : by8 s i = 40) (HIH : Hid (PrsT s d)) (ta : Ty) (n : Nat) (HX : Hid (prs s d (i + 1) = some (ta, n))) (H42 : Hid ((by8 s n == 42) = true)) (H62 : Hid ((by8 s n == 62) = false)) (tb : Ty) (m : Nat) (HY : Hid (prs s d (n + 1) = some (tb, m))) (H41 : Hid ((by8 s m == 41) = true)) :
    Calls Try.prog 92 #[.string s, .int .i64 I, .int .i64 D] w (PrsRet (some (.node 3 0 [ta, tb], m + 1)) w) := by
  have r1 := by8_idx Try.prog 9 Try.underlying9 hi
  rw [← hI, hc] at r1
  have h0 : 0 ≤ I := by omega
  have h1 : I ≤ 1048577 := by omega
  have h2 : ¬ D < 1 := by omega
  have h3 : I < (s.size : Int) := by omega
  have HI := Lib.hid (show I + 1 = ((i + 1 : Nat) : Int) by omega)
  have HR := Lib.hid (rb_new w 28)
  have HA0 : Hid (Below w.heap.size w (w.alloc (.cells #[.int .i64 0, .int .i64 0, .slice none 0 0] 28))) := Lib.hid ((Below.refl _ _).alloc (Nat.le_refl _) _)
  have HD := Lib.hid (show D - 1 = (d : Int) by omega)
  have HLE := Lib.hid (show i + 1 ≤ 1048577 by omega)
  have h4 : 1 ≤ D := by omega
  have h5 : D ≤ 17 := by omega
  have hn : n ≤ 1048576 := Nat.le_trans (prs_le s d _ _ _ HX.out) hs
  clear hI hi hD hc
  go_enter Try.func92, Try.ntmps92
  go_wp2_with fail
  go_at_call 92
  refine (HIH.out _ _ _ _ _ HD.out HI.out HLE.out HX.out).mono ?_
  rintro e w1 ⟨v, N, hN, rfl, hty, hb⟩
  rw [sizeA] at hty
  have HT := Lib.hid hty
  obtain ⟨a1, k1, rfl, _⟩ := hty.at.slice
  have hz1 : w.heap.size < w1.heap.size := by have := hb.size; simp at this; omega
  have HR1 := Lib.hid (HR.out.kept hb)
  have HB1 := Lib.hid (HA0.out.trans (hb.mono HA0.out.size))
  have hN0 : ¬ N < 0 := by omega
  have hN1 : 0 ≤ N := by omega
  have hN2 : N ≤ 1048577 := by omega
  have HN := Lib.hid hN
  have HNS := Lib.hid (show N + 1 = ((n + 1 : Nat) : Int) by omega)
  have HLE2 := Lib.hid (show n + 1 ≤ 1048577 by omega)
  have HR2 := Lib.hid (HR1.out.kept ((Below.refl w1.heap.size w1).alloc (Nat.le_refl _) (.cells #[.int .i64 ta.k, .int .i64 ta.n, .slice a1 ta.ks.length k1] 28)))
  have HB2 := Lib.hid (HB1.out.alloc HB1.out.size (.cells #[.int .i64 ta.k, .int .i64 ta.n, .slice a1 ta.ks.length k1] 28))
  obtain ⟨p0, p1, p2, f0, f1, f2, psz⟩ := HR1.out
  have HZ1 := Lib.hid hz1
  clear hb hty hN hn
  go_wp2_with fail
  go_at_call 75
  refine (sign_N s n N HN.out 42 true (by omega) H42.out _).mono ?_
  rintro e wq ⟨rfl, rfl⟩
  go_wp2_with fail
  go_at_call 75
  refine (sign_N s n N HN.out 42 true (by omega) H42.out _).mono ?_
  rintro e wq ⟨rfl, rfl⟩
  go_wp2_with fail
  go_at_call 92
  refine (HIH.out _ _ _ _ _ HD.out HNS.out HLE2.out HY.out).mono ?_
  rintro e w2 ⟨v2, E, hE, rfl, hty2, hb⟩
  have HT2 := Lib.hid hty2
  obtain ⟨a2, k2, rfl, _⟩ := hty2.at.slice
  have hm : m ≤ 1048576 := Nat.le_trans (prs_le s d _ _ _ HY.out) hs
  have HR3 := Lib.hid (HR2.out.kept hb)
  have HB3 := Lib.hid (HB2.out.trans (hb.mono HB2.out.size))
  have hz2 : w.heap.size < w2.heap.size := HR3.out.sz
  have hz3 : w1.heap.size < w2.heap.size := by have := hb.size; simp at this; omega
  have hE0 : ¬ E < 0 := by omega
  have hE1 : 0 ≤ E := by omega
  have hE2 : E ≤ 1048577 := by omega
  have HE := Lib.hid hE
  obtain ⟨q0, q1, q2⟩ := boxes hb rfl
  have HT1 := Lib.hid ((HT.out.kept ((Below.refl w1.heap.size w1).alloc (Nat.le_refl _) (.cells #[.int .i64 ta.k, .int .i64 ta.n, .slice a1 ta.ks.length k1] 28))).kept hb)
  have HR4 := Lib.hid (HR3.out.kept ((Below.refl w2.heap.size w2).alloc (Nat.le_refl _) (.cells #[.int .i64 tb.k, .int .i64 tb.n, .slice a2 tb.ks.length k2] 28)))
  have HB4 := Lib.hid (HB3.out.alloc HB3.out.size (.cells #[.int .i64 tb.k, .int .i64 tb.n, .slice a2 tb.ks.length k2] 28))
  clear p0 p1 p2 f0 f1 f2 psz
  obtain ⟨p0, p1, p2, f0, f1, f2, psz⟩ := HR3.out
  clear hb hty2 hE hm
  go_wp2_with fail
  go_at_call 75
  refine (sign_N s m E HE.out 41 true (by omega) H41.out _).mono ?_
  rintro e wq ⟨rfl, rfl⟩
  go_wp2_with fail
  go_at_call 90
  refine (l2Node_any 3 ta tb _ _ (w.heap.size + 1) (w.heap.size + 1) w1.heap.size _ w2.heap.size _ (HT1.out.kept ((Below.refl _ _).alloc (Nat.le_refl _) _)) (HT2.out.kept ((Below.refl _ _).alloc (Nat.le_refl _) _)) (Nat.le_refl _) ?_ ?_ ?_ ?_ ?_).mono ?_
  · have := HZ1.out; simp; omega
  · simp
  · simp; omega
  · simp
  · simp; omega
  rintro e w3 ⟨v3, rfl, hty3, hb3⟩
  have HT3 := Lib.hid hty3
  obtain ⟨a3, k3, rfl, _⟩ := hty3.at.slice
  have HR5 := Lib.hid (HR4.out.kept hb3)
  have HB5 := Lib.hid (HB4.out.trans (hb3.mono HB4.out.size))
  clear p0 p1 p2 f0 f1 f2 psz q0 q1 q2
  obtain ⟨p0, p1, p2, f0, f1, f2, psz⟩ := HR5.out
  clear hb3 hty3
  go_wp2_with fail
  exact bodyPost_ret (v := .tuple #[.agg #[.int .i64 3, .int .i64 0, .slice a3 2 k3], .int .i64 (E + 1)]) (by simp [results, Try.results92, go_sem, p0, p1, p2, psz, Ty.k, Ty.n, Ty.ks]) rfl ⟨_, _, by have := HE.out; omega, rfl, res_ty HT3.out (Nat.le_refl _) _ _ _, res_below HB5.out _ _ _⟩

set_option maxRecDepth 100000 in
set_option maxHeartbeats 2000000 in
theorem prs_j2_2 (s : ByteArray) (hs : s.size ≤ 1048576) (d : Nat) (hd : d ≤ 16) (D : Int) (i : Nat) (I : Int) (w : World) (hD : D = ((d + 1 : Nat) : Int)) (hI : I = i) (hi : i < s.size) (hc : by8 s i = 40) (HIH : Hid (PrsT s d)) (ta : Ty) (n : Nat) (HX : Hid (prs s d (i + 1) = some (ta, n))) (H42 : Hid ((by8 s n == 42) = false)) (H62 : Hid ((by8 s n == 62) = true)) (HY : Hid (prs s d (n + 1) = none)) :
    Calls Try.prog 92 #[.string s, .int .i64 I, .int .i64 D] w (PrsRet none w) := by
  have r1 := by8_idx Try.prog 9 Try.underlying9 hi
  rw [← hI, hc] at r1
  have h0 : 0 ≤ I := by omega
  have h1 : I ≤ 1048577 := by omega
  have h2 : ¬ D < 1 := by omega
  have h3 : I < (s.size : Int) := by omega
  have HI := Lib.hid (show I + 1 = ((i + 1 : Nat) : Int) by omega)
  have HR := Lib.hid (rb_new w 28)
  have HA0 : Hid (Below w.heap.size w (w.alloc (.cells #[.int .i64 0, .int .i64 0, .slice none 0 0] 28))) := Lib.hid ((Below.refl _ _).alloc (Nat.le_refl _) _)
  have HD := Lib.hid (show D - 1 = (d : Int) by omega)
  have HLE := Lib.hid (show i + 1 ≤ 1048577 by omega)
  have h4 : 1 ≤ D := by omega
  have h5 : D ≤ 17 := by omega
  have hn : n ≤ 1048576 := Nat.le_trans (prs_le s d _ _ _ HX.out) hs
  clear hI hi hD hc
  go_enter Try.func92, Try.ntmps92
  go_wp2_with fail
  go_at_call 92
  refine (HIH.out _ _ _ _ _ HD.out HI.out HLE.out HX.out).mono ?_
  rintro e w1 ⟨v, N, hN, rfl, hty, hb⟩
  rw [sizeA] at hty
  have HT := Lib.hid hty
  obtain ⟨a1, k1, rfl, _⟩ := hty.at.slice
  have hz1 : w.heap.size < w1.heap.size := by have := hb.size; simp at this; omega
  have HR1 := Lib.hid (HR.out.kept hb)
  have HB1 := Lib.hid (HA0.out.trans (hb.mono HA0.out.size))
  have hN0 : ¬ N < 0 := by omega
  have hN1 : 0 ≤ N := by omega
  have hN2 : N ≤ 1048577 := by omega
  have HN := Lib.hid hN
  have HNS := Lib.hid (show N + 1 = ((n + 1 : Nat) : Int) by omega)
  have HLE2 := Lib.hid (show n + 1 ≤ 1048577 by omega)
  have HR2 := Lib.hid (HR1.out.kept ((Below.refl w1.heap.size w1).alloc (Nat.le_refl _) (.cells #[.int .i64 ta.k, .int .i64 ta.n, .slice a1 ta.ks.length k1] 28)))
  have HB2 := Lib.hid (HB1.out.alloc HB1.out.size (.cells #[.int .i64 ta.k, .int .i64 ta.n, .slice a1 ta.ks.length k1] 28))
  obtain ⟨p0, p1, p2, f0, f1, f2, psz⟩ := HR1.out
  have HZ1 := Lib.hid hz1
  clear hb hty hN hn
  go_wp2_with fail
  go_at_call 75
  refine (sign_N s n N HN.out 42 false (by omega) H42.out _).mono ?_
  rintro e wq ⟨rfl, rfl⟩
  go_wp2_with fail
  go_at_call 75
  refine (sign_N s n N HN.out 42 false (by omega) H42.out _).mono ?_
  rintro e wq ⟨rfl, rfl⟩
  go_wp2_with fail
  go_at_call 75
  refine (sign_N s n N HN.out 62 true (by omega) H62.out _).mono ?_
  rintro e wq ⟨rfl, rfl⟩
  go_wp2_with fail
  go_at_call 92
  refine (HIH.out _ _ _ _ _ HD.out HNS.out HLE2.out HY.out).mono ?_
  rintro e w2 ⟨E, hE, hE2, rfl, hb⟩
  have HR3 := Lib.hid (HR2.out.kept hb)
  have HB3 := Lib.hid (HB2.out.trans (hb.mono HB2.out.size))
  have hz2 : w.heap.size < w2.heap.size := HR3.out.sz
  clear p0 p1 p2 f0 f1 f2 psz
  obtain ⟨p0, p1, p2, f0, f1, f2, psz⟩ := HR3.out
  clear hb
  go_wp2_with fail
  exact bodyPost_ret (v := .tuple #[.agg #[.int .i64 0, .int .i64 0, .slice none 0 0], .int .i64 E]) (by simp [results, Try.results92, go_sem, p0, p1, p2, psz]) rfl ⟨_, by omega, by omega, rfl, (res_below HB3.out _ _ _).alloc (by have := HB3.out.size; simp; omega) _⟩

set_option maxRecDepth 100000 in
set_option maxHeartbeats 2000000 in
theorem prs_j3_2 (s : ByteArray) (hs : s.size ≤ 1048576) (d : Nat) (hd : d ≤ 16) (D : Int) (i : Nat) (I : Int) (w : World) (hD : D = ((d + 1 : Nat) : Int)) (hI : I = i) (hi : i < s.size) (hc : by8 s i = 40) (HIH : Hid (PrsT s d)) (ta : Ty) (n : Nat) (HX : Hid (prs s d (i + 1) = some (ta, n))) (H42 : Hid ((by8 s n == 42) = false)) (H62 : Hid ((by8 s n == 62) = true)) (tb : Ty) (m : Nat) (HY : Hid (prs s d (n + 1) = some (tb, m))) (H41 : Hid ((by8 s m == 41) = false)) :
    Calls Try.prog 92 #[.string s, .int .i64 I, .int .i64 D] w (PrsRet none w) := by
  have r1 := by8_idx Try.prog 9 Try.underlying9 hi
  rw [← hI, hc] at r1
  have h0 : 0 ≤ I := by omega
  have h1 : I ≤ 1048577 := by omega
  have h2 : ¬ D < 1 := by omega
  have h3 : I < (s.size : Int) := by omega
  have HI := Lib.hid (show I + 1 = ((i + 1 : Nat) : Int) by omega)
  have HR := Lib.hid (rb_new w 28)
  have HA0 : Hid (Below w.heap.size w (w.alloc (.cells #[.int .i64 0, .int .i64 0, .slice none 0 0] 28))) := Lib.hid ((Below.refl _ _).alloc (Nat.le_refl _) _)
  have HD := Lib.hid (show D - 1 = (d : Int) by omega)
  have HLE := Lib.hid (show i + 1 ≤ 1048577 by omega)
  have h4 : 1 ≤ D := by omega
  have h5 : D ≤ 17 := by omega
  have hn : n ≤ 1048576 := Nat.le_trans (prs_le s d _ _ _ HX.out) hs
  clear hI hi hD hc
  go_enter Try.func92, Try.ntmps92
  go_wp2_with fail
  go_at_call 92
  refine (HIH.out _ _ _ _ _ HD.out HI.out HLE.out HX.out).mono ?_
  rintro e w1 ⟨v, N, hN, rfl, hty, hb⟩
  rw [sizeA] at hty
  have HT := Lib.hid hty
  obtain ⟨a1, k1, rfl, _⟩ := hty.at.slice
  have hz1 : w.heap.size < w1.heap.size := by have := hb.size; simp at this; omega
  have HR1 := Lib.hid (HR.out.kept hb)
  have HB1 := Lib.hid (HA0.out.trans (hb.mono HA0.out.size))
  have hN0 : ¬ N < 0 := by omega
  have hN1 : 0 ≤ N := by omega
  have hN2 : N ≤ 1048577 := by omega
  have HN := Lib.hid hN
  have HNS := Lib.hid (show N + 1 = ((n + 1 : Nat) : Int) by omega)
  have HLE2 := Lib.hid (show n + 1 ≤ 1048577 by omega)
  have HR2 := Lib.hid (HR1.out.kept ((Below.refl w1.heap.size w1).alloc (Nat.le_refl _) (.cells #[.int .i64 ta.k, .int .i64 ta.n, .slice a1 ta.ks.length k1] 28)))
  have HB2 := Lib.hid (HB1.out.alloc HB1.out.size (.cells #[.int .i64 ta.k, .int .i64 ta.n, .slice a1 ta.ks.length k1] 28))
  obtain ⟨p0, p1, p2, f0, f1, f2, psz⟩ := HR1.out
  have HZ1 := Lib.hid hz1
  clear hb hty hN hn
  go_wp2_with fail
  go_at_call 75
  refine (sign_N s n N HN.out 42 false (by omega) H42.out _).mono ?_
  rintro e wq ⟨rfl, rfl⟩
  go_wp2_with fail
  go_at_call 75
  refine (sign_N s n N HN.out 42 false (by omega) H42.out _).mono ?_
  rintro e wq ⟨rfl, rfl⟩
  go_wp2_with fail
  go_at_call 75
  refine (sign_N s n N HN.out 62 true (by omega) H62.out _).mono ?_
  rintro e wq ⟨rfl, rfl⟩
  go_wp2_with fail
  go_at_call 92
  refine (HIH.out _ _ _ _ _ HD.out HNS.out HLE2.out HY.out).mono ?_
  rintro e w2 ⟨v2, E, hE, rfl, hty2, hb⟩
  have HT2 := Lib.hid hty2
  obtain ⟨a2, k2, rfl, _⟩ := hty2.at.slice
  have hm : m ≤ 1048576 := Nat.le_trans (prs_le s d _ _ _ HY.out) hs
  have HR3 := Lib.hid (HR2.out.kept hb)
  have HB3 := Lib.hid (HB2.out.trans (hb.mono HB2.out.size))
  have hz2 : w.heap.size < w2.heap.size := HR3.out.sz
  have hz3 : w1.heap.size < w2.heap.size := by have := hb.size; simp at this; omega
  have hE0 : ¬ E < 0 := by omega
  have hE1 : 0 ≤ E := by omega
  have hE2 : E ≤ 1048577 := by omega
  have HE := Lib.hid hE
  obtain ⟨q0, q1, q2⟩ := boxes hb rfl
  have HT1 := Lib.hid ((HT.out.kept ((Below.refl w1.heap.size w1).alloc (Nat.le_refl _) (.cells #[.int .i64 ta.k, .int .i64 ta.n, .slice a1 ta.ks.length k1] 28))).kept hb)
  have HR4 := Lib.hid (HR3.out.kept ((Below.refl w2.heap.size w2).alloc (Nat.le_refl _) (.cells #[.int .i64 tb.k, .int .i64 tb.n, .slice a2 tb.ks.length k2] 28)))
  have HB4 := Lib.hid (HB3.out.alloc HB3.out.size (.cells #[.int .i64 tb.k, .int .i64 tb.n, .slice a2 tb.ks.length k2] 28))
  clear p0 p1 p2 f0 f1 f2 psz
  obtain ⟨p0, p1, p2, f0, f1, f2, psz⟩ := HR3.out
  clear hb hty2 hE hm
  go_wp2_with fail
  go_at_call 75
  refine (sign_N s m E HE.out 41 false (by omega) H41.out _).mono ?_
  rintro e wq ⟨rfl, rfl⟩
  go_wp2_with fail
  exact bodyPost_ret (v := .tuple #[.agg #[.int .i64 0, .int .i64 0, .slice none 0 0], .int .i64 (-1 - E)]) (by simp [results, Try.results92, go_sem, p0, p1, p2, psz, hz2]) rfl ⟨_, by omega, by omega, rfl, (res_below HB3.out _ _ _).alloc (by have := HB3.out.size; simp; omega) _⟩

set_option maxRecDepth 100000 in
set_option maxHeartbeats 2000000 in
theorem prs_j4_2 (s : ByteArray) (hs : s.size ≤ 1048576) (d : Nat) (hd : d ≤ 16) (D : Int) (i : Nat) (I : Int) (w : World) (hD : D = ((d + 1 : Nat) : Int)) (hI : I = i) (hi : i < s.size) (hc : by8 s i = 40) (HIH : Hid (PrsT s d)) (ta : Ty) (n : Nat) (HX : Hid (prs s d (i + 1) = some (ta, n))) (H42 : Hid ((by8 s n == 42) = false)) (H62 : Hid ((by8 s n == 62) = true)) (tb : Ty) (m : Nat) (HY : Hid (prs s d (n + 1) = some (tb, m))) (H41 : Hid ((by8 s m == 41) = true)) :
    Calls Try.prog 92 #[.string s, .int .i64 I, .int .i64 D] w (PrsRet (some (.node 2 0 [ta, tb], m + 1)) w) := by
  have r1 := by8_idx Try.prog 9 Try.underlying9 hi
  rw [← hI, hc] at r1
  have h0 : 0 ≤ I := by omega
  have h1 : I ≤ 1048577 := by omega
  have h2 : ¬ D < 1 := by omega
  have h3 : I < (s.size : Int) := by omega
  have HI := Lib.hid (show I + 1 = ((i + 1 : Nat) : Int) by omega)
  have HR := Lib.hid (rb_new w 28)
  have HA0 : Hid (Below w.heap.size w (w.alloc (.cells #[.int .i64 0, .int .i64 0, .slice none 0 0] 28))) := Lib.hid ((Below.refl _ _).alloc (Nat.le_refl _) _)
  have HD := Lib.hid (show D - 1 = (d : Int) by omega)
  have HLE := Lib.hid (show i + 1 ≤ 1048577 by omega)
  have h4 : 1 ≤ D := by omega
  have h5 : D ≤ 17 := by omega
  have hn : n ≤ 1048576 := Nat.le_trans (prs_le s d _ _ _ HX.out) hs
  clear hI hi hD hc
  go_enter Try.func92, Try.ntmps92
  go_wp2_with fail
  go_at_call 92
  refine (HIH.out _ _ _ _ _ HD.out HI.out HLE.out HX.out).mono ?_
  rintro e w1 ⟨v, N, hN, rfl, hty, hb⟩
  rw [sizeA] at hty
  have HT := Lib.hid hty
  obtain ⟨a1, k1, rfl, _⟩ := hty.at.slice
  have hz1 : w.heap.size < w1.heap.size := by have := hb.size; simp at this; omega
  have HR1 := Lib.hid (HR.out.kept hb)
  have HB1 := Lib.hid (HA0.out.trans (hb.mono HA0.out.size))
  have hN0 : ¬ N < 0 := by omega
  have hN1 : 0 ≤ N := by omega
  have hN2 : N ≤ 1048577 := by omega
  have HN := Lib.hid hN
  have HNS := Lib.hid (show N + 1 = ((n + 1 : Nat) : Int) by omega)
  have HLE2 := Lib.hid (show n + 1 ≤ 1048577 by omega)
  have HR2 := Lib.hid (HR1.out.kept ((Below.refl w1.heap.size w1).alloc (Nat.le_refl _) (.cells #[.int .i64 ta.k, .int .i64 ta.n, .slice a1 ta.ks.length k1] 28)))
  have HB2 := Lib.hid (HB1.out.alloc HB1.out.size (.cells #[.int .i64 ta.k, .int .i64 ta.n, .slice a1 ta.ks.length k1] 28))
  obtain ⟨p0, p1, p2, f0, f1, f2, psz⟩ := HR1.out
  have HZ1 := Lib.hid hz1
  clear hb hty hN hn
  go_wp2_with fail
  go_at_call 75
  refine (sign_N s n N HN.out 42 false (by omega) H42.out _).mono ?_
  rintro e wq ⟨rfl, rfl⟩
  go_wp2_with fail
  go_at_call 75
  refine (sign_N s n N HN.out 42 false (by omega) H42.out _).mono ?_
  rintro e wq ⟨rfl, rfl⟩
  go_wp2_with fail
  go_at_call 75
  refine (sign_N s n N HN.out 62 true (by omega) H62.out _).mono ?_
  rintro e wq ⟨rfl, rfl⟩
  go_wp2_with fail
  go_at_call 92
  refine (HIH.out _ _ _ _ _ HD.out HNS.out HLE2.out HY.out).mono ?_
  rintro e w2 ⟨v2, E, hE, rfl, hty2, hb⟩
  have HT2 := Lib.hid hty2
  obtain ⟨a2, k2, rfl, _⟩ := hty2.at.slice
  have hm : m ≤ 1048576 := Nat.le_trans (prs_le s d _ _ _ HY.out) hs
  have HR3 := Lib.hid (HR2.out.kept hb)
  have HB3 := Lib.hid (HB2.out.trans (hb.mono HB2.out.size))
  have hz2 : w.heap.size < w2.heap.size := HR3.out.sz
  have hz3 : w1.heap.size < w2.heap.size := by have := hb.size; simp at this; omega
  have hE0 : ¬ E < 0 := by omega
  have hE1 : 0 ≤ E := by omega
  have hE2 : E ≤ 1048577 := by omega
  have HE := Lib.hid hE
  obtain ⟨q0, q1, q2⟩ := boxes hb rfl
  have HT1 := Lib.hid ((HT.out.kept ((Below.refl w1.heap.size w1).alloc (Nat.le_refl _) (.cells #[.int .i64 ta.k, .int .i64 ta.n, .slice a1 ta.ks.length k1] 28))).kept hb)
  have HR4 := Lib.hid (HR3.out.kept ((Below.refl w2.heap.size w2).alloc (Nat.le_refl _) (.cells #[.int .i64 tb.k, .int .i64 tb.n, .slice a2 tb.ks.length k2] 28)))
  have HB4 := Lib.hid (HB3.out.alloc HB3.out.size (.cells #[.int .i64 tb.k, .int .i64 tb.n, .slice a2 tb.ks.length k2] 28))
  clear p0 p1 p2 f0 f1 f2 psz
  obtain ⟨p0, p1, p2, f0, f1, f2, psz⟩ := HR3.out
  clear hb hty2 hE hm
  go_wp2_with fail
  go_at_call 75
  refine (sign_N s m E HE.out 41 true (by omega) H41.out _).mono ?_
  rintro e wq ⟨rfl, rfl⟩
  go_wp2_with fail
  go_at_call 90
  refine (l2Node_any 2 ta tb _ _ (w.heap.size + 1) (w.heap.size + 1) w1.heap.size _ w2.heap.size _ (HT1.out.kept ((Below.refl _ _).alloc (Nat.le_refl _) _)) (HT2.out.kept ((Below.refl _ _).alloc (Nat.le_refl _) _)) (Nat.le_refl _) ?_ ?_ ?_ ?_ ?_).mono ?_
  · have := HZ1.out; simp; omega
  · simp
  · simp; omega
  · simp
  · simp; omega
  rintro e w3 ⟨v3, rfl, hty3, hb3⟩
  have HT3 := Lib.hid hty3
  obtain ⟨a3, k3, rfl, _⟩ := hty3.at.slice
  have HR5 := Lib.hid (HR4.out.kept hb3)
  have HB5 := Lib.hid (HB4.out.trans (hb3.mono HB4.out.size))
  clear p0 p1 p2 f0 f1 f2 psz q0 q1 q2
  obtain ⟨p0, p1, p2, f0, f1, f2, psz⟩ := HR5.out
  clear hb3 hty3
  go_wp2_with fail
  exact bodyPost_ret (v := .tuple #[.agg #[.int .i64 2, .int .i64 0, .slice a3 2 k3], .int .i64 (E + 1)]) (by simp [results, Try.results92, go_sem, p0, p1, p2, psz, Ty.k, Ty.n, Ty.ks]) rfl ⟨_, _, by have := HE.out; omega, rfl, res_ty HT3.out (Nat.le_refl _) _ _ _, res_below HB5.out _ _ _⟩

end Go.Proofs.Ytlgbkhkmfgdehaa

namespace Go.Proofs.Ytlgbkhkmfgdehaa
open Go.RowKit
set_option linter.unusedVariables false
set_option linter.unusedSimpArgs false

theorem prs_any (s : ByteArray) (hs : s.size ≤ 1048576) : ∀ (d : Nat), d ≤ 17 → PrsT s d := by
  intro d
  induction d with
  | zero => intro _; exact prs_0 s
  | succ d ih =>
    intro hd D i I w r hD hI hi hr
    have HIH := Lib.hid (ih (by omega))
    have hd' : d ≤ 16 := by omega
    by_cases h : i < s.size
    case neg => rw [prs, if_neg h] at hr; subst hr; exact prs_e s d D i I w hD hI hi h
    rw [prs, if_pos h] at hr
    by_cases h73 : by8 s i = 73
    · rw [if_pos h73] at hr; subst hr; exact prs_num s hs d hd' D i I w hD hI h _ rfl (by simp [h73])
    rw [if_neg h73] at hr
    by_cases hv : 97 ≤ by8 s i ∧ by8 s i ≤ 122
    · rw [if_pos hv] at hr; subst hr; exact prs_var s hs d hd' D i I w hD hI h _ rfl hv.1 hv.2
    rw [if_neg hv] at hr
    by_cases h40 : by8 s i = 40
    case neg =>
      rw [if_neg h40] at hr
      subst hr
      by_cases h97 : by8 s i < 97
      · exact prs_lo s hs d hd' D i I w hD hI h _ rfl (by simpa using h73) h97 (by simpa using h40)
      · exact prs_hi s hs d hd' D i I w hD hI h _ rfl (by omega)
    rw [if_pos h40] at hr
    rcases hx : prs s d (i + 1) with _ | ⟨ta, n⟩
    · rw [hx] at hr; subst hr; exact prs_j0 s hs d hd' D i I w hD hI h h40 HIH (Lib.hid hx)
    rw [hx] at hr
    simp only at hr
    by_cases hk : by8 s n = 42 ∨ by8 s n = 62
    case neg =>
      rw [if_neg hk] at hr
      subst hr
      exact prs_j1 s hs d hd' D i I w hD hI h h40 HIH ta n (Lib.hid hx) (Lib.hid (by simp; omega)) (Lib.hid (by simp; omega))
    rw [if_pos hk] at hr
    rcases hk with hk | hk
    · rw [if_pos hk] at hr
      have H1 : Hid ((by8 s n == 42) = true) := Lib.hid (by simp [hk])
      have H2 : Hid ((by8 s n == 62) = false) := Lib.hid (by simp [hk])
      rcases hy : prs s d (n + 1) with _ | ⟨tb, m⟩
      · rw [hy] at hr; subst hr; exact prs_j2_3 s hs d hd' D i I w hD hI h h40 HIH ta n (Lib.hid hx) H1 H2 (Lib.hid hy)
      rw [hy] at hr
      simp only at hr
      by_cases hm : by8 s m = 41
      · rw [if_pos hm] at hr; subst hr; exact prs_j4_3 s hs d hd' D i I w hD hI h h40 HIH ta n (Lib.hid hx) H1 H2 tb m (Lib.hid hy) (Lib.hid (by simp [hm]))
      · rw [if_neg hm] at hr; subst hr; exact prs_j3_3 s hs d hd' D i I w hD hI h h40 HIH ta n (Lib.hid hx) H1 H2 tb m (Lib.hid hy) (Lib.hid (by simpa using hm))
    · rw [if_neg (show ¬ by8 s n = 42 by omega)] at hr
      have H1 : Hid ((by8 s n == 42) = false) := Lib.hid (by simp [hk])
      have H2 : Hid ((by8 s n == 62) = true) := Lib.hid (by simp [hk])
      rcases hy : prs s d (n + 1) with _ | ⟨tb, m⟩
      · rw [hy] at hr; subst hr; exact prs_j2_2 s hs d hd' D i I w hD hI h h40 HIH ta n (Lib.hid hx) H1 H2 (Lib.hid hy)
      rw [hy] at hr
      simp only at hr
      by_cases hm : by8 s m = 41
      · rw [if_pos hm] at hr; subst hr; exact prs_j4_2 s hs d hd' D i I w hD hI h h40 HIH ta n (Lib.hid hx) H1 H2 tb m (Lib.hid hy) (Lib.hid (by simp [hm]))
      · rw [if_neg hm] at hr; subst hr; exact prs_j3_2 s hs d hd' D i I w hD hI h h40 HIH ta n (Lib.hid hx) H1 H2 tb m (Lib.hid hy) (Lib.hid (by simpa using hm))

/-- What is behind the opening parenthesis. -/
def prsJ (s : ByteArray) (d i : Nat) : Option (Ty × Nat) :=
  match prs s d i with
  | none => none
  | some (a, n) =>
    if by8 s n = 42 ∨ by8 s n = 62 then
      match prs s d (n + 1) with
      | none => none
      | some (b, m) => if by8 s m = 41 then some (.node (if by8 s n = 42 then 3 else 2) 0 [a, b], m + 1) else none
    else none
theorem prs_40 {s : ByteArray} {d i : Nat} (hi : i < s.size) (h : by8 s i = 40) : prs s (d + 1) i = prsJ s d (i + 1) := by
  rw [prs, if_pos hi, if_neg (by omega), if_neg (by omega), if_pos h]; rfl

theorem RB.inside {w w' : World} {B p : Nat} (h : RB w B) (hI : Inside p (p + 1) w w') (hp : p < B) : RB w' B := h.keep hI.size (hI.block B h.sz (.inr (by omega)))
/-- What parse returns, and where the parser stands behind it. -/
def ImpRet (p : Nat) (s : ByteArray) : Option (Ty × Nat) → World → Ending → World → Prop
  | some (t, n), w, e, w' => ∃ v, e = .returned (.tuple #[.agg #[.int .i64 t.k, .int .i64 t.n, v], .bool true]) ∧ TyIn w' w.heap.size w'.heap.size t v ∧ PAt w' p s n ∧ Inside p (p + 1) w w'
  | none, w, e, w' => e = .returned (.tuple #[.agg #[.int .i64 0, .int .i64 0, .slice none 0 0], .bool false]) ∧ (∃ n, n ≤ s.size ∧ PAt w' p s n) ∧ Inside p (p + 1) w w'
theorem imp_res {w W : World} {p B : Nat} (h : Inside p (p + 1) w W) (hB : w.heap.size ≤ B) (hp : p < w.heap.size) (hs : w.heap.size ≤ W.heap.size) (x y z : Value) :
    Inside p (p + 1) w (((W.setCell ⟨B, 0, none⟩ x).setCell ⟨B, 1, none⟩ y).setCell ⟨B, 2, none⟩ z) := by
  refine ⟨h.os, h.tape, h.output, by simpa using h.size, fun b hb hx => ?_⟩
  rw [heap_setCell_other _ ⟨B, 2, none⟩ b _ (by show b ≠ B; omega), heap_setCell_other _ ⟨B, 1, none⟩ b _ (by show b ≠ B; omega), heap_setCell_other _ ⟨B, 0, none⟩ b _ (by show b ≠ B; omega)]
  exact h.block b hb hx
theorem PAt.res {W : World} {p B n : Nat} {s : ByteArray} (h : PAt W p s n) (hp : p ≠ B) (x y z : Value) : PAt (((W.setCell ⟨B, 0, none⟩ x).setCell ⟨B, 1, none⟩ y).setCell ⟨B, 2, none⟩ z) p s n := by
  have e : (((W.setCell ⟨B, 0, none⟩ x).setCell ⟨B, 1, none⟩ y).setCell ⟨B, 2, none⟩ z).heap[p]? = W.heap[p]? := by
    rw [heap_setCell_other _ ⟨B, 2, none⟩ p _ hp, heap_setCell_other _ ⟨B, 1, none⟩ p _ hp, heap_setCell_other _ ⟨B, 0, none⟩ p _ hp]
  exact ⟨(cellEq e).trans h.c0, (cellEq e).trans h.c1, (frozenEq e).trans h.f1, by simpa using h.sz⟩

end Go.Proofs.Ytlgbkhkmfgdehaa

namespace Go.Proofs.Ytlgbkhkmfgdehaa
open Go.RowKit
set_option linter.unusedVariables false
set_option linter.unusedSimpArgs false

theorem box_inside {w w1 w2 : World} {B p : Nat} {x y z : Value} (h : w1.cell? ⟨B, 0, none⟩ = some x ∧ w1.cell? ⟨B, 1, none⟩ = some y ∧ w1.cell? ⟨B, 2, none⟩ = some z) (hI : Inside p (p + 1) w1 w2) (hp : p < B) (hB : B < w1.heap.size) :
    w2.cell? ⟨B, 0, none⟩ = some x ∧ w2.cell? ⟨B, 1, none⟩ = some y ∧ w2.cell? ⟨B, 2, none⟩ = some z := by
  have e := hI.block B hB (.inr (by omega))
  exact ⟨(cellEq e).trans h.1, (cellEq e).trans h.2.1, (cellEq e).trans h.2.2⟩
theorem box_new (w : World) (x y z : Value) (T : TypeId) : (w.alloc (.cells #[x, y, z] T)).cell? ⟨w.heap.size, 0, none⟩ = some x ∧ (w.alloc (.cells #[x, y, z] T)).cell? ⟨w.heap.size, 1, none⟩ = some y ∧ (w.alloc (.cells #[x, y, z] T)).cell? ⟨w.heap.size, 2, none⟩ = some z := ⟨by go_simp, by go_simp, by go_simp⟩
theorem bx_kept {w1 w2 : World} {B : Nat} {x y z : Value} (h : w1.cell? ⟨B, 0, none⟩ = some x ∧ w1.cell? ⟨B, 1, none⟩ = some y ∧ w1.cell? ⟨B, 2, none⟩ = some z) (hb : Below w1.heap.size w1 w2) (hB : B < w1.heap.size) :
    w2.cell? ⟨B, 0, none⟩ = some x ∧ w2.cell? ⟨B, 1, none⟩ = some y ∧ w2.cell? ⟨B, 2, none⟩ = some z :=
  ⟨(hb.cell (p := ⟨B, 0, none⟩) hB).trans h.1, (hb.cell (p := ⟨B, 1, none⟩) hB).trans h.2.1, (hb.cell (p := ⟨B, 2, none⟩) hB).trans h.2.2⟩
theorem TyIn.inside {w w' : World} {lo hi p : Nat} {t : Ty} {v : Value} (h : TyIn w lo hi t v) (hI : Inside p (p + 1) w w') (hp : p < lo) : TyIn w' lo hi t v :=
  h.keep hI.size (fun b h1 _ h3 => hI.block b h3 (.inr (by omega)))

end Go.Proofs.Ytlgbkhkmfgdehaa

namespace Go.Proofs.Ytlgbkhkmfgdehaa
open Go.RowKit

/-- The text of a type, down to a depth. -/
def txt : Nat → Ty → ByteArray
  | 0, _ => ⟨#[]⟩
  | d + 1, t => if t.k = 1 then ⟨#[73]⟩ else if t.k = 4 then ⟨#[UInt8.ofNat (97 + t.n.toNat)]⟩
    else ⟨#[40]⟩ ++ txt d (t.ks.getD 0 Ty.dummy) ++ (if t.k = 3 then ⟨#[42]⟩ else ⟨#[62]⟩) ++ txt d (t.ks.getD 1 Ty.dummy) ++ ⟨#[41]⟩
theorem txt_num {d : Nat} {t : Ty} (h : t.k = 1) : txt (d + 1) t = ⟨#[73]⟩ := by rw [txt, if_pos h]
theorem txt_var {d : Nat} {t : Ty} (h : t.k = 4) : txt (d + 1) t = ⟨#[UInt8.ofNat (97 + t.n.toNat)]⟩ := by rw [txt, if_neg (by omega), if_pos h]
theorem txt_fun {d : Nat} {t : Ty} (h : t.k = 2) : txt (d + 1) t = ⟨#[40]⟩ ++ txt d (t.ks.getD 0 Ty.dummy) ++ ⟨#[62]⟩ ++ txt d (t.ks.getD 1 Ty.dummy) ++ ⟨#[41]⟩ := by
  rw [txt, if_neg (by omega), if_neg (by omega), if_neg (by omega)]
theorem txt_pair {d : Nat} {t : Ty} (h : t.k = 3) : txt (d + 1) t = ⟨#[40]⟩ ++ txt d (t.ks.getD 0 Ty.dummy) ++ ⟨#[42]⟩ ++ txt d (t.ks.getD 1 Ty.dummy) ++ ⟨#[41]⟩ := by
  rw [txt, if_neg (by omega), if_neg (by omega), if_pos h]
theorem one_size (c : UInt8) : (⟨#[c]⟩ : ByteArray).size = 1 := rfl
theorem txt_size : ∀ (d : Nat) (t : Ty), shp d t = true → (txt d t).size + 3 ≤ 2 ^ (d + 2) := by
  intro d
  induction d with
  | zero => intro t h; cases h
  | succ d ih =>
    intro t h
    obtain ⟨hf, hk⟩ := shp_iff.1 h
    have hp : 2 ^ (d + 1 + 2) = 2 * 2 ^ (d + 2) := by rw [Nat.pow_succ]; omega
    have h4 : 4 ≤ 2 ^ (d + 2) := by have : 2 ^ 2 ≤ 2 ^ (d + 2) := Nat.pow_le_pow_right (by omega) (by omega); simpa using this
    rcases fieldsB_iff.1 hf with ⟨h1, _, _⟩ | ⟨h1, _, h2⟩ | ⟨h1, _, _, _⟩
    · rw [txt_num h1, one_size]; omega
    · have i0 := ih _ (hk 0 (by omega))
      have i1 := ih _ (hk 1 (by omega))
      rcases h1 with h1 | h1
      · rw [txt_fun h1]; simp only [ByteArray.size_append, one_size]; omega
      · rw [txt_pair h1]; simp only [ByteArray.size_append, one_size]; omega
    · rw [txt_var h1, one_size]; omega
theorem txt_le {d : Nat} {t : Ty} (hd : d ≤ 16) (h : shp d t = true) : (txt d t).size ≤ 262144 := by
  have h1 := txt_size d t h
  have h2 : 2 ^ (d + 2) ≤ 262144 := Nat.le_trans (Nat.pow_le_pow_right (by omega) (show d + 2 ≤ 18 by omega)) (by decide)
  omega
theorem enc_letter {n : Int} (h0 : 0 ≤ n) (h1 : n ≤ 25) : Utf8.encode (97 + n) = ⟨#[UInt8.ofNat (97 + n.toNat)]⟩ := by
  obtain ⟨m, rfl⟩ : ∃ m : Nat, n = m := ⟨n.toNat, by omega⟩
  have key : ∀ m : Fin 26, Utf8.encode (97 + (m.val : Int)) = ⟨#[UInt8.ofNat (97 + (m.val : Int).toNat)]⟩ := by decide
  exact key ⟨m, by omega⟩
structure TBox3 (w : World) (B : Nat) (z : Value) : Prop where
  c2 : w.cell? ⟨B, 2, none⟩ = some z
  sz : B < w.heap.size
theorem TBox3.kept {w w' : World} {B : Nat} {z : Value} (h : TBox3 w B z) (hb : Below w.heap.size w w') : TBox3 w' B z :=
  ⟨(hb.cell (p := ⟨B, 2, none⟩) h.sz).trans h.c2, Nat.lt_of_lt_of_le h.sz hb.size⟩
theorem tbox3_new (w : World) (x y z : Value) (T : TypeId) : TBox3 (w.alloc (.cells #[x, y, z] T)) w.heap.size z := ⟨by go_simp, by simp⟩
def TextIs (s : ByteArray) (w : World) (e : Ending) (w' : World) : Prop := e = .returned (.string s) ∧ Below w.heap.size w w'

end Go.Proofs.Ytlgbkhkmfgdehaa

namespace Go.Proofs.Ytlgbkhkmfgdehaa
open Go.RowKit

theorem tvT_shp {t : Ty} (h : tvT t = true) : shp 16 t = true := by
  rcases hs : shp 16 t with _ | _
  · rw [tvT_no hs] at h; cases h
  · rfl
/-- The text that FormatType returns. -/
def fmtT (t : Ty) : ByteArray := if tvT t = true then txt 16 t else ⟨#[]⟩
theorem fmtT_no {t : Ty} (h : tvT t = false) : fmtT t = ⟨#[]⟩ := by unfold fmtT; rw [if_neg (by rw [h]; decide)]
theorem fmtT_yes {t : Ty} (h : tvT t = true) : fmtT t = txt 16 t := by unfold fmtT; rw [if_pos h]

theorem typeValid_impl_val {t : Ty} {b : Bool} (hb : tvT t = b) (v : Value) (w : World) (hx : TyAt w t v) :
    Calls Try.prog 36 #[.agg #[.int .i64 t.k, .int .i64 t.n, v]] w fun e w' => e = .returned (.bool b) ∧ Below w.heap.size w w' := by
  subst hb; exact typeValid_impl t v w hx
theorem typeValid_spec_val {t : Ty} {b : Bool} (hb : tvT t = b) (v : Value) (w : World) (hx : TyAt w t v) :
    Calls Try.prog 38 #[.agg #[.int .i64 t.k, .int .i64 t.n, v]] w fun e w' => e = .returned (.bool b) ∧ Below w.heap.size w w' := by
  subst hb; exact typeValid_spec t v w hx
end Go.Proofs.Ytlgbkhkmfgdehaa

namespace Go.Proofs.Ytlgbkhkmfgdehaa
open Go.RowKit
set_option linter.unusedVariables false
set_option linter.unusedSimpArgs false

/-- The valid type whose text is s. -/
def pT (s : ByteArray) : Option Ty :=
  match prs s 16 0 with
  | some (t, n) => if n = s.size ∧ tvT t = true then some t else none
  | none => none
theorem pT_none {s : ByteArray} (h : prs s 16 0 = none) : pT s = none := by rw [pT, h]
theorem pT_off {s : ByteArray} {t : Ty} {n : Nat} (h : prs s 16 0 = some (t, n)) (hn : n ≠ s.size) : pT s = none := by rw [pT, h]; simp [hn]
theorem pT_bad {s : ByteArray} {t : Ty} {n : Nat} (h : prs s 16 0 = some (t, n)) (ht : tvT t = false) : pT s = none := by rw [pT, h]; simp [ht]
theorem pT_some {s : ByteArray} {t : Ty} {n : Nat} (h : prs s 16 0 = some (t, n)) (hn : n = s.size) (ht : tvT t = true) : pT s = some t := by rw [pT, h]; simp [hn, ht]
/-- A type and whether there is one. -/
def OptRet : Option Ty → World → Ending → World → Prop
  | some t, w, e, w' => ∃ v, e = .returned (.tuple #[.agg #[.int .i64 t.k, .int .i64 t.n, v], .bool true]) ∧ TyIn w' w.heap.size w'.heap.size t v ∧ Below w.heap.size w w'
  | none, w, e, w' => e = .returned (.tuple #[.agg #[.int .i64 0, .int .i64 0, .slice none 0 0], .bool false]) ∧ Below w.heap.size w w'
theorem RB.below {w w' : World} {B : Nat} (h : RB w B) (hb : Below w.heap.size w w') : RB w' B := h.kept hb

set_option maxRecDepth 100000 in
set_option maxHeartbeats 2000000 in
theorem spec_a (s : ByteArray) (hs : s.size ≤ 1048576) (w : World) (HX : Hid (prs s 16 0 = none)) :
    Calls Try.prog 56 #[.string s] w (OptRet none w) := by
  have HIH := Lib.hid (prs_any s hs 16 (by omega))
  have HR0 := Lib.hid (rb_new w 28)
  have HB0 : Hid (Below w.heap.size w (w.alloc (.cells #[.int .i64 0, .int .i64 0, .slice none 0 0] 28))) := Lib.hid ((Below.refl _ _).alloc (Nat.le_refl _) _)
  go_enter Try.func56, Try.ntmps56
  go_wp2_with fail
  go_at_call 92
  refine (HIH.out 16 0 0 _ _ rfl rfl (by omega) HX.out).mono ?_
  rintro e w1 ⟨N, hN, hN2, rfl, hb⟩
  have hne : (N != (s.size : Int)) = true := by simp; omega
  have hne2 : (N == (s.size : Int)) = false := by simp; omega
  have HR1 := Lib.hid (HR0.out.kept hb)
  have HB1 := Lib.hid (HB0.out.trans (hb.mono HB0.out.size))
  obtain ⟨p0, p1, p2, f0, f1, f2, psz⟩ := HR1.out
  clear hb
  go_wp2_with fail
  exact bodyPost_ret (v := .tuple #[.agg #[.int .i64 0, .int .i64 0, .slice none 0 0], .bool false]) (by simp [results, Try.results56, go_sem, p0, p1, p2, psz]) rfl ⟨rfl, (res_below HB1.out _ _ _).alloc (by have := HB1.out.size; simp; omega) _⟩

set_option maxRecDepth 100000 in
set_option maxHeartbeats 2000000 in
theorem spec_b (s : ByteArray) (hs : s.size ≤ 1048576) (w : World) (t : Ty) (n : Nat) (HX : Hid (prs s 16 0 = some (t, n))) (hq : n ≠ s.size) :
    Calls Try.prog 56 #[.string s] w (OptRet none w) := by
  have HIH := Lib.hid (prs_any s hs 16 (by omega))
  have HR0 := Lib.hid (rb_new w 28)
  have HB0 : Hid (Below w.heap.size w (w.alloc (.cells #[.int .i64 0, .int .i64 0, .slice none 0 0] 28))) := Lib.hid ((Below.refl _ _).alloc (Nat.le_refl _) _)
  go_enter Try.func56, Try.ntmps56
  go_wp2_with fail
  go_at_call 92
  refine (HIH.out 16 0 0 _ _ rfl rfl (by omega) HX.out).mono ?_
  rintro e w1 ⟨v, N, hN, rfl, hty, hb⟩
  obtain ⟨a1, k1, rfl, _⟩ := hty.at.slice
  have hn : n ≤ s.size := prs_le s 16 _ _ _ HX.out
  have HR1 := Lib.hid (HR0.out.kept hb)
  have HB1 := Lib.hid (HB0.out.trans (hb.mono HB0.out.size))
  rw [sizeA] at hty
  have HT1 := Lib.hid hty
  obtain ⟨p0, p1, p2, f0, f1, f2, psz⟩ := HR1.out
  clear hb hty
  have hne2 : ¬ N = (s.size : Int) := by omega
  clear hn hq hN
  go_wp2_with fail
  exact bodyPost_ret (v := .tuple #[.agg #[.int .i64 0, .int .i64 0, .slice none 0 0], .bool false]) (by simp [results, Try.results56, go_sem, p0, p1, p2, psz]) rfl ⟨rfl, (res_below HB1.out _ _ _).alloc (by have := HB1.out.size; simp; omega) _⟩

set_option maxRecDepth 100000 in
set_option maxHeartbeats 2000000 in
theorem spec_c (s : ByteArray) (hs : s.size ≤ 1048576) (w : World) (t : Ty) (n : Nat) (HX : Hid (prs s 16 0 = some (t, n))) (hq : n = s.size) (HV : Hid (tvT t = false)) :
    Calls Try.prog 56 #[.string s] w (OptRet none w) := by
  have HIH := Lib.hid (prs_any s hs 16 (by omega))
  have HR0 := Lib.hid (rb_new w 28)
  have HB0 : Hid (Below w.heap.size w (w.alloc (.cells #[.int .i64 0, .int .i64 0, .slice none 0 0] 28))) := Lib.hid ((Below.refl _ _).alloc (Nat.le_refl _) _)
  go_enter Try.func56, Try.ntmps56
  go_wp2_with fail
  go_at_call 92
  refine (HIH.out 16 0 0 _ _ rfl rfl (by omega) HX.out).mono ?_
  rintro e w1 ⟨v, N, hN, rfl, hty, hb⟩
  obtain ⟨a1, k1, rfl, _⟩ := hty.at.slice
  have hn : n ≤ s.size := prs_le s 16 _ _ _ HX.out
  have HR1 := Lib.hid (HR0.out.kept hb)
  have HB1 := Lib.hid (HB0.out.trans (hb.mono HB0.out.size))
  rw [sizeA] at hty
  have HT1 := Lib.hid hty
  obtain ⟨p0, p1, p2, f0, f1, f2, psz⟩ := HR1.out
  clear hb hty
  obtain rfl : N = (s.size : Int) := by omega
  have HA : Hid (Below w1.heap.size w1 (w1.alloc (.cells #[.int .i64 t.k, .int .i64 t.n, .slice a1 t.ks.length k1] 28))) := Lib.hid ((Below.refl _ _).alloc (Nat.le_refl _) _)
  have HT2 := Lib.hid (HT1.out.kept HA.out)
  have HR2 := Lib.hid (HR1.out.kept HA.out)
  have HB2 := Lib.hid (HB1.out.trans (HA.out.mono HB1.out.size))
  have HX2 := Lib.hid (box_new w1 (.int .i64 t.k) (.int .i64 t.n) (.slice a1 t.ks.length k1) 28)
  have hzA : (w1.alloc (.cells #[.int .i64 t.k, .int .i64 t.n, .slice a1 t.ks.length k1] 28)).heap.size = w1.heap.size + 1 := by simp
  clear hn hq hN
  go_wp2_with fail
  go_at_call 38
  obtain ⟨W1, hW1⟩ : ∃ W1, w1.alloc (.cells #[.int .i64 t.k, .int .i64 t.n, .slice a1 t.ks.length k1] 28) = W1 := ⟨_, rfl⟩
  rw [hW1] at HA HT2 HR2 HB2 HX2 hzA ⊢
  clear hW1
  refine (typeValid_spec_val HV.out _ _ HT2.out.at).mono ?_
  rintro e w2 ⟨rfl, hb⟩
  have HR3 := Lib.hid (HR2.out.kept hb)
  have HB3 := Lib.hid (HB2.out.trans (hb.mono HB2.out.size))
  have HX3 := Lib.hid (bx_kept HX2.out hb (by omega))
  have HT3 := Lib.hid (HT2.out.kept hb)
  have hz3 : w1.heap.size + 1 ≤ w2.heap.size := by have := hb.size; omega
  clear p0 p1 p2 f0 f1 f2 psz hb
  obtain ⟨p0, p1, p2, f0, f1, f2, psz⟩ := HR3.out
  obtain ⟨x0, x1, x2⟩ := HX3.out
  go_wp2_with fail
  exact bodyPost_ret (v := .tuple #[.agg #[.int .i64 0, .int .i64 0, .slice none 0 0], .bool false]) (by simp [results, Try.results56, go_sem, p0, p1, p2, psz]) rfl ⟨rfl, (res_below HB3.out _ _ _)⟩

set_option maxRecDepth 100000 in
set_option maxHeartbeats 2000000 in
theorem spec_d (s : ByteArray) (hs : s.size ≤ 1048576) (w : World) (t : Ty) (n : Nat) (HX : Hid (prs s 16 0 = some (t, n))) (hq : n = s.size) (HV : Hid (tvT t = true)) :
    Calls Try.prog 56 #[.string s] w (OptRet (some t) w) := by
  have HIH := Lib.hid (prs_any s hs 16 (by omega))
  have HR0 := Lib.hid (rb_new w 28)
  have HB0 : Hid (Below w.heap.size w (w.alloc (.cells #[.int .i64 0, .int .i64 0, .slice none 0 0] 28))) := Lib.hid ((Below.refl _ _).alloc (Nat.le_refl _) _)
  go_enter Try.func56, Try.ntmps56
  go_wp2_with fail
  go_at_call 92
  refine (HIH.out 16 0 0 _ _ rfl rfl (by omega) HX.out).mono ?_
  rintro e w1 ⟨v, N, hN, rfl, hty, hb⟩
  obtain ⟨a1, k1, rfl, _⟩ := hty.at.slice
  have hn : n ≤ s.size := prs_le s 16 _ _ _ HX.out
  have HR1 := Lib.hid (HR0.out.kept hb)
  have HB1 := Lib.hid (HB0.out.trans (hb.mono HB0.out.size))
  rw [sizeA] at hty
  have HT1 := Lib.hid hty
  obtain ⟨p0, p1, p2, f0, f1, f2, psz⟩ := HR1.out
  clear hb hty
  obtain rfl : N = (s.size : Int) := by omega
  have HA : Hid (Below w1.heap.size w1 (w1.alloc (.cells #[.int .i64 t.k, .int .i64 t.n, .slice a1 t.ks.length k1] 28))) := Lib.hid ((Below.refl _ _).alloc (Nat.le_refl _) _)
  have HT2 := Lib.hid (HT1.out.kept HA.out)
  have HR2 := Lib.hid (HR1.out.kept HA.out)
  have HB2 := Lib.hid (HB1.out.trans (HA.out.mono HB1.out.size))
  have HX2 := Lib.hid (box_new w1 (.int .i64 t.k) (.int .i64 t.n) (.slice a1 t.ks.length k1) 28)
  have hzA : (w1.alloc (.cells #[.int .i64 t.k, .int .i64 t.n, .slice a1 t.ks.length k1] 28)).heap.size = w1.heap.size + 1 := by simp
  clear hn hq hN
  go_wp2_with fail
  go_at_call 38
  obtain ⟨W1, hW1⟩ : ∃ W1, w1.alloc (.cells #[.int .i64 t.k, .int .i64 t.n, .slice a1 t.ks.length k1] 28) = W1 := ⟨_, rfl⟩
  rw [hW1] at HA HT2 HR2 HB2 HX2 hzA ⊢
  clear hW1
  refine (typeValid_spec_val HV.out _ _ HT2.out.at).mono ?_
  rintro e w2 ⟨rfl, hb⟩
  have HR3 := Lib.hid (HR2.out.kept hb)
  have HB3 := Lib.hid (HB2.out.trans (hb.mono HB2.out.size))
  have HX3 := Lib.hid (bx_kept HX2.out hb (by omega))
  have HT3 := Lib.hid (HT2.out.kept hb)
  have hz3 : w1.heap.size + 1 ≤ w2.heap.size := by have := hb.size; omega
  clear p0 p1 p2 f0 f1 f2 psz hb
  obtain ⟨p0, p1, p2, f0, f1, f2, psz⟩ := HR3.out
  obtain ⟨x0, x1, x2⟩ := HX3.out
  go_wp2_with fail
  exact bodyPost_ret (v := .tuple #[.agg #[.int .i64 t.k, .int .i64 t.n, .slice a1 t.ks.length k1], .bool true]) (by simp [results, Try.results56, go_sem, p0, p1, p2, psz]) rfl ⟨_, rfl, res_ty (HT3.out.wide (Nat.le_refl _) (by omega)) (Nat.le_refl _) _ _ _, (res_below HB3.out _ _ _)⟩

theorem parseType_spec (s : ByteArray) (hs : s.size ≤ 1048576) (r : Option Ty) (hr : pT s = r) (w : World) :
    Calls Try.prog 56 #[.string s] w (OptRet r w) := by
  rcases hx : prs s 16 0 with _ | ⟨t, n⟩
  · rw [pT_none hx] at hr; subst hr; exact spec_a s hs w (Lib.hid hx)
  by_cases hn : n = s.size
  case neg => rw [pT_off hx hn] at hr; subst hr; exact spec_b s hs w t n (Lib.hid hx) hn
  rcases hv : tvT t with _ | _
  · rw [pT_bad hx hv] at hr; subst hr; exact spec_c s hs w t n (Lib.hid hx) hn (Lib.hid hv)
  · rw [pT_some hx hn hv] at hr; subst hr; exact spec_d s hs w t n (Lib.hid hx) hn (Lib.hid hv)

end Go.Proofs.Ytlgbkhkmfgdehaa

namespace Go.Proofs.Ytlgbkhkmfgdehaa
open Go.RowKit

/-- A type's rows hold the marks from K on; c nodes lie below the root. -/
inductive HeldIn (w : World) : Nat → Nat → Nat → Ty → Nat → Value → Prop where
  | bare (lo hi K : Nat) (k n : Int) (a : Option Addr) (cap : Nat) : HeldIn w lo hi K (.node k n []) 0 (.slice a 0 cap)
  | row (lo hi K : Nat) (k n : Int) (ks : List Ty) (cf : Nat → Nat) (b cap : Nat) (vs : Nat → Value) (l g : Nat → Nat) (hb1 : lo ≤ b) (hb2 : b < hi) (hw : b < w.heap.size)
      (h0 : ∀ i, i < ks.length → w.cell? ⟨b, i * 3, none⟩ = some (.int .i64 ((K + 2 * (i + ((List.range i).map cf).sum) : Nat) : Int)))
      (h1 : ∀ i, i < ks.length → w.cell? ⟨b, i * 3 + 1, none⟩ = some (.int .i64 ((K + 2 * (i + ((List.range i).map cf).sum) + 1 : Nat) : Int)))
      (h2 : ∀ i, i < ks.length → w.cell? ⟨b, i * 3 + 2, none⟩ = some (vs i))
      (hin : ∀ i, i < ks.length → lo ≤ l i ∧ g i ≤ hi)
      (h3 : ∀ i, i < ks.length → HeldIn w (l i) (g i) (K + 2 * (i + ((List.range i).map cf).sum) + 2) (ks.getD i Ty.dummy) (cf i) (vs i)) :
      HeldIn w lo hi K (.node k n ks) (ks.length + ((List.range ks.length).map cf).sum) (.slice (some ⟨b, 0, none⟩) ks.length cap)
theorem HeldIn.empty {w : World} {lo hi K : Nat} {t : Ty} {a : Option Addr} {cap : Nat} (h : t.ks.length = 0) : HeldIn w lo hi K t 0 (.slice a 0 cap) := by
  cases t with
  | node k n ks =>
    have : ks = [] := List.eq_nil_of_length_eq_zero h
    subst this
    exact .bare lo hi K k n a cap
theorem HeldIn.keep {w w' : World} {lo hi K c : Nat} {t : Ty} {v : Value} (h : HeldIn w lo hi K t c v) (hs : w.heap.size ≤ w'.heap.size) (hk : ∀ b, lo ≤ b → b < hi → b < w.heap.size → w'.heap[b]? = w.heap[b]?) : HeldIn w' lo hi K t c v := by
  induction h with
  | bare lo hi K k n a cap => exact .bare lo hi K k n a cap
  | row lo hi K k n ks cf b cap vs l g hb1 hb2 hw h0 h1 h2 hin _ ih =>
    have e := hk b hb1 hb2 hw
    refine .row lo hi K k n ks cf b cap vs l g hb1 hb2 (by omega) (fun i hi => (cellEq e).trans (h0 i hi)) (fun i hi => (cellEq e).trans (h1 i hi)) (fun i hi => (cellEq e).trans (h2 i hi)) hin ?_
    intro i hi
    obtain ⟨a1, a2⟩ := hin i hi
    exact ih i hi (fun b h1 h2 h3 => hk b (by omega) (by omega) h3)
theorem HeldIn.kept {w w' : World} {lo hi K c : Nat} {t : Ty} {v : Value} (h : HeldIn w lo hi K t c v) (hb : Below w.heap.size w w') : HeldIn w' lo hi K t c v :=
  h.keep hb.size (fun b _ _ h3 => hb.block b h3)
/-- What has been marked. -/
structure Dn (t : Ty) (b j K : Nat) (cf : Nat → Nat) (vs : Nat → Value) (l g : Nat → Nat) (w : World) : Prop where
  c0 : ∀ i, i < j → w.cell? ⟨b, i * 3, none⟩ = some (.int .i64 ((K + 2 * (i + ((List.range i).map cf).sum) : Nat) : Int))
  c1 : ∀ i, i < j → w.cell? ⟨b, i * 3 + 1, none⟩ = some (.int .i64 ((K + 2 * (i + ((List.range i).map cf).sum) + 1 : Nat) : Int))
  c2 : ∀ i, i < j → w.cell? ⟨b, i * 3 + 2, none⟩ = some (vs i)
  ty : ∀ i, i < j → HeldIn w (l i) (g i) (K + 2 * (i + ((List.range i).map cf).sum) + 2) (t.ks.getD i Ty.dummy) (cf i) (vs i)
theorem Dn.zero {t : Ty} {b K : Nat} {cf : Nat → Nat} {vs : Nat → Value} {l g : Nat → Nat} {w : World} : Dn t b 0 K cf vs l g w :=
  ⟨fun _ h => absurd h (Nat.not_lt_zero _), fun _ h => absurd h (Nat.not_lt_zero _), fun _ h => absurd h (Nat.not_lt_zero _), fun _ h => absurd h (Nat.not_lt_zero _)⟩
theorem Dn.step {t : Ty} {b j K q : Nat} {cf : Nat → Nat} {vs : Nat → Value} {l g : Nat → Nat} {w w2 : World} {x y : Value} (r : Dn t b j K cf vs l g w) (hbs : b < w.heap.size) (hj : j < t.ks.length)
    (e0 : w.cell? ⟨b, j * 3, none⟩ = some x) (e1 : w.cell? ⟨b, j * 3 + 1, none⟩ = some y) (e2 : w.cell? ⟨b, j * 3 + 2, none⟩ = some (vs j))
    (hin : ∀ i, i < t.ks.length → b < l i ∨ g i ≤ b) (hd : ∀ i j, i < j → j < t.ks.length → g i ≤ l j) (hq : q = K + 2 * (j + ((List.range j).map cf).sum))
    (hI : Inside (l j) (g j) ((w.setCell ⟨b, j * 3, none⟩ (.int .i64 (q : Int))).setCell ⟨b, j * 3 + 1, none⟩ (.int .i64 ((q : Int) + 1))) w2)
    (hH : HeldIn w2 (l j) (g j) (q + 2) (t.ks.getD j Ty.dummy) (cf j) (vs j)) : Dn t b (j + 1) K cf vs l g w2 := by
  have hs : ((w.setCell ⟨b, j * 3, none⟩ (.int .i64 (q : Int))).setCell ⟨b, j * 3 + 1, none⟩ (.int .i64 ((q : Int) + 1))).heap.size = w.heap.size := by simp
  have hb2 := hI.block b (by rw [hs]; exact hbs) (by rcases hin j hj with h | h <;> omega)
  have hc : ∀ z, z ≠ j * 3 → z ≠ j * 3 + 1 → w2.cell? ⟨b, z, none⟩ = w.cell? ⟨b, z, none⟩ := by
    intro z h1 h2
    have e1 : ((w.setCell ⟨b, j * 3, none⟩ (.int .i64 (q : Int))).setCell ⟨b, j * 3 + 1, none⟩ (.int .i64 ((q : Int) + 1))).cell? ⟨b, z, none⟩ = (w.setCell ⟨b, j * 3, none⟩ (.int .i64 (q : Int))).cell? ⟨b, z, none⟩ := World.cell?_setCell_other _ _ _ _ (fun e => h2 (by injection e with _ e2 _; exact e2.symm))
    have e2 : (w.setCell ⟨b, j * 3, none⟩ (.int .i64 (q : Int))).cell? ⟨b, z, none⟩ = w.cell? ⟨b, z, none⟩ := World.cell?_setCell_other _ _ _ _ (fun e => h1 (by injection e with _ e2 _; exact e2.symm))
    exact (cellEq hb2).trans (e1.trans e2)
  have d0 : w2.cell? ⟨b, j * 3, none⟩ = some (.int .i64 (q : Int)) := by
    have e1' : ((w.setCell ⟨b, j * 3, none⟩ (.int .i64 (q : Int))).setCell ⟨b, j * 3 + 1, none⟩ (.int .i64 ((q : Int) + 1))).cell? ⟨b, j * 3, none⟩ = (w.setCell ⟨b, j * 3, none⟩ (.int .i64 (q : Int))).cell? ⟨b, j * 3, none⟩ := World.cell?_setCell_other _ _ _ _ (fun e => by injection e with _ e2 _; omega)
    exact (cellEq hb2).trans (e1'.trans (World.cell?_setCell_same' _ _ _ (by rw [e0]; rfl)))
  have d1 : w2.cell? ⟨b, j * 3 + 1, none⟩ = some (.int .i64 ((q : Int) + 1)) := by
    have e2' : (w.setCell ⟨b, j * 3, none⟩ (.int .i64 (q : Int))).cell? ⟨b, j * 3 + 1, none⟩ = w.cell? ⟨b, j * 3 + 1, none⟩ := World.cell?_setCell_other _ _ _ _ (fun e => by injection e with _ e2 _; omega)
    exact (cellEq hb2).trans (World.cell?_setCell_same' _ _ _ (by rw [e2', e1]; rfl))
  have hk : ∀ z, z ≠ b → z < w.heap.size → (z < l j ∨ g j ≤ z) → w2.heap[z]? = w.heap[z]? := by
    intro z h1 h2 h3
    rw [hI.block z (by rw [hs]; exact h2) h3, heap_setCell_other _ ⟨b, j * 3 + 1, none⟩ z _ h1, heap_setCell_other _ ⟨b, j * 3, none⟩ z _ h1]
  have hsz := hI.size
  rw [hs] at hsz
  refine ⟨fun i hi => ?_, fun i hi => ?_, fun i hi => ?_, fun i hi => ?_⟩
  · by_cases hij : i = j
    · subst hij; rw [d0, hq]
    · rw [hc _ (by omega) (by omega)]; exact r.c0 i (by omega)
  · by_cases hij : i = j
    · subst hij; rw [d1, hq]; push_cast; rfl
    · rw [hc _ (by omega) (by omega)]; exact r.c1 i (by omega)
  · by_cases hij : i = j
    · subst hij; rw [hc _ (by omega) (by omega)]; exact e2
    · rw [hc _ (by omega) (by omega)]; exact r.c2 i (by omega)
  · by_cases hij : i = j
    · subst hij; rw [← hq]; exact hH
    · have hil : i < t.ks.length := by omega
      refine (r.ty i (by omega)).keep hsz (fun z g1 g2 g3 => hk z ?_ g3 ?_)
      · rcases hin i hil with h | h <;> omega
      · exact .inl (Nat.lt_of_lt_of_le g2 (hd i j (by omega) hj))
theorem Dn.done {t : Ty} {b K lo hi : Nat} {cf : Nat → Nat} {vs : Nat → Value} {l g : Nat → Nat} {w : World} (r : Dn t b t.ks.length K cf vs l g w) (hin : ∀ i, i < t.ks.length → lo ≤ l i ∧ g i ≤ hi ∧ (b < l i ∨ g i ≤ b)) (_hd : ∀ i j, i < j → j < t.ks.length → g i ≤ l j)
    (hb1 : lo ≤ b) (hb2 : b < hi) (hw : b < w.heap.size) (cap : Nat) : HeldIn w lo hi K t (t.ks.length + ((List.range t.ks.length).map cf).sum) (.slice (some ⟨b, 0, none⟩) t.ks.length cap) := by
  cases t with
  | node k n ks => exact .row lo hi K k n ks cf b cap vs l g hb1 hb2 hw r.c0 r.c1 r.c2 (fun i hi => ⟨(hin i hi).1, (hin i hi).2.1⟩) r.ty

end Go.Proofs.Ytlgbkhkmfgdehaa

namespace Go.Proofs.Ytlgbkhkmfgdehaa
open Go.RowKit

theorem HeldIn.slice {w : World} {lo hi K c : Nat} {t : Ty} {v : Value} (h : HeldIn w lo hi K t c v) : ∃ a cap, v = .slice a t.ks.length cap := by
  cases h with
  | bare lo hi K k n a cap => exact ⟨a, cap, rfl⟩
  | row lo hi K k n ks cf b cap => exact ⟨_, cap, rfl⟩
theorem HeldIn.parts {w : World} {lo hi K c : Nat} {t : Ty} {v : Value} (h : HeldIn w lo hi K t c v) (h0 : 0 < t.ks.length) :
    ∃ (cf : Nat → Nat) (b cap : Nat) (vs : Nat → Value) (l g : Nat → Nat), v = .slice (some ⟨b, 0, none⟩) t.ks.length cap ∧ b < w.heap.size ∧ c = t.ks.length + ((List.range t.ks.length).map cf).sum ∧
      (∀ i, i < t.ks.length → w.cell? ⟨b, i * 3, none⟩ = some (.int .i64 ((K + 2 * (i + ((List.range i).map cf).sum) : Nat) : Int))) ∧
      (∀ i, i < t.ks.length → w.cell? ⟨b, i * 3 + 1, none⟩ = some (.int .i64 ((K + 2 * (i + ((List.range i).map cf).sum) + 1 : Nat) : Int))) ∧
      (∀ i, i < t.ks.length → w.cell? ⟨b, i * 3 + 2, none⟩ = some (vs i)) ∧
      (∀ i, i < t.ks.length → HeldIn w (l i) (g i) (K + 2 * (i + ((List.range i).map cf).sum) + 2) (t.ks.getD i Ty.dummy) (cf i) (vs i)) := by
  cases h with
  | bare lo hi K k n a cap => exact absurd h0 (Nat.lt_irrefl _)
  | row lo hi K k n ks cf b cap vs l g hb1 hb2 hw g0 g1 g2 hin h3 => exact ⟨cf, b, cap, vs, l, g, rfl, hw, rfl, g0, g1, g2, h3⟩
theorem HeldIn.none {w : World} {lo hi K c : Nat} {t : Ty} {v : Value} (h : HeldIn w lo hi K t c v) (h0 : t.ks.length = 0) : c = 0 := by
  cases h with
  | bare lo hi K k n a cap => rfl
  | row lo hi K k n ks cf b cap vs l g hb1 hb2 hw g0 g1 g2 hin h3 =>
    have h1 : ks.length = 0 := h0
    rw [h1]; rfl

end Go.Proofs.Ytlgbkhkmfgdehaa

namespace Go.Proofs.Ytlgbkhkmfgdehaa
open Go.RowKit
set_option linter.unusedVariables false
set_option linter.unusedSimpArgs false

theorem cnt_shp : ∀ (d : Nat) (t : Ty), shp d t = true → Cnt t (nd d t - 1) := by
  intro d
  induction d with
  | zero => intro t h; cases h
  | succ d ih =>
    intro t h
    obtain ⟨_, hk⟩ := shp_iff.1 h
    have e : nd (d + 1) t - 1 = t.ks.length + ((List.range t.ks.length).map fun i => nd d (t.ks.getD i Ty.dummy) - 1).sum := by
      rw [nd_succ]
      have key : ∀ j, ndk d t j = j + ((List.range j).map fun i => nd d (t.ks.getD i Ty.dummy) - 1).sum := by
        intro j
        induction j with
        | zero => rfl
        | succ j ihj =>
          rw [ndk_succ, sum_succ, ihj]
          have := nd_pos d (t.ks.getD j Ty.dummy)
          omega
      rw [key]; omega
    rw [e]
    cases t with
    | node k n ks => exact .node k n ks _ (fun i hi => ih _ (hk i hi))
theorem cnt_valid {t : Ty} (h : tvT t = true) : ∃ c, Cnt t c ∧ c ≤ 62 := by
  unfold tvT at h
  simp only [Bool.and_eq_true, decide_eq_true_eq] at h
  exact ⟨_, cnt_shp 16 t h.1, by omega⟩
/-- The type that comes with 'some', or the zero value. -/
def optT : Option Ty → Ty
  | some t => t
  | none => .node 0 0 []
theorem OptRet.flat {r : Option Ty} {w : World} {e : Ending} {w' : World} (h : OptRet r w e w') : ∃ v, e = .returned (.tuple #[.agg #[.int .i64 (optT r).k, .int .i64 (optT r).n, v], .bool r.isSome]) ∧ TyIn w' w.heap.size w'.heap.size (optT r) v ∧ Below w.heap.size w w' := by
  cases r with
  | none => exact ⟨_, h.1, .bare _ _ _ _ _ _, h.2⟩
  | some t => exact h
theorem pT_cnt (s : ByteArray) : ∃ c, Cnt (optT (pT s)) c ∧ c ≤ 62 := by
  rcases h : pT s with _ | t
  · exact ⟨0, .node 0 0 [] (fun _ => 0) (fun i hi => absurd hi (Nat.not_lt_zero _)), by omega⟩
  · refine cnt_valid ?_
    show tvT t = true
    rw [pT] at h
    split at h
    · split at h
      · rename_i hq; injection h with h; subst h; exact hq.2
      · cases h
    · cases h
theorem TBox.away {w w' : World} {B lo hi : Nat} {x y z : Value} (h : TBox w B x y z) (hI : Inside lo hi w w') (hB : B < lo ∨ hi ≤ B) : TBox w' B x y z := by
  have e := hI.block B h.sz hB
  exact ⟨(cellEq e).trans h.c0, (cellEq e).trans h.c1, (cellEq e).trans h.c2, Nat.lt_of_lt_of_le h.sz hI.size⟩
theorem TyIn.apart {w w' : World} {lo hi l h : Nat} {t : Ty} {v : Value} (hx : TyIn w l h t v) (hI : Inside lo hi w w') (hd : h ≤ lo ∨ hi ≤ l) : TyIn w' l h t v :=
  hx.keep hI.size (fun b h1 h2 h3 => hI.block b h3 (by omega))

end Go.Proofs.Ytlgbkhkmfgdehaa

