/-
  The text of a type read: the plain parser, and the small functions under ParseType of the program and of the model.
  Under ParseType: a join of two types, the kind of a join, the next byte.
-/
import Derived.Test.YtndpoejohpmifaaZe
import Derived.Test.YtndpoejohpmifaaZo
namespace Go.Proofs.Ytndpoejohpmifaa
open Go.RowKit

/-- The byte at an offset, 0 at the end. -/
def by8 (s : ByteArray) (i : Nat) : Int := if h : i < s.size then (s[i].toNat : Int) else 0
theorem by8_in {s : ByteArray} {i : Nat} (h : i < s.size) : by8 s i = (s[i].toNat : Int) := by unfold by8; rw [dif_pos h]
theorem by8_end {s : ByteArray} {i : Nat} (h : ¬ i < s.size) : by8 s i = 0 := by unfold by8; rw [dif_neg h]
theorem by8_idx (P : Program) (T : TypeId) (h : P.underlying T = some .string) {s : ByteArray} {i : Nat} (hi : i < s.size) (w : World) :
    (Instr.index T (.string s) (.int .i64 (i : Int))).run P w = .ok (.int .u8 (by8 s i)) w := by
  have ht : ((i : Int)).toNat = i := by omega
  rw [run_index_string _ _ _ _ _ h, dif_pos ⟨by omega, by omega⟩, by8_in hi]
  simp only [ht]
/-- The type at an offset, no deeper than d, and the offset after it. -/
def prs (s : ByteArray) : Nat → Nat → Option (Ty × Nat)
  | 0, _ => none
  | d + 1, i =>
    if i < s.size then
      if by8 s i = 73 then some (.node 1 0 [], i + 1)
      else if 97 ≤ by8 s i ∧ by8 s i ≤ 122 then some (.node 4 (by8 s i - 97) [], i + 1)
      else if by8 s i = 40 then
        match prs s d (i + 1) with
        | none => none
        | some (a, n) =>
          if by8 s n = 42 ∨ by8 s n = 62 then
            match prs s d (n + 1) with
            | none => none
            | some (b, m) => if by8 s m = 41 then some (.node (if by8 s n = 42 then 3 else 2) 0 [a, b], m + 1) else none
          else none
      else none
    else none
theorem prs_le (s : ByteArray) : ∀ (d i : Nat) (t : Ty) (n : Nat), prs s d i = some (t, n) → n ≤ s.size := by
  intro d
  induction d with
  | zero => intro i t n h; cases h
  | succ d ih =>
    intro i t n h
    rw [prs] at h
    split at h
    · rename_i hi
      split at h
      · injection h with h; injection h with _ h; omega
      split at h
      · injection h with h; injection h with _ h; omega
      split at h
      · split at h
        · cases h
        split at h
        · split at h
          · cases h
          · split at h
            · rename_i hm
              injection h with h; injection h with _ h
              by_cases hh : n - 1 < s.size
              · omega
              · exfalso
                rename_i m _ _
                have : by8 s (n - 1) = 41 := by rw [← h]; exact hm
                rw [by8_end hh] at this; omega
            · cases h
        · cases h
      · cases h
    · cases h
/-- Whether a byte stands at an offset. -/
def sgn (s : ByteArray) (i : Nat) (c : Int) : Bool := decide (i < s.size) && (by8 s i == c)
theorem sgn_is {s : ByteArray} {i : Nat} {c : Int} (hc : c ≠ 0) : sgn s i c = (by8 s i == c) := by
  unfold sgn
  by_cases h : i < s.size
  · simp [h]
  · rw [by8_end h]; simp [h]; omega


theorem l2Sign_y (s : ByteArray) (i : Nat) (c : Int) (w : World) (h : i < s.size) (hb : (by8 s i == c) = true) :
    Calls Try.prog 86 #[.string s, .int .i64 (i : Int), .int .u8 c] w fun e w' => e = .returned (.bool true) ∧ w' = w := by
  have h1 : (i : Int) < (s.size : Int) := by omega
  have h0 : ¬ (i : Int) < 0 := by omega
  have r1 := by8_idx Try.prog 9 Try.underlying9 h
  clear h
  go_enter Try.func86, Try.ntmps86
  go_wp2_with fail
  go_ret
  exact ⟨rfl, rfl⟩

theorem l2Sign_n (s : ByteArray) (i : Nat) (c : Int) (w : World) (h : i < s.size) (hb : (by8 s i == c) = false) :
    Calls Try.prog 86 #[.string s, .int .i64 (i : Int), .int .u8 c] w fun e w' => e = .returned (.bool false) ∧ w' = w := by
  have h1 : (i : Int) < (s.size : Int) := by omega
  have h0 : ¬ (i : Int) < 0 := by omega
  have r1 := by8_idx Try.prog 9 Try.underlying9 h
  clear h
  go_enter Try.func86, Try.ntmps86
  go_wp2_with fail
  go_ret
  exact ⟨rfl, rfl⟩

theorem l2Sign_e (s : ByteArray) (i : Nat) (c : Int) (w : World) (h : ¬ i < s.size) :
    Calls Try.prog 86 #[.string s, .int .i64 (i : Int), .int .u8 c] w fun e w' => e = .returned (.bool false) ∧ w' = w := by
  have h1 : ¬ (i : Int) < (s.size : Int) := by omega
  have h0 : ¬ (i : Int) < 0 := by omega
  clear h
  go_enter Try.func86, Try.ntmps86
  go_wp2_with fail
  go_ret
  exact ⟨rfl, rfl⟩

theorem l2Sign_any (s : ByteArray) (i : Nat) (c : Int) (b : Bool) (hc : c ≠ 0) (hb : (by8 s i == c) = b) (w : World) :
    Calls Try.prog 86 #[.string s, .int .i64 (i : Int), .int .u8 c] w fun e w' => e = .returned (.bool b) ∧ w' = w := by
  by_cases h : i < s.size
  · cases b with
    | true => exact l2Sign_y s i c w h hb
    | false => exact l2Sign_n s i c w h hb
  · have hb' : b = false := by rw [← hb, by8_end h]; simp; omega
    subst hb'
    exact l2Sign_e s i c w h

/-- A type has come back, in blocks of its own. -/
def TyRet (t : Ty) (w : World) (e : Ending) (w' : World) : Prop := ∃ v, e = .returned (.agg #[.int .i64 t.k, .int .i64 t.n, v]) ∧ TyIn w' w.heap.size w'.heap.size t v ∧ Below w.heap.size w w'

theorem l2Num_any (w : World) : Calls Try.prog 84 #[] w (TyRet (.node 1 0 []) w) := by
  go_enter Try.func84, Try.ntmps84
  go_wp2_with fail
  refine bodyPost_ret (v := .agg #[.int .i64 1, .int .i64 0, .slice none 0 0]) (by simp [results, Try.results84, go_sem]) rfl ⟨_, rfl, .bare _ _ _ _ _ _, ?_⟩
  exact (Below.refl _ _).alloc (Nat.le_refl _) _

theorem l2Var_any (n : Int) (w : World) : Calls Try.prog 85 #[.int .i64 n] w (TyRet (.node 4 n []) w) := by
  go_enter Try.func85, Try.ntmps85
  go_wp2_with fail
  refine bodyPost_ret (v := .agg #[.int .i64 4, .int .i64 n, .slice none 0 0]) (by simp [results, Try.results85, go_sem]) rfl ⟨_, rfl, .bare _ _ _ _ _ _, ?_⟩
  exact (Below.refl _ _).alloc (Nat.le_refl _) _

theorem varType_any (n : Int) (w : World) : Calls Try.prog 58 #[.int .i64 n] w (TyRet (.node 4 n []) w) := by
  go_enter Try.func58, Try.ntmps58
  go_wp2_with fail
  refine bodyPost_ret (v := .agg #[.int .i64 4, .int .i64 n, .slice none 0 0]) (by simp [results, Try.results58, go_sem]) rfl ⟨_, rfl, .bare _ _ _ _ _ _, ?_⟩
  exact (Below.refl _ _).alloc (Nat.le_refl _) _

end Go.Proofs.Ytndpoejohpmifaa

namespace Go.Proofs.Ytndpoejohpmifaa
open Go.RowKit

set_option maxRecDepth 100000 in
set_option maxHeartbeats 1000000 in
theorem l2Node_any (k : Int) (x y : Ty) (vx vy : Value) (lo l h l' h' : Nat) (w : World) (hx : TyIn w l h x vx) (hy : TyIn w l' h' y vy) (hl : lo ≤ l) (hll : lo ≤ l') (hd : h ≤ l') (hh : h ≤ w.heap.size) (hh' : h' ≤ w.heap.size) (hlo : lo ≤ w.heap.size) :
    Calls Try.prog 87 #[.int .i64 k, .agg #[.int .i64 x.k, .int .i64 x.n, vx], .agg #[.int .i64 y.k, .int .i64 y.n, vy]] w fun e w' => ∃ v, e = .returned (.agg #[.int .i64 k, .int .i64 0, v]) ∧ TyIn w' lo w'.heap.size (.node k 0 [x, y]) v ∧ Below w.heap.size w w' := by
  have HX := Lib.hid hx
  have HY := Lib.hid hy
  obtain ⟨ax, cx, rfl, _⟩ := hx.at.slice
  obtain ⟨ay, cy, rfl, _⟩ := hy.at.slice
  obtain ⟨nx, hnx⟩ : ∃ n, x.ks.length = n := ⟨_, rfl⟩
  obtain ⟨ny, hny⟩ : ∃ n, y.ks.length = n := ⟨_, rfl⟩
  obtain ⟨kx, hkx⟩ : ∃ n, x.k = n := ⟨_, rfl⟩
  obtain ⟨ky, hky⟩ : ∃ n, y.k = n := ⟨_, rfl⟩
  obtain ⟨mx, hmx⟩ : ∃ n, x.n = n := ⟨_, rfl⟩
  obtain ⟨my, hmy⟩ : ∃ n, y.n = n := ⟨_, rfl⟩
  have HE := Lib.hid (And.intro hkx (And.intro hky (And.intro hmx hmy)))
  rw [hnx] at HX ⊢
  rw [hny] at HY ⊢
  rw [hkx, hky, hmx, hmy]
  have HLO := Lib.hid (And.intro hl (And.intro hll (And.intro hd (And.intro hh (And.intro hh' hlo)))))
  clear hx hy hkx hky hmx hmy hnx hny hl hll hd hh hh' hlo
  go_enter Try.func87, Try.ntmps87
  go_wp2_with fail
  refine bodyPost_ret (v := .agg #[.int .i64 k, .int .i64 0, .slice (some ⟨w.heap.size + 1 + 1 + 1, 0, none⟩) 2 2]) (by simp [results, Try.results87, go_sem]) rfl ⟨_, rfl, ?_, ?_⟩
  · obtain ⟨e1, e2, e3, e4⟩ := HE.out
    obtain ⟨h1, h2, h3, h4, h5, h6⟩ := HLO.out
    refine TyIn.pair (b := w.heap.size + 1 + 1 + 1) (l := l) (h := h) (l' := l') (h' := h') (vx := .slice ax nx cx) (vy := .slice ay ny cy) (HX.out.kept ?_) (HY.out.kept ?_) (by omega) (by simp) (row_at (by simp)) (by rw [e1]; go_simp) (by rw [e3]; go_simp) (by go_simp) (by rw [e2]; go_simp) (by rw [e4]; go_simp) (by go_simp) ?_ h1 (by simp; omega) h2 (by simp; omega) (.inr (by omega)) (.inr (by omega)) h3
    · exact ((((Below.refl _ _).alloc (Nat.le_refl _) _).alloc (by simp) _).alloc (by simp; omega) _).alloc (by simp; omega) _
    · exact ((((Below.refl _ _).alloc (Nat.le_refl _) _).alloc (by simp) _).alloc (by simp; omega) _).alloc (by simp; omega) _
    · intro i hi
      rcases (show i = 0 ∨ i = 1 ∨ i = 2 ∨ i = 3 ∨ i = 4 ∨ i = 5 by omega) with rfl | rfl | rfl | rfl | rfl | rfl <;> go_simp
  · exact ((((Below.refl _ _).alloc (Nat.le_refl _) _).alloc (by simp) _).alloc (by simp; omega) _).alloc (by simp; omega) _

set_option maxRecDepth 100000 in
set_option maxHeartbeats 1000000 in
theorem joinType_any (k : Int) (x y : Ty) (vx vy : Value) (lo l h l' h' : Nat) (w : World) (hx : TyIn w l h x vx) (hy : TyIn w l' h' y vy) (hl : lo ≤ l) (hll : lo ≤ l') (hd : h ≤ l') (hh : h ≤ w.heap.size) (hh' : h' ≤ w.heap.size) (hlo : lo ≤ w.heap.size) :
    Calls Try.prog 91 #[.int .i64 k, .agg #[.int .i64 x.k, .int .i64 x.n, vx], .agg #[.int .i64 y.k, .int .i64 y.n, vy]] w fun e w' => ∃ v, e = .returned (.agg #[.int .i64 k, .int .i64 0, v]) ∧ TyIn w' lo w'.heap.size (.node k 0 [x, y]) v ∧ Below w.heap.size w w' := by
  have HX := Lib.hid hx
  have HY := Lib.hid hy
  obtain ⟨ax, cx, rfl, _⟩ := hx.at.slice
  obtain ⟨ay, cy, rfl, _⟩ := hy.at.slice
  obtain ⟨nx, hnx⟩ : ∃ n, x.ks.length = n := ⟨_, rfl⟩
  obtain ⟨ny, hny⟩ : ∃ n, y.ks.length = n := ⟨_, rfl⟩
  obtain ⟨kx, hkx⟩ : ∃ n, x.k = n := ⟨_, rfl⟩
  obtain ⟨ky, hky⟩ : ∃ n, y.k = n := ⟨_, rfl⟩
  obtain ⟨mx, hmx⟩ : ∃ n, x.n = n := ⟨_, rfl⟩
  obtain ⟨my, hmy⟩ : ∃ n, y.n = n := ⟨_, rfl⟩
  have HE := Lib.hid (And.intro hkx (And.intro hky (And.intro hmx hmy)))
  rw [hnx] at HX ⊢
  rw [hny] at HY ⊢
  rw [hkx, hky, hmx, hmy]
  have HLO := Lib.hid (And.intro hl (And.intro hll (And.intro hd (And.intro hh (And.intro hh' hlo)))))
  clear hx hy hkx hky hmx hmy hnx hny hl hll hd hh hh' hlo
  go_enter Try.func91, Try.ntmps91
  go_wp2_with fail
  refine bodyPost_ret (v := .agg #[.int .i64 k, .int .i64 0, .slice (some ⟨w.heap.size + 1 + 1 + 1, 0, none⟩) 2 2]) (by simp [results, Try.results91, go_sem]) rfl ⟨_, rfl, ?_, ?_⟩
  · obtain ⟨e1, e2, e3, e4⟩ := HE.out
    obtain ⟨h1, h2, h3, h4, h5, h6⟩ := HLO.out
    refine TyIn.pair (b := w.heap.size + 1 + 1 + 1) (l := l) (h := h) (l' := l') (h' := h') (vx := .slice ax nx cx) (vy := .slice ay ny cy) (HX.out.kept ?_) (HY.out.kept ?_) (by omega) (by simp) (row_at (by simp)) (by rw [e1]; go_simp) (by rw [e3]; go_simp) (by go_simp) (by rw [e2]; go_simp) (by rw [e4]; go_simp) (by go_simp) ?_ h1 (by simp; omega) h2 (by simp; omega) (.inr (by omega)) (.inr (by omega)) h3
    · exact ((((Below.refl _ _).alloc (Nat.le_refl _) _).alloc (by simp) _).alloc (by simp; omega) _).alloc (by simp; omega) _
    · exact ((((Below.refl _ _).alloc (Nat.le_refl _) _).alloc (by simp) _).alloc (by simp; omega) _).alloc (by simp; omega) _
    · intro i hi
      rcases (show i = 0 ∨ i = 1 ∨ i = 2 ∨ i = 3 ∨ i = 4 ∨ i = 5 by omega) with rfl | rfl | rfl | rfl | rfl | rfl <;> go_simp
  · exact ((((Below.refl _ _).alloc (Nat.le_refl _) _).alloc (by simp) _).alloc (by simp; omega) _).alloc (by simp; omega) _

theorem joinKind_fun (w : World) : Calls Try.prog 115 #[.int .u8 62] w fun e w' => e = .returned (.tuple #[.int .i64 2, .bool true]) ∧ w' = w := by
  go_enter Try.func115, Try.ntmps115
  go_wp2_with fail
  exact bodyPost_ret (v := .tuple #[.int .i64 2, .bool true]) (by simp [results, Try.results115, go_sem]) rfl ⟨rfl, rfl⟩
theorem joinKind_pair (w : World) : Calls Try.prog 115 #[.int .u8 42] w fun e w' => e = .returned (.tuple #[.int .i64 3, .bool true]) ∧ w' = w := by
  go_enter Try.func115, Try.ntmps115
  go_wp2_with fail
  exact bodyPost_ret (v := .tuple #[.int .i64 3, .bool true]) (by simp [results, Try.results115, go_sem]) rfl ⟨rfl, rfl⟩
theorem joinKind_no (c : Int) (h1 : c ≠ 62) (h2 : c ≠ 42) (w : World) : Calls Try.prog 115 #[.int .u8 c] w fun e w' => e = .returned (.tuple #[.int .i64 0, .bool false]) ∧ w' = w := by
  have e1 : (c == 62) = false := by simpa using h1
  have e2 : (c == 42) = false := by simpa using h2
  clear h1 h2
  go_enter Try.func115, Try.ntmps115
  go_wp2_with fail
  exact bodyPost_ret (v := .tuple #[.int .i64 0, .bool false]) (by simp [results, Try.results115, go_sem]) rfl ⟨rfl, rfl⟩

/-- Where the parser stands. -/
structure PAt (w : World) (p : Nat) (s : ByteArray) (i : Nat) : Prop where
  c0 : w.cell? ⟨p, 0, none⟩ = some (.string s)
  c1 : w.cell? ⟨p, 1, none⟩ = some (.int .i64 (i : Int))
  f1 : w.frozen? ⟨p, 1, none⟩ = false
  sz : p < w.heap.size
theorem PAt.kept {w w' : World} {p : Nat} {s : ByteArray} {i : Nat} (h : PAt w p s i) (hb : Below w.heap.size w w') : PAt w' p s i :=
  ⟨(hb.cell (p := ⟨p, 0, none⟩) h.sz).trans h.c0, (hb.cell (p := ⟨p, 1, none⟩) h.sz).trans h.c1, (hb.frozen (p := ⟨p, 1, none⟩) h.sz).trans h.f1, Nat.lt_of_lt_of_le h.sz hb.size⟩
theorem PAt.set {w : World} {p : Nat} {s : ByteArray} {i : Nat} (h : PAt w p s i) (j : Nat) : PAt (w.setCell ⟨p, 1, none⟩ (.int .i64 (j : Int))) p s j :=
  ⟨(World.cell?_setCell_other _ _ _ _ (fun e => by injection e with _ e2 _; omega)).trans h.c0, World.cell?_setCell_same' _ _ _ (by rw [h.c1]; rfl), by rw [World.frozen?_setCell]; exact h.f1, by simpa using h.sz⟩
theorem Inside.of_below {lo hi : Nat} {w w' : World} (h : Below w.heap.size w w') : Inside lo hi w w' := ⟨h.os, h.tape, h.output, h.size, fun x hx _ => h.block x hx⟩
theorem next_done {w wd : World} {p i : Nat} {s : ByteArray} (hp : PAt w p s i) (hb : Below w.heap.size w wd) :
    PAt (wd.setCell ⟨p, 1, none⟩ (.int .i64 ((i : Int) + 1))) p s (i + 1) ∧ Inside p (p + 1) w (wd.setCell ⟨p, 1, none⟩ (.int .i64 ((i : Int) + 1))) := by
  have h1 := (hp.kept hb).set (i + 1)
  push_cast at h1
  exact ⟨h1, (Inside.of_below hb).trans (Inside.set wd 1 _ (Nat.le_refl _) (Nat.lt_succ_self _))⟩
/-- What next leaves: it has drawn, or moved on. -/
theorem next_end (p : Nat) (s : ByteArray) (w : World) (hp : PAt w p s s.size) :
    Calls Try.prog 74 #[.pointer (some ⟨p, 0, none⟩)] w fun e w' => e = .returned (.int .u8 0) ∧ PAt w' p s s.size ∧ Inside p (p + 1) w w' := by
  have HP := Lib.hid hp
  obtain ⟨p0, p1, pf, psz⟩ := hp
  go_enter Try.func74, Try.ntmps74
  go_wp2_with fail
  go_quiet (fail)
  all_goals go_wp2_with fail
  all_goals go_ret
  all_goals exact ⟨rfl, HP.out.kept (by first | exact Below.refl _ _ | exact (Below.refl _ _).drew | exact below_drewN (Below.refl _ _) _), Inside.of_below (by first | exact Below.refl _ _ | exact (Below.refl _ _).drew | exact below_drewN (Below.refl _ _) _)⟩
theorem next_in (p : Nat) (s : ByteArray) (i : Nat) (w : World) (hp : PAt w p s i) (hi : i < s.size) (hs : s.size ≤ 1048576) :
    Calls Try.prog 74 #[.pointer (some ⟨p, 0, none⟩)] w fun e w' => e = .returned (.int .u8 (by8 s i)) ∧ PAt w' p s (i + 1) ∧ Inside p (p + 1) w w' := by
  have HP := Lib.hid hp
  obtain ⟨p0, p1, pf, psz⟩ := hp
  have h1 : ((i : Int) == (s.size : Int)) = false := by simp; omega
  have r1 := by8_idx Try.prog 9 Try.underlying9 hi
  go_enter Try.func74, Try.ntmps74
  go_wp2_with fail
  go_quiet (fail)
  all_goals go_wp2_with fail
  all_goals go_quiet (fail)
  all_goals go_wp2_with fail
  all_goals go_ret
  all_goals exact ⟨rfl, next_done HP.out (by first | exact Below.refl _ _ | exact (Below.refl _ _).drew | exact below_drewN (Below.refl _ _) _)⟩

end Go.Proofs.Ytndpoejohpmifaa

