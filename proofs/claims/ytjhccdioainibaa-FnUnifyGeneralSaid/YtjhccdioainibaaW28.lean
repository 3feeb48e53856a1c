/-
A type after a replacement is an instance of the type; a type whose replacements are none, or that has no variables, stays. Plain facts.
-/
import Derived.Test.YtjhccdioainibaaW26
import Derived.Test.YtjhccdioainibaaW10
import Derived.Test.YtjhccdioainibaaW27
import Derived.Test.YtjhccdioainibaaW22
namespace Go.Proofs.Ytjhccdioainibaa.Mx
open Go.Proofs.Ytjhccdioainibaa
open Go.RowKit
set_option linter.unusedVariables false
set_option linter.unusedSimpArgs false

/-- What a variable is replaced by. -/
def rv (ls : List Ty) (n : Int) : Ty := (sF ls [] n).1
theorem sb_num (ls : List Ty) (d : Nat) : sbT ls (d + 1) (.node 1 0 []) = .node 1 0 [] := by simp [sbT, rp]
theorem sb_var (ls : List Ty) (d : Nat) (n : Int) : sbT ls (d + 1) (.node 4 n []) = rv ls n := by
  show (rp (sF ls) (d + 1) (.node 4 n []) []).1 = _
  simp [rp, rv]
theorem sb_none : ∀ (d : Nat) (t : Ty), shp d t = true → sbT [] d t = t := by
  intro d
  induction d with
  | zero => intro t h; cases h
  | succ d ih =>
    intro t h
    rcases shp_forms h with rfl | ⟨n, n0, n1, rfl⟩ | ⟨k, a, b, hk, rfl, ha, hb⟩
    · exact sb_num _ _
    · rw [sb_var]
      unfold rv
      rw [sF_out (by simp; omega)]
    · rw [sbT_join (by omega), ih a ha, ih b hb]
theorem sv_none {t : Ty} (h : tvT t = true) : svT t [] = some t := by
  have e := sb_none 16 t (tvT_shp h)
  have := svT_y (ls := []) h (fun i hi => absurd hi (Nat.not_lt_zero _)) (by rw [e]; exact h)
  rw [e] at this
  exact this
theorem sb_closed (ls : List Ty) : ∀ (d : Nat) (t : Ty), shp d t = true → (∀ n, ¬ occ d t n) → sbT ls d t = t := by
  intro d
  induction d with
  | zero => intro t h; cases h
  | succ d ih =>
    intro t h ho
    rcases shp_forms h with rfl | ⟨n, n0, n1, rfl⟩ | ⟨k, a, b, hk, rfl, ha, hb⟩
    · exact sb_num _ _
    · exact absurd (.inl ⟨rfl, rfl⟩) (ho n)
    · rw [sbT_join (by omega), ih a ha (fun n h => ho n (.inr ⟨0, by simp [Ty.ks], h⟩)), ih b hb (fun n h => ho n (.inr ⟨1, by simp [Ty.ks], h⟩))]
theorem sv_parts {t X : Ty} {ls : List Ty} (h : svT t ls = some X) : tvT t = true ∧ tvT X = true ∧ X = sbT ls 16 t := by
  unfold svT at h
  split at h
  · rename_i hc
    injection h with h
    subst h
    exact ⟨hc.1, hc.2.2, rfl⟩
  · cases h
theorem sv_closed {t X : Ty} {ls : List Ty} (h : svT t ls = some X) (hv : varsT t = []) : X = t := by
  obtain ⟨h1, _, rfl⟩ := sv_parts h
  rw [varsT_yes h1] at hv
  refine sb_closed ls 16 t (tvT_shp h1) (fun n hn => ?_)
  have := (vars_occ 16 t [] n (tvT_shp h1)).2 (.inr hn)
  rw [hv] at this
  cases this
/-- The replacements found so far are those of ls. -/
def Agr (ls : List Ty) (M : Asn) : Prop := ∀ n b, alook n M = some b → b = rv ls n
theorem mtf_sub (ls : List Ty) : ∀ (d : Nat) (g : Ty) (M : Asn), shp d g = true → Agr ls M → ∃ M', mtf d g (sbT ls d g) M = some M' ∧ Agr ls M' := by
  intro d
  induction d with
  | zero => intro g M h; cases h
  | succ d ih =>
    intro g M h hM
    rcases shp_forms h with rfl | ⟨n, n0, n1, rfl⟩ | ⟨k, a, b, hk, rfl, ha, hb⟩
    · rw [sb_num, mtf_iter (by decide) rfl]
      exact ⟨M, rfl, hM⟩
    · rw [sb_var]
      rcases hl : alook n M with _ | x
      · refine ⟨_, mtf_new (g := .node 4 n []) rfl hl, fun m y hy => ?_⟩
        have hy' : alook m (M ++ [(n, rv ls n)]) = some y := hy
        rw [alook_snoc m n _ M hl] at hy'
        by_cases e : m = n
        · rw [if_pos e] at hy'
          injection hy' with hy'
          rw [← hy', e]
        · rw [if_neg e] at hy'; exact hM m y hy'
      · refine ⟨M, ?_, hM⟩
        rw [mtf_old (g := .node 4 n []) rfl hl, if_pos (sameB_yes (hM n x hl))]
    · have h4 : k ≠ 4 := by omega
      rw [sbT_join h4, mtf_iter (g := .node k 0 [a, b]) (s := .node k 0 [sbT ls d a, sbT ls d b]) h4 rfl]
      obtain ⟨M1, e1, h1⟩ := ih a M ha hM
      obtain ⟨M2, e2, h2⟩ := ih b M1 hb h1
      refine ⟨M2, ?_, h2⟩
      exact iter_next (iter_next rfl e1) e2
theorem sv_inst {t X : Ty} {ls : List Ty} (h : svT t ls = some X) : instB X t = true := by
  obtain ⟨h1, h2, rfl⟩ := sv_parts h
  obtain ⟨M', e, _⟩ := mtf_sub ls 16 t [] (tvT_shp h1) (fun n b h => by cases h)
  unfold instB
  rw [h1, h2, e]
  rfl

end Go.Proofs.Ytjhccdioainibaa.Mx
/-
  What the draw of the arguments of SubstVars returns: a type and at most three others in a row. Nothing that was in memory changes.
-/
namespace Go.Proofs.Ytjhccdioainibaa
open Go.RowKit
set_option linter.unusedVariables false
set_option linter.unusedSimpArgs false

theorem TyN.moved {w w' : World} {lo E E' : Nat} {t : Ty} {v : Value} (h : TyN w lo E t v) (hs : w.heap.size ≤ w'.heap.size) (hk : ∀ b, b ≠ E → b < w.heap.size → w'.heap[b]? = w.heap[b]?) (hE : E' = E ∨ w.heap.size ≤ E') : TyN w' lo E' t v := by
  induction h with
  | bare k n a cap => exact .bare k n a cap
  | row k n ks b o cap vs hb he hr hl h0 h1 h2 _ ih =>
    have e := hk b he hr.lt
    exact .row k n ks b o cap vs hb (by have := hr.lt; omega) (hr.keep hs e) hl (fun i hi => (cellEq e).trans (h0 i hi)) (fun i hi => (cellEq e).trans (h1 i hi)) (fun i hi => (cellEq e).trans (h2 i hi)) ih
theorem TyN.lowE {w : World} {lo lo' E E' : Nat} {t : Ty} {v : Value} (h : TyN w lo' E' t v) (hl : lo ≤ lo') (hE : E < lo') : TyN w lo E t v := by
  induction h with
  | bare k n a cap => exact .bare k n a cap
  | row k n ks b o cap vs hb he hr hl' h0 h1 h2 _ ih => exact .row k n ks b o cap vs (by omega) (by omega) hr hl' h0 h1 h2 ih
def trio (p : Ref) : List Value := [.int .i64 p.1.k, .int .i64 p.1.n, p.2]
def trios (L : List Ref) : List Value := L.flatMap trio
theorem trios_snoc (L : List Ref) (p : Ref) : trios (L ++ [p]) = trios L ++ trio p := by simp [trios]
theorem trios_len : ∀ L : List Ref, (trios L).length = L.length * 3
  | [] => rfl
  | p :: L => by
    have := trios_len L
    have e : trios (p :: L) = trio p ++ trios L := rfl
    rw [e, List.length_append, this]
    show 3 + L.length * 3 = (L.length + 1) * 3
    omega
theorem trios_at : ∀ (L : List Ref) (i q : Nat), i < L.length → q < 3 → (trios L)[i * 3 + q]? = (trio (L.getD i (Ty.dummy, .bool false)))[q]?
  | p :: L, i, q, hi, hq => by
    have e : trios (p :: L) = trio p ++ trios L := rfl
    rw [e]
    cases i with
    | zero =>
      rw [List.getElem?_append_left (by show 0 * 3 + q < 3; omega)]
      simp [List.getD]
    | succ i =>
      have hl : (trio p).length = 3 := rfl
      rw [List.getElem?_append_right (by rw [hl]; omega), hl, show (i + 1) * 3 + q - 3 = i * 3 + q by omega, trios_at L i q (by simpa using hi) hq]
      simp [List.getD]
/-- The types L lie in the row cv, which is the call's own; their rows lie from lo on, none in the row's block. -/
structure LR (w : World) (B0 lo : Nat) (g c : Nat) (L : List Ref) : Prop where
  own : w.ownsRow B0 28 3 (.slice (some ⟨g, 0, none⟩) L.length c) L.length (trios L)
  el : ∀ p ∈ L, TyN w lo g p.1 p.2
theorem LR.low {w : World} {B0 lo g c : Nat} {L : List Ref} (h : LR w B0 lo g c L) : B0 ≤ g ∧ g < w.heap.size := own_block h.own
theorem LR.dw {w w' : World} {B B0 lo g c : Nat} {L : List Ref} (h : LR w B0 lo g c L) (h1 : B < lo) (h2 : B < B0) (hd : Dw B w w') : LR w' B0 lo g c L :=
  ⟨own_keep h.own (fun b h3 h4 => hd.block b h4 (by simp; omega)), fun p hp => (h.el p hp).dw h1 hd⟩
theorem LR.ty {w : World} {B0 lo g c : Nat} {L : List Ref} (h : LR w B0 lo g c L) (hl : L.length ≤ 3) : TyOk w (.node 0 0 (L.map (·.1))) (.slice (some ⟨g, 0, none⟩) L.length c) := by
  have e : (L.map (·.1)).length = L.length := by simp
  have hg : ∀ i, i < L.length → (L.map (·.1)).getD i Ty.dummy = (L.getD i (Ty.dummy, .bool false)).1 := by
    intro i hi
    simp [List.getD, hi]
  have hc : ∀ i q, i < L.length → q < 3 → w.cell? ⟨g, i * 3 + q, none⟩ = (trio (L.getD i (Ty.dummy, .bool false)))[q]? := fun i q hi hq => (h.own.cellAt _ (by omega)).trans (trios_at L i q hi hq)
  have hr : Row w g := row_own h.own
  have := TyOk.row (w := w) 0 0 (L.map (·.1)) g 0 c (fun i => (L.getD i (Ty.dummy, .bool false)).2) hr (by rw [e]; omega)
    (fun i hi => by rw [e] at hi; rw [hg i hi, Nat.zero_add]; exact hc i 0 hi (by omega))
    (fun i hi => by rw [e] at hi; rw [hg i hi, Nat.zero_add]; exact hc i 1 hi (by omega))
    (fun i hi => by rw [e] at hi; rw [Nat.zero_add]; exact hc i 2 hi (by omega))
    (fun i hi => by
      rw [e] at hi
      rw [hg i hi]
      exact (h.el _ (by simp [List.getD, hi])).ok)
  rwa [e] at this
theorem LR.push {w w6 : World} {B0 lo g c g6 c6 : Nat} {L : List Ref} (h : LR w B0 lo g c L) {o : Obj} {p : Ref} (hp : TyN w lo g p.1 p.2)
    (hown : w6.ownsRow B0 28 3 (.slice (some ⟨g6, 0, none⟩) (L.length + 1) c6) (L.length + 1) (trios L ++ trio p)) (hg : (w.alloc o).grownBy w6 (some g)) (hat : some g = some g6 ∨ w.heap.size ≤ g6) : LR w6 B0 lo g6 c6 (L ++ [p]) := by
  have hsz : w.heap.size ≤ w6.heap.size := by have := hg.size; simp at this; omega
  have hold : ∀ q, q ≠ g → q < w.heap.size → w6.heap[q]? = w.heap[q]? := fun q h1 h2 => grow_old' hg h2 (fun x e => by injection e with e; omega)
  have hE : g6 = g ∨ w.heap.size ≤ g6 := hat.imp (fun e => by injection e with e; exact e.symm) id
  refine ⟨?_, fun x hx => ?_⟩
  · rw [List.length_append, trios_snoc]; exact hown
  · rcases List.mem_append.1 hx with hx | hx
    · exact (h.el x hx).moved hsz hold hE
    · rw [List.mem_singleton.1 hx]; exact hp.moved hsz hold hE
/-- Where the draw of a row of types stands. -/
structure ZS (w : World) (S B T B0 lo : Nat) (a : Option Addr) (len cap : Nat) (zs : List Int) (p : Nat) (t : Ty) (vt : Value) (g c : Nat) (L : List Ref) (W : World) : Prop where
  rd : Rd W B a len cap zs p
  bl : Below S w W
  r1 : RB W S
  tb : TBox W T (.int .i64 t.k) (.int .i64 t.n) vt
  ty : TyN W lo g t vt
  ls : LR W B0 lo g c L
  h1 : S < B
  h2 : B < lo
  h3 : B < T
  h4 : T < B0
  h5 : B0 ≤ W.heap.size
  eq : w.heap.size = S
  sm : ∀ x ∈ L, nodes x.1 ≤ 300
theorem ZS.step {w : World} {S B T B0 lo : Nat} {a : Option Addr} {len cap : Nat} {zs : List Int} {p p' : Nat} {t : Ty} {vt : Value} {g c : Nat} {L : List Ref} {W W' : World} (h : ZS w S B T B0 lo a len cap zs p t vt g c L W) (hd : Dw B W W') (hr : Rd W' B a len cap zs p') : ZS w S B T B0 lo a len cap zs p' t vt g c L W' := by
  have hl := h.h1; have h2 := h.h2; have h3 := h.h3; have h4 := h.h4
  have hb := h.rd.big
  exact ⟨hr, h.bl.trans (hd.below (by omega) (by omega)), h.r1.keep hd.size (hd.block S h.r1.sz (by simp; omega)), h.tb.dw h3 hd, h.ty.dw h2 hd, h.ls.dw h2 (by omega) hd, hl, h2, h3, h4, Nat.le_trans h.h5 hd.size, h.eq, h.sm⟩
theorem ZS.pick {w : World} {S B T B0 lo : Nat} {a : Option Addr} {len cap : Nat} {zs : List Int} {p : Nat} {t : Ty} {vt : Value} {g c : Nat} {L : List Ref} {W W' : World} (h : ZS w S B T B0 lo a len cap zs p t vt g c L W) {k : Nat} (hk : W' = (W.setCell ⟨B, 1, none⟩ (.int .i64 ((p : Int) + 1))).drewN k) : ZS w S B T B0 lo a len cap zs (p + 1) t vt g c L W' :=
  h.step (Dw.pick hk) (h.rd.picked hk)
theorem ZS.alloc {w : World} {S B T B0 lo : Nat} {a : Option Addr} {len cap : Nat} {zs : List Int} {p : Nat} {t : Ty} {vt : Value} {g c : Nat} {L : List Ref} {W : World} (h : ZS w S B T B0 lo a len cap zs p t vt g c L W) (o : Obj) : ZS w S B T B0 lo a len cap zs p t vt g c L (W.alloc o) :=
  h.step ((Dw.refl B W).alloc o) (h.rd.alloc o)
theorem ZS.push {w : World} {S B T B0 lo : Nat} {a : Option Addr} {len cap : Nat} {zs : List Int} {p : Nat} {t : Ty} {vt : Value} {g c : Nat} {L : List Ref} {W W6 : World} (h : ZS w S B T B0 lo a len cap zs p t vt g c L W) {o : Obj} {x : Ref} {g6 c6 : Nat} (hp : TyN W lo g x.1 x.2) (hx : nodes x.1 ≤ 300)
    (hown : W6.ownsRow B0 28 3 (.slice (some ⟨g6, 0, none⟩) (L.length + 1) c6) (L.length + 1) (trios L ++ trio x)) (hg : (W.alloc o).grownBy W6 (some g)) (hat : some g = some g6 ∨ W.heap.size ≤ g6) : ZS w S B T B0 lo a len cap zs p t vt g6 c6 (L ++ [x]) W6 := by
  have hl := h.h1; have h2 := h.h2; have h3 := h.h3; have h4 := h.h4
  have hb := h.rd.big
  have hlow := h.ls.low
  have hsz : W.heap.size ≤ W6.heap.size := by have := hg.size; simp at this; omega
  have hold : ∀ q, q ≠ g → q < W.heap.size → W6.heap[q]? = W.heap[q]? := fun q h1 h2 => grow_old' hg h2 (fun x e => by injection e with e; omega)
  have hE : g6 = g ∨ W.heap.size ≤ g6 := hat.imp (fun e => by injection e with e; exact e.symm) id
  have hA := (Below.refl W.heap.size W).alloc (Nat.le_refl _) o
  have hbl : Below (B + 1) W W6 := ⟨hg.os.trans hA.os, hg.tape.trans hA.tape, hg.output.trans hA.output, hsz, fun q hq => hold q (by omega) (by omega)⟩
  refine ⟨h.rd.kept hbl, h.bl.trans (hbl.mono (by omega)), h.r1.keep hsz (hold S (by omega) h.r1.sz), h.tb.aside hsz (hold T (by omega) h.tb.sz), h.ty.moved hsz hold hE, h.ls.push hp hown hg hat, hl, h2, h3, h4, Nat.le_trans h.h5 hsz, h.eq, fun y hy => ?_⟩
  rcases List.mem_append.1 hy with hy | hy
  · exact h.sm y hy
  · rw [List.mem_singleton.1 hy]; exact hx
def SubPost (w : World) (e : Ending) (w' : World) : Prop := ∃ (t : Ty) (vt : Value) (L : List Ty) (g c : Nat), nodes t ≤ 300 ∧ L.length ≤ 3 ∧ (∀ x ∈ L, nodes x ≤ 300) ∧ e = .returned (.tuple #[.agg #[.int .i64 t.k, .int .i64 t.n, vt], .slice (some ⟨g, 0, none⟩) L.length c]) ∧ TyOk w' t vt ∧ TyOk w' (.node 0 0 L) (.slice (some ⟨g, 0, none⟩) L.length c) ∧ Below w.heap.size w w'
set_option maxRecDepth 100000 in
set_option maxHeartbeats 8000000 in
theorem drawSubstVars_any (a : Option Addr) (len cap : Nat) (zs : List Int) (w : World) (h : IsRow w a len cap zs) :
    Calls Try.prog 18 #[.slice a len cap] w (SubPost w) := by
  obtain ⟨W1, hW1⟩ : ∃ W, w.alloc (.cells #[.int .i64 0, .int .i64 0, .slice none 0 0] 28) = W := ⟨_, rfl⟩
  obtain ⟨S, hS⟩ : ∃ S, w.heap.size = S := ⟨_, rfl⟩
  have hb1 : Below S w W1 := by rw [← hW1, ← hS]; exact (Below.refl _ _).alloc (Nat.le_refl _) _
  have HB1 := Lib.hid hb1
  have HI : Hid (IsRow W1 a len cap zs) := Lib.hid (h.kept (by rw [hS]; exact hb1))
  have HR1 : Hid (RB W1 S) := Lib.hid (by rw [← hW1, ← hS]; exact rb_new w _)
  have hz1 : W1.heap.size = S + 1 := by rw [← hW1, ← hS]; simp
  have HZ1 := Lib.hid hz1
  have HW1 := Lib.hid hW1
  have HS := Lib.hid hS
  clear h hb1 hW1 hz1
  go_enter Try.func18, Try.ntmps18
  go_wp2_with fail
  rw [HW1.out]
  clear hS
  go_at_call 41
  refine (l16Open_any a len cap zs _ HI.out).mono ?_
  rintro e w1 ⟨ln, cp, rfl, hr, hb⟩
  obtain ⟨B, hB⟩ : ∃ B, W1.heap.size = B := ⟨_, rfl⟩
  rw [hB] at hr ⊢
  have hBS : S + 1 ≤ B := by rw [← hB, HZ1.out]; exact Nat.le_refl _
  have HRD1 := Lib.hid hr
  have HBL1 : Hid (Below S w w1) := Lib.hid (HB1.out.trans (hb.mono (by omega)))
  have HRB1 : Hid (RB w1 S) := Lib.hid (HR1.out.kept hb)
  have hb1 : B < w1.heap.size := hr.big
  clear hr hb hB
  go_wp2_with fail
  go_at_call 43
  refine (l2Some_any B a ln cp zs 0 _ (fun t => nodes t ≤ 40) (fun t h => nodes5 h) 100 (Nat.le_refl _) HRD1.out (by omega)).mono ?_
  rintro e w2 ⟨x, vx, r, hnx, hr, rfl, hty, hd, hrd⟩
  have HNX := Lib.hid hnx
  have HTX := Lib.hid (hty.toN (E := 0) (Nat.le_refl _) (.inr (by omega)))
  have HRD2 := Lib.hid hrd
  have HBL2 : Hid (Below S w w2) := Lib.hid (HBL1.out.trans (hd.below (by omega) (by omega)))
  have HRB2 : Hid (RB w2 S) := Lib.hid (HRB1.out.keep hd.size (hd.block S HRB1.out.sz (by simp; omega)))
  obtain ⟨ax, cx, rfl, _⟩ := hty.at.slice
  have hz2 : B < w2.heap.size := by have := hd.size; omega
  clear hty hd hrd hnx
  go_wp2_with fail
  go_at_call 42
  refine (l2Mutate_any x _ B a ln cp zs _ _ (fun t => nodes t ≤ 80) (fun t h => by have := HNX.out; omega) 2 (Nat.le_refl _) (by have := HNX.out; omega) HTX.out.ok.at HRD2.out (by omega)).mono ?_
  rintro e w5 ⟨t, vt, r3, hnt, hr3, rfl, htt, hd, hrd⟩
  have HNT := Lib.hid hnt
  have HTT := Lib.hid htt
  have HRD5 := Lib.hid hrd
  have HBL5 : Hid (Below S w w5) := Lib.hid (HBL2.out.trans (hd.below (by omega) (by omega)))
  have HRB5 : Hid (RB w5 S) := Lib.hid (HRB2.out.keep hd.size (hd.block S HRB2.out.sz (by simp; omega)))
  have hz5 : w2.heap.size ≤ w5.heap.size := hd.size
  obtain ⟨at_, ct, rfl, _⟩ := htt.ok.at.slice
  clear htt hd hrd hnt
  obtain ⟨T, hT⟩ : ∃ T, w5.heap.size = T := ⟨_, rfl⟩
  obtain ⟨W6, hW6⟩ : ∃ W, (w5.alloc (.cells #[.int .i64 t.k, .int .i64 t.n, .slice at_ t.ks.length ct] 28)).alloc (.cells #[] 28) = W := ⟨_, rfl⟩
  have HZ0 : Hid (ZS w S B T (T + 1) w2.heap.size a ln cp zs _ t (.slice at_ t.ks.length ct) (T + 1) 0 [] W6) := Lib.hid (by
    rw [← hW6]
    have hA : Below w5.heap.size w5 ((w5.alloc (.cells #[.int .i64 t.k, .int .i64 t.n, .slice at_ t.ks.length ct] 28)).alloc (.cells #[] 28)) := ((Below.refl _ _).alloc (Nat.le_refl _) _).alloc (by simp) _
    have hown := World.ownsRow_lit (e := 28) (size := 3) (base := T + 1) (w5.alloc (.cells #[.int .i64 t.k, .int .i64 t.n, .slice at_ t.ks.length ct] 28)) #[] 0 (by rw [sizeA']; omega) (by decide) rfl
    rw [sizeA', hT] at hown
    refine ⟨(HRD5.out.alloc _).alloc _, HBL5.out.trans (hA.mono (by have h1 := HBL5.out.size; have h2 := HS.out; omega)), HRB5.out.kept hA, ?_, ?_, ⟨hown, fun p hp => by cases hp⟩, by omega, hz2, by omega, by omega, by rw [sizeA', sizeA']; omega, HS.out, fun x hx => by cases hx⟩
    · rw [← hT]; exact (tbox_new w5 _ _ _ _).kept ((Below.refl _ _).alloc (Nat.le_refl _) _)
    · exact (HTT.out.moved (w' := w5) (Nat.le_refl _) (fun _ _ _ => rfl) (.inr (show w5.heap.size ≤ T + 1 by omega))).kept hA)
  have HW6 := Lib.hid hW6
  have HT := Lib.hid hT
  have hz6 : W6.heap.size = T + 2 := by rw [← hW6, ← hT]; simp
  have HZ6 := Lib.hid hz6
  have HN0 := Lib.hid (HZ0.out.alloc (.cells #[.int .i64 2, .int .i64 3, .int .i64 1, .int .i64 0] 3))
  have HIR : Hid (IntRow (W6.alloc (.cells #[.int .i64 2, .int .i64 3, .int .i64 1, .int .i64 0] 3)) (T + 1 + 1) 4 0 3) := Lib.hid (by
    have h := intRow_new W6 #[.int .i64 2, .int .i64 3, .int .i64 1, .int .i64 0] 3 4 0 3 rfl (by decide +kernel)
    rw [hz6] at h
    exact h)
  have hbs : ¬ T + 1 + 1 = B := by omega
  clear hW6 hz6
  go_wp2_with fail
  rw [HW6.out]
  go_at_call 44
  refine (num_any B a ln cp zs _ _ HN0.out.rd (by omega) _ 4 4 0 3 (by omega) (by omega) hbs HIR.out).mono ?_
  rintro e w7 ⟨n0, hn0, rfl, k7, hk7⟩
  have HZ7 := Lib.hid (HN0.out.pick hk7)
  have HN := Lib.hid hn0
  clear hk7 hn0
  clear hT
  obtain ⟨P0, hP0⟩ : ∃ P0, 0 + r + r3 + 1 = P0 := ⟨_, rfl⟩
  have hP0' : P0 ≤ 200 := by omega
  rw [hP0] at HZ7
  go_wp2_with fail
  go_loopw [6, 7] (fun cv i wr => ∃ (L : List Ref) (g c p' : Nat) (n : Int), cv = .slice (some ⟨g, 0, none⟩) L.length c ∧ i = .int .i64 n ∧ 0 ≤ n ∧ n + L.length ≤ 3 ∧ p' + 100 * n.toNat ≤ 600 ∧ Hid (ZS w S B T (T + 1) w2.heap.size a ln cp zs p' t (.slice at_ t.ks.length ct) g c L wr)) (fun _ i _ => (intOf i).toNat)
  case atStart => exact ⟨[], T + 1, 0, P0, n0, rfl, rfl, HN.out.1, by have := HN.out.2; simp; omega, by have := HN.out.2; omega, HZ7⟩
  case round =>
    obtain ⟨L, g, c, p', n, rfl, rfl, hn0, hn3, hp', hzs⟩ := hrel
    obtain ⟨jl, hjl⟩ : ∃ j, L.length = j := ⟨_, rfl⟩
    have HJL := Lib.hid hjl
    rw [hjl] at hn3 ⊢
    clear hjl
    by_cases hlt : 0 < n
    · obtain ⟨n', rfl⟩ : ∃ n' : Nat, n = (n' : Int) + 1 := ⟨(n - 1).toNat, by omega⟩
      have hp2 : p' + 100 * n' + 100 ≤ 600 := by omega
      have hgl := hzs.out.ls.low
      have hB2 := hzs.out.h3
      have HNB := Lib.hid (hzs.out.alloc (.cells #[.int .i64 2, .int .i64 1, .int .i64 3] 3))
      have hbs2 : ¬ wr.heap.size = B := by have := hzs.out.rd.big; omega
      go_wp2_with fail
      go_at_call 44
      refine (num_any B a ln cp zs _ _ HNB.out.rd (by omega) _ 3 3 1 3 (by omega) (by omega) hbs2 (intRow_new wr _ _ 3 1 3 rfl (by decide +kernel))).mono ?_
      rintro e w8 ⟨n1, hn1, rfl, k8, hk8⟩
      have HZ8 := Lib.hid (HNB.out.pick hk8)
      have hw8 : wr.heap.size < w8.heap.size := by rw [hk8]; simp
      obtain ⟨d, hd⟩ : ∃ d : Nat, n1 = d := ⟨n1.toNat, by omega⟩
      have hd3 : d ≤ 3 := by omega
      have HDD := Lib.hid hd
      have hq : qd d ≤ 93 := by
        have : d = 0 ∨ d = 1 ∨ d = 2 ∨ d = 3 := by omega
        rcases this with rfl | rfl | rfl | rfl <;> decide
      clear hk8 hn1 hd
      go_wp2_with fail
      go_at_call 45
      refine (l2Draw_any d B a ln cp zs _ n1 _ HDD.out (by omega) HZ8.out.rd (by omega)).mono ?_
      rintro e w9 ⟨x1, vx1, r1, hs1, hr1, rfl, hty1, hd1, hrd1⟩
      have HX1 := Lib.hid hty1.at
      have HN1 := Lib.hid (nodes5 (shp_le (d' := 5) hs1 (by omega)))
      have HZ9 := Lib.hid (HZ8.out.step hd1 hrd1)
      have hw9 : w8.heap.size ≤ w9.heap.size := hd1.size
      obtain ⟨ax1, cx1, rfl, _⟩ := hty1.at.slice
      clear hty1 hs1 hd1 hrd1
      go_wp2_with fail
      go_at_call 42
      refine (l2Mutate_any x1 _ B a ln cp zs _ _ (fun t => nodes t ≤ 80) (fun t h => by have := HN1.out; omega) 2 (Nat.le_refl _) (by have := HN1.out; omega) HX1.out HZ9.out.rd (by omega)).mono ?_
      rintro e w10 ⟨y, vy, r4, hny, hr4, rfl, hty, hd, hrd⟩
      have HZ10 := Lib.hid (HZ9.out.step hd hrd)
      have HY := Lib.hid (hty.lowE (lo := w2.heap.size) (E := g) (by have := HZ9.out.h5; have := HT.out; omega) (by omega))
      have HNY : Hid (nodes y ≤ 300) := Lib.hid (by omega)
      obtain ⟨ay, cy, rfl, _⟩ := hty.ok.at.slice
      have hw10 : w9.heap.size ≤ w10.heap.size := hd.size
      clear hty hd hrd hny
      have HO : Hid (w10.ownsRow (T + 1) 28 3 (.slice (some ⟨g, 0, none⟩) jl c) jl (trios L)) := Lib.hid (by rw [← HJL.out]; exact HZ10.out.ls.own)
      have h5 := HZ10.out.h5
      obtain ⟨i0, hi0, hz0, hz1, hz2⟩ := info_parts infoTyp
      go_wp2_with (first | (at_builtin; refine wpList_append_lies _ rfl _ _ 26 rfl (T + 1) 28 i0 _ 3 40 Try.underlying26 hi0 hz0 hz1 hz2 rfl (by omega) (.slice (some ⟨g, 0, none⟩) jl c) jl (trios L) rfl (HO.out.alloc _) ⟨w10.heap.size, 0, none⟩ 1 1 [.int .i64 y.k, .int .i64 y.n, .slice ay y.ks.length cy] rfl rfl (World.news_of_block (cs := #[.int .i64 y.k, .int .i64 y.n, .slice ay y.ks.length cy]) (t := 28) (fr := (0, 0)) (heap_alloc_new w10 _)) (by simp [Value.oneCell']) (by omega) (by unfold maxLen; omega) (by omega) (by simp; omega) (w10.heap.size + 1) (by simp) ?_; intro g6 cap6 w11 hown6 hgrow6 hat6 hlt6))
      have HZ11 := Lib.hid (HZ10.out.push (x := (y, .slice ay y.ks.length cy)) (g6 := g6) (c6 := cap6) HY.out HNY.out (by rw [HJL.out]; exact hown6) hgrow6 (hat6.imp id (fun h => by omega)))
      clear hown6 hgrow6 hat6
      go_roundw
      case rel => exact ⟨L ++ [(y, .slice ay y.ks.length cy)], g6, cap6, _, n', by simp [HJL.out], by go_num, by omega, by rw [List.length_append, HJL.out]; simp; omega, by omega, HZ11⟩
      case measure => simp [intOf] <;> omega
    · obtain rfl : n = 0 := by omega
      obtain ⟨b0, b1, b2, bz⟩ := hzs.out.tb
      obtain ⟨p0, p1, p2, f0, f1, f2, psz⟩ := hzs.out.r1
      have HSB := Lib.hid (show S < w2.heap.size from by omega)
      go_wp2_with fail
      refine bodyPost_ret (v := .tuple #[.agg #[.int .i64 t.k, .int .i64 t.n, .slice at_ t.ks.length ct], .slice (some ⟨g, 0, none⟩) jl c]) (by simp [results, Try.results18, go_sem, p0, p1, p2]) rfl ⟨t, _, L.map (·.1), g, c, by have := HNT.out; omega, by rw [List.length_map, HJL.out]; omega, fun x hx => ?_, by simp [HJL.out], (rest_ty hzs.out.ty HSB.out _ _ _).ok, ?_, ?_⟩
      · obtain ⟨y, hy, rfl⟩ := List.mem_map.1 hx
        exact hzs.out.sm y hy
      · have hgl := hzs.out.ls.low
        have h3 := hzs.out.h3
        have h4 := hzs.out.h4
        have hlr : LR (((wr.setCell ⟨S, 0, none⟩ (.int .i64 t.k)).setCell ⟨S, 1, none⟩ (.int .i64 t.n)).setCell ⟨S, 2, none⟩ (.slice at_ t.ks.length ct)) (T + 1) w2.heap.size g c L :=
          ⟨own_keep hzs.out.ls.own (fun b h1 _ => heap_res (by omega)), fun p hp => rest_ty (hzs.out.ls.el p hp) HSB.out _ _ _⟩
        have h := hlr.ty (by rw [HJL.out]; omega)
        rw [List.length_map]
        exact h
      · rw [HS.out]; exact rest_bl hzs.out.bl (Nat.le_refl _) _ _ _

end Go.Proofs.Ytjhccdioainibaa
