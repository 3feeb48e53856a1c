/-
  A type after a replacement is an instance of the type; a type whose replacements are none, or that has no variables, stays. Plain facts.
  What the answer of UnifyTypes says: an instance of both types, the most general one, canonical. Plain facts.
  Instances are an order; canonical types are stable, and number their variables from 0 on; types without variables. Plain facts.
-/
import Derived.Test.YtndpoejohpmifaaPg
import Derived.Test.YtndpoejohpmifaaAfh
import Derived.Test.YtndpoejohpmifaaGae
import Derived.Test.YtndpoejohpmifaaPce
import Derived.Test.YtndpoejohpmifaaBh
import Derived.Test.YtndpoejohpmifaaNdg
namespace Go.Proofs.Ytndpoejohpmifaa.Mx
open Go.Proofs.Ytndpoejohpmifaa
open Go.RowKit
set_option linter.unusedVariables false
set_option linter.unusedSimpArgs false

/-- What a variable is replaced by. -/
def rv (ls : List Ty) (n : Int) : Ty := (sF ls [] n).1
theorem sb_num (ls : List Ty) (d : Nat) : sbT ls (d + 1) (.node 1 0 []) = .node 1 0 [] := by simp [sbT, rp]
theorem sb_var (ls : List Ty) (d : Nat) (n : Int) : sbT ls (d + 1) (.node 4 n []) = rv ls n := by
  show (rp (sF ls) (d + 1) (.node 4 n []) []).1 = _
  simp [rp, rv]
theorem sb_none : ∀ (d : Nat) (t : Ty), shp d t = true → sbT [] d t = t := by
  intro d
  induction d with
  | zero => intro t h; cases h
  | succ d ih =>
    intro t h
    rcases shp_forms h with rfl | ⟨n, n0, n1, rfl⟩ | ⟨k, a, b, hk, rfl, ha, hb⟩
    · exact sb_num _ _
    · rw [sb_var]
      unfold rv
      rw [sF_out (by simp; omega)]
    · rw [sbT_join (by omega), ih a ha, ih b hb]
theorem sv_none {t : Ty} (h : tvT t = true) : svT t [] = some t := by
  have e := sb_none 16 t (tvT_shp h)
  have := svT_y (ls := []) h (fun i hi => absurd hi (Nat.not_lt_zero _)) (by rw [e]; exact h)
  rw [e] at this
  exact this
theorem sb_closed (ls : List Ty) : ∀ (d : Nat) (t : Ty), shp d t = true → (∀ n, ¬ occ d t n) → sbT ls d t = t := by
  intro d
  induction d with
  | zero => intro t h; cases h
  | succ d ih =>
    intro t h ho
    rcases shp_forms h with rfl | ⟨n, n0, n1, rfl⟩ | ⟨k, a, b, hk, rfl, ha, hb⟩
    · exact sb_num _ _
    · exact absurd (.inl ⟨rfl, rfl⟩) (ho n)
    · rw [sbT_join (by omega), ih a ha (fun n h => ho n (.inr ⟨0, by simp [Ty.ks], h⟩)), ih b hb (fun n h => ho n (.inr ⟨1, by simp [Ty.ks], h⟩))]
theorem sv_parts {t X : Ty} {ls : List Ty} (h : svT t ls = some X) : tvT t = true ∧ tvT X = true ∧ X = sbT ls 16 t := by
  unfold svT at h
  split at h
  · rename_i hc
    injection h with h
    subst h
    exact ⟨hc.1, hc.2.2, rfl⟩
  · cases h
theorem sv_closed {t X : Ty} {ls : List Ty} (h : svT t ls = some X) (hv : varsT t = []) : X = t := by
  obtain ⟨h1, _, rfl⟩ := sv_parts h
  rw [varsT_yes h1] at hv
  refine sb_closed ls 16 t (tvT_shp h1) (fun n hn => ?_)
  have := (vars_occ 16 t [] n (tvT_shp h1)).2 (.inr hn)
  rw [hv] at this
  cases this
/-- The replacements found so far are those of ls. -/
def Agr (ls : List Ty) (M : Asn) : Prop := ∀ n b, alook n M = some b → b = rv ls n
theorem mtf_sub (ls : List Ty) : ∀ (d : Nat) (g : Ty) (M : Asn), shp d g = true → Agr ls M → ∃ M', mtf d g (sbT ls d g) M = some M' ∧ Agr ls M' := by
  intro d
  induction d with
  | zero => intro g M h; cases h
  | succ d ih =>
    intro g M h hM
    rcases shp_forms h with rfl | ⟨n, n0, n1, rfl⟩ | ⟨k, a, b, hk, rfl, ha, hb⟩
    · rw [sb_num, mtf_iter (by decide) rfl]
      exact ⟨M, rfl, hM⟩
    · rw [sb_var]
      rcases hl : alook n M with _ | x
      · refine ⟨_, mtf_new (g := .node 4 n []) rfl hl, fun m y hy => ?_⟩
        have hy' : alook m (M ++ [(n, rv ls n)]) = some y := hy
        rw [alook_snoc m n _ M hl] at hy'
        by_cases e : m = n
        · rw [if_pos e] at hy'
          injection hy' with hy'
          rw [← hy', e]
        · rw [if_neg e] at hy'; exact hM m y hy'
      · refine ⟨M, ?_, hM⟩
        rw [mtf_old (g := .node 4 n []) rfl hl, if_pos (sameB_yes (hM n x hl))]
    · have h4 : k ≠ 4 := by omega
      rw [sbT_join h4, mtf_iter (g := .node k 0 [a, b]) (s := .node k 0 [sbT ls d a, sbT ls d b]) h4 rfl]
      obtain ⟨M1, e1, h1⟩ := ih a M ha hM
      obtain ⟨M2, e2, h2⟩ := ih b M1 hb h1
      refine ⟨M2, ?_, h2⟩
      exact iter_next (iter_next rfl e1) e2
theorem sv_inst {t X : Ty} {ls : List Ty} (h : svT t ls = some X) : instB X t = true := by
  obtain ⟨h1, h2, rfl⟩ := sv_parts h
  obtain ⟨M', e, _⟩ := mtf_sub ls 16 t [] (tvT_shp h1) (fun n b h => by cases h)
  unfold instB
  rw [h1, h2, e]
  rfl

end Go.Proofs.Ytndpoejohpmifaa.Mx
/-
  What the draw of the arguments of SubstVars returns: a type and at most three others in a row. Nothing that was in memory changes.
-/
namespace Go.Proofs.Ytndpoejohpmifaa
open Go.RowKit
set_option linter.unusedVariables false
set_option linter.unusedSimpArgs false

theorem TyN.moved {w w' : World} {lo E E' : Nat} {t : Ty} {v : Value} (h : TyN w lo E t v) (hs : w.heap.size ≤ w'.heap.size) (hk : ∀ b, b ≠ E → b < w.heap.size → w'.heap[b]? = w.heap[b]?) (hE : E' = E ∨ w.heap.size ≤ E') : TyN w' lo E' t v := by
  induction h with
  | bare k n a cap => exact .bare k n a cap
  | row k n ks b o cap vs hb he hr hl h0 h1 h2 _ ih =>
    have e := hk b he hr.lt
    exact .row k n ks b o cap vs hb (by have := hr.lt; omega) (hr.keep hs e) hl (fun i hi => (cellEq e).trans (h0 i hi)) (fun i hi => (cellEq e).trans (h1 i hi)) (fun i hi => (cellEq e).trans (h2 i hi)) ih
theorem TyN.lowE {w : World} {lo lo' E E' : Nat} {t : Ty} {v : Value} (h : TyN w lo' E' t v) (hl : lo ≤ lo') (hE : E < lo') : TyN w lo E t v := by
  induction h with
  | bare k n a cap => exact .bare k n a cap
  | row k n ks b o cap vs hb he hr hl' h0 h1 h2 _ ih => exact .row k n ks b o cap vs (by omega) (by omega) hr hl' h0 h1 h2 ih
def trio (p : Ref) : List Value := [.int .i64 p.1.k, .int .i64 p.1.n, p.2]
def trios (L : List Ref) : List Value := L.flatMap trio
theorem trios_snoc (L : List Ref) (p : Ref) : trios (L ++ [p]) = trios L ++ trio p := by simp [trios]
theorem trios_len : ∀ L : List Ref, (trios L).length = L.length * 3
  | [] => rfl
  | p :: L => by
    have := trios_len L
    have e : trios (p :: L) = trio p ++ trios L := rfl
    rw [e, List.length_append, this]
    show 3 + L.length * 3 = (L.length + 1) * 3
    omega
theorem trios_at : ∀ (L : List Ref) (i q : Nat), i < L.length → q < 3 → (trios L)[i * 3 + q]? = (trio (L.getD i (Ty.dummy, .bool false)))[q]?
  | p :: L, i, q, hi, hq => by
    have e : trios (p :: L) = trio p ++ trios L := rfl
    rw [e]
    cases i with
    | zero =>
      rw [List.getElem?_append_left (by show 0 * 3 + q < 3; omega)]
      simp [List.getD]
    | succ i =>
      have hl : (trio p).length = 3 := rfl
      rw [List.getElem?_append_right (by rw [hl]; omega), hl, show (i + 1) * 3 + q - 3 = i * 3 + q by omega, trios_at L i q (by simpa using hi) hq]
      simp [List.getD]
/-- The types L lie in the row cv, which is the call's own; their rows lie from lo on, none in the row's block. -/
structure LR (w : World) (B0 lo : Nat) (g c : Nat) (L : List Ref) : Prop where
  own : w.ownsRow B0 25 3 (.slice (some ⟨g, 0, none⟩) L.length c) L.length (trios L)
  el : ∀ p ∈ L, TyN w lo g p.1 p.2
theorem LR.low {w : World} {B0 lo g c : Nat} {L : List Ref} (h : LR w B0 lo g c L) : B0 ≤ g ∧ g < w.heap.size := own_block h.own
theorem LR.dw {w w' : World} {B B0 lo g c : Nat} {L : List Ref} (h : LR w B0 lo g c L) (h1 : B < lo) (h2 : B < B0) (hd : Dw B w w') : LR w' B0 lo g c L :=
  ⟨own_keep h.own (fun b h3 h4 => hd.block b h4 (by simp; omega)), fun p hp => (h.el p hp).dw h1 hd⟩
theorem LR.ty {w : World} {B0 lo g c : Nat} {L : List Ref} (h : LR w B0 lo g c L) (hl : L.length ≤ 3) : TyOk w (.node 0 0 (L.map (·.1))) (.slice (some ⟨g, 0, none⟩) L.length c) := by
  have e : (L.map (·.1)).length = L.length := by simp
  have hg : ∀ i, i < L.length → (L.map (·.1)).getD i Ty.dummy = (L.getD i (Ty.dummy, .bool false)).1 := by
    intro i hi
    simp [List.getD, hi]
  have hc : ∀ i q, i < L.length → q < 3 → w.cell? ⟨g, i * 3 + q, none⟩ = (trio (L.getD i (Ty.dummy, .bool false)))[q]? := fun i q hi hq => (h.own.cellAt _ (by omega)).trans (trios_at L i q hi hq)
  have hr : Row w g := row_own h.own
  have := TyOk.row (w := w) 0 0 (L.map (·.1)) g 0 c (fun i => (L.getD i (Ty.dummy, .bool false)).2) hr (by rw [e]; omega)
    (fun i hi => by rw [e] at hi; rw [hg i hi, Nat.zero_add]; exact hc i 0 hi (by omega))
    (fun i hi => by rw [e] at hi; rw [hg i hi, Nat.zero_add]; exact hc i 1 hi (by omega))
    (fun i hi => by rw [e] at hi; rw [Nat.zero_add]; exact hc i 2 hi (by omega))
    (fun i hi => by
      rw [e] at hi
      rw [hg i hi]
      exact (h.el _ (by simp [List.getD, hi])).ok)
  rwa [e] at this
theorem LR.push {w w6 : World} {B0 lo g c g6 c6 : Nat} {L : List Ref} (h : LR w B0 lo g c L) {o : Obj} {p : Ref} (hp : TyN w lo g p.1 p.2)
    (hown : w6.ownsRow B0 25 3 (.slice (some ⟨g6, 0, none⟩) (L.length + 1) c6) (L.length + 1) (trios L ++ trio p)) (hg : (w.alloc o).grownBy w6 (some g)) (hat : some g = some g6 ∨ w.heap.size ≤ g6) : LR w6 B0 lo g6 c6 (L ++ [p]) := by
  have hsz : w.heap.size ≤ w6.heap.size := by have := hg.size; simp at this; omega
  have hold : ∀ q, q ≠ g → q < w.heap.size → w6.heap[q]? = w.heap[q]? := fun q h1 h2 => grow_old' hg h2 (fun x e => by injection e with e; omega)
  have hE : g6 = g ∨ w.heap.size ≤ g6 := hat.imp (fun e => by injection e with e; exact e.symm) id
  refine ⟨?_, fun x hx => ?_⟩
  · rw [List.length_append, trios_snoc]; exact hown
  · rcases List.mem_append.1 hx with hx | hx
    · exact (h.el x hx).moved hsz hold hE
    · rw [List.mem_singleton.1 hx]; exact hp.moved hsz hold hE
/-- Where the draw of a row of types stands. -/
structure ZS (w : World) (S B T B0 lo : Nat) (a : Option Addr) (len cap : Nat) (zs : List Int) (p : Nat) (t : Ty) (vt : Value) (g c : Nat) (L : List Ref) (W : World) : Prop where
  rd : Rd W B a len cap zs p
  bl : Below S w W
  r1 : RB W S
  tb : TBox W T (.int .i64 t.k) (.int .i64 t.n) vt
  ty : TyN W lo g t vt
  ls : LR W B0 lo g c L
  h1 : S < B
  h2 : B < lo
  h3 : B < T
  h4 : T < B0
  h5 : B0 ≤ W.heap.size
  eq : w.heap.size = S
  sm : ∀ x ∈ L, nodes x.1 ≤ 300
theorem ZS.step {w : World} {S B T B0 lo : Nat} {a : Option Addr} {len cap : Nat} {zs : List Int} {p p' : Nat} {t : Ty} {vt : Value} {g c : Nat} {L : List Ref} {W W' : World} (h : ZS w S B T B0 lo a len cap zs p t vt g c L W) (hd : Dw B W W') (hr : Rd W' B a len cap zs p') : ZS w S B T B0 lo a len cap zs p' t vt g c L W' := by
  have hl := h.h1; have h2 := h.h2; have h3 := h.h3; have h4 := h.h4
  have hb := h.rd.big
  exact ⟨hr, h.bl.trans (hd.below (by omega) (by omega)), h.r1.keep hd.size (hd.block S h.r1.sz (by simp; omega)), h.tb.dw h3 hd, h.ty.dw h2 hd, h.ls.dw h2 (by omega) hd, hl, h2, h3, h4, Nat.le_trans h.h5 hd.size, h.eq, h.sm⟩
theorem ZS.pick {w : World} {S B T B0 lo : Nat} {a : Option Addr} {len cap : Nat} {zs : List Int} {p : Nat} {t : Ty} {vt : Value} {g c : Nat} {L : List Ref} {W W' : World} (h : ZS w S B T B0 lo a len cap zs p t vt g c L W) {k : Nat} (hk : W' = (W.setCell ⟨B, 1, none⟩ (.int .i64 ((p : Int) + 1))).drewN k) : ZS w S B T B0 lo a len cap zs (p + 1) t vt g c L W' :=
  h.step (Dw.pick hk) (h.rd.picked hk)
theorem ZS.alloc {w : World} {S B T B0 lo : Nat} {a : Option Addr} {len cap : Nat} {zs : List Int} {p : Nat} {t : Ty} {vt : Value} {g c : Nat} {L : List Ref} {W : World} (h : ZS w S B T B0 lo a len cap zs p t vt g c L W) (o : Obj) : ZS w S B T B0 lo a len cap zs p t vt g c L (W.alloc o) :=
  h.step ((Dw.refl B W).alloc o) (h.rd.alloc o)
theorem ZS.push {w : World} {S B T B0 lo : Nat} {a : Option Addr} {len cap : Nat} {zs : List Int} {p : Nat} {t : Ty} {vt : Value} {g c : Nat} {L : List Ref} {W W6 : World} (h : ZS w S B T B0 lo a len cap zs p t vt g c L W) {o : Obj} {x : Ref} {g6 c6 : Nat} (hp : TyN W lo g x.1 x.2) (hx : nodes x.1 ≤ 300)
    (hown : W6.ownsRow B0 25 3 (.slice (some ⟨g6, 0, none⟩) (L.length + 1) c6) (L.length + 1) (trios L ++ trio x)) (hg : (W.alloc o).grownBy W6 (some g)) (hat : some g = some g6 ∨ W.heap.size ≤ g6) : ZS w S B T B0 lo a len cap zs p t vt g6 c6 (L ++ [x]) W6 := by
  have hl := h.h1; have h2 := h.h2; have h3 := h.h3; have h4 := h.h4
  have hb := h.rd.big
  have hlow := h.ls.low
  have hsz : W.heap.size ≤ W6.heap.size := by have := hg.size; simp at this; omega
  have hold : ∀ q, q ≠ g → q < W.heap.size → W6.heap[q]? = W.heap[q]? := fun q h1 h2 => grow_old' hg h2 (fun x e => by injection e with e; omega)
  have hE : g6 = g ∨ W.heap.size ≤ g6 := hat.imp (fun e => by injection e with e; exact e.symm) id
  have hA := (Below.refl W.heap.size W).alloc (Nat.le_refl _) o
  have hbl : Below (B + 1) W W6 := ⟨hg.os.trans hA.os, hg.tape.trans hA.tape, hg.output.trans hA.output, hsz, fun q hq => hold q (by omega) (by omega)⟩
  refine ⟨h.rd.kept hbl, h.bl.trans (hbl.mono (by omega)), h.r1.keep hsz (hold S (by omega) h.r1.sz), h.tb.aside hsz (hold T (by omega) h.tb.sz), h.ty.moved hsz hold hE, h.ls.push hp hown hg hat, hl, h2, h3, h4, Nat.le_trans h.h5 hsz, h.eq, fun y hy => ?_⟩
  rcases List.mem_append.1 hy with hy | hy
  · exact h.sm y hy
  · rw [List.mem_singleton.1 hy]; exact hx
def SubPost (w : World) (e : Ending) (w' : World) : Prop := ∃ (t : Ty) (vt : Value) (L : List Ty) (g c : Nat), nodes t ≤ 300 ∧ L.length ≤ 3 ∧ (∀ x ∈ L, nodes x ≤ 300) ∧ e = .returned (.tuple #[.agg #[.int .i64 t.k, .int .i64 t.n, vt], .slice (some ⟨g, 0, none⟩) L.length c]) ∧ TyOk w' t vt ∧ TyOk w' (.node 0 0 L) (.slice (some ⟨g, 0, none⟩) L.length c) ∧ Below w.heap.size w w'
end Go.Proofs.Ytndpoejohpmifaa

namespace Go.Proofs.Ytndpoejohpmifaa
open Go.RowKit
set_option linter.unusedVariables false
set_option linter.unusedSimpArgs false

theorem ev_inj {N : Int} {x : Ty} (hx : Wt N x) : ∀ (y : Ty) (M : Int), Wt M y → evT ivar x = evT ivar y → x = y := by
  induction hx with
  | num =>
    intro y M hy h
    cases hy with
    | num => rfl
    | var n h0 _ => rw [evT_num, evT_var] at h; exact (inum_var h0 h).elim
    | join k a b hk _ _ => rw [evT_num, evT_join _ _ _ _ hk] at h; exact (ijoin_num hk h.symm).elim
  | var v hv0 _ =>
    intro y M hy h
    cases hy with
    | num => rw [evT_num, evT_var] at h; exact (inum_var hv0 h.symm).elim
    | var w h0 _ => rw [evT_var, evT_var] at h; rw [ivar_inj h]
    | join k a b hk _ _ => rw [evT_var, evT_join _ _ _ _ hk] at h; exact (ijoin_var hk hv0 h.symm).elim
  | join k a b hk _ _ iha ihb =>
    intro y M hy h
    rw [evT_join _ _ _ _ hk] at h
    cases hy with
    | num => rw [evT_num] at h; exact (ijoin_num hk h).elim
    | var w h0 _ => rw [evT_var] at h; exact (ijoin_var hk h0 h).elim
    | join k' a' b' hk' ha' hb' =>
      rw [evT_join _ _ _ _ hk'] at h
      obtain ⟨rfl, e1, e2⟩ := ijoin_inj h
      rw [iha a' M ha' e1, ihb b' M hb' e2]
/-- Renamed types have the same trees under solutions that fit. -/
theorem Rn.ev {r s : Int → Int} {x y : Ty} (h : Rn r s x y) (θ θ' : Int → Inf) (hf : ∀ v, s (r v) = v → θ v = θ' (r v)) : evT θ x = evT θ' y := by
  induction h with
  | num => rw [evT_num, evT_num]
  | var v w h1 h2 => rw [evT_var, evT_var, h1]; exact hf v (by rw [← h1, ← h2])
  | join k a b a' b' hk _ _ iha ihb => rw [evT_join _ _ _ _ hk, evT_join _ _ _ _ hk, iha, ihb]
theorem Rn.back {r s : Int → Int} {x y : Ty} (h : Rn r s x y) (θ : Int → Inf) : evT (fun w => θ (s w)) y = evT θ x :=
  (h.ev θ (fun w => θ (s w)) (fun v e => by show θ v = θ (s (r v)); rw [e])).symm
theorem Rn.fwd {r s : Int → Int} {x y : Ty} (h : Rn r s x y) : evT (fun v => ivar (r v)) x = evT ivar y :=
  h.ev (fun v => ivar (r v)) ivar (fun v e => rfl)
theorem Rn.closed {r s : Int → Int} {x y : Ty} (h : Rn r s x y) (hc : ∀ v, ¬ Occ v x) : y = x := by
  induction h with
  | num => rfl
  | var v w h1 h2 => exact absurd .var (hc v)
  | join k a b a' b' hk _ _ iha ihb => rw [iha (fun v hv => hc v (.left _ _ _ hv)), ihb (fun v hv => hc v (.right _ _ _ hv))]
theorem idx_get {L : List Int} {n : Int} (h : n ∈ L) : L.getD (L.idxOf n) 0 = n := by
  have hl := List.idxOf_lt_length_iff.2 h
  rw [List.getD_eq_getElem?_getD, List.getElem?_eq_getElem hl]
  exact List.getElem_idxOf hl
/-- A type and the one with its variables numbered differ in names only. -/
theorem rn_rp : ∀ (d : Nat) (t : Ty) (st : List Int), shp d t = true → st <+: (rp fF d t st).2 ∧ ∀ L : List Int, (rp fF d t st).2 <+: L → Rn (fun v => ((L.idxOf v : Nat) : Int)) (fun i => L.getD i.toNat 0) t (rp fF d t st).1 := by
  intro d
  induction d with
  | zero => intro t st h; cases h
  | succ d ih =>
    intro t st h
    rcases shp_forms h with rfl | ⟨n, n0, n1, rfl⟩ | ⟨k, a, b, hk, rfl, ha, hb⟩
    · have e : rp fF (d + 1) (.node 1 0 []) st = (.node 1 0 [], st) := by simp [rp]
      rw [e]
      exact ⟨List.prefix_refl _, fun L _ => .num⟩
    · have e : rp fF (d + 1) (.node 4 n []) st = fF st n := by simp [rp]
      rw [e]
      unfold fF
      refine ⟨addV_pre st n, fun L hL => ?_⟩
      have hm : n ∈ addV st n := mem_addV.2 (.inr rfl)
      have hL' : n ∈ L := hL.subset hm
      have e2 : L.idxOf n = (addV st n).idxOf n := by
        obtain ⟨l, rfl⟩ := hL
        rw [List.idxOf_append, if_pos hm]
      refine .var n _ ?_ ?_
      · show ixA st n = ((L.idxOf n : Nat) : Int)
        rw [e2]; rfl
      · show n = L.getD (ixA st n).toNat 0
        have e3 : (ixA st n).toNat = L.idxOf n := by rw [e2]; unfold ixA; simp
        rw [e3, idx_get hL']
    · have hk4 : k ≠ 4 := by omega
      have e : rp fF (d + 1) (.node k 0 [a, b]) st = (.node k 0 [(rp fF d a st).1, (rp fF d b (rp fF d a st).2).1], (rp fF d b (rp fF d a st).2).2) := by simp [rp, hk4]
      rw [e]
      obtain ⟨p1, q1⟩ := ih a st ha
      obtain ⟨p2, q2⟩ := ih b (rp fF d a st).2 hb
      exact ⟨p1.trans p2, fun L hL => .join k _ _ _ _ hk (q1 L (p2.trans hL)) (q2 L hL)⟩
theorem rn_can {t : Ty} (h : shp 16 t = true) : ∃ r s, Rn r s t (canT t) := by
  rw [← rp_can h]
  exact ⟨_, _, (rn_rp 16 t [] h).2 _ (List.prefix_refl _)⟩
theorem canT_twice {t : Ty} (h : shp 16 t = true) : canT (canT t) = canT t := by
  obtain ⟨r, s, hr⟩ := rn_can h
  have e1 := can_canT (canT_nd h).1
  rw [← e1, can_rn hr (dp_of_shp 16 t h), can_canT h]
/-- Walking to the root's end. -/
theorem wk_exists {B : Bn} {t u : Ty} (h : Ful B t u) : ∃ t', Wk B t t' ∧ Trm B t' := by
  induction h with
  | num => exact ⟨_, .refl _, fun e => by cases e⟩
  | free n e => exact ⟨_, .refl _, fun _ => e⟩
  | bound n t u e _ ih => obtain ⟨t', h1, h2⟩ := ih; exact ⟨t', .step n t t' e h1, h2⟩
  | join k a b a' b' hk _ _ => exact ⟨_, .refl _, fun e => by have e' : k = 4 := e; omega⟩
open Classical in
theorem uni_var {N : Nat} {B : Bn} (hB : BOK N B) {n : Int} (h0 : 0 ≤ n) (hN : n < N) (hn : B n = none) {t u : Ty} (ht : Wt N t) (hu : Ful B t u) (hT : Trm B t) : ∃ B' r, UniOk N B B' (.node 4 n []) t r := by
  obtain ⟨m, rfl⟩ : ∃ m : Nat, n = m := ⟨n.toNat, by omega⟩
  by_cases ho : Occ (m : Int) u
  · rcases ful_shape hu hT with ⟨rfl, rfl⟩ | ⟨k, rfl, rfl, _⟩ | ⟨k, a, b, a', b', hk, rfl, rfl, _, _⟩
    · cases ho
    · cases ho
      exact ⟨B, true, uni_same hB _⟩
    · exact ⟨B, false, uni_occ hB ht hu (show k ≠ 4 by omega) ho⟩
  · exact ⟨_, true, uni_bind hB (by omega) hn ht hu ho⟩
theorem uni_step (N f s : Nat) (ihf : ∀ g, g < f → ∀ (B : Bn) (a b : Ty), fr N B ≤ g → BOK N B → Wt N a → Wt N b → ∃ B' r, UniOk N B B' a b r)
    (ihs : ∀ (B : Bn) (a b u : Ty), fr N B ≤ f → BOK N B → Wt N a → Wt N b → Ful B a u → nodes u ≤ s → ∃ B' r, UniOk N B B' a b r)
    (B : Bn) (a b u : Ty) (hf : fr N B ≤ f) (hB : BOK N B) (ha : Wt N a) (hb : Wt N b) (hu : Ful B a u) (hs : nodes u ≤ s + 1) : ∃ B' r, UniOk N B B' a b r := by
  obtain ⟨ub, hub⟩ := ful_exists hB hb
  obtain ⟨a', wa, ta⟩ := wk_exists hu
  obtain ⟨b', wb, tb⟩ := wk_exists hub
  have ha' := wa.wt hB ha
  have hb' := wb.wt hB hb
  have fa := wa.ful hu
  have fb := wb.ful hub
  suffices h : ∃ B' r, UniOk N B B' a' b' r by
    obtain ⟨B', r, h⟩ := h
    exact ⟨B', r, h.wk wa wb⟩
  clear wa wb hu hub ha hb
  have flip : (∃ B' r, UniOk N B B' b' a' r) → ∃ B' r, UniOk N B B' a' b' r := fun ⟨B', r, h⟩ => ⟨B', r, h.swap⟩
  rcases ful_shape fa ta with ⟨rfl, rfl⟩ | ⟨n, rfl, rfl, hn⟩ | ⟨k, a1, a2, u1, u2, hk, rfl, rfl, f1, f2⟩
  · rcases ful_shape fb tb with ⟨rfl, rfl⟩ | ⟨n, rfl, rfl, hn⟩ | ⟨k, b1, b2, v1, v2, hk, rfl, rfl, g1, g2⟩
    · exact ⟨B, true, uni_same hB _⟩
    · cases hb' with
      | var _ h0 h1 => exact flip (uni_var hB h0 h1 hn ha' fa ta)
    · exact ⟨B, false, uni_kind hB ha' hb' (by decide) (show k ≠ 4 by omega) (show (1 : Int) ≠ k by omega)⟩
  · cases ha' with
    | var _ h0 h1 => exact uni_var hB h0 h1 hn hb' fb tb
  · rcases ful_shape fb tb with ⟨rfl, rfl⟩ | ⟨n, rfl, rfl, hn⟩ | ⟨k', b1, b2, v1, v2, hk', rfl, rfl, g1, g2⟩
    · exact ⟨B, false, uni_kind hB ha' hb' (show k ≠ 4 by omega) (by decide) (show k ≠ (1 : Int) by omega)⟩
    · cases hb' with
      | var _ h0 h1 => exact flip (uni_var hB h0 h1 hn ha' fa ta)
    · by_cases e : k = k'
      · subst e
        rw [nodes_two] at hs
        have q1 := nodes_pos u1
        have q2 := nodes_pos u2
        have wa1 : Wt N a1 := by cases ha' with | join _ _ _ _ h _ => exact h
        have wa2 : Wt N a2 := by cases ha' with | join _ _ _ _ _ h => exact h
        have wb1 : Wt N b1 := by cases hb' with | join _ _ _ _ h _ => exact h
        have wb2 : Wt N b2 := by cases hb' with | join _ _ _ _ _ h => exact h
        obtain ⟨B1, r1, h1⟩ := ihs B a1 b1 u1 hf hB wa1 wb1 f1 (by omega)
        rcases r1 with _ | _
        · exact ⟨B1, false, uni_join_no hk h1⟩
        · rcases h1.fewer with e1 | e1
          · subst e1
            obtain ⟨B2, r2, h2⟩ := ihs B1 a2 b2 u2 hf hB wa2 wb2 f2 (by omega)
            exact ⟨B2, r2, uni_join hk h1 h2⟩
          · obtain ⟨B2, r2, h2⟩ := ihf (fr N B1) (by omega) B1 a2 b2 (Nat.le_refl _) h1.ok wa2 wb2
            exact ⟨B2, r2, uni_join hk h1 h2⟩
      · exact ⟨B, false, uni_kind hB ha' hb' (show k ≠ 4 by omega) (show k' ≠ 4 by omega) (show k ≠ k' from e)⟩
/-- Unification comes to an end. -/
theorem uni_exists (N : Nat) : ∀ (f s : Nat) (B : Bn) (a b u : Ty), fr N B ≤ f → BOK N B → Wt N a → Wt N b → Ful B a u → nodes u ≤ s → ∃ B' r, UniOk N B B' a b r := by
  intro f
  induction f with
  | zero =>
    intro s
    induction s with
    | zero => intro B a b u _ _ _ _ _ h; have := nodes_pos u; omega
    | succ s ihs =>
      intro B a b u hf hB ha hb hu hs
      exact uni_step N 0 s (fun g hg => absurd hg (Nat.not_lt_zero _)) ihs B a b u hf hB ha hb hu hs
  | succ f ihf =>
    intro s
    induction s with
    | zero => intro B a b u _ _ _ _ _ h; have := nodes_pos u; omega
    | succ s ihs =>
      intro B a b u hf hB ha hb hu hs
      refine uni_step N (f + 1) s (fun g hg B a b hf2 hB ha hb => ?_) ihs B a b u hf hB ha hb hu hs
      obtain ⟨u2, hu2⟩ := ful_exists hB ha
      exact ihf (nodes u2) B a b u2 (by omega) hB ha hb hu2 (Nat.le_refl _)
theorem uni_full {N : Nat} {a b : Ty} (ha : Wt N a) (hb : Wt N b) : ∃ B' r, UniOk N (fun _ => none) B' a b r := by
  obtain ⟨u, hu⟩ := ful_exists (bok_none N) ha
  exact uni_exists N _ _ _ a b u (Nat.le_refl _) (bok_none N) ha hb hu (Nat.le_refl _)
theorem tvT_wt {t : Ty} (h : tvT t = true) : Wt 26 t := wt_of_shp 16 t (tvT_shp h)
/-- What an answer of UnifyTypes is. -/
theorem unT_some {a b x : Ty} (h : unT a b = some x) : tvT a = true ∧ tvT b = true ∧ tvT x = true ∧ ∃ u, Prin a b u ∧ tvT u = true ∧ x = canT u := by
  unfold unT at h
  split at h
  · rename_i hv
    obtain ⟨B', r, hU⟩ := uni_full (N := 26) (tvT_wt hv.1) (tvT_wt hv.2)
    rcases r with _ | _
    · rw [uni_none (fun t ht => prin_no hU ht)] at h; cases h
    · obtain ⟨u, hu⟩ := ful_exists hU.ok (tvT_wt hv.1)
      have hp := prin_model (tvT_wt hv.1) hU hu
      rw [uni_res hp (ful_wt hU.ok hu (tvT_wt hv.1)).1] at h
      split at h
      · rename_i ht
        injection h with h
        exact ⟨hv.1, hv.2, by rw [← h]; exact canT_valid ht, u, hp, ht, h.symm⟩
      · cases h
  · cases h
/-- Where a replacement of a type's variables yields a type, the parts are types. -/
theorem ev_parts {N : Int} {a : Ty} (ha : Wt N a) : ∀ (u : Ty) (M : Int) (σ : Int → Inf), Wt M u → evT σ a = evT ivar u → ∀ n, Occ n a → ∃ t, Wt M t ∧ σ n = evT ivar t := by
  induction ha with
  | num => intro u M σ hu h n ho; cases ho
  | var v _ _ => intro u M σ hu h n ho; cases ho; rw [evT_var] at h; exact ⟨u, hu, h⟩
  | join k a b hk _ _ iha ihb =>
    intro u M σ hu h n ho
    rw [evT_join _ _ _ _ hk] at h
    cases hu with
    | num => rw [evT_num] at h; exact (ijoin_num hk h).elim
    | var w h0 _ => rw [evT_var] at h; exact (ijoin_var hk h0 h).elim
    | join k' a' b' hk' ha' hb' =>
      rw [evT_join _ _ _ _ hk'] at h
      obtain ⟨_, e1, e2⟩ := ijoin_inj h
      cases ho with
      | left _ _ _ ho => exact iha a' M σ ha' e1 n ho
      | right _ _ _ ho => exact ihb b' M σ hb' e2 n ho
theorem ev_then {N : Int} {a : Ty} (ha : Wt N a) : ∀ (u : Ty) (M : Int) (σ σ' τ : Int → Inf), Wt M u → evT σ a = evT ivar u → (∀ n, Occ n a → ∃ t, Wt M t ∧ σ n = evT ivar t ∧ σ' n = evT τ t) → evT σ' a = evT τ u := by
  induction ha with
  | num =>
    intro u M σ σ' τ hu h _
    cases hu with
    | num => rw [evT_num, evT_num]
    | var n h0 _ => rw [evT_num, evT_var] at h; exact (inum_var h0 h).elim
    | join k a b hk _ _ => rw [evT_num, evT_join _ _ _ _ hk] at h; exact (ijoin_num hk h.symm).elim
  | var v _ _ =>
    intro u M σ σ' τ hu h hσ
    rw [evT_var] at h ⊢
    obtain ⟨t, ht, e1, e2⟩ := hσ v .var
    rw [e2, ev_inj ht u M hu (by rw [← e1, h])]
  | join k a b hk _ _ iha ihb =>
    intro u M σ σ' τ hu h hσ
    rw [evT_join _ _ _ _ hk] at h
    cases hu with
    | num => rw [evT_num] at h; exact (ijoin_num hk h).elim
    | var w h0 _ => rw [evT_var] at h; exact (ijoin_var hk h0 h).elim
    | join k' a' b' hk' ha' hb' =>
      rw [evT_join _ _ _ _ hk'] at h
      obtain ⟨rfl, e1, e2⟩ := ijoin_inj h
      rw [evT_join _ _ _ _ hk, evT_join _ _ _ _ hk, iha a' M σ σ' τ ha' e1 (fun n ho => hσ n (.left _ _ _ ho)), ihb b' M σ σ' τ hb' e2 (fun n ho => hσ n (.right _ _ _ ho))]
open Classical in
/-- An instance of a type, its variables replaced once more. -/
theorem ev_more {N M : Int} {a u : Ty} (ha : Wt N a) (hu : Wt M u) {σ : Int → Inf} (h : evT σ a = evT ivar u) (τ : Int → Inf) : ∃ σ', (∀ b L, Wt L b → evT σ b = evT σ a → (∀ n, Occ n b → ∃ t, Wt M t ∧ σ n = evT ivar t) → evT σ' b = evT τ u) ∧ evT σ' a = evT τ u := by
  have hex : ∀ n, ∃ X : Inf, ∀ t, Wt M t → σ n = evT ivar t → X = evT τ t := fun n => by
    by_cases h : ∃ t, Wt M t ∧ σ n = evT ivar t
    · obtain ⟨t, h1, h2⟩ := h
      exact ⟨evT τ t, fun t' h1' h2' => by rw [ev_inj h1 t' M h1' (by rw [← h2, h2'])]⟩
    · exact ⟨fun _ => 0, fun t h1 h2 => absurd ⟨t, h1, h2⟩ h⟩
  obtain ⟨σ', hσ⟩ := Classical.axiomOfChoice hex
  refine ⟨σ', fun b L hb e hp => ?_, ?_⟩
  · refine ev_then hb u M σ σ' τ hu (e.trans h) (fun n ho => ?_)
    obtain ⟨t, h1, h2⟩ := hp n ho
    exact ⟨t, h1, h2, hσ n t h1 h2⟩
  · refine ev_then ha u M σ σ' τ hu h (fun n ho => ?_)
    obtain ⟨t, h1, h2⟩ := ev_parts ha u M σ hu h n ho
    exact ⟨t, h1, h2, hσ n t h1 h2⟩
theorem ev_rn {a u x : Ty} {N M : Int} (ha : Wt N a) (hu : Wt M u) {r s : Int → Int} (hr : Rn r s u x) {σ : Int → Inf} (h : evT σ a = evT ivar u) : ∃ σ', evT σ' a = evT ivar x := by
  obtain ⟨σ', _, e⟩ := ev_more ha hu h (fun v => ivar (r v))
  exact ⟨σ', e.trans hr.fwd⟩
namespace Mx
/-- The replacements found so far are those of σ. -/
def AgrI (σ : Int → Inf) (M : Asn) : Prop := ∀ n b, alook n M = some b → Wt 26 b ∧ evT ivar b = σ n
theorem mtf_ev (σ : Int → Inf) : ∀ (d : Nat) (g s : Ty) (M : Asn), shp d g = true → Wt 26 s → evT σ g = evT ivar s → AgrI σ M → ∃ M', mtf d g s M = some M' ∧ AgrI σ M' := by
  intro d
  induction d with
  | zero => intro g s M h; cases h
  | succ d ih =>
    intro g s M h hs he hM
    rcases shp_forms h with rfl | ⟨n, n0, n1, rfl⟩ | ⟨k, a, b, hk, rfl, ha, hb⟩
    · rw [evT_num] at he
      cases hs with
      | num => rw [mtf_iter (by decide) rfl]; exact ⟨M, rfl, hM⟩
      | var n h0 _ => rw [evT_var] at he; exact (inum_var h0 he).elim
      | join k a b hk _ _ => rw [evT_join _ _ _ _ hk] at he; exact (ijoin_num hk he.symm).elim
    · rw [evT_var] at he
      rcases hl : alook n M with _ | x
      · refine ⟨_, mtf_new (g := .node 4 n []) rfl hl, fun m y hy => ?_⟩
        rw [show (Ty.node 4 n []).n = n from rfl, alook_snoc m n _ M hl] at hy
        by_cases e : m = n
        · rw [if_pos e] at hy
          injection hy with hy
          subst hy; subst e
          exact ⟨hs, he.symm⟩
        · rw [if_neg e] at hy; exact hM m y hy
      · refine ⟨M, ?_, hM⟩
        obtain ⟨h1, h2⟩ := hM n x hl
        rw [mtf_old (g := .node 4 n []) rfl hl, if_pos (sameB_yes (ev_inj h1 s 26 hs (h2.trans he)))]
    · have h4 : k ≠ 4 := by omega
      rw [evT_join _ _ _ _ hk] at he
      cases hs with
      | num => rw [evT_num] at he; exact (ijoin_num hk he).elim
      | var w h0 _ => rw [evT_var] at he; exact (ijoin_var hk h0 he).elim
      | join k' a' b' hk' ha' hb' =>
        rw [evT_join _ _ _ _ hk'] at he
        obtain ⟨rfl, e1, e2⟩ := ijoin_inj he
        rw [mtf_iter (g := .node k 0 [a, b]) (s := .node k 0 [a', b']) h4 rfl]
        obtain ⟨M1, f1, g1⟩ := ih a a' M ha ha' e1 hM
        obtain ⟨M2, f2, g2⟩ := ih b b' M1 hb hb' e2 g1
        exact ⟨M2, iter_next (iter_next rfl f1) f2, g2⟩
theorem inst_of_ev {a x : Ty} (ha : tvT a = true) (hx : tvT x = true) {σ : Int → Inf} (h : evT σ a = evT ivar x) : instB x a = true := by
  obtain ⟨M', e, _⟩ := mtf_ev σ 16 a x [] (tvT_shp ha) (tvT_wt hx) h (fun n b h => by cases h)
  unfold instB
  rw [ha, hx, e]
  rfl
theorem mtf_grow : ∀ (d : Nat) (g s : Ty) (M M' : Asn), shp d g = true → shp d s = true → mtf d g s M = some M' → (∀ n b, alook n M = some b → alook n M' = some b) ∧ ∀ σ : Int → Inf, (∀ n b, alook n M' = some b → σ n = evT ivar b) → evT σ g = evT ivar s := by
  intro d
  induction d with
  | zero => intro g s M M' h; cases h
  | succ d ih =>
    intro g s M M' h hs hm
    rcases shp_forms h with rfl | ⟨n, n0, n1, rfl⟩ | ⟨k, a, b, hk, rfl, ha, hb⟩
    · by_cases e : s.k = 1
      · rw [mtf_iter (g := .node 1 0 []) (by decide) e] at hm
        have hm : some M = some M' := hm
        injection hm with hm
        subst hm
        refine ⟨fun n b h => h, fun σ _ => ?_⟩
        rcases shp_forms hs with rfl | ⟨m, _, _, rfl⟩ | ⟨k, a, b, hk, rfl, _, _⟩
        · rw [evT_num, evT_num]
        · cases e
        · have e' : k = 1 := e; omega
      · rw [mtf_kind (g := .node 1 0 []) (by decide) e] at hm; cases hm
    · rcases hl : alook n M with _ | x
      · rw [mtf_new (g := .node 4 n []) rfl hl] at hm
        injection hm with hm
        subst hm
        have hl' : alook (Ty.node 4 n []).n M = none := hl
        refine ⟨fun m b hb => ?_, fun σ hσ => ?_⟩
        · rw [alook_snoc m _ _ M hl', if_neg (fun e => by rw [e, hl'] at hb; cases hb)]; exact hb
        · rw [evT_var]; exact hσ n s (by rw [alook_snoc n _ _ M hl']; exact if_pos rfl)
      · rw [mtf_old (g := .node 4 n []) rfl hl] at hm
        split at hm
        · rename_i he
          injection hm with hm
          subst hm
          refine ⟨fun n b h => h, fun σ hσ => ?_⟩
          rw [evT_var, hσ n x hl]
          by_cases e : x = s
          · rw [e]
          · rw [sameB_no e] at he; cases he
        · cases hm
    · have h4 : k ≠ 4 := by omega
      by_cases e : s.k = k
      · rw [mtf_iter (g := .node k 0 [a, b]) h4 e] at hm
        rcases shp_forms hs with rfl | ⟨m, _, _, rfl⟩ | ⟨k', a', b', hk', rfl, ha', hb'⟩
        · have e' : (1 : Int) = k := e; omega
        · have e' : (4 : Int) = k := e; omega
        · have e' : k' = k := e
          subst e'
          rcases h1 : mtf d a a' M with _ | M1
          · have := iter_stop (f := fun i N => mtf d ((Ty.node k' 0 [a, b]).ks.getD i Ty.dummy) ((Ty.node k' 0 [a', b']).ks.getD i Ty.dummy) N) (M := M) (N := M) (j := 0) (n := (Ty.node k' 0 [a, b]).ks.length) rfl h1 (show 0 < 2 by decide)
            rw [this] at hm; cases hm
          · have s1 := iter_next (f := fun i N => mtf d ((Ty.node k' 0 [a, b]).ks.getD i Ty.dummy) ((Ty.node k' 0 [a', b']).ks.getD i Ty.dummy) N) (M := M) (N := M) (j := 0) rfl h1
            rcases h2 : mtf d b b' M1 with _ | M2
            · have := iter_stop (f := fun i N => mtf d ((Ty.node k' 0 [a, b]).ks.getD i Ty.dummy) ((Ty.node k' 0 [a', b']).ks.getD i Ty.dummy) N) (j := 1) (n := (Ty.node k' 0 [a, b]).ks.length) s1 h2 (show 1 < 2 by decide)
              rw [this] at hm; cases hm
            · have s2 := iter_next (f := fun i N => mtf d ((Ty.node k' 0 [a, b]).ks.getD i Ty.dummy) ((Ty.node k' 0 [a', b']).ks.getD i Ty.dummy) N) (j := 1) s1 h2
              have hm : some M2 = some M' := s2.symm.trans hm
              injection hm with hm
              subst hm
              obtain ⟨g1, v1⟩ := ih a a' M M1 ha ha' h1
              obtain ⟨g2, v2⟩ := ih b b' M1 M2 hb hb' h2
              refine ⟨fun n x hx => g2 n x (g1 n x hx), fun σ hσ => ?_⟩
              rw [evT_join _ _ _ _ hk, evT_join _ _ _ _ hk, v1 σ (fun n x hx => hσ n x (g2 n x hx)), v2 σ hσ]
      · rw [mtf_kind (g := .node k 0 [a, b]) h4 e] at hm; cases hm
theorem ev_of_inst {x a : Ty} (h : instB x a = true) : tvT x = true ∧ tvT a = true ∧ ∃ σ, evT σ a = evT ivar x := by
  unfold instB at h
  rw [Bool.and_eq_true, Bool.and_eq_true] at h
  obtain ⟨h1, h2, h3⟩ := h
  refine ⟨h1, h2, ?_⟩
  rcases e : mtf 16 a x [] with _ | M
  · rw [e] at h3; cases h3
  · obtain ⟨_, hv⟩ := mtf_grow 16 a x [] M (tvT_shp h2) (tvT_shp h1) e
    refine ⟨fun n => match alook n M with | some b => evT ivar b | none => ivar n, hv _ (fun n b hb => ?_)⟩
    show (match alook n M with | some b => evT ivar b | none => ivar n) = evT ivar b
    rw [hb]
end Mx
theorem unT_inst {a b x : Ty} (h : unT a b = some x) : Mx.instB x a = true ∧ Mx.instB x b = true := by
  obtain ⟨ha, hb, hx, u, hp, hu, rfl⟩ := unT_some h
  obtain ⟨σ, s1, s2⟩ := hp.one
  obtain ⟨r, s, hr⟩ := rn_can (tvT_shp hu)
  obtain ⟨σ1, e1⟩ := ev_rn (tvT_wt ha) (tvT_wt hu) hr s2
  obtain ⟨σ2, e2⟩ := ev_rn (tvT_wt hb) (tvT_wt hu) hr (s1.symm.trans s2)
  exact ⟨Mx.inst_of_ev ha hx e1, Mx.inst_of_ev hb hx e2⟩
theorem unT_swap (a b : Ty) : unT b a = unT a b := by
  unfold unT
  by_cases h : tvT a = true ∧ tvT b = true
  · rw [if_pos h, if_pos ⟨h.2, h.1⟩, uniT_swap]
  · rw [if_neg h, if_neg (fun e => h ⟨e.2, e.1⟩)]
theorem ev_sb (τ : Int → Inf) (ls : List Ty) : ∀ (d : Nat) (t : Ty), shp d t = true → evT τ (sbT ls d t) = evT (fun n => evT τ (Mx.rv ls n)) t := by
  intro d
  induction d with
  | zero => intro t h; cases h
  | succ d ih =>
    intro t h
    rcases shp_forms h with rfl | ⟨n, n0, n1, rfl⟩ | ⟨k, a, b, hk, rfl, ha, hb⟩
    · rw [Mx.sb_num, evT_num, evT_num]
    · rw [Mx.sb_var, evT_var]
    · rw [sbT_join (by omega), evT_join _ _ _ _ hk, evT_join _ _ _ _ hk, ih a ha, ih b hb]
/-- A type of which a valid type is an instance is not larger. -/
theorem small_of_ev : ∀ (d : Nat) (u X : Ty) (θ : Int → Inf), Wt 26 u → shp d X = true → evT θ u = evT ivar X → shp d u = true ∧ nd d u ≤ nd d X := by
  intro d
  induction d with
  | zero => intro u X θ _ h; cases h
  | succ d ih =>
    intro u X θ hu hX he
    cases hu with
    | num => exact ⟨shp_num d, by rw [nd_leaf]; unfold nd; omega⟩
    | var n h0 h1 => exact ⟨shp_var d n ⟨h0, by omega⟩, by rw [nd_leaf]; unfold nd; omega⟩
    | join k a b hk ha hb =>
      rw [evT_join _ _ _ _ hk] at he
      rcases shp_forms hX with rfl | ⟨m, m0, _, rfl⟩ | ⟨k', a', b', hk', rfl, ha', hb'⟩
      · rw [evT_num] at he; exact (ijoin_num hk he).elim
      · rw [evT_var] at he; exact (ijoin_var hk m0 he).elim
      · rw [evT_join _ _ _ _ hk'] at he
        obtain ⟨rfl, e1, e2⟩ := ijoin_inj he
        obtain ⟨p1, p2⟩ := ih a a' θ ha ha' e1
        obtain ⟨q1, q2⟩ := ih b b' θ hb hb' e2
        refine ⟨shp_two d k a b (by omega) p1 q1, ?_⟩
        rw [nd_two, nd_two]; omega
/-- What makes two types equal makes an instance of the answer. -/
theorem unT_general {a b X : Ty} (ha : tvT a = true) (hb : tvT b = true) (hX : tvT X = true) {σ : Int → Inf} (h1 : evT σ a = evT ivar X) (h2 : evT σ b = evT ivar X) : ∃ x, unT a b = some x ∧ Mx.instB X x = true := by
  obtain ⟨B', r, hU⟩ := uni_full (N := 26) (tvT_wt ha) (tvT_wt hb)
  rcases r with _ | _
  · exact (hU.no rfl σ (fun n t e => by cases e) (h1.trans h2.symm) (by rw [h1]; exact fin_ivar (tvT_wt hX))).elim
  · obtain ⟨u, hu⟩ := ful_exists hU.ok (tvT_wt ha)
    have hp := prin_model (tvT_wt ha) hU hu
    have hw := (ful_wt hU.ok hu (tvT_wt ha)).1
    obtain ⟨θ, hθ⟩ := hp.all σ (h1.trans h2.symm)
    obtain ⟨p1, p2⟩ := small_of_ev 16 u X θ hw (tvT_shp hX) (hθ.symm.trans h1)
    have hv : tvT u = true := by
      unfold tvT at hX ⊢
      rw [Bool.and_eq_true] at hX
      have h3 := of_decide_eq_true hX.2
      rw [p1, Bool.true_and]
      exact decide_eq_true (by omega)
    refine ⟨canT u, by rw [unT_ab ha hb, uni_res hp hw, if_pos hv], ?_⟩
    obtain ⟨r, s, hr⟩ := rn_can p1
    exact Mx.inst_of_ev (canT_valid hv) hX (σ := fun w => θ (s w)) ((hr.back θ).trans (hθ.symm.trans h1))
theorem unT_subst {a b X : Ty} {ls : List Ty} (h1 : svT a ls = some X) (h2 : svT b ls = some X) : ∃ x, unT a b = some x ∧ Mx.instB X x = true := by
  obtain ⟨ha, hX, e1⟩ := Mx.sv_parts h1
  obtain ⟨hb, _, e2⟩ := Mx.sv_parts h2
  refine unT_general ha hb hX (σ := fun n => evT ivar (Mx.rv ls n)) ?_ ?_
  · rw [e1, ev_sb ivar ls 16 a (tvT_shp ha)]
  · rw [e2, ev_sb ivar ls 16 b (tvT_shp hb)]
theorem prin_self {a : Ty} (h : Wt 26 a) : Prin a a a := ⟨⟨26, h⟩, ⟨ivar, rfl, rfl⟩, fun σ _ => ⟨σ, rfl⟩⟩
theorem unT_self (a : Ty) : unT a a = cnT a := by
  unfold cnT
  rcases h : tvT a with _ | _
  · rw [unT_a h]; rfl
  · rw [unT_ab h h, uni_res (prin_self (tvT_wt h)) (tvT_wt h), h]
theorem occ_of : ∀ (d : Nat) (t : Ty) (v : Int), shp d t = true → Occ v t → occ d t v := by
  intro d
  induction d with
  | zero => intro t v h; cases h
  | succ d ih =>
    intro t v h ho
    rcases shp_forms h with rfl | ⟨n, n0, n1, rfl⟩ | ⟨k, a, b, hk, rfl, ha, hb⟩
    · cases ho
    · cases ho; exact .inl ⟨rfl, rfl⟩
    · cases ho with
      | left _ _ _ ho => exact .inr ⟨0, by simp [Ty.ks], ih a v ha ho⟩
      | right _ _ _ ho => exact .inr ⟨1, by simp [Ty.ks], ih b v hb ho⟩
theorem closed_occ {t : Ty} (h : tvT t = true) (hv : varsT t = []) : ∀ v, ¬ Occ v t := fun v ho => by
  rw [varsT_yes h] at hv
  have := (vars_occ 16 t [] v (tvT_shp h)).2 (.inr (occ_of 16 t v (tvT_shp h) ho))
  rw [hv] at this
  cases this
theorem canT_closed {t : Ty} (h : tvT t = true) (hv : varsT t = []) : canT t = t := by
  obtain ⟨r, s, hr⟩ := rn_can (tvT_shp h)
  exact hr.closed (closed_occ h hv)
theorem ev_closed {t : Ty} (h : tvT t = true) (hv : varsT t = []) (σ θ : Int → Inf) : evT σ t = evT θ t := ev_agree (tvT_wt h) (fun v ho => absurd ho (closed_occ h hv v))
/-- A type is unified with an instance without variables to the instance. -/
theorem unT_closed {a b : Ty} (h : Mx.instB b a = true) (hv : varsT b = []) : unT a b = some b := by
  obtain ⟨hb, ha, σ, hσ⟩ := Mx.ev_of_inst h
  have hp : Prin a b b := ⟨⟨26, tvT_wt hb⟩, ⟨σ, by rw [hσ]; exact ev_closed hb hv _ _, hσ⟩, fun τ e => ⟨τ, e⟩⟩
  rw [unT_ab ha hb, uni_res hp (tvT_wt hb), if_pos hb, canT_closed hb hv]
/-- The answer is canonical. -/
theorem unT_canon {a b x : Ty} (h : unT a b = some x) : cnT x = some x := by
  obtain ⟨_, _, hx, u, _, hu, rfl⟩ := unT_some h
  unfold cnT
  rw [if_pos hx, canT_twice (tvT_shp hu)]
theorem unT_left {a b x : Ty} (h : unT a b = some x) (hv : varsT a = []) : x = a := by
  obtain ⟨ha, hb, hx, u, hp, hu, rfl⟩ := unT_some h
  obtain ⟨σ, _, s2⟩ := hp.one
  have e : a = u := ev_inj (tvT_wt ha) u 26 (tvT_wt hu) ((ev_closed ha hv _ _).trans s2)
  rw [← e, canT_closed ha hv]
theorem unT_right {a b x : Ty} (h : unT a b = some x) (hv : varsT b = []) : x = b := unT_left (by rw [unT_swap, h]) hv
end Go.Proofs.Ytndpoejohpmifaa

namespace Go.Proofs.Ytndpoejohpmifaa
open Go.RowKit
set_option linter.unusedVariables false
set_option linter.unusedSimpArgs false

theorem inst_refl {a : Ty} (h : tvT a = true) : Mx.instB a a = true := Mx.inst_of_ev h h (σ := ivar) rfl
theorem inst_self (a : Ty) : Mx.instB a a = tvT a := by
  rcases h : Mx.instB a a with _ | _
  · rcases h2 : tvT a with _ | _
    · rfl
    · rw [inst_refl h2] at h; cases h
  · exact (Mx.ev_of_inst h).1.symm
theorem inst_trans {a b c : Ty} (h1 : Mx.instB a b = true) (h2 : Mx.instB b c = true) : Mx.instB a c = true := by
  obtain ⟨ha, hb, σ1, e1⟩ := Mx.ev_of_inst h1
  obtain ⟨_, hc, σ2, e2⟩ := Mx.ev_of_inst h2
  obtain ⟨σ, _, e⟩ := ev_more (tvT_wt hc) (tvT_wt hb) e2 σ1
  exact Mx.inst_of_ev hc ha (σ := σ) (e.trans e1)
theorem inst_can {t : Ty} (h : tvT t = true) : Mx.instB (canT t) t = true ∧ Mx.instB t (canT t) = true := by
  obtain ⟨r, s, hr⟩ := rn_can (tvT_shp h)
  exact ⟨Mx.inst_of_ev h (canT_valid h) hr.fwd, Mx.inst_of_ev (canT_valid h) h (hr.back ivar)⟩
theorem can_both {a b : Ty} (h1 : Mx.instB a b = true) (h2 : Mx.instB b a = true) : canT a = canT b := by
  obtain ⟨ha, hb, σ1, e1⟩ := Mx.ev_of_inst h1
  obtain ⟨_, _, σ2, e2⟩ := Mx.ev_of_inst h2
  have hr := rn_of_inst (tvT_wt hb) a σ1 σ2 (tvT_wt ha) e1 e2
  have h := can_rn hr (dp_of_shp 16 _ (tvT_shp hb))
  rw [can_canT (tvT_shp ha), can_canT (tvT_shp hb)] at h
  exact h
/-- Types that are instances of each other have the same canonical form. -/
theorem inst_back {a b : Ty} (h : Mx.instB a b = true) : Mx.instB b a = sameB (canT a) (canT b) := by
  obtain ⟨ha, hb, _, _⟩ := Mx.ev_of_inst h
  rcases h2 : Mx.instB b a with _ | _
  · by_cases e : canT a = canT b
    · exfalso
      have h3 := inst_trans (inst_can hb).2 (by rw [← e]; exact (inst_can ha).1)
      rw [h2] at h3; cases h3
    · exact (sameB_no e).symm
  · exact (sameB_yes (can_both h h2)).symm
/-- Integers in memory, as a fact that is kept. -/
structure IAt (w : World) (B : Nat) (v : Value) (l : List Int) : Prop where
  h : IntsAt w B v l
theorem IAt.kept {w w' : World} {B : Nat} {v : Value} {l : List Int} (h : IAt w B v l) (hb : Below w.heap.size w w') : IAt w' B v l := ⟨ints_below h.h hb⟩
theorem ints_some {w : World} {B cap L : Nat} {a : Option Addr} {l : List Int} (h : IntsAt w B (.slice a L cap) l) (hL : l.length = L) (hi : 0 < L) : ∃ g, a = some ⟨g, 0, none⟩ := by
  subst hL
  obtain ⟨_, ⟨h, h0⟩ | ⟨g, cap2, cur, h, _⟩⟩ := h
  · omega
  · injection h with h; exact ⟨g, h⟩
theorem ints_cell {w : World} {B g cap L : Nat} {l : List Int} (h : IntsAt w B (.slice (some ⟨g, 0, none⟩) L cap) l) (hL : l.length = L) {i : Nat} (hi : i < L) : w.cell? ⟨g, i, none⟩ = some (.int .i64 (l.getD i 0)) := by
  subst hL
  have h2 := h.cellAt i (by simpa using hi)
  rw [h2, List.getElem?_map]
  simp [List.getD, hi]
theorem cnT_yes {t : Ty} (h : tvT t = true) : cnT t = some (canT t) := by unfold cnT; rw [if_pos h]
theorem cnT_no {t : Ty} (h : tvT t = false) : cnT t = none := by unfold cnT; rw [if_neg (by rw [h]; decide)]
/-- The numbers from 0 on. -/
def iota (n : Nat) : List Int := (List.range n).map fun i => ((i : Nat) : Int)
theorem iota_len (n : Nat) : (iota n).length = n := by simp [iota]
theorem iota_succ (n : Nat) : iota (n + 1) = iota n ++ [(n : Int)] := by simp [iota, List.range_succ]
theorem iota_mem {n : Nat} {i : Int} : i ∈ iota n ↔ ∃ j : Nat, j < n ∧ i = (j : Int) := by
  simp only [iota, List.mem_map, List.mem_range]
  constructor
  · rintro ⟨j, hj, e⟩; exact ⟨j, hj, e.symm⟩
  · rintro ⟨j, hj, e⟩; exact ⟨j, hj, e.symm⟩
theorem iota_get {n j : Nat} (h : j < n) : (iota n).getD j 0 = (j : Int) := by simp [iota, List.getD, h]
theorem vars_rp : ∀ (d : Nat) (t : Ty) (st : List Int), shp d t = true → vars d (rp fF d t st).1 (iota st.length) = iota (rp fF d t st).2.length := by
  intro d
  induction d with
  | zero => intro t st h; cases h
  | succ d ih =>
    intro t st h
    rcases shp_forms h with rfl | ⟨n, h0, h1, rfl⟩ | ⟨k, ta, tb, hk, rfl, ha, hb⟩
    · have e : (rp fF (d + 1) (.node 1 0 []) st) = (.node 1 0 [], st) := by simp [rp]
      rw [e, vars_kids (t := .node 1 0 []) (by decide)]; rfl
    · have e1 : rp fF (d + 1) (.node 4 n []) st = (.node 4 (ixA st n) [], addV st n) := by simp [rp, fF]
      rw [e1]
      show vars (d + 1) (.node 4 (ixA st n) []) (iota st.length) = iota (addV st n).length
      rw [vars_var rfl rfl]
      show addV (iota st.length) (ixA st n) = _
      by_cases hm : n ∈ st
      · have e2 : addV st n = st := by unfold addV; rw [if_pos hm]
        have hi := List.idxOf_lt_length_of_mem hm
        rw [e2, ixA_in hm]
        unfold addV
        rw [if_pos (iota_mem.2 ⟨_, hi, rfl⟩)]
      · have e2 : addV st n = st ++ [n] := by unfold addV; rw [if_neg hm]
        rw [e2, ixA_out hm, List.length_append, List.length_singleton, iota_succ]
        unfold addV
        rw [if_neg]
        intro hm2
        obtain ⟨j, hj, e⟩ := iota_mem.1 hm2
        omega
    · have hk4 : k ≠ 4 := by omega
      have er : rp fF (d + 1) (.node k 0 [ta, tb]) st = (.node k 0 [(rp fF d ta st).1, (rp fF d tb (rp fF d ta st).2).1], (rp fF d tb (rp fF d ta st).2).2) := by simp [rp, hk4]
      rw [er]
      show vars (d + 1) (.node k 0 [(rp fF d ta st).1, (rp fF d tb (rp fF d ta st).2).1]) (iota st.length) = _
      rw [vars_join hk4, ih ta st ha, ih tb _ hb]
/-- A canonical type has the variables 0, 1, 2, .. -/
theorem vars_can {t : Ty} (h : tvT t = true) : varsT (canT t) = iota (varsT t).length := by
  have h1 := vars_rp 16 t [] (tvT_shp h)
  rw [rp_can (tvT_shp h), (rp_ren 16 t [] (tvT_shp h) List.nodup_nil).1] at h1
  rw [varsT_yes (canT_valid h), varsT_yes h]
  exact h1
theorem var_valid {n : Int} (h0 : 0 ≤ n) (h1 : n ≤ 25) : tvT (.node 4 n []) = true := by
  have hs : shp 16 (.node 4 n []) = true := shp_iff.2 ⟨fieldsB_iff.2 (.inr (.inr ⟨rfl, h0, h1, rfl⟩)), fun i hi => absurd hi (Nat.not_lt_zero _)⟩
  rw [tvT_yes hs, nd_leaf]; rfl
/-- Every type is an instance of a variable. -/
theorem inst_var {a : Ty} {n : Int} (ha : tvT a = true) (h0 : 0 ≤ n) (h1 : n ≤ 25) : Mx.instB a (.node 4 n []) = true :=
  Mx.inst_of_ev (var_valid h0 h1) ha (σ := fun _ => evT ivar a) (evT_var _ n)
/-- A type without variables has no instances but itself. -/
theorem inst_closed {a b : Ty} (ha : tvT a = true) (hb : tvT b = true) (hv : varsT b = []) : Mx.instB a b = sameB a b := by
  rcases h : Mx.instB a b with _ | _
  · by_cases e : a = b
    · subst e; rw [inst_refl ha] at h; cases h
    · exact (sameB_no e).symm
  · obtain ⟨_, _, σ, e⟩ := Mx.ev_of_inst h
    have e2 : evT ivar b = evT ivar a := (ev_closed hb hv ivar σ).trans e
    exact (sameB_yes (ev_inj (tvT_wt ha) b 26 (tvT_wt hb) e2.symm)).symm

end Go.Proofs.Ytndpoejohpmifaa

