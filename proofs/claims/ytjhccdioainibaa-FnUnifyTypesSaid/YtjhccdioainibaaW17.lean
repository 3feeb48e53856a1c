/-
Draws of types: a copy that is sometimes made invalid.
-/
import Derived.Test.YtjhccdioainibaaW16
import Derived.Deep.RegionLaw
namespace Go.Proofs.Ytjhccdioainibaa
open Go.RowKit
set_option linter.unusedVariables false
set_option linter.unusedSimpArgs false
/-- A box of three cells that may be written. -/
structure OC (w : World) (E : Nat) (k n : Int) (v : Value) : Prop where
  c0 : w.cell? ⟨E, 0, none⟩ = some (.int .i64 k)
  c1 : w.cell? ⟨E, 1, none⟩ = some (.int .i64 n)
  c2 : w.cell? ⟨E, 2, none⟩ = some v
  f0 : w.frozen? ⟨E, 0, none⟩ = false
  f1 : w.frozen? ⟨E, 1, none⟩ = false
  f2 : w.frozen? ⟨E, 2, none⟩ = false
  sz : E < w.heap.size
theorem OC.keep {w w' : World} {E : Nat} {k n : Int} {v : Value} (h : OC w E k n v) (hs : w.heap.size ≤ w'.heap.size) (e : w'.heap[E]? = w.heap[E]?) : OC w' E k n v :=
  ⟨(cellEq e).trans h.c0, (cellEq e).trans h.c1, (cellEq e).trans h.c2, (frozenEq e).trans h.f0, (frozenEq e).trans h.f1, (frozenEq e).trans h.f2, Nat.lt_of_lt_of_le h.sz hs⟩
theorem OC.dw {w w' : World} {B E : Nat} {k n : Int} {v : Value} (h : OC w E k n v) (hB : B < E) (hd : Dw B w w') : OC w' E k n v := h.keep hd.size (hd.block E h.sz (by simp; omega))
theorem OC.kept {w w' : World} {E : Nat} {k n : Int} {v : Value} (h : OC w E k n v) (hb : Below w.heap.size w w') : OC w' E k n v := h.keep hb.size (hb.block E h.sz)
theorem oc_new (w : World) (k n : Int) (v : Value) (T : TypeId) : OC (w.alloc (.cells #[.int .i64 k, .int .i64 n, v] T)) w.heap.size k n v := ⟨by go_simp, by go_simp, by go_simp, by go_simp, by go_simp, by go_simp, by simp⟩
theorem OC.set0 {w : World} {E : Nat} {k n : Int} {v : Value} (h : OC w E k n v) (u : Int) : OC (w.setCell ⟨E, 0, none⟩ (.int .i64 u)) E u n v := by
  obtain ⟨a0, a1, a2, b0, b1, b2, sz⟩ := h
  exact ⟨by go_simp, by go_simp, by go_simp, by go_simp, by go_simp, by go_simp, by simpa using sz⟩
theorem OC.set1 {w : World} {E : Nat} {k n : Int} {v : Value} (h : OC w E k n v) (u : Int) : OC (w.setCell ⟨E, 1, none⟩ (.int .i64 u)) E k u v := by
  obtain ⟨a0, a1, a2, b0, b1, b2, sz⟩ := h
  exact ⟨by go_simp, by go_simp, by go_simp, by go_simp, by go_simp, by go_simp, by simpa using sz⟩
theorem OC.set2 {w : World} {E : Nat} {k n : Int} {v : Value} (h : OC w E k n v) (u : Value) : OC (w.setCell ⟨E, 2, none⟩ u) E k n u := by
  obtain ⟨a0, a1, a2, b0, b1, b2, sz⟩ := h
  exact ⟨by go_simp, by go_simp, by go_simp, by go_simp, by go_simp, by go_simp, by simpa using sz⟩
theorem Gr.dw {rs : List Ty} {B B0 j : Nat} {w w' : World} {cv : Value} {xs : List Value} {vs : Nat → Value} {l h : Nat → Nat} (f : Gr rs B j w cv xs vs l h) (hB : B0 < B) (hd : Dw B0 w w') : Gr rs B j w' cv xs vs l h :=
  f.keep hd.size (fun b h1 h2 => hd.block b h2 (by simp; omega))
theorem DS.setNew {w : World} {S B : Nat} {a : Option Addr} {len cap : Nat} {zs : List Int} {p : Nat} {W : World} (h : DS w S B a len cap zs p W) {E : Nat} (hE : S < E) (o : Nat) (x : Value) : DS w S B a len cap zs p (W.setCell ⟨E, o, none⟩ x) :=
  ⟨h.rd.setNew (by have := h.lt; omega) o x, h.dw.setNew (by have := h.eq; omega) o x, h.rb.keep (by simp) (heap_setCell_other _ ⟨E, o, none⟩ S _ (by show S ≠ E; omega)), h.lt, h.eq⟩
theorem nodes_same (t : Ty) (k n : Int) : nodes (.node k n t.ks) = nodes t := by cases t; simp [nodes_kids, Ty.ks]
theorem nodes_more (t : Ty) (k n : Int) : nodes (.node k n (t.ks ++ [.node 1 0 []])) = nodes t + 1 := by
  cases t with
  | node k' n' ks =>
    simp only [Ty.ks]
    simp only [nodes]
    have : ∀ l : List Ty, nodesL (l ++ [.node 1 0 []]) = nodesL l + 1 := fun l => by
      induction l with
      | nil => simp [nodesL, nodes]
      | cons x l ih => simp [nodesL, ih]; omega
    rw [this]
theorem nodes_two (k n : Int) (x y : Ty) : nodes (.node k n [x, y]) = nodes x + nodes y + 1 := by simp [nodes, nodesL]

/-- The type's rows lie from block lo on, none in block E. -/
inductive TyN (w : World) (lo E : Nat) : Ty → Value → Prop where
  | bare (k n : Int) (a : Option Addr) (cap : Nat) : TyN w lo E (.node k n []) (.slice a 0 cap)
  | row (k n : Int) (ks : List Ty) (b o cap : Nat) (vs : Nat → Value) (hb : lo ≤ b) (he : b ≠ E) (hr : Row w b) (hl : ks.length ≤ 9223372036854775807)
      (h0 : ∀ i, i < ks.length → w.cell? ⟨b, o + i * 3, none⟩ = some (.int .i64 (ks.getD i Ty.dummy).k))
      (h1 : ∀ i, i < ks.length → w.cell? ⟨b, o + i * 3 + 1, none⟩ = some (.int .i64 (ks.getD i Ty.dummy).n))
      (h2 : ∀ i, i < ks.length → w.cell? ⟨b, o + i * 3 + 2, none⟩ = some (vs i))
      (h3 : ∀ i, i < ks.length → TyN w lo E (ks.getD i Ty.dummy) (vs i)) : TyN w lo E (.node k n ks) (.slice (some ⟨b, o, none⟩) ks.length cap)
theorem TyN.ok {w : World} {lo E : Nat} {t : Ty} {v : Value} (h : TyN w lo E t v) : TyOk w t v := by
  induction h with
  | bare k n a cap => exact .bare k n a cap
  | row k n ks b o cap vs hb he hr hl h0 h1 h2 _ ih => exact .row k n ks b o cap vs hr hl h0 h1 h2 ih
theorem TyN.keep {w w' : World} {lo E : Nat} {t : Ty} {v : Value} (h : TyN w lo E t v) (hs : w.heap.size ≤ w'.heap.size) (hk : ∀ b, lo ≤ b → b ≠ E → b < w.heap.size → w'.heap[b]? = w.heap[b]?) : TyN w' lo E t v := by
  induction h with
  | bare k n a cap => exact .bare k n a cap
  | row k n ks b o cap vs hb he hr hl h0 h1 h2 _ ih =>
    have e := hk b hb he hr.lt
    exact .row k n ks b o cap vs hb he (hr.keep hs e) hl (fun i hi => (cellEq e).trans (h0 i hi)) (fun i hi => (cellEq e).trans (h1 i hi)) (fun i hi => (cellEq e).trans (h2 i hi)) ih
theorem TyN.low {w : World} {lo lo' E : Nat} {t : Ty} {v : Value} (h : TyN w lo E t v) (hl' : lo' ≤ lo) : TyN w lo' E t v := by
  induction h with
  | bare k n a cap => exact .bare k n a cap
  | row k n ks b o cap vs hb he hr hl h0 h1 h2 _ ih => exact .row k n ks b o cap vs (Nat.le_trans hl' hb) he hr hl h0 h1 h2 ih
theorem TyN.no0 {w : World} {lo E : Nat} {t : Ty} {v : Value} (h : TyN w lo E t v) (hl' : 0 < lo) : TyN w lo 0 t v := by
  induction h with
  | bare k n a cap => exact .bare k n a cap
  | row k n ks b o cap vs hb he hr hl h0 h1 h2 _ ih => exact .row k n ks b o cap vs hb (by omega) hr hl h0 h1 h2 ih
theorem TyN.kept {w w' : World} {lo E : Nat} {t : Ty} {v : Value} (h : TyN w lo E t v) (hb : Below w.heap.size w w') : TyN w' lo E t v := h.keep hb.size (fun b _ _ h => hb.block b h)
theorem TyIn.toN {w : World} {lo lo' hi E : Nat} {t : Ty} {v : Value} (h : TyIn w lo hi t v) (h1 : lo' ≤ lo) (h2 : hi ≤ E ∨ E < lo) : TyN w lo' E t v := by
  induction h with
  | bare lo hi k n a cap => exact .bare k n a cap
  | row lo hi k n ks b cap vs l h hb1 hb2 hw hl h0 h1' h2' hf hin hd _ ih =>
    refine .row k n ks b 0 cap vs (by omega) (by omega) hw hl (fun i hi => by rw [Nat.zero_add]; exact h0 i hi) (fun i hi => by rw [Nat.zero_add]; exact h1' i hi) (fun i hi => by rw [Nat.zero_add]; exact h2' i hi) (fun i hi => ?_)
    have := hin i hi
    exact ih i hi (by omega) (by omega)
theorem TyN.pair {w : World} {lo E b cap : Nat} {k n : Int} {x y : Ty} {vx vy : Value} (hx : TyN w lo E x vx) (hy : TyN w lo E y vy) (hb : lo ≤ b) (he : b ≠ E) (hw : Row w b)
    (c0 : w.cell? ⟨b, 0, none⟩ = some (.int .i64 x.k)) (c1 : w.cell? ⟨b, 1, none⟩ = some (.int .i64 x.n)) (c2 : w.cell? ⟨b, 2, none⟩ = some vx)
    (c3 : w.cell? ⟨b, 3, none⟩ = some (.int .i64 y.k)) (c4 : w.cell? ⟨b, 4, none⟩ = some (.int .i64 y.n)) (c5 : w.cell? ⟨b, 5, none⟩ = some vy) :
    TyN w lo E (.node k n [x, y]) (.slice (some ⟨b, 0, none⟩) 2 cap) := by
  have two : ∀ i, i < [x, y].length → i = 0 ∨ i = 1 := fun i hi => by have hi : i < 2 := hi; omega
  refine .row k n [x, y] b 0 cap (fun i => if i = 0 then vx else vy) hb he hw (by simp) ?_ ?_ ?_ ?_
  · intro i hi
    rcases two i hi with rfl | rfl
    · exact c0
    · exact c3
  · intro i hi
    rcases two i hi with rfl | rfl
    · exact c1
    · exact c4
  · intro i hi
    rcases two i hi with rfl | rfl
    · exact c2
    · exact c5
  · intro i hi
    rcases two i hi with rfl | rfl
    · exact hx
    · exact hy
set_option maxRecDepth 100000 in
set_option maxHeartbeats 1000000 in
theorem l2Node_n (k : Int) (x y : Ty) (vx vy : Value) (lo E : Nat) (w : World) (hx : TyN w lo E x vx) (hy : TyN w lo E y vy) (hE : E < w.heap.size) (hlo : lo ≤ w.heap.size) :
    Calls Try.prog 71 #[.int .i64 k, .agg #[.int .i64 x.k, .int .i64 x.n, vx], .agg #[.int .i64 y.k, .int .i64 y.n, vy]] w fun e w' => ∃ c, e = .returned (.agg #[.int .i64 k, .int .i64 0, .slice c 2 2]) ∧ TyN w' lo E (.node k 0 [x, y]) (.slice c 2 2) ∧ Below w.heap.size w w' := by
  have HX := Lib.hid hx
  have HY := Lib.hid hy
  obtain ⟨ax, cx, rfl, _⟩ := hx.ok.at.slice
  obtain ⟨ay, cy, rfl, _⟩ := hy.ok.at.slice
  obtain ⟨nx, hnx⟩ : ∃ n, x.ks.length = n := ⟨_, rfl⟩
  obtain ⟨ny, hny⟩ : ∃ n, y.ks.length = n := ⟨_, rfl⟩
  obtain ⟨kx, hkx⟩ : ∃ n, x.k = n := ⟨_, rfl⟩
  obtain ⟨ky, hky⟩ : ∃ n, y.k = n := ⟨_, rfl⟩
  obtain ⟨mx, hmx⟩ : ∃ n, x.n = n := ⟨_, rfl⟩
  obtain ⟨my, hmy⟩ : ∃ n, y.n = n := ⟨_, rfl⟩
  have HE := Lib.hid (And.intro hkx (And.intro hky (And.intro hmx hmy)))
  rw [hnx] at HX ⊢
  rw [hny] at HY ⊢
  rw [hkx, hky, hmx, hmy]
  have HLO := Lib.hid (And.intro hE hlo)
  clear hx hy hkx hky hmx hmy hnx hny hE hlo
  go_enter Try.func71, Try.ntmps71
  go_wp2_with fail
  refine bodyPost_ret (v := .agg #[.int .i64 k, .int .i64 0, .slice (some ⟨w.heap.size + 1 + 1 + 1, 0, none⟩) 2 2]) (by simp [results, Try.results71, go_sem]) rfl ⟨_, rfl, ?_, ?_⟩
  · obtain ⟨e1, e2, e3, e4⟩ := HE.out
    obtain ⟨h1, h2⟩ := HLO.out
    refine TyN.pair (b := w.heap.size + 1 + 1 + 1) (vx := .slice ax nx cx) (vy := .slice ay ny cy) (HX.out.kept ?_) (HY.out.kept ?_) (by omega) (by omega) (row_at (by simp)) (by rw [e1]; go_simp) (by rw [e3]; go_simp) (by go_simp) (by rw [e2]; go_simp) (by rw [e4]; go_simp) (by go_simp)
    · exact ((((Below.refl _ _).alloc (Nat.le_refl _) _).alloc (by simp) _).alloc (by simp; omega) _).alloc (by simp; omega) _
    · exact ((((Below.refl _ _).alloc (Nat.le_refl _) _).alloc (by simp) _).alloc (by simp; omega) _).alloc (by simp; omega) _
  · exact ((((Below.refl _ _).alloc (Nat.le_refl _) _).alloc (by simp) _).alloc (by simp; omega) _).alloc (by simp; omega) _
theorem l2Num_flat (w : World) : Calls Try.prog 70 #[] w fun e w' => ∃ a c, e = .returned (.agg #[.int .i64 1, .int .i64 0, .slice a 0 c]) ∧ Below w.heap.size w w' :=
  (l2Num_any w).mono (by
    rintro e w' ⟨v, rfl, ht, hb⟩
    obtain ⟨a, c, rfl, _⟩ := ht.at.slice
    exact ⟨a, c, rfl, hb⟩)
/-- What the draw of a type leaves that may be no valid type. -/
def DkPost (P : Ty → Prop) (w : World) (B : Nat) (a : Option Addr) (len cap : Nat) (zs : List Int) (p q : Nat) (e : Ending) (w' : World) : Prop :=
  ∃ (t : Ty) (v : Value) (r : Nat), P t ∧ r ≤ q ∧ e = .returned (.agg #[.int .i64 t.k, .int .i64 t.n, v]) ∧ TyN w' w.heap.size 0 t v ∧ Dw B w w' ∧ Rd w' B a len cap zs (p + r)
theorem DkPost.low {P : Ty → Prop} {w : World} {o : Obj} {B : Nat} {a : Option Addr} {len cap : Nat} {zs : List Int} {p q : Nat} {e : Ending} {w' : World} (h : DkPost P (w.alloc o) B a len cap zs p q e w') : DkPost P w B a len cap zs p q e w' := by
  obtain ⟨t, v, r, h1, h2, h3, h4, h5, h6⟩ := h
  exact ⟨t, v, r, h1, h2, h3, h4.low (by simp), ((Dw.refl B w).alloc o).trans h5, h6⟩
/-- The result goes into its cells. -/
theorem DS.doneN {w : World} {S B : Nat} {a : Option Addr} {len cap : Nat} {zs : List Int} {p : Nat} {W : World} (h : DS w S B a len cap zs p W) {t : Ty} {v : Value} {lo E : Nat} (ht : TyN W lo E t v) (hlo : S + 1 ≤ lo) (x y z : Value) :
    TyN (((W.setCell ⟨S, 0, none⟩ x).setCell ⟨S, 1, none⟩ y).setCell ⟨S, 2, none⟩ z) w.heap.size 0 t v ∧ Dw B w (((W.setCell ⟨S, 0, none⟩ x).setCell ⟨S, 1, none⟩ y).setCell ⟨S, 2, none⟩ z) ∧ Rd (((W.setCell ⟨S, 0, none⟩ x).setCell ⟨S, 1, none⟩ y).setCell ⟨S, 2, none⟩ z) B a len cap zs p := by
  have e := h.eq
  have hl := h.lt
  exact ⟨((ht.keep (by simp) (fun b h1 _ _ => heap_res (by omega))).low (show w.heap.size ≤ lo by omega)).no0 (by omega), ((h.dw.setNew (by omega) 0 x).setNew (by omega) 1 y).setNew (by omega) 2 z, ((h.rd.setNew h.lt 0 x).setNew h.lt 1 y).setNew h.lt 2 z⟩
theorem DS.grow {w : World} {S B : Nat} {a : Option Addr} {len cap : Nat} {zs : List Int} {p : Nat} {W W' : World} {o : Obj} {row : Option Nat} (h : DS w S B a len cap zs p W) (hg : (W.alloc o).grownBy W' row) (hr : ∀ g, row = some g → S + 1 ≤ g) : DS w S B a len cap zs p W' := by
  have ha := (Below.refl W.heap.size W).alloc (Nat.le_refl _) o
  have hs := grow_size hg
  have hl := h.lt
  have hz := h.sz
  have he := h.eq
  have hb : ∀ q, q ≤ S → W'.heap[q]? = W.heap[q]? := fun q hq => grow_old hg (by omega) (fun g e => by have := hr g e; omega)
  refine ⟨h.rd.kept ⟨hg.os.trans ha.os, hg.tape.trans ha.tape, hg.output.trans ha.output, by omega, fun q hq => hb q (by omega)⟩, ⟨hg.os.trans (ha.os.trans h.dw.os), hg.tape.trans (ha.tape.trans h.dw.tape), hg.output.trans (ha.output.trans h.dw.output), by have := h.dw.size; omega, fun q hq hne => (hb q (by omega)).trans (h.dw.block q hq hne)⟩, h.rb.keep (by omega) (hb S (Nat.le_refl _)), h.lt, h.eq⟩
theorem Gr.keepE {rs : List Ty} {B j : Nat} {w w' : World} {cv : Value} {xs : List Value} {vs : Nat → Value} {l h : Nat → Nat} (f : Gr rs B j w cv xs vs l h) {E : Nat} (hE : ∀ i, i < j → E < l i ∨ h i ≤ E) (hg : ∀ g, cv.ownBlock = some g → g ≠ E) (hs : w.heap.size ≤ w'.heap.size) (hk : ∀ b, b ≠ E → b < w.heap.size → w'.heap[b]? = w.heap[b]?) : Gr rs B j w' cv xs vs l h := by
  refine ⟨?_, f.x0, f.x1, f.x2, fun i hi => ⟨(f.lo i hi).1, Nat.le_trans (f.lo i hi).2 hs⟩, f.di, fun i hi => (f.ty i hi).keep hs (fun b h1 h2 h3 => hk b (by have := hE i hi; omega) h3), f.ap⟩
  obtain ⟨hl, h | ⟨g, cap, cur, rfl, hb', ho, h1, h2, h3, h4⟩⟩ := f.own
  · exact ⟨hl, .inl h⟩
  · exact ⟨hl, .inr ⟨g, cap, cur, rfl, hb', (hk g (hg g rfl) (Array.getElem?_eq_some_iff.1 ho).1).trans ho, h1, h2, h3, h4⟩⟩
theorem Gr.more {rs : List Ty} {B j : Nat} {w : World} {cv : Value} {xs : List Value} {vs : Nat → Value} {l h : Nat → Nat} (f : Gr rs B j w cv xs vs l h) (hj : j ≤ rs.length) (x : Ty) : Gr (rs ++ [x]) B j w cv xs vs l h := by
  have e : ∀ i, i < j → (rs ++ [x]).getD i Ty.dummy = rs.getD i Ty.dummy := fun i hi => by
    simp only [List.getD]; rw [List.getElem?_append_left (by omega)]
  exact ⟨f.own, fun i hi => by rw [e i hi]; exact f.x0 i hi, fun i hi => by rw [e i hi]; exact f.x1 i hi, f.x2, f.lo, f.di, fun i hi => by rw [e i hi]; exact f.ty i hi, f.ap⟩
theorem oc_all {w : World} {E : Nat} {k n : Int} {v : Value} (h : OC w E k n v) (k' n' : Int) (v' : Value) : OC (((w.setCell ⟨E, 0, none⟩ (.int .i64 k')).setCell ⟨E, 1, none⟩ (.int .i64 n')).setCell ⟨E, 2, none⟩ v') E k' n' v' := ((h.set0 k').set1 n').set2 v'
theorem undrew2 {w w' : World} {r : Option Nat} (h : w.drew.grownBy w' r) : w.grownBy w' r := ⟨h.os, h.tape, h.output, h.size, h.block⟩
theorem Gr.stepE {rs : List Ty} {B j : Nat} {w w1 w3 : World} {cv : Value} {xs : List Value} {vs : Nat → Value} {l h : Nat → Nat} (f : Gr rs B j w cv xs vs l h) (hB : B ≤ w.heap.size) {t : Ty} (ht : rs.getD j Ty.dummy = t) {v : Value} (hb : Below w.heap.size w w1) (hty : TyIn w1 w.heap.size w1.heap.size t v) {o : Obj} {g cap E : Nat} (hE : ∀ i, i < j → E < l i ∨ h i ≤ E) (hEw : E < w.heap.size)
    (hown : w3.ownsRow B 28 3 (.slice (some ⟨g, 0, none⟩) (j + 1) cap) (j + 1) (xs ++ [.int .i64 t.k, .int .i64 t.n, v])) (hgrow : (w1.alloc o).grownBy w3 cv.ownBlock) (hat : cv.ownBlock = some g ∨ g = w1.heap.size + 1) :
    ∃ xs' vs' l' h', Gr rs B (j + 1) w3 (.slice (some ⟨g, 0, none⟩) (j + 1) cap) xs' vs' l' h' ∧ ∀ i, i < j + 1 → E < l' i ∨ h' i ≤ E := by
  have hs1 := hb.size
  have hsA : (w1.alloc o).heap.size = w1.heap.size + 1 := by simp
  have hs3 : w1.heap.size + 1 ≤ w3.heap.size := by have := hgrow.size; omega
  have hlen := f.own.1
  have hold : ∀ b, b < w1.heap.size → some b ≠ cv.ownBlock → w3.heap[b]? = w1.heap[b]? := fun b h1 h2 =>
    (hgrow.block b (by omega) h2).trans (((Below.refl w1.heap.size w1).alloc (Nat.le_refl _) o).block b h1)
  refine ⟨xs ++ [.int .i64 t.k, .int .i64 t.n, v], fun i => if i = j then v else vs i, fun i => if i = j then w.heap.size else l i, fun i => if i = j then w1.heap.size else h i, ⟨hown, ?_, ?_, ?_, ?_, ?_, ?_, ?_⟩, ?_⟩
  · intro i hi
    by_cases hij : i = j
    · subst hij; rw [List.getElem?_append_right (by omega), ht, hlen]; simp
    · exact get_old (f.x0 i (by omega))
  · intro i hi
    by_cases hij : i = j
    · subst hij; rw [List.getElem?_append_right (by omega), ht, hlen]; simp
    · exact get_old (f.x1 i (by omega))
  · intro i hi
    by_cases hij : i = j
    · subst hij; rw [List.getElem?_append_right (by omega), hlen]; simp
    · simp only [hij, if_false]; exact get_old (f.x2 i (by omega))
  · intro i hi
    by_cases hij : i = j
    · simp only [hij, if_true]; omega
    · have := f.lo i (by omega); simp only [hij, if_false]; omega
  · intro i k hik hk
    have hij : i ≠ j := by omega
    by_cases hkj : k = j
    · have := f.lo i (by omega); simp only [hij, hkj, if_false, if_true]; omega
    · simp only [hij, hkj, if_false]; exact f.di i k hik (by omega)
  · intro i hi
    by_cases hij : i = j
    · subst hij
      simp only [if_true]
      rw [ht]
      exact hty.keep (by omega) (fun b h1 h2 h3 => hold b h3 (fun e => by have := (own_low f.own e.symm).2; omega))
    · simp only [hij, if_false]
      have hlo := f.lo i (by omega)
      exact (f.ty i (by omega)).keep (by omega) (fun b h1 h2 h3 => (hold b (by omega) (fun e => by have := f.ap b e.symm i (by omega); omega)).trans (hb.block b h3))
  · intro g' hg' i hi
    have e : g = g' := by simpa [Value.ownBlock] using hg'
    subst e
    rcases hat with hat | hat
    · have hgl := (own_low f.own hat).2
      by_cases hij : i = j
      · simp only [hij, if_true]; omega
      · simp only [hij, if_false]; exact f.ap g hat i (by omega)
    · by_cases hij : i = j
      · simp only [hij, if_true]; omega
      · have := f.lo i (by omega); simp only [hij, if_false]; omega
  · intro i hi
    by_cases hij : i = j
    · simp only [hij, if_true]; omega
    · have := hE i (by omega); simp only [hij, if_false]; exact this

set_option maxRecDepth 100000 in
set_option maxHeartbeats 8000000 in
theorem l2Mutate_any (t : Ty) (v : Value) (B : Nat) (a : Option Addr) (len cap : Nat) (zs : List Int) (p : Nat) (w : World) (P : Ty → Prop) (hP : ∀ t', nodes t' ≤ nodes t + 40 → P t') (q : Nat) (hqq : 2 ≤ q) (hn : nodes t ≤ 900000) (hx : TyAt w t v) (hr : Rd w B a len cap zs p) (hp : p + q ≤ 1000000) :
    Calls Try.prog 42 #[.pointer (some ⟨B, 0, none⟩), .agg #[.int .i64 t.k, .int .i64 t.n, v]] w (DkPost P w B a len cap zs p q) := by
  obtain ⟨av, cv, rfl, lv⟩ := hx.slice
  have HP := Lib.hid hP
  obtain ⟨BX, hBX⟩ : ∃ o, (.cells #[.int .i64 t.k, .int .i64 t.n, .slice av t.ks.length cv] 28 : Obj) = o := ⟨_, rfl⟩
  obtain ⟨w0, hw0⟩ : ∃ W, w.alloc BX = W := ⟨_, rfl⟩
  have HB0 : Hid (Below w.heap.size w w0) := Lib.hid (by rw [← hw0]; exact (Below.refl _ _).alloc (Nat.le_refl _) _)
  have hr0 : Rd w0 B a len cap zs p := by rw [← hw0]; exact hr.alloc _
  have hx0 := hx.kept HB0.out
  have hwz : w.heap.size + 1 = w0.heap.size := by rw [← hw0]; simp
  obtain ⟨W1, hW1⟩ : ∃ W, w0.alloc (.cells #[.int .i64 0, .int .i64 0, .slice none 0 0] 28) = W := ⟨_, rfl⟩
  obtain ⟨S, hS⟩ : ∃ S, w0.heap.size = S := ⟨_, rfl⟩
  have HD0 : Hid (DS w0 S B a len cap zs p W1) := Lib.hid (by rw [← hW1, ← hS]; exact ds_new hr0 _)
  have HX : Hid (TyAt W1 t (.slice av t.ks.length cv)) := Lib.hid (hx0.kept (by rw [← hW1]; exact (Below.refl _ _).alloc (Nat.le_refl _) _))
  rw [hS] at hwz
  have HW0 : Hid (w.alloc (.cells #[.int .i64 t.k, .int .i64 t.n, .slice av t.ks.length cv] 28) = w0) := Lib.hid (by rw [hBX]; exact hw0)
  have HW00 := Lib.hid hw0
  have HW1 := Lib.hid hW1
  have HS := Lib.hid hS
  have HN := Lib.hid hn
  obtain ⟨N, hN⟩ : ∃ N, nodes t = N := ⟨_, rfl⟩
  have HNN := Lib.hid hN
  rw [hN] at hn
  clear hr hx hW1 hP hr0 hx0 hw0 hBX hN
  have hLN : t.ks.length < N := by rw [← HNN.out]; exact nodes_len t
  go_enter Try.func42, Try.ntmps42
  go_wp2_with fail
  rw [HW0.out, HW1.out]
  clear hS
  go_at_call 69
  refine (l2Copy_gr t _ _ (by have := HN.out; omega) HX.out).mono ?_
  rintro e w1 ⟨cw, xs, vs, l, h, rfl, hgr, hb⟩
  have HD1 := Lib.hid (HD0.out.below hb)
  have HG1 := Lib.hid (hgr.under (show S + 1 ≤ W1.heap.size from HD0.out.sz))
  have hz1 := HD1.out.sz
  clear hgr hb
  obtain ⟨ca, cc, rfl⟩ : ∃ ca cc, cw = .slice ca t.ks.length cc := by
    obtain ⟨_, ⟨h1, h2⟩ | ⟨g, cap2, cur, h1, _⟩⟩ := HG1.out.own
    · exact ⟨none, 0, by rw [h1, h2]⟩
    · exact ⟨_, _, h1⟩
  obtain ⟨W2, hW2⟩ : ∃ W, w1.alloc (.cells #[.int .i64 t.k, .int .i64 t.n, .slice ca t.ks.length cc] 28) = W := ⟨_, rfl⟩
  obtain ⟨E, hE⟩ : ∃ E, w1.heap.size = E := ⟨_, rfl⟩
  have HEE := Lib.hid hE
  have HO2 : Hid (OC W2 E t.k t.n (.slice ca t.ks.length cc)) := Lib.hid (by rw [← hW2, ← hE]; exact oc_new _ _ _ _ _)
  have HD2 : Hid (DS w0 S B a len cap zs p W2) := Lib.hid (by rw [← hW2]; exact HD1.out.alloc _)
  have HG2 : Hid (Gr t.ks (S + 1) t.ks.length W2 (.slice ca t.ks.length cc) xs vs l h) := Lib.hid (by rw [← hW2]; exact HG1.out.kept ((Below.refl _ _).alloc (Nat.le_refl _) _))
  have hSE : S < E := by omega
  have hBE : B < E := by have := HD2.out.lt; omega
  have hBS : B < S := HD2.out.lt
  have HW2 := Lib.hid hW2
  have hrow : ∀ g, (Value.slice ca t.ks.length cc).ownBlock = some g → S + 1 ≤ g ∧ g < E := fun g e => by have := own_low HG1.out.own e; omega
  have HROW := Lib.hid hrow
  have HU : Hid (∀ i, i < t.ks.length → E < l i ∨ h i ≤ E) := Lib.hid (fun i hi => .inr (by have := (HG1.out.lo i hi).2; omega))
  clear hW2 hrow
  go_wp2_with fail
  rw [HW2.out]
  clear hE
  go_at_call 67
  refine (pick_any B a len cap zs p 50 _ HD2.out.rd (by omega) (by omega) (by omega)).mono ?_
  rintro e w3 ⟨x, hx, rfl, k3, hk3⟩
  have HD3 := Lib.hid (HD2.out.pick hk3)
  have HPK := Lib.hid (Dw.pick (B := B) hk3)
  have HO3 := Lib.hid (HO2.out.dw hBE (Dw.pick (B := B) hk3))
  have HG3 := Lib.hid (HG2.out.dw (B0 := B) (by omega) (Dw.pick hk3))
  clear hk3
  have HG3T := Lib.hid (fun k n => HG3.out.done k n (by omega))
  by_cases h0 : x = 0
  · subst h0
    go_wp2_with fail
    have hb3 := HD3.out.rd.big
    have HDc := Lib.hid (HD3.out.alloc (.cells #[.int .i64 0, .int .i64 5, .int .i64 1, .int .i64 4] 3))
    have HOc := Lib.hid (HO3.out.kept ((Below.refl _ _).alloc (Nat.le_refl _) (.cells #[.int .i64 0, .int .i64 5, .int .i64 1, .int .i64 4] 3)))
    have HGc := Lib.hid (HG3.out.kept ((Below.refl _ _).alloc (Nat.le_refl _) (.cells #[.int .i64 0, .int .i64 5, .int .i64 1, .int .i64 4] 3)))
    go_at_call 44
    refine (num_any B a len cap zs _ _ HDc.out.rd (by omega) _ 4 4 (0) 5 (by omega) (by omega) (by omega) (intRow_new _ _ _ 4 (0) 5 rfl (by decide +kernel))).mono ?_
    rintro e w4 ⟨u, hu, rfl, k4, hk4⟩
    have HD4 := Lib.hid (HDc.out.pick hk4)
    have HO4 := Lib.hid (HOc.out.dw hBE (Dw.pick (B := B) hk4))
    have HG4 := Lib.hid (HGc.out.dw (B0 := B) (by omega) (Dw.pick hk4))
    clear hk4 hu
    have HD5 := Lib.hid (HD4.out.setNew hSE 0 (.int .i64 u))
    have HO5 := Lib.hid (HO4.out.set0 u)
    have HG5 := Lib.hid (HG4.out.keepE (w' := w4.setCell ⟨E, 0, none⟩ (.int .i64 u)) HU.out (fun g e => by have := (HROW.out g e).2; omega) (by simp) (fun b hb _ => heap_setCell_other _ ⟨E, 0, none⟩ b _ hb))
    have HGT := Lib.hid (HG5.out.done u t.n (by omega))
    have HPT := Lib.hid (HP.out (.node u t.n t.ks) (by rw [nodes_same, HNN.out]; omega))
    obtain ⟨q0, q1, q2, qf0, qf1, qf2, qz⟩ := HO4.out
    obtain ⟨p0, p1, p2, f0, f1, f2, psz⟩ := HD5.out.rb
    obtain ⟨o0, o1, o2, of0, of1, of2, oz⟩ := HO5.out
    go_wp2_with fail
    exact bodyPost_ret (v := .agg #[.int .i64 u, .int .i64 t.n, .slice ca t.ks.length cc]) (by simp [results, Try.results42, go_sem, p0, p1, p2]) rfl (DkPost.low (o := BX) (by rw [HW00.out]; exact ⟨_, _, 2, HPT.out, by omega, rfl, (HD5.out.doneN ((HGT.out).toN (E := 0) (Nat.le_refl _) (.inr (Nat.succ_pos _))) (Nat.le_refl _) _ _ _).1, (HD5.out.doneN ((HGT.out).toN (E := 0) (Nat.le_refl _) (.inr (Nat.succ_pos _))) (Nat.le_refl _) _ _ _).2.1, (HD5.out.doneN ((HGT.out).toN (E := 0) (Nat.le_refl _) (.inr (Nat.succ_pos _))) (Nat.le_refl _) _ _ _).2.2⟩))
  by_cases h1 : x = 1
  · subst h1
    go_wp2_with fail
    have hb3 := HD3.out.rd.big
    have HDc := Lib.hid (HD3.out.alloc (.cells #[.int .i64 26, .int .i64 (-1), .int .i64 1] 3))
    have HOc := Lib.hid (HO3.out.kept ((Below.refl _ _).alloc (Nat.le_refl _) (.cells #[.int .i64 26, .int .i64 (-1), .int .i64 1] 3)))
    have HGc := Lib.hid (HG3.out.kept ((Below.refl _ _).alloc (Nat.le_refl _) (.cells #[.int .i64 26, .int .i64 (-1), .int .i64 1] 3)))
    go_at_call 44
    refine (num_any B a len cap zs _ _ HDc.out.rd (by omega) _ 3 3 (-1) 26 (by omega) (by omega) (by omega) (intRow_new _ _ _ 3 (-1) 26 rfl (by decide +kernel))).mono ?_
    rintro e w4 ⟨u, hu, rfl, k4, hk4⟩
    have HD4 := Lib.hid (HDc.out.pick hk4)
    have HO4 := Lib.hid (HOc.out.dw hBE (Dw.pick (B := B) hk4))
    have HG4 := Lib.hid (HGc.out.dw (B0 := B) (by omega) (Dw.pick hk4))
    clear hk4 hu
    have HD5 := Lib.hid (HD4.out.setNew hSE 1 (.int .i64 u))
    have HO5 := Lib.hid (HO4.out.set1 u)
    have HG5 := Lib.hid (HG4.out.keepE (w' := w4.setCell ⟨E, 1, none⟩ (.int .i64 u)) HU.out (fun g e => by have := (HROW.out g e).2; omega) (by simp) (fun b hb _ => heap_setCell_other _ ⟨E, 1, none⟩ b _ hb))
    have HGT := Lib.hid (HG5.out.done t.k u (by omega))
    have HPT := Lib.hid (HP.out (.node t.k u t.ks) (by rw [nodes_same, HNN.out]; omega))
    obtain ⟨q0, q1, q2, qf0, qf1, qf2, qz⟩ := HO4.out
    obtain ⟨p0, p1, p2, f0, f1, f2, psz⟩ := HD5.out.rb
    obtain ⟨o0, o1, o2, of0, of1, of2, oz⟩ := HO5.out
    go_wp2_with fail
    exact bodyPost_ret (v := .agg #[.int .i64 t.k, .int .i64 u, .slice ca t.ks.length cc]) (by simp [results, Try.results42, go_sem, p0, p1, p2]) rfl (DkPost.low (o := BX) (by rw [HW00.out]; exact ⟨_, _, 2, HPT.out, by omega, rfl, (HD5.out.doneN ((HGT.out).toN (E := 0) (Nat.le_refl _) (.inr (Nat.succ_pos _))) (Nat.le_refl _) _ _ _).1, (HD5.out.doneN ((HGT.out).toN (E := 0) (Nat.le_refl _) (.inr (Nat.succ_pos _))) (Nat.le_refl _) _ _ _).2.1, (HD5.out.doneN ((HGT.out).toN (E := 0) (Nat.le_refl _) (.inr (Nat.succ_pos _))) (Nat.le_refl _) _ _ _).2.2⟩))
  by_cases h2 : x = 2
  · subst h2
    obtain ⟨i0, hi0, hz0, hz1, hz2⟩ := info_parts infoTy
    have h63 : t.ks.length + 1 ≤ maxLen := by unfold maxLen; omega
    have hby : (t.ks.length + 1) * 40 ≤ 140737488355328 := by omega
    have hw3 : E < w3.heap.size := HO3.out.sz
    obtain ⟨q0, q1, q2, qf0, qf1, qf2, qz⟩ := HO3.out
    have hnE : ∀ g, (Value.slice ca t.ks.length cc).ownBlock = some g → E ≠ g := fun g e => by have := (HROW.out g e).2; omega
    have HNE := Lib.hid hnE
    clear hnE
    go_wp2_with fail
    go_region_law (first
      | (refine step_append_lies _ (by rfl) _ _ _ (by rfl) (S + 1) 28 i0 _ 3 40 Try.underlying26 hi0 hz0 hz1 hz2 rfl (by omega) (.slice ca t.ks.length cc) t.ks.length xs (by rfl) (by first | exact HOWN4.out.alloc _ | exact (HOWN4.out.alloc _).drew) ⟨w4.heap.size, 0, none⟩ 1 1 [.int .i64 1, .int .i64 0, .slice a4 0 k4] (by rfl) (by rfl) (World.news_of_block (cs := #[.int .i64 1, .int .i64 0, .slice a4 0 k4]) (t := 28) (fr := (0, 0)) (heap_alloc_new w4 _)) (by simp [Value.oneCell']) (by omega) h63 hby (by first | exact hbase4 _ | exact hbase5 _) (w4.heap.size + 1) (by simp) ?_; intro g6 cap6 w6 hown6 hgrow6 hat6 hltg6; have hgr6 := (by first | exact hgrow6 | exact undrew2 hgrow6 : (w4.alloc (.cells #[.int .i64 1, .int .i64 0, .slice a4 0 k4] 28)).grownBy w6 (Value.slice ca t.ks.length cc).ownBlock); obtain ⟨xs6, vs6, l6, h6, hG6, hE6⟩ := (HG3.out.more (Nat.le_refl _) (.node 1 0 [])).stepE (by omega) (t := .node 1 0 []) (by simp [List.getD]) HB4.out (v := .slice a4 0 k4) (.bare _ _ _ _ _ _) HU.out hw3 hown6 hgr6 hat6; have HG6 := Lib.hid hG6; have HE6 := Lib.hid hE6; have HD6 := Lib.hid (HD4.out.grow hgr6 (fun g e => (HROW.out g e).1)); have HO6 := Lib.hid (HO4.out.keep (by have := grow_size hgr6; omega) (grow_old hgr6 (q := E) (by omega) HNE.out)); have HA6 : Hid (g6 ≠ E) := Lib.hid (by rcases hat6 with h | h; exact fun e => HNE.out g6 h e.symm; omega); obtain ⟨s0, s1, s2, sf0, sf1, sf2, sz⟩ := HO6.out; clear hown6 hgrow6 hat6 hG6 hE6 hgr6)
      | (go_simp; go_at_call 70; refine (l2Num_flat _).mono ?_; rintro e w4 ⟨a4, k4, rfl, hb4⟩; have hb4' : Below w3.heap.size w3 w4 := Below.trans (B := w3.heap.size) (by first | exact Below.refl _ _ | exact (Below.refl _ _).drew) hb4; have HB4 := Lib.hid hb4'; have HOWN4 := Lib.hid (own_below HG3.out.own hb4'); have HD4 := Lib.hid (HD3.out.below hb4'); have HO4 := Lib.hid (HO3.out.kept hb4'); have hs4 : w3.heap.size ≤ w4.heap.size := hb4'.size; have hbase4 : ∀ o, S + 1 ≤ (w4.alloc o).heap.size := (fun o => by simp; omega); have hbase5 : ∀ o, S + 1 ≤ (w4.alloc o).drew.heap.size := (fun o => by simp; omega); obtain ⟨r0, r1, r2, rf0, rf1, rf2, rz⟩ := HO4.out; clear hb4 hb4'))
    all_goals
      have HD7 := Lib.hid (HD6.out.setNew hSE 2 (.slice (some ⟨g6, 0, none⟩) (t.ks.length + 1) cap6))
      have HO7 := Lib.hid (HO6.out.set2 (.slice (some ⟨g6, 0, none⟩) (t.ks.length + 1) cap6))
      have HG7 := Lib.hid (HG6.out.keepE (w' := w6.setCell ⟨E, 2, none⟩ (.slice (some ⟨g6, 0, none⟩) (t.ks.length + 1) cap6)) HE6.out (fun g e => by have e2 : g6 = g := (by simpa [Value.ownBlock] using e); have := HA6.out; omega) (by simp) (fun b hb _ => heap_setCell_other _ ⟨E, 2, none⟩ b _ hb))
      have hlen : t.ks.length + 1 = (t.ks ++ [Ty.node 1 0 []]).length := by simp
      have HGT : Hid (TyIn (w6.setCell ⟨E, 2, none⟩ (.slice (some ⟨g6, 0, none⟩) (t.ks.length + 1) cap6)) (S + 1) (w6.setCell ⟨E, 2, none⟩ (.slice (some ⟨g6, 0, none⟩) (t.ks.length + 1) cap6)).heap.size (.node t.k t.n (t.ks ++ [Ty.node 1 0 []])) (.slice (some ⟨g6, 0, none⟩) (t.ks.length + 1) cap6)) := Lib.hid (by
        have h := HG7.out
        obtain ⟨V, hV⟩ : ∃ V, (.slice (some ⟨g6, 0, none⟩) (t.ks.length + 1) cap6 : Value) = V := ⟨_, rfl⟩
        rw [hV] at h ⊢
        rw [hlen] at h
        exact h.done t.k t.n (by simp; omega))
      clear hlen
      have HPT := Lib.hid (HP.out (.node t.k t.n (t.ks ++ [.node 1 0 []])) (by rw [nodes_more, HNN.out]; omega))
      obtain ⟨p0, p1, p2, f0, f1, f2, psz⟩ := HD7.out.rb
      obtain ⟨o0, o1, o2, of0, of1, of2, oz⟩ := HO7.out
      go_wp2_with fail
      exact bodyPost_ret (v := .agg #[.int .i64 t.k, .int .i64 t.n, .slice (some ⟨g6, 0, none⟩) (t.ks.length + 1) cap6]) (by simp [results, Try.results42, go_sem, p0, p1, p2]) rfl (DkPost.low (o := BX) (by rw [HW00.out]; exact ⟨_, _, 1, HPT.out, by omega, rfl, (HD7.out.doneN ((HGT.out).toN (E := 0) (Nat.le_refl _) (.inr (Nat.succ_pos _))) (Nat.le_refl _) _ _ _).1, (HD7.out.doneN ((HGT.out).toN (E := 0) (Nat.le_refl _) (.inr (Nat.succ_pos _))) (Nat.le_refl _) _ _ _).2.1, (HD7.out.doneN ((HGT.out).toN (E := 0) (Nat.le_refl _) (.inr (Nat.succ_pos _))) (Nat.le_refl _) _ _ _).2.2⟩))
  by_cases h3 : x = 3
  · subst h3
    have HTT : Hid (TyN W2 (S + 1) E (.node t.k t.n t.ks) (.slice ca t.ks.length cc)) := Lib.hid (by
      rw [← HW2.out]
      exact ((HG1.out.done t.k t.n (by omega)).toN (E := E) (Nat.le_refl _) (.inl (by rw [HEE.out]; exact Nat.le_refl _))).kept ((Below.refl _ _).alloc (Nat.le_refl _) _))
    have HT3 : Hid (TyN w3 (S + 1) E (.node t.k t.n t.ks) (.slice ca t.ks.length cc)) := Lib.hid (HTT.out.keep HPK.out.size (fun b h1 _ h3 => HPK.out.block b h3 (by simp; omega)))
    obtain ⟨q0, q1, q2, qf0, qf1, qf2, qz⟩ := HO3.out
    go_wp2_with fail
    go_loopw [6] (fun i wr => ∃ (j : Nat) (T : Ty) (ar : Option Addr) (c : Nat), j ≤ 16 ∧ i = .int .i64 j ∧ Hid (nodes T ≤ N + 2 * j) ∧ Hid (OC wr E T.k T.n (.slice ar T.ks.length c)) ∧ Hid (TyN wr (S + 1) E T (.slice ar T.ks.length c)) ∧ Hid (DS w0 S B a len cap zs (p + 1) wr)) (fun i _ => 16 - (intOf i).toNat)
    case atStart => exact ⟨0, .node t.k t.n t.ks, ca, cc, by omega, rfl, Lib.hid (by rw [nodes_same, HNN.out]; omega), HO3, HT3, HD3⟩
    case round =>
      obtain ⟨j, T, ar, c, hj, rfl, HM, HO5, HT5, HD5⟩ := hrel
      by_cases hlt : j < 16
      · have hji : (j : Int) < 16 := by omega
        have hwE := HO5.out.sz
        have hwS := HD5.out.sz
        obtain ⟨s0, s1, s2, sf0, sf1, sf2, sz⟩ := HO5.out
        go_wp2_with fail
        go_region_law (first
          | (go_simp; go_at_call 71; have hgd := HN6; clear hgd; refine (l2Node_n 3 T (.node 1 0 []) (.slice ar T.ks.length c) (.slice a6 0 k6) (S + 1) E _ (by first | exact HT6.out | exact HT6.out.kept (by first | exact Below.refl _ _ | exact (Below.refl _ _).drew)) (.bare _ _ _ _) (by first | exact hE6 | simpa using hE6) (by first | exact hS6 | simpa using hS6)).mono ?_; rintro e w7 ⟨a7, rfl, hT7, hb7⟩; have hb7' : Below w6.heap.size w6 w7 := Below.trans (B := w6.heap.size) (by first | exact Below.refl _ _ | exact (Below.refl _ _).drew) hb7; have HT7 := Lib.hid hT7; have HD7 := Lib.hid (HD6.out.below hb7'); have HO7 := Lib.hid (HO6.out.kept hb7'); obtain ⟨u0, u1, u2, uf0, uf1, uf2, uz⟩ := HO7.out; clear hb7 hb7' hT7)
          | (go_simp; go_at_call 70; refine (l2Num_flat _).mono ?_; rintro e w6 ⟨a6, k6, rfl, hb6⟩; have hb6' : Below wr.heap.size wr w6 := Below.trans (B := wr.heap.size) (by first | exact Below.refl _ _ | exact (Below.refl _ _).drew) hb6; have HN6 := Lib.hid trivial; have HT6 := Lib.hid (HT5.out.kept hb6'); have HD6 := Lib.hid (HD5.out.below hb6'); have HO6 := Lib.hid (HO5.out.kept hb6'); have hE6 : E < w6.heap.size := HO6.out.sz; have hS6 : S + 1 ≤ w6.heap.size := HD6.out.sz; obtain ⟨r0, r1, r2, rf0, rf1, rf2, rz⟩ := HO6.out; clear hb6 hb6'))
        all_goals go_wp2_with fail
        all_goals go_roundw
        all_goals first
          | exact ⟨j + 1, .node 3 0 [T, .node 1 0 []], a7, 2, by omega, by go_num, Lib.hid (by rw [nodes_two]; have := HM.out; simp [nodes, nodesL]; omega), Lib.hid (oc_all HO7.out _ _ _), Lib.hid (HT7.out.keep (by simp) (fun b _ h2 _ => heap_res h2)), Lib.hid (((HD7.out.setNew hSE 0 _).setNew hSE 1 _).setNew hSE 2 _)⟩
          | (simp [intOf]; omega)
      · obtain rfl : j = 16 := by omega
        have hji : ¬ ((16 : Nat) : Int) < 16 := by omega
        have HPT := Lib.hid (HP.out T (by have := HM.out; rw [HNN.out]; omega))
        obtain ⟨p0, p1, p2, f0, f1, f2, psz⟩ := HD5.out.rb
        obtain ⟨o0, o1, o2, of0, of1, of2, oz⟩ := HO5.out
        go_wp2_with fail
        exact bodyPost_ret (v := .agg #[.int .i64 T.k, .int .i64 T.n, .slice ar T.ks.length c]) (by simp [results, Try.results42, go_sem, p0, p1, p2]) rfl (DkPost.low (o := BX) (by rw [HW00.out]; exact ⟨_, _, 1, HPT.out, by omega, rfl, (HD5.out.doneN HT5.out (Nat.le_refl _) _ _ _).1, (HD5.out.doneN HT5.out (Nat.le_refl _) _ _ _).2.1, (HD5.out.doneN HT5.out (Nat.le_refl _) _ _ _).2.2⟩))
  · have e0 : ((x : Int) == 0) = false := by rw [beq_eq_false_iff_ne]; omega
    have e1 : ((x : Int) == 1) = false := by rw [beq_eq_false_iff_ne]; omega
    have e2 : ((x : Int) == 2) = false := by rw [beq_eq_false_iff_ne]; omega
    have e3 : ((x : Int) == 3) = false := by rw [beq_eq_false_iff_ne]; omega
    have HPT := Lib.hid (HP.out (.node t.k t.n t.ks) (by rw [nodes_same, HNN.out]; omega))
    obtain ⟨p0, p1, p2, f0, f1, f2, psz⟩ := HD3.out.rb
    obtain ⟨o0, o1, o2, of0, of1, of2, oz⟩ := HO3.out
    go_wp2_with fail
    exact bodyPost_ret (v := .agg #[.int .i64 t.k, .int .i64 t.n, .slice ca t.ks.length cc]) (by simp [results, Try.results42, go_sem, p0, p1, p2]) rfl (DkPost.low (o := BX) (by rw [HW00.out]; exact ⟨_, _, 1, HPT.out, by omega, rfl, (HD3.out.doneN ((HG3T.out t.k t.n).toN (E := 0) (Nat.le_refl _) (.inr (Nat.succ_pos _))) (Nat.le_refl _) _ _ _).1, (HD3.out.doneN ((HG3T.out t.k t.n).toN (E := 0) (Nat.le_refl _) (.inr (Nat.succ_pos _))) (Nat.le_refl _) _ _ _).2.1, (HD3.out.doneN ((HG3T.out t.k t.n).toN (E := 0) (Nat.le_refl _) (.inr (Nat.succ_pos _))) (Nat.le_refl _) _ _ _).2.2⟩))

end Go.Proofs.Ytjhccdioainibaa
