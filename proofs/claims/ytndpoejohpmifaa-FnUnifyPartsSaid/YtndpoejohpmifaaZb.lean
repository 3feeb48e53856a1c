/-
  Types in memory that lie in blocks of their own: a tree whose rows lie between two blocks, no two in one; what marks leave in such a tree. Plain facts.
-/
import Derived.Test.YtndpoejohpmifaaYa
namespace Go.Proofs.Ytndpoejohpmifaa
open Go.RowKit

theorem cellEq {W W' : World} {b i : Nat} (h : W'.heap[b]? = W.heap[b]?) : W'.cell? ⟨b, i, none⟩ = W.cell? ⟨b, i, none⟩ := by simp [World.cell?, h]
theorem frozenEq {W W' : World} {b i : Nat} (h : W'.heap[b]? = W.heap[b]?) : W'.frozen? ⟨b, i, none⟩ = W.frozen? ⟨b, i, none⟩ := by simp [World.frozen?, h]

/-- A plain block: nothing of it is frozen. -/
structure Row (w : World) (b : Nat) : Prop where
  lt : b < w.heap.size
  pl : ∃ C T, w.heap[b]? = some (.cells C T (0, 0))
theorem Row.keep {w w' : World} {b : Nat} (h : Row w b) (hs : w.heap.size ≤ w'.heap.size) (e : w'.heap[b]? = w.heap[b]?) : Row w' b := ⟨Nat.lt_of_lt_of_le h.lt hs, by obtain ⟨C, T, h⟩ := h.pl; exact ⟨C, T, e.trans h⟩⟩
theorem row_at {W : World} {b : Nat} {C : Array Value} {T : TypeId} (h : W.heap.size = b) : Row (W.alloc (.cells C T)) b := by
  subst h; exact ⟨by simp, C, T, heap_alloc_new W _⟩
/-- The type's rows lie in blocks from lo to hi, each in a block of its own, and may be written. -/
inductive TyIn (w : World) : Nat → Nat → Ty → Value → Prop where
  | bare (lo hi : Nat) (k n : Int) (a : Option Addr) (cap : Nat) : TyIn w lo hi (.node k n []) (.slice a 0 cap)
  | row (lo hi : Nat) (k n : Int) (ks : List Ty) (b cap : Nat) (vs : Nat → Value) (l h : Nat → Nat) (hb1 : lo ≤ b) (hb2 : b < hi) (hw : Row w b) (hl : ks.length ≤ 9223372036854775807)
      (h0 : ∀ i, i < ks.length → w.cell? ⟨b, i * 3, none⟩ = some (.int .i64 (ks.getD i Ty.dummy).k))
      (h1 : ∀ i, i < ks.length → w.cell? ⟨b, i * 3 + 1, none⟩ = some (.int .i64 (ks.getD i Ty.dummy).n))
      (h2 : ∀ i, i < ks.length → w.cell? ⟨b, i * 3 + 2, none⟩ = some (vs i))
      (hf : ∀ i, i < ks.length * 3 → w.frozen? ⟨b, i, none⟩ = false)
      (hin : ∀ i, i < ks.length → lo ≤ l i ∧ h i ≤ hi ∧ (b < l i ∨ h i ≤ b))
      (hd : ∀ i j, i < j → j < ks.length → h i ≤ l j)
      (h3 : ∀ i, i < ks.length → TyIn w (l i) (h i) (ks.getD i Ty.dummy) (vs i)) : TyIn w lo hi (.node k n ks) (.slice (some ⟨b, 0, none⟩) ks.length cap)
theorem TyIn.at {w : World} {lo hi : Nat} {t : Ty} {v : Value} (h : TyIn w lo hi t v) : TyAt w t v := by
  induction h with
  | bare lo hi k n a cap => exact .bare k n a cap
  | row lo hi k n ks b cap vs l h hb1 hb2 hw hl h0 h1 h2 hf hin hd _ ih =>
    exact .row k n ks b 0 cap vs hw.lt hl (fun i hi => by rw [Nat.zero_add]; exact h0 i hi) (fun i hi => by rw [Nat.zero_add]; exact h1 i hi) (fun i hi => by rw [Nat.zero_add]; exact h2 i hi) ih
/-- What lies elsewhere does not matter. -/
theorem TyIn.keep {w w' : World} {lo hi : Nat} {t : Ty} {v : Value} (h : TyIn w lo hi t v) (hs : w.heap.size ≤ w'.heap.size) (hk : ∀ b, lo ≤ b → b < hi → b < w.heap.size → w'.heap[b]? = w.heap[b]?) : TyIn w' lo hi t v := by
  induction h with
  | bare lo hi k n a cap => exact .bare lo hi k n a cap
  | row lo hi k n ks b cap vs l h hb1 hb2 hw hl h0 h1 h2 hf hin hd _ ih =>
    have e := hk b hb1 hb2 hw.lt
    refine .row lo hi k n ks b cap vs l h hb1 hb2 (hw.keep hs e) hl (fun i hi => (cellEq e).trans (h0 i hi)) (fun i hi => (cellEq e).trans (h1 i hi)) (fun i hi => (cellEq e).trans (h2 i hi)) (fun i hi => (frozenEq e).trans (hf i hi)) hin hd ?_
    intro i hi
    obtain ⟨a1, a2, _⟩ := hin i hi
    exact ih i hi (fun b h1 h2 h3 => hk b (by omega) (by omega) h3)
theorem TyIn.kept {w w' : World} {lo hi : Nat} {t : Ty} {v : Value} (h : TyIn w lo hi t v) (hb : Below w.heap.size w w') : TyIn w' lo hi t v :=
  h.keep hb.size (fun b _ _ h3 => hb.block b h3)
theorem TyIn.wide {w : World} {lo hi lo' hi' : Nat} {t : Ty} {v : Value} (h : TyIn w lo hi t v) (h1 : lo' ≤ lo) (h2 : hi ≤ hi') : TyIn w lo' hi' t v := by
  cases h with
  | bare lo hi k n a cap => exact .bare lo' hi' k n a cap
  | row lo hi k n ks b cap vs l h hb1 hb2 hw hl g0 g1 g2 hf hin hd h3 =>
    refine .row lo' hi' k n ks b cap vs l h (by omega) (by omega) hw hl g0 g1 g2 hf (fun i hi => ?_) hd h3
    obtain ⟨a1, a2, a3⟩ := hin i hi
    exact ⟨by omega, by omega, a3⟩
/-- A type whose two operands have just been laid in a row. -/
theorem TyIn.pair {w : World} {lo hi b cap : Nat} {k n : Int} {x y : Ty} {vx vy : Value} {l h l' h' : Nat} (hx : TyIn w l h x vx) (hy : TyIn w l' h' y vy) (hb1 : lo ≤ b) (hb2 : b < hi) (hw : Row w b)
    (c0 : w.cell? ⟨b, 0, none⟩ = some (.int .i64 x.k)) (c1 : w.cell? ⟨b, 1, none⟩ = some (.int .i64 x.n)) (c2 : w.cell? ⟨b, 2, none⟩ = some vx)
    (c3 : w.cell? ⟨b, 3, none⟩ = some (.int .i64 y.k)) (c4 : w.cell? ⟨b, 4, none⟩ = some (.int .i64 y.n)) (c5 : w.cell? ⟨b, 5, none⟩ = some vy)
    (hf : ∀ i, i < 6 → w.frozen? ⟨b, i, none⟩ = false) (hl : lo ≤ l) (hh : h ≤ hi) (hl' : lo ≤ l') (hh' : h' ≤ hi) (hb : b < l ∨ h ≤ b) (hb' : b < l' ∨ h' ≤ b) (hd : h ≤ l') :
    TyIn w lo hi (.node k n [x, y]) (.slice (some ⟨b, 0, none⟩) 2 cap) := by
  refine .row lo hi k n [x, y] b cap (fun i => if i = 0 then vx else vy) (fun i => if i = 0 then l else l') (fun i => if i = 0 then h else h') hb1 hb2 hw (by simp) ?_ ?_ ?_ ?_ ?_ ?_ ?_
  · intro i hi
    have hi : i < 2 := hi
    obtain rfl | rfl : i = 0 ∨ i = 1 := by omega
    · exact c0
    · exact c3
  · intro i hi
    have hi : i < 2 := hi
    obtain rfl | rfl : i = 0 ∨ i = 1 := by omega
    · exact c1
    · exact c4
  · intro i hi
    have hi : i < 2 := hi
    obtain rfl | rfl : i = 0 ∨ i = 1 := by omega
    · exact c2
    · exact c5
  · intro i hi; exact hf i hi
  · intro i hi
    have hi : i < 2 := hi
    obtain rfl | rfl : i = 0 ∨ i = 1 := by omega
    · exact ⟨hl, hh, hb⟩
    · exact ⟨hl', hh', hb'⟩
  · intro i j hij hj
    have hj : j < 2 := hj
    obtain ⟨rfl, rfl⟩ : i = 0 ∧ j = 1 := by omega
    exact hd
  · intro i hi
    have hi : i < 2 := hi
    obtain rfl | rfl : i = 0 ∨ i = 1 := by omega
    · exact hx
    · exact hy

/-- The operands of t' are those of t, numbered from k on; k' comes next. -/
inductive Mk : Int → Ty → Ty → Int → Prop where
  | node (k n k' n' : Int) (ks ks' : List Ty) (c : Nat → Int) (hl : ks'.length = ks.length)
      (hk : ∀ i, i < ks.length → (ks'.getD i Ty.dummy).k = c i) (hn : ∀ i, i < ks.length → (ks'.getD i Ty.dummy).n = c i + 1)
      (h : ∀ i, i < ks.length → Mk (c i + 2) (ks.getD i Ty.dummy) (ks'.getD i Ty.dummy) (c (i + 1))) : Mk (c 0) (.node k n ks) (.node k' n' ks') (c ks.length)
/-- The type lies in plain blocks. -/
inductive TyOk (w : World) : Ty → Value → Prop where
  | bare (k n : Int) (a : Option Addr) (cap : Nat) : TyOk w (.node k n []) (.slice a 0 cap)
  | row (k n : Int) (ks : List Ty) (b o cap : Nat) (vs : Nat → Value) (hr : Row w b) (hl : ks.length ≤ 9223372036854775807)
      (h0 : ∀ i, i < ks.length → w.cell? ⟨b, o + i * 3, none⟩ = some (.int .i64 (ks.getD i Ty.dummy).k))
      (h1 : ∀ i, i < ks.length → w.cell? ⟨b, o + i * 3 + 1, none⟩ = some (.int .i64 (ks.getD i Ty.dummy).n))
      (h2 : ∀ i, i < ks.length → w.cell? ⟨b, o + i * 3 + 2, none⟩ = some (vs i))
      (h3 : ∀ i, i < ks.length → TyOk w (ks.getD i Ty.dummy) (vs i)) : TyOk w (.node k n ks) (.slice (some ⟨b, o, none⟩) ks.length cap)
theorem TyOk.at {w : World} {t : Ty} {v : Value} (h : TyOk w t v) : TyAt w t v := by
  induction h with
  | bare k n a cap => exact .bare k n a cap
  | row k n ks b o cap vs hr hl h0 h1 h2 _ ih => exact .row k n ks b o cap vs hr.lt hl h0 h1 h2 ih
theorem TyOk.kept {w w' : World} {t : Ty} {v : Value} (h : TyOk w t v) (hb : Below w.heap.size w w') : TyOk w' t v := by
  induction h with
  | bare k n a cap => exact .bare k n a cap
  | row k n ks b o cap vs hr hl h0 h1 h2 _ ih =>
    refine .row k n ks b o cap vs (hr.keep hb.size (hb.block b hr.lt)) hl ?_ ?_ ?_ ih
    · intro i hi; rw [hb.cell (p := ⟨b, o + i * 3, none⟩) hr.lt]; exact h0 i hi
    · intro i hi; rw [hb.cell (p := ⟨b, o + i * 3 + 1, none⟩) hr.lt]; exact h1 i hi
    · intro i hi; rw [hb.cell (p := ⟨b, o + i * 3 + 2, none⟩) hr.lt]; exact h2 i hi
theorem TyIn.ok {w : World} {lo hi : Nat} {t : Ty} {v : Value} (h : TyIn w lo hi t v) : TyOk w t v := by
  induction h with
  | bare lo hi k n a cap => exact .bare k n a cap
  | row lo hi k n ks b cap vs l h hb1 hb2 hw hl h0 h1 h2 hf hin hd _ ih =>
    exact .row k n ks b 0 cap vs hw hl (fun i hi => by rw [Nat.zero_add]; exact h0 i hi) (fun i hi => by rw [Nat.zero_add]; exact h1 i hi) (fun i hi => by rw [Nat.zero_add]; exact h2 i hi) ih

end Go.Proofs.Ytndpoejohpmifaa
