/-
The plain functions on bytes and numbers that the contracts of chapter 1 speak of: which bytes a text has, when an edit fits.
  They hold for all arguments; there are no conditions.
Types in memory: trees of nodes, the operands of a node in a row of three cells each. Plain facts.
Types in memory that lie in blocks of their own: a tree whose rows lie between two blocks, no two in one; what marks leave in such a tree. Plain facts.
What the exact laws' size of a type returns: what is left of a number when every node below the root is taken away, or -1; what was in memory stays.
-/
import Derived.WalkKit
import Derived.WalkSpells
import Derived.WalkLawsBesides
import Derived.Lib.Hide
import Derived.Test.YtjhccdioainibaaProg
import Derived.Deep.Slices
namespace Go.Proofs.Ytjhccdioainibaa
open Go.RowKit

/-- Below, by block: old cells and old marks read as before. -/
theorem bcell {W w1 : World} (hb : Below W.heap.size W w1) : (∀ b o, b < W.heap.size → w1.cell? ⟨b, o, none⟩ = W.cell? ⟨b, o, none⟩) ∧ (∀ b o, b < W.heap.size → w1.frozen? ⟨b, o, none⟩ = W.frozen? ⟨b, o, none⟩) :=
  ⟨fun b o h => hb.cell (p := ⟨b, o, none⟩) h, fun b o h => hb.frozen (p := ⟨b, o, none⟩) h⟩

/-- A byte of a text: a newline or a printable one. -/
def okB (n : Int) : Bool := decide (n = 10 ∨ (32 ≤ n ∧ n ≤ 126))
theorem okB_yes {n : Int} (h : n = 10 ∨ (32 ≤ n ∧ n ≤ 126)) : okB n = true := by unfold okB; exact decide_eq_true h
theorem okB_no {n : Int} (h : ¬ (n = 10 ∨ (32 ≤ n ∧ n ≤ 126))) : okB n = false := by unfold okB; exact decide_eq_false h
theorem okB_iff {n : Int} : okB n = true ↔ (n = 10 ∨ (32 ≤ n ∧ n ≤ 126)) := by unfold okB; exact decide_eq_true_iff
/-- All bytes are bytes of a text. -/
def okL (l : List UInt8) : Bool := l.all fun c => okB c.toNat
/-- A text. -/
def tv (s : ByteArray) : Bool := decide (s.size ≤ 2000) && okL s.data.toList

theorem take_snoc (s : ByteArray) (k : Nat) (h : k < s.size) : s.data.toList.take (k + 1) = s.data.toList.take k ++ [s[k]] := by
  rw [List.take_succ_eq_append_getElem (by simpa using h)]; rfl
theorem okL_snoc (s : ByteArray) (k : Nat) (h : k < s.size) (b : Bool) (hb : okB s[k].toNat = b) (hk : okL (s.data.toList.take k) = true) : okL (s.data.toList.take (k + 1)) = b := by
  rw [take_snoc s k h]; unfold okL at *; simp [hk, hb]
theorem okL_stop (s : ByteArray) (k : Nat) (h : k < s.size) (hb : okB s[k].toNat = false) : okL s.data.toList = false := by
  unfold okL
  rw [List.all_eq_false]
  refine ⟨s[k], ?_, by simp [hb]⟩
  exact List.getElem_mem (l := s.data.toList) (by simpa using h)
theorem tv_long (s : ByteArray) (h : 2000 < s.size) : tv s = false := by unfold tv; simp; omega
theorem tv_short (s : ByteArray) (h : s.size ≤ 2000) : tv s = okL s.data.toList := by unfold tv; simp [h]
theorem okL_all (s : ByteArray) (k : Nat) (hk : s.size ≤ k) (h : okL (s.data.toList.take k) = true) : okL s.data.toList = true := by
  rwa [List.take_of_length_le (by simpa using hk)] at h

/-- When an edit from 'f' to 't' that inserts 'i' fits the text 's'. -/
def fitsB (s : ByteArray) (f t : Int) (i : ByteArray) : Bool :=
  tv s && (tv i && (decide (0 ≤ f) && (decide (f ≤ t) && (decide (t ≤ s.size) && decide ((s.size : Int) + (i.size - (t - f)) ≤ 2000)))))
theorem fitsB_iff {s : ByteArray} {f t : Int} {i : ByteArray} : fitsB s f t i = true ↔ tv s = true ∧ tv i = true ∧ 0 ≤ f ∧ f ≤ t ∧ t ≤ s.size ∧ (s.size : Int) + (i.size - (t - f)) ≤ 2000 := by
  unfold fitsB; simp only [Bool.and_eq_true, decide_eq_true_eq]
theorem tv_size {s : ByteArray} (h : tv s = true) : s.size ≤ 2000 := by unfold tv at h; simp at h; exact h.1

end Go.Proofs.Ytjhccdioainibaa

namespace Go.Proofs.Ytjhccdioainibaa
open Go.RowKit

/-- A type: kind, number, operands. -/
inductive Ty where
  | node (k n : Int) (ks : List Ty)
def Ty.k : Ty → Int | .node k _ _ => k
def Ty.n : Ty → Int | .node _ n _ => n
def Ty.ks : Ty → List Ty | .node _ _ ks => ks
def Ty.dummy : Ty := .node 0 0 []
/-- The type's operands lie in memory behind the value v of its third field. -/
inductive TyAt (w : World) : Ty → Value → Prop where
  | bare (k n : Int) (a : Option Addr) (cap : Nat) : TyAt w (.node k n []) (.slice a 0 cap)
  | row (k n : Int) (ks : List Ty) (b o cap : Nat) (vs : Nat → Value) (hb : b < w.heap.size) (hl : ks.length ≤ 9223372036854775807)
      (h0 : ∀ i, i < ks.length → w.cell? ⟨b, o + i * 3, none⟩ = some (.int .i64 (ks.getD i Ty.dummy).k))
      (h1 : ∀ i, i < ks.length → w.cell? ⟨b, o + i * 3 + 1, none⟩ = some (.int .i64 (ks.getD i Ty.dummy).n))
      (h2 : ∀ i, i < ks.length → w.cell? ⟨b, o + i * 3 + 2, none⟩ = some (vs i))
      (h3 : ∀ i, i < ks.length → TyAt w (ks.getD i Ty.dummy) (vs i)) : TyAt w (.node k n ks) (.slice (some ⟨b, o, none⟩) ks.length cap)
theorem TyAt.kept {w w' : World} {t : Ty} {v : Value} (h : TyAt w t v) (hb : Below w.heap.size w w') : TyAt w' t v := by
  induction h with
  | bare k n a cap => exact .bare k n a cap
  | row k n ks b o cap vs hbl hl h0 h1 h2 _ ih =>
    refine .row k n ks b o cap vs (Nat.lt_of_lt_of_le hbl hb.size) hl ?_ ?_ ?_ ih
    · intro i hi; rw [hb.cell (p := ⟨b, o + i * 3, none⟩) hbl]; exact h0 i hi
    · intro i hi; rw [hb.cell (p := ⟨b, o + i * 3 + 1, none⟩) hbl]; exact h1 i hi
    · intro i hi; rw [hb.cell (p := ⟨b, o + i * 3 + 2, none⟩) hbl]; exact h2 i hi
theorem Ty.kid_lt (t : Ty) (i : Nat) (hi : i < t.ks.length) : SizeOf.sizeOf (t.ks.getD i Ty.dummy) < SizeOf.sizeOf t := by
  cases t with
  | node k n ks =>
    show SizeOf.sizeOf (ks.getD i Ty.dummy) < _
    have hi' : i < ks.length := hi
    have e : ks.getD i Ty.dummy = ks[i] := by simp [List.getD, hi']
    rw [e]
    have := List.sizeOf_lt_of_mem (List.getElem_mem hi')
    simp
    omega
open Classical in
/-- Whether two types are the same. -/
noncomputable def sameB (x y : Ty) : Bool := decide (x = y)
open Classical in
theorem sameB_no {x y : Ty} (h : x ≠ y) : sameB x y = false := by unfold sameB; exact decide_eq_false h
open Classical in
theorem sameB_yes {x y : Ty} (h : x = y) : sameB x y = true := by unfold sameB; exact decide_eq_true h
theorem same_all {x y : Ty} (hk : x.k = y.k) (hn : x.n = y.n) (hl : x.ks.length = y.ks.length) (h : ∀ i, i < x.ks.length → x.ks.getD i Ty.dummy = y.ks.getD i Ty.dummy) : x = y := by
  cases x with
  | node k n ks =>
    cases y with
    | node k' n' ks' =>
      simp only [Ty.k, Ty.n, Ty.ks] at *
      subst hk; subst hn
      congr
      apply List.ext_getElem hl
      intro i h1 h2
      have := h i h1
      simpa [List.getD, h1, h2] using this
theorem same_not {x y : Ty} {i : Nat} (h : x.ks.getD i Ty.dummy ≠ y.ks.getD i Ty.dummy) : x ≠ y := fun e => h (by rw [e])
/-- One operand, as the walk reads it. -/
theorem TyAt.kid {w : World} {t : Ty} {v : Value} (h : TyAt w t v) (i : Nat) (hi : i < t.ks.length) : ∃ b o cap vi, v = .slice (some ⟨b, o, none⟩) t.ks.length cap ∧ b < w.heap.size ∧
    w.cell? ⟨b, o + i * 3, none⟩ = some (.int .i64 (t.ks.getD i Ty.dummy).k) ∧ w.cell? ⟨b, o + i * 3 + 1, none⟩ = some (.int .i64 (t.ks.getD i Ty.dummy).n) ∧ w.cell? ⟨b, o + i * 3 + 2, none⟩ = some vi ∧ TyAt w (t.ks.getD i Ty.dummy) vi := by
  cases h with
  | bare k n a cap => exact absurd hi (Nat.not_lt_zero _)
  | row k n ks b o cap vs hb hl h0 h1 h2 h3 => exact ⟨b, o, cap, vs i, rfl, hb, h0 i hi, h1 i hi, h2 i hi, h3 i hi⟩
theorem TyAt.slice {w : World} {t : Ty} {v : Value} (h : TyAt w t v) : ∃ a cap, v = .slice a t.ks.length cap ∧ t.ks.length ≤ 9223372036854775807 := by
  cases h with
  | bare k n a cap => exact ⟨a, cap, rfl, Nat.zero_le _⟩
  | row k n ks b o cap vs hb hl h0 h1 h2 h3 => exact ⟨_, cap, rfl, hl⟩

end Go.Proofs.Ytjhccdioainibaa

namespace Go.Proofs.Ytjhccdioainibaa
open Go.RowKit

theorem cellEq {W W' : World} {b i : Nat} (h : W'.heap[b]? = W.heap[b]?) : W'.cell? ⟨b, i, none⟩ = W.cell? ⟨b, i, none⟩ := by simp [World.cell?, h]
theorem frozenEq {W W' : World} {b i : Nat} (h : W'.heap[b]? = W.heap[b]?) : W'.frozen? ⟨b, i, none⟩ = W.frozen? ⟨b, i, none⟩ := by simp [World.frozen?, h]

/-- A plain block: nothing of it is frozen. -/
structure Row (w : World) (b : Nat) : Prop where
  lt : b < w.heap.size
  pl : ∃ C T, w.heap[b]? = some (.cells C T (0, 0))
theorem Row.keep {w w' : World} {b : Nat} (h : Row w b) (hs : w.heap.size ≤ w'.heap.size) (e : w'.heap[b]? = w.heap[b]?) : Row w' b := ⟨Nat.lt_of_lt_of_le h.lt hs, by obtain ⟨C, T, h⟩ := h.pl; exact ⟨C, T, e.trans h⟩⟩
theorem row_at {W : World} {b : Nat} {C : Array Value} {T : TypeId} (h : W.heap.size = b) : Row (W.alloc (.cells C T)) b := by
  subst h; exact ⟨by simp, C, T, heap_alloc_new W _⟩
/-- The type's rows lie in blocks from lo to hi, each in a block of its own, and may be written. -/
inductive TyIn (w : World) : Nat → Nat → Ty → Value → Prop where
  | bare (lo hi : Nat) (k n : Int) (a : Option Addr) (cap : Nat) : TyIn w lo hi (.node k n []) (.slice a 0 cap)
  | row (lo hi : Nat) (k n : Int) (ks : List Ty) (b cap : Nat) (vs : Nat → Value) (l h : Nat → Nat) (hb1 : lo ≤ b) (hb2 : b < hi) (hw : Row w b) (hl : ks.length ≤ 9223372036854775807)
      (h0 : ∀ i, i < ks.length → w.cell? ⟨b, i * 3, none⟩ = some (.int .i64 (ks.getD i Ty.dummy).k))
      (h1 : ∀ i, i < ks.length → w.cell? ⟨b, i * 3 + 1, none⟩ = some (.int .i64 (ks.getD i Ty.dummy).n))
      (h2 : ∀ i, i < ks.length → w.cell? ⟨b, i * 3 + 2, none⟩ = some (vs i))
      (hf : ∀ i, i < ks.length * 3 → w.frozen? ⟨b, i, none⟩ = false)
      (hin : ∀ i, i < ks.length → lo ≤ l i ∧ h i ≤ hi ∧ (b < l i ∨ h i ≤ b))
      (hd : ∀ i j, i < j → j < ks.length → h i ≤ l j)
      (h3 : ∀ i, i < ks.length → TyIn w (l i) (h i) (ks.getD i Ty.dummy) (vs i)) : TyIn w lo hi (.node k n ks) (.slice (some ⟨b, 0, none⟩) ks.length cap)
theorem TyIn.at {w : World} {lo hi : Nat} {t : Ty} {v : Value} (h : TyIn w lo hi t v) : TyAt w t v := by
  induction h with
  | bare lo hi k n a cap => exact .bare k n a cap
  | row lo hi k n ks b cap vs l h hb1 hb2 hw hl h0 h1 h2 hf hin hd _ ih =>
    exact .row k n ks b 0 cap vs hw.lt hl (fun i hi => by rw [Nat.zero_add]; exact h0 i hi) (fun i hi => by rw [Nat.zero_add]; exact h1 i hi) (fun i hi => by rw [Nat.zero_add]; exact h2 i hi) ih
/-- What lies elsewhere does not matter. -/
theorem TyIn.keep {w w' : World} {lo hi : Nat} {t : Ty} {v : Value} (h : TyIn w lo hi t v) (hs : w.heap.size ≤ w'.heap.size) (hk : ∀ b, lo ≤ b → b < hi → b < w.heap.size → w'.heap[b]? = w.heap[b]?) : TyIn w' lo hi t v := by
  induction h with
  | bare lo hi k n a cap => exact .bare lo hi k n a cap
  | row lo hi k n ks b cap vs l h hb1 hb2 hw hl h0 h1 h2 hf hin hd _ ih =>
    have e := hk b hb1 hb2 hw.lt
    refine .row lo hi k n ks b cap vs l h hb1 hb2 (hw.keep hs e) hl (fun i hi => (cellEq e).trans (h0 i hi)) (fun i hi => (cellEq e).trans (h1 i hi)) (fun i hi => (cellEq e).trans (h2 i hi)) (fun i hi => (frozenEq e).trans (hf i hi)) hin hd ?_
    intro i hi
    obtain ⟨a1, a2, _⟩ := hin i hi
    exact ih i hi (fun b h1 h2 h3 => hk b (by omega) (by omega) h3)
theorem TyIn.kept {w w' : World} {lo hi : Nat} {t : Ty} {v : Value} (h : TyIn w lo hi t v) (hb : Below w.heap.size w w') : TyIn w' lo hi t v :=
  h.keep hb.size (fun b _ _ h3 => hb.block b h3)
theorem TyIn.wide {w : World} {lo hi lo' hi' : Nat} {t : Ty} {v : Value} (h : TyIn w lo hi t v) (h1 : lo' ≤ lo) (h2 : hi ≤ hi') : TyIn w lo' hi' t v := by
  cases h with
  | bare lo hi k n a cap => exact .bare lo' hi' k n a cap
  | row lo hi k n ks b cap vs l h hb1 hb2 hw hl g0 g1 g2 hf hin hd h3 =>
    refine .row lo' hi' k n ks b cap vs l h (by omega) (by omega) hw hl g0 g1 g2 hf (fun i hi => ?_) hd h3
    obtain ⟨a1, a2, a3⟩ := hin i hi
    exact ⟨by omega, by omega, a3⟩
/-- A type whose two operands have just been laid in a row. -/
theorem TyIn.pair {w : World} {lo hi b cap : Nat} {k n : Int} {x y : Ty} {vx vy : Value} {l h l' h' : Nat} (hx : TyIn w l h x vx) (hy : TyIn w l' h' y vy) (hb1 : lo ≤ b) (hb2 : b < hi) (hw : Row w b)
    (c0 : w.cell? ⟨b, 0, none⟩ = some (.int .i64 x.k)) (c1 : w.cell? ⟨b, 1, none⟩ = some (.int .i64 x.n)) (c2 : w.cell? ⟨b, 2, none⟩ = some vx)
    (c3 : w.cell? ⟨b, 3, none⟩ = some (.int .i64 y.k)) (c4 : w.cell? ⟨b, 4, none⟩ = some (.int .i64 y.n)) (c5 : w.cell? ⟨b, 5, none⟩ = some vy)
    (hf : ∀ i, i < 6 → w.frozen? ⟨b, i, none⟩ = false) (hl : lo ≤ l) (hh : h ≤ hi) (hl' : lo ≤ l') (hh' : h' ≤ hi) (hb : b < l ∨ h ≤ b) (hb' : b < l' ∨ h' ≤ b) (hd : h ≤ l') :
    TyIn w lo hi (.node k n [x, y]) (.slice (some ⟨b, 0, none⟩) 2 cap) := by
  refine .row lo hi k n [x, y] b cap (fun i => if i = 0 then vx else vy) (fun i => if i = 0 then l else l') (fun i => if i = 0 then h else h') hb1 hb2 hw (by simp) ?_ ?_ ?_ ?_ ?_ ?_ ?_
  · intro i hi
    have hi : i < 2 := hi
    obtain rfl | rfl : i = 0 ∨ i = 1 := by omega
    · exact c0
    · exact c3
  · intro i hi
    have hi : i < 2 := hi
    obtain rfl | rfl : i = 0 ∨ i = 1 := by omega
    · exact c1
    · exact c4
  · intro i hi
    have hi : i < 2 := hi
    obtain rfl | rfl : i = 0 ∨ i = 1 := by omega
    · exact c2
    · exact c5
  · intro i hi; exact hf i hi
  · intro i hi
    have hi : i < 2 := hi
    obtain rfl | rfl : i = 0 ∨ i = 1 := by omega
    · exact ⟨hl, hh, hb⟩
    · exact ⟨hl', hh', hb'⟩
  · intro i j hij hj
    have hj : j < 2 := hj
    obtain ⟨rfl, rfl⟩ : i = 0 ∧ j = 1 := by omega
    exact hd
  · intro i hi
    have hi : i < 2 := hi
    obtain rfl | rfl : i = 0 ∨ i = 1 := by omega
    · exact hx
    · exact hy

/-- The operands of t' are those of t, numbered from k on; k' comes next. -/
inductive Mk : Int → Ty → Ty → Int → Prop where
  | node (k n k' n' : Int) (ks ks' : List Ty) (c : Nat → Int) (hl : ks'.length = ks.length)
      (hk : ∀ i, i < ks.length → (ks'.getD i Ty.dummy).k = c i) (hn : ∀ i, i < ks.length → (ks'.getD i Ty.dummy).n = c i + 1)
      (h : ∀ i, i < ks.length → Mk (c i + 2) (ks.getD i Ty.dummy) (ks'.getD i Ty.dummy) (c (i + 1))) : Mk (c 0) (.node k n ks) (.node k' n' ks') (c ks.length)
/-- The type lies in plain blocks. -/
inductive TyOk (w : World) : Ty → Value → Prop where
  | bare (k n : Int) (a : Option Addr) (cap : Nat) : TyOk w (.node k n []) (.slice a 0 cap)
  | row (k n : Int) (ks : List Ty) (b o cap : Nat) (vs : Nat → Value) (hr : Row w b) (hl : ks.length ≤ 9223372036854775807)
      (h0 : ∀ i, i < ks.length → w.cell? ⟨b, o + i * 3, none⟩ = some (.int .i64 (ks.getD i Ty.dummy).k))
      (h1 : ∀ i, i < ks.length → w.cell? ⟨b, o + i * 3 + 1, none⟩ = some (.int .i64 (ks.getD i Ty.dummy).n))
      (h2 : ∀ i, i < ks.length → w.cell? ⟨b, o + i * 3 + 2, none⟩ = some (vs i))
      (h3 : ∀ i, i < ks.length → TyOk w (ks.getD i Ty.dummy) (vs i)) : TyOk w (.node k n ks) (.slice (some ⟨b, o, none⟩) ks.length cap)
theorem TyOk.at {w : World} {t : Ty} {v : Value} (h : TyOk w t v) : TyAt w t v := by
  induction h with
  | bare k n a cap => exact .bare k n a cap
  | row k n ks b o cap vs hr hl h0 h1 h2 _ ih => exact .row k n ks b o cap vs hr.lt hl h0 h1 h2 ih
theorem TyOk.kept {w w' : World} {t : Ty} {v : Value} (h : TyOk w t v) (hb : Below w.heap.size w w') : TyOk w' t v := by
  induction h with
  | bare k n a cap => exact .bare k n a cap
  | row k n ks b o cap vs hr hl h0 h1 h2 _ ih =>
    refine .row k n ks b o cap vs (hr.keep hb.size (hb.block b hr.lt)) hl ?_ ?_ ?_ ih
    · intro i hi; rw [hb.cell (p := ⟨b, o + i * 3, none⟩) hr.lt]; exact h0 i hi
    · intro i hi; rw [hb.cell (p := ⟨b, o + i * 3 + 1, none⟩) hr.lt]; exact h1 i hi
    · intro i hi; rw [hb.cell (p := ⟨b, o + i * 3 + 2, none⟩) hr.lt]; exact h2 i hi
theorem TyIn.ok {w : World} {lo hi : Nat} {t : Ty} {v : Value} (h : TyIn w lo hi t v) : TyOk w t v := by
  induction h with
  | bare lo hi k n a cap => exact .bare k n a cap
  | row lo hi k n ks b cap vs l h hb1 hb2 hw hl h0 h1 h2 hf hin hd _ ih =>
    exact .row k n ks b 0 cap vs hw hl (fun i hi => by rw [Nat.zero_add]; exact h0 i hi) (fun i hi => by rw [Nat.zero_add]; exact h1 i hi) (fun i hi => by rw [Nat.zero_add]; exact h2 i hi) ih

end Go.Proofs.Ytjhccdioainibaa

namespace Go.Proofs.Ytjhccdioainibaa
open Go.RowKit

/-- How many nodes lie below a node. -/
inductive Cnt : Ty → Nat → Prop where
  | node (k n : Int) (ks : List Ty) (c : Nat → Nat) (h : ∀ i, i < ks.length → Cnt (ks.getD i Ty.dummy) (c i)) : Cnt (.node k n ks) (ks.length + ((List.range ks.length).map c).sum)
theorem cnt_total : ∀ (m : Nat) (t : Ty), SizeOf.sizeOf t < m → ∃ c, Cnt t c := by
  intro m
  induction m with
  | zero => intro t h; exact absurd h (Nat.not_lt_zero _)
  | succ m ih =>
    intro t h
    cases t with
    | node k n ks =>
      have step : ∀ i, i < ks.length → ∃ c, Cnt (ks.getD i Ty.dummy) c := fun i hi => ih _ (by
        have := Ty.kid_lt (.node k n ks) i hi
        have e : (Ty.node k n ks).ks = ks := rfl
        rw [e] at this
        omega)
      obtain ⟨c, hc⟩ := Go.Deep.choose_lt step
      exact ⟨_, .node k n ks c hc⟩
theorem sum_succ (c : Nat → Nat) (k : Nat) : ((List.range (k + 1)).map c).sum = ((List.range k).map c).sum + c k := by
  rw [List.range_succ, List.map_append, List.sum_append]; simp
theorem sum_mono (c : Nat → Nat) {k l : Nat} (h : k ≤ l) : ((List.range k).map c).sum ≤ ((List.range l).map c).sum := by
  induction h with
  | refl => exact Nat.le_refl _
  | step _ ih => rw [sum_succ]; omega

/-- What is left of l, c nodes being taken away. -/
def LeftOf (l : Int) (c : Nat) : Int := if (c : Int) ≤ l then l - c else -1
def SzPost (l : Int) (c : Nat) (w : World) (e : Ending) (w' : World) : Prop := e = .returned (.int .i64 (LeftOf l c)) ∧ Below w.heap.size w w'
theorem leftOf_yes {l : Int} {c : Nat} (h : (c : Int) ≤ l) : LeftOf l c = l - c := by unfold LeftOf; rw [if_pos h]
theorem leftOf_no {l : Int} {c : Nat} (h : ¬ (c : Int) ≤ l) : LeftOf l c = -1 := by unfold LeftOf; rw [if_neg h]
theorem ret_i {a b : Int} (h : a = b) : Ending.returned (.int .i64 a) = .returned (.int .i64 b) := by rw [h]

set_option maxRecDepth 100000 in
set_option maxHeartbeats 2000000 in
theorem szTypeS_of (t : Ty) (c : Nat → Nat) (v : Value) (l : Int) (w : World) (hx : TyAt w t v) (h0 : 0 ≤ l) (h1 : l ≤ 1048576)
    (H : ∀ i, i < t.ks.length → ∀ (r : Int) (vi : Value) (W : World), 0 ≤ r → r ≤ 1048576 → TyAt W (t.ks.getD i Ty.dummy) vi →
      Calls Try.prog 8 #[.agg #[.int .i64 (t.ks.getD i Ty.dummy).k, .int .i64 (t.ks.getD i Ty.dummy).n, vi], .int .i64 r] W (SzPost r (c i) W)) :
    Calls Try.prog 22 #[v, .int .i64 l] w (SzPost l (t.ks.length + ((List.range t.ks.length).map c).sum) w) := by
  have HX := Lib.hid hx
  have HH := Lib.hid H
  obtain ⟨a, cap, rfl, hlen⟩ := hx.slice
  clear hx H
  obtain ⟨L, hL⟩ : ∃ L, t.ks.length = L := ⟨_, rfl⟩
  have HL := Lib.hid hL
  rw [hL] at hlen ⊢
  clear hL
  by_cases hll : (L : Int) ≤ l
  case neg =>
    have HS := Lib.hid (leftOf_no (l := l) (c := L + ((List.range L).map c).sum) (by push_cast; omega))
    have hneg : l - (L : Int) < 0 := by omega
    go_enter Try.func22, Try.ntmps22
    go_wp2
    go_ret
    exact ⟨ret_i HS.out.symm, Below.refl _ _⟩
  have hnn : ¬ l - (L : Int) < 0 := by omega
  go_enter Try.func22, Try.ntmps22
  go_wp2
  go_loopw [1, 5] (fun lv i wr => ∃ (k : Nat) (r : Int), k ≤ L ∧ i = .int .i64 k ∧ lv = .int .i64 r ∧ 0 ≤ r ∧ r ≤ 1048576 ∧ Hid (r = l - L - ((List.range k).map c).sum) ∧ Below w.heap.size w wr) (fun _ i _ => L - (intOf i).toNat)
  case atStart => exact ⟨0, l - L, Nat.zero_le _, rfl, rfl, by omega, by omega, Lib.hid (by simp), Below.refl _ _⟩
  case round =>
    obtain ⟨k, r, hk, rfl, rfl, r0, r1, hr, hB⟩ := hrel
    have HB := Lib.hid hB
    clear hB
    by_cases hlt : k < L
    · have hki : (k : Int) < (L : Int) := by omega
      obtain ⟨b, o, cap2, vi, ex, bl, x0, x1, x2, hkid⟩ := (HX.out.kept HB.out).kid k (by rw [HL.out]; exact hlt)
      have ex1 : a = some ⟨b, o, none⟩ := by injection ex
      subst ex1
      clear ex
      have HKID := Lib.hid hkid
      have hsk := sum_mono c (show k + 1 ≤ L by omega)
      rw [sum_succ] at hsk
      have HSK := Lib.hid hsk
      clear hkid hsk
      by_cases hc : (c k : Int) ≤ r
      · have HP := Lib.hid (leftOf_yes hc)
        have hcn : 0 ≤ r - (c k : Int) := by omega
        go_wp2_with fail
        go_at_call 8
        refine (HH.out k (by rw [HL.out]; exact hlt) r vi _ r0 r1 HKID.out).mono ?_
        rintro e w2 ⟨rfl, hb2⟩
        rw [HP.out]
        have HB2 := Lib.hid (HB.out.trans (hb2.mono HB.out.size))
        clear hb2
        go_wp2_with fail
        go_roundw
        case rel => exact ⟨k + 1, r - c k, by omega, by go_num, rfl, hcn, by omega, Lib.hid (by rw [sum_succ, hr.out]; push_cast; omega), HB2.out⟩
        case measure => simp [intOf]; omega
      · have HP := Lib.hid (leftOf_no hc)
        have HS := Lib.hid (leftOf_no (l := l) (c := L + ((List.range L).map c).sum) (by
          have h1 := HSK.out
          have h2 := hr.out
          push_cast
          omega))
        go_wp2_with fail
        go_at_call 8
        refine (HH.out k (by rw [HL.out]; exact hlt) r vi _ r0 r1 HKID.out).mono ?_
        rintro e w2 ⟨rfl, hb2⟩
        rw [HP.out]
        have HB2 := Lib.hid (HB.out.trans (hb2.mono HB.out.size))
        clear hb2
        go_wp2_with fail
        go_ret
        exact ⟨ret_i HS.out.symm, HB2.out⟩
    · have hki : ¬ (k : Int) < (L : Int) := by omega
      have hkl : k = L := by omega
      have HS := Lib.hid (leftOf_yes (l := l) (c := L + ((List.range L).map c).sum) (by have h2 := hr.out; rw [hkl] at h2; push_cast; omega))
      have HR : Hid (r = l - ((L + ((List.range L).map c).sum : Nat) : Int)) := Lib.hid (by have h2 := hr.out; rw [hkl] at h2; push_cast; omega)
      clear hlt hkl
      go_wp2_with fail
      go_ret
      exact ⟨ret_i (by rw [HS.out, HR.out]), HB.out⟩

set_option maxRecDepth 100000 in
set_option maxHeartbeats 1000000 in
theorem szType_any (m : Nat) : ∀ (t : Ty) (n : Nat) (v : Value) (l : Int) (w : World), SizeOf.sizeOf t < m → Cnt t n → TyAt w t v → 0 ≤ l → l ≤ 1048576 →
    Calls Try.prog 8 #[.agg #[.int .i64 t.k, .int .i64 t.n, v], .int .i64 l] w (SzPost l n w) := by
  induction m with
  | zero => intro t n v l w h; exact absurd h (Nat.not_lt_zero _)
  | succ m ih =>
    intro t n v l w hm hc hx h0 h1
    obtain ⟨c, rfl, hcs⟩ : ∃ c : Nat → Nat, n = t.ks.length + ((List.range t.ks.length).map c).sum ∧ ∀ i, i < t.ks.length → Cnt (t.ks.getD i Ty.dummy) (c i) := by
      cases hc with
      | node k n ks c h => exact ⟨c, rfl, h⟩
    have HX := Lib.hid hx
    have HC := Lib.hid hcs
    have HM := Lib.hid hm
    obtain ⟨a, cap, rfl, hlen⟩ := hx.slice
    obtain ⟨N, hN⟩ : ∃ N, t.ks.length + ((List.range t.ks.length).map c).sum = N := ⟨_, rfl⟩
    have HN := Lib.hid hN
    have HSZ := fun (W : World) (hb : Below w.heap.size w W) => szTypeS_of t c _ l W (HX.out.kept hb) h0 h1 (fun i hi r vi W' r0 r1 hk => ih _ _ vi r W' (by have := Ty.kid_lt t i hi; omega) (HC.out i hi) hk r0 r1)
    rw [hN] at HSZ ⊢
    have HZ := Lib.hid HSZ
    clear HSZ hN hx hcs hm hc
    by_cases hle : (N : Int) ≤ l
    · have HP := Lib.hid (leftOf_yes hle)
      have hnn : 0 ≤ l - (N : Int) := by omega
      go_enter Try.func8, Try.ntmps8
      go_wp2_with fail
      go_at_call 22
      refine (HZ.out _ ((Below.refl _ _).alloc (Nat.le_refl _) _)).mono ?_
      rintro e w2 ⟨rfl, hb2⟩
      rw [HP.out]
      have HB2 : Hid (Below w.heap.size w w2) := Lib.hid (((Below.refl _ _).alloc (Nat.le_refl _) _).trans (hb2.mono (by simp)))
      clear hb2
      go_wp2_with fail
      go_ret
      exact ⟨ret_i HP.out.symm, HB2.out⟩
    · have HP := Lib.hid (leftOf_no hle)
      go_enter Try.func8, Try.ntmps8
      go_wp2_with fail
      go_at_call 22
      refine (HZ.out _ ((Below.refl _ _).alloc (Nat.le_refl _) _)).mono ?_
      rintro e w2 ⟨rfl, hb2⟩
      rw [HP.out]
      have HB2 : Hid (Below w.heap.size w w2) := Lib.hid (((Below.refl _ _).alloc (Nat.le_refl _) _).trans (hb2.mono (by simp)))
      clear hb2
      go_wp2_with fail
      go_ret
      exact ⟨ret_i HP.out.symm, HB2.out⟩

end Go.Proofs.Ytjhccdioainibaa
