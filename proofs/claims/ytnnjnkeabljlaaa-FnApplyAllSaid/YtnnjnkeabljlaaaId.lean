/-
  What TransformEdit, EditsClash and MergeEdits return, in the program and in the model: for every text of at most maxLen bytes and any two edits; what was in memory stays.
-/
import Derived.Test.YtnnjnkeabljlaaaProg
import Derived.Test.YtnnjnkeabljlaaaIb
import Derived.Deep.RegionWith
namespace Go.Proofs.Ytnnjnkeabljlaaa
open Go.RowKit
set_option linter.unusedVariables false
set_option linter.unusedSimpArgs false

theorem sizeE (w : World) (o : Obj) : (w.alloc o).heap.size = w.heap.size + 1 := by simp
/-- Two edits in variables of their own. -/
structure TA (v w : World) (f t : Int) (i : ByteArray) (g u : Int) (j : ByteArray) : Prop where
  a : EdAt w v.heap.size f t i
  b : EdAt w (v.heap.size + 1) g u j
  bel : Below v.heap.size v w
theorem TA.below {v w w' : World} {f t : Int} {i : ByteArray} {g u : Int} {j : ByteArray} (h : TA v w f t i g u j) (hb : Below w.heap.size w w') : TA v w' f t i g u j :=
  ⟨h.a.below hb, h.b.below hb, h.bel.trans (hb.mono h.bel.size)⟩
theorem TA.drew {v w : World} {f t : Int} {i : ByteArray} {g u : Int} {j : ByteArray} (h : TA v w f t i g u j) : TA v w.drew f t i g u j := ⟨h.a.drew, h.b.drew, h.bel.drew⟩
theorem TA.new (w : World) (f t : Int) (i : ByteArray) (g u : Int) (j : ByteArray) : TA w ((w.alloc (.cells #[.int .i64 f, .int .i64 t, .string i] 30)).alloc (.cells #[.int .i64 g, .int .i64 u, .string j] 30)) f t i g u j := by
  refine ⟨(edAt_new w f t i 30).below ((Below.refl _ _).alloc (Nat.le_refl _) _), ?_, ((Below.refl _ _).alloc (Nat.le_refl _) _).alloc (by simp) _⟩
  have h := edAt_new (w.alloc (.cells #[.int .i64 f, .int .i64 t, .string i] 30)) g u j 30
  rw [sizeE] at h
  exact h
/-- Two edits, and an empty one behind them, in variables of their own. -/
structure TB (v w : World) (f t : Int) (i : ByteArray) (g u : Int) (j : ByteArray) : Prop where
  a : EdAt w v.heap.size f t i
  b : EdAt w (v.heap.size + 1) g u j
  z : EdAt w (v.heap.size + 1 + 1) 0 0 ⟨#[]⟩
  bel : Below v.heap.size v w
theorem TB.below {v w w' : World} {f t : Int} {i : ByteArray} {g u : Int} {j : ByteArray} (h : TB v w f t i g u j) (hb : Below w.heap.size w w') : TB v w' f t i g u j :=
  ⟨h.a.below hb, h.b.below hb, h.z.below hb, h.bel.trans (hb.mono h.bel.size)⟩
theorem TB.drew {v w : World} {f t : Int} {i : ByteArray} {g u : Int} {j : ByteArray} (h : TB v w f t i g u j) : TB v w.drew f t i g u j := ⟨h.a.drew, h.b.drew, h.z.drew, h.bel.drew⟩
theorem TB.new (w : World) (f t : Int) (i : ByteArray) (g u : Int) (j : ByteArray) : TB w (((w.alloc (.cells #[.int .i64 f, .int .i64 t, .string i] 30)).alloc (.cells #[.int .i64 g, .int .i64 u, .string j] 30)).alloc (.cells #[.int .i64 0, .int .i64 0, .string ⟨#[]⟩] 30)) f t i g u j := by
  have h0 := (TA.new w f t i g u j).below (w' := ((w.alloc (.cells #[.int .i64 f, .int .i64 t, .string i] 30)).alloc (.cells #[.int .i64 g, .int .i64 u, .string j] 30)).alloc (.cells #[.int .i64 0, .int .i64 0, .string ⟨#[]⟩] 30)) ((Below.refl _ _).alloc (Nat.le_refl _) _)
  refine ⟨h0.a, h0.b, ?_, h0.bel⟩
  have h := edAt_new ((w.alloc (.cells #[.int .i64 f, .int .i64 t, .string i] 30)).alloc (.cells #[.int .i64 g, .int .i64 u, .string j] 30)) 0 0 ⟨#[]⟩ 30
  rw [sizeE, sizeE] at h
  exact h
/-- The same, and one more edit in a variable at block X. -/
structure TM (v w : World) (X : Nat) (f t : Int) (i : ByteArray) (g u : Int) (j : ByteArray) (p q : Int) (k : ByteArray) : Prop where
  a : EdAt w v.heap.size f t i
  b : EdAt w (v.heap.size + 1) g u j
  z : EdAt w (v.heap.size + 1 + 1) 0 0 ⟨#[]⟩
  m : EdAt w X p q k
  x : v.heap.size + 1 + 1 < X
  bel : Below v.heap.size v w
theorem TM.below {v w w' : World} {X : Nat} {f t : Int} {i : ByteArray} {g u : Int} {j : ByteArray} {p q : Int} {k : ByteArray} (h : TM v w X f t i g u j p q k) (hb : Below w.heap.size w w') : TM v w' X f t i g u j p q k :=
  ⟨h.a.below hb, h.b.below hb, h.z.below hb, h.m.below hb, h.x, h.bel.trans (hb.mono h.bel.size)⟩
theorem TM.drew {v w : World} {X : Nat} {f t : Int} {i : ByteArray} {g u : Int} {j : ByteArray} {p q : Int} {k : ByteArray} (h : TM v w X f t i g u j p q k) : TM v w.drew X f t i g u j p q k := ⟨h.a.drew, h.b.drew, h.z.drew, h.m.drew, h.x, h.bel.drew⟩
theorem TM.set0 {v w : World} {X : Nat} {f t : Int} {i : ByteArray} {g u : Int} {j : ByteArray} {p q : Int} {k : ByteArray} (h : TM v w X f t i g u j p q k) (n : Int) : TM v (w.setCell ⟨X, 0, none⟩ (.int .i64 n)) X f t i g u j n q k := by
  have hx := h.x
  exact ⟨h.a.other (by omega) _ _, h.b.other (by omega) _ _, h.z.other (by omega) _ _, h.m.set0 n, hx, h.bel.setCell (p := ⟨X, 0, none⟩) (by show v.heap.size ≤ X; omega) _⟩
theorem TM.set1 {v w : World} {X : Nat} {f t : Int} {i : ByteArray} {g u : Int} {j : ByteArray} {p q : Int} {k : ByteArray} (h : TM v w X f t i g u j p q k) (n : Int) : TM v (w.setCell ⟨X, 1, none⟩ (.int .i64 n)) X f t i g u j p n k := by
  have hx := h.x
  exact ⟨h.a.other (by omega) _ _, h.b.other (by omega) _ _, h.z.other (by omega) _ _, h.m.set1 n, hx, h.bel.setCell (p := ⟨X, 1, none⟩) (by show v.heap.size ≤ X; omega) _⟩
theorem TB.more {v w : World} {f t : Int} {i : ByteArray} {g u : Int} {j : ByteArray} (h : TB v w f t i g u j) (p q : Int) (k : ByteArray) : TM v (w.alloc (.cells #[.int .i64 p, .int .i64 q, .string k] 30)) w.heap.size f t i g u j p q k := by
  have hb : Below w.heap.size w (w.alloc (.cells #[.int .i64 p, .int .i64 q, .string k] 30)) := (Below.refl _ _).alloc (Nat.le_refl _) _
  exact ⟨h.a.below hb, h.b.below hb, h.z.below hb, edAt_new w p q k _, h.z.sz, h.bel.trans (hb.mono h.bel.size)⟩

theorem mv_range {f t g u : Int} {j : ByteArray} {c : Bool} (k0 : 0 ≤ g) (k1 : g ≤ u) (k2 : u ≤ 2000) (hj : j.size ≤ 2000) : -2000 ≤ mv f t g u j c ∧ mv f t g u j c ≤ 2000 := by
  unfold mv grw
  rcases bhB f t g u c with _ | _
  · simp
  · simp only [if_true]; omega
theorem applied_at (s : ByteArray) (f t : Int) (i y : ByteArray) (hy : ap s f t i = y) (h0 : 0 ≤ f) (h1 : f ≤ t) (h2 : t ≤ s.size) (hs : s.size ≤ 2000) (hi : i.size ≤ 2000) (w : World) :
    Calls Try.prog 22 #[.agg #[.int .i64 f, .int .i64 t, .string i], .string s] w fun e w' => e = .returned (.string y) ∧ Below w.heap.size w w' := by
  subst hy; exact applied_any s f t i h0 h1 h2 hs hi w
theorem l1Apply_at (s : ByteArray) (f t : Int) (i y : ByteArray) (hy : ap s f t i = y) (h0 : 0 ≤ f) (h1 : f ≤ t) (h2 : t ≤ s.size) (hs : s.size ≤ 2000) (hi : i.size ≤ 2000) (w : World) :
    Calls Try.prog 23 #[.string s, .agg #[.int .i64 f, .int .i64 t, .string i]] w fun e w' => e = .returned (.string y) ∧ Below w.heap.size w w' := by
  subst hy; exact l1Apply_any s f t i h0 h1 h2 hs hi w
end Go.Proofs.Ytnnjnkeabljlaaa
