/-
  A node of operands that lie in a row: they are copied into a new row.
-/
import Derived.Test.YtpaefcdchaemfaaWg
namespace Go.Proofs.Ytpaefcdchaemfaa
open Go.RowKit Go.Proofs.Ytpaefcdchaemfaa.Ox
set_option linter.unusedVariables false
set_option linter.unusedSimpArgs false

theorem put5_size (W : World) (B : Nat) (a b c d e : Value) : (put5 W B a b c d e).heap.size = W.heap.size := by simp [put5]
theorem put5_heapH {W : World} {B q : Nat} (h : q ≠ B) (a b c d e : Value) : (put5 W B a b c d e).heap[q]? = W.heap[q]? := by
  unfold put5
  rw [Below.heap_setCell _ _ _ _ (show q ≠ B from h), Below.heap_setCell _ _ _ _ (show q ≠ B from h), Below.heap_setCell _ _ _ _ (show q ≠ B from h), Below.heap_setCell _ _ _ _ (show q ≠ B from h), Below.heap_setCell _ _ _ _ (show q ≠ B from h)]
theorem size_alloc1X (w : World) (o : Obj) : (w.alloc o).heap.size = w.heap.size + 1 := by simp
theorem fives_len : ∀ L : List XV, (fives L).length = L.length * 5
  | [] => rfl
  | p :: L => by
    have := fives_len L
    have e : fives (p :: L) = fiveX p ++ fives L := rfl
    rw [e, List.length_append, this]
    show 5 + L.length * 5 = (L.length + 1) * 5
    omega
/-- What l3Node returns. -/
def NdPost (lo : Nat) (k : Int) (xs : List Ex) (w : World) (e : Ending) (w' : World) : Prop :=
  ∃ g c, e = .returned (.agg #[.int .i64 k, .int .i64 0, .string ⟨#[]⟩, .string ⟨#[]⟩, .slice (some ⟨g, 0, none⟩) xs.length c]) ∧ ExIn w' lo w'.heap.size (.node k 0 e0 e0 xs) (.slice (some ⟨g, 0, none⟩) xs.length c) ∧ Below w.heap.size w w'
set_option maxRecDepth 100000 in
set_option maxHeartbeats 4000000 in
theorem l3Node_any (k : Int) (L : List XV) (n : Nat) (hn : L.length = n) (hn0 : 0 < n) (hn3 : n ≤ 3) (h1 : ∀ u ∈ fives L, u.oneCell' = true) (b cap lo : Nat) (l h : Nat → Nat) (w : World) (hb : b < w.heap.size)
    (hc : ∀ j u, (fives L)[j]? = some u → w.cell? ((⟨b, 0, none⟩ : Addr).add j) = some u) (hlo : lo ≤ w.heap.size)
    (ra : ∀ i, i < n → lo ≤ l i ∧ h i ≤ w.heap.size) (di : ∀ i j, i < j → j < n → h i ≤ l j) (el : ∀ i, i < n → ExIn w (l i) (h i) (L.getD i XV.dummy).1 (L.getD i XV.dummy).2) :
    Calls Try.prog 25 #[.int .i64 k, .slice (some ⟨b, 0, none⟩) n cap] w (NdPost lo k (L.map (·.1)) w) := by
  obtain ⟨S, hS⟩ : ∃ S, w.heap.size = S := ⟨_, rfl⟩
  have HS := Lib.hid hS
  obtain ⟨W2, hW2⟩ : ∃ W, (w.alloc (.cells #[.int .i64 0, .int .i64 0, .string ⟨#[]⟩, .string ⟨#[]⟩, .slice none 0 0] 24)).alloc (.cells #[] 24) = W := ⟨_, rfl⟩
  have hbl : Below S w W2 := by rw [← hW2, ← hS]; exact ((Below.refl _ _).alloc (Nat.le_refl _) _).alloc (by simp) _
  have HB2 := Lib.hid hbl
  have HR2 : Hid (R5 W2 S) := Lib.hid (by rw [← hW2, ← hS]; exact (r5_new w _).kept ((Below.refl _ _).alloc (Nat.le_refl _) _))
  have HO2 : Hid (W2.ownsRow (S + 1) 24 5 (.slice (some ⟨S + 1, 0, none⟩) 0 0) 0 []) := Lib.hid (by
    have h := World.ownsRow_lit (e := 24) (size := 5) (base := S + 1) (w.alloc (.cells #[.int .i64 0, .int .i64 0, .string ⟨#[]⟩, .string ⟨#[]⟩, .slice none 0 0] 24)) #[] 0 (by rw [size_alloc1X, hS]; exact Nat.le_refl _) (by decide) rfl
    rw [hW2, size_alloc1X, hS] at h
    exact h)
  have hz2 : W2.heap.size = S + 2 := by rw [← hW2, ← hS]; simp
  have HC2 : Hid (∀ j u, (fives L)[j]? = some u → W2.cell? ((⟨b, 0, none⟩ : Addr).add j) = some u) := Lib.hid (fun j u hu => by
    have h0 := hc j u hu
    rw [Addr.add_lit] at h0 ⊢
    exact (hbl.cell (p := ⟨b, 0 + j, none⟩) (by show b < S; omega)).trans h0)
  have HEL : Hid (∀ i, i < n → ExIn W2 (l i) (h i) (L.getD i XV.dummy).1 (L.getD i XV.dummy).2) := Lib.hid (fun i hi => (el i hi).kept (by rw [hS]; exact hbl))
  have HRA := Lib.hid ra
  have HDI := Lib.hid di
  have H1 := Lib.hid h1
  have HN := Lib.hid hn
  have HFL : Hid ((fives L).length = n * 5) := Lib.hid (by rw [← hn]; exact fives_len L)
  have HLO := Lib.hid hlo
  obtain ⟨i0, hi0, hz0, hzz1, hzz2⟩ := info_parts infoEx
  have HW2 := Lib.hid hW2
  clear hc ra di el h1 hn hW2 hbl hb hlo
  go_enter Try.func25, Try.ntmps25
  go_wp2_with (at_builtin; suffices hgoal : _ ∧ True from hgoal.1)
  refine ⟨?_, trivial⟩
  rw [HW2.out]
  try rw [hS]
  refine wpList_append_lies _ rfl _ _ 22 rfl (S + 1) 24 i0 _ 5 72 Try.underlying22 hi0 hz0 hzz1 hzz2 rfl (by omega) (.slice (some ⟨S + 1, 0, none⟩) 0 0) 0 [] rfl HO2.out ⟨b, 0, none⟩ n cap (fives L) rfl HFL.out HC2.out H1.out hn0 (by unfold maxLen; omega) (by omega) (by omega) (S + 2) hz2 ?_
  intro g6 cap6 w6 hown6 hgrow6 hat6 hlt6
  have hat7 : g6 = S + 1 ∨ g6 = S + 2 := hat6.imp (fun e => by injection e with e; exact e.symm) id
  have hold : ∀ q, q < S + 1 → w6.heap[q]? = W2.heap[q]? := fun q hq => hgrow6.block q (by omega) (fun e => by have e2 : some q = some (S + 1) := e; injection e2 with e2; omega)
  have hz6 : W2.heap.size ≤ w6.heap.size := hgrow6.size
  have HR6 : Hid (R5 w6 S) := Lib.hid (HR2.out.keep hz6 (hold S (by omega)))
  have HB6 : Hid (Below S w w6) := Lib.hid (by
    have h := HB2.out
    exact ⟨hgrow6.os.trans h.os, hgrow6.tape.trans h.tape, hgrow6.output.trans h.output, Nat.le_trans h.size hz6, fun q hq => (hold q (by omega)).trans (h.block q hq)⟩)
  have HX6 : Hid (∀ W' : World, W'.heap.size = w6.heap.size → (∀ q, q ≠ S → W'.heap[q]? = w6.heap[q]?) → ExIn W' lo W'.heap.size (.node k 0 e0 e0 (L.map (·.1))) (.slice (some ⟨g6, 0, none⟩) n cap6)) := Lib.hid (fun W' hs' hk' => by
    have hx : XR W' (S + 1) lo S g6 cap6 L l h := ⟨by rw [HN.out]; have := hown6; rw [Nat.zero_add, List.nil_append] at this; exact keepOwnX this (fun q h1 _ => hk' q (by omega)), fun i hi => by
      rw [HN.out] at hi
      obtain ⟨a1, a2⟩ := HRA.out i hi
      rw [hS] at a2
      exact ⟨a1, a2, by omega⟩, fun i j h1 h2 => HDI.out i j h1 (by rw [← HN.out]; exact h2), fun i hi => by
      rw [HN.out] at hi
      obtain ⟨a1, a2⟩ := HRA.out i hi
      rw [hS] at a2
      exact (HEL.out i hi).keep (by rw [hs']; exact hz6) (fun q h1 h2 h3 => (hk' q (by omega)).trans (hold q (by omega)))⟩
    have := hx.node (by have := HLO.out; omega) (by omega) (by rw [HN.out]; omega) k 0 e0 e0
    rw [HN.out] at this
    exact this)
  clear hown6 hgrow6 hat6 hold hS
  obtain ⟨p0, p1, p2, p3, p4, f0, f1, f2, f3, f4, psz⟩ := HR6.out
  go_wp2_with fail
  have hlm : (L.map (·.1)).length = n := by rw [List.length_map]; exact HN.out
  exact bodyPost_ret (v := .agg #[.int .i64 k, .int .i64 0, .string ⟨#[]⟩, .string ⟨#[]⟩, .slice (some ⟨g6, 0, none⟩) n cap6]) (by simp [results, Try.results25, go_sem, p0, p1, p2, p3, p4, psz]) rfl ⟨g6, cap6, by rw [hlm], by rw [hlm]; exact HX6.out _ (put5_size _ _ _ _ _ _ _) (fun q hq => put5_heapH hq _ _ _ _ _), below5 HS.out HB6.out _ _ _ _ _⟩

end Go.Proofs.Ytpaefcdchaemfaa
