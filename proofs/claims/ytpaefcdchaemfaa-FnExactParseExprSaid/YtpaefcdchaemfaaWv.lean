/-
  The program's reader: the box of a form's node, and the row of its operands, which grows by append.
-/
import Derived.Test.YtpaefcdchaemfaaWu
import Derived.Test.YtpaefcdchaemfaaWd
namespace Go.Proofs.Ytpaefcdchaemfaa
open Go.RowKit Go.Proofs.Ytpaefcdchaemfaa.Ox
set_option linter.unusedVariables false
set_option linter.unusedSimpArgs false

/-- The box of a form's node: kind, name, operands. -/
structure N3 (w : World) (B : Nat) (k : Int) (m : ByteArray) (v : Value) : Prop where
  c0 : w.cell? ⟨B, 0, none⟩ = some (.int .i64 k)
  c1 : w.cell? ⟨B, 1, none⟩ = some (.string m)
  c2 : w.cell? ⟨B, 2, none⟩ = some v
  f0 : w.frozen? ⟨B, 0, none⟩ = false
  f1 : w.frozen? ⟨B, 1, none⟩ = false
  f2 : w.frozen? ⟨B, 2, none⟩ = false
  sz : B < w.heap.size
theorem N3.keep {w w' : World} {B : Nat} {k : Int} {m : ByteArray} {v : Value} (h : N3 w B k m v) (hs : w.heap.size ≤ w'.heap.size) (e : w'.heap[B]? = w.heap[B]?) : N3 w' B k m v :=
  ⟨(cellEq e).trans h.c0, (cellEq e).trans h.c1, (cellEq e).trans h.c2, (frozenEq e).trans h.f0, (frozenEq e).trans h.f1, (frozenEq e).trans h.f2, Nat.lt_of_lt_of_le h.sz hs⟩
theorem N3.kept {w w' : World} {B : Nat} {k : Int} {m : ByteArray} {v : Value} (h : N3 w B k m v) (hb : Below w.heap.size w w') : N3 w' B k m v := h.keep hb.size (hb.block B h.sz)
theorem N3.inside {w w' : World} {B p : Nat} {k : Int} {m : ByteArray} {v : Value} (h : N3 w B k m v) (hI : Inside p (p + 1) w w') (hp : p < B) : N3 w' B k m v := h.keep hI.size (hI.block B h.sz (.inr (by omega)))
theorem n3_new (w : World) (k : Int) (m : ByteArray) (v : Value) (T : TypeId) : N3 (w.alloc (.cells #[.int .i64 k, .string m, v] T)) w.heap.size k m v := ⟨by go_simp, by go_simp, by go_simp, by go_simp, by go_simp, by go_simp, by simp⟩
theorem N3.set0 {w : World} {B : Nat} {k : Int} {m : ByteArray} {v : Value} (h : N3 w B k m v) (k' : Int) : N3 (w.setCell ⟨B, 0, none⟩ (.int .i64 k')) B k' m v := by
  refine ⟨World.cell?_setCell_same' _ _ _ (by rw [h.c0]; rfl), ?_, ?_, ?_, ?_, ?_, by simpa using h.sz⟩
  · rw [World.cell?_setCell_other _ _ _ _ (fun e => by injection e with _ e2 _; omega)]; exact h.c1
  · rw [World.cell?_setCell_other _ _ _ _ (fun e => by injection e with _ e2 _; omega)]; exact h.c2
  · rw [World.frozen?_setCell]; exact h.f0
  · rw [World.frozen?_setCell]; exact h.f1
  · rw [World.frozen?_setCell]; exact h.f2
theorem N3.set1 {w : World} {B : Nat} {k : Int} {m : ByteArray} {v : Value} (h : N3 w B k m v) (m' : ByteArray) : N3 (w.setCell ⟨B, 1, none⟩ (.string m')) B k m' v := by
  refine ⟨?_, World.cell?_setCell_same' _ _ _ (by rw [h.c1]; rfl), ?_, ?_, ?_, ?_, by simpa using h.sz⟩
  · rw [World.cell?_setCell_other _ _ _ _ (fun e => by injection e with _ e2 _; omega)]; exact h.c0
  · rw [World.cell?_setCell_other _ _ _ _ (fun e => by injection e with _ e2 _; omega)]; exact h.c2
  · rw [World.frozen?_setCell]; exact h.f0
  · rw [World.frozen?_setCell]; exact h.f1
  · rw [World.frozen?_setCell]; exact h.f2
theorem N3.set2 {w : World} {B : Nat} {k : Int} {m : ByteArray} {v : Value} (h : N3 w B k m v) (v' : Value) : N3 (w.setCell ⟨B, 2, none⟩ v') B k m v' := by
  refine ⟨?_, ?_, World.cell?_setCell_same' _ _ _ (by rw [h.c2]; rfl), ?_, ?_, ?_, by simpa using h.sz⟩
  · rw [World.cell?_setCell_other _ _ _ _ (fun e => by injection e with _ e2 _; omega)]; exact h.c0
  · rw [World.cell?_setCell_other _ _ _ _ (fun e => by injection e with _ e2 _; omega)]; exact h.c1
  · rw [World.frozen?_setCell]; exact h.f0
  · rw [World.frozen?_setCell]; exact h.f1
  · rw [World.frozen?_setCell]; exact h.f2
theorem N3.away {w : World} {S B : Nat} {k : Int} {m : ByteArray} {v : Value} (h : N3 w S k m v) (hB : S < B) (o : Nat) (u : Value) : N3 (w.setCell ⟨B, o, none⟩ u) S k m v :=
  h.keep (by simp) (heap_setCell_other _ ⟨B, o, none⟩ S _ (by show S ≠ B; omega))
theorem LR.away {w : World} {p B : Nat} {s : ByteArray} {I O : Int} (h : LR w p s I O) (hp : p < B) (o : Nat) (u : Value) : LR (w.setCell ⟨B, o, none⟩ u) p s I O :=
  h.keep (by simp) (heap_setCell_other _ ⟨B, o, none⟩ p _ (by show p ≠ B; omega))
/-- The row of operands: none yet, or a row of the call's own. -/
def KRel (w : World) (lo hi : Nat) (v : Value) (L : List XV) : Prop := (v = .slice none 0 0 ∧ L = []) ∨ ∃ g c l h, v = .slice (some ⟨g, 0, none⟩) L.length c ∧ g < hi ∧ XR w lo lo hi g c L l h
theorem KRel.own {w : World} {lo hi : Nat} {v : Value} {L : List XV} (f : KRel w lo hi v L) : w.ownsRow lo 24 5 v L.length (fives L) := by
  rcases f with ⟨rfl, rfl⟩ | ⟨g, c, l, h, rfl, _, hx⟩
  · exact World.ownsRow_nil _ _ _ _
  · exact hx.own
theorem KRel.slice {w : World} {lo hi : Nat} {v : Value} {L : List XV} (f : KRel w lo hi v L) : ∃ q l c, v = .slice q l c := by
  rcases f with ⟨rfl, rfl⟩ | ⟨g, c, l, h, rfl, _, hx⟩
  · exact ⟨_, _, _, rfl⟩
  · exact ⟨_, _, _, rfl⟩
theorem keepOwnG {w w' : World} {B n sz g : Nat} {c0 : Nat} {e : TypeId} {xs : List Value} (h : w.ownsRow B e sz (.slice (some ⟨g, 0, none⟩) n c0) n xs) (hk : g < w.heap.size → w'.heap[g]? = w.heap[g]?) : w'.ownsRow B e sz (.slice (some ⟨g, 0, none⟩) n c0) n xs := by
  obtain ⟨hl, h | ⟨g', cap, cur, hv, hb', hg, h1, h2, h3, h4⟩⟩ := h
  · exact ⟨hl, .inl h⟩
  · have e1 : g = g' := by injection hv with hv1; injection hv1 with hv2; injection hv2
    subst e1
    exact ⟨hl, .inr ⟨g, cap, cur, hv, hb', (hk (Array.getElem?_eq_some_iff.1 hg).1).trans hg, h1, h2, h3, h4⟩⟩
theorem KRel.keep {w w' : World} {lo hi : Nat} {v : Value} {L : List XV} (f : KRel w lo hi v L) (hs : w.heap.size ≤ w'.heap.size) (hk : ∀ q, lo ≤ q → q < hi → q < w.heap.size → w'.heap[q]? = w.heap[q]?) : KRel w' lo hi v L := by
  rcases f with ⟨rfl, rfl⟩ | ⟨g, c, l, h, rfl, hg, hx⟩
  · exact .inl ⟨rfl, rfl⟩
  · have hlow := hx.low
    refine .inr ⟨g, c, l, h, rfl, hg, keepOwnG hx.own (fun h1 => hk g hlow.1 hg h1), hx.ra, hx.di, fun i hi => ?_⟩
    have := hx.ra i hi
    exact (hx.el i hi).keep hs (fun q h1 h2 h3 => hk q (by omega) (by omega) h3)
theorem KRel.kept {w w' : World} {lo hi : Nat} {v : Value} {L : List XV} (f : KRel w lo hi v L) (hb : Below w.heap.size w w') : KRel w' lo hi v L := f.keep hb.size (fun q _ _ h => hb.block q h)
theorem KRel.inside {w w' : World} {lo hi p : Nat} {v : Value} {L : List XV} (f : KRel w lo hi v L) (hI : Inside p (p + 1) w w') (hp : p < lo) : KRel w' lo hi v L := f.keep hI.size (fun q h1 _ h => hI.block q h (.inr (by omega)))
theorem KRel.away {w : World} {lo hi B : Nat} {v : Value} {L : List XV} (f : KRel w lo hi v L) (hB : B < lo) (o : Nat) (u : Value) : KRel (w.setCell ⟨B, o, none⟩ u) lo hi v L :=
  f.keep (by simp) (fun q h1 _ _ => heap_setCell_other _ ⟨B, o, none⟩ q _ (by show q ≠ B; omega))
theorem KRel.wider {w : World} {lo hi hi' : Nat} {v : Value} {L : List XV} (f : KRel w lo hi v L) (h : hi ≤ hi') : KRel w lo hi' v L := by
  rcases f with h | ⟨g, c, l, h', e, hg, hx⟩
  · exact .inl h
  · exact .inr ⟨g, c, l, h', e, by omega, hx.wider h⟩
theorem KRel.node {w : World} {lo hi : Nat} {v : Value} {L : List XV} (f : KRel w lo hi v L) (h1 : hi ≤ w.heap.size) (hl : L.length ≤ 1000000) (k n : Int) (m s : ByteArray) : ExIn w lo w.heap.size (.node k n m s (L.map (·.1))) v := by
  rcases f with ⟨rfl, rfl⟩ | ⟨g, c, l, h, rfl, _, hx⟩
  · exact .bare _ _ _ _ _ _ _ _
  · exact hx.node (Nat.le_refl _) h1 hl k n m s
theorem KRel.push {w W6 : World} {lo hi : Nat} {v : Value} {L : List XV} (f : KRel w lo hi v L) {x : Ex} {u : Value} {a b g6 c6 : Nat} (hx : ExIn w a b x u) (ha : hi ≤ a) (hb : b ≤ w.heap.size) (hlo : lo ≤ a) {o : Obj}
    (hown : W6.ownsRow lo 24 5 (.slice (some ⟨g6, 0, none⟩) (L.length + 1) c6) (L.length + 1) (fives L ++ fiveX (x, u))) (hg : (w.alloc o).grownBy W6 v.ownBlock) (hat : v.ownBlock = some g6 ∨ w.heap.size ≤ g6) (hg6 : g6 < W6.heap.size) (hiw : hi ≤ w.heap.size) :
    KRel W6 lo W6.heap.size (.slice (some ⟨g6, 0, none⟩) (L.length + 1) c6) (L ++ [(x, u)]) := by
  have hsz : w.heap.size ≤ W6.heap.size := by have := hg.size; simp at this; omega
  rcases f with ⟨rfl, rfl⟩ | ⟨g, c, l, h, rfl, hgh, hX⟩
  · have h6 : w.heap.size ≤ g6 := by rcases hat with e | e; cases e; exact e
    refine .inr ⟨g6, c6, fun _ => a, fun _ => b, rfl, hg6, ?_, ?_, ?_, ?_⟩
    · exact hown
    · intro i hi; exact ⟨hlo, by omega, .inr (by omega)⟩
    · intro i j h1 h2; simp at h2; omega
    · intro i hi
      obtain rfl : i = 0 := by simp at hi; omega
      exact hx.keep hsz (fun q h3 h4 h5 => grow_oldX hg h5 (fun y e => by cases e))
  · obtain ⟨l6, h6, hx6⟩ := hX.push (x := x) (v := u) (g6 := g6) (c6 := c6) hx ha hb hiw hlo (by omega) hown hg (hat.imp id id)
    refine .inr ⟨g6, c6, l6, h6, ?_, hg6, hx6.wider hsz⟩
    rw [List.length_append]; rfl

theorem KRel.ob {w : World} {lo hi : Nat} {v : Value} {L : List XV} (f : KRel w lo hi v L) {q : Nat} (h : v.ownBlock = some q) : lo ≤ q := by
  rcases f with ⟨rfl, rfl⟩ | ⟨g, c, l, h', rfl, hg, hx⟩
  · cases h
  · have e : some g = some q := h
    injection e with e
    have := hx.low
    omega
theorem Inside.grown {w W w9 : World} {p : Nat} {o : Obj} {row : Option Nat} (h : Inside p (p + 1) w W) (hg : (W.alloc o).grownBy w9 row) (hr : ∀ q, row = some q → w.heap.size ≤ q) : Inside p (p + 1) w w9 := by
  have hz : (W.alloc o).heap.size = W.heap.size + 1 := by simp
  have h1 := hg.size
  have h2 := h.size
  exact ⟨hg.os.trans h.os, hg.tape.trans h.tape, hg.output.trans h.output, by omega, fun q hq ho => (hg.block q (by omega) (fun e => by have := hr q e.symm; omega)).trans ((((Below.refl W.heap.size W).alloc (Nat.le_refl _) o).block q (by omega)).trans (h.block q hq ho))⟩
theorem grown_old {W w9 : World} {o : Obj} {row : Option Nat} {lo : Nat} (hg : (W.alloc o).grownBy w9 row) (hr : ∀ q, row = some q → lo ≤ q) {q : Nat} (h1 : q < lo) (h2 : q < W.heap.size) : w9.heap[q]? = W.heap[q]? :=
  (hg.block q (by simp; omega) (fun e => by have := hr q e.symm; omega)).trans (((Below.refl W.heap.size W).alloc (Nat.le_refl _) o).block q h2)
theorem rf_E {f : Nat → Int → Option (Ex × Nat)} {s : ByteArray} {r : Nat} {k : Int} {j : Nat} {m : ByteArray} {xs : List Ex} {n : Nat} {O : Int} {x : Ex} {n' : Nat} (h : by8 (formX k) j = 69) (hf : f n O = some (x, n')) : rf f s (r + 1) k j m xs n O = rf f s r k (j + 1) m (xs ++ [x]) n' (O - 1) := by
  rw [rf, if_neg (by omega), if_pos h, hf]
theorem rf_E0 {f : Nat → Int → Option (Ex × Nat)} {s : ByteArray} {r : Nat} {k : Int} {j : Nat} {m : ByteArray} {xs : List Ex} {n : Nat} {O : Int} (h : by8 (formX k) j = 69) (hf : f n O = none) : rf f s (r + 1) k j m xs n O = none := by
  rw [rf, if_neg (by omega), if_pos h, hf]
theorem lim_in {s : ByteArray} {d n : Nat} {O : Int} {x : Ex} {n' : Nat} (hn : n ≤ s.size) (h : lim O (px s d n) = some (x, n')) : n < n' ∧ n' ≤ s.size ∧ (n' : Int) + O ≤ 2001 := by
  have hi := px_in s d n hn
  cases hp : px s d n with
  | no k => rw [hp] at h; cases h
  | ok y b =>
    rw [hp] at h hi
    obtain ⟨h1, h2⟩ := hi
    by_cases hl : (b : Int) + O ≤ 2001
    · rw [lim_ok hl] at h; injection h with h; injection h with e1 e2; subst e1; subst e2; exact ⟨h1, h2, hl⟩
    · rw [lim_off (by omega)] at h; cases h

theorem rf_c {f : Nat → Int → Option (Ex × Nat)} {s : ByteArray} {r : Nat} {k : Int} {j : Nat} {m : ByteArray} {xs : List Ex} {n : Nat} {O K1 : Int} (h1 : ¬ by8 (formX k) j = 120) (h2 : ¬ by8 (formX k) j = 69) (hf : fk ((formX k).extract 0 j) (by8 s n) = K1) (hk : K1 ≠ 0) (hl : (n : Int) + O ≤ 2000) : rf f s (r + 1) k j m xs n O = rf f s r K1 (j + 1) m xs (n + 1) (O - 1) := by
  rw [rf, if_neg h1, if_neg h2, hf, if_pos ⟨hk, hl⟩]
theorem rf_c0 {f : Nat → Int → Option (Ex × Nat)} {s : ByteArray} {r : Nat} {k : Int} {j : Nat} {m : ByteArray} {xs : List Ex} {n : Nat} {O K1 : Int} (h1 : ¬ by8 (formX k) j = 120) (h2 : ¬ by8 (formX k) j = 69) (hf : fk ((formX k).extract 0 j) (by8 s n) = K1) (h : ¬ (K1 ≠ 0 ∧ (n : Int) + O ≤ 2000)) : rf f s (r + 1) k j m xs n O = none := by
  rw [rf, if_neg h1, if_neg h2, hf, if_neg h]
theorem fkF_mem {b : ByteArray} {c : Int} : ∀ (n : Nat) (k : Int), fkF b c n k ≠ 0 → fkB b c (fkF b c n k) = true
  | 0, _, h => absurd rfl h
  | n + 1, k, h => by
    cases hk : fkB b c k with
    | true => rw [fkF_yes hk]; exact hk
    | false => rw [fkF_no hk] at h ⊢; exact fkF_mem n (k + 1) h
def forms9 : List ByteArray := [⟨#[92, 120, 46, 69]⟩, ⟨#[40, 69, 32, 69, 41]⟩, ⟨#[40, 69, 43, 69, 41]⟩, ⟨#[123, 120, 61, 69, 59, 69, 125]⟩, ⟨#[63, 60, 69, 44, 69, 44, 69, 62]⟩, ⟨#[40, 69, 44, 69, 41]⟩, ⟨#[94, 69]⟩, ⟨#[95, 69]⟩, ⟨#[]⟩]
theorem form9 (k : Int) : formX k ∈ forms9 := by
  unfold formX forms9
  by_cases h : k = 3; · subst h; simp
  by_cases h : k = 4; · subst h; simp
  by_cases h : k = 5; · subst h; simp
  by_cases h : k = 6; · subst h; simp
  by_cases h : k = 7; · subst h; simp
  by_cases h : k = 8; · subst h; simp
  by_cases h : k = 9; · subst h; simp
  by_cases h : k = 10; · subst h; simp
  simp only [*, if_false]
  simp
theorem head_size {a b : ByteArray} (ha : a ∈ forms9) (hb : b ∈ forms9) (h : a.data.toList.head? = b.data.toList.head?) : a.size = b.size := by
  simp only [forms9, List.mem_cons, List.not_mem_nil, or_false] at ha hb
  rcases ha with rfl | rfl | rfl | rfl | rfl | rfl | rfl | rfl | rfl <;> rcases hb with rfl | rfl | rfl | rfl | rfl | rfl | rfl | rfl | rfl <;> first | rfl | (exact absurd h (by decide))
theorem fk_size {k : Int} {j : Nat} {c : Int} (hj : 1 ≤ j) (hl : j < (formX k).size) (h : fk ((formX k).extract 0 j) c ≠ 0) : (formX (fk ((formX k).extract 0 j) c)).size = (formX k).size := by
  have h1 := fkF_mem 10 1 h
  refine head_size (form9 _) (form9 _) ?_
  have h2 : Lib.hasPrefix (formX (fk ((formX k).extract 0 j) c)).data.toList ((formX k).extract 0 j).data.toList = true := by
    have h1' : fkB ((formX k).extract 0 j) c (fk ((formX k).extract 0 j) c) = true := h1
    unfold fkB at h1'
    exact (Bool.and_eq_true _ _ ▸ h1').1
  have h3 : ((formX k).extract 0 j).data.toList = (formX k).data.toList.take j := by
    simp [ByteArray.data_extract, Array.toList_extract, List.extract]
  rw [h3] at h2
  have h4 : (formX k).data.toList.length = (formX k).size := by simp
  unfold Lib.hasPrefix at h2
  have h5 := List.isPrefixOf_iff_prefix.1 h2
  obtain ⟨t, ht⟩ := h5
  rw [← ht]
  cases hx : (formX k).data.toList with
  | nil => rw [hx] at h4; simp at h4; omega
  | cons a u =>
    obtain ⟨j', rfl⟩ : ∃ j', j = j' + 1 := ⟨j - 1, by omega⟩
    rfl

end Go.Proofs.Ytpaefcdchaemfaa
