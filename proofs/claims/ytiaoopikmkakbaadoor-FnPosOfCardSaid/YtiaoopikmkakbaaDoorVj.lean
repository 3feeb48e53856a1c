/-
  Lines, offsets and places of a text: which belong together. Plain facts.
-/
import Derived.Test.YtiaoopikmkakbaaDoorVi
import Derived.Test.YtiaoopikmkakbaaDoorTn
namespace Go.Proofs.YtiaoopikmkakbaaDoor
open Go.RowKit

theorem byte_nl {s : ByteArray} {k : Nat} (h : k < s.size) : ((s.data[k]!).toNat : Int) = 10 ↔ ((s[k].toNat : Int) == 10) = true := by
  rw [at_bang' s k h]; simp
/-- The pieces up to a place of the text: as many as newlines; the rest is the column. -/
theorem cutN_pos (s : ByteArray) : ∀ k : Nat, k ≤ s.size → (cutN s 10 k).1.length = lnN s k ∧ ((cutN s 10 k).2 : Int) + colN s k = k
  | 0, _ => ⟨by rw [lnN_zero]; rfl, by rw [colN_zero]; rfl⟩
  | k + 1, h => by
    obtain ⟨h1, h2⟩ := cutN_pos s k (by omega)
    have hk : k < s.size := by omega
    rcases hb : ((s[k].toNat : Int) == 10) with _ | _
    · rw [cutN_miss s 10 k (by rw [byte_nl hk, hb]; rintro (h | h); · omega
                               · cases h), lnN_other s k hk hb, colN_other s k hk hb]
      exact ⟨h1, by push_cast; omega⟩
    · rw [cutN_hit s 10 k (.inr ((byte_nl hk).2 hb)), lnN_nl s k hk hb, colN_nl s k hk hb]
      exact ⟨by simp [h1], by push_cast; omega⟩
/-- Later pieces: either there is none yet, or the next one reaches at least to there. -/
theorem cutN_next (s : ByteArray) (n : Nat) : ∀ d : Nat, n + d ≤ s.size + 1 → cutN s 10 (n + d) = cutN s 10 n ∨ ∃ x l, (cutN s 10 (n + d)).1 = (cutN s 10 n).1 ++ x :: l ∧ n ≤ (cutN s 10 n).2 + x.size
  | 0, _ => .inl rfl
  | d + 1, h => by
    have hle := cutN_le s 10 n
    show cutN s 10 (n + d + 1) = _ ∨ _
    by_cases hh : n + d = s.size ∨ ((s.data[n + d]!).toNat : Int) = 10
    · refine .inr ?_
      rw [show n + (d + 1) = n + d + 1 from rfl, cutN_hit s 10 (n + d) hh]
      rcases cutN_next s n d (by omega) with e | ⟨x, l, e, hx⟩
      · refine ⟨s.extract (cutN s 10 n).2 (n + d), [], by rw [e], ?_⟩
        rw [ByteArray.size_extract]
        omega
      · exact ⟨x, l ++ [s.extract (cutN s 10 (n + d)).2 (n + d)], by rw [e]; simp, hx⟩
    · rw [show n + (d + 1) = n + d + 1 from rfl, cutN_miss s 10 (n + d) hh]
      exact cutN_next s n d (by omega)
/-- An offset, a line and a column belong together. -/
structure Rep (s : ByteArray) (n l : Nat) (c : Int) : Prop where
  lt : l < (cut s 10).length
  c0 : 0 ≤ c
  c1 : c ≤ ((cut s 10).getD l ⟨#[]⟩).size
  sum : lenSum ((cut s 10).take l) + c = n
theorem rep_of {s : ByteArray} {n : Nat} (hn : n ≤ s.size) : Rep s n (lnN s n) (colN s n) := by
  obtain ⟨h1, h2⟩ := cutN_pos s n hn
  have h3 := lenSum_cutN s 10 n (by omega)
  have h4 := (colN_bd s n).1
  have h5 := cutN_le s 10 n
  rcases cutN_next s n (s.size + 1 - n) (by omega) with e | ⟨x, l, e, hx⟩
  · rw [show n + (s.size + 1 - n) = s.size + 1 by omega, cutN_hit s 10 s.size (.inl rfl)] at e
    have := congrArg Prod.snd e
    simp only at this
    omega
  · rw [show n + (s.size + 1 - n) = s.size + 1 by omega] at e
    have ec : cut s 10 = (cutN s 10 n).1 ++ x :: l := e
    refine ⟨by rw [ec]; simp; omega, h4, ?_, ?_⟩
    · rw [ec, ← h1]; simp [List.getD]; omega
    · rw [ec, ← h1, List.take_left]; rw [h3]; omega
theorem lenSum_take_le : ∀ (l : List ByteArray) {i j : Nat}, i ≤ j → lenSum (l.take i) ≤ lenSum (l.take j)
  | [], _, _, _ => by simp
  | x :: l, 0, j, _ => by have := lenSum_nonneg ((x :: l).take j); simpa [lenSum] using this
  | x :: l, i + 1, 0, h => absurd h (by omega)
  | x :: l, i + 1, j + 1, h => by have := lenSum_take_le l (i := i) (j := j) (by omega); simp only [List.take_succ_cons, lenSum]; omega
theorem Rep.below {s : ByteArray} {n n' l l' : Nat} {c c' : Int} (h : Rep s n l c) (h' : Rep s n' l' c') (hl : l < l') : n < n' := by
  have h1 := lenSum_take_le (cut s 10) (i := l + 1) (j := l') (by omega)
  have h2 := lenSum_take_succ (cut s 10) l h.lt
  have := h.sum; have := h'.sum; have := h.c1; have := h'.c0
  omega
theorem Rep.inj {s : ByteArray} {n l l' : Nat} {c c' : Int} (h : Rep s n l c) (h' : Rep s n l' c') : l = l' ∧ c = c' := by
  rcases Nat.lt_trichotomy l l' with hl | hl | hl
  · have := h.below h' hl; omega
  · subst hl; have := h.sum; have := h'.sum; exact ⟨rfl, by omega⟩
  · have := h'.below h hl; omega
/-- Places are ordered as their offsets. -/
theorem Rep.order {s : ByteArray} {n n' l l' : Nat} {c c' : Int} (h : Rep s n l c) (h' : Rep s n' l' c') : (l < l' ∨ (l = l' ∧ c < c')) ↔ n < n' := by
  constructor
  · rintro (hl | ⟨rfl, hc⟩)
    · exact h.below h' hl
    · have := h.sum; have := h'.sum; omega
  · intro hn
    rcases Nat.lt_trichotomy l l' with hl | hl | hl
    · exact .inl hl
    · subst hl; have := h.sum; have := h'.sum; exact .inr ⟨rfl, by omega⟩
    · have := h'.below h hl; omega
theorem lenSum_cut (s : ByteArray) : lenSum (cut s 10) = s.size + 1 := by
  have h := lenSum_cutN s 10 (s.size + 1) (Nat.le_refl _)
  unfold cut
  rw [h, cutN_hit s 10 s.size (.inl rfl)]
  rfl
theorem Rep.le {s : ByteArray} {n l : Nat} {c : Int} (h : Rep s n l c) : n ≤ s.size := by
  have h1 := lenSum_take (cut s 10) (l + 1)
  have h2 := lenSum_take_succ (cut s 10) l h.lt
  have h3 := lenSum_cut s
  have := h.sum; have := h.c1
  omega
/-- The place of the offset of a place. -/
theorem Rep.place {s : ByteArray} {n l : Nat} {c : Int} (h : Rep s n l c) : lnN s n = l ∧ colN s n = c := (rep_of h.le).inj h
theorem offOf_rep {s : ByteArray} {n l : Nat} {c : Int} (h : Rep s n l c) : offOf (cut s 10) l c = ((n : Int), true) := by
  rw [offOf_at h.lt, offAt_yes h.c0 h.c1, h.sum]
theorem rep_offOf {s : ByteArray} {ln c v : Int} (h : offOf (cut s 10) ln c = (v, true)) : ∃ n l : Nat, v = n ∧ ln = l ∧ Rep s n l c := by
  unfold offOf at h
  split at h
  case isFalse => cases h
  case isTrue hl =>
    obtain ⟨h0, h1⟩ := hl
    unfold offAt at h
    split at h
    · cases h
    · rename_i hc
      have hv : lenSum ((cut s 10).take ln.toNat) + c = v := congrArg Prod.fst h
      have hn := lenSum_nonneg ((cut s 10).take ln.toNat)
      exact ⟨v.toNat, ln.toNat, by omega, by omega, ⟨by omega, by omega, by omega, by omega⟩⟩
/-- The number of lines, and the last one. -/
theorem cut_lastLine (s : ByteArray) : (cut s 10).length = lnN s s.size + 1 ∧ (((cut s 10).getD (lnN s s.size) ⟨#[]⟩).size : Int) = colN s s.size := by
  obtain ⟨h1, h2⟩ := cutN_pos s s.size (Nat.le_refl _)
  have ec : cut s 10 = (cutN s 10 s.size).1 ++ [s.extract (cutN s 10 s.size).2 s.size] := by unfold cut; rw [cutN_hit s 10 s.size (.inl rfl)]
  have hle := cutN_le s 10 s.size
  refine ⟨by rw [ec]; simp [h1], ?_⟩
  rw [ec, ← h1]
  simp [List.getD, ByteArray.size_extract]
  omega

/-- The bytes of the lines, each with a newline behind it. -/
def jb : List ByteArray → List UInt8
  | [] => []
  | x :: l => x.data.toList ++ 10 :: jb l
theorem jb_append : ∀ (l r : List ByteArray), jb (l ++ r) = jb l ++ jb r
  | [], r => rfl
  | x :: l, r => by simp [jb, jb_append l r]
theorem jb_cutN (s : ByteArray) : ∀ k : Nat, k ≤ s.size + 1 → jb (cutN s 10 k).1 = (s.data.toList ++ [10]).take (cutN s 10 k).2
  | 0, _ => by simp [cutN, jb]
  | k + 1, h => by
    have ih := jb_cutN s k (by omega)
    have hle := cutN_le s 10 k
    by_cases hh : k = s.size ∨ ((s.data[k]!).toNat : Int) = 10
    · rw [cutN_hit s 10 k hh]
      simp only
      rw [jb_append, ih]
      obtain ⟨fr, hfr⟩ : ∃ fr, (cutN s 10 k).2 = fr := ⟨_, rfl⟩
      rw [hfr] at hle ⊢
      have hB : (s.data.toList ++ [10])[k]? = some (10 : UInt8) := by
        rcases hh with e | e
        · subst e; simp
        · by_cases hk : k < s.size
          · have hb0 : (s.data[k]!).toNat = 10 := by omega
            have hb : s.data[k]! = 10 := UInt8.toNat_inj.1 (by rw [hb0]; rfl)
            rw [getElem!_pos s.data k (by simpa using hk)] at hb
            have hk' : k < s.data.size := hk
            rw [List.getElem?_append_left (by simpa using hk)]
            rw [Array.getElem?_toList, Array.getElem?_eq_getElem hk', hb]
          · have e : k = s.size := by omega
            subst e; simp
      have h1 : (s.data.toList ++ [10]).take (k + 1) = (s.data.toList ++ [10]).take k ++ [10] := by
        rw [List.take_add_one, hB]; rfl
      have h2 : (s.data.toList ++ [10]).take k = (s.data.toList ++ [10]).take fr ++ ((s.data.toList ++ [10]).drop fr).take (k - fr) := by
        rw [← List.take_add, show fr + (k - fr) = k by omega]
      have h3 : (s.extract fr k).data.toList = ((s.data.toList ++ [10]).drop fr).take (k - fr) := by
        rw [ByteArray.data_extract]
        have hk : k ≤ s.data.toList.length := by simp; omega
        rw [List.drop_append_of_le_length (by omega), List.take_append_of_le_length (by simp; omega)]
        simp [Array.toList_extract, List.extract]
      rw [h1, h2, ← h3]
      simp [jb]
    · rw [cutN_miss s 10 k hh]; exact ih
theorem jb_cut (s : ByteArray) : jb (cut s 10) = s.data.toList ++ [10] := by
  have h := jb_cutN s (s.size + 1) (Nat.le_refl _)
  unfold cut
  rw [h, cutN_hit s 10 s.size (.inl rfl)]
  exact List.take_of_length_le (by simp)
theorem jb_length : ∀ l : List ByteArray, ((jb l).length : Int) = lenSum l
  | [] => rfl
  | x :: l => by simp only [jb, lenSum, List.length_append, List.length_cons, ← jb_length l]; simp; omega
theorem jb_take_succ {l : List ByteArray} {k : Nat} (h : k < l.length) : jb (l.take (k + 1)) = jb (l.take k) ++ ((l.getD k ⟨#[]⟩).data.toList ++ [10]) := by
  rw [List.take_add_one, jb_append]
  simp [List.getD, h, jb]
theorem bytes_inj {x s : ByteArray} (h : x.data.toList ++ [10] = s.data.toList ++ [10]) : x = s := by
  have h1 := List.append_cancel_right h
  cases x; cases s
  simp only [ByteArray.mk.injEq]
  exact Array.toList_inj.1 h1
end Go.Proofs.YtiaoopikmkakbaaDoor
