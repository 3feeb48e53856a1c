/-
  The text of an expression read: the plain parser: the tree at an offset, no deeper than d, and the offset after it; or the offset of the first byte that does not fit.
-/
import Derived.Test.YtpaefcdchaemfaaEa
import Derived.Test.YtpaefcdchaemfaaZr
namespace Go.Proofs.Ytpaefcdchaemfaa
set_option linter.unusedVariables false

/-- What a reader of an expression comes to. -/
inductive Rs where
  | ok (x : Ex) (n : Nat)
  | no (k : Nat)
/-- What a reader of a row of expressions comes to. -/
inductive Rl where
  | ok (xs : List Ex) (n : Nat)
  | no (k : Nat)
def dig (c : Int) : Bool := decide (48 ≤ c ∧ c ≤ 57)
def sml (c : Int) : Bool := decide (97 ≤ c ∧ c ≤ 122)
def bigL (c : Int) : Bool := decide (65 ≤ c ∧ c ≤ 90)
def e0 : ByteArray := ⟨#[]⟩
/-- Expressions one after the other, each with its byte behind it. -/
def ser (f : Nat → Rs) (s : ByteArray) : List Int → Nat → Rl
  | [], i => .ok [] i
  | c :: cs, i =>
    match f i with
    | .no k => .no k
    | .ok x n =>
      if by8 s n = c then
        match ser f s cs (n + 1) with
        | .no k => .no k
        | .ok xs m => .ok (x :: xs) m
      else .no n
/-- A number. -/
def pxN (s : ByteArray) (i : Nat) : Rs :=
  if by8 s i = 48 ∨ dig (by8 s (i + 1)) = false then .ok (.node 1 (by8 s i - 48) e0 e0 []) (i + 1)
  else .ok (.node 1 (10 * (by8 s i - 48) + (by8 s (i + 1) - 48)) e0 e0 []) (i + 2)
/-- A name of another file. -/
def pxD (s : ByteArray) (i : Nat) : Rs :=
  if by8 s (i + 1) = 46 then
    if sml (by8 s (i + 2)) = true then .ok (.node 2 0 (s.extract i (i + 1)) (s.extract (i + 2) (i + 3)) []) (i + 3) else .no (i + 2)
  else .no (i + 1)
/-- The kind of what begins with a round bracket, by the byte behind its first part. -/
def knd (c : Int) : Int := if c = 32 then 4 else if c = 43 then 5 else if c = 44 then 8 else 0
/-- Behind a round bracket. -/
def pxR (f : Nat → Rs) (s : ByteArray) (i : Nat) : Rs :=
  match f i with
  | .no k => .no k
  | .ok a n =>
    if knd (by8 s n) = 0 then .no n
    else match ser f s [41] (n + 1) with
      | .no k => .no k
      | .ok xs m => .ok (.node (knd (by8 s n)) 0 e0 e0 (a :: xs)) m
/-- A function behind its first byte. -/
def pxF (f : Nat → Rs) (s : ByteArray) (i : Nat) : Rs :=
  if sml (by8 s i) = true then
    if by8 s (i + 1) = 46 then
      match f (i + 2) with
      | .no k => .no k
      | .ok x n => .ok (.node 3 0 e0 (s.extract i (i + 1)) [x]) n
    else .no (i + 1)
  else .no i
/-- A binding behind its first byte. -/
def pxL (f : Nat → Rs) (s : ByteArray) (i : Nat) : Rs :=
  if sml (by8 s i) = true then
    if by8 s (i + 1) = 61 then
      match ser f s [59, 125] (i + 2) with
      | .no k => .no k
      | .ok xs n => .ok (.node 6 0 e0 (s.extract i (i + 1)) xs) n
    else .no (i + 1)
  else .no i
/-- A choice at its first byte. -/
def pxI (f : Nat → Rs) (s : ByteArray) (i : Nat) : Rs :=
  if by8 s (i + 1) = 60 then
    match ser f s [44, 44, 62] (i + 2) with
    | .no k => .no k
    | .ok xs n => .ok (.node 7 0 e0 e0 xs) n
  else .no (i + 1)
/-- A part of a pair behind its first byte. -/
def pxP (f : Nat → Rs) (k : Int) (i : Nat) : Rs :=
  match f i with
  | .no k => .no k
  | .ok x n => .ok (.node k 0 e0 e0 [x]) n
/-- The expression at an offset, no deeper than d. -/
def px (s : ByteArray) : Nat → Nat → Rs
  | 0, i => .no i
  | d + 1, i =>
    if i < s.size then
      if dig (by8 s i) = true then pxN s i
      else if sml (by8 s i) = true then .ok (.node 2 0 e0 (s.extract i (i + 1)) []) (i + 1)
      else if bigL (by8 s i) = true then pxD s i
      else if by8 s i = 40 then pxR (px s d) s (i + 1)
      else if by8 s i = 92 then pxF (px s d) s (i + 1)
      else if by8 s i = 123 then pxL (px s d) s (i + 1)
      else if by8 s i = 63 then pxI (px s d) s i
      else if by8 s i = 94 then pxP (px s d) 9 (i + 1)
      else if by8 s i = 95 then pxP (px s d) 10 (i + 1)
      else .no i
    else .no i
theorem by8_lt {s : ByteArray} {i : Nat} (h : by8 s i ≠ 0) : i < s.size := by
  by_cases hi : i < s.size
  · exact hi
  · exact absurd (by8_end hi) h
theorem dig_lt {s : ByteArray} {i : Nat} (h : dig (by8 s i) = true) : i < s.size := by
  refine by8_lt (fun e => ?_)
  rw [e] at h; unfold dig at h; simp at h
theorem sml_lt {s : ByteArray} {i : Nat} (h : sml (by8 s i) = true) : i < s.size := by
  refine by8_lt (fun e => ?_)
  rw [e] at h; unfold sml at h; simp at h
/-- Where a reader comes to an end, and where it fails. -/
def Rs.In (z i : Nat) : Rs → Prop
  | .ok _ n => i < n ∧ n ≤ z
  | .no k => k ≤ z + 1
def Rl.In (z i : Nat) : Rl → Prop
  | .ok _ n => i ≤ n ∧ n ≤ z
  | .no k => k ≤ z + 1
theorem ser_in {f : Nat → Rs} {s : ByteArray} (hf : ∀ i, i ≤ s.size → (f i).In s.size i) : ∀ (cs : List Int) (i : Nat), (∀ c ∈ cs, c ≠ 0) → i ≤ s.size → (ser f s cs i).In s.size i := by
  intro cs
  induction cs with
  | nil => intro i _ hi; exact ⟨Nat.le_refl _, hi⟩
  | cons c cs ih =>
    intro i hc hi
    have h := hf i hi
    unfold ser
    cases he : f i with
    | no k => rw [he] at h; exact h
    | ok x n =>
      rw [he] at h
      obtain ⟨h1, h2⟩ := h
      dsimp only
      by_cases hb : by8 s n = c
      · rw [if_pos hb]
        have hn : n < s.size := by8_lt (by rw [hb]; exact hc c (List.mem_cons_self ..))
        have h3 := ih (n + 1) (fun c hc' => hc c (List.mem_cons_of_mem _ hc')) (by omega)
        cases hs : ser f s cs (n + 1) with
        | no k => rw [hs] at h3; exact h3
        | ok xs m => rw [hs] at h3; obtain ⟨h4, h5⟩ := h3; exact ⟨by omega, h5⟩
      · rw [if_neg hb]; show n ≤ s.size + 1; omega
theorem px_in (s : ByteArray) : ∀ (d i : Nat), i ≤ s.size → (px s d i).In s.size i := by
  intro d
  induction d with
  | zero => intro i hi; show i ≤ s.size + 1; omega
  | succ d ih =>
    intro i hi
    unfold px
    by_cases hl : i < s.size
    case neg => rw [if_neg hl]; show i ≤ s.size + 1; omega
    rw [if_pos hl]
    by_cases h1 : dig (by8 s i) = true
    · rw [if_pos h1]; unfold pxN
      by_cases h2 : by8 s i = 48 ∨ dig (by8 s (i + 1)) = false
      · rw [if_pos h2]; exact ⟨by omega, by omega⟩
      · rw [if_neg h2]
        have : dig (by8 s (i + 1)) = true := by
          cases h : dig (by8 s (i + 1)) with
          | true => rfl
          | false => exact absurd (.inr h) h2
        have := dig_lt this
        exact ⟨by omega, by omega⟩
    rw [if_neg h1]
    by_cases h2 : sml (by8 s i) = true
    · rw [if_pos h2]; exact ⟨by omega, by omega⟩
    rw [if_neg h2]
    by_cases h3 : bigL (by8 s i) = true
    · rw [if_pos h3]; unfold pxD
      by_cases h4 : by8 s (i + 1) = 46
      · rw [if_pos h4]
        have := by8_lt (s := s) (i := i + 1) (by omega)
        by_cases h5 : sml (by8 s (i + 2)) = true
        · rw [if_pos h5]; have := sml_lt h5; exact ⟨by omega, by omega⟩
        · rw [if_neg h5]; show i + 2 ≤ s.size + 1; omega
      · rw [if_neg h4]; show i + 1 ≤ s.size + 1; omega
    rw [if_neg h3]
    by_cases h4 : by8 s i = 40
    · rw [if_pos h4]; unfold pxR
      have h := ih (i + 1) (by omega)
      cases he : px s d (i + 1) with
      | no k => rw [he] at h; exact h
      | ok a n =>
        rw [he] at h
        obtain ⟨g1, g2⟩ := h
        dsimp only
        by_cases hk : knd (by8 s n) = 0
        · rw [if_pos hk]; show n ≤ s.size + 1; omega
        · rw [if_neg hk]
          have hn : n < s.size := by8_lt (fun e => hk (by rw [e]; rfl))
          have h5 := ser_in ih [41] (n + 1) (by intro c hc; simp at hc; omega) (by omega)
          cases hs : ser (px s d) s [41] (n + 1) with
          | no k => rw [hs] at h5; exact h5
          | ok xs m => rw [hs] at h5; obtain ⟨g3, g4⟩ := h5; exact ⟨by omega, g4⟩
    rw [if_neg h4]
    by_cases h5 : by8 s i = 92
    · rw [if_pos h5]; unfold pxF
      by_cases h6 : sml (by8 s (i + 1)) = true
      · rw [if_pos h6]
        have := sml_lt h6
        by_cases h7 : by8 s (i + 1 + 1) = 46
        · rw [if_pos h7]
          have := by8_lt (s := s) (i := i + 1 + 1) (by omega)
          have h := ih (i + 1 + 2) (by omega)
          cases he : px s d (i + 1 + 2) with
          | no k => rw [he] at h; exact h
          | ok a n => rw [he] at h; obtain ⟨g1, g2⟩ := h; exact ⟨by omega, g2⟩
        · rw [if_neg h7]; show i + 1 + 1 ≤ s.size + 1; omega
      · rw [if_neg h6]; show i + 1 ≤ s.size + 1; omega
    rw [if_neg h5]
    by_cases h6 : by8 s i = 123
    · rw [if_pos h6]; unfold pxL
      by_cases h7 : sml (by8 s (i + 1)) = true
      · rw [if_pos h7]
        have := sml_lt h7
        by_cases h8 : by8 s (i + 1 + 1) = 61
        · rw [if_pos h8]
          have := by8_lt (s := s) (i := i + 1 + 1) (by omega)
          have h := ser_in ih [59, 125] (i + 1 + 2) (by intro c hc; simp at hc; omega) (by omega)
          cases he : ser (px s d) s [59, 125] (i + 1 + 2) with
          | no k => rw [he] at h; exact h
          | ok a n => rw [he] at h; obtain ⟨g1, g2⟩ := h; exact ⟨by omega, g2⟩
        · rw [if_neg h8]; show i + 1 + 1 ≤ s.size + 1; omega
      · rw [if_neg h7]; show i + 1 ≤ s.size + 1; omega
    rw [if_neg h6]
    by_cases h7 : by8 s i = 63
    · rw [if_pos h7]; unfold pxI
      by_cases h8 : by8 s (i + 1) = 60
      · rw [if_pos h8]
        have := by8_lt (s := s) (i := i + 1) (by omega)
        have h := ser_in ih [44, 44, 62] (i + 2) (by intro c hc; simp at hc; omega) (by omega)
        cases he : ser (px s d) s [44, 44, 62] (i + 2) with
        | no k => rw [he] at h; exact h
        | ok a n => rw [he] at h; obtain ⟨g1, g2⟩ := h; exact ⟨by omega, g2⟩
      · rw [if_neg h8]; show i + 1 ≤ s.size + 1; omega
    rw [if_neg h7]
    have hP : ∀ k : Int, (pxP (px s d) k (i + 1)).In s.size i := by
      intro k
      unfold pxP
      have h := ih (i + 1) (by omega)
      cases he : px s d (i + 1) with
      | no k => rw [he] at h; exact h
      | ok a n => rw [he] at h; obtain ⟨g1, g2⟩ := h; exact ⟨by omega, g2⟩
    by_cases h8 : by8 s i = 94
    · rw [if_pos h8]; exact hP 9
    rw [if_neg h8]
    by_cases h9 : by8 s i = 95
    · rw [if_pos h9]; exact hP 10
    rw [if_neg h9]
    show i ≤ s.size + 1
    omega

end Go.Proofs.Ytpaefcdchaemfaa
