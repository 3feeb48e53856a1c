/-
  Rows of expressions that grow by append; expressions one after the other, each with its byte behind it, read by the model.
-/
import Derived.Test.YtpaefcdchaemfaaWc
import Derived.Test.YtpaefcdchaemfaaEf
import Derived.Test.YtpaefcdchaemfaaEh
import Derived.LoopN
import Derived.OwnWalk
import Derived.Laws.OwnMore
import Derived.Deep.AppendLies
namespace Go.Proofs.Ytpaefcdchaemfaa
open Go.RowKit Go.Proofs.Ytpaefcdchaemfaa.Ox
set_option linter.unusedVariables false
set_option linter.unusedSimpArgs false

/-- An expression, and the value of its row of operands. -/
abbrev XV := Ex × Value
def XV.dummy : XV := (Ex.dummy, .bool false)
def fiveX (p : XV) : List Value := [.int .i64 p.1.k, .int .i64 p.1.n, .string p.1.m, .string p.1.s, p.2]
def fives (L : List XV) : List Value := L.flatMap fiveX
theorem fives_snoc (L : List XV) (p : XV) : fives (L ++ [p]) = fives L ++ fiveX p := by simp [fives]
theorem fives_at : ∀ (L : List XV) (i q : Nat), i < L.length → q < 5 → (fives L)[i * 5 + q]? = (fiveX (L.getD i XV.dummy))[q]?
  | p :: L, i, q, hi, hq => by
    have e : fives (p :: L) = fiveX p ++ fives L := rfl
    rw [e]
    cases i with
    | zero =>
      rw [List.getElem?_append_left (by show 0 * 5 + q < 5; omega)]
      simp [List.getD]
    | succ i =>
      have hl : (fiveX p).length = 5 := rfl
      rw [List.getElem?_append_right (by rw [hl]; omega), hl, show (i + 1) * 5 + q - 5 = i * 5 + q by omega, fives_at L i q (by simpa using hi) hq]
      simp [List.getD]
theorem keepOwnX {w w' : World} {B n sz : Nat} {e : TypeId} {v : Value} {xs : List Value} (h : w.ownsRow B e sz v n xs) (hk : ∀ b, B ≤ b → b < w.heap.size → w'.heap[b]? = w.heap[b]?) : w'.ownsRow B e sz v n xs := by
  obtain ⟨hl, h | ⟨g, cap, cur, rfl, hb', hg, h1, h2, h3, h4⟩⟩ := h
  · exact ⟨hl, .inl h⟩
  · exact ⟨hl, .inr ⟨g, cap, cur, rfl, hb', (hk g hb' (Array.getElem?_eq_some_iff.1 hg).1).trans hg, h1, h2, h3, h4⟩⟩
theorem grow_oldX {w2 w3 : World} {o : Obj} {row : Option Nat} (hg : (w2.alloc o).grownBy w3 row) {q : Nat} (h1 : q < w2.heap.size) (h2 : ∀ g, row = some g → q ≠ g) : w3.heap[q]? = w2.heap[q]? :=
  (hg.block q (by simp; omega) (fun e => h2 q e.symm rfl)).trans (((Below.refl w2.heap.size w2).alloc (Nat.le_refl _) o).block q h1)
/-- The expressions lie in a row of the call's own, each in blocks of its own from lo to hi. -/
structure XR (w : World) (B0 lo hi g c : Nat) (L : List XV) (l h : Nat → Nat) : Prop where
  own : w.ownsRow B0 24 5 (.slice (some ⟨g, 0, none⟩) L.length c) L.length (fives L)
  ra : ∀ i, i < L.length → lo ≤ l i ∧ h i ≤ hi ∧ (g < l i ∨ h i ≤ g)
  di : ∀ i j, i < j → j < L.length → h i ≤ l j
  el : ∀ i, i < L.length → ExIn w (l i) (h i) (L.getD i XV.dummy).1 (L.getD i XV.dummy).2
theorem XR.low {w : World} {B0 lo hi g c : Nat} {L : List XV} {l h : Nat → Nat} (f : XR w B0 lo hi g c L l h) : B0 ≤ g ∧ g < w.heap.size := f.own.lt g rfl
theorem XR.kept {w w' : World} {B0 lo hi g c : Nat} {L : List XV} {l h : Nat → Nat} (f : XR w B0 lo hi g c L l h) (hb : Below w.heap.size w w') : XR w' B0 lo hi g c L l h :=
  ⟨keepOwnX f.own (fun b _ h4 => hb.block b h4), f.ra, f.di, fun i hi => (f.el i hi).kept hb⟩
theorem XR.node {w : World} {B0 lo hi g c : Nat} {L : List XV} {l h : Nat → Nat} (f : XR w B0 lo hi g c L l h) (h0 : lo ≤ B0) (h1 : hi ≤ w.heap.size) (hl : L.length ≤ 1000000) (k n : Int) (m s : ByteArray) :
    ExIn w lo w.heap.size (.node k n m s (L.map (·.1))) (.slice (some ⟨g, 0, none⟩) L.length c) := by
  have hlow := f.low
  have e : (L.map (·.1)).length = L.length := by simp
  have hget : ∀ i, i < L.length → (L.map (·.1)).getD i Ex.dummy = (L.getD i XV.dummy).1 := fun i hi => by simp [List.getD, hi]
  have hrow : Row w g := by
    obtain ⟨_, ⟨h, _⟩ | ⟨g2, cap, cur, h, _, hg, _⟩⟩ := f.own
    · cases h
    · cases h; exact ⟨hlow.2, _, _, hg⟩
  have hc : ∀ i q, i < L.length → q < 5 → w.cell? ⟨g, i * 5 + q, none⟩ = (fiveX (L.getD i XV.dummy))[q]? := fun i q hi hq => (f.own.cellAt _ (by omega)).trans (fives_at L i q hi hq)
  have := ExIn.row (w := w) lo w.heap.size k n m s (L.map (·.1)) g c (fun i => (L.getD i XV.dummy).2) l h (by omega) hlow.2 hrow (by omega)
    (fun i hi => by rw [e] at hi; rw [hget i hi]; exact ⟨hc i 0 hi (by omega), hc i 1 hi (by omega), hc i 2 hi (by omega), hc i 3 hi (by omega), hc i 4 hi (by omega)⟩)
    (fun i _ => f.own.frozenAt i)
    (fun i hi => by rw [e] at hi; obtain ⟨a1, a2, a3⟩ := f.ra i hi; exact ⟨a1, by omega, a3⟩)
    (fun i j h1 h2 => by rw [e] at h2; exact f.di i j h1 h2)
    (fun i hi => by rw [e] at hi; rw [hget i hi]; exact f.el i hi)
  rwa [e] at this
theorem XR.push {w W6 : World} {B0 lo hi g c : Nat} {L : List XV} {l h : Nat → Nat} (f : XR w B0 lo hi g c L l h) {x : Ex} {v : Value} {a b g6 c6 : Nat} (hx : ExIn w a b x v) (ha : hi ≤ a) (hb : b ≤ w.heap.size) (hh : hi ≤ w.heap.size) (hlo : lo ≤ a) (hga : g < a) {o : Obj}
    (hown : W6.ownsRow B0 24 5 (.slice (some ⟨g6, 0, none⟩) (L.length + 1) c6) (L.length + 1) (fives L ++ fiveX (x, v))) (hg : (w.alloc o).grownBy W6 (some g)) (hat : some g = some g6 ∨ w.heap.size ≤ g6) :
    ∃ l' h', XR W6 B0 lo w.heap.size g6 c6 (L ++ [(x, v)]) l' h' := by
  have hlow := f.low
  have hsz : w.heap.size ≤ W6.heap.size := by have := hg.size; simp at this; omega
  have hold : ∀ q, q ≠ g → q < w.heap.size → W6.heap[q]? = w.heap[q]? := fun q h1 h2 => grow_oldX hg h2 (fun y e => by injection e with e; omega)
  have hE : g6 = g ∨ w.heap.size ≤ g6 := hat.imp (fun e => by injection e with e; exact e.symm) id
  have hgl : ∀ i, i < L.length → (L ++ [(x, v)]).getD i XV.dummy = L.getD i XV.dummy := fun i hi => by simp [List.getD, List.getElem?_append_left hi]
  have hgn : (L ++ [(x, v)]).getD L.length XV.dummy = (x, v) := by simp [List.getD]
  refine ⟨fun i => if i < L.length then l i else a, fun i => if i < L.length then h i else b, ?_, ?_, ?_, ?_⟩
  · rw [List.length_append, fives_snoc]; exact hown
  · intro i hi
    rw [List.length_append] at hi
    by_cases h2 : i < L.length
    · simp only [h2, if_true]
      obtain ⟨a1, a2, a3⟩ := f.ra i h2
      exact ⟨a1, by omega, by omega⟩
    · simp only [h2, if_false]
      exact ⟨hlo, hb, by omega⟩
  · intro i j h1 h2
    rw [List.length_append] at h2
    simp at h2
    have h3 : i < L.length := by omega
    by_cases h4 : j < L.length
    · simp only [h3, h4, if_true]; exact f.di i j h1 h4
    · simp only [h3, h4, if_true, if_false]
      have := f.ra i h3
      omega
  · intro i hi
    rw [List.length_append] at hi
    simp at hi
    by_cases h2 : i < L.length
    · simp only [h2, if_true]
      rw [hgl i h2]
      obtain ⟨a1, a2, a3⟩ := f.ra i h2
      exact (f.el i h2).keep hsz (fun q h3 h4 h5 => hold q (by omega) h5)
    · simp only [h2, if_false]
      obtain rfl : i = L.length := by omega
      rw [hgn]
      exact hx.keep hsz (fun q h3 h4 h5 => hold q (by omega) h5)
theorem XR.wider {w : World} {B0 lo hi hi' g c : Nat} {L : List XV} {l h : Nat → Nat} (f : XR w B0 lo hi g c L l h) (hh : hi ≤ hi') : XR w B0 lo hi' g c L l h :=
  ⟨f.own, fun i hi => by obtain ⟨a1, a2, a3⟩ := f.ra i hi; exact ⟨a1, by omega, a3⟩, f.di, f.el⟩
theorem infoEx : (Try.prog.info? 24).map (fun i => (i.zero, i.size, i.bytes)) = some (some (.agg #[.int .i64 0, .int .i64 0, .string ⟨#[]⟩, .string ⟨#[]⟩, .slice none 0 0]), 5, 72) := by kernel_rfl

/-- What a reader of a row of expressions returns. -/
def SRet (w : World) (e : Ending) (w' : World) : Rl → Prop
  | .ok xs n => ∃ (g c : Nat) (N : Int), N = (n : Int) ∧ e = .returned (.tuple #[.slice (some ⟨g, 0, none⟩) xs.length c, .int .i64 N]) ∧ (∀ (k n : Int) (m s : ByteArray), ExIn w' w.heap.size w'.heap.size (.node k n m s xs) (.slice (some ⟨g, 0, none⟩) xs.length c)) ∧ Below w.heap.size w w'
  | .no k => ∃ (p : Option Addr) (l c : Nat) (N : Int), N = -1 - (k : Int) ∧ e = .returned (.tuple #[.slice p l c, .int .i64 N]) ∧ Below w.heap.size w w'
theorem SRet.of {w w' : World} {e : Ending} {r r' : Rl} (h : SRet w e w' r) (hr : r' = r) : SRet w e w' r' := by rw [hr]; exact h
def Rl.pre (xs : List Ex) : Rl → Rl
  | .ok ys n => .ok (xs ++ ys) n
  | .no k => .no k
theorem pre_pre (xs ys : List Ex) (r : Rl) : (r.pre ys).pre xs = r.pre (xs ++ ys) := by cases r <;> simp [Rl.pre]
theorem ser_nil {f : Nat → Rs} {s : ByteArray} {i : Nat} : ser f s [] i = .ok [] i := rfl
theorem ser_no {f : Nat → Rs} {s : ByteArray} {c : Int} {cs : List Int} {i k : Nat} (h : f i = .no k) : ser f s (c :: cs) i = .no k := by unfold ser; rw [h]
theorem ser_off {f : Nat → Rs} {s : ByteArray} {c : Int} {cs : List Int} {i n : Nat} {x : Ex} (h : f i = .ok x n) (hb : (by8 s n == c) = false) : ser f s (c :: cs) i = .no n := by
  unfold ser; rw [h]; dsimp only; rw [if_neg (by simpa using hb)]
theorem ser_on {f : Nat → Rs} {s : ByteArray} {c : Int} {cs : List Int} {i n : Nat} {x : Ex} (h : f i = .ok x n) (hb : (by8 s n == c) = true) : ser f s (c :: cs) i = (ser f s cs (n + 1)).pre [x] := by
  conv => lhs; unfold ser
  rw [h]; dsimp only; rw [if_pos (by simpa using hb)]
  cases ser f s cs (n + 1) <;> rfl
/-- The model's parser answers as the plain one, to a depth. -/
def PxT (s : ByteArray) (d : Nat) : Prop := ∀ (w : World) (D I : Int) (i : Nat), D = (d : Int) → I = (i : Int) → i ≤ s.size → Calls Try.prog 9 #[.string s, .int .i64 I, .int .i64 D] w fun e w' => XRet w e w' (px s d i)

set_option maxRecDepth 100000 in
set_option maxHeartbeats 4000000 in
theorem l3Series_any (s : ByteArray) (hs : s.size ≤ 1048576) (d : Nat) (D : Int) (hD : D = (d : Int)) (HIH : Hid (PxT s d)) (sg : ByteArray) (cs : List Int) (hc : cs.length = sg.size) (hc3 : sg.size ≤ 3) (hcb : ∀ j, j < sg.size → by8 sg j = cs.getD j 0 ∧ cs.getD j 0 ≠ 0)
    (i : Nat) (I : Int) (hI : I = i) (hi : i ≤ s.size) (w : World) :
    Calls Try.prog 24 #[.string s, .int .i64 I, .int .i64 D, .string sg] w fun e w' => SRet w e w' (ser (px s d) s cs i) := by
  have HD := Lib.hid hD
  have HI := Lib.hid hI
  have HC := Lib.hid hc
  have HCB := Lib.hid hcb
  obtain ⟨m, hm⟩ : ∃ m, sg.size = m := ⟨_, rfl⟩
  have HM := Lib.hid hm
  obtain ⟨S, hS⟩ : ∃ S, w.heap.size = S := ⟨_, rfl⟩
  have HS := Lib.hid hS
  obtain ⟨W1, hW1⟩ : ∃ W, w.alloc (.cells #[] 24) = W := ⟨_, rfl⟩
  have HW1 := Lib.hid hW1
  have HX1 : Hid (XR W1 S S (S + 1) S 0 [] (fun _ => 0) (fun _ => 0)) := Lib.hid (by
    rw [← hW1, ← hS]
    exact ⟨World.ownsRow_lit (e := 24) (size := 5) (base := w.heap.size) w #[] 0 (Nat.le_refl _) (by decide) rfl, fun i hi => absurd hi (Nat.not_lt_zero _), fun i j _ hj => absurd hj (Nat.not_lt_zero _), fun i hi => absurd hi (Nat.not_lt_zero _)⟩)
  have HB1 : Hid (Below S w W1) := Lib.hid (by rw [← hW1, ← hS]; exact (Below.refl _ _).alloc (Nat.le_refl _) _)
  have hz1 : W1.heap.size = S + 1 := by rw [← hW1, ← hS]; simp
  obtain ⟨i0, hi0, hz0, hzz1, hz2⟩ := info_parts infoEx
  rw [hm] at hc3
  clear hD hI hc hcb hm hW1
  go_enter Try.func24, Try.ntmps24
  go_wp2_with fail
  rw [HW1.out]
  try rw [hS]
  clear hS
  go_loopw [1, 10, 11] (fun av ov iv wr => ∃ (j n : Nat) (L : List XV) (l h : Nat → Nat) (g c hh : Nat) (A : Int), A = (n : Int) ∧ av = .int .i64 A ∧ iv = .int .i64 (j : Int) ∧ ov = .slice (some ⟨g, 0, none⟩) j c ∧ j ≤ m ∧ n ≤ s.size ∧ Hid (L.length = j) ∧ hh ≤ wr.heap.size ∧ g < hh ∧ Hid (XR wr S S hh g c L l h) ∧ Hid (Below S w wr) ∧
    Hid (ser (px s d) s cs i = (ser (px s d) s (cs.drop j) n).pre (L.map (·.1)))) (fun _ _ iv _ => m - (intOf iv).toNat)
  case atStart => exact ⟨0, i, [], _, _, S, 0, S + 1, I, HI.out, rfl, rfl, rfl, Nat.zero_le _, hi, Lib.hid rfl, by omega, by omega, HX1, HB1, Lib.hid (by rw [List.drop_zero]; cases ser (px s d) s cs i <;> rfl)⟩
  case round =>
    clear HX1 HB1 hz1
    obtain ⟨j, n, L, l, h, g, c, hh, A, hA, rfl, rfl, rfl, hj, hn, HL, hhw, hgh, HX, HB, HE⟩ := hrel
    have HA := Lib.hid hA
    have hSw : S ≤ wr.heap.size := by have := HX.out.low; omega
    by_cases hlt : j < m
    case neg =>
      obtain rfl : j = m := by omega
      have hji : ¬ (j : Int) < (sg.size : Int) := by rw [HM.out]; omega
      have HR : Hid (ser (px s d) s cs i = .ok (L.map (·.1)) n) := Lib.hid (by
        rw [HE.out, List.drop_of_length_le (by rw [HC.out, HM.out]; exact Nat.le_refl _)]
        show Rl.ok (L.map (·.1) ++ []) n = _
        rw [List.append_nil])
      clear hlt hj hA
      go_wp2_with fail
      go_ret2
      refine SRet.of ?_ HR.out
      have hlm : (L.map (·.1)).length = j := by rw [List.length_map]; exact HL.out
      refine ⟨g, c, A, HA.out, by rw [hlm]; rfl, fun k n m s => ?_, by rw [HS.out]; exact HB.out⟩
      rw [hlm, HS.out]
      have := HX.out.node (Nat.le_refl _) hhw (by rw [HL.out]; omega) k n m s
      rw [HL.out] at this
      exact this
    have hji : (j : Int) < (sg.size : Int) := by rw [HM.out]; omega
    have hj0 : (0 : Int) ≤ (j : Int) := by omega
    have hcj := HCB.out j (by rw [HM.out]; exact hlt)
    obtain ⟨cc, hcc⟩ : ∃ x, cs.getD j 0 = x := ⟨_, rfl⟩
    rw [hcc] at hcj
    obtain ⟨hc1, hc2⟩ := hcj
    have HDR : Hid (cs.drop j = cc :: cs.drop (j + 1)) := Lib.hid (by
      have hjl : j < cs.length := by rw [HC.out, HM.out]; exact hlt
      have e1 : cc = cs[j] := by rw [← hcc]; simp [List.getD, hjl]
      rw [e1]; exact List.drop_eq_getElem_cons hjl)
    have r1 := by8_idx Try.prog 9 Try.underlying9 (s := sg) (i := j) (by rw [HM.out]; exact hlt)
    rw [hc1] at r1
    clear hcc hc1
    have hin := px_in s d n hn
    have hS1 : s.size ≤ 1048576 := hs
    rcases hp : px s d n with ⟨x, n2⟩ | k
    case no =>
      have HP := Lib.hid hp
      rw [hp] at hin
      have hk : k ≤ s.size + 1 := hin
      have HR : Hid (ser (px s d) s cs i = .no k) := Lib.hid (by rw [HE.out, HDR.out, ser_no hp]; rfl)
      clear hp hin hA
      go_wp2_with fail
      go_at_call 9
      refine (HIH.out _ D A n HD.out HA.out hn).mono ?_
      rintro e w2 hx
      rw [HP.out] at hx
      obtain ⟨q1, q2, q3, q4, q5, q6, q7, N, hN, rfl, hb⟩ := hx
      have hN0 : N < 0 := by omega
      have HN := Lib.hid hN
      have HB2 := Lib.hid (HB.out.trans (hb.mono hSw))
      clear hb hN
      go_wp2_with fail
      go_ret2
      refine SRet.of (r := .no k) ⟨_, _, _, _, HN.out, rfl, ?_⟩ HR.out
      rw [HS.out]
      exact HB2.out.alloc (by have := HB2.out.size; rw [HS.out] at this; exact this) _
    case ok =>
      have HP := Lib.hid hp
      rw [hp] at hin
      obtain ⟨hn1, hn2⟩ : n < n2 ∧ n2 ≤ s.size := hin
      have hn3 : n2 ≤ 1048576 := by omega
      clear hp hA
      rcases hb8 : (by8 s n2 == cc) with _ | _
      case false =>
        have HB8 := Lib.hid hb8
        have HR : Hid (ser (px s d) s cs i = .no n2) := Lib.hid (by rw [HE.out, HDR.out, ser_off HP.out hb8]; rfl)
        clear hb8
        go_wp2_with fail
        go_at_call 9
        refine (HIH.out _ D A n HD.out HA.out hn).mono ?_
        rintro e w2 hx
        rw [HP.out] at hx
        obtain ⟨v, N, hN, rfl, hex, hb⟩ := hx
        obtain ⟨xa, xc, rfl, _⟩ := hex.at.slice
        have hN0 : ¬ N < 0 := by omega
        have hN1 : 0 ≤ N := by omega
        have hN2 : N ≤ 1048576 := by omega
        have s1 : IntKind.i64.wrap (-1 - N) = -1 - N := IntWalk.i64_in _ (by omega)
        have HN := Lib.hid hN
        have HNR : Hid (-1 - N = -1 - (n2 : Int)) := Lib.hid (by omega)
        have HB2 := Lib.hid (HB.out.trans (hb.mono hSw))
        clear hb hN hex
        go_wp2_with fail
        go_at_call 23
        refine (sign_at s n2 N HN.out cc false hc2 HB8.out _).mono ?_
        rintro e w3 ⟨rfl, rfl⟩
        go_wp2_with fail
        go_ret2
        refine SRet.of (r := .no n2) ⟨_, _, _, _, HNR.out, rfl, ?_⟩ HR.out
        rw [HS.out]
        exact HB2.out.alloc (by have := HB2.out.size; rw [HS.out] at this; exact this) _
      case true =>
        have HB8 := Lib.hid hb8
        have HR : Hid (ser (px s d) s cs i = (ser (px s d) s (cs.drop (j + 1)) (n2 + 1)).pre (L.map (·.1) ++ [x])) := Lib.hid (by rw [HE.out, HDR.out, ser_on HP.out hb8, pre_pre])
        have hn4 : n2 + 1 ≤ s.size := by
          have := by8_lt (s := s) (i := n2) (by have h := beq_iff_eq.1 hb8; omega)
          omega
        clear hb8
        go_wp2_with fail
        go_at_call 9
        refine (HIH.out _ D A n HD.out HA.out hn).mono ?_
        rintro e w2 hx
        rw [HP.out] at hx
        obtain ⟨v, N, hN, rfl, hex, hb⟩ := hx
        have HEX := Lib.hid hex
        obtain ⟨xa, xc, rfl, _⟩ := hex.at.slice
        have hN0 : ¬ N < 0 := by omega
        have hN1 : 0 ≤ N := by omega
        have hN2 : N ≤ 1048576 := by omega
        have s1 : IntKind.i64.wrap (N + 1) = N + 1 := IntWalk.i64_in _ (by omega)
        have HN := Lib.hid hN
        have HNR : Hid (N + 1 = ((n2 + 1 : Nat) : Int)) := Lib.hid (by omega)
        have HB2 := Lib.hid (HB.out.trans (hb.mono hSw))
        have HX2 := Lib.hid (HX.out.kept hb)
        have hw2 : wr.heap.size ≤ w2.heap.size := hb.size
        clear hb hN hex
        obtain ⟨W3, hW3⟩ : ∃ W, w2.alloc (.cells #[.int .i64 x.k, .int .i64 x.n, .string x.m, .string x.s, .slice xa x.ks.length xc] 24) = W := ⟨_, rfl⟩
        obtain ⟨E, hE⟩ : ∃ E, w2.heap.size = E := ⟨_, rfl⟩
        have hbA : Below w2.heap.size w2 W3 := by rw [← hW3]; exact (Below.refl _ _).alloc (Nat.le_refl _) _
        have HBX : Hid (EBox W3 E (.int .i64 x.k) (.int .i64 x.n) (.string x.m) (.string x.s) (.slice xa x.ks.length xc)) := Lib.hid (by rw [← hW3, ← hE]; exact ebox_new _ _ _ _ _ _ _)
        have HB3 := Lib.hid (HB2.out.trans (hbA.mono (by omega)))
        have HX3 := Lib.hid (HX2.out.kept hbA)
        have HEX3 := Lib.hid (HEX.out.kept hbA)
        have hz3 : W3.heap.size = E + 1 := by rw [← hW3, ← hE]; simp
        have HW3 := Lib.hid hW3
        obtain ⟨b0, b1, b2, b3, b4, bz⟩ := HBX.out
        clear hW3 hbA
        go_wp2_with fail
        rw [HW3.out]
        try rw [hE]
        go_at_call 23
        refine (sign_at s n2 N HN.out cc true hc2 HB8.out _).mono ?_
        rintro e w4 ⟨rfl, rfl⟩
        have HO : Hid (w4.ownsRow S 24 5 (.slice (some ⟨g, 0, none⟩) j c) j (fives L)) := Lib.hid (by rw [← HL.out]; exact HX3.out.own)
        go_wp2_with (at_builtin; suffices hgoal : _ ∧ True from hgoal.1)
        refine ⟨?_, trivial⟩
        rw [← hz3]
        refine wpList_append_lies _ rfl _ _ 22 rfl S 24 i0 _ 5 72 Try.underlying22 hi0 hz0 hzz1 hz2 rfl (by omega) (.slice (some ⟨g, 0, none⟩) j c) j (fives L) rfl (HO.out.alloc _) ⟨w4.heap.size, 0, none⟩ 1 1 [.int .i64 x.k, .int .i64 x.n, .string x.m, .string x.s, .slice xa x.ks.length xc] rfl rfl (World.news_of_block (cs := #[.int .i64 x.k, .int .i64 x.n, .string x.m, .string x.s, .slice xa x.ks.length xc]) (t := 24) (fr := (0, 0)) (heap_alloc_new w4 _)) (by simp [Value.oneCell']) (by omega) (by unfold maxLen; omega) (by omega) (by simp; omega) (w4.heap.size + 1) (by simp) ?_
        intro g6 cap6 w6 hown6 hgrow6 hat6 hlt6
        obtain ⟨l6, h6, hx6⟩ := HX3.out.push (x := x) (v := .slice xa x.ks.length xc) (a := wr.heap.size) (b := w2.heap.size) (g6 := g6) (c6 := cap6) HEX3.out hhw (by omega) (by omega) (by omega) (by omega) (by rw [HL.out]; exact hown6) hgrow6 (hat6.imp id (fun h => by omega))
        have HX6 := Lib.hid hx6
        have HB6 : Hid (Below S w w6) := Lib.hid (by
          have hA := HB3.out.alloc (show S ≤ w4.heap.size by omega) (.cells #[.int .i64 x.k, .int .i64 x.n, .string x.m, .string x.s, .slice xa x.ks.length xc] 24)
          refine hA.grown hgrow6 (by first | exact Nat.le_of_eq HS.out.symm | (simp; omega)) (fun q e => ?_)
          have e2 : some g = some q := by first | exact e | exact e.symm
          injection e2 with e2
          have := HX3.out.low; omega)
        have HL6 : Hid ((L ++ [(x, Value.slice xa x.ks.length xc)]).length = j + 1) := Lib.hid (by rw [List.length_append, HL.out]; rfl)
        have hz6 : w4.heap.size ≤ w6.heap.size := by have := hgrow6.size; simp at this; omega
        have hg6 : g6 < w6.heap.size := hlt6
        clear hx6 hown6 hgrow6 hat6 hlt6 b0 b1 b2 b3 b4 bz
        go_wp2_with fail
        go_roundw
        case rel => exact ⟨j + 1, n2 + 1, _, l6, h6, g6, cap6, w6.heap.size, N + 1, HNR.out, rfl, by go_num, rfl, by omega, hn4, HL6, Nat.le_refl _, hg6, Lib.hid (HX6.out.wider (by omega)), HB6, Lib.hid (by rw [HR.out, List.map_append]; rfl)⟩
        case measure => simp [intOf]; omega

end Go.Proofs.Ytpaefcdchaemfaa
