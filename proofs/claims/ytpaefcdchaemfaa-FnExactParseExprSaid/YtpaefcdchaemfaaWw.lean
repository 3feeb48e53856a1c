/-
  The program's reader: an expression read by its form.
-/
import Derived.Test.YtpaefcdchaemfaaWv
import Derived.RegionCalls
import Derived.Deep.RegionHeld3
namespace Go.Proofs.Ytpaefcdchaemfaa
open Go.RowKit Go.Proofs.Ytpaefcdchaemfaa.Ox
set_option linter.unusedVariables false
set_option linter.unusedSimpArgs false

/-- What readForm returns. -/
def FmRet (p : Nat) (s : ByteArray) (O : Int) (w : World) (e : Ending) (w' : World) : Option (Int × ByteArray × List Ex × Nat) → Prop
  | some (k, m, xs, n) => ∃ v, e = .returned (.tuple #[.agg #[.int .i64 k, .string m, v], .nilIface]) ∧ ExIn w' w.heap.size w'.heap.size (.node k 0 e0 m xs) v ∧ LR w' p s n (O - 1) ∧ Inside p (p + 1) w w'
  | none => ∃ (a : Int) (t : ByteArray) (q : Option Addr) (l c : Nat) (v : Value), e = .returned (.tuple #[.agg #[.int .i64 a, .string t, .slice q l c], v]) ∧ Mis v ∧ Inside p (p + 1) w w'
theorem FmRet.of {p : Nat} {s : ByteArray} {O : Int} {w w' : World} {e : Ending} {r r' : Option (Int × ByteArray × List Ex × Nat)} (h : FmRet p s O w e w' r) (hr : r' = r) : FmRet p s O w e w' r' := by rw [hr]; exact h
theorem form_le (k : Int) : (formX k).size ≤ 8 := by
  unfold formX
  by_cases h : k = 3; · subst h; decide
  by_cases h : k = 4; · subst h; decide
  by_cases h : k = 5; · subst h; decide
  by_cases h : k = 6; · subst h; decide
  by_cases h : k = 7; · subst h; decide
  by_cases h : k = 8; · subst h; decide
  by_cases h : k = 9; · subst h; decide
  by_cases h : k = 10; · subst h; decide
  simp only [*, if_false]
  decide
/-- What a call of the operand's reader returns. -/
def OpT (s : ByteArray) (d p A B : Nat) (w : World) : Prop := ∀ (W : World) (n : Nat) (N O : Int), Inside p (p + 1) w W → N = (n : Int) → n ≤ s.size → 1 ≤ O → O ≤ 3000 → LR W p s N O → Calls Try.prog 45 #[.pointer (some ⟨A, 0, none⟩), .pointer (some ⟨B, 0, none⟩)] W fun e w' => PqRet p s O W e w' (lim O (px s d n))
/-- The result's box of a form's node, written. -/
def put3 (W : World) (B : Nat) (a b c : Value) : World := ((W.setCell ⟨B, 0, none⟩ a).setCell ⟨B, 1, none⟩ b).setCell ⟨B, 2, none⟩ c
theorem put3_sz {W : World} {B : Nat} (a b c : Value) : (put3 W B a b c).heap.size = W.heap.size := by simp [put3]
theorem put3_heap {W : World} {B : Nat} (a b c : Value) {q : Nat} (h : q ≠ B) : (put3 W B a b c).heap[q]? = W.heap[q]? := by
  unfold put3
  rw [Below.heap_setCell _ _ _ _ h, Below.heap_setCell _ _ _ _ h, Below.heap_setCell _ _ _ _ h]
theorem put3_in {w W : World} {S p : Nat} (hS : w.heap.size = S) (h : Inside p (p + 1) w W) (a b c : Value) : Inside p (p + 1) w (put3 W S a b c) :=
  ((h.put (Nat.le_of_eq hS) 0 a).put (Nat.le_of_eq hS) 1 b).put (Nat.le_of_eq hS) 2 c
theorem put3_lr {W : World} {S p : Nat} {s : ByteArray} {I O : Int} (h : LR W p s I O) (hp : p < S) (a b c : Value) : LR (put3 W S a b c) p s I O :=
  h.keep (by rw [put3_sz]; exact Nat.le_refl _) (put3_heap _ _ _ (by omega))
theorem put3_ex {w W : World} {S lo : Nat} {x : Ex} {v : Value} (hS : w.heap.size = S) (h : ExIn W lo W.heap.size x v) (hlo : S < lo) (a b c : Value) : ExIn (put3 W S a b c) w.heap.size (put3 W S a b c).heap.size x v := by
  refine ExIn.wide (h.keep (by rw [put3_sz]; exact Nat.le_refl _) (fun q h1 _ _ => put3_heap _ _ _ (by omega))) (by omega) (by rw [put3_sz]; exact Nat.le_refl _)

set_option maxRecDepth 100000 in
set_option maxHeartbeats 8000000 in
theorem readForm_any (s : ByteArray) (hs : s.size ≤ 1048576) (d p A B i : Nat) (I O : Int) (hI : I = (i : Int)) (hi : i ≤ s.size) (hO : 1 ≤ O) (hO2 : O ≤ 3000) (w : World) (hp : LR w p s I O) (hop : OpT s d p A B w)
    (K0 : Int) (F0 : ByteArray) (z : Nat) (hK : fk ⟨#[]⟩ (by8 s i) = K0) (hF : formX K0 = F0) (hz : F0.size = z) (hz2 : K0 ≠ 0 → 2 ≤ z) (R : Option (Int × ByteArray × List Ex × Nat))
    (hR : (if K0 ≠ 0 ∧ (i : Int) + O + (z - 1 : Nat) ≤ 2000 then rf (fun n O => lim O (px s d n)) s (z - 1) K0 1 e0 [] (i + 1) (O - 1 + (z - 1 : Nat)) else none) = R) :
    Calls Try.prog 43 #[.pointer (some ⟨p, 0, none⟩), .func (.func 44) #[] #[], .func (.func 45) #[] #[.pointer (some ⟨A, 0, none⟩), .pointer (some ⟨B, 0, none⟩)]] w fun e w' =>
      FmRet p s O w e w' R := by
  have HOP := Lib.hid hop
  have HI := Lib.hid hI
  have HLE := Lib.hid hi
  have HK := Lib.hid hK
  have HF := Lib.hid hF
  obtain ⟨S, hS⟩ : ∃ S, w.heap.size = S := ⟨_, rfl⟩
  have HS := Lib.hid hS
  have hps : p < S := by have := hp.sz; omega
  obtain ⟨W1, hW1⟩ : ∃ W, w.alloc (.cells #[.int .i64 0, .string ⟨#[]⟩, .slice none 0 0] 64) = W := ⟨_, rfl⟩
  have HW1 := Lib.hid hW1
  have HG1 : Hid (N3 W1 S 0 ⟨#[]⟩ (.slice none 0 0)) := Lib.hid (by rw [← hW1, ← hS]; exact n3_new w _ _ _ _)
  have hb1 : Below w.heap.size w W1 := by rw [← hW1]; exact (Below.refl _ _).alloc (Nat.le_refl _) _
  have HP1 := Lib.hid (hp.kept hb1)
  have HN1 : Hid (Inside p (p + 1) w W1) := Lib.hid (in_below hb1)
  have hz1 : S + 1 ≤ W1.heap.size := by rw [← hW1, ← hS]; simp
  clear hb1 hop hI hi hK hF hp hW1
  go_enter Try.func43, Try.ntmps43
  go_wp2_with fail
  rw [HW1.out]
  try rw [hS]
  go_at_call 36
  refine (peek_any s hs p i I O HI.out HLE.out _ HP1.out).mono ?_
  rintro e w2 ⟨rfl, hb2⟩
  have HG2 := Lib.hid (HG1.out.kept hb2)
  have HP2 := Lib.hid (HP1.out.kept hb2)
  have HN2 := Lib.hid (HN1.out.trans (in_below hb2))
  have hz2 : S + 1 ≤ w2.heap.size := by have := hb2.size; omega
  clear hb2 hz1
  go_wp2_with fail
  go_at_call 48
  refine (formKind_any _ _ _).mono ?_
  rintro e wq ⟨rfl, hwq⟩
  subst hwq
  rw [HK.out]
  obtain ⟨N, hN⟩ : ∃ N, wq.heap.size = N := ⟨_, rfl⟩
  obtain ⟨W3, hW3⟩ : ∃ W, wq.alloc (.cells #[.int .i64 K0, .string ⟨#[]⟩, .slice none 0 0] 64) = W := ⟨_, rfl⟩
  have hb3 : Below wq.heap.size wq W3 := by rw [← hW3]; exact (Below.refl _ _).alloc (Nat.le_refl _) _
  have HG3 := Lib.hid (HG2.out.kept hb3)
  have HP3 := Lib.hid (HP2.out.kept hb3)
  have HN3 := Lib.hid (HN2.out.trans (in_below hb3))
  have HB3 : Hid (N3 W3 N K0 ⟨#[]⟩ (.slice none 0 0)) := Lib.hid (by rw [← hW3, ← hN]; exact n3_new wq _ _ _ _)
  have hz3 : W3.heap.size = N + 1 := by rw [← hW3, ← hN]; simp
  have hSN : S < N := by omega
  have HW3 := Lib.hid hW3
  clear hb3 hW3 hz2
  go_wp2_with fail
  rw [HW3.out]
  try rw [hN]
  have hz8 : z ≤ 8 := by rw [← hz, ← HF.out]; exact form_le K0
  have s0 : IntKind.i64.wrap ((F0.size : Int) - 1) = (z : Int) - 1 := by rw [hz]; exact IntWalk.i64_in _ (by omega)
  by_cases hl : K0 ≠ 0 ∧ (i : Int) + O + (z - 1 : Nat) ≤ 2000
  case neg =>
    have HR : Hid (R = none) := Lib.hid (by rw [← hR]; exact if_neg hl)
    have HL : Hid ((K0 != 0) = false ∨ 2000 < I + O + ((z : Int) - 1)) := Lib.hid (by
      by_cases h0 : K0 = 0
      · left; subst h0; rfl
      · right; have := hz2 h0; have := HI.out; omega)
    have hzz : (-1 : Int) ≤ (z : Int) - 1 ∧ (z : Int) - 1 ≤ 10 := by omega
    clear hl hz2 hz hR
    obtain ⟨b0, b1, b2, g0, g1, g2, bz⟩ := HB3.out
    go_cut [10] (fun ev wx => ∃ k4 : Int, ev = .iface 57 (.agg #[.int .i64 k4]) ∧ Hid (N3 wx N K0 ⟨#[]⟩ (.slice none 0 0)) ∧ Hid (N3 wx S 0 ⟨#[]⟩ (.slice none 0 0)) ∧ Hid (Inside p (p + 1) w wx))
    case first =>
      go_region_with (first | (go_at_call 44; refine (exprForm_any _ _).mono ?_; rintro e wx ⟨rfl, rfl⟩; rw [HF.out]) | (go_at_call 40; refine (take_no s hs p i I O ((z : Int) - 1) _ HI.out HLE.out (by omega) (by omega) (by omega) (by omega) HL.out _ (HP3.out.kept (Below.refl _ _).drew)).mono ?_; rintro e w4 ⟨v4, rfl, ⟨k4, rfl⟩, hb4⟩; have HB4 := Lib.hid ((HB3.out.kept (Below.refl _ _).drew).kept hb4); have HG4 := Lib.hid ((HG3.out.kept (Below.refl _ _).drew).kept hb4); have HN4 := Lib.hid ((HN3.out.trans (in_below (Below.refl _ _).drew)).trans (in_below hb4)); clear hb4))
      all_goals (try go_wp2_with fail)
      all_goals go_meet
      all_goals exact ⟨_, rfl, HB4, HG4, HN4⟩
    case rest =>
      obtain ⟨k4, rfl, HB4, HG4, HN4⟩ := hcut
      clear b0 b1 b2 g0 g1 g2 bz
      go_wp2_with fail
      go_loopw [10, 11] (fun ev iv wr => ev = .iface 57 (.agg #[.int .i64 k4]) ∧ Hid (N3 wr N K0 ⟨#[]⟩ (.slice none 0 0)) ∧ Hid (N3 wr S 0 ⟨#[]⟩ (.slice none 0 0)) ∧ Hid (Inside p (p + 1) w wr)) (fun _ _ _ => 0)
      case atStart => exact ⟨rfl, HB4, HG4, HN4⟩
      case round =>
        obtain ⟨rfl, HB5, HG5, HN5⟩ := hrel
        obtain ⟨q0, q1, q2, q3, q4, q5, qz⟩ := HB5.out
        obtain ⟨p0, p1, p2, f0, f1, f2, psz⟩ := HG5.out
        go_wp2_with fail
        exact bodyPost_ret (v := .tuple #[.agg #[.int .i64 K0, .string ⟨#[]⟩, .slice none 0 0], .iface 57 (.agg #[.int .i64 k4])]) (by simp [results, Try.results43, go_sem, p0, p1, p2, psz]) rfl (FmRet.of (r := none) ⟨_, _, _, _, _, _, rfl, ⟨_, rfl⟩, put3_in HS.out HN5.out _ _ _⟩ HR.out)
  case pos =>
    obtain ⟨hl1, hl2⟩ := hl
    have hO3 : O ≤ 2000 := by omega
    have HR : Hid (R = rf (fun n O => lim O (px s d n)) s (z - 1) K0 1 e0 [] (i + 1) (O - 1 + (z - 1 : Nat))) := Lib.hid (by rw [← hR]; exact if_pos ⟨hl1, hl2⟩)
    have hzg := hz2 hl1
    have hlt : i < s.size := fk_lt (by rw [HK.out]; exact hl1)
    have HLT := Lib.hid hlt
    have HKB : Hid ((K0 != 0) = true) := Lib.hid (by simpa using hl1)
    have HL : Hid (I + O + ((z : Int) - 1) ≤ 2000) := Lib.hid (by have := HI.out; omega)
    have HSZ0 : Hid ((formX K0).size = 1 + (z - 1)) := Lib.hid (by rw [HF.out]; omega)
    have HO0 : Hid (O - 1 + ((z : Int) - 1) = O - 1 + ((z - 1 : Nat) : Int)) := Lib.hid (by omega)
    have HPS := Lib.hid hps
    have hpn : p < N := by omega
    have HPN := Lib.hid hpn
    have HSN := Lib.hid hSN
    have HSW : Hid (w.heap.size ≤ N) := Lib.hid (by rw [HS.out]; omega)
    obtain ⟨Z, hZ⟩ : ∃ Z : Nat, z - 1 = Z := ⟨_, rfl⟩
    rw [hZ] at HR HSZ0 HO0
    have hZ7 : Z ≤ 7 := by omega
    clear hl2 hz2 hR hlt hz
    obtain ⟨b0, b1, b2, g0, g1, g2, bz⟩ := HB3.out
    go_cut [10] (fun ev wx => ev = .nilIface ∧ Hid (N3 wx N K0 ⟨#[]⟩ (.slice none 0 0)) ∧ Hid (N3 wx S 0 ⟨#[]⟩ (.slice none 0 0)) ∧ Hid (Inside p (p + 1) w wx) ∧ Hid (LR wx p s (I + 1) (O - 1 + ((z : Int) - 1))) ∧ Hid (N + 1 ≤ wx.heap.size))
    case first =>
      go_region_with (first | (go_at_call 44; refine (exprForm_any _ _).mono ?_; rintro e wx ⟨rfl, rfl⟩; rw [HF.out]) | (go_at_call 40; refine (take_is _ (by first | exact HKB.out | rfl) s hs p i I O ((z : Int) - 1) HI.out HLT.out (by omega) (by omega) (by omega) (by omega) HL.out _ (HP3.out.kept (Below.refl _ _).drew)).mono ?_; rintro e w4 ⟨rfl, hp4, hn4⟩; have HB4 := Lib.hid ((HB3.out.kept (Below.refl _ _).drew).inside hn4 HPN.out); have HG4 := Lib.hid ((HG3.out.kept (Below.refl _ _).drew).inside hn4 HPS.out); have HN4 := Lib.hid ((HN3.out.trans (in_below (Below.refl _ _).drew)).trans (hn4)); have HP4 := Lib.hid hp4; have hz4 := Lib.hid hn4.size; clear hp4 hn4))
      all_goals (try go_wp2_with fail)
      all_goals go_meet
      all_goals exact ⟨rfl, HB4, HG4, HN4, HP4, Lib.hid (by have h1 := hz4.out; simp at h1; omega)⟩
    case rest =>
      obtain ⟨rfl, HB4, HG4, HN4, HP4, HZ4⟩ := hcut
      clear b0 b1 b2 g0 g1 g2 bz
      go_wp2_with fail
      go_loopw [10, 11] (fun ev iv wr => (∃ (j : Nat) (k4 a : Int) (t : ByteArray) (q : Option Addr) (l c : Nat), ev = .iface 57 (.agg #[.int .i64 k4]) ∧ iv = .int .i64 (j : Int) ∧ Hid (N3 wr N a t (.slice q l c)) ∧ Hid (N3 wr S 0 ⟨#[]⟩ (.slice none 0 0)) ∧ Hid (Inside p (p + 1) w wr) ∧ Hid (R = none)) ∨ (∃ (k : Int) (j r n hh : Nat) (m : ByteArray) (L : List XV) (v : Value) (NI Ow : Int), ev = .nilIface ∧ iv = .int .i64 (j : Int) ∧ 1 ≤ j ∧ (formX k).size = j + r ∧ NI = (n : Int) ∧ n ≤ s.size ∧ Ow = O - 1 + (r : Int) ∧ hh ≤ wr.heap.size ∧ N < hh ∧ L.length ≤ j ∧ Hid (N3 wr N k m v) ∧ Hid (N3 wr S 0 ⟨#[]⟩ (.slice none 0 0)) ∧ Hid (LR wr p s NI Ow) ∧ Hid (KRel wr (N + 1) hh v L) ∧ Hid (Inside p (p + 1) w wr) ∧ Hid (R = rf (fun n O => lim O (px s d n)) s r k j m (L.map (·.1)) n Ow))) (fun _ iv _ => 20 - (intOf iv).toNat)
      case atStart => exact .inr ⟨K0, 1, Z, i + 1, N + 1, ⟨#[]⟩, [], .slice none 0 0, I + 1, _, rfl, rfl, by omega, HSZ0.out, by have := HI.out; omega, HLT.out, HO0.out, HZ4.out, by omega, by simp, HB4, HG4, HP4, Lib.hid (.inl ⟨rfl, rfl⟩), HN4, Lib.hid (by rw [HR.out, HO0.out]; rfl)⟩
      case round =>
        clear HB4 HG4 HN4 HP4 HZ4 HR HKB HL
        rcases hrel with ⟨j, k4, a, t, q, l, c, rfl, rfl, HB5, HG5, HN5, HR⟩ | ⟨k, j, r, n, hh, m, L, v, NI, Ow, rfl, rfl, hj1, hsz, hNI, hns, hOw, hhw, hNh, hLj, HB5, HG5, HP5, HKR5, HN5, HE⟩
        case inl =>
          obtain ⟨q0, q1, q2, q3, q4, q5, qz⟩ := HB5.out
          obtain ⟨p0, p1, p2, f0, f1, f2, psz⟩ := HG5.out
          go_wp2_with fail
          exact bodyPost_ret (v := .tuple #[.agg #[.int .i64 a, .string t, .slice q l c], .iface 57 (.agg #[.int .i64 k4])]) (by simp [results, Try.results43, go_sem, p0, p1, p2, psz]) rfl (FmRet.of (r := none) ⟨_, _, _, _, _, _, rfl, ⟨_, rfl⟩, put3_in HS.out HN5.out _ _ _⟩ HR.out)
        case inr =>
          have HNI := Lib.hid hNI
          have HNS := Lib.hid hns
          have HOW := Lib.hid hOw
          have hk8 := form_le k
          have HSZ := Lib.hid hsz
          obtain ⟨F, hF⟩ : ∃ F, formX k = F := ⟨_, rfl⟩
          have HFK := Lib.hid hF
          rw [hF] at hsz hk8
          obtain ⟨v1, v2, v3, rfl⟩ := HKR5.out.slice
          cases r with
          | zero =>
            have hji : ¬ (j : Int) < (F.size : Int) := by omega
            have HRR : Hid (R = some (k, m, L.map (·.1), n)) := Lib.hid HE.out
            have HP6 := Lib.hid (HP5.out.at0 (J := (n : Int)) (Q := O - 1) HNI.out (by omega))
            clear hNI hOw hsz
            obtain ⟨x0, x1, x2, x3, x4, x5, xz⟩ := HB5.out
            go_wp2_with fail
            go_at_call 44
            refine (exprForm_any _ _).mono ?_
            rintro e wx ⟨rfl, hwx⟩
            subst hwx
            rw [HFK.out]
            obtain ⟨q0, q1, q2, q3, q4, q5, qz⟩ := HB5.out
            obtain ⟨p0, p1, p2, f0, f1, f2, psz⟩ := HG5.out
            go_wp2_with fail
            exact bodyPost_ret (v := .tuple #[.agg #[.int .i64 k, .string m, .slice v1 v2 v3], .nilIface]) (by simp [results, Try.results43, go_sem, p0, p1, p2, psz]) rfl (FmRet.of (r := some (k, m, (L.map (fun y : XV => y.1) : List Ex), n)) ⟨.slice v1 v2 v3, rfl, put3_ex HS.out (HKR5.out.node hhw (by have h1 := HSZ.out; have h2 := form_le k; omega) k 0 e0 m) (by omega) _ _ _, put3_lr HP6.out HPS.out _ _ _, put3_in HS.out HN5.out _ _ _⟩ HRR.out)
          | succ r =>
            have hji : (j : Int) < (F.size : Int) := by omega
            have hjn : j < F.size := by omega
            have hj0 : (0 : Int) ≤ (j : Int) := by omega
            have s1 : IntKind.i64.wrap ((j : Int) + 1) = (j : Int) + 1 := IntWalk.i64_in _ (by omega)
            have r1 := by8_idx Try.prog 9 Try.underlying9 hjn
            have hor : 1 ≤ Ow ∧ Ow ≤ 3000 := by omega
            obtain ⟨ho1, ho2⟩ := hor
            obtain ⟨c, hc⟩ : ∃ c, by8 F j = c := ⟨_, rfl⟩
            have HC : Hid (by8 (formX k) j = c) := Lib.hid (by rw [hF]; exact hc)
            rw [hc] at r1
            have hr7 : r ≤ 7 := by omega
            clear hc hNI hOw hsz hF hjn
            obtain ⟨x0, x1, x2, x3, x4, x5, xz⟩ := HB5.out
            by_cases g1 : c = 120
            case pos =>
              subst g1
              have HCK : Hid (by8 (formX k) j = 120) := HC
              by_cases hyes : sml (by8 s n) = true ∧ (n : Int) + Ow ≤ 2000
              case pos =>
                obtain ⟨hsm, hlm⟩ := hyes
                have HSM := Lib.hid hsm
                have HNL : Hid (n < s.size) := Lib.hid (sml_lt hsm)
                have HLM : Hid (NI + Ow + 0 ≤ 2000) := Lib.hid (by have := HNI.out; omega)
                have HE2 : Hid (R = rf (fun n O => lim O (px s d n)) s r k (j + 1) (s.extract n (n + 1)) (L.map (·.1)) (n + 1) (Ow - 1)) := Lib.hid (by rw [HE.out, rf, if_pos HCK.out, if_pos ⟨hsm, hlm⟩])
                clear hsm hlm
                go_wp2_with fail
                go_at_call 44
                refine (exprForm_any _ _).mono ?_
                rintro e wx ⟨rfl, rfl⟩
                rw [HFK.out]
                go_wp2_with fail
                go_at_call 44
                refine (exprForm_any _ _).mono ?_
                rintro e wx ⟨rfl, rfl⟩
                rw [HFK.out]
                go_wp2_with fail
                go_at_call 36
                refine (peek_any s hs p n NI _ HNI.out HNS.out _ HP5.out).mono ?_
                rintro e w6 ⟨rfl, hb6⟩
                have HB6 := Lib.hid (HB5.out.kept hb6)
                have HG6 := Lib.hid (HG5.out.kept hb6)
                have HP6 := Lib.hid (HP5.out.kept hb6)
                have HKR6 := Lib.hid (HKR5.out.kept hb6)
                have HN6 := Lib.hid (HN5.out.trans (in_below hb6))
                have HZ6 : Hid (_ ≤ _) := Lib.hid hb6.size
                clear hb6
                go_wp2_with fail
                go_at_call 39
                refine (isValueLetter_any _ _).mono ?_
                rintro e wq ⟨rfl, rfl⟩
                rw [HSM.out]
                go_wp2_with fail
                go_at_call 40
                refine (take_is _ rfl s hs p n NI Ow 0 HNI.out HNL.out (by omega) (by omega) (by omega) (by omega) HLM.out _ HP6.out).mono ?_
                rintro e w7 ⟨rfl, hp7, hn7⟩
                have HB7 := Lib.hid (HB6.out.inside hn7 HPN.out)
                have HG7 := Lib.hid (HG6.out.inside hn7 HPS.out)
                have HKR7 := Lib.hid (HKR6.out.inside hn7 (Nat.lt_succ_of_lt HPN.out))
                have HN7 := Lib.hid (HN6.out.trans hn7)
                have HZ7 : Hid (_ ≤ _) := Lib.hid hn7.size
                have HP7 := Lib.hid (hp7.at0 (J := NI + 1) (Q := Ow - 1) rfl (by omega))
                have HH7 : Hid (hh ≤ (w7.setCell ⟨N, 1, none⟩ (.string (s.extract n (n + 1)))).heap.size) := Lib.hid (by have h1 := HZ6.out; have h2 := HZ7.out; simp; omega)
                clear hp7 hn7 x0 x1 x2 x3 x4 x5 xz
                obtain ⟨x0, x1, x2, x3, x4, x5, xz⟩ := HB7.out
                go_wp2_with fail
                go_roundw
                case rel => exact .inr ⟨k, j + 1, r, n + 1, hh, s.extract n (n + 1), L, _, NI + 1, Ow - 1, rfl, by go_num, by omega, by have := HSZ.out; omega, by have := HNI.out; omega, HNL.out, by have := HOW.out; omega, HH7.out, hNh, by omega, Lib.hid (HB7.out.set1 _), Lib.hid (HG7.out.away HSN.out _ _), Lib.hid (HP7.out.away HPN.out _ _), Lib.hid (HKR7.out.away (Nat.lt_succ_self _) _ _), Lib.hid (HN7.out.put HSW.out _ _), HE2⟩
                case measure => simp [intOf]; omega
              case neg =>
                have HRN : Hid (R = none) := Lib.hid (by rw [HE.out, rf, if_pos HCK.out, if_neg hyes])
                obtain ⟨bs, hbs⟩ : ∃ bs, sml (by8 s n) = bs := ⟨_, rfl⟩
                have HSM := Lib.hid hbs
                have HLM : Hid (bs = false ∨ 2000 < NI + Ow + 0) := Lib.hid (by
                  rw [hbs] at hyes
                  cases bs with
                  | false => exact .inl rfl
                  | true => right; have := HNI.out; have : ¬ (n : Int) + Ow ≤ 2000 := fun h => hyes ⟨rfl, h⟩; omega)
                clear hyes hbs
                go_wp2_with fail
                go_at_call 44
                refine (exprForm_any _ _).mono ?_
                rintro e wx ⟨rfl, rfl⟩
                rw [HFK.out]
                go_wp2_with fail
                go_at_call 44
                refine (exprForm_any _ _).mono ?_
                rintro e wx ⟨rfl, rfl⟩
                rw [HFK.out]
                go_wp2_with fail
                go_at_call 36
                refine (peek_any s hs p n NI _ HNI.out HNS.out _ HP5.out).mono ?_
                rintro e w6 ⟨rfl, hb6⟩
                have HB6 := Lib.hid (HB5.out.kept hb6)
                have HG6 := Lib.hid (HG5.out.kept hb6)
                have HP6 := Lib.hid (HP5.out.kept hb6)
                have HKR6 := Lib.hid (HKR5.out.kept hb6)
                have HN6 := Lib.hid (HN5.out.trans (in_below hb6))
                have HZ6 : Hid (_ ≤ _) := Lib.hid hb6.size
                clear hb6
                go_wp2_with fail
                go_at_call 39
                refine (isValueLetter_any _ _).mono ?_
                rintro e wq ⟨rfl, rfl⟩
                rw [HSM.out]
                go_wp2_with fail
                go_at_call 40
                refine (take_no s hs p n NI Ow 0 _ HNI.out HNS.out (by omega) (by omega) (by omega) (by omega) HLM.out _ HP6.out).mono ?_
                rintro e w7 ⟨v7, rfl, ⟨k7, rfl⟩, hb7⟩
                have HB7 := Lib.hid (HB6.out.kept hb7)
                have HG7 := Lib.hid (HG6.out.kept hb7)
                have HP7 := Lib.hid (HP6.out.kept hb7)
                have HKR7 := Lib.hid (HKR6.out.kept hb7)
                have HN7 := Lib.hid (HN6.out.trans (in_below hb7))
                have HZ7 : Hid (_ ≤ _) := Lib.hid hb7.size
                clear hb7 x0 x1 x2 x3 x4 x5 xz
                obtain ⟨x0, x1, x2, x3, x4, x5, xz⟩ := HB7.out
                go_wp2_with fail
                go_roundw
                case rel => exact .inl ⟨j + 1, k7, k, _, _, _, _, rfl, by go_num, Lib.hid (HB7.out.set1 _), Lib.hid (HG7.out.away HSN.out _ _), Lib.hid (HN7.out.put HSW.out _ _), HRN⟩
                case measure => simp [intOf]; omega
            by_cases g2 : c = 69
            case pos =>
              subst g2
              obtain ⟨i0, hi0, hz0, hzz1, hzz2⟩ := info_parts infoEx
              rcases hlim : lim Ow (px s d n) with _ | ⟨x, n'⟩
              case none =>
                have HLIM := Lib.hid hlim
                have HRN : Hid (R = none) := Lib.hid (by rw [HE.out]; exact rf_E0 HC.out hlim)
                clear hlim
                obtain ⟨E, hE⟩ : ∃ E, wr.heap.size = E := ⟨_, rfl⟩
                obtain ⟨W6, hW6⟩ : ∃ W, wr.alloc (.cells #[.int .i64 0, .int .i64 0, .string ⟨#[]⟩, .string ⟨#[]⟩, .slice none 0 0] 24) = W := ⟨_, rfl⟩
                have hb6 : Below wr.heap.size wr W6 := by rw [← hW6]; exact (Below.refl _ _).alloc (Nat.le_refl _) _
                have HR6 : Hid (R5 W6 E) := Lib.hid (by rw [← hW6, ← hE]; exact r5_new wr _)
                have hz6 : W6.heap.size = E + 1 := by rw [← hW6, ← hE]; simp
                have HB6 := Lib.hid (HB5.out.kept hb6)
                have HG6 := Lib.hid (HG5.out.kept hb6)
                have HP6 := Lib.hid (HP5.out.kept hb6)
                have HKR6 := Lib.hid (HKR5.out.kept hb6)
                have HN6 := Lib.hid (HN5.out.trans (in_below hb6))
                have HZ6 : Hid (_ ≤ _) := Lib.hid hb6.size
                have HW6 := Lib.hid hW6
                have hNE : N < E := by omega
                have hpE : p < E := by have := HPN.out; omega
                have hkr : KRel wr (N + 1) hh (.slice v1 v2 v3) L := HKR5.out
                clear hb6 hW6 hkr
                go_wp2_with fail
                go_at_call 44
                refine (exprForm_any _ _).mono ?_
                rintro e wx ⟨rfl, hwx⟩
                subst hwx
                rw [HFK.out]
                go_wp2_with fail
                go_at_call 44
                refine (exprForm_any _ _).mono ?_
                rintro e wx ⟨rfl, hwx⟩
                subst hwx
                rw [HFK.out]
                go_wp2_with fail
                rw [HW6.out]
                try rw [hE]
                go_at_call 45
                refine (HOP.out W6 n NI Ow HN6.out HNI.out HNS.out ho1 ho2 HP6.out).mono ?_
                rintro e w7 hx7
                rw [HLIM.out] at hx7
                obtain ⟨y1, y2, y3, y4, y5, y6, y7, v7, rfl, ⟨k7, rfl⟩, hn7⟩ := hx7
                have HB7 := Lib.hid (HB6.out.inside hn7 HPN.out)
                have HG7 := Lib.hid (HG6.out.inside hn7 HPS.out)
                have HKR7 := Lib.hid (HKR6.out.inside hn7 (Nat.lt_succ_of_lt HPN.out))
                have HN7 := Lib.hid (HN6.out.trans hn7)
                have HZ7 : Hid (_ ≤ _) := Lib.hid hn7.size
                have HR7 := Lib.hid (HR6.out.inside hn7 hpE)
                have hsz7 : E + 1 ≤ w7.heap.size := by have := hn7.size; omega
                have hnw7 : w.heap.size ≤ E := by have := HS.out; omega
                have HKR7e := HKR7
                clear hn7 x0 x1 x2 x3 x4 x5 xz
                obtain ⟨W8, hW8⟩ : ∃ W, (((((w7.setCell ⟨E, 0, none⟩ (.int .i64 y1)).setCell ⟨E, 1, none⟩ (.int .i64 y2)).setCell ⟨E, 2, none⟩ (.string y3)).setCell ⟨E, 3, none⟩ (.string y4)).setCell ⟨E, 4, none⟩ (.slice y5 y6 y7)) = W := ⟨_, rfl⟩
                have HW8 := Lib.hid hW8
                have hz8 : W8.heap.size = w7.heap.size := by rw [← hW8]; exact put5_sz _ _ _ _ _
                have hq8 : ∀ q, q ≠ E → W8.heap[q]? = w7.heap[q]? := fun q h => by rw [← hW8]; exact put5_heap _ _ _ _ _ h
                have HB8 := Lib.hid (HB7.out.keep (by rw [hz8]; exact Nat.le_refl _) (hq8 N (by omega)))
                have HG8 := Lib.hid (HG7.out.keep (by rw [hz8]; exact Nat.le_refl _) (hq8 S (by omega)))
                have HN8 : Hid (Inside p (p + 1) w W8) := Lib.hid (by rw [← hW8]; exact ((((HN7.out.put (by omega) 0 _).put (by omega) 1 _).put (by omega) 2 _).put (by omega) 3 _).put (by omega) 4 _)
                have HKR8 := Lib.hid (HKR7e.out.keep (by rw [hz8]; exact Nat.le_refl _) (fun q h1 h2 h3 => hq8 q (by omega)))
                have HO8 : Hid (W8.ownsRow (N + 1) 24 5 (.slice v1 v2 v3) L.length (fives L)) := Lib.hid HKR8.out.own
                obtain ⟨p0, p1, p2, p3, p4, f0, f1, f2, f3, f4, psz⟩ := HR7.out
                obtain ⟨x0, x1, x2, x3, x4, x5, xz⟩ := HB7.out
                have hEN : ¬ E = N := by omega
                have hNE2 : ¬ N = E := by omega
                have hL8 : L.length ≤ 8 := by have := HSZ.out; have := form_le k; omega
                clear hW8
                go_wp2_with (at_builtin; suffices hgoal : _ ∧ True from hgoal.1)
                refine ⟨?_, trivial⟩
                rw [HW8.out]
                try rw [hz8]
                refine wpList_append_lies _ rfl _ _ 22 rfl (N + 1) 24 i0 _ 5 72 Try.underlying22 hi0 hz0 hzz1 hzz2 rfl (by omega) (.slice v1 v2 v3) L.length (fives L) rfl (HO8.out.alloc _) ⟨w7.heap.size, 0, none⟩ 1 1 [.int .i64 y1, .int .i64 y2, .string y3, .string y4, .slice y5 y6 y7] rfl rfl (World.news_of_block (cs := #[.int .i64 y1, .int .i64 y2, .string y3, .string y4, .slice y5 y6 y7]) (t := 24) (fr := (0, 0)) (by rw [← hz8]; exact heap_alloc_new W8 _)) (by simp [Value.oneCell']) (by omega) (by unfold maxLen; omega) (by omega) (by simp; omega) (w7.heap.size + 1) (by simp [hz8]) ?_
                intro g9 cap9 w9 hown9 hgrow9 hat9 hlt9
                have hob : ∀ q, (Value.slice v1 v2 v3).ownBlock = some q → N + 1 ≤ q := fun q h => HKR8.out.ob h
                have hz9 : W8.heap.size + 1 ≤ w9.heap.size := by have := hgrow9.size; simp at this; omega
                have HB9 := Lib.hid (HB8.out.keep (by omega) (grown_old hgrow9 hob (by omega) HB8.out.sz))
                have HG9 := Lib.hid (HG8.out.keep (by omega) (grown_old hgrow9 hob (by omega) HG8.out.sz))
                have HN9 := Lib.hid (HN8.out.grown hgrow9 (fun q h => by have := hob q h; omega))
                clear hown9 hgrow9 hat9 p0 p1 p2 p3 p4 f0 f1 f2 f3 f4 psz x0 x1 x2 x3 x4 x5 xz
                obtain ⟨x0, x1, x2, x3, x4, x5, xz⟩ := HB9.out
                go_wp2_with fail
                go_roundw
                case rel => exact .inl ⟨j + 1, k7, k, m, _, _, _, rfl, by go_num, Lib.hid (HB9.out.set2 _), Lib.hid (HG9.out.away HSN.out _ _), Lib.hid (HN9.out.put HSW.out _ _), HRN⟩
                case measure => simp [intOf]; omega
              case some =>
                have HLIM := Lib.hid hlim
                have HLI := Lib.hid (lim_in HNS.out hlim)
                have HE2 : Hid (R = rf (fun n O => lim O (px s d n)) s r k (j + 1) m ((L ++ [(x, Value.bool false)]).map (fun y : XV => y.1)) n' (Ow - 1)) := Lib.hid (by rw [HE.out, List.map_append]; exact rf_E HC.out hlim)
                clear hlim
                obtain ⟨E, hE⟩ : ∃ E, wr.heap.size = E := ⟨_, rfl⟩
                obtain ⟨W6, hW6⟩ : ∃ W, wr.alloc (.cells #[.int .i64 0, .int .i64 0, .string ⟨#[]⟩, .string ⟨#[]⟩, .slice none 0 0] 24) = W := ⟨_, rfl⟩
                have hb6 : Below wr.heap.size wr W6 := by rw [← hW6]; exact (Below.refl _ _).alloc (Nat.le_refl _) _
                have HR6 : Hid (R5 W6 E) := Lib.hid (by rw [← hW6, ← hE]; exact r5_new wr _)
                have hz6 : W6.heap.size = E + 1 := by rw [← hW6, ← hE]; simp
                have HB6 := Lib.hid (HB5.out.kept hb6)
                have HG6 := Lib.hid (HG5.out.kept hb6)
                have HP6 := Lib.hid (HP5.out.kept hb6)
                have HKR6 := Lib.hid (HKR5.out.kept hb6)
                have HN6 := Lib.hid (HN5.out.trans (in_below hb6))
                have HZ6 : Hid (_ ≤ _) := Lib.hid hb6.size
                have HW6 := Lib.hid hW6
                have hNE : N < E := by omega
                have hpE : p < E := by have := HPN.out; omega
                have hkr : KRel wr (N + 1) hh (.slice v1 v2 v3) L := HKR5.out
                clear hb6 hW6 hkr
                go_wp2_with fail
                go_at_call 44
                refine (exprForm_any _ _).mono ?_
                rintro e wx ⟨rfl, hwx⟩
                subst hwx
                rw [HFK.out]
                go_wp2_with fail
                go_at_call 44
                refine (exprForm_any _ _).mono ?_
                rintro e wx ⟨rfl, hwx⟩
                subst hwx
                rw [HFK.out]
                go_wp2_with fail
                rw [HW6.out]
                try rw [hE]
                go_at_call 45
                refine (HOP.out W6 n NI Ow HN6.out HNI.out HNS.out ho1 ho2 HP6.out).mono ?_
                rintro e w7 hx7
                rw [HLIM.out] at hx7
                obtain ⟨v, rfl, hex7, hp7, hn7⟩ := hx7
                obtain ⟨xa, xc, rfl, _⟩ := hex7.at.slice
                have HB7 := Lib.hid (HB6.out.inside hn7 HPN.out)
                have HG7 := Lib.hid (HG6.out.inside hn7 HPS.out)
                have HKR7 := Lib.hid (HKR6.out.inside hn7 (Nat.lt_succ_of_lt HPN.out))
                have HN7 := Lib.hid (HN6.out.trans hn7)
                have HZ7 : Hid (_ ≤ _) := Lib.hid hn7.size
                have HR7 := Lib.hid (HR6.out.inside hn7 hpE)
                have hsz7 : E + 1 ≤ w7.heap.size := by have := hn7.size; omega
                have hnw7 : w.heap.size ≤ E := by have := HS.out; omega
                have HKR7e := HKR7
                have HEX7 := Lib.hid hex7
                have HP7 := Lib.hid hp7
                clear hex7 hp7
                clear hn7 x0 x1 x2 x3 x4 x5 xz
                obtain ⟨W8, hW8⟩ : ∃ W, (((((w7.setCell ⟨E, 0, none⟩ (.int .i64 x.k)).setCell ⟨E, 1, none⟩ (.int .i64 x.n)).setCell ⟨E, 2, none⟩ (.string x.m)).setCell ⟨E, 3, none⟩ (.string x.s)).setCell ⟨E, 4, none⟩ (.slice xa x.ks.length xc)) = W := ⟨_, rfl⟩
                have HW8 := Lib.hid hW8
                have hz8 : W8.heap.size = w7.heap.size := by rw [← hW8]; exact put5_sz _ _ _ _ _
                have hq8 : ∀ q, q ≠ E → W8.heap[q]? = w7.heap[q]? := fun q h => by rw [← hW8]; exact put5_heap _ _ _ _ _ h
                have HB8 := Lib.hid (HB7.out.keep (by rw [hz8]; exact Nat.le_refl _) (hq8 N (by omega)))
                have HG8 := Lib.hid (HG7.out.keep (by rw [hz8]; exact Nat.le_refl _) (hq8 S (by omega)))
                have HN8 : Hid (Inside p (p + 1) w W8) := Lib.hid (by rw [← hW8]; exact ((((HN7.out.put (by omega) 0 _).put (by omega) 1 _).put (by omega) 2 _).put (by omega) 3 _).put (by omega) 4 _)
                have HKR8 := Lib.hid (HKR7e.out.keep (by rw [hz8]; exact Nat.le_refl _) (fun q h1 h2 h3 => hq8 q (by omega)))
                have HO8 : Hid (W8.ownsRow (N + 1) 24 5 (.slice v1 v2 v3) L.length (fives L)) := Lib.hid HKR8.out.own
                obtain ⟨p0, p1, p2, p3, p4, f0, f1, f2, f3, f4, psz⟩ := HR7.out
                obtain ⟨x0, x1, x2, x3, x4, x5, xz⟩ := HB7.out
                have hEN : ¬ E = N := by omega
                have hNE2 : ¬ N = E := by omega
                have hL8 : L.length ≤ 8 := by have := HSZ.out; have := form_le k; omega
                clear hW8
                go_wp2_with (at_builtin; suffices hgoal : _ ∧ True from hgoal.1)
                refine ⟨?_, trivial⟩
                rw [HW8.out]
                try rw [hz8]
                refine wpList_append_lies _ rfl _ _ 22 rfl (N + 1) 24 i0 _ 5 72 Try.underlying22 hi0 hz0 hzz1 hzz2 rfl (by omega) (.slice v1 v2 v3) L.length (fives L) rfl (HO8.out.alloc _) ⟨w7.heap.size, 0, none⟩ 1 1 [.int .i64 x.k, .int .i64 x.n, .string x.m, .string x.s, .slice xa x.ks.length xc] rfl rfl (World.news_of_block (cs := #[.int .i64 x.k, .int .i64 x.n, .string x.m, .string x.s, .slice xa x.ks.length xc]) (t := 24) (fr := (0, 0)) (by rw [← hz8]; exact heap_alloc_new W8 _)) (by simp [Value.oneCell']) (by omega) (by unfold maxLen; omega) (by omega) (by simp; omega) (w7.heap.size + 1) (by simp [hz8]) ?_
                intro g9 cap9 w9 hown9 hgrow9 hat9 hlt9
                have hob : ∀ q, (Value.slice v1 v2 v3).ownBlock = some q → N + 1 ≤ q := fun q h => HKR8.out.ob h
                have hz9 : W8.heap.size + 1 ≤ w9.heap.size := by have := hgrow9.size; simp at this; omega
                have HB9 := Lib.hid (HB8.out.keep (by omega) (grown_old hgrow9 hob (by omega) HB8.out.sz))
                have HG9 := Lib.hid (HG8.out.keep (by omega) (grown_old hgrow9 hob (by omega) HG8.out.sz))
                have HN9 := Lib.hid (HN8.out.grown hgrow9 (fun q h => by have := hob q h; omega))
                have HP8 := Lib.hid (HP7.out.keep (by rw [hz8]; exact Nat.le_refl _) (hq8 p (by omega)))
                have HP9 := Lib.hid (HP8.out.keep (by omega) (grown_old hgrow9 hob (by have := HPN.out; omega) HP8.out.sz))
                have HEX8 : Hid (ExIn W8 W6.heap.size w7.heap.size x (.slice xa x.ks.length xc)) := Lib.hid (HEX7.out.keep (by rw [hz8]; exact Nat.le_refl _) (fun q h1 h2 h3 => hq8 q (by omega)))
                have hxp : KRel w9 (N + 1) w9.heap.size (.slice (some ⟨g9, 0, none⟩) (L.length + 1) cap9) (L ++ [(x, .slice xa x.ks.length xc)]) := HKR8.out.push (a := W6.heap.size) (b := w7.heap.size) HEX8.out (by omega) (by omega) (by omega) hown9 hgrow9 (hat9.imp id (fun h => by omega)) hlt9 (by omega)
                have HKR9 := Lib.hid hxp
                have HH9 : Hid (w9.heap.size ≤ (w9.setCell ⟨N, 2, none⟩ (.slice (some ⟨g9, 0, none⟩) (L.length + 1) cap9)).heap.size) := Lib.hid (by simp)
                have hN9 : N < w9.heap.size := by omega
                clear hxp
                clear hown9 hgrow9 hat9 p0 p1 p2 p3 p4 f0 f1 f2 f3 f4 psz x0 x1 x2 x3 x4 x5 xz
                obtain ⟨x0, x1, x2, x3, x4, x5, xz⟩ := HB9.out
                go_wp2_with fail
                go_roundw
                case rel => exact .inr ⟨k, j + 1, r, n', w9.heap.size, m, L ++ [(x, .slice xa x.ks.length xc)], _, (n' : Int), Ow - 1, rfl, by go_num, by omega, by have := HSZ.out; omega, rfl, HLI.out.2.1, by have := HOW.out; omega, HH9.out, hN9, by rw [List.length_append]; simp; omega, Lib.hid (HB9.out.set2 _), Lib.hid (HG9.out.away HSN.out _ _), Lib.hid (HP9.out.away HPN.out _ _), Lib.hid (HKR9.out.away (Nat.lt_succ_self _) _ _), Lib.hid (HN9.out.put HSW.out _ _), Lib.hid (by rw [HE2.out, List.map_append, List.map_append]; rfl)⟩
                case measure => simp [intOf]; omega
            have hx : (c == 120) = false := by rw [beq_eq_false_iff_ne]; exact g1
            have hE : (c == 69) = false := by rw [beq_eq_false_iff_ne]; exact g2
            have hc1 : ¬ by8 (formX k) j = 120 := by rw [HC.out]; exact g1
            have hc2 : ¬ by8 (formX k) j = 69 := by rw [HC.out]; exact g2
            obtain ⟨K1, hK1⟩ : ∃ K1, fk ((formX k).extract 0 j) (by8 s n) = K1 := ⟨_, rfl⟩
            have HK1 : Hid (fk (F.extract 0 j) (by8 s n) = K1) := Lib.hid (by rw [← HFK.out]; exact hK1)
            have hjs : (j : Int) ≤ (F.size : Int) := by omega
            by_cases hyes : K1 ≠ 0 ∧ (n : Int) + Ow ≤ 2000
            case pos =>
              obtain ⟨hk0, hlm⟩ := hyes
              have HKB1 : Hid ((K1 != 0) = true) := Lib.hid (by simpa using hk0)
              have HNL : Hid (n < s.size) := Lib.hid (fk_lt (by rw [HK1.out]; exact hk0))
              have HLM : Hid (NI + Ow + 0 ≤ 2000) := Lib.hid (by have := HNI.out; omega)
              have HSZ1 : Hid ((formX K1).size = j + 1 + r) := Lib.hid (by
                have h := fk_size (k := k) (j := j) (c := by8 s n) hj1 (by rw [HSZ.out]; omega) (by rw [hK1]; exact hk0)
                rw [hK1, HSZ.out] at h
                omega)
              have HE2 : Hid (R = rf (fun n O => lim O (px s d n)) s r K1 (j + 1) m (L.map (fun y : XV => y.1)) (n + 1) (Ow - 1)) := Lib.hid (by rw [HE.out]; exact rf_c hc1 hc2 hK1 hk0 hlm)
              clear hlm hK1 hc1 hc2
              go_wp2_with fail
              go_at_call 44
              refine (exprForm_any _ _).mono ?_
              rintro e wx ⟨rfl, hwx⟩
              subst hwx
              rw [HFK.out]
              go_wp2_with fail
              go_at_call 44
              refine (exprForm_any _ _).mono ?_
              rintro e wx ⟨rfl, hwx⟩
              subst hwx
              rw [HFK.out]
              go_wp2_with fail
              go_cut [] (fun wx => Hid (N3 wx N K1 m (.slice v1 v2 v3)) ∧ Hid (N3 wx S 0 ⟨#[]⟩ (.slice none 0 0)) ∧ Hid (LR wx p s NI Ow) ∧ Hid (KRel wx (N + 1) hh (.slice v1 v2 v3) L) ∧ Hid (Inside p (p + 1) w wx) ∧ Hid (hh ≤ wx.heap.size))
              case first =>
                go_region_with (first | (go_at_call 36; refine (peek_any s hs p n NI _ HNI.out HNS.out _ (HP5.out.kept (Below.refl _ _).drew)).mono ?_; rintro e w6 ⟨rfl, hb6⟩; have HB6 := Lib.hid ((HB5.out.kept (Below.refl _ _).drew).kept hb6); have HG6 := Lib.hid ((HG5.out.kept (Below.refl _ _).drew).kept hb6); have HP6 := Lib.hid ((HP5.out.kept (Below.refl _ _).drew).kept hb6); have HKR6 := Lib.hid ((HKR5.out.kept (Below.refl _ _).drew).kept hb6); have HN6 := Lib.hid ((HN5.out.trans (in_below (Below.refl _ _).drew)).trans (in_below hb6)); have HZ6 : Hid (_ ≤ _) := Lib.hid hb6.size; clear hb6; obtain ⟨z0, z1, z2, z3, z4, z5, zz⟩ := HB6.out) | (go_at_call 48; refine (formKind_any _ _ _).mono ?_; rintro e w7 ⟨rfl, hw7⟩; subst hw7; rw [HK1.out]))
                all_goals (try go_wp2_with fail)
                all_goals go_meet
                all_goals exact ⟨Lib.hid (HB6.out.set0 _), Lib.hid (HG6.out.away HSN.out _ _), Lib.hid (HP6.out.away HPN.out _ _), Lib.hid (HKR6.out.away (Nat.lt_succ_self _) _ _), Lib.hid (HN6.out.put HSW.out _ _), Lib.hid (by have h1 := HZ6.out; simp at h1 ⊢; omega)⟩
              case rest =>
                obtain ⟨HB6, HG6, HP6, HKR6, HN6, HZ6⟩ := hcut
                clear x0 x1 x2 x3 x4 x5 xz
                obtain ⟨y0, y1, y2, y3, y4, y5, yz⟩ := HB6.out
                go_wp2_with fail
                go_at_call 40
                refine (take_is _ (by first | exact HKB1.out | rfl) s hs p n NI Ow 0 HNI.out HNL.out (by omega) (by omega) (by omega) (by omega) HLM.out _ HP6.out).mono ?_
                rintro e w7 ⟨rfl, hp7, hn7⟩
                have HB7 := Lib.hid (HB6.out.inside hn7 HPN.out)
                have HG7 := Lib.hid (HG6.out.inside hn7 HPS.out)
                have HKR7 := Lib.hid (HKR6.out.inside hn7 (Nat.lt_succ_of_lt HPN.out))
                have HN7 := Lib.hid (HN6.out.trans hn7)
                have HZ7 : Hid (_ ≤ _) := Lib.hid hn7.size
                have HP7 := Lib.hid (hp7.at0 (J := NI + 1) (Q := Ow - 1) rfl (by omega))
                have HH7 : Hid (hh ≤ w7.heap.size) := Lib.hid (by have h1 := HZ6.out; have h2 := HZ7.out; omega)
                clear hp7 hn7 y0 y1 y2 y3 y4 y5 yz
                go_wp2_with fail
                go_roundw
                case rel => exact .inr ⟨K1, j + 1, r, n + 1, hh, m, L, _, NI + 1, Ow - 1, rfl, by go_num, by omega, HSZ1.out, by have := HNI.out; omega, HNL.out, by have := HOW.out; omega, HH7.out, hNh, by omega, HB7, HG7, HP7, HKR7, HN7, HE2⟩
                case measure => simp [intOf]; omega
            case neg =>
              have HRN : Hid (R = none) := Lib.hid (by rw [HE.out]; exact rf_c0 hc1 hc2 hK1 hyes)
              have HLM : Hid ((K1 != 0) = false ∨ 2000 < NI + Ow + 0) := Lib.hid (by
                by_cases h0 : K1 = 0
                · left; subst h0; rfl
                · right; have := HNI.out; have : ¬ (n : Int) + Ow ≤ 2000 := fun h => hyes ⟨h0, h⟩; omega)
              clear hyes hK1 hc1 hc2
              go_wp2_with fail
              go_at_call 44
              refine (exprForm_any _ _).mono ?_
              rintro e wx ⟨rfl, hwx⟩
              subst hwx
              rw [HFK.out]
              go_wp2_with fail
              go_at_call 44
              refine (exprForm_any _ _).mono ?_
              rintro e wx ⟨rfl, hwx⟩
              subst hwx
              rw [HFK.out]
              go_wp2_with fail
              go_cut [] (fun wx => Hid (N3 wx N K1 m (.slice v1 v2 v3)) ∧ Hid (N3 wx S 0 ⟨#[]⟩ (.slice none 0 0)) ∧ Hid (LR wx p s NI Ow) ∧ Hid (KRel wx (N + 1) hh (.slice v1 v2 v3) L) ∧ Hid (Inside p (p + 1) w wx) ∧ Hid (hh ≤ wx.heap.size))
              case first =>
                go_region_with (first | (go_at_call 36; refine (peek_any s hs p n NI _ HNI.out HNS.out _ (HP5.out.kept (Below.refl _ _).drew)).mono ?_; rintro e w6 ⟨rfl, hb6⟩; have HB6 := Lib.hid ((HB5.out.kept (Below.refl _ _).drew).kept hb6); have HG6 := Lib.hid ((HG5.out.kept (Below.refl _ _).drew).kept hb6); have HP6 := Lib.hid ((HP5.out.kept (Below.refl _ _).drew).kept hb6); have HKR6 := Lib.hid ((HKR5.out.kept (Below.refl _ _).drew).kept hb6); have HN6 := Lib.hid ((HN5.out.trans (in_below (Below.refl _ _).drew)).trans (in_below hb6)); have HZ6 : Hid (_ ≤ _) := Lib.hid hb6.size; clear hb6; obtain ⟨z0, z1, z2, z3, z4, z5, zz⟩ := HB6.out) | (go_at_call 48; refine (formKind_any _ _ _).mono ?_; rintro e w7 ⟨rfl, hw7⟩; subst hw7; rw [HK1.out]))
                all_goals (try go_wp2_with fail)
                all_goals go_meet
                all_goals exact ⟨Lib.hid (HB6.out.set0 _), Lib.hid (HG6.out.away HSN.out _ _), Lib.hid (HP6.out.away HPN.out _ _), Lib.hid (HKR6.out.away (Nat.lt_succ_self _) _ _), Lib.hid (HN6.out.put HSW.out _ _), Lib.hid (by have h1 := HZ6.out; simp at h1 ⊢; omega)⟩
              case rest =>
                obtain ⟨HB6, HG6, HP6, HKR6, HN6, HZ6⟩ := hcut
                clear x0 x1 x2 x3 x4 x5 xz
                obtain ⟨y0, y1, y2, y3, y4, y5, yz⟩ := HB6.out
                go_wp2_with fail
                go_at_call 40
                refine (take_no s hs p n NI Ow 0 _ HNI.out HNS.out (by omega) (by omega) (by omega) (by omega) HLM.out _ HP6.out).mono ?_
                rintro e w7 ⟨v7, rfl, ⟨k7, rfl⟩, hb7⟩
                have HB7 := Lib.hid (HB6.out.kept hb7)
                have HG7 := Lib.hid (HG6.out.kept hb7)
                have HP7 := Lib.hid (HP6.out.kept hb7)
                have HKR7 := Lib.hid (HKR6.out.kept hb7)
                have HN7 := Lib.hid (HN6.out.trans (in_below hb7))
                have HZ7 : Hid (_ ≤ _) := Lib.hid hb7.size
                clear hb7 y0 y1 y2 y3 y4 y5 yz
                go_wp2_with fail
                go_roundw
                case rel => exact .inl ⟨j + 1, k7, K1, _, _, _, _, rfl, by go_num, HB7, HG7, HN7, HRN⟩
                case measure => simp [intOf]; omega


end Go.Proofs.Ytpaefcdchaemfaa
