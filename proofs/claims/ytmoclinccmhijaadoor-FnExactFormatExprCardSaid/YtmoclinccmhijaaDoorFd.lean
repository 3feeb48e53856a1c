/-
  FormatExpr of the program: for every expression in memory, its text; what was in memory stays.
-/
import Derived.Test.YtmoclinccmhijaaDoorFg
import Derived.Test.YtmoclinccmhijaaDoorFc
import Derived.Test.YtmoclinccmhijaaDoorShelfC
import Derived.Test.YtmoclinccmhijaaDoorEh
import Derived.Test.YtmoclinccmhijaaDoorFe
namespace Go.Proofs.YtmoclinccmhijaaDoor.Ox
open Go.Proofs.YtmoclinccmhijaaDoor
open Go.RowKit
set_option linter.unusedVariables false
set_option linter.unusedSimpArgs false

theorem ownsF_below {w w' : World} {B n sz : Nat} {e : TypeId} {v : Value} {xs : List Value} (h : w.ownsRowF B e sz v n xs) (hb : Below w.heap.size w w') : w'.ownsRowF B e sz v n xs := by
  obtain ⟨hl, h | ⟨g, cap, cur, fz, rfl, hb', hg, h1, h2, h3, h4, h5⟩⟩ := h
  · exact ⟨hl, .inl h⟩
  · exact ⟨hl, .inr ⟨g, cap, cur, fz, rfl, hb', (hb.block g (Array.getElem?_eq_some_iff.1 hg).1).trans hg, h1, h2, h3, h4, h5⟩⟩
theorem sbAt_below {w w' : World} {B b : Nat} {p : Value} {bs : List Value} (h : Lib.BuilderAtF 79 5 B b p bs w) (hb : Below w.heap.size w w') : Lib.BuilderAtF 79 5 B b p bs w' := by
  obtain ⟨h1, v, h2, h3, h4⟩ := h
  exact ⟨h1, v, (hb.block b (Array.getElem?_eq_some_iff.1 h2).1).trans h2, ownsF_below h3 hb, h4⟩
theorem sb_below {w w' : World} {B b : Nat} {bs : List Value} (h : Lib.IsBuilderF 79 5 B b bs w) (hb : Below w.heap.size w w') : Lib.IsBuilderF 79 5 B b bs w' := h.imp (fun h => sbAt_below h hb) (fun h => sbAt_below h hb)
theorem ba_app (l : List UInt8) (s : ByteArray) : (⟨(l ++ s.data.toList).toArray⟩ : ByteArray) = ⟨l.toArray⟩ ++ s := by
  apply ByteArray.ext
  simp
/-- The operands that are left. -/
def Opr (kv : Value) (b o j L cap : Nat) : Prop := (j < L ∧ kv = .slice (some ⟨b, o + j * 5, none⟩) (L - j) (cap - j)) ∨ (j = L ∧ ∃ a c, kv = .slice a 0 c)
theorem form_bytes (k : Int) : ∀ c ∈ (formX k).data.toList, c.toNat < 128 := by
  unfold formX
  by_cases h : k = 3; · subst h; decide
  by_cases h : k = 4; · subst h; decide
  by_cases h : k = 5; · subst h; decide
  by_cases h : k = 6; · subst h; decide
  by_cases h : k = 7; · subst h; decide
  by_cases h : k = 8; · subst h; decide
  by_cases h : k = 9; · subst h; decide
  by_cases h : k = 10; · subst h; decide
  simp only [*, if_false]
  decide

/-- exprText down to a depth. -/
def XtT (d : Nat) : Prop := ∀ (x : Ex) (v : Value) (w : World), shpX d x = true → ndX d x ≤ 60 → ExAt w x v → (∃ lo hi, Cp w lo hi x v) → Calls Tryd.prog 27 #[.agg #[.int .i64 x.k, .int .i64 x.n, .string x.m, .string x.s, v]] w (TextIsX (txE d x) w)

set_option maxRecDepth 1000000 in
set_option maxHeartbeats 8000000 in
theorem exprText_form (d : Nat) (HIH : Hid (XtT d)) (k n : Int) (m s : ByteArray) (ks : List Ex) (hk : 3 ≤ k ∧ k ≤ 10) (b o cap : Nat) (L : Nat) (hL : ks.length = L) (hL1 : 1 ≤ L) (hL3 : L ≤ 3)
    (hcap : L ≤ cap) (hs1 : s.size ≤ 1) (hE : ((formX k).data.toList.filter (· = 69)).length = L) (HKID : Hid (∀ i, i < L → shpX d (ks.getD i Ex.dummy) = true ∧ ndX d (ks.getD i Ex.dummy) ≤ 60))
    (hT : (frmX (txE d) s (formX k).data.toList ks).size ≤ 480) (w : World) (hx : ExAt w (.node k n m s ks) (.slice (some ⟨b, o, none⟩) L cap)) (HCP : Hid (∀ i, i < L → ∃ vi, w.cell? ⟨b, o + i * 5 + 4, none⟩ = some vi ∧ ∃ lo hi, Cp w lo hi (ks.getD i Ex.dummy) vi)) :
    Calls Tryd.prog 27 #[.agg #[.int .i64 k, .int .i64 n, .string m, .string s, .slice (some ⟨b, o, none⟩) L cap]] w (TextIsX (frmX (txE d) s (formX k).data.toList ks) w) := by
  have HX := Lib.hid hx
  have hk1 : (k == 1) = false := by rw [beq_eq_false_iff_ne]; omega
  have hk2 : (k == 2) = false := by rw [beq_eq_false_iff_ne]; omega
  obtain ⟨F, hF⟩ : ∃ F, formX k = F := ⟨_, rfl⟩
  have HF := Lib.hid hF
  have hbyt := form_bytes k
  rw [hF] at hE hT hbyt ⊢
  have HBYT := Lib.hid hbyt
  have HEE := Lib.hid hE
  obtain ⟨TXT, hTXT⟩ : ∃ T, frmX (txE d) s F.data.toList ks = T := ⟨_, rfl⟩
  have HTXT := Lib.hid hTXT
  rw [hTXT] at hT ⊢
  obtain ⟨S, hS⟩ : ∃ S, w.heap.size = S := ⟨_, rfl⟩
  have HS := Lib.hid hS
  obtain ⟨W1, hW1⟩ : ∃ W, w.alloc (.cells #[.int .i64 k, .int .i64 n, .string m, .string s, .slice (some ⟨b, o, none⟩) L cap] 29) = W := ⟨_, rfl⟩
  have hb1 : Below w.heap.size w W1 := by rw [← hW1]; exact (Below.refl _ _).alloc (Nat.le_refl _) _
  have HB1 := Lib.hid hb1
  have HP1 : Hid (EBox W1 S (.int .i64 k) (.int .i64 n) (.string m) (.string s) (.slice (some ⟨b, o, none⟩) L cap)) := Lib.hid (by rw [← hW1, ← hS]; exact ebox_new w _ _ _ _ _ _)
  have hz1 : W1.heap.size = S + 1 := by rw [← hW1, ← hS]; simp
  have HX1 := Lib.hid (hx.kept hb1)
  have HW1 := Lib.hid hW1
  have HZ1 := Lib.hid hz1
  have HL := Lib.hid hL
  clear hx hF hbyt hE hTXT hb1 hW1 hk hL
  obtain ⟨p0, p1, p2, p3, p4, pz⟩ := HP1.out
  go_enter Tryd.func27, Tryd.ntmps27
  go_wp2_with fail
  go_at_call 52
  refine (exprForm_any _ _).mono ?_
  rintro e wx ⟨rfl, hwx⟩
  subst hwx
  rw [HF.out]
  go_wp2_with fail
  rw [HW1.out]
  obtain ⟨W3, hW3⟩ : ∃ W, (W1.alloc (.cells #[.pointer none, .slice none 0 0] 79)).iter F 0 = W := ⟨_, rfl⟩
  have HI3 : Hid (Lib.IsBuilderF 79 5 (S + 1) (S + 1) (Lib.byteCells []) W3) := Lib.hid (by
    have h := (Lib.IsBuilderF.of (Lib.fresh_isBuilder 79 5 W1)).alloc (.stringIter F 0)
    rw [HZ1.out] at h
    rw [← hW3]; exact h)
  have HIT3 : Hid (W3.heap[S + 1 + 1]? = some (.stringIter F 0)) := Lib.hid (by
    have h := World.iter_heap (W1.alloc (.cells #[.pointer none, .slice none 0 0] 79)) F 0
    have e : (W1.alloc (.cells #[.pointer none, .slice none 0 0] 79)).heap.size = S + 1 + 1 := by simp [HZ1.out]
    rw [e, hW3] at h
    exact h)
  have HBW3 : Hid (Below (S + 1) W1 W3) := Lib.hid (by rw [← hW3, ← HZ1.out]; exact ((Below.refl _ W1).alloc (Nat.le_refl _) _).alloc (by simp) _)
  rw [hW3]
  have hlw : w.heap.size ≤ S := by omega
  clear p0 p1 p2 p3 p4 pz hW3
  go_loopw [4] (fun kv wr => ∃ (pos j : Nat) (acc : List UInt8), pos ≤ F.size ∧ Opr kv b o j L cap ∧ j ≤ L ∧ Hid (Lib.IsBuilderF 79 5 (S + 1) (S + 1) (Lib.byteCells acc) wr) ∧ Hid (wr.heap[S + 1 + 1]? = some (.stringIter F pos)) ∧ Hid (Below (S + 1) W1 wr) ∧ Hid (TXT = ⟨acc.toArray⟩ ++ frmX (txE d) s (F.data.toList.drop pos) (ks.drop j)) ∧ Hid (((F.data.toList.drop pos).filter (· = 69)).length = L - j)) (fun _ wr => F.size - wr.iterPos (S + 1 + 1))
  case atStart => exact ⟨0, 0, [], Nat.zero_le _, .inl ⟨by omega, by simp⟩, Nat.zero_le _, HI3, HIT3, HBW3, Lib.hid (by rw [List.drop_zero, List.drop_zero, HTXT.out]; exact (ByteArray.empty_append).symm), Lib.hid (by rw [List.drop_zero]; exact HEE.out)⟩
  case round =>
    obtain ⟨pos, j, acc, hpos, hop, hj, HI, HIT, HBW, HTX, HCT⟩ := hrel
    clear HI3 HIT3 HBW3
    have hit := HIT.out
    have hacc : acc.length ≤ 480 := by
      have h := HTX.out
      have h2 : TXT.size = _ := congrArg ByteArray.size h
      rw [ByteArray.size_append] at h2
      have h3 : (⟨acc.toArray⟩ : ByteArray).size = acc.length := by simp [ByteArray.size]
      omega
    have hsz : S + 1 + 1 < wr.heap.size := (Array.getElem?_eq_some_iff.1 hit).1
    by_cases hp : pos < F.size
    case neg =>
      have hpe : F.data.toList.drop pos = [] := List.drop_eq_nil_of_le (by simp; omega)
      have HR : Hid (TXT = ⟨acc.toArray⟩) := Lib.hid (by rw [HTX.out, hpe]; exact ByteArray.append_empty)
      have hnx : ∀ ty, (Instr.next (.pointer (some ⟨S + 1 + 1, 0, none⟩)) true ty).run Tryd.prog wr = _ := fun ty => Lib.run_next_end_at wr (S + 1 + 1) F pos ty hit hp
      clear hpe hacc
      go_wp2_with fail
      go_at_call 55
      refine (Tryd.Builder_String_any_k (S + 1) (S + 1) acc _ HI.out (by omega)).mono ?_
      rintro e w6 ⟨rfl, _, hb6, _⟩
      have HB6 : Hid (Below w.heap.size w w6) := Lib.hid (HB1.out.trans ((HBW.out.trans hb6).mono (by omega)))
      clear hb6
      go_wp2_with fail
      go_ret
      exact ⟨by rw [HR.out]; rfl, HB6.out⟩
    obtain ⟨c, hc⟩ : ∃ c, F[pos]'hp = c := ⟨_, rfl⟩
    have hdr : F.data.toList.drop pos = c :: F.data.toList.drop (pos + 1) := by
      rw [← hc]; exact List.drop_eq_getElem_cons (by simpa using hp)
    have hc8 : c.toNat < 128 := HBYT.out c (by rw [← hc]; exact List.getElem_mem (l := F.data.toList) (by simpa using hp))
    obtain ⟨W4, hW4⟩ : ∃ W, wr.iterAt (S + 1 + 1) F (pos + 1) = W := ⟨_, rfl⟩
    have hnx : ∀ ty, (Instr.next (.pointer (some ⟨S + 1 + 1, 0, none⟩)) true ty).run Tryd.prog wr = .ok (.tuple #[.bool true, .int .i64 pos, .int .i32 c.toNat]) W4 := fun ty => by
      rw [← hW4, ← hc]; exact Lib.run_next_ascii_at wr (S + 1 + 1) F pos ty hit hp (by rw [hc]; exact hc8)
    have HI4 : Hid (Lib.IsBuilderF 79 5 (S + 1) (S + 1) (Lib.byteCells acc) W4) := Lib.hid (by rw [← hW4]; exact HI.out.iterAt hit (pos + 1))
    have HIT4 : Hid (W4.heap[S + 1 + 1]? = some (.stringIter F (pos + 1))) := Lib.hid (by rw [← hW4]; exact Lib.iterAt_heap wr (S + 1 + 1) F pos (pos + 1) hit)
    have HBW4 : Hid (Below (S + 1) W1 W4) := Lib.hid (by rw [← hW4]; exact Lib.below_iterAt HBW.out (by omega) F (pos + 1))
    have hsz4 : S + 1 + 1 < W4.heap.size := by rw [← hW4, Lib.iterAt_size]; exact hsz
    have HP4 : Hid (EBox W4 S (.int .i64 k) (.int .i64 n) (.string m) (.string s) (.slice (some ⟨b, o, none⟩) L cap)) := Lib.hid (HP1.out.aside (by rw [HZ1.out]; omega) (HBW4.out.block S (Nat.lt_succ_self _)))
    have HMS : Hid (wr.iterPos (S + 1 + 1) = pos) := Lib.hid (by simp only [World.iterPos, hit])
    have hlen : (Lib.byteCells acc).length ≤ 480 := by rw [Lib.byteCells_length]; exact hacc
    obtain ⟨q0, q1, q2, q3, q4, qz⟩ := HP4.out
    rw [hdr] at HTX HCT
    obtain ⟨C, hC⟩ : ∃ C : Int, (c.toNat : Int) = C := ⟨_, rfl⟩
    have HC := Lib.hid hC
    rw [hC] at hnx
    have hC0 : 0 ≤ C := by omega
    have hC1 : C ≤ 127 := by omega
    clear hdr hW4 hit hc hacc hsz
    by_cases g1 : C = 120
    case pos =>
      have hcc : c = 120 := UInt8.toNat_inj.1 (by have : (120 : UInt8).toNat = 120 := rfl; omega)
      subst hcc
      subst g1
      have HT2 : Hid (TXT = ⟨(acc ++ s.data.toList).toArray⟩ ++ frmX (txE d) s (F.data.toList.drop (pos + 1)) (ks.drop j)) := Lib.hid (by rw [ba_app, ByteArray.append_assoc, ← frm_x]; exact HTX.out)
      have HC2 : Hid (((F.data.toList.drop (pos + 1)).filter (· = 69)).length = L - j) := Lib.hid (by simpa using HCT.out)
      go_wp2_with fail
      go_at_call 53
      refine (sb_string (S + 1) (S + 1) _ s _ HI4.out (by omega) (by omega)).mono ?_
      rintro e w6 ⟨rfl, h6, b6, k6⟩
      have HI6 : Hid (Lib.IsBuilderF 79 5 (S + 1) (S + 1) (Lib.byteCells (acc ++ s.data.toList)) w6) := Lib.hid (by rw [Lib.byteCells_append, ← Lib.strCells_eq]; exact .inr h6)
      have HIT6 := Lib.hid (k6.iter HIT4.out (by omega))
      have HBW6 := Lib.hid (HBW4.out.trans b6)
      have HM6 : Hid (w6.iterPos (S + 1 + 1) = pos + 1) := Lib.hid (by simp only [World.iterPos, HIT6.out])
      clear h6 b6 k6 q0 q1 q2 q3 q4 qz hnx
      go_wp2_with fail
      go_roundw
      case rel => exact ⟨pos + 1, j, _, by omega, hop, hj, HI6, HIT6, HBW6, HT2, HC2⟩
      case measure => rw [HM6.out, HMS.out]; omega
    by_cases g2 : C = 69
    case pos =>
      have hcc : c = 69 := UInt8.toNat_inj.1 (by have : (69 : UInt8).toNat = 69 := rfl; omega)
      subst hcc
      subst g2
      have e1 : ((69 : Int) == 120) = false := by decide
      have hct : 1 ≤ L - j := by
        have h := HCT.out
        have h2 : ((69 :: F.data.toList.drop (pos + 1)).filter (· = 69)).length = ((F.data.toList.drop (pos + 1)).filter (· = 69)).length + 1 := by simp
        omega
      have HC2 : Hid (((F.data.toList.drop (pos + 1)).filter (· = 69)).length = L - (j + 1)) := Lib.hid (by
        have h := HCT.out
        have h2 : ((69 :: F.data.toList.drop (pos + 1)).filter (· = 69)).length = ((F.data.toList.drop (pos + 1)).filter (· = 69)).length + 1 := by simp
        omega)
      rcases hop with ⟨hjL, rfl⟩ | ⟨hjL, _⟩
      case inr => omega
      obtain ⟨b', o', cap', vi, ex, bl, ⟨y0, y1, y2, y3, y4⟩, hkid⟩ := HX.out.kid j (by show j < ks.length; rw [HL.out]; exact hjL)
      obtain ⟨rfl, rfl⟩ : b = b' ∧ o = o' := by injection ex with h1 h2 h3; injection h1 with h4; injection h4 with h5 h6; exact ⟨h5, h6⟩
      obtain ⟨u, hu⟩ : ∃ u, ks.getD j Ex.dummy = u := ⟨_, rfl⟩
      have hu' : (Ex.node k n m s ks).ks.getD j Ex.dummy = u := hu
      rw [hu'] at y0 y1 y2 y3 hkid
      obtain ⟨sh, nd⟩ := HKID.out j hjL
      rw [hu] at sh nd
      have HBW0 : Hid (Below w.heap.size w W4) := Lib.hid (HB1.out.trans (HBW4.out.mono (by omega)))
      obtain ⟨vj, hvj, clo, chi, hcp⟩ := HCP.out j hjL
      rw [hu] at hcp
      obtain rfl : vj = vi := Option.some.inj (hvj.symm.trans y4)
      have hcp4 := hcp.kept HBW0.out
      obtain ⟨ai, ci, hvi, _⟩ := hkid.slice
      have z0 := (HBW0.out.cell (p := ⟨b, o + j * 5, none⟩) bl).trans y0
      have z1 := (HBW0.out.cell (p := ⟨b, o + j * 5 + 1, none⟩) bl).trans y1
      have z2 := (HBW0.out.cell (p := ⟨b, o + j * 5 + 2, none⟩) bl).trans y2
      have z3 := (HBW0.out.cell (p := ⟨b, o + j * 5 + 3, none⟩) bl).trans y3
      have z4 := (HBW0.out.cell (p := ⟨b, o + j * 5 + 4, none⟩) bl).trans y4
      rw [hvi] at z4 hkid hcp4
      have HCALL := Lib.hid (HIH.out u _ W4 sh nd (hkid.kept HBW0.out) ⟨_, _, hcp4⟩)
      obtain ⟨t, ht⟩ : ∃ t, txE d u = t := ⟨_, rfl⟩
      have htz : t.size ≤ 480 := by rw [← ht]; exact Nat.le_trans (tx_size d u sh) (by omega)
      have HT2 : Hid (TXT = ⟨(acc ++ t.data.toList).toArray⟩ ++ frmX (txE d) s (F.data.toList.drop (pos + 1)) (ks.drop (j + 1))) := Lib.hid (by
        have h := HTX.out
        have hjl : j < ks.length := by rw [HL.out]; exact hjL
        have hd : ks.drop j = u :: ks.drop (j + 1) := by
          have e : u = ks[j] := by rw [← hu]; simp [List.getD, hjl]
          rw [e]; exact List.drop_eq_getElem_cons hjl
        rw [frm_E, hd, List.headD_cons, List.tail_cons, ht] at h
        rw [ba_app, ByteArray.append_assoc]; exact h)
      rw [ht] at HCALL
      have hL0 : (0 : Int) < ((L - j : Nat) : Int) := by omega
      have hL1' : (1 : Int) ≤ ((L - j : Nat) : Int) := by omega
      clear ex hu hu' hkid hvi hvj hcp hcp4 y0 y1 y2 y3 y4 sh nd ht hct
      go_wp2_with fail
      go_at_call 27
      refine HCALL.out.mono ?_
      rintro e w5 ⟨rfl, hb5⟩
      have HI5 := Lib.hid (sb_below HI4.out hb5)
      have HIT5 : Hid (w5.heap[S + 1 + 1]? = some (.stringIter F (pos + 1))) := Lib.hid ((hb5.block _ hsz4).trans HIT4.out)
      have HBW5 := Lib.hid (HBW4.out.trans (hb5.mono (by omega)))
      have hz5 := hb5.size
      clear hb5 q0 q1 q2 q3 q4 qz hnx z0 z1 z2 z3 z4
      go_wp2_with fail
      go_at_call 53
      refine (sb_string (S + 1) (S + 1) _ t _ HI5.out (by omega) (by omega)).mono ?_
      rintro e w6 ⟨rfl, h6, b6, k6⟩
      have HI6 : Hid (Lib.IsBuilderF 79 5 (S + 1) (S + 1) (Lib.byteCells (acc ++ t.data.toList)) w6) := Lib.hid (by rw [Lib.byteCells_append, ← Lib.strCells_eq]; exact .inr h6)
      have HIT6 := Lib.hid (k6.iter HIT5.out (by omega))
      have HBW6 := Lib.hid (HBW5.out.trans b6)
      have HM6 : Hid (w6.iterPos (S + 1 + 1) = pos + 1) := Lib.hid (by simp only [World.iterPos, HIT6.out])
      clear h6 b6 k6
      have HOP2 : Hid (Opr (.slice (if cap - j = 1 then some ⟨b, o + j * 5, none⟩ else some ⟨b, o + j * 5 + 5, none⟩) (L - j - 1) (cap - j - 1)) b o (j + 1) L cap) := Lib.hid (by
        by_cases hq : j + 1 < L
        · refine .inl ⟨hq, ?_⟩
          rw [if_neg (by omega), show o + (j + 1) * 5 = o + j * 5 + 5 by omega, show L - (j + 1) = L - j - 1 by omega, show cap - (j + 1) = cap - j - 1 by omega]
        · refine .inr ⟨by omega, (if cap - j = 1 then some ⟨b, o + j * 5, none⟩ else some ⟨b, o + j * 5 + 5, none⟩), cap - j - 1, ?_⟩
          rw [show L - j - 1 = 0 by omega])
      go_wp2_with fail
      exact ⟨⟨pos + 1, j + 1, _, by omega, HOP2.out, by omega, HI6, HIT6, HBW6, HT2, HC2⟩, by rw [HM6.out, HMS.out]; omega⟩
    have hc1 : c ≠ 120 := fun e => g1 (by rw [← HC.out, e]; rfl)
    have hc2 : c ≠ 69 := fun e => g2 (by rw [← HC.out, e]; rfl)
    have e1 : (C == 120) = false := by rw [beq_eq_false_iff_ne]; exact g1
    have e2 : (C == 69) = false := by rw [beq_eq_false_iff_ne]; exact g2
    have HT2 : Hid (TXT = ⟨(acc ++ [c]).toArray⟩ ++ frmX (txE d) s (F.data.toList.drop (pos + 1)) (ks.drop j)) := Lib.hid (by
      have h := HTX.out
      rw [frm_c hc1 hc2, ← ByteArray.append_assoc] at h
      have e : (⟨(acc ++ [c]).toArray⟩ : ByteArray) = ⟨acc.toArray⟩ ++ ⟨#[c]⟩ := ba_app acc ⟨#[c]⟩
      rw [e]; exact h)
    have HC2 : Hid (((F.data.toList.drop (pos + 1)).filter (· = 69)).length = L - j) := Lib.hid (by simpa [hc2] using HCT.out)
    clear g1 g2
    go_wp2_with fail
    go_at_call 54
    refine (sb_rune (S + 1) (S + 1) _ C hC0 hC1 _ HI4.out (by omega) (by omega)).mono ?_
    rintro e w6 ⟨⟨kk, rfl⟩, h6, b6, k6⟩
    have HI6 : Hid (Lib.IsBuilderF 79 5 (S + 1) (S + 1) (Lib.byteCells (acc ++ [c])) w6) := Lib.hid (by rw [Lib.byteCells_append]; rw [← HC.out] at h6; exact .inr h6)
    have HIT6 := Lib.hid (k6.iter HIT4.out (by omega))
    have HBW6 := Lib.hid (HBW4.out.trans b6)
    have HM6 : Hid (w6.iterPos (S + 1 + 1) = pos + 1) := Lib.hid (by simp only [World.iterPos, HIT6.out])
    clear h6 b6 k6 q0 q1 q2 q3 q4 qz hnx
    go_wp2_with fail
    go_roundw
    case rel => exact ⟨pos + 1, j, _, by omega, hop, hj, HI6, HIT6, HBW6, HT2, HC2⟩
    case measure => rw [HM6.out, HMS.out]; omega

set_option maxRecDepth 100000 in
set_option maxHeartbeats 4000000 in
theorem exprText_num (n : Int) (h0 : 0 ≤ n) (h9 : n ≤ 99) (m s : ByteArray) (a : Option Addr) (l cap : Nat) (w : World) :
    Calls Tryd.prog 27 #[.agg #[.int .i64 1, .int .i64 n, .string m, .string s, .slice a l cap]] w (TextIsX (decB n) w) := by
  obtain ⟨i, rfl⟩ : ∃ i : Nat, n = i := ⟨n.toNat, by omega⟩
  have HI := Lib.hid (show i < 100 by omega)
  have HD : Hid (decB (i : Int) = ⟨(Lib.decDigits i).toArray⟩) := Lib.hid (by unfold decB; rw [Int.toNat_natCast])
  go_enter Tryd.func27, Tryd.ntmps27
  go_wp2_with fail
  go_at_call 50
  refine (Tryd.strconv_Itoa_small i HI.out _).mono ?_
  rintro e wx ⟨rfl, hwx⟩
  subst hwx
  go_wp2_with fail
  go_ret
  exact ⟨by rw [HD.out]; rfl, (Below.refl _ _).alloc (Nat.le_refl _) _⟩
set_option maxRecDepth 100000 in
set_option maxHeartbeats 4000000 in
theorem exprText_name (n : Int) (m s : ByteArray) (hm : m.size ≤ 1) (hs : s.size ≤ 1) (a : Option Addr) (l cap : Nat) (w : World) :
    Calls Tryd.prog 27 #[.agg #[.int .i64 2, .int .i64 n, .string m, .string s, .slice a l cap]] w (TextIsX (pathB m s) w) := by
  go_enter Tryd.func27, Tryd.ntmps27
  go_wp2_with fail
  go_at_call 51
  refine (nameText_any 2 n m s (.slice a l cap) hm hs a l cap _).mono ?_
  rintro e w6 ⟨rfl, hb6⟩
  have HB6 : Hid (Below w.heap.size w w6) := Lib.hid (((Below.refl _ _).alloc (Nat.le_refl _) _).trans (hb6.mono (by simp)))
  clear hb6
  go_wp2_with fail
  go_ret
  exact ⟨rfl, HB6.out⟩
theorem exprText_any : ∀ d, XtT d := by
  intro d
  induction d with
  | zero => intro x v w h; cases h
  | succ d ih =>
    intro x v w hs hn hx hcp
    obtain ⟨hf, hk⟩ := shpX_iff.1 hs
    have htz := tx_size (d + 1) x hs
    cases x with
    | node k n m s ks =>
      have hf' : fieldsX k n m s ks.length = true := hf
      obtain ⟨hm, hs1⟩ := fields_small hf'
      obtain ⟨a, cap, rfl, hlen⟩ := hx.slice
      show Calls _ _ #[.agg #[.int .i64 k, .int .i64 n, .string m, .string s, .slice a ks.length cap]] w _
      rcases fields_kind hf' with ⟨rfl, h0, h9, hl⟩ | ⟨rfl, hl⟩ | hrest
      · exact (exprText_num n h0 h9 m s a ks.length cap w).mono (fun e w' h => h.of (by unfold txE; rw [if_pos rfl]))
      · exact (exprText_name n m s hm hs1 a ks.length cap w).mono (fun e w' h => h.of (by unfold txE; rw [if_neg (by decide), if_pos rfl]))
      have h3 : 3 ≤ k ∧ k ≤ 10 ∧ 1 ≤ ks.length ∧ ks.length ≤ 3 := by omega
      have hcnt : ((formX k).data.toList.filter (· = 69)).length = ks.length := by
        rcases hrest with ⟨rfl, hl⟩ | ⟨rfl, hl⟩ | ⟨rfl, hl⟩ | ⟨rfl, hl⟩ | ⟨rfl, hl⟩ | ⟨rfl, hl⟩ | ⟨rfl, hl⟩ | ⟨rfl, hl⟩ <;> (rw [hl]; decide)
      have hT : txE (d + 1) (.node k n m s ks) = frmX (txE d) s (formX k).data.toList ks := by unfold txE; rw [if_neg (by omega), if_neg (by omega)]
      rw [hT] at htz ⊢
      obtain ⟨lo, hi, hcp⟩ := hcp
      obtain ⟨b, o, cap2, vi, ex, bl, _, _⟩ := hx.kid 0 (by show 0 < ks.length; omega)
      obtain rfl : a = some ⟨b, o, none⟩ := by injection ex
      obtain ⟨ho, hca, hkd⟩ := hcp.kids (by show 0 < ks.length; omega)
      subst ho
      refine exprText_form d (Lib.hid ih) k n m s ks ⟨h3.1, h3.2.1⟩ b 0 cap ks.length rfl h3.2.2.1 h3.2.2.2 hca hs1 hcnt (Lib.hid (fun i hi => ⟨hk i hi, ?_⟩)) (by omega) w hx (Lib.hid (fun i hi => ?_))
      · have := nd_kid d (.node k n m s ks) i hi
        exact Nat.le_trans (Nat.le_of_lt this) hn
      · rw [Nat.zero_add]; exact hkd i hi

set_option maxRecDepth 100000 in
set_option maxHeartbeats 4000000 in
theorem formatExpr_impl (x : Ex) (v : Value) (w : World) (hx : ExAt w x v) (hcp : ∃ lo hi, Cp w lo hi x v) :
    Calls Tryd.prog 9 #[.agg #[.int .i64 x.k, .int .i64 x.n, .string x.m, .string x.s, v]] w (TextIsX (fmtB x) w) := by
  obtain ⟨a, cap, rfl, hlen⟩ := hx.slice
  have HX := Lib.hid hx
  obtain ⟨lo, hi, hcp⟩ := hcp
  obtain ⟨S, hS⟩ : ∃ S, w.heap.size = S := ⟨_, rfl⟩
  have HS := Lib.hid hS
  obtain ⟨W1, hW1⟩ : ∃ W, w.alloc (.cells #[.int .i64 x.k, .int .i64 x.n, .string x.m, .string x.s, .slice a x.ks.length cap] 29) = W := ⟨_, rfl⟩
  have hb1 : Below w.heap.size w W1 := by rw [← hW1]; exact (Below.refl _ _).alloc (Nat.le_refl _) _
  have HB1 := Lib.hid hb1
  have HP1 : Hid (EBox W1 S (.int .i64 x.k) (.int .i64 x.n) (.string x.m) (.string x.s) (.slice a x.ks.length cap)) := Lib.hid (by rw [← hW1, ← hS]; exact ebox_new w _ _ _ _ _ _)
  have HX1 := Lib.hid (hx.kept hb1)
  have HC1 := Lib.hid (hcp.kept hb1)
  have HW1 := Lib.hid hW1
  obtain ⟨q, hq⟩ : ∃ q, okX 12 x = q := ⟨_, rfl⟩
  have HV := Lib.hid hq
  clear hx hcp hb1 hW1 hq
  obtain ⟨p0, p1, p2, p3, p4, pz⟩ := HP1.out
  go_enter Tryd.func9, Tryd.ntmps9
  go_wp2_with fail
  rw [HW1.out]
  try rw [hS]
  go_at_call 26
  refine (exprValid_impl x _ _ HX1.out).mono ?_
  rintro e w2 ⟨rfl, hb2⟩
  rw [HV.out]
  have HP2 := Lib.hid (HP1.out.kept hb2)
  have HX2 := Lib.hid (HX1.out.kept hb2)
  have HC2 := Lib.hid (HC1.out.kept hb2)
  have HB2 : Hid (Below w.heap.size w w2) := Lib.hid (HB1.out.trans (hb2.mono HB1.out.size))
  clear hb2 p0 p1 p2 p3 p4 pz
  obtain ⟨p0, p1, p2, p3, p4, pz⟩ := HP2.out
  cases q with
  | false =>
    have HR : Hid (fmtB x = ⟨#[]⟩) := Lib.hid (by unfold fmtB; rw [HV.out]; rfl)
    go_wp2_with fail
    go_ret
    exact ⟨by rw [HR.out]; rfl, HB2.out⟩
  | true =>
    have HR : Hid (fmtB x = txE 12 x) := Lib.hid (by unfold fmtB; rw [if_pos HV.out])
    have HOK := Lib.hid (okX_iff.1 HV.out)
    go_wp2_with fail
    go_at_call 27
    refine (exprText_any 12 x _ _ HOK.out.1 HOK.out.2 HX2.out ⟨_, _, HC2.out⟩).mono ?_
    rintro e w3 ⟨rfl, hb3⟩
    have HB3 : Hid (Below w.heap.size w w3) := Lib.hid (HB2.out.trans (hb3.mono HB2.out.size))
    clear hb3
    go_wp2_with fail
    go_ret
    exact ⟨by rw [HR.out]; rfl, HB3.out⟩

end Go.Proofs.YtmoclinccmhijaaDoor.Ox
