/-
  The names that an expression uses and does not bind: addFreeNames of the program.
-/
import Derived.Test.YtlgbkhkmfgdehaaRe
namespace Go.Proofs.Ytlgbkhkmfgdehaa.Ox
open Go.Proofs.Ytlgbkhkmfgdehaa
open Go.RowKit
set_option linter.unusedVariables false
set_option linter.unusedSimpArgs false

theorem fields_bind {k n : Int} {m s : ByteArray} {l j : Nat} (h : fieldsX k n m s l = true) (hb : bindB k j = true) : oneB 97 122 s = true := by
  have hk : k = 3 ∨ k = 6 := by
    unfold bindB at hb
    simp only [Bool.or_eq_true, Bool.and_eq_true, decide_eq_true_eq] at hb
    rcases hb with hb | hb
    · exact .inl hb
    · exact .inr hb.1
  rcases hk with rfl | rfl
  · have h' : fitB true 1 n m s l = true := h
    unfold fitB nameOk at h'
    simp only [Bool.and_eq_true, if_true] at h'
    exact h'.2.2.1
  · have h' : fitB true 2 n m s l = true := h
    unfold fitB nameOk at h'
    simp only [Bool.and_eq_true, if_true] at h'
    exact h'.2.2.1
theorem sr_nil (w : World) : SR w 0 (.slice none 0 0) [] := ⟨rfl, .inl ⟨rfl, rfl⟩⟩

set_option maxRecDepth 100000 in
set_option maxHeartbeats 8000000 in
theorem addFree_any (w0 : World) : ∀ (d : Nat) (x : Ex) (v : Value) (b : List ByteArray) (M : Nat) (out : List ByteArray) (ov : Value) (w : World), shpX d x = true → d ≤ 12 → ExAt w0 x v → Below w0.heap.size w0 w → SR w w0.heap.size ov out → Bnd b M → out.length + ndX d x ≤ 100000 →
    Calls Try.prog 49 #[ov, .agg #[.int .i64 x.k, .int .i64 x.n, .string x.m, .string x.s, v], .int .u32 (M : Int)] w (FrPost w0.heap.size ov (fnX d b x out) w) := by
  intro d
  induction d with
  | zero => intro x v b M out ov w h; cases h
  | succ d ih =>
    intro x v b M out ov w hsh hd hx hb0 hout hbd hol
    have HSH := Lib.hid hsh
    have HIH := Lib.hid ih
    have HB0 := Lib.hid hb0
    have HOUT := Lib.hid hout
    have HBD := Lib.hid hbd
    have hf := (shpX_iff.1 hsh).1
    have hMlt := hbd.lt
    obtain ⟨oa, oc, rfl⟩ := owns_slice hout
    clear ih hsh hb0 hout hbd
    by_cases h2 : x.k = 2
    · rw [h2] at hf
      obtain ⟨hm1, hso, hl0⟩ := name_fits hf
      have HK2 := Lib.hid h2
      have HX := Lib.hid hx
      obtain ⟨a, cap, rfl, hlen⟩ := hx.slice
      obtain ⟨k, hk⟩ : ∃ k, x.k = k := ⟨_, rfl⟩
      obtain ⟨n, hn⟩ : ∃ n, x.n = n := ⟨_, rfl⟩
      obtain ⟨m, hm⟩ : ∃ m, x.m = m := ⟨_, rfl⟩
      obtain ⟨s, hs⟩ : ∃ s, x.s = s := ⟨_, rfl⟩
      obtain ⟨L, hL⟩ : ∃ L, x.ks.length = L := ⟨_, rfl⟩
      have HK := Lib.hid hk
      have HN := Lib.hid hn
      have HM := Lib.hid hm
      have HSS := Lib.hid hs
      have HL := Lib.hid hL
      rw [hk, hn, hm, hs, hL]
      rw [hL] at hlen
      clear hx hk hn hm hs hL
      rw [HM.out] at hm1
      rw [HSS.out] at hso
      have HSO1 := Lib.hid hso
      obtain rfl : k = 2 := by rw [← HK.out]; exact h2
      have hs1 : s.size ≤ 1 := by have := one_size hso; omega
      have hol1 : out.length ≤ 100000 := by omega
      clear h2 hso hl0 hf hlen
      have HFS : Hid (FS w0 w w.heap.size x (.slice a L cap) (.slice oa out.length oc) [] (.slice none 0 0) 0 (w.alloc (.cells #[.int .i64 2, .int .i64 n, .string m, .string s, .slice a L cap] 38)) (.slice oa out.length oc) out) := Lib.hid (by
        have h := FS.start (x := x) (v := .slice a L cap) (T := 38) HOUT.out HB0.out (sr_nil w) (fun g e1 e2 => by cases e2)
        rw [HK.out, HN.out, HM.out, HSS.out] at h
        exact h)
      obtain ⟨S, hS⟩ : ∃ S, w.heap.size = S := ⟨_, rfl⟩
      obtain ⟨W1, hW1⟩ : ∃ W, (w.alloc (.cells #[.int .i64 2, .int .i64 n, .string m, .string s, .slice a L cap] 38)) = W := ⟨_, rfl⟩
      rw [hS, hW1] at HFS
      have HW1 := Lib.hid hW1
      have HS := Lib.hid hS
      obtain ⟨P, hP⟩ : ∃ P, pathB m s = P := ⟨_, rfl⟩
      have HP := Lib.hid hP
      obtain ⟨x0, x1, x2, x3, x4, xz⟩ := HFS.out.bx
      rw [HK.out] at x0
      rw [HN.out] at x1
      rw [HM.out] at x2
      rw [HSS.out] at x3
      obtain ⟨i0, hi0, hz0, hz1, hz2⟩ := info_parts infoStr
      clear hW1 hP
      have HOLD : Hid (((m.toList.isEmpty && hasB b s) || hasB out P) = true → fnX (d + 1) b x out = out) := Lib.hid (fun h => fnX_old HK.out (by rw [HM.out, HSS.out, HP.out]; exact h))
      have HNEW : Hid (((m.toList.isEmpty && hasB b s) || hasB out P) = false → fnX (d + 1) b x out = out ++ [P]) := Lib.hid (fun h => by rw [fnX_new HK.out (by rw [HM.out, HSS.out, HP.out]; exact h), HM.out, HSS.out, HP.out])
      rcases he : m.toList.isEmpty with _ | _
      · have h1 := empty_not he
        rcases ho : hasB out P with _ | _
        · have HO := Lib.hid ho
          have HR : Hid (fnX (d + 1) b x out = out ++ [P]) := Lib.hid (HNEW.out (by rw [he, ho]; rfl))
          clear he ho
          go_enter Try.func49, Try.ntmps49
          go_wp2_with fail
          rw [HW1.out]
          clear hS
          go_at_call 85
          refine (nameText_any 2 n m s (.slice a L cap) hm1 hs1 a L cap _).mono ?_
          rintro e w1 ⟨rfl, hb1⟩
          rw [HP.out]
          have HF1 := Lib.hid (HFS.out.below hb1)
          have HSO : Hid (w1.ownsRow w0.heap.size 9 1 (.slice oa out.length oc) out.length (out.map Value.string)) := Lib.hid HF1.out.sr
          have hzb : w0.heap.size ≤ w1.heap.size := HF1.out.b0.size
          clear x0 x1 x2 x3 x4 xz hb1
          obtain ⟨x0, x1, x2, x3, x4, xz⟩ := HF1.out.bx
          rw [HK.out] at x0
          rw [HN.out] at x1
          rw [HM.out] at x2
          rw [HSS.out] at x3
          go_wp2_with fail
          go_at_call 87
          refine (sContains_any w0.heap.size out (by omega) _ P _ HF1.out.sr).mono ?_
          rintro e w3 ⟨rfl, hw⟩
          rw [HO.out, hw]
          clear hw
          go_wp2_with (first | (at_builtin; refine wpList_append_lies _ rfl _ _ 48 rfl w0.heap.size 9 i0 _ 1 16 Try.underlying48 hi0 hz0 hz1 hz2 rfl (by omega) (.slice oa out.length oc) out.length (out.map Value.string) rfl (HSO.out.alloc _) ⟨w1.heap.size, 0, none⟩ 1 1 [.string P] rfl rfl (World.news_of_block (cs := #[.string P]) (t := 9) (fr := (0, 0)) (heap_alloc_new w1 _)) (by simp [Value.oneCell']) (by omega) (by unfold maxLen; omega) (by omega) (by simp; omega) (w1.heap.size + 1) (by simp) ?_; intro g6 cap6 w6 hown6 hgrow6 hat6 hlt6))
          go_ret
          rw [HR.out]
          have hF1 := HF1.out.below ((Below.refl w1.heap.size w1).alloc (Nat.le_refl _) (.cells #[.string P] 9))
          have hF2 := hF1.step (ov' := .slice (some ⟨g6, 0, none⟩) (out.length + 1) cap6) (o' := out ++ [P]) (by unfold SR; simp only [List.length_append, List.length_cons, List.length_nil, List.map_append, List.map_cons, List.map_nil]; exact hown6) hgrow6 (fun g e => (by injection e : g6 = g) ▸ hat6.imp id (fun h => by simp; omega))
          exact hF2.post
        · have HO := Lib.hid ho
          have HR : Hid (fnX (d + 1) b x out = out) := Lib.hid (HOLD.out (by rw [he, ho]; rfl))
          clear he ho
          go_enter Try.func49, Try.ntmps49
          go_wp2_with fail
          rw [HW1.out]
          clear hS
          go_at_call 85
          refine (nameText_any 2 n m s (.slice a L cap) hm1 hs1 a L cap _).mono ?_
          rintro e w1 ⟨rfl, hb1⟩
          rw [HP.out]
          have HF1 := Lib.hid (HFS.out.below hb1)
          have HSO : Hid (w1.ownsRow w0.heap.size 9 1 (.slice oa out.length oc) out.length (out.map Value.string)) := Lib.hid HF1.out.sr
          have hzb : w0.heap.size ≤ w1.heap.size := HF1.out.b0.size
          clear x0 x1 x2 x3 x4 xz hb1
          obtain ⟨x0, x1, x2, x3, x4, xz⟩ := HF1.out.bx
          rw [HK.out] at x0
          rw [HN.out] at x1
          rw [HM.out] at x2
          rw [HSS.out] at x3
          go_wp2_with fail
          go_at_call 87
          refine (sContains_any w0.heap.size out (by omega) _ P _ HF1.out.sr).mono ?_
          rintro e w3 ⟨rfl, hw⟩
          rw [HO.out, hw]
          clear hw
          go_wp2_with fail
          go_ret
          rw [HR.out]
          exact HF1.out.post
      · have h1 := empty_is he
        rcases hv : hasB b s with _ | _
        · have HV : Hid (hsB M (nk s) = false) := Lib.hid (by rw [← HBD.out.eq s HSO1.out]; exact hv)
          rcases ho : hasB out P with _ | _
          · have HO := Lib.hid ho
            have HR : Hid (fnX (d + 1) b x out = out ++ [P]) := Lib.hid (HNEW.out (by rw [he, hv, ho]; rfl))
            clear he ho hv
            go_enter Try.func49, Try.ntmps49
            go_wp2_with fail
            rw [HW1.out]
            clear hS
            go_at_call 85
            refine (nameText_any 2 n m s (.slice a L cap) hm1 hs1 a L cap _).mono ?_
            rintro e w1 ⟨rfl, hb1⟩
            rw [HP.out]
            have HF1 := Lib.hid (HFS.out.below hb1)
            have HSO : Hid (w1.ownsRow w0.heap.size 9 1 (.slice oa out.length oc) out.length (out.map Value.string)) := Lib.hid HF1.out.sr
            have hzb : w0.heap.size ≤ w1.heap.size := HF1.out.b0.size
            clear x0 x1 x2 x3 x4 xz hb1
            obtain ⟨x0, x1, x2, x3, x4, xz⟩ := HF1.out.bx
            rw [HK.out] at x0
            rw [HN.out] at x1
            rw [HM.out] at x2
            rw [HSS.out] at x3
            go_wp2_with fail
            go_at_call 86
            refine (has_any M s hMlt HSO1.out _).mono ?_
            rintro e w2 ⟨rfl, hw⟩
            rw [HV.out, hw]
            clear hw
            go_wp2_with fail
            go_at_call 87
            refine (sContains_any w0.heap.size out (by omega) _ P _ HF1.out.sr).mono ?_
            rintro e w3 ⟨rfl, hw⟩
            rw [HO.out, hw]
            clear hw
            go_wp2_with (first | (at_builtin; refine wpList_append_lies _ rfl _ _ 48 rfl w0.heap.size 9 i0 _ 1 16 Try.underlying48 hi0 hz0 hz1 hz2 rfl (by omega) (.slice oa out.length oc) out.length (out.map Value.string) rfl (HSO.out.alloc _) ⟨w1.heap.size, 0, none⟩ 1 1 [.string P] rfl rfl (World.news_of_block (cs := #[.string P]) (t := 9) (fr := (0, 0)) (heap_alloc_new w1 _)) (by simp [Value.oneCell']) (by omega) (by unfold maxLen; omega) (by omega) (by simp; omega) (w1.heap.size + 1) (by simp) ?_; intro g6 cap6 w6 hown6 hgrow6 hat6 hlt6))
            go_ret
            rw [HR.out]
            have hF1 := HF1.out.below ((Below.refl w1.heap.size w1).alloc (Nat.le_refl _) (.cells #[.string P] 9))
            have hF2 := hF1.step (ov' := .slice (some ⟨g6, 0, none⟩) (out.length + 1) cap6) (o' := out ++ [P]) (by unfold SR; simp only [List.length_append, List.length_cons, List.length_nil, List.map_append, List.map_cons, List.map_nil]; exact hown6) hgrow6 (fun g e => (by injection e : g6 = g) ▸ hat6.imp id (fun h => by simp; omega))
            exact hF2.post
          · have HO := Lib.hid ho
            have HR : Hid (fnX (d + 1) b x out = out) := Lib.hid (HOLD.out (by rw [he, hv, ho]; rfl))
            clear he ho hv
            go_enter Try.func49, Try.ntmps49
            go_wp2_with fail
            rw [HW1.out]
            clear hS
            go_at_call 85
            refine (nameText_any 2 n m s (.slice a L cap) hm1 hs1 a L cap _).mono ?_
            rintro e w1 ⟨rfl, hb1⟩
            rw [HP.out]
            have HF1 := Lib.hid (HFS.out.below hb1)
            have HSO : Hid (w1.ownsRow w0.heap.size 9 1 (.slice oa out.length oc) out.length (out.map Value.string)) := Lib.hid HF1.out.sr
            have hzb : w0.heap.size ≤ w1.heap.size := HF1.out.b0.size
            clear x0 x1 x2 x3 x4 xz hb1
            obtain ⟨x0, x1, x2, x3, x4, xz⟩ := HF1.out.bx
            rw [HK.out] at x0
            rw [HN.out] at x1
            rw [HM.out] at x2
            rw [HSS.out] at x3
            go_wp2_with fail
            go_at_call 86
            refine (has_any M s hMlt HSO1.out _).mono ?_
            rintro e w2 ⟨rfl, hw⟩
            rw [HV.out, hw]
            clear hw
            go_wp2_with fail
            go_at_call 87
            refine (sContains_any w0.heap.size out (by omega) _ P _ HF1.out.sr).mono ?_
            rintro e w3 ⟨rfl, hw⟩
            rw [HO.out, hw]
            clear hw
            go_wp2_with fail
            go_ret
            rw [HR.out]
            exact HF1.out.post
        · have HV : Hid (hsB M (nk s) = true) := Lib.hid (by rw [← HBD.out.eq s HSO1.out]; exact hv)
          have HR : Hid (fnX (d + 1) b x out = out) := Lib.hid (HOLD.out (by rw [he, hv]; rfl))
          clear he hv
          go_enter Try.func49, Try.ntmps49
          go_wp2_with fail
          rw [HW1.out]
          clear hS
          go_at_call 85
          refine (nameText_any 2 n m s (.slice a L cap) hm1 hs1 a L cap _).mono ?_
          rintro e w1 ⟨rfl, hb1⟩
          rw [HP.out]
          have HF1 := Lib.hid (HFS.out.below hb1)
          have HSO : Hid (w1.ownsRow w0.heap.size 9 1 (.slice oa out.length oc) out.length (out.map Value.string)) := Lib.hid HF1.out.sr
          have hzb : w0.heap.size ≤ w1.heap.size := HF1.out.b0.size
          clear x0 x1 x2 x3 x4 xz hb1
          obtain ⟨x0, x1, x2, x3, x4, xz⟩ := HF1.out.bx
          rw [HK.out] at x0
          rw [HN.out] at x1
          rw [HM.out] at x2
          rw [HSS.out] at x3
          go_wp2_with fail
          go_at_call 86
          refine (has_any M s hMlt HSO1.out _).mono ?_
          rintro e w2 ⟨rfl, hw⟩
          rw [HV.out, hw]
          clear hw
          go_wp2_with fail
          go_wp2_with fail
          go_ret
          rw [HR.out]
          exact HF1.out.post
    · have HK2 := Lib.hid h2
      have HX := Lib.hid hx
      obtain ⟨a, cap, rfl, hlen⟩ := hx.slice
      obtain ⟨k, hk⟩ : ∃ k, x.k = k := ⟨_, rfl⟩
      obtain ⟨n, hn⟩ : ∃ n, x.n = n := ⟨_, rfl⟩
      obtain ⟨m, hm⟩ : ∃ m, x.m = m := ⟨_, rfl⟩
      obtain ⟨s, hs⟩ : ∃ s, x.s = s := ⟨_, rfl⟩
      obtain ⟨L, hL⟩ : ∃ L, x.ks.length = L := ⟨_, rfl⟩
      have HK := Lib.hid hk
      have HN := Lib.hid hn
      have HM := Lib.hid hm
      have HSS := Lib.hid hs
      have HL := Lib.hid hL
      rw [hk, hn, hm, hs, hL]
      rw [hL] at hlen
      clear hx hk hn hm hs hL
      have HF := Lib.hid hf
      have k2 : (k == 2) = false := by rw [← HK.out]; simpa using h2
      clear h2 hf
      have HFS : Hid (FS w0 w w.heap.size x (.slice a L cap) (.slice oa out.length oc) [] (.slice none 0 0) 0 (w.alloc (.cells #[.int .i64 k, .int .i64 n, .string m, .string s, .slice a L cap] 38)) (.slice oa out.length oc) out) := Lib.hid (by
        have h := FS.start (x := x) (v := .slice a L cap) (T := 38) HOUT.out HB0.out (sr_nil w) (fun g e1 e2 => by cases e2)
        rw [HK.out, HN.out, HM.out, HSS.out] at h
        exact h)
      obtain ⟨S, hS⟩ : ∃ S, w.heap.size = S := ⟨_, rfl⟩
      obtain ⟨W1, hW1⟩ : ∃ W, (w.alloc (.cells #[.int .i64 k, .int .i64 n, .string m, .string s, .slice a L cap] 38)) = W := ⟨_, rfl⟩
      rw [hS, hW1] at HFS
      have HW1 := Lib.hid hW1
      have HS := Lib.hid hS
      clear hW1
      obtain ⟨x0, x1, x2, x3, x4, xz⟩ := HFS.out.bx
      rw [HK.out] at x0
      rw [HN.out] at x1
      rw [HM.out] at x2
      rw [HSS.out] at x3
      go_enter Try.func49, Try.ntmps49
      go_wp2_with fail
      try rw [HW1.out]
      clear hS
      go_loopw [0, 38] (fun ovr i wr => ∃ (j : Nat) (a' : Option Addr) (c' : Nat), j ≤ L ∧ i = .int .i64 j ∧ ovr = .slice a' (fnK d b x out j).length c' ∧ Hid (FS w0 w S x (.slice a L cap) (.slice oa out.length oc) [] (.slice none 0 0) 0 wr (.slice a' (fnK d b x out j).length c') (fnK d b x out j))) (fun _ i _ => L - (intOf i).toNat)
      case atStart => exact ⟨0, oa, oc, Nat.zero_le _, rfl, rfl, HFS⟩
      case round =>
        clear x0 x1 x2 x3 x4 xz
        obtain ⟨j, a', c', hj, rfl, rfl, hfs⟩ := hrel
        obtain ⟨x0, x1, x2, x3, x4, xz⟩ := hfs.out.bx
        rw [HK.out] at x0
        rw [HN.out] at x1
        rw [HM.out] at x2
        rw [HSS.out] at x3
        obtain ⟨o, ho⟩ : ∃ o, fnK d b x out j = o := ⟨_, rfl⟩
        have HO := Lib.hid ho
        rw [ho] at hfs ⊢
        clear ho
        by_cases hlt : j < L
        · have hji : (j : Int) < (L : Int) := by omega
          obtain ⟨rb, ro, cap2, vi, ex, bl, ⟨y0, y1, y2, y3, y4⟩, hkid⟩ := HX.out.kid j (by rw [HL.out]; exact hlt)
          have ex1 : a = some ⟨rb, ro, none⟩ := by injection ex
          subst ex1
          replace y0 := (hfs.out.b0.cell (p := ⟨rb, ro + j * 5, none⟩) bl).trans y0
          replace y1 := (hfs.out.b0.cell (p := ⟨rb, ro + j * 5 + 1, none⟩) bl).trans y1
          replace y2 := (hfs.out.b0.cell (p := ⟨rb, ro + j * 5 + 2, none⟩) bl).trans y2
          replace y3 := (hfs.out.b0.cell (p := ⟨rb, ro + j * 5 + 3, none⟩) bl).trans y3
          replace y4 := (hfs.out.b0.cell (p := ⟨rb, ro + j * 5 + 4, none⟩) bl).trans y4
          have hsk := (shpX_iff.1 HSH.out).2 j (by rw [HL.out]; exact hlt)
          have HN1 : Hid (o.length + ndX d (x.ks.getD j Ex.dummy) ≤ 100000) := Lib.hid (by
            have g1 := fnK_len d b x out j
            have g2 := ndkX_mono d x (show j + 1 ≤ x.ks.length by rw [HL.out]; exact hlt)
            have g3 := ndkX_succ d x j
            have g4 := ndX_succ d x
            rw [HO.out] at g1
            omega)
          obtain ⟨y, hy⟩ : ∃ y, x.ks.getD j Ex.dummy = y := ⟨_, rfl⟩
          rw [hy] at y0 y1 y2 y3 hkid hsk HN1
          obtain ⟨ai, ci, rfl, hli⟩ := hkid.slice
          have HXK := Lib.hid hy
          have HKID := Lib.hid hkid
          have HSK := Lib.hid hsk
          clear hy hkid ex hsk
          have hLb : L ≤ 3 := by have := fields_len HF.out; rw [HL.out] at this; exact this
          rcases hbj : bindB k j with _ | _
          · have HBJ := Lib.hid hbj
            clear hbj
            have HNX : Hid (fnK d b x out (j + 1) = fnX d b y o) := Lib.hid (by rw [fnK_succ, HK.out, HBJ.out, HXK.out, HO.out]; rfl)
            go_wp2_with fail
            go_at_call 88
            refine (bindsIn_any k n m s (some ⟨rb, ro, none⟩) L cap j (by omega) _).mono ?_
            rintro e w2 ⟨rfl, hb2⟩
            rw [HBJ.out]
            have HBX := Lib.hid ((ebox_new wr (.int .i64 y.k) (.int .i64 y.n) (.string y.m) (.string y.s) (.slice ai y.ks.length ci) 38).kept hb2)
            have HFA := Lib.hid (hfs.out.below (((Below.refl wr.heap.size wr).alloc (Nat.le_refl _) (.cells #[.int .i64 y.k, .int .i64 y.n, .string y.m, .string y.s, .slice ai y.ks.length ci] 38)).trans (hb2.mono (by simp))))
            clear x0 x1 x2 x3 x4 xz y0 y1 y2 y3 y4 hb2
            obtain ⟨x0, x1, x2, x3, x4, xz⟩ := HFA.out.bx
            rw [HK.out] at x0
            rw [HN.out] at x1
            rw [HM.out] at x2
            rw [HSS.out] at x3
            obtain ⟨y0, y1, y2, y3, y4, yz⟩ := HBX.out
            go_wp2_with fail
            go_at_call 49
            refine (HIH.out y _ b M o _ w2 HSK.out (by omega) HKID.out HFA.out.b0 HFA.out.sr HBD.out HN1.out).mono ?_
            rintro e w4 ⟨ov2, rfl, h1, h2, h3⟩
            have HF2 := Lib.hid (HFA.out.step h1 h2 h3)
            obtain ⟨a2, c2, rfl⟩ := owns_slice h1
            clear h1 h2 h3
            go_wp2_with fail
            exact ⟨⟨j + 1, a2, c2, by omega, by go_num, by rw [HNX.out], by rw [HNX.out]; exact HF2⟩, by simp [intOf]; omega⟩
          · have HBJ := Lib.hid hbj
            have HSO1 : Hid (oneB 97 122 s = true) := Lib.hid (by have h := HF.out; rw [HK.out, HN.out, HM.out, HSS.out] at h; exact fields_bind h hbj)
            clear hbj
            have HNX : Hid (fnK d b x out (j + 1) = fnX d (b ++ [s]) y o) := Lib.hid (by rw [fnK_succ, HK.out, HBJ.out, HXK.out, HO.out, if_pos rfl, HSS.out])
            go_wp2_with fail
            go_at_call 88
            refine (bindsIn_any k n m s (some ⟨rb, ro, none⟩) L cap j (by omega) _).mono ?_
            rintro e w2 ⟨rfl, hb2⟩
            rw [HBJ.out]
            have HBX := Lib.hid ((ebox_new wr (.int .i64 y.k) (.int .i64 y.n) (.string y.m) (.string y.s) (.slice ai y.ks.length ci) 38).kept hb2)
            have HFA := Lib.hid (hfs.out.below (((Below.refl wr.heap.size wr).alloc (Nat.le_refl _) (.cells #[.int .i64 y.k, .int .i64 y.n, .string y.m, .string y.s, .slice ai y.ks.length ci] 38)).trans (hb2.mono (by simp))))
            clear x0 x1 x2 x3 x4 xz y0 y1 y2 y3 y4 hb2
            obtain ⟨x0, x1, x2, x3, x4, xz⟩ := HFA.out.bx
            rw [HK.out] at x0
            rw [HN.out] at x1
            rw [HM.out] at x2
            rw [HSS.out] at x3
            obtain ⟨y0, y1, y2, y3, y4, yz⟩ := HBX.out
            go_wp2_with fail
            go_at_call 89
            refine (with_any M s hMlt HSO1.out _).mono ?_
            rintro e w3 ⟨rfl, hw⟩
            rw [hw]
            clear hw
            go_wp2_with fail
            go_at_call 49
            refine (HIH.out y _ (b ++ [s]) (wt M (nk s)) o _ w2 HSK.out (by omega) HKID.out HFA.out.b0 HFA.out.sr (HBD.out.put HSO1.out) HN1.out).mono ?_
            rintro e w4 ⟨ov2, rfl, h1, h2, h3⟩
            have HF2 := Lib.hid (HFA.out.step h1 h2 h3)
            obtain ⟨a2, c2, rfl⟩ := owns_slice h1
            clear h1 h2 h3
            go_wp2_with fail
            exact ⟨⟨j + 1, a2, c2, by omega, by go_num, by rw [HNX.out], by rw [HNX.out]; exact HF2⟩, by simp [intOf]; omega⟩
        · have hji : ¬ (j : Int) < (L : Int) := by omega
          have hjl : j = L := by omega
          have HR : Hid (fnX (d + 1) b x out = o) := Lib.hid (by rw [fnX_kids HK2.out, HL.out, ← hjl]; exact HO.out)
          clear hlt hjl
          go_wp2_with fail
          go_ret
          rw [HR.out]
          exact hfs.out.post

end Go.Proofs.Ytlgbkhkmfgdehaa.Ox
