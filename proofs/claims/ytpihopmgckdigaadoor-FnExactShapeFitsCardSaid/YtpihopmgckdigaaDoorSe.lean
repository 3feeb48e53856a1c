/-
  ShapeFits of the program: the text of a value is cut off the front of a text; for every type in memory and every text of at most 2,000,000 bytes. The library's errors are read from its variables.
-/
import Derived.Test.YtpihopmgckdigaaDoorSd
import Derived.Test.YtpihopmgckdigaaDoorShelfD
import Derived.Test.YtpihopmgckdigaaDoorZh
namespace Go.Proofs.YtpihopmgckdigaaDoor
open Go.RowKit
set_option linter.unusedVariables false
set_option linter.unusedSimpArgs false

/-- The library's two variables hold errors. -/
structure ErrV (w : World) : Prop where
  s : ∃ te pe, w.cell? ⟨0, 0, none⟩ = some (.iface te pe)
  r : ∃ te pe, w.cell? ⟨1, 0, none⟩ = some (.iface te pe)
theorem ErrV.kept {w w' : World} (h : ErrV w) (hb : Below w.heap.size w w') : ErrV w' := by
  obtain ⟨te, pe, h1⟩ := h.s
  obtain ⟨tr, pr, h2⟩ := h.r
  exact ⟨⟨te, pe, (hb.cell (World.block_lt_of_cell? w _ h1)).trans h1⟩, ⟨tr, pr, (hb.cell (World.block_lt_of_cell? w _ h2)).trans h2⟩⟩
theorem data_mk (l : List UInt8) : (⟨l.toArray⟩ : ByteArray).data.toList = l := rfl
theorem size_len (s : ByteArray) : s.size = s.data.toList.length := by simp
/-- What a cut leaves: what is behind the text, or nothing that is said. -/
def CtRet : Option (List UInt8) → World → Ending → World → Prop
  | some l, w, e, w' => ∃ r : ByteArray, e = .returned (.tuple #[.string r, .bool true]) ∧ r.data.toList = l ∧ Below w.heap.size w w'
  | none, w, e, w' => ∃ r : ByteArray, e = .returned (.tuple #[.string r, .bool false]) ∧ Below w.heap.size w w'
theorem pre_one (c : UInt8) (l : List UInt8) : Lib.hasPrefix l [c] = (cutC c l).isSome ∧ (∀ r, cutC c l = some r → Lib.trimPrefix l [c] = r) := by
  cases l with
  | nil => exact ⟨rfl, fun r h => by cases h⟩
  | cons x t =>
    have e : cutC c (x :: t) = if x = c then some t else none := rfl
    have e2 : Lib.hasPrefix (x :: t) [c] = (c == x) := by unfold Lib.hasPrefix; simp [List.isPrefixOf]
    by_cases hx : x = c
    · subst hx
      rw [e, if_pos rfl, e2]
      refine ⟨by simp, fun r h => ?_⟩
      injection h with h; subst h
      unfold Lib.trimPrefix; rw [e2]; simp
    · rw [e, if_neg hx, e2]
      refine ⟨?_, fun r h => by cases h⟩
      show (c == x) = false
      rw [beq_eq_false_iff_ne]; exact fun h => hx h.symm
theorem pre_fun (l : List UInt8) : Lib.hasPrefix l [102, 117, 110] = (cutF l).isSome ∧ (∀ r, cutF l = some r → Lib.trimPrefix l [102, 117, 110] = r) := by
  unfold cutF Lib.trimPrefix Lib.hasPrefix
  by_cases h : [102, 117, 110].isPrefixOf l = true
  · rw [if_pos h, if_pos h]; exact ⟨h, fun r e => by injection e⟩
  · rw [if_neg h]; exact ⟨by rw [Bool.not_eq_true] at h; exact h, fun r e => by cases e⟩
theorem cut_of {s p : ByteArray} {o : Option (List UInt8)} {w : World} (h1 : Lib.hasPrefix s.data.toList p.data.toList = o.isSome) (h2 : ∀ r, o = some r → Lib.trimPrefix s.data.toList p.data.toList = r) :
    Calls Tryd.prog 59 #[.string s, .string p] w (CtRet o w) := by
  refine (Tryd.strings_CutPrefix s p w).mono ?_
  rintro e w' ⟨rfl, hw⟩
  rw [hw]
  rcases o with _ | l
  · rw [h1]; exact ⟨_, rfl, Below.refl _ _⟩
  · rw [h1]; exact ⟨_, rfl, h2 l rfl, Below.refl _ _⟩
theorem cutC_at (c : UInt8) (s : ByteArray) (w : World) : Calls Tryd.prog 59 #[.string s, .string ⟨#[c]⟩] w (CtRet (cutC c s.data.toList) w) :=
  cut_of (p := ⟨#[c]⟩) (pre_one c s.data.toList).1 (pre_one c s.data.toList).2
theorem cutF_at (s : ByteArray) (w : World) : Calls Tryd.prog 59 #[.string s, .string ⟨#[102, 117, 110]⟩] w (CtRet (cutF s.data.toList) w) :=
  cut_of (p := ⟨#[102, 117, 110]⟩) (pre_fun s.data.toList).1 (pre_fun s.data.toList).2
/-- strings.TrimLeft at the ten digits. -/
theorem trimL_at (s R : ByteArray) (hR : R.data.toList = rsL s.data.toList) (w : World) :
    Calls Tryd.prog 82 #[.string s, .string ⟨#[48, 49, 50, 51, 52, 53, 54, 55, 56, 57]⟩] w fun e w' => e = .returned (.string R) ∧ Below w.heap.size w w' := by
  refine (Any.strings_TrimLeft_laid Tryd.lays161 (by kernel_rfl) s ⟨#[48, 49, 50, 51, 52, 53, 54, 55, 56, 57]⟩ w (by decide) (by
    intro j b hb
    have h : b ∈ digS := List.mem_of_getElem? hb
    have h2 : digS.contains b = true := by simpa using h
    rw [digS_has] at h2
    have := (isDg_iff.1 h2).2
    omega)).mono ?_
  rintro e w' ⟨rfl, hb⟩
  refine ⟨?_, hb⟩
  congr 2
  have h := trim_dig s.data.toList
  have e : (Lib.trimLeftS s.data.toList digS).toArray = R.data := by rw [h, ← hR]
  show (⟨(Lib.trimLeftS s.data.toList digS).toArray⟩ : ByteArray) = R
  rw [e]
theorem isSuf (a b : List UInt8) : b.isSuffixOf (a ++ b) = true := by rw [List.isSuffixOf_iff_suffix]; exact List.suffix_append a b
theorem trimS_at (s R B : ByteArray) (hR : R.data.toList = rsL s.data.toList) (hB : B.data.toList = dsL s.data.toList) (hs : s.size ≤ 2000000) (w : World) :
    Calls Tryd.prog 83 #[.string s, .string R] w fun e w' => e = .returned (.string B) ∧ w' = w := by
  refine (Tryd.strings_TrimSuffix s R w (by omega)).mono ?_
  rintro e w' ⟨rfl, hw⟩
  refine ⟨?_, hw⟩
  congr 2
  have h1 : Lib.trimSuffix s.data.toList R.data.toList = dsL s.data.toList := by
    unfold Lib.trimSuffix Lib.hasSuffix
    have hs : R.data.toList.isSuffixOf s.data.toList = true := by
      have := isSuf (dsL s.data.toList) (rsL s.data.toList)
      rwa [ds_rs, ← hR] at this
    rw [if_pos hs, hR]
    have h2 := congrArg List.length (ds_rs s.data.toList)
    rw [List.length_append] at h2
    rw [show s.data.toList.length - (rsL s.data.toList).length = (dsL s.data.toList).length by omega]
    have h3 : (dsL s.data.toList ++ rsL s.data.toList).take (dsL s.data.toList).length = dsL s.data.toList := List.take_left' rfl
    rwa [ds_rs] at h3
  have e : (Lib.trimSuffix s.data.toList R.data.toList).toArray = B.data := by rw [h1, ← hB]
  rw [e]
/-- strconv.Atoi: a number and no error, or an error. -/
theorem atoi_at (s : ByteArray) (hs : s.size ≤ 2000000) (w : World) (hv : ErrV w) :
    Calls Tryd.prog 84 #[.string s] w fun e w' => (∃ v, Lib.atoiAll s.data.toList = .ok v ∧ e = .returned (.tuple #[.int .i64 v, .nilIface]) ∧ Below w.heap.size w w') ∨ (∃ v t p, (∀ u, Lib.atoiAll s.data.toList ≠ .ok u) ∧ e = .returned (.tuple #[.int .i64 v, .iface t p]) ∧ Below w.heap.size w w') := by
  obtain ⟨te, pe, hs1⟩ := hv.s
  obtain ⟨tr, pr, hr1⟩ := hv.r
  rcases h : Lib.atoiAll s.data.toList with v | _ | _
  · refine (Tryd.strconv_Atoi_ok s (by omega) v h w).mono ?_
    rintro e w' ⟨rfl, hw⟩
    refine .inl ⟨v, rfl, rfl, ?_⟩
    rcases hw with rfl | ⟨t, rfl⟩
    · exact Below.refl _ _
    · exact Lib.bytesWorld_below _ _ _
  · refine (Tryd.strconv_Atoi_syntax s (by omega) (h.trans rfl) _ w hs1 (.inr ⟨_, _, rfl⟩)).mono ?_
    rintro e w' ⟨N, rfl, -, -, hb⟩
    exact .inr ⟨_, _, _, (fun u hu => by cases hu), rfl, hb⟩
  · refine (Tryd.strconv_Atoi_range s (by omega) h _ w hr1 (.inr ⟨_, _, rfl⟩)).mono ?_
    rintro e w' ⟨N, rfl, -, -, hb⟩
    exact .inr ⟨_, _, _, (fun u hu => by cases hu), rfl, hb⟩
theorem str_same {a b : ByteArray} : (a.toList == b.toList) = (a.data.toList == b.data.toList) := by rw [Lib.toList_data, Lib.toList_data]

set_option maxRecDepth 100000 in
set_option maxHeartbeats 2000000 in
theorem cutNumber_at (s : ByteArray) (hs : s.size ≤ 2000000) (w : World) (hv : ErrV w) :
    Calls Tryd.prog 58 #[.string s] w (CtRet (cutN s.data.toList) w) := by
  obtain ⟨R, hR⟩ : ∃ R : ByteArray, R.data.toList = rsL s.data.toList := ⟨⟨(rsL s.data.toList).toArray⟩, rfl⟩
  obtain ⟨B, hB⟩ : ∃ B : ByteArray, B.data.toList = dsL s.data.toList := ⟨⟨(dsL s.data.toList).toArray⟩, rfl⟩
  have hBs : B.size ≤ s.size := by
    have h2 := congrArg List.length (ds_rs s.data.toList)
    rw [List.length_append] at h2
    rw [size_len B, size_len s, hB]; omega
  have HD : Hid (∀ b ∈ B.data.toList, isDg b = true) := Lib.hid (by rw [hB]; exact ds_all _)
  have HR := Lib.hid hR
  have HB := Lib.hid hB
  have HV := Lib.hid hv
  have HS := Lib.hid hs
  have HBS : Hid (B.size ≤ 2000000) := Lib.hid (by omega)
  clear hR hB hv hs hBs
  go_enter Tryd.func58, Tryd.ntmps58
  go_wp2_with fail
  go_at_call 82
  refine (trimL_at s R HR.out _).mono ?_
  rintro e w1 ⟨rfl, hb1⟩
  have H1 := Lib.hid hb1
  clear hb1
  go_wp2_with fail
  go_at_call 83
  refine (trimS_at s R B HR.out HB.out HS.out _).mono ?_
  rintro e w2 ⟨rfl, rfl⟩
  go_wp2_with fail
  go_at_call 84
  refine (atoi_at B HBS.out _ (HV.out.kept H1.out)).mono ?_
  rintro e w3 (⟨v, hat, rfl, hb3⟩ | ⟨v, t, p, hat, rfl, hb3⟩)
  · have hv0 := atoi_dig HD.out hat
    have HAT := Lib.hid hat
    have H3 := Lib.hid (H1.out.trans (hb3.mono H1.out.size))
    clear hat hb3
    by_cases hv9 : v ≤ 99
    · obtain ⟨n, rfl⟩ : ∃ n : Nat, v = n := ⟨v.toNat, by omega⟩
      have hn : n < 100 := by omega
      obtain ⟨I, hI⟩ : ∃ I : ByteArray, I = ⟨(Lib.decDigits n).toArray⟩ := ⟨_, rfl⟩
      have HIL : Hid (I.data.toList = Lib.itoa (n : Int)) := Lib.hid (by rw [hI, Lib.itoa_nonneg])
      have HIT := Lib.hid (fun W => Tryd.strconv_Itoa_small n hn W)
      rw [← hI] at HIT
      clear hI
      go_wp2_with fail
      go_at_call 85
      refine (HIT.out _).mono ?_
      rintro e w4 ⟨rfl, rfl⟩
      by_cases hn : numOk B.data.toList = true
      · have hq : I.toList == B.toList := by
          obtain ⟨v2, h1, _, _, h4⟩ := atoi_num HD.out hn
          rw [HAT.out] at h1
          injection h1 with h1
          rw [str_same, HIL.out, h1, h4]; simp
        have HC : Hid (cutN s.data.toList = some R.data.toList) := Lib.hid (by unfold cutN; rw [← HB.out, if_pos hn, HR.out])
        clear hn
        go_wp2_with fail
        go_ret2
        rw [HC.out]
        exact ⟨R, rfl, rfl, H3.out⟩
      · have hq : (I.toList == B.toList) = false := by
          rcases hc : (I.toList == B.toList) with _ | _
          · rfl
          · exfalso
            rw [str_same, HIL.out] at hc
            exact hn (num_back HD.out HAT.out hv9 (by simpa using hc))
        have HC : Hid (cutN s.data.toList = none) := Lib.hid (by unfold cutN; rw [← HB.out, if_neg hn])
        clear hn
        go_wp2_with fail
        go_ret2
        rw [HC.out]
        exact ⟨R, rfl, H3.out⟩
    · have HC : Hid (cutN s.data.toList = none) := Lib.hid (by
        unfold cutN
        rw [← HB.out, if_neg]
        intro hn
        obtain ⟨v2, h1, _, h3, _⟩ := atoi_num HD.out hn
        rw [HAT.out] at h1
        injection h1 with h1
        omega)
      go_wp2_with fail
      go_ret2
      rw [HC.out]
      exact ⟨R, rfl, H3.out⟩
  · have HC : Hid (cutN s.data.toList = none) := Lib.hid (by
      unfold cutN
      rw [← HB.out, if_neg]
      intro hn
      obtain ⟨v2, h1, _, h3, _⟩ := atoi_num HD.out hn
      exact hat _ h1)
    have H3 := Lib.hid (H1.out.trans (hb3.mono H1.out.size))
    clear hat hb3
    go_wp2_with fail
    go_ret2
    rw [HC.out]
    exact ⟨R, rfl, H3.out⟩

structure TBx (w : World) (B : Nat) (z : Value) : Prop where
  c2 : w.cell? ⟨B, 2, none⟩ = some z
  sz : B < w.heap.size
theorem TBx.kept {w w' : World} {B : Nat} {z : Value} (h : TBx w B z) (hb : Below w.heap.size w w') : TBx w' B z :=
  ⟨(hb.cell (p := ⟨B, 2, none⟩) h.sz).trans h.c2, Nat.lt_of_lt_of_le h.sz hb.size⟩
theorem tbx_new (w : World) (x y z : Value) (T : TypeId) : TBx (w.alloc (.cells #[x, y, z] T)) w.heap.size z := ⟨by go_simp, by simp⟩
set_option maxRecDepth 100000 in
set_option maxHeartbeats 4000000 in
theorem cutPair_at (d : Nat) (ih : ∀ (u : Ty) (v : Value) (s : ByteArray) (w : World), shp d u = true → TyAt w u v → s.size ≤ 2000000 → ErrV w → Calls Tryd.prog 33 #[.agg #[.int .i64 u.k, .int .i64 u.n, v], .string s] w (CtRet (cutT d u s.data.toList) w))
    (t : Ty) (v : Value) (s : ByteArray) (w : World) (hL : t.ks.length = 2) (hkids : ∀ i, i < 2 → shp d (t.ks.getD i Ty.dummy) = true) (hx : TyAt w t v) (hs : s.size ≤ 2000000) (hv : ErrV w) (o : Option (List UInt8))
    (ho : ((((cutC 40 s.data.toList).bind (cutT d (t.ks.getD 0 Ty.dummy))).bind (cutC 44)).bind (cutT d (t.ks.getD 1 Ty.dummy))).bind (cutC 41) = o) :
    Calls Tryd.prog 60 #[.agg #[.int .i64 t.k, .int .i64 t.n, v], .string s] w (CtRet o w) := by
  have HX := Lib.hid hx
  obtain ⟨a, cap, rfl, hlen⟩ := hx.slice
  have HS0 := Lib.hid (hkids 0 (by omega))
  have HS1 := Lib.hid (hkids 1 (by omega))
  obtain ⟨b, o1, cap0, v0, ex, bl, x0, x1, x2, hk0⟩ := hx.kid 0 (by rw [hL]; omega)
  obtain ⟨b', o', cap1, v1, ex', bl', y0, y1, y2, hk1⟩ := hx.kid 1 (by rw [hL]; omega)
  have ea : a = some ⟨b, o1, none⟩ := by injection ex
  have ea' : a = some ⟨b', o', none⟩ := by injection ex'
  have eb : b' = b ∧ o' = o1 := by rw [ea] at ea'; injection ea' with e; injection e with e1 e2; exact ⟨e1.symm, e2.symm⟩
  obtain ⟨rfl, rfl⟩ := eb
  subst ea
  obtain ⟨u0, hu0⟩ : ∃ x, t.ks.getD 0 Ty.dummy = x := ⟨_, rfl⟩
  obtain ⟨u1, hu1⟩ : ∃ x, t.ks.getD 1 Ty.dummy = x := ⟨_, rfl⟩
  obtain ⟨k, hk⟩ : ∃ k, t.k = k := ⟨_, rfl⟩
  obtain ⟨n, hn⟩ : ∃ n, t.n = n := ⟨_, rfl⟩
  rw [hu0] at x0 x1 hk0 HS0 ho
  rw [hu1] at y0 y1 hk1 HS1 ho
  rw [hk, hn, hL]
  obtain ⟨g0, j0, rfl, _⟩ := hk0.slice
  obtain ⟨g1, j1, rfl, _⟩ := hk1.slice
  have HK0 := Lib.hid hk0
  have HK1 := Lib.hid hk1
  have HO := Lib.hid ho
  have HIH := Lib.hid ih
  have HV := Lib.hid hv
  have HS := Lib.hid hs
  have HX0 : Hid (w.cell? ⟨b', o', none⟩ = some (.int .i64 u0.k)) := Lib.hid (by simpa using x0)
  have HX1 : Hid (w.cell? ⟨b', o' + 1, none⟩ = some (.int .i64 u0.n)) := Lib.hid (by simpa using x1)
  have HX2 : Hid (w.cell? ⟨b', o' + 2, none⟩ = some (.slice g0 u0.ks.length j0)) := Lib.hid (by simpa using x2)
  have HY0 : Hid (w.cell? ⟨b', o' + 3, none⟩ = some (.int .i64 u1.k)) := Lib.hid (by simpa using y0)
  have HY1 : Hid (w.cell? ⟨b', o' + 4, none⟩ = some (.int .i64 u1.n)) := Lib.hid (by simpa [Nat.add_assoc] using y1)
  have HY2 : Hid (w.cell? ⟨b', o' + 5, none⟩ = some (.slice g1 u1.ks.length j1)) := Lib.hid (by simpa [Nat.add_assoc] using y2)
  obtain ⟨l, hl⟩ : ∃ l, s.data.toList = l := ⟨_, rfl⟩
  rw [hl] at HO
  have HL := Lib.hid hl
  have HLE : Hid (l.length ≤ 2000000) := Lib.hid (by rw [← hl, ← size_len]; exact hs)
  clear hx hk0 hk1 ho ih hv hs hl hu0 hu1 hk hn ex ex' ea' x0 x1 x2 y0 y1 y2 hkids
  have HB0 : Hid (Below w.heap.size w (w.alloc (.cells #[.int .i64 k, .int .i64 n, .slice (some ⟨b', o', none⟩) 2 cap] 34))) := Lib.hid ((Below.refl _ _).alloc (Nat.le_refl _) _)
  have HT0 : Hid (TBx (w.alloc (.cells #[.int .i64 k, .int .i64 n, .slice (some ⟨b', o', none⟩) 2 cap] 34)) w.heap.size (.slice (some ⟨b', o', none⟩) 2 cap)) := Lib.hid (tbx_new w _ _ _ _)
  go_enter Tryd.func60, Tryd.ntmps60
  have HC1 : Hid (Calls Tryd.prog 59 _ _ _) := Lib.hid (cutC_at 40 s (w.alloc (.cells #[.int .i64 k, .int .i64 n, .slice (some ⟨b', o', none⟩) 2 cap] 34)))
  rw [HL.out] at HC1
  rcases h1 : cutC 40 l with _ | l1
  · have HOO : Hid (o = none) := Lib.hid (by rw [← HO.out, h1]; rfl)
    rw [h1] at HC1
    clear h1
    go_wp2_with fail
    go_at_call 59
    refine (HC1.out).mono ?_
    rintro e w1 ⟨r1, rfl, hb1⟩
    have HB1 := Lib.hid (HB0.out.trans (hb1.mono HB0.out.size))
    clear hb1
    go_wp2_with fail
    go_ret2
    rw [HOO.out]
    exact ⟨_, rfl, HB1.out⟩
  · have HE1 := Lib.hid h1
    rw [h1] at HC1
    clear h1
    go_wp2_with fail
    go_at_call 59
    refine (HC1.out).mono ?_
    rintro e w1 ⟨r1, rfl, hd1, hb1⟩
    have HB1 := Lib.hid (HB0.out.trans (hb1.mono HB0.out.size))
    have HD1 := Lib.hid hd1
    have HT1 := Lib.hid (HT0.out.kept hb1)
    have HN1 : Hid (l1.length ≤ 2000000) := Lib.hid (by obtain ⟨i, _, e⟩ := (cutC_end HE1.out).1; have := HLE.out; rw [e, List.length_drop]; omega)
    have HR1 : Hid (r1.size ≤ 2000000) := Lib.hid (by rw [size_len, HD1.out]; exact HN1.out)
    clear hd1 hb1
    have HC2 : Hid (Calls Tryd.prog 33 _ _ _) := Lib.hid (HIH.out u0 _ r1 w1 HS0.out (HK0.out.kept HB1.out) HR1.out (HV.out.kept HB1.out))
    rw [HD1.out] at HC2
    have x0 := (HB1.out.cell (p := ⟨b', o', none⟩) bl').trans HX0.out
    have x1 := (HB1.out.cell (p := ⟨b', o' + 1, none⟩) bl').trans HX1.out
    have x2 := (HB1.out.cell (p := ⟨b', o' + 2, none⟩) bl').trans HX2.out
    obtain ⟨b2, bz⟩ := HT1.out
    rcases h2 : cutT d u0 l1 with _ | l2
    · have HOO : Hid (o = none) := Lib.hid (by rw [← HO.out, HE1.out, Option.bind_some, h2]; rfl)
      rw [h2] at HC2
      clear h2
      go_wp2_with fail
      go_at_call 33
      refine (HC2.out).mono ?_
      rintro e w2 ⟨r2, rfl, hb2⟩
      have HB2 := Lib.hid (HB1.out.trans (hb2.mono HB1.out.size))
      clear hb2
      go_wp2_with fail
      go_ret2
      rw [HOO.out]
      exact ⟨_, rfl, HB2.out⟩
    · have HE2 := Lib.hid h2
      rw [h2] at HC2
      clear h2
      go_wp2_with fail
      go_at_call 33
      refine (HC2.out).mono ?_
      rintro e w2 ⟨r2, rfl, hd2, hb2⟩
      have HB2 := Lib.hid (HB1.out.trans (hb2.mono HB1.out.size))
      have HD2 := Lib.hid hd2
      have HT2 := Lib.hid (HT1.out.kept hb2)
      clear b2 bz x0 x1 x2
      have HN2 : Hid (l2.length ≤ 2000000) := Lib.hid (by obtain ⟨i, _, e⟩ := (cutT_end _ _ _ _ HE2.out); have := HN1.out; rw [e, List.length_drop]; omega)
      have HR2 : Hid (r2.size ≤ 2000000) := Lib.hid (by rw [size_len, HD2.out]; exact HN2.out)
      clear hd2 hb2
      have HC3 : Hid (Calls Tryd.prog 59 _ _ _) := Lib.hid (cutC_at 44 r2 w2)
      rw [HD2.out] at HC3
      rcases h3 : cutC 44 l2 with _ | l3
      · have HOO : Hid (o = none) := Lib.hid (by rw [← HO.out, HE1.out, Option.bind_some, HE2.out, Option.bind_some, h3]; rfl)
        rw [h3] at HC3
        clear h3
        go_wp2_with fail
        go_at_call 59
        refine (HC3.out).mono ?_
        rintro e w3 ⟨r3, rfl, hb3⟩
        have HB3 := Lib.hid (HB2.out.trans (hb3.mono HB2.out.size))
        clear hb3
        go_wp2_with fail
        go_ret2
        rw [HOO.out]
        exact ⟨_, rfl, HB3.out⟩
      · have HE3 := Lib.hid h3
        rw [h3] at HC3
        clear h3
        go_wp2_with fail
        go_at_call 59
        refine (HC3.out).mono ?_
        rintro e w3 ⟨r3, rfl, hd3, hb3⟩
        have HB3 := Lib.hid (HB2.out.trans (hb3.mono HB2.out.size))
        have HD3 := Lib.hid hd3
        have HT3 := Lib.hid (HT2.out.kept hb3)
        have HN3 : Hid (l3.length ≤ 2000000) := Lib.hid (by obtain ⟨i, _, e⟩ := (cutC_end HE3.out).1; have := HN2.out; rw [e, List.length_drop]; omega)
        have HR3 : Hid (r3.size ≤ 2000000) := Lib.hid (by rw [size_len, HD3.out]; exact HN3.out)
        clear hd3 hb3
        have HC4 : Hid (Calls Tryd.prog 33 _ _ _) := Lib.hid (HIH.out u1 _ r3 w3 HS1.out (HK1.out.kept HB3.out) HR3.out (HV.out.kept HB3.out))
        rw [HD3.out] at HC4
        have y0 := (HB3.out.cell (p := ⟨b', o' + 3, none⟩) bl').trans HY0.out
        have y1 := (HB3.out.cell (p := ⟨b', o' + 4, none⟩) bl').trans HY1.out
        have y2 := (HB3.out.cell (p := ⟨b', o' + 5, none⟩) bl').trans HY2.out
        obtain ⟨b2, bz⟩ := HT3.out
        rcases h4 : cutT d u1 l3 with _ | l4
        · have HOO : Hid (o = none) := Lib.hid (by rw [← HO.out, HE1.out, Option.bind_some, HE2.out, Option.bind_some, HE3.out, Option.bind_some, h4]; rfl)
          rw [h4] at HC4
          clear h4
          go_wp2_with fail
          go_at_call 33
          refine (HC4.out).mono ?_
          rintro e w4 ⟨r4, rfl, hb4⟩
          have HB4 := Lib.hid (HB3.out.trans (hb4.mono HB3.out.size))
          clear hb4
          go_wp2_with fail
          go_ret2
          rw [HOO.out]
          exact ⟨_, rfl, HB4.out⟩
        · have HE4 := Lib.hid h4
          rw [h4] at HC4
          clear h4
          go_wp2_with fail
          go_at_call 33
          refine (HC4.out).mono ?_
          rintro e w4 ⟨r4, rfl, hd4, hb4⟩
          have HB4 := Lib.hid (HB3.out.trans (hb4.mono HB3.out.size))
          have HD4 := Lib.hid hd4
          have HT4 := Lib.hid (HT3.out.kept hb4)
          clear b2 bz y0 y1 y2
          have HN4 : Hid (l4.length ≤ 2000000) := Lib.hid (by obtain ⟨i, _, e⟩ := (cutT_end _ _ _ _ HE4.out); have := HN3.out; rw [e, List.length_drop]; omega)
          have HR4 : Hid (r4.size ≤ 2000000) := Lib.hid (by rw [size_len, HD4.out]; exact HN4.out)
          clear hd4 hb4
          have HC5 : Hid (Calls Tryd.prog 59 _ _ _) := Lib.hid (cutC_at 41 r4 w4)
          rw [HD4.out] at HC5
          rcases h5 : cutC 41 l4 with _ | l5
          · have HOO : Hid (o = none) := Lib.hid (by rw [← HO.out, HE1.out, Option.bind_some, HE2.out, Option.bind_some, HE3.out, Option.bind_some, HE4.out, Option.bind_some, h5])
            rw [h5] at HC5
            clear h5
            go_wp2_with fail
            go_at_call 59
            refine (HC5.out).mono ?_
            rintro e w5 ⟨r5, rfl, hb5⟩
            have HB5 := Lib.hid (HB4.out.trans (hb5.mono HB4.out.size))
            clear hb5
            go_wp2_with fail
            go_ret2
            rw [HOO.out]
            exact ⟨_, rfl, HB5.out⟩
          · have HE5 := Lib.hid h5
            rw [h5] at HC5
            clear h5
            go_wp2_with fail
            go_at_call 59
            refine (HC5.out).mono ?_
            rintro e w5 ⟨r5, rfl, hd5, hb5⟩
            have HB5 := Lib.hid (HB4.out.trans (hb5.mono HB4.out.size))
            have HD5 := Lib.hid hd5
            have HT5 := Lib.hid (HT4.out.kept hb5)
            have HN5 : Hid (l5.length ≤ 2000000) := Lib.hid (by obtain ⟨i, _, e⟩ := (cutC_end HE5.out).1; have := HN4.out; rw [e, List.length_drop]; omega)
            have HR5 : Hid (r5.size ≤ 2000000) := Lib.hid (by rw [size_len, HD5.out]; exact HN5.out)
            clear hd5 hb5
            have HOO : Hid (o = some l5) := Lib.hid (by rw [← HO.out, HE1.out, Option.bind_some, HE2.out, Option.bind_some, HE3.out, Option.bind_some, HE4.out, Option.bind_some, HE5.out])
            go_wp2_with fail
            go_ret2
            rw [HOO.out]
            exact ⟨_, rfl, HD5.out, HB5.out⟩

set_option maxRecDepth 100000 in
set_option maxHeartbeats 4000000 in
theorem cutValue_at : ∀ (d : Nat) (t : Ty) (v : Value) (s : ByteArray) (w : World), shp d t = true → TyAt w t v → s.size ≤ 2000000 → ErrV w →
    Calls Tryd.prog 33 #[.agg #[.int .i64 t.k, .int .i64 t.n, v], .string s] w (CtRet (cutT d t s.data.toList) w) := by
  intro d
  induction d with
  | zero => intro t v s w hs _ _ _; cases hs
  | succ d ih =>
    intro t v s w hsh hx hs hv
    obtain ⟨hf, hkids⟩ := shp_iff.1 hsh
    rcases fieldsB_iff.1 hf with ⟨hk, hn, hL⟩ | ⟨hk, hn, hL⟩ | ⟨hk, _, _, hL⟩
    · rw [cutT_num hk, hk]
      obtain ⟨n, hn⟩ : ∃ n, t.n = n := ⟨_, rfl⟩
      obtain ⟨q, hq⟩ : ∃ q, cutN s.data.toList = q := ⟨_, rfl⟩
      have HC : Hid (∀ W, ErrV W → Calls Tryd.prog 58 #[.string s] W (CtRet q W)) := Lib.hid (fun W hW => by rw [← hq]; exact cutNumber_at s hs W hW)
      rw [hn, hq]
      have HV := Lib.hid hv
      clear hk hx hf hkids hsh ih hs hv hL hn hq
      go_enter Tryd.func33, Tryd.ntmps33
      go_wp2_with fail
      go_at_call 58
      refine (HC.out _ (HV.out.kept (by first | exact Below.refl _ _ | exact (Below.refl _ _).alloc (Nat.le_refl _) _))).mono ?_
      rcases q with _ | l
      · rintro e w1 ⟨r, rfl, hb⟩
        have HB := Lib.hid ((show Below w.heap.size w w1 from by first | exact hb | exact ((Below.refl _ _).alloc (Nat.le_refl _) _).trans (hb.mono (by simp))))
        clear hb
        go_wp2_with fail
        go_ret2
        exact ⟨r, rfl, HB.out⟩
      · rintro e w1 ⟨r, rfl, hr, hb⟩
        have HB := Lib.hid ((show Below w.heap.size w w1 from by first | exact hb | exact ((Below.refl _ _).alloc (Nat.le_refl _) _).trans (hb.mono (by simp))))
        have HR := Lib.hid hr
        clear hb hr
        go_wp2_with fail
        go_ret2
        exact ⟨r, rfl, HR.out, HB.out⟩
    · rcases hk with hk | hk
      · rw [cutT_fun hk, hk]
        obtain ⟨n, hn⟩ : ∃ n, t.n = n := ⟨_, rfl⟩
        obtain ⟨q, hq⟩ : ∃ q, cutF s.data.toList = q := ⟨_, rfl⟩
        have HC : Hid (∀ W, Calls Tryd.prog 59 #[.string s, .string ⟨#[102, 117, 110]⟩] W (CtRet q W)) := Lib.hid (fun W => by rw [← hq]; exact cutF_at s W)
        rw [hn, hq]
        have HV := Lib.hid hv
        clear hk hx hf hkids hsh ih hs hv hL hn hq
        go_enter Tryd.func33, Tryd.ntmps33
        go_wp2_with fail
        go_at_call 59
        refine (HC.out _).mono ?_
        rcases q with _ | l
        · rintro e w1 ⟨r, rfl, hb⟩
          have HB := Lib.hid ((show Below w.heap.size w w1 from by first | exact hb | exact ((Below.refl _ _).alloc (Nat.le_refl _) _).trans (hb.mono (by simp))))
          clear hb
          go_wp2_with fail
          go_ret2
          exact ⟨r, rfl, HB.out⟩
        · rintro e w1 ⟨r, rfl, hr, hb⟩
          have HB := Lib.hid ((show Below w.heap.size w w1 from by first | exact hb | exact ((Below.refl _ _).alloc (Nat.le_refl _) _).trans (hb.mono (by simp))))
          have HR := Lib.hid hr
          clear hb hr
          go_wp2_with fail
          go_ret2
          exact ⟨r, rfl, HR.out, HB.out⟩
      · rw [cutT_pair hk]
        obtain ⟨q, hq⟩ : ∃ q, ((((cutC 40 s.data.toList).bind (cutT d (t.ks.getD 0 Ty.dummy))).bind (cutC 44)).bind (cutT d (t.ks.getD 1 Ty.dummy))).bind (cutC 41) = q := ⟨_, rfl⟩
        have HC : Hid (∀ W, Below w.heap.size w W → Calls Tryd.prog 60 #[.agg #[.int .i64 3, .int .i64 t.n, v], .string s] W (CtRet q W)) := Lib.hid (fun W hW => by
          have h := cutPair_at d ih t v s W hL (fun i hi => hkids i (by rw [hL]; exact hi)) (hx.kept hW) hs (hv.kept hW) q hq
          rw [hk] at h; exact h)
        rw [hq, hk]
        obtain ⟨n, hn⟩ : ∃ n, t.n = n := ⟨_, rfl⟩
        rw [hn] at HC ⊢
        obtain ⟨a, cap, rfl, _⟩ := hx.slice
        clear hk hx hf hkids hsh ih hs hv hL hn hq
        go_enter Tryd.func33, Tryd.ntmps33
        go_wp2_with fail
        go_at_call 60
        refine (HC.out _ (by first | exact Below.refl _ _ | exact (Below.refl _ _).alloc (Nat.le_refl _) _)).mono ?_
        rcases q with _ | l
        · rintro e w1 ⟨r, rfl, hb⟩
          have HB := Lib.hid ((show Below w.heap.size w w1 from by first | exact hb | exact ((Below.refl _ _).alloc (Nat.le_refl _) _).trans (hb.mono (by simp))))
          clear hb
          go_wp2_with fail
          go_ret2
          exact ⟨r, rfl, HB.out⟩
        · rintro e w1 ⟨r, rfl, hr, hb⟩
          have HB := Lib.hid ((show Below w.heap.size w w1 from by first | exact hb | exact ((Below.refl _ _).alloc (Nat.le_refl _) _).trans (hb.mono (by simp))))
          have HR := Lib.hid hr
          clear hb hr
          go_wp2_with fail
          go_ret2
          exact ⟨r, rfl, HR.out, HB.out⟩
    · rw [cutT_var hk, hk]
      obtain ⟨n, hn⟩ : ∃ n, t.n = n := ⟨_, rfl⟩
      rw [hn]
      clear hk hx hf hkids hsh ih hs hv hL hn
      go_enter Tryd.func33, Tryd.ntmps33
      go_wp2_with fail
      go_ret2
      exact ⟨_, rfl, by first | exact Below.refl _ _ | exact (Below.refl _ _).alloc (Nat.le_refl _) _⟩
theorem tv_shp {t : Ty} (h : tvT t = true) : shp 16 t = true := by
  unfold tvT at h; rw [Bool.and_eq_true] at h; exact h.1
/-- Whether a text is that of a value of a type. -/
def shB (t : Ty) (l : List UInt8) : Bool := tvT t && (cutT 16 t l == some [])
set_option maxRecDepth 100000 in
set_option maxHeartbeats 2000000 in
theorem shapeFits_impl (t : Ty) (v : Value) (s : ByteArray) (w : World) (hx : TyAt w t v) (hs : s.size ≤ 2000000) (hv : ErrV w) :
    Calls Tryd.prog 12 #[.agg #[.int .i64 t.k, .int .i64 t.n, v], .string s] w fun e w' => e = .returned (.bool (shB t s.data.toList)) ∧ Below w.heap.size w w' := by
  obtain ⟨b, hb⟩ : ∃ b, tvT t = b := ⟨_, rfl⟩
  obtain ⟨a, cap, rfl, _⟩ := hx.slice
  obtain ⟨q, hq⟩ : ∃ q, cutT 16 t s.data.toList = q := ⟨_, rfl⟩
  obtain ⟨k, hk⟩ : ∃ k, t.k = k := ⟨_, rfl⟩
  obtain ⟨n, hn⟩ : ∃ n, t.n = n := ⟨_, rfl⟩
  obtain ⟨L, hL⟩ : ∃ L, t.ks.length = L := ⟨_, rfl⟩
  have HT : Hid (∀ W, Below w.heap.size w W → Calls Tryd.prog 14 #[.agg #[.int .i64 k, .int .i64 n, .slice a L cap]] W fun e w' => e = .returned (.bool b) ∧ Below W.heap.size W w') := Lib.hid (fun W hW => by
    have h := typeValid_impl t _ W (hx.kept hW)
    rw [hk, hn, hL, hb] at h; exact h)
  have HC : Hid (b = true → ∀ W, Below w.heap.size w W → Calls Tryd.prog 33 #[.agg #[.int .i64 k, .int .i64 n, .slice a L cap], .string s] W (CtRet q W)) := Lib.hid (fun h W hW => by
    have h := cutValue_at 16 t _ s W (tv_shp (by rw [hb]; exact h)) (hx.kept hW) hs (hv.kept hW)
    rw [hk, hn, hL, hq] at h; exact h)
  have HR : Hid (shB t s.data.toList = (b && (q == some []))) := Lib.hid (by unfold shB; rw [hb, hq])
  rw [HR.out, hk, hn, hL]
  have HA : Hid (Below w.heap.size w (w.alloc (.cells #[.int .i64 k, .int .i64 n, .slice a L cap] 34))) := Lib.hid ((Below.refl _ _).alloc (Nat.le_refl _) _)
  have HBX := Lib.hid (tbox_new w (.int .i64 k) (.int .i64 n) (.slice a L cap) 34)
  clear hb hq hx hs hv hk hn hL
  go_enter Tryd.func12, Tryd.ntmps12
  go_wp2_with fail
  go_at_call 14
  refine (HT.out _ HA.out).mono ?_
  rintro e w1 ⟨rfl, hb1⟩
  have HB1 := Lib.hid (HA.out.trans (hb1.mono (by simp)))
  have HBX1 := Lib.hid (HBX.out.kept hb1)
  rcases b with _ | _
  · clear hb1
    go_wp2_with fail
    go_ret
    exact ⟨rfl, HB1.out⟩
  have HC2 := Lib.hid (HC.out rfl w1 HB1.out)
  obtain ⟨c0, c1, c2, cz⟩ := HBX1.out
  clear hb1
  go_wp2_with fail
  go_at_call 33
  refine (HC2.out).mono ?_
  clear c0 c1 c2 cz
  rcases q with _ | l
  · rintro e w2 ⟨r, rfl, hb⟩
    have HB := Lib.hid (HB1.out.trans (hb.mono HB1.out.size))
    clear hb
    go_wp2_with fail
    go_ret
    exact ⟨rfl, HB.out⟩
  · rintro e w2 ⟨r, rfl, hr, hb⟩
    have HB := Lib.hid (HB1.out.trans (hb.mono HB1.out.size))
    by_cases hl : l = []
    · have hq : r.toList = [] := by rw [Lib.toList_data, hr, hl]
      have he : r.toList.isEmpty = true := by rw [hq]; rfl
      have HF : Hid ((true && (some l == some [])) = true) := Lib.hid (by rw [hl]; rfl)
      clear hb hr hl
      go_wp2_with fail
      go_ret
      refine ⟨?_, HB.out⟩
      rw [HF.out]
      rfl
    · have hq : ¬ r.toList = [] := by rw [Lib.toList_data, hr]; exact hl
      have he : r.toList.isEmpty = false := by simpa using hq
      have HF : Hid ((true && (some l == some [])) = false) := Lib.hid (by
        rw [Bool.true_and, beq_eq_false_iff_ne]; intro h; injection h with h; exact hl h)
      clear hb hr hl
      go_wp2_with fail
      go_ret
      refine ⟨?_, HB.out⟩
      rw [HF.out]
      rfl

end Go.Proofs.YtpihopmgckdigaaDoor
