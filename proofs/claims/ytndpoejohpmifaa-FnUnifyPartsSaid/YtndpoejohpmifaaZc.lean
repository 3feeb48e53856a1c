/-
  TypeValid of the program and of the model: for every type in memory, whether it is valid; what was in memory stays.
-/
import Derived.Test.YtndpoejohpmifaaProg
import Derived.Test.YtndpoejohpmifaaZa
namespace Go.Proofs.Ytndpoejohpmifaa
open Go.RowKit

theorem ret_bz {a b : Bool} (h : a = b) : Ending.returned (.bool a) = .returned (.bool b) := by rw [h]
def kidsNo (k : Int) : Int := if k = 1 ∨ k = 4 then 0 else if k = 2 ∨ k = 3 then 2 else -1
theorem kidsNo_rest {k : Int} (h1 : k ≠ 1) (h4 : k ≠ 4) (h2 : k ≠ 2) (h3 : k ≠ 3) : kidsNo k = -1 := by unfold kidsNo; rw [if_neg (by omega), if_neg (by omega)]
theorem fieldsB_no {k n : Int} {l : Nat} (h : ¬ ((k = 1 ∧ n = 0 ∧ l = 0) ∨ ((k = 2 ∨ k = 3) ∧ n = 0 ∧ l = 2) ∨ (k = 4 ∧ 0 ≤ n ∧ n ≤ 25 ∧ l = 0))) : fieldsB k n l = false := by unfold fieldsB; exact decide_eq_false h

set_option maxRecDepth 100000 in
set_option maxHeartbeats 400000 in
theorem l2Kids_any (k : Int) (w : World) : Calls Try.prog 78 #[.int .i64 k] w fun e w' => e = .returned (.int .i64 (kidsNo k)) ∧ w = w' := by
  by_cases h1 : k = 1
  · subst h1
    go_enter Try.func78, Try.ntmps78
    go_wp2
    go_ret
    exact ⟨rfl, rfl⟩
  by_cases h4 : k = 4
  · subst h4
    go_enter Try.func78, Try.ntmps78
    go_wp2
    go_ret
    exact ⟨rfl, rfl⟩
  by_cases h2 : k = 2
  · subst h2
    go_enter Try.func78, Try.ntmps78
    go_wp2
    go_ret
    exact ⟨rfl, rfl⟩
  by_cases h3 : k = 3
  · subst h3
    go_enter Try.func78, Try.ntmps78
    go_wp2
    go_ret
    exact ⟨rfl, rfl⟩
  have e1 : (k == 1) = false := by simpa using h1
  have e4 : (k == 4) = false := by simpa using h4
  have e2 : (k == 2) = false := by simpa using h2
  have e3 : (k == 3) = false := by simpa using h3
  have H := Lib.hid (kidsNo_rest h1 h4 h2 h3)
  clear h1 h2 h3 h4
  go_enter Try.func78, Try.ntmps78
  go_wp2
  go_ret
  exact ⟨by rw [H.out]; rfl, rfl⟩

set_option maxRecDepth 100000 in
set_option maxHeartbeats 800000 in
theorem typeFieldsFit_any (k n : Int) (l : Nat) (a : Option Addr) (cap : Nat) (b : Bool) (hb : fieldsB k n l = b) (w : World) :
    Calls Try.prog 77 #[.agg #[.int .i64 k, .int .i64 n, .slice a l cap]] w fun e w' => e = .returned (.bool b) ∧ Below w.heap.size w w' := by
  by_cases h1 : k = 1
  · subst h1
    by_cases hn : n = 0
    · by_cases hz : l = 0
      · have e1 : ((l : Int) == 0) = true := by simp; omega
        have H : Hid (true = b) := Lib.hid (hb ▸ (fieldsB_iff.2 (by omega)).symm)
        clear hb
        subst hn
        clear hz
        go_enter Try.func77, Try.ntmps77
        go_wp2
        go_ret
        first | exact ⟨ret_bz H.out, Below.refl _ _⟩ | exact ⟨ret_bz H.out, (Below.refl _ _).alloc (Nat.le_refl _) _⟩
      · have e1 : ((l : Int) == 0) = false := by simp; omega
        have H : Hid (false = b) := Lib.hid (hb ▸ (fieldsB_no (by omega)).symm)
        clear hb
        subst hn
        clear hz
        go_enter Try.func77, Try.ntmps77
        go_wp2
        go_ret
        first | exact ⟨ret_bz H.out, Below.refl _ _⟩ | exact ⟨ret_bz H.out, (Below.refl _ _).alloc (Nat.le_refl _) _⟩
    · have e1 : (n == 0) = false := by simpa using hn
      have H : Hid (false = b) := Lib.hid (hb ▸ (fieldsB_no (by omega)).symm)
      clear hb
      clear hn
      go_enter Try.func77, Try.ntmps77
      go_wp2
      go_ret
      first | exact ⟨ret_bz H.out, Below.refl _ _⟩ | exact ⟨ret_bz H.out, (Below.refl _ _).alloc (Nat.le_refl _) _⟩
  by_cases h2 : k = 2
  · subst h2
    by_cases hn : n = 0
    · by_cases hz : l = 2
      · have e1 : ((l : Int) == 2) = true := by simp; omega
        have H : Hid (true = b) := Lib.hid (hb ▸ (fieldsB_iff.2 (by omega)).symm)
        clear hb
        subst hn
        clear hz
        go_enter Try.func77, Try.ntmps77
        go_wp2
        go_ret
        first | exact ⟨ret_bz H.out, Below.refl _ _⟩ | exact ⟨ret_bz H.out, (Below.refl _ _).alloc (Nat.le_refl _) _⟩
      · have e1 : ((l : Int) == 2) = false := by simp; omega
        have H : Hid (false = b) := Lib.hid (hb ▸ (fieldsB_no (by omega)).symm)
        clear hb
        subst hn
        clear hz
        go_enter Try.func77, Try.ntmps77
        go_wp2
        go_ret
        first | exact ⟨ret_bz H.out, Below.refl _ _⟩ | exact ⟨ret_bz H.out, (Below.refl _ _).alloc (Nat.le_refl _) _⟩
    · have e1 : (n == 0) = false := by simpa using hn
      have H : Hid (false = b) := Lib.hid (hb ▸ (fieldsB_no (by omega)).symm)
      clear hb
      clear hn
      go_enter Try.func77, Try.ntmps77
      go_wp2
      go_ret
      first | exact ⟨ret_bz H.out, Below.refl _ _⟩ | exact ⟨ret_bz H.out, (Below.refl _ _).alloc (Nat.le_refl _) _⟩
  by_cases h3 : k = 3
  · subst h3
    by_cases hn : n = 0
    · by_cases hz : l = 2
      · have e1 : ((l : Int) == 2) = true := by simp; omega
        have H : Hid (true = b) := Lib.hid (hb ▸ (fieldsB_iff.2 (by omega)).symm)
        clear hb
        subst hn
        clear hz
        go_enter Try.func77, Try.ntmps77
        go_wp2
        go_ret
        first | exact ⟨ret_bz H.out, Below.refl _ _⟩ | exact ⟨ret_bz H.out, (Below.refl _ _).alloc (Nat.le_refl _) _⟩
      · have e1 : ((l : Int) == 2) = false := by simp; omega
        have H : Hid (false = b) := Lib.hid (hb ▸ (fieldsB_no (by omega)).symm)
        clear hb
        subst hn
        clear hz
        go_enter Try.func77, Try.ntmps77
        go_wp2
        go_ret
        first | exact ⟨ret_bz H.out, Below.refl _ _⟩ | exact ⟨ret_bz H.out, (Below.refl _ _).alloc (Nat.le_refl _) _⟩
    · have e1 : (n == 0) = false := by simpa using hn
      have H : Hid (false = b) := Lib.hid (hb ▸ (fieldsB_no (by omega)).symm)
      clear hb
      clear hn
      go_enter Try.func77, Try.ntmps77
      go_wp2
      go_ret
      first | exact ⟨ret_bz H.out, Below.refl _ _⟩ | exact ⟨ret_bz H.out, (Below.refl _ _).alloc (Nat.le_refl _) _⟩
  by_cases h4 : k = 4
  · subst h4
    by_cases hn : 0 ≤ n
    · by_cases hm : n ≤ 25
      · by_cases hz : l = 0
        · have e1 : ((l : Int) == 0) = true := by simp; omega
          have H : Hid (true = b) := Lib.hid (hb ▸ (fieldsB_iff.2 (by omega)).symm)
          clear hb
          clear hz
          go_enter Try.func77, Try.ntmps77
          go_wp2
          go_ret
          first | exact ⟨ret_bz H.out, Below.refl _ _⟩ | exact ⟨ret_bz H.out, (Below.refl _ _).alloc (Nat.le_refl _) _⟩
        · have e1 : ((l : Int) == 0) = false := by simp; omega
          have H : Hid (false = b) := Lib.hid (hb ▸ (fieldsB_no (by omega)).symm)
          clear hb
          clear hz
          go_enter Try.func77, Try.ntmps77
          go_wp2
          go_ret
          first | exact ⟨ret_bz H.out, Below.refl _ _⟩ | exact ⟨ret_bz H.out, (Below.refl _ _).alloc (Nat.le_refl _) _⟩
      · 
        have H : Hid (false = b) := Lib.hid (hb ▸ (fieldsB_no (by omega)).symm)
        clear hb
        go_enter Try.func77, Try.ntmps77
        go_wp2
        go_ret
        first | exact ⟨ret_bz H.out, Below.refl _ _⟩ | exact ⟨ret_bz H.out, (Below.refl _ _).alloc (Nat.le_refl _) _⟩
    · 
      have H : Hid (false = b) := Lib.hid (hb ▸ (fieldsB_no (by omega)).symm)
      clear hb
      go_enter Try.func77, Try.ntmps77
      go_wp2
      go_ret
      first | exact ⟨ret_bz H.out, Below.refl _ _⟩ | exact ⟨ret_bz H.out, (Below.refl _ _).alloc (Nat.le_refl _) _⟩
  have e1 : (k == 1) = false := by simpa using h1
  have e2 : (k == 2) = false := by simpa using h2
  have e3 : (k == 3) = false := by simpa using h3
  have e4 : (k == 4) = false := by simpa using h4
  have H : Hid (false = b) := Lib.hid (hb ▸ (fieldsB_no (by omega)).symm)
  clear hb
  clear h1 h2 h3 h4
  go_enter Try.func77, Try.ntmps77
  go_wp2
  go_ret
  first | exact ⟨ret_bz H.out, Below.refl _ _⟩ | exact ⟨ret_bz H.out, (Below.refl _ _).alloc (Nat.le_refl _) _⟩

def ndv (d : Nat) (t : Ty) : Int := if shp d t = true then (nd d t : Int) else 0
theorem ndv_yes {d : Nat} {t : Ty} (h : shp d t = true) : ndv d t = nd d t := by unfold ndv; rw [if_pos h]
theorem ndv_no {d : Nat} {t : Ty} (h : shp d t = false) : ndv d t = 0 := by unfold ndv; rw [if_neg (by simp [h])]
def NodesPost (d : Nat) (t : Ty) (w : World) (e : Ending) (w' : World) : Prop := e = .returned (.tuple #[.int .i64 (ndv d t), .bool (shp d t)]) ∧ Below w.heap.size w w'
theorem ret_nb {a a' : Int} {b b' : Bool} (h : a = a') (h' : b = b') : Ending.returned (.tuple #[.int .i64 a, .bool b]) = .returned (.tuple #[.int .i64 a', .bool b']) := by rw [h, h']

theorem below_one {w wk : World} {o : Obj} (h : Below (w.heap.size + 1) (w.alloc o) wk) : Below w.heap.size w wk := ((Below.refl _ _).alloc (Nat.le_refl _) _).trans (h.mono (by omega))
theorem box_kept {w wk : World} {x y z : Value} {T : TypeId} (h : Below (w.heap.size + 1) (w.alloc (.cells #[x, y, z] T)) wk) :
    wk.cell? ⟨w.heap.size, 0, none⟩ = some x ∧ wk.cell? ⟨w.heap.size, 1, none⟩ = some y ∧ wk.cell? ⟨w.heap.size, 2, none⟩ = some z ∧ w.heap.size < wk.heap.size := by
  have a0 : w.heap.size < w.heap.size + 1 := by omega
  refine ⟨?_, ?_, ?_, ?_⟩
  · rw [h.cell (p := ⟨w.heap.size, 0, none⟩) a0]; go_simp
  · rw [h.cell (p := ⟨w.heap.size, 1, none⟩) a0]; go_simp
  · rw [h.cell (p := ⟨w.heap.size, 2, none⟩) a0]; go_simp
  · have := h.size; simp at this; omega

set_option maxRecDepth 100000 in
set_option maxHeartbeats 2000000 in
theorem typeNodes_any : ∀ (d : Nat) (D : Int) (t : Ty) (v : Value) (w : World), D = d → d ≤ 16 → TyAt w t v →
    Calls Try.prog 42 #[.agg #[.int .i64 t.k, .int .i64 t.n, v], .int .i64 D] w (NodesPost d t w) := by
  intro d
  induction d with
  | zero =>
    intro D t v w hD hd hx
    have HX := Lib.hid hx
    obtain ⟨a, cap, rfl, hlen⟩ := hx.slice
    obtain ⟨k, hk⟩ : ∃ k, t.k = k := ⟨_, rfl⟩
    obtain ⟨n, hn⟩ : ∃ n, t.n = n := ⟨_, rfl⟩
    obtain ⟨L, hL⟩ : ∃ L, t.ks.length = L := ⟨_, rfl⟩
    have HK := Lib.hid hk
    have HN := Lib.hid hn
    have HL := Lib.hid hL
    rw [hk, hn, hL]
    rw [hL] at hlen
    clear hx hk hn hL
    have HV : Hid (ndv 0 t = 0) := Lib.hid (ndv_no rfl)
    have e0 : (D == 0) = true := by simp [hD]
    clear hD
    go_enter Try.func42, Try.ntmps42
    go_wp2
    exact bodyPost_ret (v := .tuple #[.int .i64 0, .bool false]) (by simp [results, Try.results42, go_sem]) rfl ⟨by rw [HV.out]; rfl, (Below.refl _ _).alloc (Nat.le_refl _) _⟩
  | succ d ih =>
    intro D t v w hD hd hx
    have HX := Lib.hid hx
    obtain ⟨a, cap, rfl, hlen⟩ := hx.slice
    obtain ⟨k, hk⟩ : ∃ k, t.k = k := ⟨_, rfl⟩
    obtain ⟨n, hn⟩ : ∃ n, t.n = n := ⟨_, rfl⟩
    obtain ⟨L, hL⟩ : ∃ L, t.ks.length = L := ⟨_, rfl⟩
    have HK := Lib.hid hk
    have HN := Lib.hid hn
    have HL := Lib.hid hL
    rw [hk, hn, hL]
    rw [hL] at hlen
    clear hx hk hn hL
    have e0 : (D == 0) = false := by simp; omega
    have HD1 : Hid (D - 1 = (d : Int)) := Lib.hid (by omega)
    have hD2 : 1 ≤ D ∧ D ≤ 16 := by omega
    obtain ⟨hD3, hD4⟩ := hD2
    have HIH := Lib.hid ih
    clear ih
    rcases hf : fieldsB k n L with _ | _
    · have HF := Lib.hid hf
      have HS : Hid (shp (d + 1) t = false) := Lib.hid (shp_fields (by rw [HK.out, HN.out, HL.out]; exact hf))
      clear hf hD
      go_enter Try.func42, Try.ntmps42
      go_wp2_with (go_at_call 77; refine (typeFieldsFit_any k n L a cap false HF.out _).mono ?_; rintro e w1 ⟨rfl, hb1⟩)
      exact bodyPost_ret (v := .tuple #[.int .i64 0, .bool false]) (by simp [results, Try.results42, go_sem]) rfl ⟨by rw [HS.out, ndv_no HS.out], ((Below.refl _ _).alloc (Nat.le_refl _) _).trans (hb1.mono (by simp))⟩
    · have HF := Lib.hid hf
      have hL2 : L ≤ 2 := fieldsB_len hf
      clear hf hD
      go_enter Try.func42, Try.ntmps42
      go_wp2_with (go_at_call 77; refine (typeFieldsFit_any k n L a cap true HF.out _).mono ?_; rintro e w1 ⟨rfl, hb1⟩; have HB1 : Hid (Below (w.heap.size + 1) (w.alloc (.cells #[.int .i64 k, .int .i64 n, .slice a L cap] 25)) w1) := Lib.hid (hb1.mono (by simp)); obtain ⟨x0, x1, x2, xz⟩ := box_kept HB1.out; clear hb1)
      go_loopw [6, 21] (fun mv i wr => ∃ (j : Nat) (m : Int), j ≤ L ∧ i = .int .i64 j ∧ mv = .int .i64 m ∧ 1 ≤ m ∧ m ≤ 1 + 65536 * j ∧ Hid (m = 1 + (ndk d t j : Int)) ∧ Hid (∀ i, i < j → shp d (t.ks.getD i Ty.dummy) = true) ∧ Below (w.heap.size + 1) (w.alloc (.cells #[.int .i64 k, .int .i64 n, .slice a L cap] 25)) wr) (fun _ i _ => L - (intOf i).toNat)
      case atStart => exact ⟨0, 1, Nat.zero_le _, rfl, rfl, by omega, by omega, Lib.hid rfl, Lib.hid (fun i hi => absurd hi (Nat.not_lt_zero _)), HB1.out⟩
      case round =>
        obtain ⟨j, m, hj, rfl, rfl, hm1, hm2, hm, hall, hB⟩ := hrel
        have HB := Lib.hid hB
        have HW := Lib.hid (below_one hB)
        clear hB
        by_cases hlt : j < L
        · have hji : (j : Int) < (L : Int) := by omega
          obtain ⟨b, o, cap2, vi, ex, bl, y0, y1, y2, hkid⟩ := (HX.out.kept HW.out).kid j (by rw [HL.out]; exact hlt)
          have ex1 : a = some ⟨b, o, none⟩ := by injection ex
          subst ex1
          clear ex
          obtain ⟨x, hx⟩ : ∃ x, t.ks.getD j Ty.dummy = x := ⟨_, rfl⟩
          rw [hx] at y0 y1 hkid
          obtain ⟨ai, ci, rfl, hli⟩ := hkid.slice
          have HXK := Lib.hid hx
          have HKID := Lib.hid hkid
          clear hx hkid
          rcases hs : shp d x with _ | _
          · have HV := Lib.hid (ndv_no hs)
            have HSH := Lib.hid hs
            have HS : Hid (shp (d + 1) t = false) := Lib.hid (shp_kid_no (i := j) (by rw [HL.out]; exact hlt) (by rw [HXK.out]; exact hs))
            clear hs
            go_wp2_with fail
            go_at_call 42
            refine (HIH.out (D - 1) x _ _ HD1.out (by omega) (HKID.out.kept ((Below.refl _ _).alloc (Nat.le_refl _) _))).mono ?_
            rintro e w2 ⟨rfl, hb2⟩
            rw [HV.out, HSH.out]
            have HB2 := Lib.hid ((HW.out.alloc HW.out.size _).trans (hb2.mono (by have := HW.out.size; simp; omega)))
            clear hb2
            go_wp2_with fail
            exact bodyPost_ret (v := .tuple #[.int .i64 0, .bool false]) (by simp [results, Try.results42, go_sem]) rfl ⟨by rw [HS.out, ndv_no HS.out], HB2.out⟩
          · have HV := Lib.hid (ndv_yes hs)
            have HSH := Lib.hid hs
            have hnl : nd d x ≤ 65536 := nd_le (by omega) hs
            have HN2 : Hid (m + (nd d x : Int) = 1 + (ndk d t (j + 1) : Int)) := Lib.hid (by rw [ndk_succ, HXK.out, hm.out]; push_cast; omega)
            have HALL : Hid (∀ i, i < j + 1 → shp d (t.ks.getD i Ty.dummy) = true) := Lib.hid (fun i hi => by
              rcases Nat.lt_or_ge i j with h | h
              · exact hall.out i h
              · have hij : i = j := by omega
                rw [hij, HXK.out]; exact HSH.out)
            obtain ⟨q, hq⟩ : ∃ q, nd d x = q := ⟨_, rfl⟩
            rw [hq] at hnl HV HN2
            clear hs hq hm hall
            go_wp2_with fail
            go_at_call 42
            refine (HIH.out (D - 1) x _ _ HD1.out (by omega) (HKID.out.kept ((Below.refl _ _).alloc (Nat.le_refl _) _))).mono ?_
            rintro e w2 ⟨rfl, hb2⟩
            rw [HV.out, HSH.out]
            have HB2 := Lib.hid ((HB.out.alloc (by have := HB.out.size; simpa using this) _).trans (hb2.mono (by have := HB.out.size; simp at this ⊢; omega)))
            clear hb2
            go_wp2_with fail
            exact ⟨⟨j + 1, _, by omega, by go_num, rfl, by omega, by push_cast; omega, HN2, HALL, HB2.out⟩, by simp [intOf]; omega⟩
        · have hji : ¬ (j : Int) < (L : Int) := by omega
          have hjl : j = L := by omega
          have HS : Hid (shp (d + 1) t = true) := Lib.hid (shp_iff.2 ⟨by rw [HK.out, HN.out, HL.out]; exact HF.out, fun i hi => hall.out i (by rw [HL.out] at hi; omega)⟩)
          have HV : Hid (ndv (d + 1) t = m) := Lib.hid (by rw [ndv_yes HS.out, nd_succ, HL.out, hm.out, hjl]; push_cast; rfl)
          clear hlt hm hall hjl
          go_wp2_with fail
          exact bodyPost_ret (v := .tuple #[.int .i64 m, .bool true]) (by simp [results, Try.results42, go_sem]) rfl ⟨by rw [HV.out, HS.out], HW.out⟩

end Go.Proofs.Ytndpoejohpmifaa
