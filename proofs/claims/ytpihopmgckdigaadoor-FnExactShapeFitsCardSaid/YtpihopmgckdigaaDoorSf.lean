/-
  ShapeFits of the model: for every type in memory and every text of at most 2,000,000 bytes.
-/
import Derived.Test.YtpihopmgckdigaaDoorSe
import Derived.Test.YtpihopmgckdigaaDoorZr
namespace Go.Proofs.YtpihopmgckdigaaDoor
open Go.RowKit
set_option linter.unusedVariables false
set_option linter.unusedSimpArgs false

theorem by8_at {s : ByteArray} {i : Nat} (h : i < s.size) : by8 s i = ((s.data.toList.getD i 0).toNat : Int) := by
  rw [by8_in h]
  have h2 : s.data.toList[i]? = some (s[i]) := Lib.data_getElem? s i h
  simp only [List.getD, h2, Option.getD_some]
theorem cutC_by8 {s : ByteArray} {c : UInt8} (hc : c ≠ 0) (i : Nat) : cutC c (s.data.toList.drop i) = if by8 s i = (c.toNat : Int) then some (s.data.toList.drop (i + 1)) else none := by
  by_cases h : i < s.size
  · have hl : i < s.data.toList.length := by rw [← size_len]; exact h
    rw [by8_at h, List.drop_eq_getElem_cons hl]
    have e : s.data.toList.getD i 0 = s.data.toList[i] := by rw [show s.data.toList.getD i 0 = (s.data.toList[i]?).getD 0 from rfl, List.getElem?_eq_getElem hl]; rfl
    rw [e]
    have e2 : ∀ (x : UInt8) (r : List UInt8), cutC c (x :: r) = if x = c then some r else none := fun x r => rfl
    rw [e2]
    by_cases hx : s.data.toList[i] = c
    · rw [if_pos hx, if_pos (by rw [hx])]
    · rw [if_neg hx, if_neg (fun h3 => hx (UInt8.toNat_inj.1 (by omega)))]
  · rw [by8_end h, List.drop_eq_nil_of_le (by rw [← size_len]; omega), if_neg]
    · rfl
    · intro h3
      exact hc (UInt8.toNat_inj.1 (by rw [show (0 : UInt8).toNat = 0 from rfl]; omega))
theorem cutC_at8 {s : ByteArray} {c : UInt8} {v : Int} (hv : (c.toNat : Int) = v) (hc : c ≠ 0) (i : Nat) : cutC c (s.data.toList.drop i) = if by8 s i = v then some (s.data.toList.drop (i + 1)) else none := by
  rw [← hv]; exact cutC_by8 hc i
/-- The offset behind what is cut, or -1. -/
def posR (o : Option (List UInt8)) (n : Nat) : Int := match o with
  | some r => ((n - r.length : Nat) : Int)
  | none => -1
theorem pos_some {d : Nat} {t : Ty} {l r : List UInt8} {i : Nat} (hi : i ≤ l.length) (h : cutT d t (l.drop i) = some r) : ∃ m, i ≤ m ∧ m ≤ l.length ∧ r = l.drop m ∧ posR (some r) l.length = (m : Int) := by
  obtain ⟨k, hk, e⟩ := cutT_end _ _ _ _ h
  rw [List.length_drop] at hk
  refine ⟨i + k, by omega, by omega, by rw [e, List.drop_drop], ?_⟩
  show ((l.length - r.length : Nat) : Int) = ((i + k : Nat) : Int)
  rw [e, List.drop_drop, List.length_drop]
  omega

theorem l2Sign_neg (s : ByteArray) (c : Int) (w : World) :
    Calls Tryd.prog 64 #[.string s, .int .i64 (-1), .int .u8 c] w fun e w' => e = .returned (.bool false) ∧ w' = w := by
  go_enter Tryd.func64, Tryd.ntmps64
  go_wp2_with fail
  go_ret
  exact ⟨rfl, rfl⟩
theorem num_of_len {l : List UInt8} (h : ¬ l.length = 1) (h2 : ¬ (l.length = 2 ∧ l.getD 0 0 ≠ 48)) : ¬ numOk l = true := fun h3 => by
  rcases numOk_iff.1 h3 with h4 | h4
  · exact h h4
  · exact h2 h4
/-- What l16Num returns at digits alone. -/
def NuPost (s : ByteArray) (w : World) (e : Ending) (w' : World) : Prop :=
  ∃ (n : Int) (ok : Bool), e = .returned (.tuple #[.int .i64 n, .bool ok]) ∧ w' = w ∧ ((ok = true ∧ n ≤ 99) ↔ numOk s.data.toList = true)
set_option maxRecDepth 100000 in
set_option maxHeartbeats 2000000 in
theorem l16Num_at (s : ByteArray) (hd : ∀ b ∈ s.data.toList, isDg b = true) (hs : s.size ≤ 2000000) (w : World) :
    Calls Tryd.prog 63 #[.string s] w (NuPost s w) := by
  have HD : Hid (∀ i, i < s.size → 48 ≤ by8 s i ∧ by8 s i ≤ 57) := Lib.hid (fun i hi => by
    have hm : s.data.toList.getD i 0 ∈ s.data.toList := by simp [List.getD, show i < s.size from hi]
    have := isDg_iff.1 (hd _ hm)
    rw [by8_at hi]; omega)
  have HDD : Hid (∀ b ∈ s.data.toList, isDg b = true) := Lib.hid hd
  have HS := size_len s
  obtain ⟨n, hn⟩ : ∃ n, s.size = n := ⟨_, rfl⟩
  have HN := Lib.hid hn
  have HLN : Hid (s.data.toList.length = n) := Lib.hid (by rw [← HS, hn])
  by_cases h0 : n = 0
  · obtain rfl : s = ⟨#[]⟩ := by
      have h : s.data.toList = [] := List.eq_nil_of_length_eq_zero (by rw [HLN.out, h0])
      rw [← Lib.mk_data s, h]
    clear hd hn HS
    go_enter Tryd.func63, Tryd.ntmps63
    go_wp2_with fail
    go_ret2
    exact ⟨_, _, rfl, rfl, (fun h => absurd h.1 (by simp)), fun h => by cases h⟩
  have hb0 := HD.out 0 (by omega)
  obtain ⟨c, hc⟩ : ∃ c, by8 s 0 = c := ⟨_, rfl⟩
  have r0 := by8_idx Tryd.prog 9 Tryd.underlying9 (s := s) (i := 0) (by omega)
  rw [hc] at hb0 r0
  have r1 : ∀ w, (Instr.index 9 (.string s) (.int .i64 0)).run Tryd.prog w = .ok (.int .u8 c) w := r0
  clear r0
  have HC := Lib.hid hc
  have HC0 : Hid (s.data.toList.getD 0 0 = 48 ↔ c = 48) := Lib.hid (by
    have h1 := by8_at (s := s) (i := 0) (by omega)
    rw [hc] at h1
    constructor
    · intro h; rw [h] at h1; exact h1
    · intro h; exact UInt8.toNat_inj.1 (by rw [show (48 : UInt8).toNat = 48 from rfl]; omega))
  have HDV := Lib.hid (fun i (hi : i ≤ n) => dv_lt HDD.out i (by rw [HLN.out]; exact hi))
  by_cases h17 : 17 < n
  · have HO : Hid (¬ numOk s.data.toList = true) := Lib.hid (num_of_len (by rw [HLN.out]; omega) (by rw [HLN.out]; omega))
    have h1 : (0 : Int) < (s.size : Int) := by omega
    have h2 : ((s.size : Int) == 0) = false := by rw [beq_eq_false_iff_ne]; omega
    have h3 : (17 : Int) < (s.size : Int) := by omega
    have h4 : (c == 45) = false := by rw [beq_eq_false_iff_ne]; omega
    clear hd hn HS hc h0 h17
    go_enter Tryd.func63, Tryd.ntmps63
    go_wp2_with fail
    go_ret2
    exact ⟨_, _, rfl, rfl, (fun h => absurd h.1 (by simp)), fun h => absurd h HO.out⟩
  by_cases hz : c = 48 ∧ 1 < n
  · have HO : Hid (¬ numOk s.data.toList = true) := Lib.hid (num_of_len (by rw [HLN.out]; omega) (fun h => h.2 (HC0.out.2 hz.1)))
    have h1 : (0 : Int) < (s.size : Int) := by omega
    have h2 : ((s.size : Int) == 0) = false := by rw [beq_eq_false_iff_ne]; omega
    have h3 : ¬ (17 : Int) < (s.size : Int) := by omega
    have h4 : (1 : Int) < (s.size : Int) := by omega
    obtain ⟨rfl, _⟩ := hz
    clear hd hn HS hc h0 h17
    go_enter Tryd.func63, Tryd.ntmps63
    go_wp2_with fail
    go_ret2
    exact ⟨_, _, rfl, rfl, (fun h => absurd h.1 (by simp)), fun h => absurd h HO.out⟩
  have h1 : (0 : Int) < (s.size : Int) := by omega
  have h2 : ((s.size : Int) == 0) = false := by rw [beq_eq_false_iff_ne]; omega
  have h3 : ¬ (17 : Int) < (s.size : Int) := by omega
  have h4 : (c == 45) = false := by rw [beq_eq_false_iff_ne]; omega
  have HF : Hid ((dv s.data.toList n : Int) ≤ 99 ↔ numOk s.data.toList = true) := Lib.hid (by
    have hd2 := HDD.out
    have hl := HLN.out
    by_cases hn2 : n ≤ 2
    · have := dv_small hd2 (by omega)
      rw [hl] at this
      constructor
      · intro _
        refine numOk_iff.2 ?_
        by_cases hn1 : n = 1
        · exact .inl (by omega)
        · refine .inr ⟨by omega, fun h => ?_⟩
          exact hz ⟨HC0.out.1 h, by omega⟩
      · intro _; omega
    · have := dv_big hd2 (by omega) (fun h => hz ⟨HC0.out.1 h, by omega⟩)
      rw [hl] at this
      constructor
      · intro h; omega
      · intro h; exact absurd h (num_of_len (by omega) (by omega)))
  have HCS : Hid (¬ (c = 48 ∧ 1 < n)) := Lib.hid hz
  have h5 : ((c == 48) && decide ((1 : Int) < (s.size : Int))) = false := by
    by_cases e : c = 48
    · rw [decide_eq_false (by omega)]; simp
    · rw [beq_eq_false_iff_ne.2 e]; rfl
  have HSN : Hid ((s.size : Int) = (n : Int)) := Lib.hid (by omega)
  by_cases h48 : c = 48
  · have h6 : ¬ (1 : Int) < (s.size : Int) := by omega
    subst h48
    clear hd hn HS hc h0 h17 h5 hz hb0
    go_enter Tryd.func63, Tryd.ntmps63
    go_wp2_with fail
    go_loopw [5, 6] (fun nv iv wr => ∃ i : Nat, i ≤ n ∧ nv = .int .i64 (dv s.data.toList i : Int) ∧ iv = .int .i64 i ∧ wr = w) (fun _ iv _ => n - (intOf iv).toNat)
    case atStart => exact ⟨0, Nat.zero_le _, rfl, rfl, rfl⟩
    case round =>
      obtain ⟨i, hi, rfl, rfl, rfl⟩ := hrel
      have hsn := HSN.out
      by_cases hlt : i < n
      · have hil : (i : Int) < (s.size : Int) := by omega
        have hin : i < s.size := by omega
        obtain ⟨x, hx⟩ : ∃ x, by8 s i = x := ⟨_, rfl⟩
        have hxb := HD.out i hin
        have r2 := by8_idx Tryd.prog 9 Tryd.underlying9 hin
        have hxl := by8_at hin
        obtain ⟨v, hv⟩ : ∃ v, dv s.data.toList i = v := ⟨_, rfl⟩
        have hvl := HDV.out i hi
        have h10 : 10 ^ i ≤ 10 ^ 17 := Nat.pow_le_pow_right (by omega) (by omega)
        have hnx : dv s.data.toList (i + 1) = v * 10 + (x.toNat - 48) := by rw [dv, hv, ← hx, hxl]; rfl
        rw [hx] at hxb r2
        rw [hv] at hvl
        have hvb : v < 100000000000000000 := by omega
        have hx0 : ¬ x < 48 := by omega
        have hx9 : ¬ 57 < x := by omega
        have hx57 : x ≤ 57 := by omega
        have HNX : Hid (dv s.data.toList (i + 1) = v * 10 + (x.toNat - 48)) := Lib.hid hnx
        rw [hv]
        clear hxl hvl h10 hnx hv hx hsn hin hxb
        go_wp2_with fail
        go_roundw
        case rel => exact ⟨i + 1, by omega, by rw [HNX.out]; go_num, by go_num, by first | trivial | rfl⟩
        case measure => simp [intOf]; omega
      · obtain rfl : i = n := by omega
        have hil : ¬ (i : Int) < (s.size : Int) := by omega
        clear hsn
        go_wp2_with fail
        go_ret2
        exact ⟨_, _, rfl, rfl, by rw [← HF.out]; simp⟩
  · have h6 : (c == 48) = false := by rw [beq_eq_false_iff_ne]; exact h48
    clear hd hn HS hc h0 h17 h5 hz hb0
    go_enter Tryd.func63, Tryd.ntmps63
    go_wp2_with fail
    go_loopw [5, 6] (fun nv iv wr => ∃ i : Nat, i ≤ n ∧ nv = .int .i64 (dv s.data.toList i : Int) ∧ iv = .int .i64 i ∧ wr = w) (fun _ iv _ => n - (intOf iv).toNat)
    case atStart => exact ⟨0, Nat.zero_le _, rfl, rfl, rfl⟩
    case round =>
      obtain ⟨i, hi, rfl, rfl, rfl⟩ := hrel
      have hsn := HSN.out
      by_cases hlt : i < n
      · have hil : (i : Int) < (s.size : Int) := by omega
        have hin : i < s.size := by omega
        obtain ⟨x, hx⟩ : ∃ x, by8 s i = x := ⟨_, rfl⟩
        have hxb := HD.out i hin
        have r2 := by8_idx Tryd.prog 9 Tryd.underlying9 hin
        have hxl := by8_at hin
        obtain ⟨v, hv⟩ : ∃ v, dv s.data.toList i = v := ⟨_, rfl⟩
        have hvl := HDV.out i hi
        have h10 : 10 ^ i ≤ 10 ^ 17 := Nat.pow_le_pow_right (by omega) (by omega)
        have hnx : dv s.data.toList (i + 1) = v * 10 + (x.toNat - 48) := by rw [dv, hv, ← hx, hxl]; rfl
        rw [hx] at hxb r2
        rw [hv] at hvl
        have hvb : v < 100000000000000000 := by omega
        have hx0 : ¬ x < 48 := by omega
        have hx9 : ¬ 57 < x := by omega
        have hx57 : x ≤ 57 := by omega
        have HNX : Hid (dv s.data.toList (i + 1) = v * 10 + (x.toNat - 48)) := Lib.hid hnx
        rw [hv]
        clear hxl hvl h10 hnx hv hx hsn hin hxb
        go_wp2_with fail
        go_roundw
        case rel => exact ⟨i + 1, by omega, by rw [HNX.out]; go_num, by go_num, by first | trivial | rfl⟩
        case measure => simp [intOf]; omega
      · obtain rfl : i = n := by omega
        have hil : ¬ (i : Int) < (s.size : Int) := by omega
        clear hsn
        go_wp2_with fail
        go_ret2
        exact ⟨_, _, rfl, rfl, by rw [← HF.out]; simp⟩

/-- What l12Shape returns. -/
def ShRet (o : Option (List UInt8)) (n : Nat) (w : World) (e : Ending) (w' : World) : Prop := e = .returned (.int .i64 (posR o n)) ∧ Below w.heap.size w w'
theorem pre3 {l : List UInt8} : [102, 117, 110].isPrefixOf l = true ↔ l.take 3 = [102, 117, 110] := by
  rw [List.isPrefixOf_iff_prefix]
  constructor
  · rintro ⟨r, rfl⟩; rfl
  · intro h; rw [← List.take_append_drop 3 l, h]; exact List.prefix_append _ _
theorem by8_lt {s : ByteArray} {i : Nat} (h : by8 s i ≠ 0) : i < s.size := by
  by_cases hi : i < s.size
  · exact hi
  · exact absurd (by8_end hi) h
theorem ds_byte {l : List UInt8} {j : Nat} (h : j < (dsL l).length) : isDg (l.getD j 0) = true := by
  have hm : (dsL l).getD j 0 ∈ dsL l := by simp [List.getD, h]
  have h2 := ds_all l _ hm
  have e : l.getD j 0 = (dsL l).getD j 0 := by
    have h3 := ds_rs l
    have h4 : l[j]? = (dsL l)[j]? := by
      conv => lhs; rw [← h3]
      rw [List.getElem?_append_left h]
    simp only [List.getD, h4]
  rw [e]; exact h2
theorem ds_stop {l : List UInt8} (h : (dsL l).length < l.length) : isDg (l.getD (dsL l).length 0) = false := by
  have h1 : l[(dsL l).length]? = (rsL l)[0]? := by
    have h2 : (dsL l ++ rsL l)[(dsL l).length]? = (rsL l)[0]? := by rw [List.getElem?_append_right (Nat.le_refl _), Nat.sub_self]
    rwa [ds_rs] at h2
  have h2 : (rsL l)[0]? = some (l.getD (dsL l).length 0) := by
    rw [← h1]
    simp [List.getD, h]
  exact rs_head h2
theorem getD_drop {l : List UInt8} {i j : Nat} : (l.drop i).getD j 0 = l.getD (i + j) 0 := by simp [List.getD]
theorem ext_data (s : ByteArray) (i j : Nat) (hij : i ≤ j) (hj : j ≤ s.size) : (s.extract i j).data.toList = (s.data.toList.drop i).take (j - i) := by
  simp [ByteArray.data_extract]
theorem ds_take (l : List UInt8) : l.take (dsL l).length = dsL l := by
  have h3 : (dsL l ++ rsL l).take (dsL l).length = dsL l := List.take_left' rfl
  rwa [ds_rs] at h3

set_option maxRecDepth 100000 in
set_option maxHeartbeats 4000000 in
theorem l12Num_at (t : Ty) (hk : t.k = 1) (d : Nat) (v : Value) (s : ByteArray) (i : Nat) (w : World) (hs : s.size ≤ 2000000) (hi : i < s.size) :
    Calls Tryd.prog 35 #[.agg #[.int .i64 t.k, .int .i64 t.n, v], .string s, .int .i64 (i : Int)] w (ShRet (cutT (d + 1) t (s.data.toList.drop i)) s.size w) := by
  rw [cutT_num hk, hk]
  obtain ⟨n, hn⟩ : ∃ n, t.n = n := ⟨_, rfl⟩
  rw [hn]; clear hn hk
  have hsl := size_len s
  obtain ⟨m, hm⟩ : ∃ m, (dsL (s.data.toList.drop i)).length = m := ⟨_, rfl⟩
  have hml : m + (rsL (s.data.toList.drop i)).length = s.size - i := by
    have h := congrArg List.length (ds_rs (s.data.toList.drop i))
    rw [List.length_append, List.length_drop, hm, ← hsl] at h
    exact h
  obtain ⟨E, hE⟩ : ∃ E, i + m = E := ⟨_, rfl⟩
  have HDG : Hid (∀ j, i ≤ j → j < E → 48 ≤ by8 s j ∧ by8 s j ≤ 57) := Lib.hid (fun j h0 hj => by
    have h := ds_byte (l := s.data.toList.drop i) (j := j - i) (by rw [hm]; omega)
    rw [getD_drop, show i + (j - i) = j by omega] at h
    have := isDg_iff.1 h
    rw [by8_at (by omega)]; omega)
  have HST : Hid (E < s.size → by8 s E < 48 ∨ 57 < by8 s E) := Lib.hid (fun hlt => by
    have h := ds_stop (l := s.data.toList.drop i) (by rw [List.length_drop, hm, ← hsl]; omega)
    rw [getD_drop, hm, hE] at h
    rw [by8_at hlt]
    have h2 : ¬ (48 ≤ (s.data.toList.getD E 0).toNat ∧ (s.data.toList.getD E 0).toNat ≤ 57) := fun h3 => by rw [isDg_iff.2 h3] at h; cases h
    omega)
  have HE : Hid ((s.extract i E).data.toList = dsL (s.data.toList.drop i)) := Lib.hid (by
    rw [ext_data s i E (by omega) (by omega), show E - i = m by omega, ← hm]
    exact ds_take _)
  have HES : Hid ((s.extract i E).size ≤ 2000000) := Lib.hid (by rw [size_len, HE.out, hm]; omega)
  have HPS : Hid (posR (some (rsL (s.data.toList.drop i))) s.size = (E : Int)) := Lib.hid (by
    show ((s.size - (rsL (s.data.toList.drop i)).length : Nat) : Int) = (E : Int)
    omega)
  have hEi : i ≤ E := by omega
  have hEs : E ≤ s.size := by omega
  have HM := Lib.hid hm
  have hi0 : ¬ (i : Int) < 0 := by omega
  have hi1 : ¬ (s.size : Int) ≤ (i : Int) := by omega
  have HA : Hid (Below w.heap.size w (w.alloc (.cells #[.int .i64 1, .int .i64 n, v] 34))) := Lib.hid ((Below.refl _ _).alloc (Nat.le_refl _) _)
  obtain ⟨q, hq⟩ : ∃ q, cutN (s.data.toList.drop i) = q := ⟨_, rfl⟩
  have HQ := Lib.hid hq
  rw [hq]
  clear hm hsl hml hE hq
  go_enter Tryd.func35, Tryd.ntmps35
  go_wp2_with fail
  go_loopw [7] (fun ev wr => ∃ e : Nat, i ≤ e ∧ e ≤ E ∧ ev = .int .i64 (e : Int) ∧ Below w.heap.size w wr) (fun ev _ => E - (intOf ev).toNat)
  case atStart => exact ⟨i, Nat.le_refl _, hEi, rfl, HA.out⟩
  case round =>
    obtain ⟨e, he0, he1, rfl, hB⟩ := hrel
    have HB := Lib.hid hB
    clear hB
    by_cases hlt : e < E
    · obtain ⟨hx0, hx9⟩ := HDG.out e he0 hlt
      have hes : e < s.size := by omega
      have r1 := by8_idx Tryd.prog 9 Tryd.underlying9 hes
      have hel : (e : Int) < (s.size : Int) := by omega
      obtain ⟨x, hx⟩ : ∃ x, by8 s e = x := ⟨_, rfl⟩
      rw [hx] at hx0 hx9 r1
      clear hx hes
      go_wp2_with fail
      go_roundw
      case rel => exact ⟨e + 1, by omega, by omega, by go_num, HB.out⟩
      case measure => simp [intOf]; omega
    · obtain rfl : e = E := by omega
      have HC : Hid (∀ W, Calls Tryd.prog 63 #[.string (s.extract i e)] W (NuPost (s.extract i e) W)) := Lib.hid (fun W => l16Num_at _ (by rw [HE.out]; exact ds_all _) HES.out W)
      by_cases hes : e < s.size
      · have r1 := by8_idx Tryd.prog 9 Tryd.underlying9 hes
        have hel : (e : Int) < (s.size : Int) := by omega
        obtain ⟨x, hx⟩ : ∃ x, by8 s e = x := ⟨_, rfl⟩
        have hst := HST.out hes
        rw [hx] at hst r1
        rcases hst with h1 | h1
        · have h2 : ¬ 48 ≤ x := by omega
          clear hx hes
          go_wp2_with fail
          go_at_call 63
          refine (HC.out _).mono ?_
          rintro e2 w2 ⟨n2, ok, rfl, rfl, hiff⟩
          by_cases hn : numOk (dsL (s.data.toList.drop i)) = true
          · obtain ⟨rfl, h9⟩ := hiff.2 (by rw [HE.out]; exact hn)
            have h99 : ¬ 99 < n2 := by omega
            have HPP : Hid (posR q s.size = (e : Int)) := Lib.hid (by rw [← HQ.out]; unfold cutN; rw [if_pos hn]; exact HPS.out)
            clear hiff hn h9
            go_wp2_with fail
            go_ret
            exact ⟨by rw [HPP.out]; rfl, HB.out⟩
          · have HPP : Hid (posR q s.size = -1) := Lib.hid (by rw [← HQ.out]; unfold cutN; rw [if_neg hn]; rfl)
            rcases ok with _ | _
            · clear hiff hn
              go_wp2_with fail
              go_ret
              exact ⟨by rw [HPP.out]; rfl, HB.out⟩
            · have h99 : 99 < n2 := by
                by_cases h : 99 < n2
                · exact h
                · exact absurd (by rw [HE.out] at hiff; exact hiff.1 ⟨rfl, by omega⟩) hn
              clear hiff hn
              go_wp2_with fail
              go_ret
              exact ⟨by rw [HPP.out]; rfl, HB.out⟩
        · have h2 : ¬ x ≤ 57 := by omega
          have h3 : 48 ≤ x := by omega
          clear hx hes
          go_wp2_with fail
          go_at_call 63
          refine (HC.out _).mono ?_
          rintro e2 w2 ⟨n2, ok, rfl, rfl, hiff⟩
          by_cases hn : numOk (dsL (s.data.toList.drop i)) = true
          · obtain ⟨rfl, h9⟩ := hiff.2 (by rw [HE.out]; exact hn)
            have h99 : ¬ 99 < n2 := by omega
            have HPP : Hid (posR q s.size = (e : Int)) := Lib.hid (by rw [← HQ.out]; unfold cutN; rw [if_pos hn]; exact HPS.out)
            clear hiff hn h9
            go_wp2_with fail
            go_ret
            exact ⟨by rw [HPP.out]; rfl, HB.out⟩
          · have HPP : Hid (posR q s.size = -1) := Lib.hid (by rw [← HQ.out]; unfold cutN; rw [if_neg hn]; rfl)
            rcases ok with _ | _
            · clear hiff hn
              go_wp2_with fail
              go_ret
              exact ⟨by rw [HPP.out]; rfl, HB.out⟩
            · have h99 : 99 < n2 := by
                by_cases h : 99 < n2
                · exact h
                · exact absurd (by rw [HE.out] at hiff; exact hiff.1 ⟨rfl, by omega⟩) hn
              clear hiff hn
              go_wp2_with fail
              go_ret
              exact ⟨by rw [HPP.out]; rfl, HB.out⟩
      · have hel : ¬ (e : Int) < (s.size : Int) := by omega
        clear hes
        go_wp2_with fail
        go_at_call 63
        refine (HC.out _).mono ?_
        rintro e2 w2 ⟨n2, ok, rfl, rfl, hiff⟩
        by_cases hn : numOk (dsL (s.data.toList.drop i)) = true
        · obtain ⟨rfl, h9⟩ := hiff.2 (by rw [HE.out]; exact hn)
          have h99 : ¬ 99 < n2 := by omega
          have HPP : Hid (posR q s.size = (e : Int)) := Lib.hid (by rw [← HQ.out]; unfold cutN; rw [if_pos hn]; exact HPS.out)
          clear hiff hn h9
          go_wp2_with fail
          go_ret
          exact ⟨by rw [HPP.out]; rfl, HB.out⟩
        · have HPP : Hid (posR q s.size = -1) := Lib.hid (by rw [← HQ.out]; unfold cutN; rw [if_neg hn]; rfl)
          rcases ok with _ | _
          · clear hiff hn
            go_wp2_with fail
            go_ret
            exact ⟨by rw [HPP.out]; rfl, HB.out⟩
          · have h99 : 99 < n2 := by
              by_cases h : 99 < n2
              · exact h
              · exact absurd (by rw [HE.out] at hiff; exact hiff.1 ⟨rfl, by omega⟩) hn
            clear hiff hn
            go_wp2_with fail
            go_ret
            exact ⟨by rw [HPP.out]; rfl, HB.out⟩

set_option maxRecDepth 100000 in
set_option maxHeartbeats 4000000 in
theorem l12Shape_at : ∀ (d : Nat) (t : Ty) (v : Value) (s : ByteArray) (i : Nat) (w : World), shp d t = true → TyAt w t v → s.size ≤ 2000000 → i ≤ 2000001 →
    Calls Tryd.prog 35 #[.agg #[.int .i64 t.k, .int .i64 t.n, v], .string s, .int .i64 (i : Int)] w (ShRet (cutT d t (s.data.toList.drop i)) s.size w) := by
  intro d
  induction d with
  | zero => intro t v s i w hs _ _ _; cases hs
  | succ d ih =>
    intro t v s i w hsh hx hs hi2
    by_cases hi : i < s.size
    case neg =>
      rw [List.drop_eq_nil_of_le (by rw [← size_len]; omega), cutT_nil]
      have hi0 : ¬ (i : Int) < 0 := by omega
      have hi1 : (s.size : Int) ≤ (i : Int) := by omega
      obtain ⟨a, cap, rfl, _⟩ := hx.slice
      clear hsh hx ih
      go_enter Tryd.func35, Tryd.ntmps35
      go_wp2_with fail
      go_ret
      exact ⟨rfl, (Below.refl _ _).alloc (Nat.le_refl _) _⟩
    obtain ⟨hf, hkids⟩ := shp_iff.1 hsh
    have hi0 : ¬ (i : Int) < 0 := by omega
    have hi1 : ¬ (s.size : Int) ≤ (i : Int) := by omega
    rcases fieldsB_iff.1 hf with ⟨hk, hn, hL⟩ | ⟨hk, hn, hL⟩ | ⟨hk, _, _, hL⟩
    · exact l12Num_at t hk d v s i w hs hi
    · rcases hk with hk | hk
      · rw [cutT_fun hk, hk]
        obtain ⟨n, hn⟩ : ∃ n, t.n = n := ⟨_, rfl⟩
        obtain ⟨q, hq⟩ : ∃ q, cutF (s.data.toList.drop i) = q := ⟨_, rfl⟩
        have HQ := Lib.hid hq
        rw [hn, hq]
        clear hk hx hf hkids hsh ih hL hn hq
        by_cases h3 : i + 3 ≤ s.size
        · have h4 : ¬ (s.size : Int) < (i : Int) + 3 := by omega
          obtain ⟨z, hz⟩ : ∃ z, s.extract i (i + 3) = z := ⟨_, rfl⟩
          have HZ : Hid (z.data.toList = (s.data.toList.drop i).take 3) := Lib.hid (by rw [← hz, ext_data s i (i + 3) (by omega) h3, show i + 3 - i = 3 by omega])
          by_cases hb : z.data.toList = [102, 117, 110]
          · have hzz : (z.toList == [102, 117, 110]) = true := by rw [Lib.toList_data, hb]; rfl
            have HPP : Hid (posR q s.size = (i : Int) + 3) := Lib.hid (by
              rw [← HQ.out]
              unfold cutF
              rw [if_pos (pre3.2 (by rw [← HZ.out]; exact hb))]
              show ((s.size - ((s.data.toList.drop i).drop 3).length : Nat) : Int) = (i : Int) + 3
              rw [List.length_drop, List.length_drop, ← size_len]; omega)
            clear hb
            go_enter Tryd.func35, Tryd.ntmps35
            go_wp2_with fail
            go_ret
            exact ⟨by rw [HPP.out]; rfl, (Below.refl _ _).alloc (Nat.le_refl _) _⟩
          · have hzz : (z.toList == [102, 117, 110]) = false := by rw [Lib.toList_data, beq_eq_false_iff_ne]; exact hb
            have HPP : Hid (posR q s.size = -1) := Lib.hid (by
              rw [← HQ.out]
              unfold cutF
              rw [if_neg (fun h => hb (by rw [HZ.out]; exact pre3.1 h))]
              rfl)
            clear hb
            go_enter Tryd.func35, Tryd.ntmps35
            go_wp2_with fail
            go_ret
            exact ⟨by rw [HPP.out]; rfl, (Below.refl _ _).alloc (Nat.le_refl _) _⟩
        · have h4 : (s.size : Int) < (i : Int) + 3 := by omega
          go_enter Tryd.func35, Tryd.ntmps35
          go_wp2_with fail
          go_ret
          refine ⟨?_, (Below.refl _ _).alloc (Nat.le_refl _) _⟩
          rw [← HQ.out]
          unfold cutF
          rw [if_neg]
          · rfl
          · intro h
            have := (List.isPrefixOf_iff_prefix.1 h).length_le
            rw [List.length_drop, ← size_len] at this
            simp at this
            omega
      · rw [cutT_pair hk]
        obtain ⟨o, ho⟩ : ∃ o, ((((cutC 40 (s.data.toList.drop i)).bind (cutT d (t.ks.getD 0 Ty.dummy))).bind (cutC 44)).bind (cutT d (t.ks.getD 1 Ty.dummy))).bind (cutC 41) = o := ⟨_, rfl⟩
        rw [ho]
        obtain ⟨a, cap, rfl, hlen⟩ := hx.slice
        have HS0 := Lib.hid (hkids 0 (by omega))
        have HS1 := Lib.hid (hkids 1 (by omega))
        obtain ⟨b, o1, cap0, v0, ex, bl, x0, x1, x2, hk0⟩ := hx.kid 0 (by rw [hL]; omega)
        obtain ⟨b', o', cap1, v1, ex', bl', y0, y1, y2, hk1⟩ := hx.kid 1 (by rw [hL]; omega)
        have ea : a = some ⟨b, o1, none⟩ := by injection ex
        have ea' : a = some ⟨b', o', none⟩ := by injection ex'
        have eb : b' = b ∧ o' = o1 := by rw [ea] at ea'; injection ea' with e; injection e with e1 e2; exact ⟨e1.symm, e2.symm⟩
        obtain ⟨rfl, rfl⟩ := eb
        subst ea
        obtain ⟨u0, hu0⟩ : ∃ x, t.ks.getD 0 Ty.dummy = x := ⟨_, rfl⟩
        obtain ⟨u1, hu1⟩ : ∃ x, t.ks.getD 1 Ty.dummy = x := ⟨_, rfl⟩
        obtain ⟨n, hn⟩ : ∃ n, t.n = n := ⟨_, rfl⟩
        rw [hu0] at x0 x1 hk0 HS0 ho
        rw [hu1] at y0 y1 hk1 HS1 ho
        rw [hk, hn, hL]
        obtain ⟨g0, j0, rfl, _⟩ := hk0.slice
        obtain ⟨g1, j1, rfl, _⟩ := hk1.slice
        have HK0 := Lib.hid hk0
        have HK1 := Lib.hid hk1
        have HO := Lib.hid ho
        have HIH := Lib.hid ih
        have HS := Lib.hid hs
        have HSL := Lib.hid (size_len s)
        have HX0 : Hid (w.cell? ⟨b', o', none⟩ = some (.int .i64 u0.k)) := Lib.hid (by simpa using x0)
        have HX1 : Hid (w.cell? ⟨b', o' + 1, none⟩ = some (.int .i64 u0.n)) := Lib.hid (by simpa using x1)
        have HX2 : Hid (w.cell? ⟨b', o' + 2, none⟩ = some (.slice g0 u0.ks.length j0)) := Lib.hid (by simpa using x2)
        have HY0 : Hid (w.cell? ⟨b', o' + 3, none⟩ = some (.int .i64 u1.k)) := Lib.hid (by simpa using y0)
        have HY1 : Hid (w.cell? ⟨b', o' + 4, none⟩ = some (.int .i64 u1.n)) := Lib.hid (by simpa [Nat.add_assoc] using y1)
        have HY2 : Hid (w.cell? ⟨b', o' + 5, none⟩ = some (.slice g1 u1.ks.length j1)) := Lib.hid (by simpa [Nat.add_assoc] using y2)
        have HB0 : Hid (Below w.heap.size w (w.alloc (.cells #[.int .i64 3, .int .i64 n, .slice (some ⟨b', o', none⟩) 2 cap] 34))) := Lib.hid ((Below.refl _ _).alloc (Nat.le_refl _) _)
        have HT0 : Hid (TBx (w.alloc (.cells #[.int .i64 3, .int .i64 n, .slice (some ⟨b', o', none⟩) 2 cap] 34)) w.heap.size (.slice (some ⟨b', o', none⟩) 2 cap)) := Lib.hid (tbx_new w _ _ _ _)
        obtain ⟨c, hc⟩ : ∃ c, by8 s i = c := ⟨_, rfl⟩
        have r0 := by8_idx Tryd.prog 9 Tryd.underlying9 hi
        rw [hc] at r0
        have HC0 : Hid (cutC 40 (s.data.toList.drop i) = if c = 40 then some (s.data.toList.drop (i + 1)) else none) := Lib.hid (by rw [← hc]; exact cutC_by8 (c := 40) (by decide) i)
        have HII : Hid (i < s.size) := Lib.hid hi
        clear hx hk0 hk1 ho ih hs hu0 hu1 hk hn ex ex' ea' x0 x1 x2 y0 y1 y2 hkids hsh hf hL hc
        by_cases h40 : c = 40
        case neg =>
          have HPP : Hid (posR o s.size = -1) := Lib.hid (by rw [← HO.out, HC0.out, if_neg h40]; rfl)
          have hne : (c == 40) = false := by rw [beq_eq_false_iff_ne]; exact h40
          go_enter Tryd.func35, Tryd.ntmps35
          go_wp2_with fail
          go_ret
          exact ⟨by rw [HPP.out]; rfl, HB0.out⟩
        subst h40
        have HE1 : Hid (cutC 40 (s.data.toList.drop i) = some (s.data.toList.drop (i + 1))) := Lib.hid (by rw [HC0.out, if_pos rfl])
        obtain ⟨q1, hq1⟩ : ∃ q, cutT d u0 (s.data.toList.drop (i + 1)) = q := ⟨_, rfl⟩
        have HQ1 := Lib.hid hq1
        have HCC : Hid (∀ W, Below w.heap.size w W → Calls Tryd.prog 35 #[.agg #[.int .i64 u0.k, .int .i64 u0.n, .slice g0 u0.ks.length j0], .string s, .int .i64 ((i : Int) + 1)] W (ShRet q1 s.size W)) := Lib.hid (fun W hW => by
          have h := HIH.out u0 _ s (i + 1) W HS0.out (HK0.out.kept hW) HS.out (by have := HII.out; have := HS.out; omega)
          rw [hq1] at h
          exact h)
        have x0 := (HB0.out.cell (p := ⟨b', o', none⟩) bl').trans HX0.out
        have x1 := (HB0.out.cell (p := ⟨b', o' + 1, none⟩) bl').trans HX1.out
        have x2 := (HB0.out.cell (p := ⟨b', o' + 2, none⟩) bl').trans HX2.out
        obtain ⟨b2, bz⟩ := HT0.out
        clear hq1
        go_enter Tryd.func35, Tryd.ntmps35
        go_wp2_with fail
        go_at_call 35
        refine (HCC.out _ HB0.out).mono ?_
        clear x0 x1 x2 b2 bz
        rintro e w1 ⟨rfl, hb1⟩
        have HB1 := Lib.hid (HB0.out.trans (hb1.mono HB0.out.size))
        have HT1 := Lib.hid (HT0.out.kept hb1)
        clear hb1
        rcases q1 with _ | rr
        · rw [show posR none s.size = -1 from rfl]
          have HPP : Hid (posR o s.size = -1) := Lib.hid (by rw [← HO.out, HE1.out, Option.bind_some, HQ1.out]; rfl)
          go_wp2_with fail
          go_at_call 64
          refine (l2Sign_neg s 44 _).mono ?_
          rintro e w2 ⟨rfl, rfl⟩
          go_wp2_with fail
          go_ret
          exact ⟨by rw [HPP.out]; rfl, HB1.out⟩
        obtain ⟨m, hm1, hm2, rfl, hp⟩ := pos_some (by have := HII.out; rw [← size_len]; omega) HQ1.out
        rw [← size_len] at hm2 hp
        rw [hp]
        obtain ⟨z, hz⟩ : ∃ z, (by8 s m == 44) = z := ⟨_, rfl⟩
        have HSG := Lib.hid (fun W => l2Sign_any s m 44 z (by decide) hz W)
        have HC2 : Hid (cutC 44 (s.data.toList.drop m) = if z then some (s.data.toList.drop (m + 1)) else none) := Lib.hid (by
          rw [cutC_at8 (c := 44) (v := 44) rfl (by decide) m, ← hz]
          by_cases h : by8 s m = 44
          · rw [if_pos h, if_pos (by rw [h]; rfl)]
          · rw [if_neg h, if_neg (by rw [beq_eq_false_iff_ne.2 h]; simp)])
        have HM2 : Hid (m ≤ s.size) := Lib.hid hm2
        clear hm1 hm2 hp hz
        go_wp2_with fail
        go_at_call 64
        refine (HSG.out _).mono ?_
        rintro e w2 ⟨rfl, rfl⟩
        rcases z with _ | _
        · have HPP : Hid (posR o s.size = -1) := Lib.hid (by rw [← HO.out, HE1.out, Option.bind_some, HQ1.out, Option.bind_some, HC2.out]; rfl)
          go_wp2_with fail
          go_ret
          exact ⟨by rw [HPP.out]; rfl, HB1.out⟩
        have HE2 : Hid (cutC 44 (s.data.toList.drop m) = some (s.data.toList.drop (m + 1))) := Lib.hid (by rw [HC2.out]; rfl)
        obtain ⟨q2, hq2⟩ : ∃ q, cutT d u1 (s.data.toList.drop (m + 1)) = q := ⟨_, rfl⟩
        have HQ2 := Lib.hid hq2
        have HML : Hid (m + 1 ≤ s.size) := Lib.hid (by
          have h := cutC_end HE2.out
          have h2 := h.2.1
          rw [List.length_drop, List.length_drop, ← size_len] at h2
          omega)
        have HCD : Hid (∀ W, Below w.heap.size w W → Calls Tryd.prog 35 #[.agg #[.int .i64 u1.k, .int .i64 u1.n, .slice g1 u1.ks.length j1], .string s, .int .i64 ((m : Int) + 1)] W (ShRet q2 s.size W)) := Lib.hid (fun W hW => by
          have h := HIH.out u1 _ s (m + 1) W HS1.out (HK1.out.kept hW) HS.out (by have := HM2.out; have := HS.out; omega)
          rw [hq2] at h
          exact h)
        have y0 := (HB1.out.cell (p := ⟨b', o' + 3, none⟩) bl').trans HY0.out
        have y1 := (HB1.out.cell (p := ⟨b', o' + 4, none⟩) bl').trans HY1.out
        have y2 := (HB1.out.cell (p := ⟨b', o' + 5, none⟩) bl').trans HY2.out
        obtain ⟨b2, bz⟩ := HT1.out
        have hmx : m ≤ 2000000 := by have := HM2.out; have := HS.out; omega
        clear hq2
        go_wp2_with fail
        go_at_call 35
        refine (HCD.out _ HB1.out).mono ?_
        clear y0 y1 y2 b2 bz
        rintro e w3 ⟨rfl, hb3⟩
        have HB3 := Lib.hid (HB1.out.trans (hb3.mono HB1.out.size))
        clear hb3
        rcases q2 with _ | rr
        · rw [show posR none s.size = -1 from rfl]
          have HPP : Hid (posR o s.size = -1) := Lib.hid (by rw [← HO.out, HE1.out, Option.bind_some, HQ1.out, Option.bind_some, HE2.out, Option.bind_some, HQ2.out]; rfl)
          go_wp2_with fail
          go_at_call 64
          refine (l2Sign_neg s 41 _).mono ?_
          rintro e w4 ⟨rfl, rfl⟩
          go_wp2_with fail
          go_ret
          exact ⟨by rw [HPP.out]; rfl, HB3.out⟩
        obtain ⟨p, hp1, hp2, rfl, hp⟩ := pos_some (by rw [← size_len]; exact HML.out) HQ2.out
        rw [← size_len] at hp2 hp
        rw [hp]
        obtain ⟨z, hz⟩ : ∃ z, (by8 s p == 41) = z := ⟨_, rfl⟩
        have HSH := Lib.hid (fun W => l2Sign_any s p 41 z (by decide) hz W)
        have HC3 : Hid (cutC 41 (s.data.toList.drop p) = if z then some (s.data.toList.drop (p + 1)) else none) := Lib.hid (by
          rw [cutC_at8 (c := 41) (v := 41) rfl (by decide) p, ← hz]
          by_cases h : by8 s p = 41
          · rw [if_pos h, if_pos (by rw [h]; rfl)]
          · rw [if_neg h, if_neg (by rw [beq_eq_false_iff_ne.2 h]; simp)])
        have HP2 : Hid (p ≤ s.size) := Lib.hid hp2
        have hpx : p ≤ 2000000 := by have := HS.out; omega
        clear hp1 hp2 hp hz
        go_wp2_with fail
        go_at_call 64
        refine (HSH.out _).mono ?_
        rintro e w4 ⟨rfl, rfl⟩
        rcases z with _ | _
        · have HPP : Hid (posR o s.size = -1) := Lib.hid (by rw [← HO.out, HE1.out, Option.bind_some, HQ1.out, Option.bind_some, HE2.out, Option.bind_some, HQ2.out, Option.bind_some, HC3.out]; rfl)
          go_wp2_with fail
          go_ret
          exact ⟨by rw [HPP.out]; rfl, HB3.out⟩
        have HE3 : Hid (cutC 41 (s.data.toList.drop p) = some (s.data.toList.drop (p + 1))) := Lib.hid (by rw [HC3.out]; rfl)
        have HPP : Hid (posR o s.size = (p : Int) + 1) := Lib.hid (by
          rw [← HO.out, HE1.out, Option.bind_some, HQ1.out, Option.bind_some, HE2.out, Option.bind_some, HQ2.out, Option.bind_some, HE3.out]
          have h := cutC_end HE3.out
          have h2 := h.2.1
          show ((s.size - (s.data.toList.drop (p + 1)).length : Nat) : Int) = (p : Int) + 1
          rw [List.length_drop, List.length_drop, ← size_len] at h2
          rw [List.length_drop, ← size_len]
          omega)
        go_wp2_with fail
        go_ret
        exact ⟨by rw [HPP.out]; rfl, HB3.out⟩
    · rw [cutT_var hk, hk]
      obtain ⟨n, hn⟩ : ∃ n, t.n = n := ⟨_, rfl⟩
      rw [hn]
      clear hk hx hf hkids hsh ih hL hn
      go_enter Tryd.func35, Tryd.ntmps35
      go_wp2_with fail
      go_ret
      exact ⟨rfl, (Below.refl _ _).alloc (Nat.le_refl _) _⟩

set_option maxRecDepth 100000 in
set_option maxHeartbeats 2000000 in
theorem shapeFits_spec (t : Ty) (v : Value) (s : ByteArray) (w : World) (hx : TyAt w t v) (hs : s.size ≤ 2000000) :
    Calls Tryd.prog 13 #[.agg #[.int .i64 t.k, .int .i64 t.n, v], .string s] w fun e w' => e = .returned (.bool (shB t s.data.toList)) ∧ Below w.heap.size w w' := by
  obtain ⟨b, hb⟩ : ∃ b, tvT t = b := ⟨_, rfl⟩
  obtain ⟨a, cap, rfl, _⟩ := hx.slice
  obtain ⟨q, hq⟩ : ∃ q, cutT 16 t s.data.toList = q := ⟨_, rfl⟩
  obtain ⟨k, hk⟩ : ∃ k, t.k = k := ⟨_, rfl⟩
  obtain ⟨n, hn⟩ : ∃ n, t.n = n := ⟨_, rfl⟩
  obtain ⟨L, hL⟩ : ∃ L, t.ks.length = L := ⟨_, rfl⟩
  have HT : Hid (∀ W, Below w.heap.size w W → Calls Tryd.prog 34 #[.agg #[.int .i64 k, .int .i64 n, .slice a L cap]] W fun e w' => e = .returned (.bool b) ∧ Below W.heap.size W w') := Lib.hid (fun W hW => by
    have h := typeValid_spec t _ W (hx.kept hW)
    rw [hk, hn, hL, hb] at h; exact h)
  have HC : Hid (b = true → ∀ W, Below w.heap.size w W → Calls Tryd.prog 35 #[.agg #[.int .i64 k, .int .i64 n, .slice a L cap], .string s, .int .i64 0] W (ShRet q s.size W)) := Lib.hid (fun h W hW => by
    have h := l12Shape_at 16 t _ s 0 W (tv_shp (by rw [hb]; exact h)) (hx.kept hW) hs (by omega)
    rw [hk, hn, hL, List.drop_zero, hq] at h; exact h)
  have HR : Hid (shB t s.data.toList = (b && (q == some []))) := Lib.hid (by unfold shB; rw [hb, hq])
  have HSL := Lib.hid (size_len s)
  have HQE : Hid (∀ r, q = some r → r.length ≤ s.size) := Lib.hid (fun r hr => by
    obtain ⟨i, _, e⟩ := cutT_end _ _ _ _ (hq.trans hr)
    rw [e, List.length_drop, ← size_len]; omega)
  have HQ0 : Hid (s.size = 0 → q = none) := Lib.hid (fun h => by
    rw [← hq, List.eq_nil_of_length_eq_zero (l := s.data.toList) (by rw [← size_len]; exact h), cutT_nil])
  rw [HR.out, hk, hn, hL]
  have HA : Hid (Below w.heap.size w (w.alloc (.cells #[.int .i64 k, .int .i64 n, .slice a L cap] 34))) := Lib.hid ((Below.refl _ _).alloc (Nat.le_refl _) _)
  have HBX := Lib.hid (tbox_new w (.int .i64 k) (.int .i64 n) (.slice a L cap) 34)
  clear hb hq hx hs hk hn hL
  go_enter Tryd.func13, Tryd.ntmps13
  go_wp2_with fail
  go_at_call 34
  refine (HT.out _ HA.out).mono ?_
  rintro e w1 ⟨rfl, hb1⟩
  have HB1 : Hid (Below w.heap.size w w1) := Lib.hid (HA.out.trans (hb1.mono HA.out.size))
  have HBX1 := Lib.hid (HBX.out.kept hb1)
  clear hb1
  rcases b with _ | _
  · go_wp2_with fail
    go_ret
    exact ⟨rfl, HB1.out⟩
  have HC2 := Lib.hid (HC.out rfl w1 HB1.out)
  by_cases h0 : s.size = 0
  · have hz : ¬ (0 : Int) < (s.size : Int) := by omega
    have HF : Hid ((true && (q == some [])) = false) := Lib.hid (by rw [HQ0.out h0]; rfl)
    clear h0
    go_wp2_with fail
    go_ret
    refine ⟨?_, HB1.out⟩
    rw [HF.out]
    rfl
  have hz : (0 : Int) < (s.size : Int) := by omega
  obtain ⟨c0, c1, c2, cz⟩ := HBX1.out
  go_wp2_with fail
  go_at_call 35
  refine (HC2.out).mono ?_
  clear c0 c1 c2 cz
  rintro e w2 ⟨rfl, hb⟩
  have HB := Lib.hid (HB1.out.trans (hb.mono HB1.out.size))
  clear hb
  obtain ⟨p, hp⟩ : ∃ p, posR q s.size = p := ⟨_, rfl⟩
  rw [hp]
  by_cases hl : q = some []
  · have hpp : (p == (s.size : Int)) = true := by
      rw [← hp, hl]
      show ((((s.size - 0 : Nat) : Int)) == (s.size : Int)) = true
      simp
    have HF : Hid ((true && (q == some [])) = true) := Lib.hid (by rw [hl]; rfl)
    clear hp hl
    go_wp2_with fail
    go_ret
    refine ⟨?_, HB.out⟩
    rw [HF.out]
    rfl
  · have hpp : (p == (s.size : Int)) = false := by
      rw [beq_eq_false_iff_ne, ← hp]
      rcases q with _ | r
      · show (-1 : Int) ≠ (s.size : Int); omega
      · have h := HQE.out r rfl
        have h2 : r.length ≠ 0 := fun h3 => hl (by rw [List.eq_nil_of_length_eq_zero h3])
        show ((s.size - r.length : Nat) : Int) ≠ (s.size : Int)
        omega
    have HF : Hid ((true && (q == some [])) = false) := Lib.hid (by rw [Bool.true_and, beq_eq_false_iff_ne]; exact hl)
    clear hp hl
    go_wp2_with fail
    go_ret
    refine ⟨?_, HB.out⟩
    rw [HF.out]
    rfl

end Go.Proofs.YtpihopmgckdigaaDoor
