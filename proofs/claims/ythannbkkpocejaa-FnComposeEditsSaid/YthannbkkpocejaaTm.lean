/-
  What ComposeEdits returns, in the program and in the model: for every string of at most maxLen bytes and every two edits; what was in memory stays.
-/
import Derived.Test.YthannbkkpocejaaProg
import Derived.Test.YthannbkkpocejaaTl
namespace Go.Proofs.Ythannbkkpocejaa
open Go.RowKit


set_option maxHeartbeats 1000000 in
theorem compose_spec_1 (s : ByteArray) (f t : Int) (i : ByteArray) (g u : Int) (j : ByteArray) (hb : fitsB s f t i = false) (hs : s.size ≤ maxLen) (hi : i.size ≤ maxLen) (hj : j.size ≤ maxLen) (w : World) :
    Calls Try.prog 24 #[.string s, .agg #[.int .i64 f, .int .i64 t, .string i], .agg #[.int .i64 g, .int .i64 u, .string j]] w fun e w' => e = .returned (.tuple #[.agg #[.int .i64 0, .int .i64 0, .string ⟨#[]⟩], .bool false]) ∧ Below w.heap.size w w' := by
  have HSL := Lib.hid hs
  have HIL := Lib.hid hi
  have HJL := Lib.hid hj
  clear hs hi hj
  have HB := Lib.hid hb
  clear hb
  have HE0 : Hid ((⟨#[]⟩ : ByteArray).size ≤ maxLen) := Lib.hid (Nat.zero_le _)
  rcases hb2 : fitsB ⟨#[]⟩ g u j with _ | _
  · have HC := Lib.hid hb2
    clear hb2
    go_enter Try.func24, Try.ntmps24
    go_wp2_with fail
    go_at_call 17
    refine (applyEdit_spec_no s f t i HB.out HSL.out HIL.out _).mono ?_
    rintro e w1 ⟨rfl, hb1⟩
    obtain ⟨hc1, hf1⟩ := bcell hb1
    have hz1 : w.heap.size + 1 + 1 < w1.heap.size := by have := hb1.size; (try simp at this); omega
    have H1 : Below w.heap.size w w1 := ((((Below.refl _ _).alloc (Nat.le_refl _) _).alloc (by simp) _).alloc (by simp; omega) _).trans (hb1.mono (by first | omega | (simp; done) | (simp; omega)))
    go_wp2_with fail
    go_at_call 17
    refine (applyEdit_spec_no ⟨#[]⟩ g u j HC.out HE0.out HJL.out _).mono ?_
    rintro e w2 ⟨rfl, hb2⟩
    obtain ⟨hc2, hf2⟩ := bcell hb2
    have hz2 : w.heap.size + 1 + 1 < w2.heap.size := by have := hb2.size; (try simp at this); omega
    have H2 : Below w.heap.size w w2 := H1.trans (hb2.mono (by first | omega | (simp; done) | (simp; omega)))
    go_wp2_with fail
    exact bodyPost_ret (v := .tuple #[.agg #[.int .i64 0, .int .i64 0, .string ⟨#[]⟩], .bool false]) (by simp [results, Try.results24, go_sem, hc2, hc1, hz1]) rfl ⟨rfl, below_set3 H2 (by omega)⟩
  · have HC := Lib.hid hb2
    clear hb2
    go_enter Try.func24, Try.ntmps24
    go_wp2_with fail
    go_at_call 17
    refine (applyEdit_spec_no s f t i HB.out HSL.out HIL.out _).mono ?_
    rintro e w1 ⟨rfl, hb1⟩
    obtain ⟨hc1, hf1⟩ := bcell hb1
    have hz1 : w.heap.size + 1 + 1 < w1.heap.size := by have := hb1.size; (try simp at this); omega
    have H1 : Below w.heap.size w w1 := ((((Below.refl _ _).alloc (Nat.le_refl _) _).alloc (by simp) _).alloc (by simp; omega) _).trans (hb1.mono (by first | omega | (simp; done) | (simp; omega)))
    go_wp2_with fail
    go_at_call 17
    refine (applyEdit_spec_yes ⟨#[]⟩ g u j HC.out _).mono ?_
    rintro e w2 ⟨rfl, hb2⟩
    obtain ⟨hc2, hf2⟩ := bcell hb2
    have hz2 : w.heap.size + 1 + 1 < w2.heap.size := by have := hb2.size; (try simp at this); omega
    have H2 : Below w.heap.size w w2 := H1.trans (hb2.mono (by first | omega | (simp; done) | (simp; omega)))
    go_wp2_with fail
    exact bodyPost_ret (v := .tuple #[.agg #[.int .i64 0, .int .i64 0, .string ⟨#[]⟩], .bool false]) (by simp [results, Try.results24, go_sem, hc2, hc1, hz1]) rfl ⟨rfl, below_set3 H2 (by omega)⟩

set_option maxHeartbeats 1000000 in
theorem compose_spec_2 (s : ByteArray) (f t : Int) (i : ByteArray) (g u : Int) (j : ByteArray) (hb : fitsB s f t i = true) (hc : fitsB (ap s f t i) g u j = false) (hs : s.size ≤ maxLen) (hi : i.size ≤ maxLen) (hj : j.size ≤ maxLen) (w : World) :
    Calls Try.prog 24 #[.string s, .agg #[.int .i64 f, .int .i64 t, .string i], .agg #[.int .i64 g, .int .i64 u, .string j]] w fun e w' => e = .returned (.tuple #[.agg #[.int .i64 0, .int .i64 0, .string ⟨#[]⟩], .bool false]) ∧ Below w.heap.size w w' := by
  have HSL := Lib.hid hs
  have HIL := Lib.hid hi
  have HJL := Lib.hid hj
  clear hs hi hj
  have HB := Lib.hid hb
  have HC := Lib.hid hc
  have HXL : Hid ((ap s f t i).size ≤ maxLen) := Lib.hid (by have := tv_size (tv_ap hb); unfold maxLen; omega)
  clear hb hc
  go_enter Try.func24, Try.ntmps24
  go_wp2_with fail
  go_at_call 17
  refine (applyEdit_spec_yes s f t i HB.out _).mono ?_
  rintro e w1 ⟨rfl, hb1⟩
  obtain ⟨hc1, hf1⟩ := bcell hb1
  have hz1 : w.heap.size + 1 + 1 < w1.heap.size := by have := hb1.size; (try simp at this); omega
  have H1 : Below w.heap.size w w1 := ((((Below.refl _ _).alloc (Nat.le_refl _) _).alloc (by simp) _).alloc (by simp; omega) _).trans (hb1.mono (by first | omega | (simp; done) | (simp; omega)))
  go_wp2_with fail
  go_at_call 17
  refine (applyEdit_spec_no (ap s f t i) g u j HC.out HXL.out HJL.out _).mono ?_
  rintro e w2 ⟨rfl, hb2⟩
  obtain ⟨hc2, hf2⟩ := bcell hb2
  have hz2 : w.heap.size + 1 + 1 < w2.heap.size := by have := hb2.size; (try simp at this); omega
  have H2 : Below w.heap.size w w2 := H1.trans (hb2.mono (by first | omega | (simp; done) | (simp; omega)))
  go_wp2_with fail
  exact bodyPost_ret (v := .tuple #[.agg #[.int .i64 0, .int .i64 0, .string ⟨#[]⟩], .bool false]) (by simp [results, Try.results24, go_sem, hc2, hc1, hz1]) rfl ⟨rfl, below_set3 H2 (by omega)⟩

set_option maxHeartbeats 1000000 in
theorem compose_spec_3 (s : ByteArray) (f t : Int) (i : ByteArray) (g u : Int) (j : ByteArray) (hb : fitsB s f t i = true) (hc : fitsB (ap s f t i) g u j = true) (hs : s.size ≤ maxLen) (hi : i.size ≤ maxLen) (hj : j.size ≤ maxLen) (w : World) :
    Calls Try.prog 24 #[.string s, .agg #[.int .i64 f, .int .i64 t, .string i], .agg #[.int .i64 g, .int .i64 u, .string j]] w fun e w' => e = .returned (.tuple #[.agg #[.int .i64 (cp s (ap (ap s f t i) g u j)), .int .i64 ((s.size : Int) - ce s (ap (ap s f t i) g u j) (cp s (ap (ap s f t i) g u j))), .string ((ap (ap s f t i) g u j).extract (cp s (ap (ap s f t i) g u j)) ((ap (ap s f t i) g u j).size - ce s (ap (ap s f t i) g u j) (cp s (ap (ap s f t i) g u j))))], .bool true]) ∧ Below w.heap.size w w' := by
  have HSL := Lib.hid hs
  have HIL := Lib.hid hi
  have HJL := Lib.hid hj
  clear hs hi hj
  have HB := Lib.hid hb
  have HC := Lib.hid hc
  have HV := Lib.hid (fitsB_iff.mp hb).1
  have HY := Lib.hid (tv_ap hc)
  have HS2 := Lib.hid (tv_size HV.out)
  have HY2 := Lib.hid (tv_size HY.out)
  clear hb hc
  go_enter Try.func24, Try.ntmps24
  go_wp2_with fail
  go_at_call 17
  refine (applyEdit_spec_yes s f t i HB.out _).mono ?_
  rintro e w1 ⟨rfl, hb1⟩
  obtain ⟨hc1, hf1⟩ := bcell hb1
  have hz1 : w.heap.size + 1 + 1 < w1.heap.size := by have := hb1.size; (try simp at this); omega
  have H1 : Below w.heap.size w w1 := ((((Below.refl _ _).alloc (Nat.le_refl _) _).alloc (by simp) _).alloc (by simp; omega) _).trans (hb1.mono (by first | omega | (simp; done) | (simp; omega)))
  go_wp2_with fail
  go_at_call 17
  refine (applyEdit_spec_yes (ap s f t i) g u j HC.out _).mono ?_
  rintro e w2 ⟨rfl, hb2⟩
  obtain ⟨hc2, hf2⟩ := bcell hb2
  have hz2 : w.heap.size + 1 + 1 < w2.heap.size := by have := hb2.size; (try simp at this); omega
  have H2 : Below w.heap.size w w2 := H1.trans (hb2.mono (by first | omega | (simp; done) | (simp; omega)))
  go_wp2_with fail
  go_at_call 43
  refine (l1Diff_any s (ap (ap s f t i) g u j) HS2.out HY2.out _).mono ?_
  rintro e w3 ⟨rfl, hb3⟩
  obtain ⟨hc3, hf3⟩ := bcell hb3
  have hz3 : w.heap.size + 1 + 1 < w3.heap.size := by have := hb3.size; (try simp at this); omega
  have H3 : Below w.heap.size w w3 := H2.trans (hb3.mono (by first | omega | (simp; done) | (simp; omega)))
  go_wp2_with fail
  exact bodyPost_ret (v := .tuple #[.agg #[.int .i64 (cp s (ap (ap s f t i) g u j)), .int .i64 ((s.size : Int) - ce s (ap (ap s f t i) g u j) (cp s (ap (ap s f t i) g u j))), .string ((ap (ap s f t i) g u j).extract (cp s (ap (ap s f t i) g u j)) ((ap (ap s f t i) g u j).size - ce s (ap (ap s f t i) g u j) (cp s (ap (ap s f t i) g u j))))], .bool true]) (by simp [results, Try.results24, go_sem, hc3, hc2, hc1, hz1, hz2]) rfl ⟨rfl, below_set3 H3 (by omega)⟩

set_option maxHeartbeats 1000000 in
theorem compose_impl_1 (s : ByteArray) (f t : Int) (i : ByteArray) (g u : Int) (j : ByteArray) (hb : fitsB s f t i = false) (hs : s.size ≤ maxLen) (hi : i.size ≤ maxLen) (hj : j.size ≤ maxLen) (w : World) :
    Calls Try.prog 23 #[.string s, .agg #[.int .i64 f, .int .i64 t, .string i], .agg #[.int .i64 g, .int .i64 u, .string j]] w fun e w' => e = .returned (.tuple #[.agg #[.int .i64 0, .int .i64 0, .string ⟨#[]⟩], .bool false]) ∧ Below w.heap.size w w' := by
  have HSL := Lib.hid hs
  have HIL := Lib.hid hi
  have HJL := Lib.hid hj
  clear hs hi hj
  have HB := Lib.hid hb
  clear hb
  go_enter Try.func23, Try.ntmps23
  go_wp2_with fail
  go_at_call 15
  refine (applyEdit_impl_no s f t i HB.out HSL.out HIL.out _).mono ?_
  rintro e w1 ⟨rfl, hb1⟩
  obtain ⟨hc1, hf1⟩ := bcell hb1
  have hz1 : w.heap.size + 1 + 1 < w1.heap.size := by have := hb1.size; (try simp at this); omega
  have H1 : Below w.heap.size w w1 := ((((Below.refl _ _).alloc (Nat.le_refl _) _).alloc (by simp) _).alloc (by simp; omega) _).trans (hb1.mono (by first | omega | (simp; done) | (simp; omega)))
  go_wp2_with fail
  exact bodyPost_ret (v := .tuple #[.agg #[.int .i64 0, .int .i64 0, .string ⟨#[]⟩], .bool false]) (by simp [results, Try.results23, go_sem, hc1]) rfl ⟨rfl, below_set3 H1 (by omega)⟩

set_option maxHeartbeats 1000000 in
theorem compose_impl_2 (s : ByteArray) (f t : Int) (i : ByteArray) (g u : Int) (j : ByteArray) (hb : fitsB s f t i = true) (hc : fitsB (ap s f t i) g u j = false) (hs : s.size ≤ maxLen) (hi : i.size ≤ maxLen) (hj : j.size ≤ maxLen) (w : World) :
    Calls Try.prog 23 #[.string s, .agg #[.int .i64 f, .int .i64 t, .string i], .agg #[.int .i64 g, .int .i64 u, .string j]] w fun e w' => e = .returned (.tuple #[.agg #[.int .i64 0, .int .i64 0, .string ⟨#[]⟩], .bool false]) ∧ Below w.heap.size w w' := by
  have HSL := Lib.hid hs
  have HIL := Lib.hid hi
  have HJL := Lib.hid hj
  clear hs hi hj
  have HB := Lib.hid hb
  have HC := Lib.hid hc
  have HXL : Hid ((ap s f t i).size ≤ maxLen) := Lib.hid (by have := tv_size (tv_ap hb); unfold maxLen; omega)
  clear hb hc
  go_enter Try.func23, Try.ntmps23
  go_wp2_with fail
  go_at_call 15
  refine (applyEdit_impl_yes s f t i HB.out _).mono ?_
  rintro e w1 ⟨rfl, hb1⟩
  obtain ⟨hc1, hf1⟩ := bcell hb1
  have hz1 : w.heap.size + 1 + 1 < w1.heap.size := by have := hb1.size; (try simp at this); omega
  have H1 : Below w.heap.size w w1 := ((((Below.refl _ _).alloc (Nat.le_refl _) _).alloc (by simp) _).alloc (by simp; omega) _).trans (hb1.mono (by first | omega | (simp; done) | (simp; omega)))
  go_wp2_with fail
  go_at_call 15
  refine (applyEdit_impl_no (ap s f t i) g u j HC.out HXL.out HJL.out _).mono ?_
  rintro e w2 ⟨rfl, hb2⟩
  obtain ⟨hc2, hf2⟩ := bcell hb2
  have hz2 : w.heap.size + 1 + 1 < w2.heap.size := by have := hb2.size; (try simp at this); omega
  have H2 : Below w.heap.size w w2 := H1.trans (hb2.mono (by first | omega | (simp; done) | (simp; omega)))
  go_wp2_with fail
  exact bodyPost_ret (v := .tuple #[.agg #[.int .i64 0, .int .i64 0, .string ⟨#[]⟩], .bool false]) (by simp [results, Try.results23, go_sem, hc2, hc1, hz1]) rfl ⟨rfl, below_set3 H2 (by omega)⟩

set_option maxHeartbeats 1000000 in
theorem compose_impl_3 (s : ByteArray) (f t : Int) (i : ByteArray) (g u : Int) (j : ByteArray) (hb : fitsB s f t i = true) (hc : fitsB (ap s f t i) g u j = true) (hs : s.size ≤ maxLen) (hi : i.size ≤ maxLen) (hj : j.size ≤ maxLen) (w : World) :
    Calls Try.prog 23 #[.string s, .agg #[.int .i64 f, .int .i64 t, .string i], .agg #[.int .i64 g, .int .i64 u, .string j]] w fun e w' => e = .returned (.tuple #[.agg #[.int .i64 (cp s (ap (ap s f t i) g u j)), .int .i64 ((s.size : Int) - ce s (ap (ap s f t i) g u j) (cp s (ap (ap s f t i) g u j))), .string ((ap (ap s f t i) g u j).extract (cp s (ap (ap s f t i) g u j)) ((ap (ap s f t i) g u j).size - ce s (ap (ap s f t i) g u j) (cp s (ap (ap s f t i) g u j))))], .bool true]) ∧ Below w.heap.size w w' := by
  have HSL := Lib.hid hs
  have HIL := Lib.hid hi
  have HJL := Lib.hid hj
  clear hs hi hj
  have HB := Lib.hid hb
  have HC := Lib.hid hc
  have HV := Lib.hid (fitsB_iff.mp hb).1
  have HY := Lib.hid (tv_ap hc)
  have HS2 := Lib.hid (tv_size HV.out)
  have HY2 := Lib.hid (tv_size HY.out)
  clear hb hc
  go_enter Try.func23, Try.ntmps23
  go_wp2_with fail
  go_at_call 15
  refine (applyEdit_impl_yes s f t i HB.out _).mono ?_
  rintro e w1 ⟨rfl, hb1⟩
  obtain ⟨hc1, hf1⟩ := bcell hb1
  have hz1 : w.heap.size + 1 + 1 < w1.heap.size := by have := hb1.size; (try simp at this); omega
  have H1 : Below w.heap.size w w1 := ((((Below.refl _ _).alloc (Nat.le_refl _) _).alloc (by simp) _).alloc (by simp; omega) _).trans (hb1.mono (by first | omega | (simp; done) | (simp; omega)))
  go_wp2_with fail
  go_at_call 15
  refine (applyEdit_impl_yes (ap s f t i) g u j HC.out _).mono ?_
  rintro e w2 ⟨rfl, hb2⟩
  obtain ⟨hc2, hf2⟩ := bcell hb2
  have hz2 : w.heap.size + 1 + 1 < w2.heap.size := by have := hb2.size; (try simp at this); omega
  have H2 : Below w.heap.size w w2 := H1.trans (hb2.mono (by first | omega | (simp; done) | (simp; omega)))
  go_wp2_with fail
  go_at_call 20
  refine (diffEdit_impl_yes s (ap (ap s f t i) g u j) HV.out HY.out _).mono ?_
  rintro e w3 ⟨rfl, hb3⟩
  obtain ⟨hc3, hf3⟩ := bcell hb3
  have hz3 : w.heap.size + 1 + 1 < w3.heap.size := by have := hb3.size; (try simp at this); omega
  have H3 : Below w.heap.size w w3 := H2.trans (hb3.mono (by first | omega | (simp; done) | (simp; omega)))
  go_wp2_with fail
  exact bodyPost_ret (v := .tuple #[.agg #[.int .i64 (cp s (ap (ap s f t i) g u j)), .int .i64 ((s.size : Int) - ce s (ap (ap s f t i) g u j) (cp s (ap (ap s f t i) g u j))), .string ((ap (ap s f t i) g u j).extract (cp s (ap (ap s f t i) g u j)) ((ap (ap s f t i) g u j).size - ce s (ap (ap s f t i) g u j) (cp s (ap (ap s f t i) g u j))))], .bool true]) (by simp [results, Try.results23, go_sem, hc3, hc2, hc1, hz1, hz2]) rfl ⟨rfl, below_set3 H3 (by omega)⟩

end Go.Proofs.Ythannbkkpocejaa
