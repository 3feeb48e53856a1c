/-
  FnLookupName returns true for every slice of bytes: for a drawn list of names with types and a drawn name the program and its model answer the same, and the type of a name that is put behind the list counts. No conditions.
-/
import Derived.Test.YtlgbkhkmfgdehaaRows
import Derived.ProofKit
import Derived.OpenShut
import Derived.ShutString
import Derived.ChangeOld
import Derived.Below
import Derived.Lib.SmallJoins
import Derived.Test.YtlgbkhkmfgdehaaPa1
import Derived.Test.YtlgbkhkmfgdehaaKb1
import Derived.Test.YtlgbkhkmfgdehaaBh
import Derived.Test.YtlgbkhkmfgdehaaRa
import Derived.Maps.AppendAt
namespace Go.Proofs.Ytlgbkhkmfgdehaa.fnLookupName
open Go.Proofs.Ytlgbkhkmfgdehaa
open Go.ChangeShapes Go.WideShapes Go.ChangeAt Go.RowKit Go.Joins
open Go.ChangeMaps (open_string shut_string)
set_option linter.unusedVariables false
set_option linter.unusedSimpArgs false

theorem own : ownKnob Try.prog.godebug = none := by kernel_rfl
theorem laidOut : laidOutB Try.prog = true := by kernel_rfl

theorem growK {w0 W w' : World} {r : Option Nat} {n0 : Nat} (h : W.grownBy w' r) (hb : Below n0 w0 W) (hn : n0 ≤ W.heap.size) (hv : ∀ g, r = some g → n0 ≤ g) : Below n0 w0 w' :=
  ⟨h.os.trans hb.os, h.tape.trans hb.tape, h.output.trans hb.output, Nat.le_trans hb.size h.size, fun k hk => (h.block k (by omega) (fun e => by have := hv k e.symm; omega)).trans (hb.block k hk)⟩
theorem _root_.Go.Proofs.Ytlgbkhkmfgdehaa.KR.news {W : World} {B0 lo g c : Nat} {L : List KV2} (h : KR W B0 lo g c L) : ∀ j u, (quads L)[j]? = some u → W.cell? ((⟨g, 0, none⟩ : Addr).add j) = some u := fun j u hu => by
  have hadd : (⟨g, 0, none⟩ : Addr).add j = ⟨g, j, none⟩ := by unfold Addr.add; split <;> simp_all
  have hj : j < L.length * 4 := by
    have := (List.getElem?_eq_some_iff.1 hu).1
    rwa [quads_len] at this
  rw [hadd, h.own.cellAt j hj]
  exact hu
theorem _root_.Go.Proofs.Ytlgbkhkmfgdehaa.KR.one {W : World} {B0 lo g c : Nat} {L : List KV2} (h : KR W B0 lo g c L) : ∀ u ∈ quads L, u.oneCell' = true := fun u hu => by
  obtain ⟨p, hp, hq⟩ := List.mem_flatMap.1 hu
  obtain ⟨a, cc, e, _⟩ := (h.el p hp).ok.at.slice
  unfold quad at hq
  rw [e] at hq
  simp only [List.mem_cons, List.not_mem_nil, or_false] at hq
  rcases hq with rfl | rfl | rfl | rfl <;> rfl
theorem kr_sz {W : World} {B0 lo g c : Nat} {L : List KV2} (h : KR W B0 lo g c L) {ls : List Kn} (hls : L.map (·.1) = ls) : KnSz ls := fun i hi => by
  subst hls
  have hi' : i < L.length := by simpa using hi
  rw [KR.map hi']
  have := (h.sm _ (KR.mem hi')).1
  unfold maxLen
  omega
theorem lk_last (ls : List Kn) (x : Kn) : lk (ls ++ [x]) x.s (ls.length + 1) = some x.t := by
  have e : (ls ++ [x]).getD ls.length Kn.dummy = x := by simp [List.getD]
  have := lk_yes (ls := ls ++ [x]) (s := x.s) (j := ls.length) (by rw [e])
  rwa [e] at this

set_option maxRecDepth 100000 in
set_option maxHeartbeats 16000000 in
theorem walk (a : Option Addr) (len cap : Nat) (zs : List Int) (w : World) (hrow : IsRow w a len cap zs) :
    Calls Try.prog 3 #[.slice a len cap] w fun e w' => e = .returned (.bool true) ∧ Below w.heap.size w w' := by
  have HRow := Lib.hid hrow
  have hm := hrow.len
  unfold maxLen at hm
  clear hrow
  by_cases hl : len ≤ 1048576
  case neg =>
    go_enter Try.func3, Try.ntmps3
    go_wp2
    go_ret
    exact ⟨rfl, Below.refl _ _⟩
  go_enter Try.func3, Try.ntmps3
  go_wp2_with fail
  go_at_call 6
  refine (drawLookupName_any a len cap zs _ HRow.out).mono ?_
  rintro e w0 ⟨L, B0, lo, g, c, s, hL61, hs, rfl, hk, hb0⟩
  have H0 := Lib.hid hb0
  have K0 := Lib.hid hk
  have HSZ := Lib.hid hs
  obtain ⟨ls, hls⟩ : ∃ ls, L.map (·.1) = ls := ⟨_, rfl⟩
  have HLS := Lib.hid hls
  have HZ : Hid (KnSz ls) := Lib.hid (kr_sz hk hls)
  have KAT : Hid (∀ W, KR W B0 lo g c L → KnAt W ls (.slice (some ⟨g, 0, none⟩) L.length c)) := Lib.hid (fun W h => by have h2 := h.at (by omega); rw [hls] at h2; exact h2)
  clear hb0 hk hs
  obtain ⟨r, hr⟩ : ∃ r, lookB ls s = r := ⟨_, rfl⟩
  have HRR := Lib.hid hr
  obtain ⟨T, hT⟩ : ∃ T, optT r = T := ⟨_, rfl⟩
  obtain ⟨b, hb⟩ : ∃ b, r.isSome = b := ⟨_, rfl⟩
  have HNT : Hid (nodes T ≤ 1048577) := Lib.hid (by
    have h := nodes_opt (r := r) (fun t h => lookB_valid (hr.trans h))
    rw [hT] at h
    omega)
  have HF : Hid (∀ (w : World) (e : Ending) (w' : World), OptRet r w e w' → ∃ v, e = .returned (.tuple #[.agg #[.int .i64 T.k, .int .i64 T.n, v], .bool b]) ∧ TyIn w' w.heap.size w'.heap.size T v ∧ Below w.heap.size w w') := Lib.hid (by rw [← hT, ← hb]; exact fun w e w' h => h.flat)
  have hbb : (b != b) = false := by cases b <;> rfl
  have hbe : (b == b) = true := by cases b <;> rfl
  have HV3 : Hid (sameB T T = true) := Lib.hid (sameB_yes rfl)
  clear hT hb hr hls
  rcases he : envB ls with _ | _
  · have HE := Lib.hid he
    clear he
    go_wp2_with fail
    go_at_call 7
    refine (lookup_impl ls _ s _ HZ.out (KAT.out _ K0.out) r HRR.out).mono ?_
    rintro e w1 hret
    obtain ⟨v1, rfl, hty1, hb1⟩ := HF.out _ _ _ hret
    obtain ⟨a1, k1, rfl, _⟩ := hty1.at.slice
    have T1 := Lib.hid hty1.ok
    have H_w1 := Lib.hid (H0.out.trans (hb1.mono H0.out.size))
    have K_w1 := Lib.hid (K0.out.kept hb1)
    clear hb1 hret hty1
    have hAW1 := (Below.refl w1.heap.size w1).alloc (Nat.le_refl _) (.cells #[.int .i64 T.k, .int .i64 T.n, .slice a1 T.ks.length k1] 28)
    have P1 := Lib.hid (tbox_new w1 (.int .i64 T.k) (.int .i64 T.n) (.slice a1 T.ks.length k1) 28)
    obtain ⟨W1, hW1⟩ : ∃ W, w1.alloc (.cells #[.int .i64 T.k, .int .i64 T.n, .slice a1 T.ks.length k1] 28) = W := ⟨_, rfl⟩
    rw [hW1] at hAW1 P1
    have H_W1 := Lib.hid (H_w1.out.trans (hAW1.mono H_w1.out.size))
    have K_W1 := Lib.hid (K_w1.out.kept hAW1)
    have T1_W1 := Lib.hid (T1.out.kept hAW1)
    clear hAW1
    obtain ⟨b1, hb1⟩ : ∃ b, w1.heap.size = b := ⟨_, rfl⟩
    rw [hb1] at P1
    go_wp2_with fail
    try rw [hW1]
    try rw [hb1]
    clear hb1 hW1
    go_at_call 8
    refine (lookup_spec ls _ s _ HZ.out (KAT.out _ K_W1.out) r HRR.out).mono ?_
    rintro e w2 hret
    obtain ⟨v2, rfl, hty2, hb2⟩ := HF.out _ _ _ hret
    obtain ⟨a2, k2, rfl, _⟩ := hty2.at.slice
    have T2 := Lib.hid hty2.ok
    have H_w2 := Lib.hid (H_W1.out.trans (hb2.mono H_W1.out.size))
    have K_w2 := Lib.hid (K_W1.out.kept hb2)
    have T1_w2 := Lib.hid (T1_W1.out.kept hb2)
    have P1_w2 := Lib.hid (P1.out.kept hb2)
    clear hb2 hret hty2
    obtain ⟨p0, p1, p2, pz⟩ := P1_w2.out
    have hAW2 := (Below.refl w2.heap.size w2).alloc (Nat.le_refl _) (.cells #[.int .i64 T.k, .int .i64 T.n, .slice a2 T.ks.length k2] 28)
    have P2 := Lib.hid (tbox_new w2 (.int .i64 T.k) (.int .i64 T.n) (.slice a2 T.ks.length k2) 28)
    obtain ⟨W2, hW2⟩ : ∃ W, w2.alloc (.cells #[.int .i64 T.k, .int .i64 T.n, .slice a2 T.ks.length k2] 28) = W := ⟨_, rfl⟩
    rw [hW2] at hAW2 P2
    have H_W2 := Lib.hid (H_w2.out.trans (hAW2.mono H_w2.out.size))
    have K_W2 := Lib.hid (K_w2.out.kept hAW2)
    have T1_W2 := Lib.hid (T1_w2.out.kept hAW2)
    have P1_W2 := Lib.hid (P1_w2.out.kept hAW2)
    have T2_W2 := Lib.hid (T2.out.kept hAW2)
    clear hAW2
    obtain ⟨b2, hb2⟩ : ∃ b, w2.heap.size = b := ⟨_, rfl⟩
    rw [hb2] at P2
    clear p0 p1 p2 pz
    obtain ⟨p0, p1, p2, pz⟩ := P1_W2.out
    obtain ⟨q0, q1, q2, qz⟩ := P2.out
    go_wp2_with fail
    try rw [hW2]
    try rw [hb2]
    clear hb2 hW2
    go_at_call 9
    refine (typeSame_impl T T 0 _ _ _ HNT.out T1_W2.out T2_W2.out).mono ?_
    rintro e w3 ⟨rfl, hbs⟩
    rw [HV3.out]
    have H_w3 := Lib.hid (H_W2.out.trans (hbs.mono H_W2.out.size))
    have K_w3 := Lib.hid (K_W2.out.kept hbs)
    have T1_w3 := Lib.hid (T1_W2.out.kept hbs)
    have P1_w3 := Lib.hid (P1_W2.out.kept hbs)
    have T2_w3 := Lib.hid (T2_W2.out.kept hbs)
    have P2_w3 := Lib.hid (P2.out.kept hbs)
    clear hbs
    clear p0 p1 p2 pz q0 q1 q2 qz
    obtain ⟨p0, p1, p2, pz⟩ := P1_w3.out
    obtain ⟨q0, q1, q2, qz⟩ := P2_w3.out
    go_wp2_with fail
    go_at_call 10
    refine (envValid_impl ls _ _ HZ.out (KAT.out _ K_w3.out)).mono ?_
    rintro e w4 ⟨rfl, hbe⟩
    rw [HE.out]
    have H_w4 := Lib.hid (H_w3.out.trans (hbe.mono H_w3.out.size))
    have K_w4 := Lib.hid (K_w3.out.kept hbe)
    have T1_w4 := Lib.hid (T1_w3.out.kept hbe)
    have P1_w4 := Lib.hid (P1_w3.out.kept hbe)
    have T2_w4 := Lib.hid (T2_w3.out.kept hbe)
    have P2_w4 := Lib.hid (P2_w3.out.kept hbe)
    clear hbe
    go_wp2_with fail
    go_at_call 11
    refine (envValid_spec ls _ _ HZ.out (KAT.out _ K_w4.out)).mono ?_
    rintro e w5 ⟨rfl, hbe⟩
    rw [HE.out]
    have H_w5 := Lib.hid (H_w4.out.trans (hbe.mono H_w4.out.size))
    have K_w5 := Lib.hid (K_w4.out.kept hbe)
    have T1_w5 := Lib.hid (T1_w4.out.kept hbe)
    have P1_w5 := Lib.hid (P1_w4.out.kept hbe)
    have T2_w5 := Lib.hid (T2_w4.out.kept hbe)
    have P2_w5 := Lib.hid (P2_w4.out.kept hbe)
    clear hbe
    go_wp2_with fail
    go_at_call 10
    refine (envValid_impl ls _ _ HZ.out (KAT.out _ K_w5.out)).mono ?_
    rintro e w6 ⟨rfl, hbe⟩
    rw [HE.out]
    have H_w6 := Lib.hid (H_w5.out.trans (hbe.mono H_w5.out.size))
    have K_w6 := Lib.hid (K_w5.out.kept hbe)
    have T1_w6 := Lib.hid (T1_w5.out.kept hbe)
    have P1_w6 := Lib.hid (P1_w5.out.kept hbe)
    have T2_w6 := Lib.hid (T2_w5.out.kept hbe)
    have P2_w6 := Lib.hid (P2_w5.out.kept hbe)
    clear hbe
    clear p0 p1 p2 pz q0 q1 q2 qz
    obtain ⟨p0, p1, p2, pz⟩ := P1_w6.out
    obtain ⟨q0, q1, q2, qz⟩ := P2_w6.out
    go_wp2_with fail
    go_at_call 9
    refine (typeSame_impl T T 0 _ _ _ HNT.out T1_w6.out T2_w6.out).mono ?_
    rintro e w7 ⟨rfl, hbs⟩
    rw [HV3.out]
    have H_w7 := Lib.hid (H_w6.out.trans (hbs.mono H_w6.out.size))
    have K_w7 := Lib.hid (K_w6.out.kept hbs)
    have T1_w7 := Lib.hid (T1_w6.out.kept hbs)
    have P1_w7 := Lib.hid (P1_w6.out.kept hbs)
    have T2_w7 := Lib.hid (T2_w6.out.kept hbs)
    have P2_w7 := Lib.hid (P2_w6.out.kept hbs)
    clear hbs
    go_wp2_with fail
    go_at_call 10
    refine (envValid_impl ls _ _ HZ.out (KAT.out _ K_w7.out)).mono ?_
    rintro e w8 ⟨rfl, hbe⟩
    rw [HE.out]
    have H_w8 := Lib.hid (H_w7.out.trans (hbe.mono H_w7.out.size))
    have K_w8 := Lib.hid (K_w7.out.kept hbe)
    have T1_w8 := Lib.hid (T1_w7.out.kept hbe)
    have P1_w8 := Lib.hid (P1_w7.out.kept hbe)
    have T2_w8 := Lib.hid (T2_w7.out.kept hbe)
    have P2_w8 := Lib.hid (P2_w7.out.kept hbe)
    clear hbe
    go_wp2_with fail
    go_at_call 11
    refine (envValid_spec ls _ _ HZ.out (KAT.out _ K_w8.out)).mono ?_
    rintro e w9 ⟨rfl, hbe⟩
    rw [HE.out]
    have H_w9 := Lib.hid (H_w8.out.trans (hbe.mono H_w8.out.size))
    have K_w9 := Lib.hid (K_w8.out.kept hbe)
    have T1_w9 := Lib.hid (T1_w8.out.kept hbe)
    have P1_w9 := Lib.hid (P1_w8.out.kept hbe)
    have T2_w9 := Lib.hid (T2_w8.out.kept hbe)
    have P2_w9 := Lib.hid (P2_w8.out.kept hbe)
    clear hbe
    go_wp2_with fail
    go_ret
    exact ⟨rfl, H_w9.out⟩
  · have HE := Lib.hid he
    have hL60 : L.length ≤ 61 := hL61
    clear he
    go_wp2_with fail
    go_at_call 7
    refine (lookup_impl ls _ s _ HZ.out (KAT.out _ K0.out) r HRR.out).mono ?_
    rintro e w1 hret
    obtain ⟨v1, rfl, hty1, hb1⟩ := HF.out _ _ _ hret
    obtain ⟨a1, k1, rfl, _⟩ := hty1.at.slice
    have T1 := Lib.hid hty1.ok
    have H_w1 := Lib.hid (H0.out.trans (hb1.mono H0.out.size))
    have K_w1 := Lib.hid (K0.out.kept hb1)
    clear hb1 hret hty1
    have hAW1 := (Below.refl w1.heap.size w1).alloc (Nat.le_refl _) (.cells #[.int .i64 T.k, .int .i64 T.n, .slice a1 T.ks.length k1] 28)
    have P1 := Lib.hid (tbox_new w1 (.int .i64 T.k) (.int .i64 T.n) (.slice a1 T.ks.length k1) 28)
    obtain ⟨W1, hW1⟩ : ∃ W, w1.alloc (.cells #[.int .i64 T.k, .int .i64 T.n, .slice a1 T.ks.length k1] 28) = W := ⟨_, rfl⟩
    rw [hW1] at hAW1 P1
    have H_W1 := Lib.hid (H_w1.out.trans (hAW1.mono H_w1.out.size))
    have K_W1 := Lib.hid (K_w1.out.kept hAW1)
    have T1_W1 := Lib.hid (T1.out.kept hAW1)
    clear hAW1
    obtain ⟨b1, hb1⟩ : ∃ b, w1.heap.size = b := ⟨_, rfl⟩
    rw [hb1] at P1
    go_wp2_with fail
    try rw [hW1]
    try rw [hb1]
    clear hb1 hW1
    go_at_call 8
    refine (lookup_spec ls _ s _ HZ.out (KAT.out _ K_W1.out) r HRR.out).mono ?_
    rintro e w2 hret
    obtain ⟨v2, rfl, hty2, hb2⟩ := HF.out _ _ _ hret
    obtain ⟨a2, k2, rfl, _⟩ := hty2.at.slice
    have T2 := Lib.hid hty2.ok
    have H_w2 := Lib.hid (H_W1.out.trans (hb2.mono H_W1.out.size))
    have K_w2 := Lib.hid (K_W1.out.kept hb2)
    have T1_w2 := Lib.hid (T1_W1.out.kept hb2)
    have P1_w2 := Lib.hid (P1.out.kept hb2)
    clear hb2 hret hty2
    obtain ⟨p0, p1, p2, pz⟩ := P1_w2.out
    have hAW2 := (Below.refl w2.heap.size w2).alloc (Nat.le_refl _) (.cells #[.int .i64 T.k, .int .i64 T.n, .slice a2 T.ks.length k2] 28)
    have P2 := Lib.hid (tbox_new w2 (.int .i64 T.k) (.int .i64 T.n) (.slice a2 T.ks.length k2) 28)
    obtain ⟨W2, hW2⟩ : ∃ W, w2.alloc (.cells #[.int .i64 T.k, .int .i64 T.n, .slice a2 T.ks.length k2] 28) = W := ⟨_, rfl⟩
    rw [hW2] at hAW2 P2
    have H_W2 := Lib.hid (H_w2.out.trans (hAW2.mono H_w2.out.size))
    have K_W2 := Lib.hid (K_w2.out.kept hAW2)
    have T1_W2 := Lib.hid (T1_w2.out.kept hAW2)
    have P1_W2 := Lib.hid (P1_w2.out.kept hAW2)
    have T2_W2 := Lib.hid (T2.out.kept hAW2)
    clear hAW2
    obtain ⟨b2, hb2⟩ : ∃ b, w2.heap.size = b := ⟨_, rfl⟩
    rw [hb2] at P2
    clear p0 p1 p2 pz
    obtain ⟨p0, p1, p2, pz⟩ := P1_W2.out
    obtain ⟨q0, q1, q2, qz⟩ := P2.out
    go_wp2_with fail
    try rw [hW2]
    try rw [hb2]
    clear hb2 hW2
    go_at_call 9
    refine (typeSame_impl T T 0 _ _ _ HNT.out T1_W2.out T2_W2.out).mono ?_
    rintro e w3 ⟨rfl, hbs⟩
    rw [HV3.out]
    have H_w3 := Lib.hid (H_W2.out.trans (hbs.mono H_W2.out.size))
    have K_w3 := Lib.hid (K_W2.out.kept hbs)
    have T1_w3 := Lib.hid (T1_W2.out.kept hbs)
    have P1_w3 := Lib.hid (P1_W2.out.kept hbs)
    have T2_w3 := Lib.hid (T2_W2.out.kept hbs)
    have P2_w3 := Lib.hid (P2.out.kept hbs)
    clear hbs
    clear p0 p1 p2 pz q0 q1 q2 qz
    obtain ⟨p0, p1, p2, pz⟩ := P1_w3.out
    obtain ⟨q0, q1, q2, qz⟩ := P2_w3.out
    go_wp2_with fail
    go_at_call 10
    refine (envValid_impl ls _ _ HZ.out (KAT.out _ K_w3.out)).mono ?_
    rintro e w4 ⟨rfl, hbe⟩
    rw [HE.out]
    have H_w4 := Lib.hid (H_w3.out.trans (hbe.mono H_w3.out.size))
    have K_w4 := Lib.hid (K_w3.out.kept hbe)
    have T1_w4 := Lib.hid (T1_w3.out.kept hbe)
    have P1_w4 := Lib.hid (P1_w3.out.kept hbe)
    have T2_w4 := Lib.hid (T2_w3.out.kept hbe)
    have P2_w4 := Lib.hid (P2_w3.out.kept hbe)
    clear hbe
    go_wp2_with fail
    go_at_call 11
    refine (envValid_spec ls _ _ HZ.out (KAT.out _ K_w4.out)).mono ?_
    rintro e w5 ⟨rfl, hbe⟩
    rw [HE.out]
    have H_w5 := Lib.hid (H_w4.out.trans (hbe.mono H_w4.out.size))
    have K_w5 := Lib.hid (K_w4.out.kept hbe)
    have T1_w5 := Lib.hid (T1_w4.out.kept hbe)
    have P1_w5 := Lib.hid (P1_w4.out.kept hbe)
    have T2_w5 := Lib.hid (T2_w4.out.kept hbe)
    have P2_w5 := Lib.hid (P2_w4.out.kept hbe)
    clear hbe
    go_wp2_with fail
    go_at_call 10
    refine (envValid_impl ls _ _ HZ.out (KAT.out _ K_w5.out)).mono ?_
    rintro e w6 ⟨rfl, hbe⟩
    rw [HE.out]
    have H_w6 := Lib.hid (H_w5.out.trans (hbe.mono H_w5.out.size))
    have K_w6 := Lib.hid (K_w5.out.kept hbe)
    have T1_w6 := Lib.hid (T1_w5.out.kept hbe)
    have P1_w6 := Lib.hid (P1_w5.out.kept hbe)
    have T2_w6 := Lib.hid (T2_w5.out.kept hbe)
    have P2_w6 := Lib.hid (P2_w5.out.kept hbe)
    clear hbe
    clear p0 p1 p2 pz q0 q1 q2 qz
    obtain ⟨p0, p1, p2, pz⟩ := P1_w6.out
    obtain ⟨q0, q1, q2, qz⟩ := P2_w6.out
    have hzK := K_w6.out.low
    have hAL := (Below.refl w6.heap.size w6).alloc (Nat.le_refl _) (.cells #[] 34)
    have HNEW := Lib.hid (K_w6.out.kept hAL).news
    have HONE := Lib.hid K_w6.out.one
    have HLIT := Lib.hid (World.ownsRow_lit (e := 34) (size := 4) (base := w6.heap.size) w6 #[] 0 (Nat.le_refl _) (by decide) rfl)
    obtain ⟨i0, hi0, hz0, hz1, hz2⟩ := info_parts infoKn
    clear hAL
    go_wp2_with (first
      | (at_builtin; refine wpList_append_own_at _ rfl _ _ 23 rfl w6.heap.size 34 i0 _ 4 56 Try.underlying23 hi0 hz0 hz1 hz2 rfl (by omega) (.slice (some ⟨w6.heap.size, 0, none⟩) 0 0) 0 [] rfl HLIT.out ⟨g, 0, none⟩ L.length c (quads L) rfl (quads_len L) HNEW.out HONE.out (by unfold maxLen; omega) (by omega) (by simp) ?_; intro v7 w7 hown7 hgrow7 hnil7 hat7; obtain ⟨a7, c7, rfl⟩ := owns_slice hown7; have HO7 : Hid (w7.ownsRow w6.heap.size 34 4 (.slice a7 L.length c7) L.length (quads L)) := Lib.hid (by have h := hown7; rw [Nat.zero_add] at h; exact h); have HB7 : Hid (Below w6.heap.size w6 w7) := Lib.hid (growK hgrow7 ((Below.refl _ _).alloc (Nat.le_refl _) _) (by simp) (fun q e => by have e2 : w6.heap.size = q := (by simpa [Value.ownBlock] using e); omega)); have hz7 : w6.heap.size ≤ w7.heap.size := HB7.out.size; clear hown7 hgrow7 hat7 hnil7)
      | (at_builtin; refine wpList_append_lies _ rfl _ _ 23 rfl w6.heap.size 34 i0 _ 4 56 Try.underlying23 hi0 hz0 hz1 hz2 rfl (by omega) (.slice a7 L.length c7) L.length (quads L) rfl (HO7.out.alloc _) ⟨w7.heap.size, 0, none⟩ 1 1 [.string s, .int .i64 1, .int .i64 0, .slice none 0 0] rfl rfl (World.news_of_block (cs := #[.string s, .int .i64 1, .int .i64 0, .slice none 0 0]) (t := 34) (fr := (0, 0)) (heap_alloc_new w7 _)) (by simp [Value.oneCell']) (by omega) (by unfold maxLen; omega) (by omega) (by simp; omega) (w7.heap.size + 1) (by simp) ?_; intro g8 c8 w8 hown8 hgrow8 hat8 hlt8))
    have hB8 : Below w6.heap.size w6 w8 := growK hgrow8 (HB7.out.alloc hz7 _) (by simp; omega) (fun q e => (own_low HO7.out e).1)
    have hg8 := own_low hown8 rfl
    have KW8 : Hid (KR w8 w6.heap.size lo g8 c8 (L ++ [(⟨s, .node 1 0 []⟩, .slice none 0 0)])) := Lib.hid (by
      refine ⟨?_, fun x hx => ?_, fun x hx => ?_⟩
      · rw [List.length_append, quads_snoc]; exact hown8
      · rcases List.mem_append.1 hx with hx | hx
        · exact (K_w6.out.el x hx).moved hB8.size (fun b _ hb => hB8.block b hb) (.inr hg8.1)
        · rw [List.mem_singleton.1 hx]; exact .bare _ _ _ _
      · rcases List.mem_append.1 hx with hx | hx
        · exact K_w6.out.sm x hx
        · rw [List.mem_singleton.1 hx]; exact ⟨HSZ.out, by simp [nodes, nodesL]⟩)
    clear hg8 hown8 hgrow8 hat8 hlt8 hzK
    have H_w8 := Lib.hid (H_w6.out.trans (hB8.mono H_w6.out.size))
    have K_w8 := Lib.hid (K_w6.out.kept hB8)
    have T1_w8 := Lib.hid (T1_w6.out.kept hB8)
    have P1_w8 := Lib.hid (P1_w6.out.kept hB8)
    have T2_w8 := Lib.hid (T2_w6.out.kept hB8)
    have P2_w8 := Lib.hid (P2_w6.out.kept hB8)
    clear hB8
    obtain ⟨L2, hL2⟩ : ∃ L2, (L ++ [((⟨s, .node 1 0 []⟩ : Kn), Value.slice none 0 0)]) = L2 := ⟨_, rfl⟩
    have hl2 : L2.length = L.length + 1 := by rw [← hL2]; simp
    obtain ⟨ls2, hls2⟩ : ∃ ls, L2.map (·.1) = ls := ⟨_, rfl⟩
    have hlss : ls2 = ls ++ [⟨s, .node 1 0 []⟩] := by rw [← hls2, ← hL2, List.map_append, HLS.out]; rfl
    rw [hL2] at KW8
    have HZ2 : Hid (KnSz ls2) := Lib.hid (kr_sz KW8.out hls2)
    have KAT2 : Hid (∀ W, KR W w6.heap.size lo g8 c8 L2 → KnAt W ls2 (.slice (some ⟨g8, 0, none⟩) (L.length + 1) c8)) := Lib.hid (fun W h => by have h2 := h.at (by omega); rw [hls2, hl2] at h2; exact h2)
    obtain ⟨r2, hr2⟩ : ∃ r, lookB ls2 s = r := ⟨_, rfl⟩
    have HRR2 := Lib.hid hr2
    obtain ⟨U, hU⟩ : ∃ T, optT r2 = T := ⟨_, rfl⟩
    obtain ⟨d, hd⟩ : ∃ b, r2.isSome = b := ⟨_, rfl⟩
    have HF2 : Hid (∀ (w : World) (e : Ending) (w' : World), OptRet r2 w e w' → ∃ v, e = .returned (.tuple #[.agg #[.int .i64 U.k, .int .i64 U.n, v], .bool d]) ∧ TyIn w' w.heap.size w'.heap.size U v ∧ Below w.heap.size w w') := Lib.hid (by rw [← hU, ← hd]; exact fun w e w' h => h.flat)
    have HGOOD : Hid (envB ls2 = true → d = true ∧ (U.k == 1) = true) := Lib.hid (fun h => by
      have h1 : r2 = some (.node 1 0 []) := by
        rw [← hr2, lookB_good h, hlss, List.length_append]
        exact lk_last ls ⟨s, .node 1 0 []⟩
      rw [← hd, ← hU, h1]
      exact ⟨rfl, rfl⟩)
    clear hr2 hU hd hlss hls2 hL2
    go_at_call 7
    refine (lookup_impl ls2 _ s _ HZ2.out (KAT2.out _ KW8.out) r2 HRR2.out).mono ?_
    rintro e w9 hret
    obtain ⟨v9, rfl, hty9, hb9⟩ := HF2.out _ _ _ hret
    obtain ⟨a9, k9, rfl, _⟩ := hty9.at.slice
    have T9 := Lib.hid hty9.ok
    have H_w9 := Lib.hid (H_w8.out.trans (hb9.mono H_w8.out.size))
    have K_w9 := Lib.hid (K_w8.out.kept hb9)
    have T1_w9 := Lib.hid (T1_w8.out.kept hb9)
    have P1_w9 := Lib.hid (P1_w8.out.kept hb9)
    have T2_w9 := Lib.hid (T2_w8.out.kept hb9)
    have P2_w9 := Lib.hid (P2_w8.out.kept hb9)
    have KW_w9 := Lib.hid (KW8.out.kept hb9)
    clear hb9 hret hty9
    have hAW9 := (Below.refl w9.heap.size w9).alloc (Nat.le_refl _) (.cells #[.int .i64 U.k, .int .i64 U.n, .slice a9 U.ks.length k9] 28)
    have P9 := Lib.hid (tbox_new w9 (.int .i64 U.k) (.int .i64 U.n) (.slice a9 U.ks.length k9) 28)
    obtain ⟨W9, hW9⟩ : ∃ W, w9.alloc (.cells #[.int .i64 U.k, .int .i64 U.n, .slice a9 U.ks.length k9] 28) = W := ⟨_, rfl⟩
    rw [hW9] at hAW9 P9
    have H_W9 := Lib.hid (H_w9.out.trans (hAW9.mono H_w9.out.size))
    have K_W9 := Lib.hid (K_w9.out.kept hAW9)
    have T1_W9 := Lib.hid (T1_w9.out.kept hAW9)
    have P1_W9 := Lib.hid (P1_w9.out.kept hAW9)
    have T2_W9 := Lib.hid (T2_w9.out.kept hAW9)
    have P2_W9 := Lib.hid (P2_w9.out.kept hAW9)
    have KW_W9 := Lib.hid (KW_w9.out.kept hAW9)
    have T9_W9 := Lib.hid (T9.out.kept hAW9)
    clear hAW9
    obtain ⟨b9, hb9⟩ : ∃ b, w9.heap.size = b := ⟨_, rfl⟩
    rw [hb9] at P9
    go_wp2_with fail
    try rw [hW9]
    try rw [hb9]
    clear hb9 hW9
    rcases he2 : envB ls2 with _ | _
    · skip
      have HE2 := Lib.hid he2
      clear he2
      go_at_call 10
      refine (envValid_impl ls2 _ _ HZ2.out (KAT2.out _ KW_W9.out)).mono ?_
      rintro e w10 ⟨rfl, hbe⟩
      rw [HE2.out]
      have H_w10 := Lib.hid (H_W9.out.trans (hbe.mono H_W9.out.size))
      have K_w10 := Lib.hid (K_W9.out.kept hbe)
      have T1_w10 := Lib.hid (T1_W9.out.kept hbe)
      have P1_w10 := Lib.hid (P1_W9.out.kept hbe)
      have T2_w10 := Lib.hid (T2_W9.out.kept hbe)
      have P2_w10 := Lib.hid (P2_W9.out.kept hbe)
      have KW_w10 := Lib.hid (KW_W9.out.kept hbe)
      have T9_w10 := Lib.hid (T9_W9.out.kept hbe)
      have P9_w10 := Lib.hid (P9.out.kept hbe)
      clear hbe
      go_wp2_with fail
      go_ret
      exact ⟨rfl, H_w10.out⟩
    · skip
      have HE2 := Lib.hid he2
      obtain ⟨hdt, huk⟩ := HGOOD.out he2
      subst hdt
      clear he2
      go_at_call 10
      refine (envValid_impl ls2 _ _ HZ2.out (KAT2.out _ KW_W9.out)).mono ?_
      rintro e w10 ⟨rfl, hbe⟩
      rw [HE2.out]
      have H_w10 := Lib.hid (H_W9.out.trans (hbe.mono H_W9.out.size))
      have K_w10 := Lib.hid (K_W9.out.kept hbe)
      have T1_w10 := Lib.hid (T1_W9.out.kept hbe)
      have P1_w10 := Lib.hid (P1_W9.out.kept hbe)
      have T2_w10 := Lib.hid (T2_W9.out.kept hbe)
      have P2_w10 := Lib.hid (P2_W9.out.kept hbe)
      have KW_w10 := Lib.hid (KW_W9.out.kept hbe)
      have T9_w10 := Lib.hid (T9_W9.out.kept hbe)
      have P9_w10 := Lib.hid (P9.out.kept hbe)
      clear hbe
      obtain ⟨x0, x1, x2, xz⟩ := P9_w10.out
      go_wp2_with fail
      go_ret
      exact ⟨rfl, H_w10.out⟩

set_option maxRecDepth 100000 in
theorem lifted (os : Os) (started : os.Started) (H : Type) (enc : TypeId × Value → H) :
    ReturnsInHanded {} Try.checked os 3 .any (Rows.fnLookupNameSpec.pre6 enc Try.prog Try.f3 Rows.fnLookupNameRow.domain false) (Rows.fnLookupNameSpec.post enc Try.prog Try.f3 false true false false) := by
  refine returnsInHanded_of_change (C := Try.checked) own started (by kernel_rfl) Try.func3
    (ChangeSpec.witness6 (enc := enc) (C := Try.checked) false ⟨#[], #[.slice none 0 0], []⟩ 8 (by kernel_rfl) (by kernel_rfl) (by kernel_rfl) (by kernel_rfl)) ?_
  intro W base args ds gs before hval0 hW hcnd _
  have hval : ∀ (j : Nat) t v, Try.f3.params[j]? = some t → args[j]? = some v → Value.okWide Try.prog W .any base t v := hval0
  have hW' := hW
  obtain ⟨p, q, hA0, hV, rfl, hfz, hnd⟩ := hW
  have hA : DataW.TrodAll enc Try.prog W 0 (fun _ => true) true Try.f3.params.toList args.toList ds p := hA0
  rw [Try.params3] at hA hval
  obtain ⟨v0, vs0, d0, ds0, p0, q0, hargs, rfl, rfl, h0, r0⟩ := trodAll_cons hA
  obtain ⟨rfl, rfl, rfl⟩ := trodAll_nil r0
  obtain rfl : args = #[v0] := by cases args; simp_all
  obtain ⟨rfl, rfl⟩ := trodVars_none hV
  have k0 := h0
  have lt0 : ∀ x ∈ p0, x.block < W.heap.size := by obtain ⟨m, hm⟩ := k0; exact DataW.trod_lt m _ _ _ hm
  obtain ⟨a0, len0, cap0, rfl⟩ := okWide_slice Try.underlying22 (hval 0 22 v0 rfl rfl)
  obtain ⟨z0, w0⟩ : ∃ zs, IsRow W a0 len0 cap0 zs := by
    obtain ⟨fuel, hf⟩ := h0
    rcases open_ints Try.underlying22 Try.underlying5 (by kernel_rfl) hf with ⟨hcs, _⟩ | ⟨x, l, c, zs, hcs, _, hl, hm, hz, _, hcell, hwz⟩
    · simp [Value.cells] at hcs
      obtain ⟨rfl, rfl, rfl⟩ := hcs
      exact ⟨[], .inl ⟨rfl, rfl, rfl, rfl⟩⟩
    · simp [Value.cells] at hcs
      obtain ⟨rfl, rfl, rfl⟩ := hcs
      exact ⟨zs, .inr ⟨_, rfl, hl, hm, by simpa using hz, hcell, hwz⟩⟩
  clear hA0 hval0
  refine (walk a0 len0 cap0 z0 W w0).mono fun e W' ⟨he, bel⟩ => ?_
  subst he
  exact ⟨_, rfl, _, _, _, [], _, [], hW', trodAll_mk1 (shut_bool Try.underlying4 _), (trodAll_cons_mk (Below.trod laidOut (by kernel_rfl) (of_decide_eq_true (by kernel_rfl)) k0 bel lt0) trodAll_mk0), rfl, bel.frame _, fun h => by cases h⟩

theorem over : Rows.fnLookupNameRow.holds Try.pinned (OpenSpec.ofChange Rows.fnLookupNameSpec) :=
  OpenClaim.holds_of_wide 3 Try.f3 rfl rfl rfl rfl rfl rfl rfl ⟨rfl, rfl, rfl, rfl, rfl⟩ rfl rfl rfl rfl rfl (by kernel_rfl) Try.func3 (by kernel_rfl)
    (of_decide_eq_true (by kernel_rfl)) (by unfold Func.isWrapper; first | (rw [if_pos (by decide +kernel)]; kernel_rfl) | (rw [if_neg (by decide +kernel)]; exact ⟨rfl, rfl⟩))
    (fun os started H enc _ => lifted os started H enc)

/-- The given statement. -/
theorem proved : Rows.FnLookupNameSaid := over
end Go.Proofs.Ytlgbkhkmfgdehaa.fnLookupName
