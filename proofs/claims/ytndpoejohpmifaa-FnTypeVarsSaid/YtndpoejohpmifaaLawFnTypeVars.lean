/-
  FnTypeVars returns true for every slice of bytes: the variables of a drawn type are counted, and a type without variables is canonical. No conditions.
-/
import Derived.Test.YtndpoejohpmifaaRows
import Derived.ProofKit
import Derived.OpenShut
import Derived.ShutString
import Derived.ChangeOld
import Derived.Below
import Derived.Lib.SmallJoins
import Derived.Deep.Quiet
import Derived.Test.YtndpoejohpmifaaQd
import Derived.Test.YtndpoejohpmifaaQac
import Derived.Test.YtndpoejohpmifaaBh
import Derived.Test.YtndpoejohpmifaaAl
import Derived.Test.YtndpoejohpmifaaZln
namespace Go.Proofs.Ytndpoejohpmifaa.fnTypeVars
open Go.Proofs.Ytndpoejohpmifaa
open Go.ChangeShapes Go.WideShapes Go.ChangeAt Go.RowKit Go.Joins
open Go.ChangeMaps (open_string shut_string)
set_option linter.unusedVariables false
set_option linter.unusedSimpArgs false

theorem own : ownKnob Try.prog.godebug = none := by kernel_rfl
theorem laidOut : laidOutB Try.prog = true := by kernel_rfl

theorem optN {t : Ty} {r : Option Ty} (h : cnT t = r) : nodes (optT r) ≤ 1048577 := by
  rcases r with _ | X
  · show nodes (.node 0 0 []) ≤ _
    simp [nodes, nodesL]
  · have hv : tvT X = true := by
      rcases h2 : tvT t with _ | _
      · rw [cnT_no h2] at h; cases h
      · rw [cnT_yes h2] at h; injection h with h; rw [← h]; exact canT_valid h2
    have h := nodes_shp 16 X (tvT_shp hv)
    have e : (2 : Nat) ^ 16 = 65536 := by decide
    show nodes X ≤ _
    omega
set_option maxRecDepth 100000 in
set_option maxHeartbeats 16000000 in
theorem walk (a : Option Addr) (len cap : Nat) (zs : List Int) (w : World) (hrow : IsRow w a len cap zs) :
    Calls Try.prog 7 #[.slice a len cap] w fun e w' => e = .returned (.bool true) ∧ Below w.heap.size w w' := by
  have HRow := Lib.hid hrow
  have hm := hrow.len
  unfold maxLen at hm
  clear hrow
  by_cases hl : len ≤ 1048576
  case neg =>
    go_enter Try.func7, Try.ntmps7
    go_wp2
    all_goals go_ret
    all_goals exact ⟨rfl, Below.refl _ _⟩
  go_enter Try.func7, Try.ntmps7
  go_wp2_with fail
  go_at_call 30
  refine (drawTypeVars_any a len cap zs _ HRow.out).mono ?_
  rintro e w0 ⟨t, vt, hnt, rfl, htt, hb0⟩
  have H0 := Lib.hid hb0
  have TT := Lib.hid htt
  obtain ⟨at_, ct, rfl, _⟩ := htt.at.slice
  have HNt : Hid (nodes t ≤ 1048577) := Lib.hid (by omega)
  clear hb0 htt hnt
  obtain ⟨b, hb⟩ : ∃ b, tvT t = b := ⟨_, rfl⟩
  have HVA := Lib.hid hb
  obtain ⟨vs, hvs⟩ : ∃ vs, varsT t = vs := ⟨_, rfl⟩
  have HVS := Lib.hid hvs
  obtain ⟨L, hL⟩ : ∃ L, vs.length = L := ⟨_, rfl⟩
  have HLE := Lib.hid hL
  clear hb hvs hL
  obtain ⟨W0, hW101⟩ : ∃ W, w0.alloc (.cells #[.int .i64 t.k, .int .i64 t.n, .slice at_ t.ks.length ct] 25) = W := ⟨_, rfl⟩
  have hA101 : Below w0.heap.size w0 W0 := by rw [← hW101]; exact (Below.refl _ _).alloc (Nat.le_refl _) _
  have hZ101 : W0.heap.size = w0.heap.size + 1 := by rw [← hW101]; simp
  have B101n : Hid (TBox W0 w0.heap.size (.int .i64 t.k) (.int .i64 t.n) (.slice at_ t.ks.length ct)) := Lib.hid (by rw [← hW101]; exact tbox_new w0 _ _ _ _)
  have Zb101 := Lib.hid hZ101
  have Z103 := Lib.hid (show w0.heap.size ≤ W0.heap.size from hA101.size)
  have T104 := Lib.hid (TT.out.kept hA101)
  have H105 := Lib.hid (H0.out.trans (hA101.mono H0.out.size))
  clear hA101 hZ101
  obtain ⟨bf106, bg106, bh106, bz106⟩ := B101n.out
  go_wp2_with fail
  clear hW101
  go_at_call 26
  refine (typeVars_impl HVS.out _ _ T104.out.at).mono ?_
  rintro e w1 ⟨lv, rfl, hli, hb⟩
  obtain ⟨la, lc, rfl⟩ := ints_slice hli
  rw [HLE.out] at hli ⊢
  have HLI := Lib.hid (IAt.mk hli)
  clear hli
  have Z108 := Lib.hid (show W0.heap.size ≤ w1.heap.size from hb.size)
  have B109 := Lib.hid (B101n.out.kept hb)
  have T110 := Lib.hid (T104.out.kept hb)
  have H111 := Lib.hid (H105.out.trans (hb.mono H105.out.size))
  clear bf106 bg106 bh106 bz106
  clear hb
  obtain ⟨bf112, bg112, bh112, bz112⟩ := B109.out
  go_wp2_with fail
  go_at_call 31
  refine (typeVars_spec HVS.out _ _ T110.out.at).mono ?_
  rintro e w2 ⟨lw, rfl, hli, hb⟩
  obtain ⟨sa, sc, rfl⟩ := ints_slice hli
  rw [HLE.out] at hli ⊢
  have HSI := Lib.hid (IAt.mk hli)
  clear hli
  have Z114 := Lib.hid (show w1.heap.size ≤ w2.heap.size from hb.size)
  have B115 := Lib.hid (B109.out.kept hb)
  have T116 := Lib.hid (T110.out.kept hb)
  have T117 := Lib.hid (HLI.out.kept hb)
  have H118 := Lib.hid (H111.out.trans (hb.mono H111.out.size))
  clear bf112 bg112 bh112 bz112
  clear hb
  obtain ⟨bf119, bg119, bh119, bz119⟩ := B115.out
  go_wp2_with fail
  go_at_call 15
  refine (typeValid_impl t _ _ T116.out.at).mono ?_
  rintro e w3 ⟨rfl, hb⟩
  have Z121 := Lib.hid (show w2.heap.size ≤ w3.heap.size from hb.size)
  have B122 := Lib.hid (B115.out.kept hb)
  have T123 := Lib.hid (T116.out.kept hb)
  have T124 := Lib.hid (T117.out.kept hb)
  have T125 := Lib.hid (HSI.out.kept hb)
  have H126 := Lib.hid (H118.out.trans (hb.mono H118.out.size))
  rw [HVA.out]
  clear bf119 bg119 bh119 bz119
  clear hb
  rcases b with _ | _
  · skip
    go_wp2_with fail
    go_ret
    exact ⟨rfl, H126.out⟩
  · skip
    have HVT := Lib.hid HVA.out
    obtain ⟨hv26, hvq⟩ := varsT_small HVT.out HVS.out
    rw [HLE.out] at hv26 hvq
    have HVQ := Lib.hid hvq
    have HRR : Hid (cnT t = some (canT t)) := Lib.hid (cnT_yes HVT.out)
    obtain ⟨T, hT⟩ : ∃ T, canT t = T := ⟨_, rfl⟩
    rw [hT] at HRR
    have HNT : Hid (nodes T ≤ 1048577) := Lib.hid (optN HRR.out)
    have HTV : Hid (varsT T = iota L) := Lib.hid (by rw [← hT, ← HLE.out, ← HVS.out]; exact vars_can HVT.out)
    have HSA : Hid (L = 0 → sameB T t = true) := Lib.hid (fun h => by
      rw [← hT]
      exact sameB_yes (canT_closed HVT.out (by rw [HVS.out]; exact List.eq_nil_of_length_eq_zero (by rw [HLE.out, h]))))
    clear hvq hT
    go_wp2_with fail
    go_loopw [6] (fun iv wr => ∃ i : Nat, i ≤ L ∧ iv = .int .i64 i ∧ Below w3.heap.size w3 wr) (fun iv _ => L - (intOf iv).toNat)
    case atStart => exact ⟨0, Nat.zero_le _, rfl, Below.refl _ _⟩
    case round =>
      obtain ⟨i, hi, rfl, hB⟩ := hrel
      have HX1 := Lib.hid (ints_below T124.out.h hB)
      have HX2 := Lib.hid (ints_below T125.out.h hB)
      have HBR := Lib.hid hB
      clear hB
      by_cases hlt : i < L
      · skip
        obtain ⟨gi1, rfl⟩ := ints_some HX1.out HLE.out (by omega)
        have hc1 := ints_cell HX1.out HLE.out hlt
        obtain ⟨gi2, rfl⟩ := ints_some HX2.out HLE.out (by omega)
        have hc2 := ints_cell HX2.out HLE.out hlt
        obtain ⟨p, hp26, hpv⟩ := HVQ.out i hlt
        rw [hpv] at hc1 hc2
        have hji : (i : Int) < (L : Int) := by omega
        have hp0 : ¬ (p : Int) < 0 := by omega
        have hp1 : ¬ (25 : Int) < (p : Int) := by omega
        clear hpv
        go_wp2_with fail
        go_quiet (fail)
        go_wp2_with fail
        exact ⟨⟨i + 1, by omega, by go_num, below_drewN HBR.out _⟩, by simp [intOf]; omega⟩
      · obtain rfl : i = L := by omega
        have hji : ¬ (i : Int) < (i : Int) := by omega
        have hbw := HBR.out
        have Z128 := Lib.hid (show w3.heap.size ≤ wr.heap.size from hbw.size)
        have B129 := Lib.hid (B122.out.kept hbw)
        have T130 := Lib.hid (T123.out.kept hbw)
        have T131 := Lib.hid (T124.out.kept hbw)
        have T132 := Lib.hid (T125.out.kept hbw)
        have H133 := Lib.hid (H126.out.trans (hbw.mono H126.out.size))
        clear hbw
        obtain ⟨bf134, bg134, bh134, bz134⟩ := B129.out
        go_wp2_with fail
        go_at_call 23
        refine (canonType_impl t _ _ T130.out.at (some T) HRR.out).mono ?_
        rintro e w5 ⟨vx, rfl, htyx, hb⟩
        obtain ⟨ax, kx, rfl, _⟩ := htyx.at.slice
        have Txo := Lib.hid htyx.ok
        clear bf134 bg134 bh134 bz134
        have Z136 := Lib.hid (show wr.heap.size ≤ w5.heap.size from hb.size)
        have B137 := Lib.hid (B129.out.kept hb)
        have T138 := Lib.hid (T130.out.kept hb)
        have T139 := Lib.hid (T131.out.kept hb)
        have T140 := Lib.hid (T132.out.kept hb)
        have H141 := Lib.hid (H133.out.trans (hb.mono H133.out.size))
        clear hb htyx
        obtain ⟨W6, hW142⟩ : ∃ W, w5.alloc (.cells #[.int .i64 T.k, .int .i64 T.n, .slice ax T.ks.length kx] 25) = W := ⟨_, rfl⟩
        have hA142 : Below w5.heap.size w5 W6 := by rw [← hW142]; exact (Below.refl _ _).alloc (Nat.le_refl _) _
        have hZ142 : W6.heap.size = w5.heap.size + 1 := by rw [← hW142]; simp
        have B142n : Hid (TBox W6 w5.heap.size (.int .i64 T.k) (.int .i64 T.n) (.slice ax T.ks.length kx)) := Lib.hid (by rw [← hW142]; exact tbox_new w5 _ _ _ _)
        have Zb142 := Lib.hid hZ142
        have Z144 := Lib.hid (show w5.heap.size ≤ W6.heap.size from hA142.size)
        have B145 := Lib.hid (B137.out.kept hA142)
        have T146 := Lib.hid (T138.out.kept hA142)
        have T147 := Lib.hid (Txo.out.kept hA142)
        have T148 := Lib.hid (T139.out.kept hA142)
        have T149 := Lib.hid (T140.out.kept hA142)
        have H150 := Lib.hid (H141.out.trans (hA142.mono H141.out.size))
        clear hA142 hZ142
        obtain ⟨bf151, bg151, bh151, bz151⟩ := B142n.out
        go_wp2_with fail
        clear hW142
        go_at_call 26
        refine (typeVars_impl HTV.out _ _ T147.out.at).mono ?_
        rintro e w7 ⟨lx, rfl, hli, hb⟩
        obtain ⟨xa, xc, rfl⟩ := ints_slice hli
        rw [iota_len]
        clear hli
        have Z153 := Lib.hid (show W6.heap.size ≤ w7.heap.size from hb.size)
        have B154 := Lib.hid (B145.out.kept hb)
        have B155 := Lib.hid (B142n.out.kept hb)
        have T156 := Lib.hid (T146.out.kept hb)
        have T157 := Lib.hid (T147.out.kept hb)
        have T158 := Lib.hid (T148.out.kept hb)
        have T159 := Lib.hid (T149.out.kept hb)
        have H160 := Lib.hid (H150.out.trans (hb.mono H150.out.size))
        clear bf151 bg151 bh151 bz151
        clear hb
        by_cases h0 : i = 0
        · skip
          have HSB := Lib.hid (HSA.out h0)
          have hz0 : ¬ (0 : Int) < (i : Int) := by omega
          obtain ⟨bf161, bg161, bh161, bz161⟩ := B155.out
          obtain ⟨bf162, bg162, bh162, bz162⟩ := B154.out
          go_wp2_with fail
          go_at_call 17
          refine (typeSame_impl T t 0 _ _ _ HNT.out T157.out T156.out).mono ?_
          rintro e w8 ⟨rfl, hb⟩
          have Z164 := Lib.hid (show w7.heap.size ≤ w8.heap.size from hb.size)
          have B165 := Lib.hid (B154.out.kept hb)
          have B166 := Lib.hid (B155.out.kept hb)
          have T167 := Lib.hid (T156.out.kept hb)
          have T168 := Lib.hid (T157.out.kept hb)
          have T169 := Lib.hid (T158.out.kept hb)
          have T170 := Lib.hid (T159.out.kept hb)
          have H171 := Lib.hid (H160.out.trans (hb.mono H160.out.size))
          rw [HSB.out]
          clear bf161 bg161 bh161 bz161 bf162 bg162 bh162 bz162
          clear hb
          go_wp2_with fail
          go_ret
          exact ⟨rfl, H171.out⟩
        · skip
          have hz0 : (0 : Int) < (i : Int) := by omega
          go_wp2_with fail
          go_ret
          exact ⟨rfl, H160.out⟩

set_option maxRecDepth 100000 in
theorem lifted (os : Os) (started : os.Started) (H : Type) (enc : TypeId × Value → H) :
    ReturnsInHanded {} Try.checked os 7 .any (Rows.fnTypeVarsSpec.pre6 enc Try.prog Try.f7 Rows.fnTypeVarsRow.domain false) (Rows.fnTypeVarsSpec.post enc Try.prog Try.f7 false true false false) := by
  refine returnsInHanded_of_change (C := Try.checked) own started (by kernel_rfl) Try.func7
    (ChangeSpec.witness6 (enc := enc) (C := Try.checked) false ⟨#[], #[.slice none 0 0], []⟩ 8 (by kernel_rfl) (by kernel_rfl) (by kernel_rfl) (by kernel_rfl)) ?_
  intro W base args ds gs before hval0 hW hcnd _
  have hval : ∀ (j : Nat) t v, Try.f7.params[j]? = some t → args[j]? = some v → Value.okWide Try.prog W .any base t v := hval0
  have hW' := hW
  obtain ⟨p, q, hA0, hV, rfl, hfz, hnd⟩ := hW
  have hA : DataW.TrodAll enc Try.prog W 0 (fun _ => true) true Try.f7.params.toList args.toList ds p := hA0
  rw [Try.params7] at hA hval
  obtain ⟨v0, vs0, d0, ds0, p0, q0, hargs, rfl, rfl, h0, r0⟩ := trodAll_cons hA
  obtain ⟨rfl, rfl, rfl⟩ := trodAll_nil r0
  obtain rfl : args = #[v0] := by cases args; simp_all
  obtain ⟨rfl, rfl⟩ := trodVars_none hV
  have k0 := h0
  have lt0 : ∀ x ∈ p0, x.block < W.heap.size := by obtain ⟨m, hm⟩ := k0; exact DataW.trod_lt m _ _ _ hm
  obtain ⟨a0, len0, cap0, rfl⟩ := okWide_slice Try.underlying22 (hval 0 22 v0 rfl rfl)
  obtain ⟨z0, w0⟩ : ∃ zs, IsRow W a0 len0 cap0 zs := by
    obtain ⟨fuel, hf⟩ := h0
    rcases open_ints Try.underlying22 Try.underlying5 (by kernel_rfl) hf with ⟨hcs, _⟩ | ⟨x, l, c, zs, hcs, _, hl, hm, hz, _, hcell, hwz⟩
    · simp [Value.cells] at hcs
      obtain ⟨rfl, rfl, rfl⟩ := hcs
      exact ⟨[], .inl ⟨rfl, rfl, rfl, rfl⟩⟩
    · simp [Value.cells] at hcs
      obtain ⟨rfl, rfl, rfl⟩ := hcs
      exact ⟨zs, .inr ⟨_, rfl, hl, hm, by simpa using hz, hcell, hwz⟩⟩
  clear hA0 hval0
  refine (walk a0 len0 cap0 z0 W w0).mono fun e W' ⟨he, bel⟩ => ?_
  subst he
  exact ⟨_, rfl, _, _, _, [], _, [], hW', trodAll_mk1 (shut_bool Try.underlying4 _), (trodAll_cons_mk (Below.trod laidOut (by kernel_rfl) (of_decide_eq_true (by kernel_rfl)) k0 bel lt0) trodAll_mk0), rfl, bel.frame _, fun h => by cases h⟩

theorem over : Rows.fnTypeVarsRow.holds Try.pinned (OpenSpec.ofChange Rows.fnTypeVarsSpec) :=
  OpenClaim.holds_of_wide 7 Try.f7 rfl rfl rfl rfl rfl rfl rfl ⟨rfl, rfl, rfl, rfl, rfl⟩ rfl rfl rfl rfl rfl (by kernel_rfl) Try.func7 (by kernel_rfl)
    (of_decide_eq_true (by kernel_rfl)) (by unfold Func.isWrapper; first | (rw [if_pos (by decide +kernel)]; kernel_rfl) | (rw [if_neg (by decide +kernel)]; exact ⟨rfl, rfl⟩))
    (fun os started H enc _ => lifted os started H enc)

/-- The given statement. -/
theorem proved : Rows.FnTypeVarsSaid := over
end Go.Proofs.Ytndpoejohpmifaa.fnTypeVars
