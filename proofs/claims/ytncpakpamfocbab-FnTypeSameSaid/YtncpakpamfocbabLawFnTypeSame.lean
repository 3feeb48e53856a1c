/-
  FnTypeSame returns true for every slice of bytes: equality of drawn types is reflexive and symmetric, and coincides with equality of texts for valid types. No conditions.
-/
import Derived.Test.YtncpakpamfocbabRows
import Derived.ProofKit
import Derived.OpenShut
import Derived.ShutString
import Derived.ChangeOld
import Derived.Below
import Derived.Lib.SmallJoins
import Derived.Test.YtncpakpamfocbabPe
import Derived.Test.YtncpakpamfocbabBh
import Derived.Test.YtncpakpamfocbabPf
namespace Go.Proofs.Ytncpakpamfocbab.fnTypeSame
open Go.Proofs.Ytncpakpamfocbab
open Go.ChangeShapes Go.WideShapes Go.ChangeAt Go.RowKit Go.Joins
open Go.ChangeMaps (open_string shut_string)
set_option linter.unusedVariables false
set_option linter.unusedSimpArgs false

theorem own : ownKnob Try.prog.godebug = none := by kernel_rfl
theorem laidOut : laidOutB Try.prog = true := by kernel_rfl

theorem bts_inj {s t : ByteArray} (h : s.toList = t.toList) : s = t := by
  rw [Go.ByteArray.toList_eq, Go.ByteArray.toList_eq] at h
  cases s; cases t; congr; exact Array.toList_inj.mp h
theorem texts_say {x y : Ty} {b : Bool} (hb : sameB x y = b) {sx sy : ByteArray} (hx : fmtT x = sx) (hy : fmtT y = sy) : (sx.toList.isEmpty || sy.toList.isEmpty || b == (sx.toList == sy.toList)) = true := by
  rcases h1 : sx.toList.isEmpty with _ | _
  · by_cases e : x = y
    · have e2 : sx = sy := by rw [← hx, ← hy, e]
      rw [sameB_yes e] at hb
      subst hb; subst e2
      simp
    · have hne : fmtT x ≠ ⟨#[]⟩ := fun h => by
        rw [hx] at h
        rw [h, Go.ByteArray.toList_eq] at h1
        simp at h1
      have e2 : ¬ sx.toList = sy.toList := fun h => e (fmtT_inj (by rw [hx, hy]; exact bts_inj h) hne)
      rw [sameB_no e] at hb
      subst hb
      simp [e2]
  · simp
theorem sameB_swap (x y : Ty) : sameB x y = sameB y x := by
  by_cases h : x = y
  · subst h; rfl
  · rw [sameB_no h, sameB_no (fun e => h e.symm)]
set_option maxRecDepth 100000 in
set_option maxHeartbeats 16000000 in
theorem walk (a : Option Addr) (len cap : Nat) (zs : List Int) (w : World) (hrow : IsRow w a len cap zs) :
    Calls Try.prog 6 #[.slice a len cap] w fun e w' => e = .returned (.bool true) ∧ Below w.heap.size w w' := by
  have HRow := Lib.hid hrow
  have hm := hrow.len
  unfold maxLen at hm
  clear hrow
  by_cases hl : len ≤ 1048576
  case neg =>
    go_enter Try.func6, Try.ntmps6
    go_wp2
    go_ret
    exact ⟨rfl, Below.refl _ _⟩
  go_enter Try.func6, Try.ntmps6
  go_wp2_with fail
  go_at_call 24
  refine (drawTypeSame_any a len cap zs _ HRow.out).mono ?_
  rintro e w0 ⟨x, y, vx, vy, hnx, hny, rfl, htx, hty, hb0⟩
  have H0 := Lib.hid hb0
  have TX := Lib.hid htx
  have TY := Lib.hid hty
  have HNX := Lib.hid (show nodes x ≤ 1048577 by omega)
  have HNY := Lib.hid (show nodes y ≤ 1048577 by omega)
  obtain ⟨ax, cx, rfl, _⟩ := htx.at.slice
  obtain ⟨ay, cy, rfl, _⟩ := hty.at.slice
  clear hb0 htx hty hnx hny
  obtain ⟨W2, hW2⟩ : ∃ W, (w0.alloc (.cells #[.int .i64 x.k, .int .i64 x.n, .slice ax x.ks.length cx] 29)).alloc (.cells #[.int .i64 y.k, .int .i64 y.n, .slice ay y.ks.length cy] 29) = W := ⟨_, rfl⟩
  obtain ⟨E, hE⟩ : ∃ E, w0.heap.size = E := ⟨_, rfl⟩
  have hb2 : Below w0.heap.size w0 W2 := by rw [← hW2]; exact ((Below.refl _ _).alloc (Nat.le_refl _) _).alloc (by simp) _
  have PA : Hid (TBox W2 E (.int .i64 x.k) (.int .i64 x.n) (.slice ax x.ks.length cx)) := Lib.hid (by rw [← hW2, ← hE]; exact (tbox_new w0 _ _ _ _).kept ((Below.refl _ _).alloc (Nat.le_refl _) _))
  have PB : Hid (TBox W2 (E + 1) (.int .i64 y.k) (.int .i64 y.n) (.slice ay y.ks.length cy)) := Lib.hid (by
    have h := tbox_new (w0.alloc (.cells #[.int .i64 x.k, .int .i64 x.n, .slice ax x.ks.length cx] 29)) (.int .i64 y.k) (.int .i64 y.n) (.slice ay y.ks.length cy) 29
    rw [hW2, sizeA, hE] at h; exact h)
  have H2 := Lib.hid (H0.out.trans (hb2.mono H0.out.size))
  have TX2 := Lib.hid (TX.out.kept hb2)
  have TY2 := Lib.hid (TY.out.kept hb2)
  have HW2 := Lib.hid hW2
  clear hW2 hb2
  obtain ⟨b, hb⟩ : ∃ b, sameB x y = b := ⟨_, rfl⟩
  have HV := Lib.hid hb
  have HV2 : Hid (sameB y x = b) := Lib.hid (by rw [← hb]; exact sameB_swap y x)
  have HV3 : Hid (sameB x x = true) := Lib.hid (sameB_yes rfl)
  obtain ⟨sx, hsx⟩ : ∃ s, fmtT x = s := ⟨_, rfl⟩
  obtain ⟨sy, hsy⟩ : ∃ s, fmtT y = s := ⟨_, rfl⟩
  have HSX := Lib.hid hsx
  have HSY := Lib.hid hsy
  have HTS := Lib.hid (texts_say hb hsx hsy)
  clear hsx hsy
  have hbb : (b != b) = false := by cases b <;> rfl
  clear hb
  go_wp2_with fail
  rw [HW2.out]
  clear hE
  go_at_call 16
  refine (typeSame_impl x y 0 _ _ _ HNX.out TX2.out TY2.out).mono ?_
  rintro e w3 ⟨rfl, hb⟩
  have Z102 := Lib.hid (show W2.heap.size ≤ w3.heap.size from hb.size)
  have B103 := Lib.hid (PA.out.kept hb)
  have B104 := Lib.hid (PB.out.kept hb)
  have T105 := Lib.hid (TX2.out.kept hb)
  have T106 := Lib.hid (TY2.out.kept hb)
  have H107 := Lib.hid (H2.out.trans (hb.mono H2.out.size))
  rw [HV.out]
  clear hb
  obtain ⟨bf108, bg108, bh108, bz108⟩ := B103.out
  obtain ⟨bf109, bg109, bh109, bz109⟩ := B104.out
  go_wp2_with fail
  go_at_call 14
  refine (typeSame_spec _ x y _ _ _ (Nat.lt_succ_self _) T105.out.at T106.out.at).mono ?_
  rintro e w4 ⟨rfl, hb⟩
  have Z111 := Lib.hid (show w3.heap.size ≤ w4.heap.size from hb.size)
  have B112 := Lib.hid (B103.out.kept hb)
  have B113 := Lib.hid (B104.out.kept hb)
  have T114 := Lib.hid (T105.out.kept hb)
  have T115 := Lib.hid (T106.out.kept hb)
  have H116 := Lib.hid (H107.out.trans (hb.mono H107.out.size))
  rw [HV.out]
  clear bf108 bg108 bh108 bz108 bf109 bg109 bh109 bz109
  clear hb
  obtain ⟨bf117, bg117, bh117, bz117⟩ := B112.out
  obtain ⟨bf118, bg118, bh118, bz118⟩ := B113.out
  go_wp2_with fail
  go_at_call 16
  refine (typeSame_impl y x 0 _ _ _ HNY.out T115.out T114.out).mono ?_
  rintro e w5 ⟨rfl, hb⟩
  have Z120 := Lib.hid (show w4.heap.size ≤ w5.heap.size from hb.size)
  have B121 := Lib.hid (B112.out.kept hb)
  have B122 := Lib.hid (B113.out.kept hb)
  have T123 := Lib.hid (T114.out.kept hb)
  have T124 := Lib.hid (T115.out.kept hb)
  have H125 := Lib.hid (H116.out.trans (hb.mono H116.out.size))
  rw [HV2.out]
  clear bf117 bg117 bh117 bz117 bf118 bg118 bh118 bz118
  clear hb
  obtain ⟨bf126, bg126, bh126, bz126⟩ := B121.out
  obtain ⟨bf127, bg127, bh127, bz127⟩ := B122.out
  go_wp2_with fail
  go_at_call 16
  refine (typeSame_impl x x 0 _ _ _ HNX.out T123.out T123.out).mono ?_
  rintro e w6 ⟨rfl, hb⟩
  have Z129 := Lib.hid (show w5.heap.size ≤ w6.heap.size from hb.size)
  have B130 := Lib.hid (B121.out.kept hb)
  have B131 := Lib.hid (B122.out.kept hb)
  have T132 := Lib.hid (T123.out.kept hb)
  have T133 := Lib.hid (T124.out.kept hb)
  have H134 := Lib.hid (H125.out.trans (hb.mono H125.out.size))
  rw [HV3.out]
  clear bf126 bg126 bh126 bz126 bf127 bg127 bh127 bz127
  clear hb
  obtain ⟨bf135, bg135, bh135, bz135⟩ := B130.out
  obtain ⟨bf136, bg136, bh136, bz136⟩ := B131.out
  go_wp2_with fail
  go_at_call 25
  refine (formatType_impl_val HSX.out _ _ T132.out.at).mono ?_
  rintro e w7 ⟨rfl, hb⟩
  have Z138 := Lib.hid (show w6.heap.size ≤ w7.heap.size from hb.size)
  have B139 := Lib.hid (B130.out.kept hb)
  have B140 := Lib.hid (B131.out.kept hb)
  have T141 := Lib.hid (T132.out.kept hb)
  have T142 := Lib.hid (T133.out.kept hb)
  have H143 := Lib.hid (H134.out.trans (hb.mono H134.out.size))
  clear bf135 bg135 bh135 bz135 bf136 bg136 bh136 bz136
  clear hb
  obtain ⟨bf144, bg144, bh144, bz144⟩ := B139.out
  obtain ⟨bf145, bg145, bh145, bz145⟩ := B140.out
  go_wp2_with fail
  go_at_call 25
  refine (formatType_impl_val HSY.out _ _ T142.out.at).mono ?_
  rintro e w8 ⟨rfl, hb⟩
  have Z147 := Lib.hid (show w7.heap.size ≤ w8.heap.size from hb.size)
  have B148 := Lib.hid (B139.out.kept hb)
  have B149 := Lib.hid (B140.out.kept hb)
  have T150 := Lib.hid (T141.out.kept hb)
  have T151 := Lib.hid (T142.out.kept hb)
  have H152 := Lib.hid (H143.out.trans (hb.mono H143.out.size))
  clear bf144 bg144 bh144 bz144 bf145 bg145 bh145 bz145
  clear hb
  go_wp2_with fail
  all_goals go_ret
  all_goals first
    | exact ⟨rfl, H152.out⟩
    | exact ⟨ret_b HTS.out, H152.out⟩

set_option maxRecDepth 100000 in
theorem lifted (os : Os) (started : os.Started) (H : Type) (enc : TypeId × Value → H) :
    ReturnsInHanded {} Try.checked os 6 .any (Rows.fnTypeSameSpec.pre6 enc Try.prog Try.f6 Rows.fnTypeSameRow.domain false) (Rows.fnTypeSameSpec.post enc Try.prog Try.f6 false true false false) := by
  refine returnsInHanded_of_change (C := Try.checked) own started (by kernel_rfl) Try.func6
    (ChangeSpec.witness6 (enc := enc) (C := Try.checked) false ⟨#[], #[.slice none 0 0], []⟩ 8 (by kernel_rfl) (by kernel_rfl) (by kernel_rfl) (by kernel_rfl)) ?_
  intro W base args ds gs before hval0 hW hcnd _
  have hval : ∀ (j : Nat) t v, Try.f6.params[j]? = some t → args[j]? = some v → Value.okWide Try.prog W .any base t v := hval0
  have hW' := hW
  obtain ⟨p, q, hA0, hV, rfl, hfz, hnd⟩ := hW
  have hA : DataW.TrodAll enc Try.prog W 0 (fun _ => true) true Try.f6.params.toList args.toList ds p := hA0
  rw [Try.params6] at hA hval
  obtain ⟨v0, vs0, d0, ds0, p0, q0, hargs, rfl, rfl, h0, r0⟩ := trodAll_cons hA
  obtain ⟨rfl, rfl, rfl⟩ := trodAll_nil r0
  obtain rfl : args = #[v0] := by cases args; simp_all
  obtain ⟨rfl, rfl⟩ := trodVars_none hV
  have k0 := h0
  have lt0 : ∀ x ∈ p0, x.block < W.heap.size := by obtain ⟨m, hm⟩ := k0; exact DataW.trod_lt m _ _ _ hm
  obtain ⟨a0, len0, cap0, rfl⟩ := okWide_slice Try.underlying35 (hval 0 35 v0 rfl rfl)
  obtain ⟨z0, w0⟩ : ∃ zs, IsRow W a0 len0 cap0 zs := by
    obtain ⟨fuel, hf⟩ := h0
    rcases open_ints Try.underlying35 Try.underlying5 (by kernel_rfl) hf with ⟨hcs, _⟩ | ⟨x, l, c, zs, hcs, _, hl, hm, hz, _, hcell, hwz⟩
    · simp [Value.cells] at hcs
      obtain ⟨rfl, rfl, rfl⟩ := hcs
      exact ⟨[], .inl ⟨rfl, rfl, rfl, rfl⟩⟩
    · simp [Value.cells] at hcs
      obtain ⟨rfl, rfl, rfl⟩ := hcs
      exact ⟨zs, .inr ⟨_, rfl, hl, hm, by simpa using hz, hcell, hwz⟩⟩
  clear hA0 hval0
  refine (walk a0 len0 cap0 z0 W w0).mono fun e W' ⟨he, bel⟩ => ?_
  subst he
  exact ⟨_, rfl, _, _, _, [], _, [], hW', trodAll_mk1 (shut_bool Try.underlying4 _), (trodAll_cons_mk (Below.trod laidOut (by kernel_rfl) (of_decide_eq_true (by kernel_rfl)) k0 bel lt0) trodAll_mk0), rfl, bel.frame _, fun h => by cases h⟩

theorem over : Rows.fnTypeSameRow.holds Try.pinned (OpenSpec.ofChange Rows.fnTypeSameSpec) :=
  OpenClaim.holds_of_wide 6 Try.f6 rfl rfl rfl rfl rfl rfl rfl ⟨rfl, rfl, rfl, rfl, rfl⟩ rfl rfl rfl rfl rfl (by kernel_rfl) Try.func6 (by kernel_rfl)
    (of_decide_eq_true (by kernel_rfl)) (by unfold Func.isWrapper; first | (rw [if_pos (by decide +kernel)]; kernel_rfl) | (rw [if_neg (by decide +kernel)]; exact ⟨rfl, rfl⟩))
    (fun os started H enc _ => lifted os started H enc)

/-- The given statement. -/
theorem proved : Rows.FnTypeSameSaid := over
end Go.Proofs.Ytncpakpamfocbab.fnTypeSame
