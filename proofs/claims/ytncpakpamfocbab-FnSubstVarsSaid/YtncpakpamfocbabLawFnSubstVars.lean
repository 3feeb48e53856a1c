/-
  FnSubstVars returns true for every slice of bytes: a drawn type after a replacement is an instance of it. No conditions.
-/
import Derived.Test.YtncpakpamfocbabRows
import Derived.ProofKit
import Derived.OpenShut
import Derived.ShutString
import Derived.ChangeOld
import Derived.Below
import Derived.Lib.SmallJoins
import Derived.Test.YtncpakpamfocbabPij
import Derived.Test.YtncpakpamfocbabZn
namespace Go.Proofs.Ytncpakpamfocbab.fnSubstVars
open Go.Proofs.Ytncpakpamfocbab
open Go.ChangeShapes Go.WideShapes Go.ChangeAt Go.RowKit Go.Joins
open Go.ChangeMaps (open_string shut_string)
set_option linter.unusedVariables false
set_option linter.unusedSimpArgs false

theorem own : ownKnob Try.prog.godebug = none := by kernel_rfl
theorem laidOut : laidOutB Try.prog = true := by kernel_rfl

set_option maxRecDepth 100000 in
set_option maxHeartbeats 16000000 in
theorem walk (a : Option Addr) (len cap : Nat) (zs : List Int) (w : World) (hrow : IsRow w a len cap zs) :
    Calls Try.prog 10 #[.slice a len cap] w fun e w' => e = .returned (.bool true) ∧ Below w.heap.size w w' := by
  have HRow := Lib.hid hrow
  have hm := hrow.len
  unfold maxLen at hm
  clear hrow
  by_cases hl : len ≤ 1048576
  case neg =>
    go_enter Try.func10, Try.ntmps10
    go_wp2
    go_ret
    exact ⟨rfl, Below.refl _ _⟩
  go_enter Try.func10, Try.ntmps10
  go_wp2_with fail
  go_at_call 27
  refine (drawSubstVars_any a len cap zs _ HRow.out).mono ?_
  rintro e w0 ⟨t, vt, L, lg, lc, hnt, hL3, hLn, rfl, htt, hll, hb0⟩
  have H0 := Lib.hid hb0
  have TT := Lib.hid htt
  have LL := Lib.hid hll
  obtain ⟨at_, ct, rfl, _⟩ := htt.at.slice
  have HNt : Hid (nodes t ≤ 1048577) := Lib.hid (by omega)
  clear hb0 htt hll hnt hLn
  obtain ⟨r, hr⟩ : ∃ r, svT t L = r := ⟨_, rfl⟩
  have HRR := Lib.hid hr
  obtain ⟨T, hT⟩ : ∃ T, optT r = T := ⟨_, rfl⟩
  obtain ⟨b, hb⟩ : ∃ b, r.isSome = b := ⟨_, rfl⟩
  have HNT : Hid (nodes T ≤ 1048577) := Lib.hid (by
    rw [← hT]
    rcases r with _ | X
    · show nodes (.node 0 0 []) ≤ _
      simp [nodes, nodesL]
    · have h := nodes_shp 16 X (tvT_shp (Mx.sv_parts hr).2.1)
      have e : (2 : Nat) ^ 16 = 65536 := by decide
      show nodes X ≤ _
      omega)
  have HSOME : Hid (b = true → svT t L = some T) := Lib.hid (fun h => by
    rw [hr, ← hT]
    rw [← hb] at h
    rcases r with _ | X
    · cases h
    · rfl)
  have HF : Hid (∀ (w : World) (e : Ending) (w' : World), OptRet r w e w' → ∃ v, e = .returned (.tuple #[.agg #[.int .i64 T.k, .int .i64 T.n, v], .bool b]) ∧ TyIn w' w.heap.size w'.heap.size T v ∧ Below w.heap.size w w') := Lib.hid (by rw [← hT, ← hb]; exact fun w e w' h => h.flat)
  have hbb : (b != b) = false := by cases b <;> rfl
  have HV3 : Hid (sameB T T = true) := Lib.hid (sameB_yes rfl)
  clear hT hb hr
  obtain ⟨W0, hW101⟩ : ∃ W, w0.alloc (.cells #[.int .i64 t.k, .int .i64 t.n, .slice at_ t.ks.length ct] 29) = W := ⟨_, rfl⟩
  have hA101 : Below w0.heap.size w0 W0 := by rw [← hW101]; exact (Below.refl _ _).alloc (Nat.le_refl _) _
  have hZ101 : W0.heap.size = w0.heap.size + 1 := by rw [← hW101]; simp
  have B101n : Hid (TBox W0 w0.heap.size (.int .i64 t.k) (.int .i64 t.n) (.slice at_ t.ks.length ct)) := Lib.hid (by rw [← hW101]; exact tbox_new w0 _ _ _ _)
  have Zb101 := Lib.hid hZ101
  have Z103 := Lib.hid (show w0.heap.size ≤ W0.heap.size from hA101.size)
  have T104 := Lib.hid (TT.out.kept hA101)
  have T105 := Lib.hid (LL.out.kept hA101)
  have H106 := Lib.hid (H0.out.trans (hA101.mono H0.out.size))
  clear hA101 hZ101
  obtain ⟨bf107, bg107, bh107, bz107⟩ := B101n.out
  go_wp2_with fail
  clear hW101
  go_at_call 28
  refine (substVars_impl t L _ _ _ T104.out.at T105.out.at r HRR.out).mono ?_
  intro e w1 hret
  obtain ⟨v1, rfl, hty1, hb⟩ := HF.out _ _ _ hret
  obtain ⟨a1, k1, rfl, _⟩ := hty1.at.slice
  have T1 := Lib.hid hty1.ok
  clear bf107 bg107 bh107 bz107
  have Z109 := Lib.hid (show W0.heap.size ≤ w1.heap.size from hb.size)
  have B110 := Lib.hid (B101n.out.kept hb)
  have T111 := Lib.hid (T104.out.kept hb)
  have T112 := Lib.hid (T105.out.kept hb)
  have H113 := Lib.hid (H106.out.trans (hb.mono H106.out.size))
  clear hb hret hty1
  obtain ⟨W1, hW114⟩ : ∃ W, w1.alloc (.cells #[.int .i64 T.k, .int .i64 T.n, .slice a1 T.ks.length k1] 29) = W := ⟨_, rfl⟩
  have hA114 : Below w1.heap.size w1 W1 := by rw [← hW114]; exact (Below.refl _ _).alloc (Nat.le_refl _) _
  have hZ114 : W1.heap.size = w1.heap.size + 1 := by rw [← hW114]; simp
  have B114n : Hid (TBox W1 w1.heap.size (.int .i64 T.k) (.int .i64 T.n) (.slice a1 T.ks.length k1)) := Lib.hid (by rw [← hW114]; exact tbox_new w1 _ _ _ _)
  have Zb114 := Lib.hid hZ114
  have Z116 := Lib.hid (show w1.heap.size ≤ W1.heap.size from hA114.size)
  have B117 := Lib.hid (B110.out.kept hA114)
  have T118 := Lib.hid (T111.out.kept hA114)
  have T119 := Lib.hid (T112.out.kept hA114)
  have T120 := Lib.hid (T1.out.kept hA114)
  have H121 := Lib.hid (H113.out.trans (hA114.mono H113.out.size))
  clear hA114 hZ114
  obtain ⟨bf122, bg122, bh122, bz122⟩ := B117.out
  go_wp2_with fail
  clear hW114
  go_at_call 31
  refine (substVars_spec t L _ _ _ T118.out.at T119.out.at r HRR.out).mono ?_
  intro e w2 hret
  obtain ⟨v2, rfl, hty2, hb⟩ := HF.out _ _ _ hret
  obtain ⟨a2, k2, rfl, _⟩ := hty2.at.slice
  have T2 := Lib.hid hty2.ok
  clear bf122 bg122 bh122 bz122
  have Z124 := Lib.hid (show W1.heap.size ≤ w2.heap.size from hb.size)
  have B125 := Lib.hid (B117.out.kept hb)
  have B126 := Lib.hid (B114n.out.kept hb)
  have T127 := Lib.hid (T118.out.kept hb)
  have T128 := Lib.hid (T119.out.kept hb)
  have T129 := Lib.hid (T120.out.kept hb)
  have H130 := Lib.hid (H121.out.trans (hb.mono H121.out.size))
  clear hb hret hty2
  obtain ⟨W2, hW131⟩ : ∃ W, w2.alloc (.cells #[.int .i64 T.k, .int .i64 T.n, .slice a2 T.ks.length k2] 29) = W := ⟨_, rfl⟩
  have hA131 : Below w2.heap.size w2 W2 := by rw [← hW131]; exact (Below.refl _ _).alloc (Nat.le_refl _) _
  have hZ131 : W2.heap.size = w2.heap.size + 1 := by rw [← hW131]; simp
  have B131n : Hid (TBox W2 w2.heap.size (.int .i64 T.k) (.int .i64 T.n) (.slice a2 T.ks.length k2)) := Lib.hid (by rw [← hW131]; exact tbox_new w2 _ _ _ _)
  have Zb131 := Lib.hid hZ131
  have Z133 := Lib.hid (show w2.heap.size ≤ W2.heap.size from hA131.size)
  have B134 := Lib.hid (B125.out.kept hA131)
  have B135 := Lib.hid (B126.out.kept hA131)
  have T136 := Lib.hid (T127.out.kept hA131)
  have T137 := Lib.hid (T128.out.kept hA131)
  have T138 := Lib.hid (T129.out.kept hA131)
  have T139 := Lib.hid (T2.out.kept hA131)
  have H140 := Lib.hid (H130.out.trans (hA131.mono H130.out.size))
  clear hA131 hZ131
  obtain ⟨bf141, bg141, bh141, bz141⟩ := B135.out
  obtain ⟨bf142, bg142, bh142, bz142⟩ := B131n.out
  go_wp2_with fail
  clear hW131
  go_at_call 16
  refine (typeSame_impl T T 0 _ _ _ HNT.out T138.out T139.out).mono ?_
  rintro e w3 ⟨rfl, hb⟩
  have Z144 := Lib.hid (show W2.heap.size ≤ w3.heap.size from hb.size)
  have B145 := Lib.hid (B134.out.kept hb)
  have B146 := Lib.hid (B135.out.kept hb)
  have B147 := Lib.hid (B131n.out.kept hb)
  have T148 := Lib.hid (T136.out.kept hb)
  have T149 := Lib.hid (T137.out.kept hb)
  have T150 := Lib.hid (T138.out.kept hb)
  have T151 := Lib.hid (T139.out.kept hb)
  have H152 := Lib.hid (H140.out.trans (hb.mono H140.out.size))
  rw [HV3.out]
  clear bf141 bg141 bh141 bz141 bf142 bg142 bh142 bz142
  clear hb
  rcases b with _ | _
  · skip
    obtain ⟨bf153, bg153, bh153, bz153⟩ := B146.out
    obtain ⟨bf154, bg154, bh154, bz154⟩ := B147.out
    go_wp2_with fail
    go_at_call 16
    refine (typeSame_impl T T 0 _ _ _ HNT.out T150.out T151.out).mono ?_
    rintro e w4 ⟨rfl, hb⟩
    have Z156 := Lib.hid (show w3.heap.size ≤ w4.heap.size from hb.size)
    have B157 := Lib.hid (B145.out.kept hb)
    have B158 := Lib.hid (B146.out.kept hb)
    have B159 := Lib.hid (B147.out.kept hb)
    have T160 := Lib.hid (T148.out.kept hb)
    have T161 := Lib.hid (T149.out.kept hb)
    have T162 := Lib.hid (T150.out.kept hb)
    have T163 := Lib.hid (T151.out.kept hb)
    have H164 := Lib.hid (H152.out.trans (hb.mono H152.out.size))
    rw [HV3.out]
    clear bf153 bg153 bh153 bz153 bf154 bg154 bh154 bz154
    clear hb
    go_wp2_with fail
    go_ret
    exact ⟨rfl, H164.out⟩
  have hsv := HSOME.out rfl
  have htv := (Mx.sv_parts hsv).1
  have htX := (Mx.sv_parts hsv).2.1
  have HTVV := Lib.hid htX
  have HNO := Lib.hid (Mx.sv_none htv)
  have HIN : Hid (Mx.instB T t = true) := Lib.hid (Mx.sv_inst hsv)
  have HST : Hid (sameB t t = true) := Lib.hid (sameB_yes rfl)
  have HCL : Hid (varsT t = [] → sameB T t = true) := Lib.hid (fun h => sameB_yes (Mx.sv_closed hsv h))
  obtain ⟨vs, hvs⟩ : ∃ vs, varsT t = vs := ⟨_, rfl⟩
  have HVS := Lib.hid hvs
  clear hsv htv htX hvs
  obtain ⟨w3e, hw3e⟩ : ∃ W, w3.alloc (.cells #[] 29) = W := ⟨_, rfl⟩
  have hA3 : Below w3.heap.size w3 w3e := by rw [← hw3e]; exact (Below.refl _ _).alloc (Nat.le_refl _) _
  have HW3 := Lib.hid hw3e
  clear hw3e
  obtain ⟨bf153, bg153, bh153, bz153⟩ := B145.out
  go_wp2_with fail
  rw [HW3.out]
  have Z155 := Lib.hid (show w3.heap.size ≤ w3e.heap.size from hA3.size)
  have B156 := Lib.hid (B145.out.kept hA3)
  have B157 := Lib.hid (B146.out.kept hA3)
  have B158 := Lib.hid (B147.out.kept hA3)
  have T159 := Lib.hid (T148.out.kept hA3)
  have T160 := Lib.hid (T149.out.kept hA3)
  have T161 := Lib.hid (T150.out.kept hA3)
  have T162 := Lib.hid (T151.out.kept hA3)
  have H163 := Lib.hid (H152.out.trans (hA3.mono H152.out.size))
  clear hA3
  go_at_call 28
  refine (substVars_impl t [] _ _ _ T159.out.at (.bare 0 0 _ _) (some t) HNO.out).mono ?_
  rintro e w4 ⟨v4, rfl, hty4, hb⟩
  obtain ⟨a4, k4, rfl, _⟩ := hty4.at.slice
  have T4 := Lib.hid hty4.ok
  have Z165 := Lib.hid (show w3e.heap.size ≤ w4.heap.size from hb.size)
  have B166 := Lib.hid (B156.out.kept hb)
  have B167 := Lib.hid (B157.out.kept hb)
  have B168 := Lib.hid (B158.out.kept hb)
  have T169 := Lib.hid (T159.out.kept hb)
  have T170 := Lib.hid (T160.out.kept hb)
  have T171 := Lib.hid (T161.out.kept hb)
  have T172 := Lib.hid (T162.out.kept hb)
  have H173 := Lib.hid (H163.out.trans (hb.mono H163.out.size))
  clear hb hty4
  obtain ⟨W4, hW174⟩ : ∃ W, w4.alloc (.cells #[.int .i64 t.k, .int .i64 t.n, .slice a4 t.ks.length k4] 29) = W := ⟨_, rfl⟩
  have hA174 : Below w4.heap.size w4 W4 := by rw [← hW174]; exact (Below.refl _ _).alloc (Nat.le_refl _) _
  have hZ174 : W4.heap.size = w4.heap.size + 1 := by rw [← hW174]; simp
  have B174n : Hid (TBox W4 w4.heap.size (.int .i64 t.k) (.int .i64 t.n) (.slice a4 t.ks.length k4)) := Lib.hid (by rw [← hW174]; exact tbox_new w4 _ _ _ _)
  have Zb174 := Lib.hid hZ174
  have Z176 := Lib.hid (show w4.heap.size ≤ W4.heap.size from hA174.size)
  have B177 := Lib.hid (B166.out.kept hA174)
  have B178 := Lib.hid (B167.out.kept hA174)
  have B179 := Lib.hid (B168.out.kept hA174)
  have T180 := Lib.hid (T169.out.kept hA174)
  have T181 := Lib.hid (T170.out.kept hA174)
  have T182 := Lib.hid (T171.out.kept hA174)
  have T183 := Lib.hid (T172.out.kept hA174)
  have T184 := Lib.hid (T4.out.kept hA174)
  have H185 := Lib.hid (H173.out.trans (hA174.mono H173.out.size))
  clear hA174 hZ174
  obtain ⟨bf186, bg186, bh186, bz186⟩ := B178.out
  obtain ⟨bf187, bg187, bh187, bz187⟩ := B177.out
  obtain ⟨bf188, bg188, bh188, bz188⟩ := B174n.out
  go_wp2_with fail
  clear hW174
  go_at_call 19
  refine (Mx.instanceOf_impl T t _ _ _ HNT.out T182.out T180.out).mono ?_
  rintro e w5 ⟨rfl, hb⟩
  have Z190 := Lib.hid (show W4.heap.size ≤ w5.heap.size from hb.size)
  have B191 := Lib.hid (B177.out.kept hb)
  have B192 := Lib.hid (B178.out.kept hb)
  have B193 := Lib.hid (B179.out.kept hb)
  have B194 := Lib.hid (B174n.out.kept hb)
  have T195 := Lib.hid (T180.out.kept hb)
  have T196 := Lib.hid (T181.out.kept hb)
  have T197 := Lib.hid (T182.out.kept hb)
  have T198 := Lib.hid (T183.out.kept hb)
  have T199 := Lib.hid (T184.out.kept hb)
  have H200 := Lib.hid (H185.out.trans (hb.mono H185.out.size))
  rw [HIN.out]
  clear bf186 bg186 bh186 bz186 bf187 bg187 bh187 bz187 bf188 bg188 bh188 bz188
  clear hb
  obtain ⟨bf201, bg201, bh201, bz201⟩ := B194.out
  obtain ⟨bf202, bg202, bh202, bz202⟩ := B191.out
  go_wp2_with fail
  go_at_call 16
  refine (typeSame_impl t t 0 _ _ _ HNt.out T199.out T195.out).mono ?_
  rintro e w6 ⟨rfl, hb⟩
  have Z204 := Lib.hid (show w5.heap.size ≤ w6.heap.size from hb.size)
  have B205 := Lib.hid (B191.out.kept hb)
  have B206 := Lib.hid (B192.out.kept hb)
  have B207 := Lib.hid (B193.out.kept hb)
  have B208 := Lib.hid (B194.out.kept hb)
  have T209 := Lib.hid (T195.out.kept hb)
  have T210 := Lib.hid (T196.out.kept hb)
  have T211 := Lib.hid (T197.out.kept hb)
  have T212 := Lib.hid (T198.out.kept hb)
  have T213 := Lib.hid (T199.out.kept hb)
  have H214 := Lib.hid (H200.out.trans (hb.mono H200.out.size))
  rw [HST.out]
  clear bf201 bg201 bh201 bz201 bf202 bg202 bh202 bz202
  clear hb
  obtain ⟨bf215, bg215, bh215, bz215⟩ := B205.out
  go_wp2_with fail
  go_at_call 30
  refine (typeVars_impl HVS.out _ _ T209.out.at).mono ?_
  rintro e w7 ⟨lv, rfl, hli, hb⟩
  obtain ⟨la, lcc, rfl⟩ := ints_slice hli
  clear hli
  have Z217 := Lib.hid (show w6.heap.size ≤ w7.heap.size from hb.size)
  have B218 := Lib.hid (B205.out.kept hb)
  have B219 := Lib.hid (B206.out.kept hb)
  have B220 := Lib.hid (B207.out.kept hb)
  have B221 := Lib.hid (B208.out.kept hb)
  have T222 := Lib.hid (T209.out.kept hb)
  have T223 := Lib.hid (T210.out.kept hb)
  have T224 := Lib.hid (T211.out.kept hb)
  have T225 := Lib.hid (T212.out.kept hb)
  have T226 := Lib.hid (T213.out.kept hb)
  have H227 := Lib.hid (H214.out.trans (hb.mono H214.out.size))
  clear bf215 bg215 bh215 bz215
  clear hb
  rcases vs with _ | ⟨n0, vr⟩
  · skip
    have HCL2 := Lib.hid (HCL.out HVS.out)
    obtain ⟨bf228, bg228, bh228, bz228⟩ := B219.out
    obtain ⟨bf229, bg229, bh229, bz229⟩ := B218.out
    go_wp2_with fail
    go_at_call 16
    refine (typeSame_impl T t 0 _ _ _ HNT.out T224.out T222.out).mono ?_
    rintro e w8 ⟨rfl, hb⟩
    have Z231 := Lib.hid (show w7.heap.size ≤ w8.heap.size from hb.size)
    have B232 := Lib.hid (B218.out.kept hb)
    have B233 := Lib.hid (B219.out.kept hb)
    have B234 := Lib.hid (B220.out.kept hb)
    have B235 := Lib.hid (B221.out.kept hb)
    have T236 := Lib.hid (T222.out.kept hb)
    have T237 := Lib.hid (T223.out.kept hb)
    have T238 := Lib.hid (T224.out.kept hb)
    have T239 := Lib.hid (T225.out.kept hb)
    have T240 := Lib.hid (T226.out.kept hb)
    have H241 := Lib.hid (H227.out.trans (hb.mono H227.out.size))
    rw [HCL2.out]
    clear bf228 bg228 bh228 bz228 bf229 bg229 bh229 bz229
    clear hb
    go_wp2_with fail
    go_ret
    exact ⟨rfl, H241.out⟩
  · skip
    have hpos : (0 : Int) < (((n0 :: vr).length : Nat) : Int) := by simp only [List.length_cons]; omega
    go_wp2_with fail
    go_ret
    exact ⟨rfl, H227.out⟩

set_option maxRecDepth 100000 in
theorem lifted (os : Os) (started : os.Started) (H : Type) (enc : TypeId × Value → H) :
    ReturnsInHanded {} Try.checked os 10 .any (Rows.fnSubstVarsSpec.pre6 enc Try.prog Try.f10 Rows.fnSubstVarsRow.domain false) (Rows.fnSubstVarsSpec.post enc Try.prog Try.f10 false true false false) := by
  refine returnsInHanded_of_change (C := Try.checked) own started (by kernel_rfl) Try.func10
    (ChangeSpec.witness6 (enc := enc) (C := Try.checked) false ⟨#[], #[.slice none 0 0], []⟩ 8 (by kernel_rfl) (by kernel_rfl) (by kernel_rfl) (by kernel_rfl)) ?_
  intro W base args ds gs before hval0 hW hcnd _
  have hval : ∀ (j : Nat) t v, Try.f10.params[j]? = some t → args[j]? = some v → Value.okWide Try.prog W .any base t v := hval0
  have hW' := hW
  obtain ⟨p, q, hA0, hV, rfl, hfz, hnd⟩ := hW
  have hA : DataW.TrodAll enc Try.prog W 0 (fun _ => true) true Try.f10.params.toList args.toList ds p := hA0
  rw [Try.params10] at hA hval
  obtain ⟨v0, vs0, d0, ds0, p0, q0, hargs, rfl, rfl, h0, r0⟩ := trodAll_cons hA
  obtain ⟨rfl, rfl, rfl⟩ := trodAll_nil r0
  obtain rfl : args = #[v0] := by cases args; simp_all
  obtain ⟨rfl, rfl⟩ := trodVars_none hV
  have k0 := h0
  have lt0 : ∀ x ∈ p0, x.block < W.heap.size := by obtain ⟨m, hm⟩ := k0; exact DataW.trod_lt m _ _ _ hm
  obtain ⟨a0, len0, cap0, rfl⟩ := okWide_slice Try.underlying35 (hval 0 35 v0 rfl rfl)
  obtain ⟨z0, w0⟩ : ∃ zs, IsRow W a0 len0 cap0 zs := by
    obtain ⟨fuel, hf⟩ := h0
    rcases open_ints Try.underlying35 Try.underlying5 (by kernel_rfl) hf with ⟨hcs, _⟩ | ⟨x, l, c, zs, hcs, _, hl, hm, hz, _, hcell, hwz⟩
    · simp [Value.cells] at hcs
      obtain ⟨rfl, rfl, rfl⟩ := hcs
      exact ⟨[], .inl ⟨rfl, rfl, rfl, rfl⟩⟩
    · simp [Value.cells] at hcs
      obtain ⟨rfl, rfl, rfl⟩ := hcs
      exact ⟨zs, .inr ⟨_, rfl, hl, hm, by simpa using hz, hcell, hwz⟩⟩
  clear hA0 hval0
  refine (walk a0 len0 cap0 z0 W w0).mono fun e W' ⟨he, bel⟩ => ?_
  subst he
  exact ⟨_, rfl, _, _, _, [], _, [], hW', trodAll_mk1 (shut_bool Try.underlying4 _), (trodAll_cons_mk (Below.trod laidOut (by kernel_rfl) (of_decide_eq_true (by kernel_rfl)) k0 bel lt0) trodAll_mk0), rfl, bel.frame _, fun h => by cases h⟩

theorem over : Rows.fnSubstVarsRow.holds Try.pinned (OpenSpec.ofChange Rows.fnSubstVarsSpec) :=
  OpenClaim.holds_of_wide 10 Try.f10 rfl rfl rfl rfl rfl rfl rfl ⟨rfl, rfl, rfl, rfl, rfl⟩ rfl rfl rfl rfl rfl (by kernel_rfl) Try.func10 (by kernel_rfl)
    (of_decide_eq_true (by kernel_rfl)) (by unfold Func.isWrapper; first | (rw [if_pos (by decide +kernel)]; kernel_rfl) | (rw [if_neg (by decide +kernel)]; exact ⟨rfl, rfl⟩))
    (fun os started H enc _ => lifted os started H enc)

/-- The given statement. -/
theorem proved : Rows.FnSubstVarsSaid := over
end Go.Proofs.Ytncpakpamfocbab.fnSubstVars
