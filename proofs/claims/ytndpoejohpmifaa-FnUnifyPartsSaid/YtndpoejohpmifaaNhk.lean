/-
  Maps with keys of a named type of numbers; the union-find over the nodes of a graph of types.
  The graph of types of the program in memory: its nodes, the classes of nodes, the nodes of variables.
  add of the program's graph: a type becomes nodes, equal variables the same one.
  unify of the program's graph: two nodes become one class.
-/
import Derived.Test.YtndpoejohpmifaaGae
import Derived.Test.YtndpoejohpmifaaNac
import Derived.Test.YtndpoejohpmifaaBd
import Derived.Deep.RegionLaw
import Derived.Deep.DeepCutAuto
import Derived.Test.YtndpoejohpmifaaAc
import Derived.Deep.AppendLies
import Derived.Test.YtndpoejohpmifaaAa
import Derived.Test.YtndpoejohpmifaaPce
namespace Go.Proofs.Ytndpoejohpmifaa.Mx
open Go.Proofs.Ytndpoejohpmifaa
open Go.RowKit
set_option linter.unusedVariables false
set_option linter.unusedSimpArgs false

theorem key_runG {kt : TypeId} (hk : Try.prog.underlying kt = some (.int .i64)) (w : World) (x : Int) (es : List MapEntry) (M : List IV) (h : pairs es = vpairs M) : (Instr.findKey kt (ik x) es).run Try.prog w = .ok (fnd x M 0) w :=
  Go.MapKept.run_findKey hk (now_run x es M 0 h)
theorem check_runG {kt : TypeId} (hk : Try.prog.underlying kt = some (.int .i64)) (w : World) (em : Bool) (x : Int) : (Instr.checkKey em 10000 kt (ik x)).run Try.prog w = .ok () w :=
  Go.MapKept.run_checkKey (d := .int .i64) hk (ikey x) em 9999
theorem lookup_runG {mt kt et : TypeId} {z : Value} (hm : Try.prog.underlying mt = some (.map kt et)) (hd : Try.prog.underlying kt = some (.int .i64)) (hz : ∀ w, (zeroValue et).run Try.prog w = .ok z w)
    (w : World) (bm : Nat) (M : List IV) (x : Int) (h : IMap w bm M) : (Instr.lookup mt (.map (some bm)) (ik x) true).run Try.prog w = .ok (.tuple #[(look x M).getD z, .bool (look x M).isSome]) w := by
  obtain ⟨es, clock, h1, h2⟩ := h
  have hk := key_runG hd w x es.toList M h2
  have hc := check_runG hd
  have hfl := fnd_look x M 0
  simp only [Instr.lookup, Sem.run_bind, run_underlying hm, Result.andThen_ok, Go.MapKept.run_getObj_map h1, Sem.run_pure, hc, hk]
  rcases hf : fnd x M 0 with _ | ⟨i, u⟩
  · rw [hf] at hfl
    have hl : look x M = none := hfl.symm
    simp [hl, hz, Result.andThen]
  · rw [hf] at hfl
    have hl : look x M = some u := hfl.symm
    simp [hl]
theorem update_runG {mt kt et : TypeId} (hm : Try.prog.underlying mt = some (.map kt et)) (hd : Try.prog.underlying kt = some (.int .i64))
    (w : World) (bm : Nat) (M : List IV) (x : Int) (v : Value) (h : IMap w bm M) : ∃ w', (Instr.mapUpdate mt (.map (some bm)) (ik x) v).run Try.prog w = .ok () w' ∧ IMap w' bm (upd x v M) ∧ w.grownBy w' (some bm) ∧ w'.heap.size = w.heap.size := by
  obtain ⟨es, clock, h1, h2⟩ := h
  have hk := key_runG hd w x es.toList M h2
  have hc := check_runG hd
  have grown : ∀ (o : Obj), w.grownBy { w with heap := w.heap.setIfInBounds bm o } (some bm) := fun o =>
    ⟨rfl, rfl, rfl, by simp, fun k hk hne => (Go.MapKept.heap_set h1).2 k (fun e => hne (by rw [e]))⟩
  simp only [Instr.mapUpdate, Sem.run_bind, run_underlying hm, Result.andThen_ok, Go.MapKept.run_getObj_map h1, hc, hk]
  rcases hf : fnd x M 0 with _ | ⟨i, u⟩
  · simp only [Go.MapKept.run_setObj_map _ h1]
    refine ⟨_, rfl, ⟨_, _, (Go.MapKept.heap_set h1).1, ?_⟩, grown _, by simp⟩
    rw [fnd_none x v M 0 hf]
    simp only [pairs, vpairs, Array.toList_push, List.map_append, List.map_cons, List.map_nil] at h2 ⊢
    rw [h2]
  · obtain ⟨j, e1, e2, e3, e4⟩ := fnd_some x v M 0 i u hf
    have e1 : i = j := by omega
    subst e1
    have hkey : (((es[i]?).map (·.key)).getD (ik x)) = ik x := by
      have h5 : (pairs es.toList)[i]? = (vpairs M)[i]? := by rw [h2]
      simp only [pairs, vpairs, List.getElem?_map, Array.getElem?_toList] at h5
      rcases hM : M[i]? with _ | q
      · rw [hM] at e3; simp at e3
      · rw [hM] at h5 e3
        simp at e3
        rcases he : es[i]? with _ | e
        · rw [he] at h5; simp at h5
        · rw [he] at h5
          simp at h5
          simp [h5.1, e3]
    simp only [hkey, Sem.run_bind, stays_run, Result.andThen_ok, Go.MapKept.run_setObj_map _ h1]
    refine ⟨_, rfl, ⟨_, _, (Go.MapKept.heap_set h1).1, ?_⟩, grown _, by simp⟩
    rw [e4, Array.toList_modify, pairs_modify, h2]
    simp [vpairs, List.map_set]
theorem zeroN_run (w : World) : (zeroValue 85).run Try.prog w = .ok (.int .i64 0) w := by kernel_rfl
theorem zeroI_run (w : World) : (zeroValue 3).run Try.prog w = .ok (.int .i64 0) w := by kernel_rfl
/-- A look-up among nodes. -/
theorem lookN (w : World) (bm : Nat) (M : List IV) (x : Int) (h : IMap w bm M) : (Instr.lookup 112 (.map (some bm)) (.int .i64 x) true).run Try.prog w = .ok (.tuple #[(look x M).getD (.int .i64 0), .bool (look x M).isSome]) w :=
  lookup_runG Try.underlying112 Try.underlying85 zeroN_run w bm M x h
theorem updN (w : World) (bm : Nat) (M : List IV) (x : Int) (v : Value) (h : IMap w bm M) : ∃ w', (Instr.mapUpdate 112 (.map (some bm)) (.int .i64 x) v).run Try.prog w = .ok () w' ∧ IMap w' bm (upd x v M) ∧ w.grownBy w' (some bm) ∧ w'.heap.size = w.heap.size :=
  update_runG Try.underlying112 Try.underlying85 w bm M x v h
theorem IMap.kept {w w' : World} {bm : Nat} {M : List IV} (h : IMap w bm M) (hb : Below w.heap.size w w') : IMap w' bm M := h.keep (hb.block _ h.lt)

/-- The nodes above nodes lead upward: rep is the leader, dp a depth that grows downward. -/
structure UN (M : List IV) (rep dp : Nat → Nat) : Prop where
  top : ∀ k : Nat, look (k : Int) M = none → rep k = k
  up : ∀ (k : Nat) (v : Value), look (k : Int) M = some v → ∃ p : Nat, v = .int .i64 (p : Int) ∧ rep p = rep k ∧ dp p < dp k
theorem UN.new : UN [] id (fun _ => 0) := ⟨fun _ _ => rfl, fun k v h => by simp [look] at h⟩
theorem UN.halve {M : List IV} {rep dp : Nat → Nat} (h : UN M rep dp) {k p g : Nat} (hk : look (k : Int) M = some (.int .i64 (p : Int))) (hp : look (p : Int) M = some (.int .i64 (g : Int))) : UN (upd (k : Int) (.int .i64 (g : Int)) M) rep dp := by
  obtain ⟨p', e1, a1, a2⟩ := h.up k _ hk
  injection e1 with _ e1
  have e1 : p' = p := by omega
  subst e1
  obtain ⟨g', e2, b1, b2⟩ := h.up p' _ hp
  injection e2 with _ e2
  have e2 : g' = g := by omega
  subst e2
  refine ⟨fun x hx => ?_, fun x y hx => ?_⟩
  · rw [look_upd] at hx
    split at hx
    · cases hx
    · exact h.top x hx
  · rw [look_upd] at hx
    split at hx
    · rename_i e
      injection hx with hx
      have e : x = k := by omega
      subst e
      exact ⟨g', hx.symm, b1.trans a1, by omega⟩
    · exact h.up x y hx
theorem UN.lead {M : List IV} {rep dp : Nat → Nat} (h : UN M rep dp) : ∀ (n k : Nat), dp k < n → look ((rep k : Nat) : Int) M = none := by
  intro n
  induction n with
  | zero => intro k hk; omega
  | succ n ih =>
    intro k hk
    rcases hl : look (k : Int) M with _ | v
    · rw [h.top k hl]; exact hl
    · obtain ⟨p, _, a1, a2⟩ := h.up k v hl
      rw [← a1]; exact ih p (by omega)
theorem UN.rep_rep {M : List IV} {rep dp : Nat → Nat} (h : UN M rep dp) (k : Nat) : look ((rep k : Nat) : Int) M = none ∧ rep (rep k) = rep k := by
  have h1 := h.lead (dp k + 1) k (Nat.lt_succ_self _)
  exact ⟨h1, h.top _ h1⟩
theorem UN.join {M : List IV} {rep dp : Nat → Nat} (h : UN M rep dp) {a b : Nat} (hne : rep a ≠ rep b) : UN (upd ((rep a : Nat) : Int) (.int .i64 ((rep b : Nat) : Int)) M) (repU rep (rep a) (rep b)) (fun k => if rep k = rep a then dp k + dp (rep b) + 1 else dp k) := by
  obtain ⟨a1, a2⟩ := h.rep_rep a
  obtain ⟨b1, b2⟩ := h.rep_rep b
  refine ⟨fun k hk => ?_, fun k v hk => ?_⟩
  · rw [look_upd] at hk
    split at hk
    · cases hk
    · rename_i hka
      have e := h.top k hk
      unfold repU
      rw [e, if_neg (fun e2 => hka (by rw [e2]))]
  · rw [look_upd] at hk
    split at hk
    · rename_i hka
      injection hk with hk
      have hka : k = rep a := by omega
      subst hka
      refine ⟨rep b, hk.symm, ?_, ?_⟩
      · unfold repU; simp only [a2, b2, if_true, if_neg (Ne.symm hne)]
      · simp only [a2, b2, if_true, if_neg (Ne.symm hne)]; omega
    · obtain ⟨p, e0, e1, e2⟩ := h.up k v hk
      refine ⟨p, e0, ?_, ?_⟩
      · unfold repU; simp only [e1]
      · simp only [e1]; split <;> omega

set_option maxRecDepth 100000 in
set_option maxHeartbeats 4000000 in
theorem leaderN_any (bm : Nat) (M0 : List IV) (rep dp : Nat → Nat) (k0 : Nat) (w : World) (hm : IMap w bm M0) (hf : UN M0 rep dp) :
    Calls Try.prog 96 #[.agg #[.map (some bm)], .int .i64 (k0 : Int)] w fun e w' => e = .returned (.int .i64 ((rep k0 : Nat) : Int)) ∧ Inside bm (bm + 1) w w' ∧ ∃ M, IMap w' bm M ∧ UN M rep dp := by
  obtain ⟨S, hS⟩ : ∃ S, w.heap.size = S := ⟨_, rfl⟩
  have hbm : bm < S := by rw [← hS]; exact hm.lt
  obtain ⟨W1, hW1⟩ : ∃ W1, w.alloc (.cells #[.map (some bm)] 114) = W1 := ⟨_, rfl⟩
  have hB1 : Below w.heap.size w W1 := by rw [← hW1]; exact (Below.refl _ _).alloc (Nat.le_refl _) _
  have HM1 := Lib.hid (hm.kept hB1)
  have HF1 := Lib.hid hf
  have HC1 : Hid (W1.cell? ⟨S, 0, none⟩ = some (.map (some bm))) := Lib.hid (by rw [← hW1, ← hS]; exact cell_fresh' w _ _)
  have HI1 : Hid (Inside bm (bm + 1) w W1) := Lib.hid (in_below hB1)
  have hz1 : S < W1.heap.size := by rw [← hW1, ← hS]; simp
  have HW1 := Lib.hid hW1
  have HS := Lib.hid hS
  clear hm hf hB1 hW1
  go_enter Try.func96, Try.ntmps96
  go_wp2_with fail
  rw [HW1.out]
  try rw [HS.out]
  clear hS
  go_loopw [1] (fun kv wr => ∃ (k : Nat) (M : List IV), kv = .int .i64 (k : Int) ∧ Hid (IMap wr bm M) ∧ Hid (UN M rep dp) ∧ Hid (rep k = rep k0) ∧ Hid (wr.cell? ⟨S, 0, none⟩ = some (.map (some bm))) ∧ Hid (Inside bm (bm + 1) w wr) ∧ S < wr.heap.size) (fun kv _ => dp (intOf kv).toNat)
  case atStart => exact ⟨k0, M0, rfl, HM1, HF1, Lib.hid rfl, HC1, HI1, hz1⟩
  case round =>
    obtain ⟨k, M, rfl, him, hun, hrep, hc, hin, hz⟩ := hrel
    have c0 := hc.out
    rcases hl : look (k : Int) M with _ | v
    · have L1 : (Instr.lookup 112 (.map (some bm)) (.int .i64 (k : Int)) true).run Try.prog wr = .ok (.tuple #[.int .i64 0, .bool false]) wr := by
        have h := lookN wr bm M k him.out; rw [hl] at h; exact h
      have HT : Hid (rep k = k) := Lib.hid (hun.out.top k hl)
      clear hl
      go_wp2_with fail
      go_ret
      exact ⟨congrArg (fun n : Nat => Ending.returned (.int .i64 (n : Int))) (HT.out.symm.trans hrep.out), hin.out, M, him.out, hun.out⟩
    · obtain ⟨p, rfl, hp1, hp2⟩ := hun.out.up k v hl
      have L1 : (Instr.lookup 112 (.map (some bm)) (.int .i64 (k : Int)) true).run Try.prog wr = .ok (.tuple #[.int .i64 (p : Int), .bool true]) wr := by
        have h := lookN wr bm M k him.out; rw [hl] at h; exact h
      have HP1 := Lib.hid hp1
      have HP2 := Lib.hid hp2
      clear hp1 hp2
      rcases hl2 : look (p : Int) M with _ | v2
      · have L2 : (Instr.lookup 112 (.map (some bm)) (.int .i64 (p : Int)) true).run Try.prog wr = .ok (.tuple #[.int .i64 0, .bool false]) wr := by
          have h := lookN wr bm M p him.out; rw [hl2] at h; exact h
        clear hl hl2
        go_wp2_with fail
        go_roundw
        case rel => exact ⟨p, M, rfl, him, hun, Lib.hid (HP1.out.trans hrep.out), hc, hin, hz⟩
        case measure => have := HP2.out; simpa [intOf] using this
      · obtain ⟨g, rfl, hg1, hg2⟩ := hun.out.up p v2 hl2
        have L2 : (Instr.lookup 112 (.map (some bm)) (.int .i64 (p : Int)) true).run Try.prog wr = .ok (.tuple #[.int .i64 (g : Int), .bool true]) wr := by
          have h := lookN wr bm M p him.out; rw [hl2] at h; exact h
        have HH := Lib.hid (hun.out.halve hl hl2)
        obtain ⟨w3, L3, him3, hgr3, hz3⟩ := updN wr bm M k (.int .i64 (g : Int)) him.out
        have HM3 := Lib.hid him3
        have hI3 : Inside bm (bm + 1) wr w3 := ⟨hgr3.os, hgr3.tape, hgr3.output, hgr3.size, fun b hb hx => hgr3.block b hb (fun e => by injection e; omega)⟩
        have HC3 : Hid (w3.cell? ⟨S, 0, none⟩ = some (.map (some bm))) := Lib.hid ((cellEq (hI3.block S hz (.inr (by omega)))).trans hc.out)
        have HI3 := Lib.hid (hin.out.trans hI3)
        have HZ3 : Hid (S < w3.heap.size) := Lib.hid (Nat.lt_of_lt_of_le hz hI3.size)
        clear hl hl2 him3 hgr3 hz3 hI3 hg1 hg2
        go_wp2_with fail
        go_roundw
        case rel => exact ⟨p, _, rfl, HM3, HH, Lib.hid (HP1.out.trans hrep.out), HC3, HI3, HZ3.out⟩
        case measure => have := HP2.out; simpa [intOf] using this

theorem newUN_any (w : World) : Calls Try.prog 94 #[] w fun e w' => e = .returned (.agg #[.map (some (w.heap.size + 1))]) ∧ IMap w' (w.heap.size + 1) [] ∧ Below w.heap.size w w' ∧ w'.heap.size = w.heap.size + 2 := by
  have hmm := @run_makeMap Try.prog
  obtain ⟨W1, hW1⟩ : ∃ W1, w.alloc (.cells #[.map (some (w.heap.size + 1))] 114) = W1 := ⟨_, rfl⟩
  have hz : W1.heap.size = w.heap.size + 1 := by rw [← hW1]; simp
  have hu : IMap ((w.alloc (.cells #[.map (some (w.heap.size + 1))] 114)).alloc (.map #[] 0)) (w.heap.size + 1) [] := by
    rw [hW1, ← hz]; exact imap_new W1
  have HU := Lib.hid hu
  clear hu hW1 hz
  go_enter Try.func94, Try.ntmps94
  go_wp2_with fail
  exact bodyPost_ret (v := .agg #[.map (some (w.heap.size + 1))]) (by simp [results, Try.results94, go_sem]) rfl ⟨rfl, HU.out, ((Below.refl _ _).alloc (Nat.le_refl _) _).alloc (by simp) _, by simp⟩

set_option maxRecDepth 100000 in
set_option maxHeartbeats 8000000 in
theorem joinN_any (bm : Nat) (M0 : List IV) (rep dp : Nat → Nat) (a b : Nat) (w : World) (hm : IMap w bm M0) (hf : UN M0 rep dp) :
    Calls Try.prog 97 #[.agg #[.map (some bm)], .int .i64 (a : Int), .int .i64 (b : Int)] w fun e w' => Inside bm (bm + 1) w w' ∧ ((rep a = rep b ∧ e = .returned (.bool false) ∧ ∃ M, IMap w' bm M ∧ UN M rep dp) ∨ (rep a ≠ rep b ∧ e = .returned (.bool true) ∧ ∃ M dp', IMap w' bm M ∧ UN M (repU rep (rep a) (rep b)) dp')) := by
  obtain ⟨S, hS⟩ : ∃ S, w.heap.size = S := ⟨_, rfl⟩
  have hbm : bm < S := by rw [← hS]; exact hm.lt
  obtain ⟨W1, hW1⟩ : ∃ W1, w.alloc (.cells #[.map (some bm)] 114) = W1 := ⟨_, rfl⟩
  have hB1 : Below w.heap.size w W1 := by rw [← hW1]; exact (Below.refl _ _).alloc (Nat.le_refl _) _
  have HM1 := Lib.hid (hm.kept hB1)
  have HF1 := Lib.hid hf
  have c1 : W1.cell? ⟨S, 0, none⟩ = some (.map (some bm)) := by rw [← hW1, ← hS]; exact cell_fresh' w _ _
  have HI1 : Hid (Inside bm (bm + 1) w W1) := Lib.hid (in_below hB1)
  have hz1 : S < W1.heap.size := by rw [← hW1, ← hS]; simp
  have HW1 := Lib.hid hW1
  have HS := Lib.hid hS
  clear hm hf hB1 hW1
  go_enter Try.func97, Try.ntmps97
  go_wp2_with fail
  rw [HW1.out]
  try rw [HS.out]
  clear hS
  go_region_held3 (fun w' => w'.cell? ⟨S, 0, none⟩ = some (.map (some bm))) (go_keep)
    (first
      | (go_at_call 96; have hgd := HM2; clear hgd; refine (leaderN_any bm M2 rep dp b _ (by first | exact HM2.out | exact HM2.out.kept (Below.refl _ _).drew) HF2.out).mono ?_; rintro e w3 ⟨rfl, hin3, M3, hm3, hf3⟩; have hin3' : Inside bm (bm + 1) w2 w3 := (in_below (lo := bm) (hi := bm + 1) (w := w2) (by first | exact Below.refl _ _ | exact (Below.refl _ _).drew)).trans hin3; have HM3 := Lib.hid hm3; have HF3 := Lib.hid hf3; have HI3 := Lib.hid (HI2.out.trans hin3'); have c3 := (cellEq (i := 0) (hin3'.block S hz2 (.inr (by omega)))).trans c2; have hz3 : S < w3.heap.size := Nat.lt_of_lt_of_le hz2 hin3'.size; clear hin3 hin3' hm3 hf3)
      | (go_at_call 96; refine (leaderN_any bm M0 rep dp a _ (by first | exact HM1.out | exact HM1.out.kept (Below.refl _ _).drew) HF1.out).mono ?_; rintro e w2 ⟨rfl, hin2, M2, hm2, hf2⟩; have hin2' : Inside bm (bm + 1) W1 w2 := (in_below (lo := bm) (hi := bm + 1) (w := W1) (by first | exact Below.refl _ _ | exact (Below.refl _ _).drew)).trans hin2; have HM2 := Lib.hid hm2; have HF2 := Lib.hid hf2; have HI2 := Lib.hid (HI1.out.trans hin2'); have c2 := (cellEq (i := 0) (hin2'.block S hz1 (.inr (by omega)))).trans c1; have hz2 : S < w2.heap.size := Nat.lt_of_lt_of_le hz1 hin2'.size; clear hin2 hin2' hm2 hf2))
  all_goals
    by_cases heq : rep a = rep b
    · have hbb : (((rep a : Nat) : Int) == ((rep b : Nat) : Int)) = true := by rw [heq]; simp
      have HEQ := Lib.hid heq
      clear heq
      go_wp2_with fail
      go_ret
      exact ⟨HI3.out, .inl ⟨HEQ.out, rfl, M3, HM3.out, HF3.out⟩⟩
    · have hbb : (((rep a : Nat) : Int) == ((rep b : Nat) : Int)) = false := by rw [beq_eq_false_iff_ne]; omega
      obtain ⟨w4, L4, him4, hgr4, hz4⟩ := updN w3 bm M3 ((rep a : Nat) : Int) (.int .i64 ((rep b : Nat) : Int)) HM3.out
      have HM4 := Lib.hid him4
      have HI4 : Hid (Inside bm (bm + 1) w w4) := Lib.hid (HI3.out.trans ⟨hgr4.os, hgr4.tape, hgr4.output, hgr4.size, fun b hb hx => hgr4.block b hb (fun e => by injection e; omega)⟩)
      have HF4 := Lib.hid (HF3.out.join heq)
      have HEQ := Lib.hid heq
      clear heq him4 hgr4 hz4
      go_wp2_with fail
      go_ret
      exact ⟨HI4.out, .inr ⟨HEQ.out, rfl, _, _, HM4.out, HF4.out⟩⟩

end Go.Proofs.Ytndpoejohpmifaa.Mx

namespace Go.Proofs.Ytndpoejohpmifaa.Mx
open Go.Proofs.Ytndpoejohpmifaa
open Go.RowKit
set_option linter.unusedVariables false
set_option linter.unusedSimpArgs false

theorem own_one {w w' : World} {n0 sz n : Nat} {e : TypeId} {v : Value} {xs : List Value} (h : w.ownsRow n0 e sz v n xs) (hk : ∀ g, v.ownBlock = some g → w'.heap[g]? = w.heap[g]?) : w'.ownsRow n0 e sz v n xs := by
  obtain ⟨hl, h | ⟨g, cap, cur, rfl, hb', ho, h1, h2, h3, h4⟩⟩ := h
  · exact ⟨hl, .inl h⟩
  · exact ⟨hl, .inr ⟨g, cap, cur, rfl, hb', (hk g rfl).trans ho, h1, h2, h3, h4⟩⟩
/-- A node's shape as a value. -/
def shV : Sh → Value
  | .num => .iface 122 (.agg #[])
  | .var => .iface 124 (.agg #[])
  | .join k l r => .iface 126 (.agg #[.int .i64 k, .int .i64 (l : Int), .int .i64 (r : Int)])
def shL (sh : Nat → Sh) (M : Nat) : List Value := (List.range M).map fun i => shV (sh i)
theorem shL_len (sh : Nat → Sh) (M : Nat) : (shL sh M).length = M := by simp [shL]
theorem shL_get (sh : Nat → Sh) (M n : Nat) (h : n < M) : (shL sh M)[n]? = some (shV (sh n)) := by simp [shL, h]
/-- One more node. -/
def shP (sh : Nat → Sh) (M : Nat) (s : Sh) : Nat → Sh := fun n => if n = M then s else sh n
theorem shP_new (sh : Nat → Sh) (M : Nat) (s : Sh) : shP sh M s M = s := by unfold shP; rw [if_pos rfl]
theorem shP_old (sh : Nat → Sh) {M n : Nat} (s : Sh) (h : n < M) : shP sh M s n = sh n := by unfold shP; rw [if_neg (by omega)]
theorem shL_push (sh : Nat → Sh) (M : Nat) (s : Sh) : shL (shP sh M s) (M + 1) = shL sh M ++ [shV s] := by
  unfold shL
  rw [List.range_succ, List.map_append]
  congr 1
  · apply List.map_congr_left
    intro i hi
    rw [shP_old sh s (List.mem_range.1 hi)]
  · simp [shP_new]
/-- The map has the nodes of variables. -/
def VR (MV : List IV) (vm : Int → Option Nat) : Prop := ∀ v : Int, look v MV = (vm v).map fun m => .int .i64 (m : Int)
/-- The graph in memory: in block gb, its classes in the map am, the nodes of variables in the map vb, the shapes in the row sv. -/
structure GM (w : World) (n0 gb am vb M : Nat) (sh : Nat → Sh) (rep dp : Nat → Nat) (vm : Int → Option Nat) (sv : Value) (MA MV : List IV) : Prop where
  c0 : w.cell? ⟨gb, 0, none⟩ = some sv
  c1 : w.cell? ⟨gb, 1, none⟩ = some (.map (some am))
  c2 : w.cell? ⟨gb, 2, none⟩ = some (.map (some vb))
  f0 : w.frozen? ⟨gb, 0, none⟩ = false
  gl : gb < w.heap.size
  own : w.ownsRow n0 130 1 sv M (shL sh M)
  ma : IMap w am MA
  un : UN MA rep dp
  mv : IMap w vb MV
  vr : VR MV vm
  lo : n0 ≤ gb ∧ n0 ≤ am ∧ n0 ≤ vb
  d1 : am ≠ gb ∧ vb ≠ gb ∧ vb ≠ am
  d2 : ∀ g, sv.ownBlock = some g → g ≠ gb ∧ g ≠ am ∧ g ≠ vb
/-- Only the graph's blocks have changed; its row is the one that it was, or a new one. -/
structure GK (gb am vb : Nat) (sv : Value) (w w' : World) (sv' : Value) : Prop where
  os : w'.os = w.os
  tape : w'.tape = w.tape
  output : w'.output = w.output
  size : w.heap.size ≤ w'.heap.size
  block : ∀ b, b < w.heap.size → b ≠ gb → b ≠ am → b ≠ vb → sv.ownBlock ≠ some b → w'.heap[b]? = w.heap[b]?
  row : ∀ g, sv'.ownBlock = some g → sv.ownBlock = some g ∨ w.heap.size ≤ g
theorem GK.refl (gb am vb : Nat) (sv : Value) (w : World) : GK gb am vb sv w w sv := ⟨rfl, rfl, rfl, Nat.le_refl _, fun _ _ _ _ _ _ => rfl, fun g h => .inl h⟩
theorem GK.trans {gb am vb : Nat} {s1 s2 s3 : Value} {a b c : World} (h : GK gb am vb s1 a b s2) (k : GK gb am vb s2 b c s3) : GK gb am vb s1 a c s3 where
  os := k.os.trans h.os
  tape := k.tape.trans h.tape
  output := k.output.trans h.output
  size := Nat.le_trans h.size k.size
  block := fun x hx h1 h2 h3 h4 => (k.block x (Nat.lt_of_lt_of_le hx h.size) h1 h2 h3 (fun e => by
    rcases h.row x e with e2 | e2
    · exact h4 e2
    · omega)).trans (h.block x hx h1 h2 h3 h4)
  row := fun g e => by
    rcases k.row g e with e2 | e2
    · exact h.row g e2
    · exact .inr (Nat.le_trans h.size e2)
theorem GK.below {gb am vb : Nat} {sv : Value} {w w' : World} (hb : Below w.heap.size w w') : GK gb am vb sv w w' sv := ⟨hb.os, hb.tape, hb.output, hb.size, fun b h _ _ _ _ => hb.block b h, fun g h => .inl h⟩
theorem GK.inside {gb am vb : Nat} {sv : Value} {w w' : World} (hi : Inside am (am + 1) w w') : GK gb am vb sv w w' sv := ⟨hi.os, hi.tape, hi.output, hi.size, fun b h _ h2 _ _ => hi.block b h (by omega), fun g h => .inl h⟩
/-- What lies below the graph stays. -/
theorem GK.low {w w' : World} {n0 gb am vb M : Nat} {sh : Nat → Sh} {rep dp : Nat → Nat} {vm : Int → Option Nat} {sv sv' : Value} {MA MV : List IV} (hg : GM w n0 gb am vb M sh rep dp vm sv MA MV) (hk : GK gb am vb sv w w' sv') (hn : n0 ≤ w.heap.size) : Below n0 w w' :=
  ⟨hk.os, hk.tape, hk.output, hk.size, fun b h => by
    obtain ⟨h1, h2, h3⟩ := hg.lo
    exact hk.block b (by omega) (by omega) (by omega) (by omega) (fun e => by have := (own_low hg.own e).1; omega)⟩
theorem GM.kept {w w' : World} {n0 gb am vb M : Nat} {sh : Nat → Sh} {rep dp : Nat → Nat} {vm : Int → Option Nat} {sv : Value} {MA MV : List IV} (hg : GM w n0 gb am vb M sh rep dp vm sv MA MV) (hb : Below w.heap.size w w') : GM w' n0 gb am vb M sh rep dp vm sv MA MV :=
  ⟨(hb.cell (p := ⟨gb, 0, none⟩) hg.gl).trans hg.c0, (hb.cell (p := ⟨gb, 1, none⟩) hg.gl).trans hg.c1, (hb.cell (p := ⟨gb, 2, none⟩) hg.gl).trans hg.c2, (hb.frozen (p := ⟨gb, 0, none⟩) hg.gl).trans hg.f0, Nat.lt_of_lt_of_le hg.gl hb.size, own_below hg.own hb, hg.ma.kept hb, hg.un, hg.mv.kept hb, hg.vr, hg.lo, hg.d1, hg.d2⟩
/-- A change of the classes alone. -/
theorem GM.classes {w w' : World} {n0 gb am vb M : Nat} {sh : Nat → Sh} {rep dp : Nat → Nat} {vm : Int → Option Nat} {sv : Value} {MA MV : List IV} (hg : GM w n0 gb am vb M sh rep dp vm sv MA MV) (hi : Inside am (am + 1) w w') {MA' : List IV} {rep' dp' : Nat → Nat} (hm : IMap w' am MA') (hu : UN MA' rep' dp') : GM w' n0 gb am vb M sh rep' dp' vm sv MA' MV := by
  obtain ⟨d1, d2, d3⟩ := hg.d1
  have eg := hi.block gb hg.gl (by omega)
  refine ⟨(cellEq eg).trans hg.c0, (cellEq eg).trans hg.c1, (cellEq eg).trans hg.c2, (frozenEq eg).trans hg.f0, Nat.lt_of_lt_of_le hg.gl hi.size, own_one hg.own (fun g e => hi.block g (own_low hg.own e).2 (by have := (hg.d2 g e).2.1; omega)), hm, hu, hg.mv.keep (hi.block vb hg.mv.lt (by omega)), hg.vr, hg.lo, hg.d1, hg.d2⟩
theorem infoShape : (Try.prog.info? 130).map (fun i => (i.zero, i.size, i.bytes)) = some (some .nilIface, 1, 16) := by kernel_rfl

set_option maxRecDepth 100000 in
set_option maxHeartbeats 4000000 in
theorem newGraph_any (w : World) : Calls Try.prog 61 #[] w fun e w' => ∃ gb am vb, e = .returned (.pointer (some ⟨gb, 0, none⟩)) ∧ GM w' w.heap.size gb am vb 0 (fun _ => .num) id (fun _ => 0) (fun _ => none) (.slice none 0 0) [] [] ∧ Below w.heap.size w w' := by
  have hmm := @run_makeMap Try.prog
  go_enter Try.func61, Try.ntmps61
  go_wp2_with fail
  go_at_call 94
  refine (newUN_any w).mono ?_
  rintro e w1 ⟨rfl, him, hb1, hz1⟩
  have HM := Lib.hid him
  have HB := Lib.hid hb1
  have HZ := Lib.hid hz1
  obtain ⟨W2, hW2⟩ : ∃ W, w1.alloc (.map #[] 0) = W := ⟨_, rfl⟩
  obtain ⟨W3, hW3⟩ : ∃ W, W2.alloc (.cells #[.slice none 0 0, .map (some (w.heap.size + 1)), .map (some w1.heap.size)] 119) = W := ⟨_, rfl⟩
  have hb2 : Below w1.heap.size w1 W2 := by rw [← hW2]; exact (Below.refl _ _).alloc (Nat.le_refl _) _
  have hb3 : Below W2.heap.size W2 W3 := by rw [← hW3]; exact (Below.refl _ _).alloc (Nat.le_refl _) _
  have hz2 : W2.heap.size = w1.heap.size + 1 := by rw [← hW2]; simp
  have hG : Hid (GM W3 w.heap.size (w1.heap.size + 1) (w.heap.size + 1) w1.heap.size 0 (fun _ => .num) id (fun _ => 0) (fun _ => none) (.slice none 0 0) [] []) := Lib.hid (by
    have hz := HZ.out
    refine ⟨?_, ?_, ?_, ?_, ?_, ?_, (HM.out.kept hb2).kept hb3, UN.new, ?_, fun v => rfl, ⟨by omega, by omega, by omega⟩, ⟨by omega, by omega, by omega⟩, fun g e => by (cases e)⟩
    · rw [← hW3, ← hz2]; go_simp
    · rw [← hW3, ← hz2]; go_simp
    · rw [← hW3, ← hz2]; go_simp
    · rw [← hW3, ← hz2]; go_simp
    · rw [← hW3]; simp [hz2]
    · exact World.ownsRow_nil _ _ _ _
    · have h := imap_new w1
      rw [hW2] at h
      exact h.kept hb3)
  have HBB : Hid (Below w.heap.size w W3) := Lib.hid ((HB.out.trans (hb2.mono HB.out.size)).trans (hb3.mono (by have := HB.out.size; omega)))
  have HW2 := Lib.hid hW2
  have HW3 := Lib.hid hW3
  clear him hb1 hz1 hb2 hb3 hW2 hW3
  go_wp2_with fail
  rw [HW2.out, HW3.out]
  go_ret
  exact ⟨w1.heap.size + 1, w.heap.size + 1, w1.heap.size, rfl, hG.out, HBB.out⟩
/-- The graph behind one more node. -/
theorem GM.push {w w3 : World} {n0 gb am vb M : Nat} {sh : Nat → Sh} {rep dp : Nat → Nat} {vm : Int → Option Nat} {sv : Value} {MA MV : List IV} (hg : GM w n0 gb am vb M sh rep dp vm sv MA MV) (s : Sh) {o : Obj} {g cap : Nat}
    (hown : w3.ownsRow n0 130 1 (.slice (some ⟨g, 0, none⟩) (M + 1) cap) (M + 1) (shL sh M ++ [shV s])) (hgrow : (w.alloc o).grownBy w3 sv.ownBlock) (hat : sv.ownBlock = some g ∨ g = w.heap.size + 1) :
    GM (w3.setCell ⟨gb, 0, none⟩ (.slice (some ⟨g, 0, none⟩) (M + 1) cap)) n0 gb am vb (M + 1) (shP sh M s) rep dp vm (.slice (some ⟨g, 0, none⟩) (M + 1) cap) MA MV ∧ GK gb am vb sv w (w3.setCell ⟨gb, 0, none⟩ (.slice (some ⟨g, 0, none⟩) (M + 1) cap)) (.slice (some ⟨g, 0, none⟩) (M + 1) cap) := by
  obtain ⟨d1, d2, d3⟩ := hg.d1
  have hs3 := grow_size hgrow
  have hgl := hg.gl
  have hal := hg.ma.lt
  have hvl := hg.mv.lt
  have old : ∀ q, q < w.heap.size → sv.ownBlock ≠ some q → w3.heap[q]? = w.heap[q]? := fun q h1 h2 => grow_old hgrow h1 (fun g e e2 => h2 (by rw [e, e2]))
  have eg := old gb hgl (fun e => (hg.d2 gb e).1 rfl)
  have hgn : g ≠ gb ∧ g ≠ am ∧ g ≠ vb := by
    rcases hat with e | e
    · exact hg.d2 g e
    · omega
  have set : ∀ q, q ≠ gb → (w3.setCell ⟨gb, 0, none⟩ (.slice (some ⟨g, 0, none⟩) (M + 1) cap)).heap[q]? = w3.heap[q]? := fun q h => heap_setCell_other _ ⟨gb, 0, none⟩ q _ h
  have k0 := (cellEq (i := 0) eg).trans hg.c0
  have k1 := (cellEq (i := 1) eg).trans hg.c1
  have k2 := (cellEq (i := 2) eg).trans hg.c2
  constructor
  · refine ⟨World.cell?_setCell_same' _ _ _ (by rw [k0]; rfl), ?_, ?_, ?_, by simp; omega, ?_, hg.ma.keep ((set am d1).trans (old am hal (fun e => (hg.d2 am e).2.1 rfl))), hg.un, hg.mv.keep ((set vb d2).trans (old vb hvl (fun e => (hg.d2 vb e).2.2 rfl))), hg.vr, hg.lo, hg.d1, fun q e => ?_⟩
    · rw [World.cell?_setCell_other _ _ _ _ (fun e => by injection e with _ e2 _; omega)]; exact k1
    · rw [World.cell?_setCell_other _ _ _ _ (fun e => by injection e with _ e2 _; omega)]; exact k2
    · rw [World.frozen?_setCell]; exact (frozenEq eg).trans hg.f0
    · rw [shL_push]
      exact own_one hown (fun q e => set q (fun e2 => by
        have e : g = q := by simpa [Value.ownBlock] using e
        omega))
    · have e : g = q := by simpa [Value.ownBlock] using e
      subst e
      exact hgn
  · refine ⟨hgrow.os, hgrow.tape, hgrow.output, by simp; omega, fun q h1 h2 h3 h4 h5 => (set q h2).trans (old q h1 h5), fun q e => ?_⟩
    have e : g = q := by simpa [Value.ownBlock] using e
    subst e
    rcases hat with e | e
    · exact .inl e
    · exact .inr (by omega)
set_option maxRecDepth 100000 in
set_option maxHeartbeats 4000000 in
theorem addShape_any (n0 gb am vb M : Nat) (sh : Nat → Sh) (rep dp : Nat → Nat) (vm : Int → Option Nat) (sv : Value) (MA MV : List IV) (s : Sh) (w : World) (hg : GM w n0 gb am vb M sh rep dp vm sv MA MV) (hM : M ≤ 1000000) (hn : n0 ≤ w.heap.size) :
    Calls Try.prog 95 #[.pointer (some ⟨gb, 0, none⟩), shV s] w fun e w' => ∃ sv', e = .returned (.int .i64 (M : Int)) ∧ GM w' n0 gb am vb (M + 1) (shP sh M s) rep dp vm sv' MA MV ∧ GK gb am vb sv w w' sv' := by
  obtain ⟨i0, hi0, hz0, hz1, hz2⟩ := info_parts infoShape
  have HG := Lib.hid hg
  have HN := Lib.hid hn
  obtain ⟨T, u, hx⟩ : ∃ T u, shV s = .iface T u := by cases s <;> exact ⟨_, _, rfl⟩
  have HX := Lib.hid hx
  have c0 := hg.c0
  have f0 := hg.f0
  have h63 : M + 1 ≤ maxLen := by unfold maxLen; omega
  have hby : (M + 1) * 16 ≤ 140737488355328 := by omega
  rw [hx]
  clear hg hn hx
  go_enter Try.func95, Try.ntmps95
  have hbase : ∀ o, n0 ≤ (w.alloc o).heap.size := fun o => by have := HN.out; simp; omega
  go_wp2_with (first | (at_builtin; refine wpList_append_lies _ rfl _ _ 117 rfl n0 130 i0 _ 1 16 Try.underlying117 hi0 hz0 hz1 hz2 rfl (by omega) sv M (shL sh M) rfl (HG.out.kept ((Below.refl _ _).alloc (Nat.le_refl _) _)).own ⟨w.heap.size, 0, none⟩ 1 1 [.iface T u] rfl (by rfl) (World.news_of_block (cs := #[.iface T u]) (t := 130) (fr := (0, 0)) (heap_alloc_new w _)) (by simp [Value.oneCell']) (by omega) h63 hby (hbase _) (w.heap.size + 1) (by simp) ?_; intro g cap3 w3 hown3 hgrow hat hltg; have hpush := HG.out.push s (by rw [HX.out]; exact hown3) hgrow hat; have HP := Lib.hid hpush; have hO := grow_old hgrow (q := gb) HG.out.gl (fun q e e2 => by subst e2; exact (HG.out.d2 gb e).1 rfl); have q0 := (cellEq (i := 0) hO).trans c0; have qf0 := (frozenEq (i := 0) hO).trans f0; clear hown3 hgrow hat hltg hpush hO) | fail)
  go_ret
  exact ⟨_, rfl, HP.out.1, HP.out.2⟩

end Go.Proofs.Ytndpoejohpmifaa.Mx

namespace Go.Proofs.Ytndpoejohpmifaa.Mx
open Go.Proofs.Ytndpoejohpmifaa
open Go.RowKit
set_option linter.unusedVariables false
set_option linter.unusedSimpArgs false

theorem _root_.Go.Proofs.Ytndpoejohpmifaa.GAdd.push {M : Nat} {sh : Nat → Sh} {vm : Int → Option Nat} (h : GAdd M sh vm) (s : Sh) (hs : ∀ k l r, s = .join k l r → (k = 2 ∨ k = 3) ∧ l < M ∧ r < M) : GAdd (M + 1) (shP sh M s) vm where
  kid := fun n k l r hn e => by
    by_cases hx : n = M
    · subst hx; rw [shP_new] at e; exact hs k l r e
    · rw [shP_old sh s (by omega)] at e; exact h.kid n k l r (by omega) e
  vlt := fun v m e => by
    obtain ⟨h1, h2⟩ := h.vlt v m e
    exact ⟨by omega, by rw [shP_old sh s h1]; exact h2⟩
  inj := h.inj
/-- One more variable has a node. -/
def vmP (vm : Int → Option Nat) (v : Int) (m : Nat) : Int → Option Nat := fun x => if x = v then some m else vm x
theorem _root_.Go.Proofs.Ytndpoejohpmifaa.GAdd.var {M : Nat} {sh : Nat → Sh} {vm : Int → Option Nat} (h : GAdd M sh vm) {v : Int} (hv : vm v = none) : GAdd (M + 1) (shP sh M .var) (vmP vm v M) where
  kid := (h.push .var (fun k l r e => by (cases e))).kid
  vlt := fun x m e => by
    unfold vmP at e
    split at e
    · injection e with e; subst e; exact ⟨by omega, shP_new _ _ _⟩
    · exact (h.push .var (fun k l r e => by (cases e))).vlt x m e
  inj := fun x y m e1 e2 => by
    unfold vmP at e1 e2
    split at e1
    · rename_i hx
      injection e1 with e1
      split at e2
      · rename_i hy; rw [hx, hy]
      · have := (h.vlt y m e2).1; omega
    · split at e2
      · injection e2 with e2
        have := (h.vlt x m e1).1; omega
      · exact h.inj x y m e1 e2
theorem VR.put {MV : List IV} {vm : Int → Option Nat} (h : VR MV vm) (v : Int) (m : Nat) : VR (upd v (.int .i64 (m : Int)) MV) (vmP vm v m) := fun x => by
  rw [look_upd]
  unfold vmP
  split
  · rfl
  · exact h x
/-- A change of the map of variables alone. -/
theorem GM.vars {w w' : World} {n0 gb am vb M : Nat} {sh : Nat → Sh} {rep dp : Nat → Nat} {vm vm' : Int → Option Nat} {sv : Value} {MA MV MV' : List IV} (hg : GM w n0 gb am vb M sh rep dp vm sv MA MV) (hgr : w.grownBy w' (some vb)) (hm : IMap w' vb MV') (hv : VR MV' vm') : GM w' n0 gb am vb M sh rep dp vm' sv MA MV' ∧ GK gb am vb sv w w' sv := by
  obtain ⟨d1, d2, d3⟩ := hg.d1
  have old : ∀ b, b < w.heap.size → b ≠ vb → w'.heap[b]? = w.heap[b]? := fun b h1 h2 => hgr.block b h1 (fun e => h2 (by injection e))
  have eg := old gb hg.gl (fun e => d2 e.symm)
  exact ⟨⟨(cellEq eg).trans hg.c0, (cellEq eg).trans hg.c1, (cellEq eg).trans hg.c2, (frozenEq eg).trans hg.f0, Nat.lt_of_lt_of_le hg.gl hgr.size, own_one hg.own (fun g e => old g (own_low hg.own e).2 (hg.d2 g e).2.2), hg.ma.keep (old am hg.ma.lt (fun e => d3 e.symm)), hg.un, hm, hv, hg.lo, hg.d1, hg.d2⟩,
    ⟨hgr.os, hgr.tape, hgr.output, hgr.size, fun b h1 _ _ h4 _ => old b h1 h4, fun g e => .inl e⟩⟩
theorem lookV (w : World) (bm : Nat) (M : List IV) (x : Int) (h : IMap w bm M) : (Instr.lookup 116 (.map (some bm)) (.int .i64 x) true).run Try.prog w = .ok (.tuple #[(look x M).getD (.int .i64 0), .bool (look x M).isSome]) w :=
  lookup_runG Try.underlying116 Try.underlying3 zeroN_run w bm M x h
theorem updV (w : World) (bm : Nat) (M : List IV) (x : Int) (v : Value) (h : IMap w bm M) : ∃ w', (Instr.mapUpdate 116 (.map (some bm)) (.int .i64 x) v).run Try.prog w = .ok () w' ∧ IMap w' bm (upd x v M) ∧ w.grownBy w' (some bm) ∧ w'.heap.size = w.heap.size :=
  update_runG Try.underlying116 Try.underlying3 w bm M x v h
/-- What add leaves. -/
def AddPost (n0 gb am vb M : Nat) (sh : Nat → Sh) (rep dp : Nat → Nat) (vm : Int → Option Nat) (sv : Value) (MA : List IV) (t : Ty) (w : World) (e : Ending) (w' : World) : Prop :=
  ∃ (n M' : Nat) (sh' : Nat → Sh) (vm' : Int → Option Nat) (sv' : Value) (MV' : List IV), e = .returned (.int .i64 (n : Int)) ∧ GM w' n0 gb am vb M' sh' rep dp vm' sv' MA MV' ∧ GK gb am vb sv w w' sv' ∧ GAdd M' sh' vm' ∧ M ≤ M' ∧ M' ≤ M + nodes t ∧ (∀ i, i < M → sh' i = sh i) ∧ (∀ v m, vm v = some m → vm' v = some m) ∧ Nd sh' vm' M' n t

set_option maxRecDepth 100000 in
set_option maxHeartbeats 8000000 in
theorem add_any (w0 : World) (gb am vb : Nat) (rep dp : Nat → Nat) (MA : List IV) : ∀ (d : Nat) (t : Ty) (v : Value) (w : World) (M : Nat) (sh : Nat → Sh) (vm : Int → Option Nat) (sv : Value) (MV : List IV), shp d t = true → TyAt w0 t v → Below w0.heap.size w0 w → GM w w0.heap.size gb am vb M sh rep dp vm sv MA MV → GAdd M sh vm → M + nodes t ≤ 1000000 →
    Calls Try.prog 62 #[.pointer (some ⟨gb, 0, none⟩), .agg #[.int .i64 t.k, .int .i64 t.n, v]] w (AddPost w0.heap.size gb am vb M sh rep dp vm sv MA t w) := by
  intro d
  induction d with
  | zero => intro t v w M sh vm sv MV h; cases h
  | succ d ih =>
    intro t v w M sh vm sv MV hs hx hb hg ha hM
    have HIH := Lib.hid ih
    have HG := Lib.hid hg
    have HGA := Lib.hid ha
    have HB := Lib.hid hb
    have HX := Lib.hid hx
    obtain ⟨S, hS⟩ : ∃ S, w.heap.size = S := ⟨_, rfl⟩
    have hgS : gb < S := by rw [← hS]; exact hg.gl
    have haS : am < S := by rw [← hS]; exact hg.ma.lt
    have hvS : vb < S := by rw [← hS]; exact hg.mv.lt
    have HRS : Hid (∀ g, sv.ownBlock = some g → g < S) := Lib.hid (fun g e => by rw [← hS]; exact (own_low hg.own e).2)
    have hnS : w0.heap.size ≤ S := by rw [← hS]; exact hb.size
    have HS := Lib.hid hS
    clear ih hg ha hb hx
    rcases shp_forms hs with rfl | ⟨n, n0, n1, rfl⟩ | ⟨k, ta, tb, hk, rfl, hta, htb⟩
    · obtain ⟨va, vc, rfl, _⟩ := HX.out.slice
      show Calls Try.prog 62 #[.pointer (some ⟨gb, 0, none⟩), .agg #[.int .i64 1, .int .i64 0, .slice va 0 vc]] w _
      obtain ⟨W1, hW1⟩ : ∃ W, w.alloc (.cells #[.int .i64 1, .int .i64 0, .slice va 0 vc] 25) = W := ⟨_, rfl⟩
      have hB1 : Below w.heap.size w W1 := by rw [← hW1]; exact (Below.refl _ _).alloc (Nat.le_refl _) _
      have HG1 := Lib.hid (HG.out.kept hB1)
      have HK1 : Hid (GK gb am vb sv w W1 sv) := Lib.hid (GK.below hB1)
      have hn1 : w0.heap.size ≤ W1.heap.size := by have := hB1.size; omega
      have HW1 := Lib.hid hW1
      have hM' : M ≤ 1000000 := by omega
      clear hs hS hB1 hW1
      go_enter Try.func62, Try.ntmps62
      go_wp2_with fail
      rw [HW1.out]
      go_at_call 95
      refine (addShape_any w0.heap.size gb am vb M sh rep dp vm sv MA MV .num W1 HG1.out hM' hn1).mono ?_
      rintro e w2 ⟨sv2, rfl, hg2, hk2⟩
      have HG2 := Lib.hid hg2
      have HK2 := Lib.hid (HK1.out.trans hk2)
      clear hg2 hk2
      go_wp2_with fail
      go_ret
      exact ⟨M, M + 1, _, vm, sv2, MV, rfl, HG2.out, HK2.out, HGA.out.push .num (fun k l r e => by (cases e)), by omega, by have := nodes_pos (.node 1 0 []); omega, fun i hi => shP_old sh _ hi, fun v m h => h, .num M (by omega) (shP_new _ _ _)⟩
    · obtain ⟨va, vc, rfl, _⟩ := HX.out.slice
      show Calls Try.prog 62 #[.pointer (some ⟨gb, 0, none⟩), .agg #[.int .i64 4, .int .i64 n, .slice va 0 vc]] w _
      obtain ⟨W1, hW1⟩ : ∃ W, w.alloc (.cells #[.int .i64 4, .int .i64 n, .slice va 0 vc] 25) = W := ⟨_, rfl⟩
      have hB1 : Below w.heap.size w W1 := by rw [← hW1]; exact (Below.refl _ _).alloc (Nat.le_refl _) _
      have HO1 : Hid (OC W1 S 4 n (.slice va 0 vc)) := Lib.hid (by rw [← hW1, ← hS]; exact oc_new w _ _ _ _)
      have HG1 := Lib.hid (HG.out.kept hB1)
      have HK1 : Hid (GK gb am vb sv w W1 sv) := Lib.hid (GK.below hB1)
      have hn1 : w0.heap.size ≤ W1.heap.size := by have := hB1.size; omega
      have HW1 := Lib.hid hW1
      have HMM : Hid (M + 1 ≤ M + nodes (.node 4 n [])) := Lib.hid (by have := nodes_pos (.node 4 n []); omega)
      have hM' : M ≤ 1000000 := by omega
      have c2 := HG1.out.c2
      obtain ⟨x0, x1, x2, f0, f1, f2, xz⟩ := HO1.out
      clear hs hB1 hW1 hM
      rcases hl : vm n with _ | m
      · have L1 : (Instr.lookup 116 (.map (some vb)) (.int .i64 n) true).run Try.prog W1 = .ok (.tuple #[.int .i64 0, .bool false]) W1 := by
          have h := lookV W1 vb MV n HG1.out.mv; rw [HG1.out.vr n, hl] at h; exact h
        have L1d : (Instr.lookup 116 (.map (some vb)) (.int .i64 n) true).run Try.prog W1.drew = .ok (.tuple #[.int .i64 0, .bool false]) W1.drew := by
          have h := lookV W1.drew vb MV n (HG1.out.mv.kept (Below.refl _ _).drew); rw [HG1.out.vr n, hl] at h; exact h
        have HL := Lib.hid hl
        clear hl
        go_enter Try.func62, Try.ntmps62
        go_wp2_with fail
        rw [HW1.out]
        try rw [HS.out]
        clear hS
        go_region_held3 (fun w' => w'.cell? ⟨gb, 2, none⟩ = some (.map (some vb)) ∧ w'.cell? ⟨S, 1, none⟩ = some (.int .i64 n) ∧ (Instr.lookup 116 (.map (some vb)) (.int .i64 n) true).run Try.prog w' = .ok (.tuple #[.int .i64 0, .bool false]) w') (first | go_keep | assumption) (fail)
        have HG1d := Lib.hid (HG1.out.kept (Below.refl _ _).drew)
        have hn1d : w0.heap.size ≤ W1.drew.heap.size := hn1
        go_wp2_with fail
        go_at_call 95
        refine (addShape_any w0.heap.size gb am vb M sh rep dp vm sv MA MV .var W1.drew HG1d.out hM' hn1d).mono ?_
        rintro e w2 ⟨sv2, rfl, hg2, hk2⟩
        have HK2 := Lib.hid (HK1.out.trans (((GK.below (Below.refl _ _).drew).trans hk2)))
        have hz12 : S < w2.heap.size := by have := hk2.size; simp at this; omega
        have eS := hk2.block S (by simpa using xz) (by omega) (by omega) (by omega) (fun e => by have := HRS.out S e; omega)
        have x1' := (cellEq (i := 1) eS).trans x1
        have c2' := hg2.c2
        obtain ⟨w3, L3, him3, hgr3, hz3⟩ := updV w2 vb MV n (.int .i64 (M : Int)) hg2.mv
        obtain ⟨w4, L4, him4, hgr4, hz4⟩ := updV w2.drew vb MV n (.int .i64 (M : Int)) (hg2.mv.kept (Below.refl _ _).drew)
        have HG3 := Lib.hid (hg2.vars hgr3 him3 (hg2.vr.put n M))
        have HG4 := Lib.hid ((hg2.kept (Below.refl _ _).drew).vars hgr4 him4 (hg2.vr.put n M))
        have HP : Hid (∀ w5, GM w5 w0.heap.size gb am vb (M + 1) (shP sh M .var) rep dp (vmP vm n M) sv2 MA (upd n (.int .i64 (M : Int)) MV) → GK gb am vb sv2 w2 w5 sv2 → AddPost w0.heap.size gb am vb M sh rep dp vm sv MA (.node 4 n []) w (.returned (.int .i64 (M : Int))) w5) := Lib.hid (fun w5 h5 k5 =>
          ⟨M, M + 1, _, _, sv2, _, rfl, h5, HK2.out.trans k5, HGA.out.var HL.out, by omega, HMM.out, fun i hi => shP_old sh _ hi, fun x m e => by
            unfold vmP
            rw [if_neg (fun hx => by rw [hx, HL.out] at e; cases e)]
            exact e, .var M n (by omega) (by unfold vmP; rw [if_pos rfl])⟩)
        clear hg2 hk2 eS him3 hgr3 hz3 him4 hgr4 hz4 L1 L1d x0 x1 x2 f0 f1 f2 c2
        go_wp2_with fail
        go_region
        all_goals go_wp2_with fail
        all_goals go_ret
        all_goals first
          | exact HP.out _ HG3.out.1 HG3.out.2
          | exact HP.out _ HG4.out.1 ((GK.below (Below.refl _ _).drew).trans HG4.out.2)
      · have L1 : (Instr.lookup 116 (.map (some vb)) (.int .i64 n) true).run Try.prog W1 = .ok (.tuple #[.int .i64 (m : Int), .bool true]) W1 := by
          have h := lookV W1 vb MV n HG1.out.mv; rw [HG1.out.vr n, hl] at h; exact h
        have L1d : (Instr.lookup 116 (.map (some vb)) (.int .i64 n) true).run Try.prog W1.drew = .ok (.tuple #[.int .i64 (m : Int), .bool true]) W1.drew := by
          have h := lookV W1.drew vb MV n (HG1.out.mv.kept (Below.refl _ _).drew); rw [HG1.out.vr n, hl] at h; exact h
        have HL := Lib.hid hl
        clear hl
        go_enter Try.func62, Try.ntmps62
        go_wp2_with fail
        rw [HW1.out]
        try rw [HS.out]
        clear hS
        go_region_held3 (fun w' => w'.cell? ⟨gb, 2, none⟩ = some (.map (some vb)) ∧ w'.cell? ⟨S, 1, none⟩ = some (.int .i64 n) ∧ (Instr.lookup 116 (.map (some vb)) (.int .i64 n) true).run Try.prog w' = .ok (.tuple #[.int .i64 (m : Int), .bool true]) w') (first | go_keep | assumption) (fail)
        have HG1d := Lib.hid (HG1.out.kept (Below.refl _ _).drew)
        go_wp2_with fail
        go_ret
        exact ⟨m, M, sh, vm, sv, MV, rfl, HG1d.out, HK1.out.trans (GK.below (Below.refl _ _).drew), HGA.out, Nat.le_refl _, by omega, fun i _ => rfl, fun x y e => e, .var m n (HGA.out.vlt _ _ HL.out).1 HL.out⟩
    · obtain ⟨g, o, cap, va, vc, rfl, hgl, z0, z1, z2, hxa, z3, z4, z5, hxb⟩ := HX.out.two
      show Calls Try.prog 62 #[.pointer (some ⟨gb, 0, none⟩), .agg #[.int .i64 k, .int .i64 0, .slice (some ⟨g, o, none⟩) 2 cap]] w _
      obtain ⟨W1, hW1⟩ : ∃ W, w.alloc (.cells #[.int .i64 k, .int .i64 0, .slice (some ⟨g, o, none⟩) 2 cap] 25) = W := ⟨_, rfl⟩
      have hB1 : Below w.heap.size w W1 := by rw [← hW1]; exact (Below.refl _ _).alloc (Nat.le_refl _) _
      have HO1 : Hid (OC W1 S k 0 (.slice (some ⟨g, o, none⟩) 2 cap)) := Lib.hid (by rw [← hW1, ← hS]; exact oc_new w _ _ _ _)
      have HG1 := Lib.hid (HG.out.kept hB1)
      have HK1 : Hid (GK gb am vb sv w W1 sv) := Lib.hid (GK.below hB1)
      have HB1 := Lib.hid (HB.out.trans (hB1.mono HB.out.size))
      have HSX : Hid (Six w0 g o (.int .i64 ta.k) (.int .i64 ta.n) va (.int .i64 tb.k) (.int .i64 tb.n) vc) := Lib.hid ⟨z0, z1, z2, z3, z4, z5, hgl⟩
      have hSX1 := HSX.out.below HB1.out hgl
      have hn1 : w0.heap.size ≤ W1.heap.size := HB1.out.size
      have HR1 : Hid (∀ q, sv.ownBlock = some q → q ≠ S) := Lib.hid (fun q e => by have := HRS.out q e; omega)
      have HN : Hid (nodes (.node k 0 [ta, tb]) = nodes ta + nodes tb + 1) := Lib.hid (nodes_two k 0 ta tb)
      have hMa : M + nodes ta ≤ 1000000 := by have := HN.out; omega
      have HMj := Lib.hid hM
      have HTA := Lib.hid hta
      have HTB := Lib.hid htb
      have HXA := Lib.hid hxa
      have HXB := Lib.hid hxb
      have HW1 := Lib.hid hW1
      have hgS1 : S ≠ gb := by omega
      have haS1 : S ≠ am := by omega
      have hvS1 : S ≠ vb := by omega
      have hk1 : (k == 1) = false := by rw [beq_eq_false_iff_ne]; omega
      have hk4 : (k == 4) = false := by rw [beq_eq_false_iff_ne]; omega
      have HKK := Lib.hid hk
      obtain ⟨x0, x1, x2, f0, f1, f2, xz⟩ := HO1.out
      obtain ⟨s0, s1, s2, s3, s4, s5, sz⟩ := hSX1
      clear hs hB1 hW1 hM hta htb hxa hxb z0 z1 z2 z3 z4 z5 hk
      go_enter Try.func62, Try.ntmps62
      go_wp2_with fail
      rw [HW1.out]
      try rw [HS.out]
      clear hS
      go_region_held3 (fun w' => w'.cell? ⟨S, 0, none⟩ = some (.int .i64 k) ∧ w'.cell? ⟨S, 2, none⟩ = some (.slice (some ⟨g, o, none⟩) 2 cap) ∧ w'.cell? ⟨g, o, none⟩ = some (.int .i64 ta.k) ∧ w'.cell? ⟨g, o + 1, none⟩ = some (.int .i64 ta.n) ∧ w'.cell? ⟨g, o + 2, none⟩ = some va ∧ w'.cell? ⟨g, o + 3, none⟩ = some (.int .i64 tb.k) ∧ w'.cell? ⟨g, o + 4, none⟩ = some (.int .i64 tb.n) ∧ w'.cell? ⟨g, o + 5, none⟩ = some vc) (go_keep)
        (first
          | (go_at_call 95; have hgd := HG3; clear hgd; refine (addShape_any w0.heap.size gb am vb M3 sh3 rep dp vm3 sv3 MA MV3 (.join k n2 n3) _ (by first | exact HG3.out | exact HG3.out.kept (Below.refl _ _).drew) hM3 (by first | exact hn3 | exact hn3)).mono ?_; rintro e w4 ⟨sv4, rfl, hg4, hk4⟩; have HK4 := Lib.hid (HK3.out.trans (GK.trans (GK.below (w := w3) (by first | exact Below.refl _ _ | exact (Below.refl _ _).drew)) hk4)); have HG4 := Lib.hid hg4; have ho4 := HO3.out.keep (GK.trans (GK.below (w := w3) (by first | exact Below.refl _ _ | exact (Below.refl _ _).drew)) hk4).size ((GK.trans (GK.below (w := w3) (by first | exact Below.refl _ _ | exact (Below.refl _ _).drew)) hk4).block S xz3 hgS1 haS1 hvS1 (fun e => HR3.out S e rfl)); obtain ⟨v0, v1, v2, _, _, _, xz4⟩ := ho4; have hs4 := HSX.out.below (HB3.out.trans (GK.low HG3.out (GK.trans (GK.below (w := w3) (by first | exact Below.refl _ _ | exact (Below.refl _ _).drew)) hk4) hn3)) hgl; obtain ⟨v3, v4, v5, v6, v7, v8, _⟩ := hs4; clear hg4 hk4)
          | (go_at_call 62; have hgd := HG2; clear hgd; refine (HIH.out tb vc _ M2 sh2 vm2 sv2 MV2 HTB.out HXB.out (by first | exact HB2.out | exact HB2.out.drew) (by first | exact HG2.out | exact HG2.out.kept (Below.refl _ _).drew) HA2.out hMb).mono ?_; rintro e w3 ⟨n3, M3, sh3, vm3, sv3, MV3, rfl, hg3, hk3, ha3, hm3, hm3', hs3, hv3, hd3⟩; have hk3' : GK gb am vb sv2 w2 w3 sv3 := GK.trans (GK.below (w := w2) (by first | exact Below.refl _ _ | exact (Below.refl _ _).drew)) hk3; have HK3 := Lib.hid (HK2.out.trans hk3'); have HG3 := Lib.hid hg3; have HA3 := Lib.hid ha3; have HB3 := Lib.hid (HB2.out.trans (GK.low HG2.out hk3' hn2)); have ho3 := HO2.out.keep hk3'.size (hk3'.block S xz2 hgS1 haS1 hvS1 (fun e => HR2.out S e rfl)); have HO3 := Lib.hid ho3; have HR3 : Hid (∀ q, sv3.ownBlock = some q → q ≠ S) := Lib.hid (fun q e => by rcases hk3'.row q e with e | e; exact HR2.out q e; omega); have HS3 := Lib.hid hs3; have HV3 := Lib.hid hv3; have HD3 := Lib.hid hd3; have HM3 : Hid (M2 ≤ M3 ∧ M3 ≤ M2 + nodes tb) := Lib.hid ⟨hm3, hm3'⟩; have hM3 : M3 ≤ 1000000 := (by have := HM3.out; omega); have hn3 : w0.heap.size ≤ w3.heap.size := Nat.le_trans hn2 hk3'.size; obtain ⟨q0, q1, q2, _, _, _, xz3⟩ := ho3; have hs3' := HSX.out.below HB3.out hgl; obtain ⟨q3, q4, q5, q6, q7, q8, _⟩ := hs3'; clear hg3 hk3 hk3' ha3 hm3 hm3' hs3 hv3 hd3)
          | (go_at_call 62; refine (HIH.out ta va _ M sh vm sv MV HTA.out HXA.out (by first | exact HB1.out | exact HB1.out.drew) (by first | exact HG1.out | exact HG1.out.kept (Below.refl _ _).drew) HGA.out hMa).mono ?_; rintro e w2 ⟨n2, M2, sh2, vm2, sv2, MV2, rfl, hg2, hk2, ha2, hm2, hm2', hs2, hv2, hd2⟩; have hk2' : GK gb am vb sv W1 w2 sv2 := GK.trans (GK.below (w := W1) (by first | exact Below.refl _ _ | exact (Below.refl _ _).drew)) hk2; have HK2 := Lib.hid (HK1.out.trans hk2'); have HG2 := Lib.hid hg2; have HA2 := Lib.hid ha2; have HB2 := Lib.hid (HB1.out.trans (GK.low HG1.out hk2' hn1)); have ho2 := HO1.out.keep hk2'.size (hk2'.block S xz hgS1 haS1 hvS1 (fun e => HR1.out S e rfl)); have HO2 := Lib.hid ho2; have HR2 : Hid (∀ q, sv2.ownBlock = some q → q ≠ S) := Lib.hid (fun q e => by rcases hk2'.row q e with e | e; exact HR1.out q e; omega); have HS2 := Lib.hid hs2; have HV2 := Lib.hid hv2; have HD2 := Lib.hid hd2; have HM2 : Hid (M ≤ M2 ∧ M2 ≤ M + nodes ta) := Lib.hid ⟨hm2, hm2'⟩; have hMb : M2 + nodes tb ≤ 1000000 := (by have := HN.out; have := HMj.out; have := HM2.out; omega); have hn2 : w0.heap.size ≤ w2.heap.size := Nat.le_trans hn1 hk2'.size; obtain ⟨r0, r1, r2, _, _, _, xz2⟩ := ho2; have hs2' := HSX.out.below HB2.out hgl; obtain ⟨r3, r4, r5, r6, r7, r8, _⟩ := hs2'; clear hg2 hk2 hk2' ha2 hm2 hm2' hs2 hv2 hd2))
      all_goals go_wp2_with fail
      all_goals go_ret
      all_goals
        refine ⟨M3, M3 + 1, _, vm3, sv4, MV3, rfl, HG4.out, HK4.out, HA3.out.push _ (fun k' l r e => ?_), ?_, ?_, fun i hi => ?_, fun v m e => HV3.out v m (HV2.out v m e), ?_⟩
        · injection e with e1 e2 e3
          subst e1 e2 e3
          have := HD2.out.lt
          have := HD3.out.lt
          have := HM3.out
          exact ⟨HKK.out, by omega, by omega⟩
        · have := HM2.out; have := HM3.out; omega
        · have := HM2.out; have := HM3.out; have := HN.out; omega
        · have h2 := HM2.out; have h3 := HM3.out
          rw [shP_old _ _ (by omega), HS3.out i (by omega), HS2.out i hi]
        · have h3 := HM3.out
          refine .join M3 n2 n3 k ta tb (by omega) (shP_new _ _ _) ?_ ?_
          · exact HD2.out.up (by omega) (fun i hi => by rw [shP_old _ _ (by omega), HS3.out i hi]) HV3.out
          · exact HD3.out.up (by omega) (fun i hi => shP_old _ _ hi) (fun v m e => e)

end Go.Proofs.Ytndpoejohpmifaa.Mx

namespace Go.Proofs.Ytndpoejohpmifaa.Mx
open Go.Proofs.Ytndpoejohpmifaa
open Go.RowKit
set_option linter.unusedVariables false
set_option linter.unusedSimpArgs false

@[go_sem] theorem as_n_n (v : Value) (w : World) : (Instr.typeAssert (.iface 122 v) 130 122 true).run Try.prog w = .ok (.tuple #[v, .bool true]) w := by kernel_rfl
@[go_sem] theorem as_n_v (v : Value) (w : World) : (Instr.typeAssert (.iface 122 v) 130 124 true).run Try.prog w = .ok (.tuple #[.agg #[], .bool false]) w := by kernel_rfl
@[go_sem] theorem as_n_j (v : Value) (w : World) : (Instr.typeAssert (.iface 122 v) 130 126 true).run Try.prog w = .ok (.tuple #[.agg #[.int .i64 0, .int .i64 0, .int .i64 0], .bool false]) w := by kernel_rfl
@[go_sem] theorem as_v_n (v : Value) (w : World) : (Instr.typeAssert (.iface 124 v) 130 122 true).run Try.prog w = .ok (.tuple #[.agg #[], .bool false]) w := by kernel_rfl
@[go_sem] theorem as_v_v (v : Value) (w : World) : (Instr.typeAssert (.iface 124 v) 130 124 true).run Try.prog w = .ok (.tuple #[v, .bool true]) w := by kernel_rfl
@[go_sem] theorem as_v_j (v : Value) (w : World) : (Instr.typeAssert (.iface 124 v) 130 126 true).run Try.prog w = .ok (.tuple #[.agg #[.int .i64 0, .int .i64 0, .int .i64 0], .bool false]) w := by kernel_rfl
@[go_sem] theorem as_j_n (v : Value) (w : World) : (Instr.typeAssert (.iface 126 v) 130 122 true).run Try.prog w = .ok (.tuple #[.agg #[], .bool false]) w := by kernel_rfl
@[go_sem] theorem as_j_v (v : Value) (w : World) : (Instr.typeAssert (.iface 126 v) 130 124 true).run Try.prog w = .ok (.tuple #[.agg #[], .bool false]) w := by kernel_rfl
@[go_sem] theorem as_j_j (v : Value) (w : World) : (Instr.typeAssert (.iface 126 v) 130 126 true).run Try.prog w = .ok (.tuple #[v, .bool true]) w := by kernel_rfl
theorem GM.row {w : World} {n0 gb am vb M : Nat} {sh : Nat → Sh} {rep dp : Nat → Nat} {vm : Int → Option Nat} {sv : Value} {MA MV : List IV} (hg : GM w n0 gb am vb M sh rep dp vm sv MA MV) (hM : 0 < M) : ∃ g cap, sv = .slice (some ⟨g, 0, none⟩) M cap := by
  obtain ⟨_, ⟨_, h⟩ | ⟨g, cap, cur, h, _⟩⟩ := hg.own
  · omega
  · exact ⟨g, cap, h⟩
theorem GM.at {w : World} {n0 gb am vb M g cap : Nat} {sh : Nat → Sh} {rep dp : Nat → Nat} {vm : Int → Option Nat} {MA MV : List IV} (hg : GM w n0 gb am vb M sh rep dp vm (.slice (some ⟨g, 0, none⟩) M cap) MA MV) {n : Nat} (hn : n < M) : w.cell? ⟨g, n, none⟩ = some (shV (sh n)) := by
  rw [World.ownsRow.cellAt hg.own n (by omega)]
  exact shL_get sh M n hn
/-- What unify leaves. -/
def UfPost (n0 gb am vb M : Nat) (sh : Nat → Sh) (rep : Nat → Nat) (vm : Int → Option Nat) (sv : Value) (MV : List IV) (a b : Nat) (w : World) (e : Ending) (w' : World) : Prop :=
  ∃ (r : Bool) (rep' dp' : Nat → Nat) (MA' : List IV), e = .returned (.bool r) ∧ GM w' n0 gb am vb M sh rep' dp' vm sv MA' MV ∧ Inside am (am + 1) w w' ∧ GUni M sh rep rep' a b r
theorem guni_eq {M : Nat} {sh : Nat → Sh} {rep : Nat → Nat} (h : GOk M sh rep) {a b : Nat} (ha : a < M) (hb : b < M) (e : rep a = rep b) : GUni M sh rep rep a b true :=
  GUni.lead ha hb (by rw [e]; exact guni_same h (rep b))

set_option maxRecDepth 100000 in
set_option maxHeartbeats 8000000 in
theorem unify_any (n0 gb am vb M : Nat) (sh : Nat → Sh) (vm : Int → Option Nat) (sv : Value) (MV : List IV) (hMM : M ≤ 1000000) : ∀ (c a b : Nat) (rep dp : Nat → Nat) (MA : List IV) (w : World), cls M rep < c → a < M → b < M → GOk M sh rep → GM w n0 gb am vb M sh rep dp vm sv MA MV →
    Calls Try.prog 63 #[.pointer (some ⟨gb, 0, none⟩), .int .i64 (a : Int), .int .i64 (b : Int)] w (UfPost n0 gb am vb M sh rep vm sv MV a b w) := by
  intro c
  induction c with
  | zero => intro a b rep dp MA w h; omega
  | succ c ih =>
    intro a b rep dp MA w hc ha hb hok hg
    obtain ⟨g, cap, rfl⟩ := hg.row (by omega)
    have HIH := Lib.hid ih
    have HG := Lib.hid hg
    have HOK := Lib.hid hok
    have HC := Lib.hid hc
    obtain ⟨S, hS⟩ : ∃ S, w.heap.size = S := ⟨_, rfl⟩
    have hgS : gb < S := by rw [← hS]; exact hg.gl
    have hrS : g < S := by rw [← hS]; exact (own_low hg.own rfl).2
    have hgam : gb ≠ am := fun e => hg.d1.1 e.symm
    have hram : g ≠ am := (hg.d2 g rfl).2.1
    have c1 := hg.c1
    have hla : rep a < M := hok.lt a ha
    have hlb : rep b < M := hok.lt b hb
    have HA := Lib.hid ha
    have HBB := Lib.hid hb
    have hI0 : Hid (Inside am (am + 1) w w) := Lib.hid (in_below (Below.refl _ _))
    have HS := Lib.hid hS
    obtain ⟨ra, hra⟩ : ∃ ra, rep a = ra := ⟨_, rfl⟩
    obtain ⟨rb, hrb⟩ : ∃ rb, rep b = rb := ⟨_, rfl⟩
    have HRA := Lib.hid hra
    have HRB := Lib.hid hrb
    have hraa : rep ra = ra := by rw [← hra]; exact hok.idem a ha
    have hrbb : rep rb = rb := by rw [← hrb]; exact hok.idem b hb
    have HRAA := Lib.hid hraa
    have HRBB := Lib.hid hrbb
    rw [hra] at hla
    rw [hrb] at hlb
    have hla0 : (0 : Int) ≤ (ra : Int) := by omega
    have hlb0 : (0 : Int) ≤ (rb : Int) := by omega
    have hla1 : (ra : Int) < (M : Int) := by omega
    have hlb1 : (rb : Int) < (M : Int) := by omega
    have toA : ((ra : Int)).toNat = ra := by omega
    have toB : ((rb : Int)).toNat = rb := by omega
    clear ih hc hok hg ha hb hS hra hrb hraa hrbb
    rcases hsb : sh rb with _ | _ | ⟨k2, l2, r2⟩
    · -- a number
      go_enter Try.func63, Try.ntmps63
      go_wp2_with fail
      go_region_held3 (fun w' => w'.cell? ⟨gb, 1, none⟩ = some (.map (some am))) (go_keep)
        (first
          | (go_at_call 96; have hgd := HG2; clear hgd; refine (leaderN_any am M2 rep dp b _ (by first | exact HG2.out.ma | exact HG2.out.ma.kept (Below.refl _ _).drew) HG2.out.un).mono ?_; rintro e w3 ⟨rfl, hin3, M3, hm3, hf3⟩; rw [HRB.out]; have hin3' : Inside am (am + 1) w2 w3 := (in_below (lo := am) (hi := am + 1) (w := w2) (by first | exact Below.refl _ _ | exact (Below.refl _ _).drew)).trans hin3; have HG3 := Lib.hid (HG2.out.classes hin3' hm3 hf3); have HI3 := Lib.hid (HI2.out.trans hin3'); have c3 := HG3.out.c1; clear hin3 hin3' hm3 hf3)
          | (go_at_call 96; refine (leaderN_any am MA rep dp a _ (by first | exact HG.out.ma | exact HG.out.ma.kept (Below.refl _ _).drew) HG.out.un).mono ?_; rintro e w2 ⟨rfl, hin2, M2, hm2, hf2⟩; rw [HRA.out]; have hin2' : Inside am (am + 1) w w2 := (in_below (lo := am) (hi := am + 1) (w := w) (by first | exact Below.refl _ _ | exact (Below.refl _ _).drew)).trans hin2; have HG2 := Lib.hid (HG.out.classes hin2' hm2 hf2); have HI2 := Lib.hid hin2'; have c2 := HG2.out.c1; clear hin2 hin2' hm2 hf2))
      obtain ⟨W4, hW4⟩ : ∃ W, w3.alloc (.cells #[] 124) = W := ⟨_, rfl⟩
      have hB4 : Below w3.heap.size w3 W4 := by rw [← hW4]; exact (Below.refl _ _).alloc (Nat.le_refl _) _
      have HG4 := Lib.hid (HG3.out.kept hB4)
      have HI4 := Lib.hid (HI3.out.trans (in_below hB4))
      have k0 := HG3.out.c0
      have ka := HG3.out.at hla
      have kb := HG3.out.at hlb
      have l1 := HG4.out.c1
      clear hB4 c1 c2 c3
      rw [hsb] at kb; unfold shV at kb
      go_wp2_with fail
      go_at_call 97
      refine (joinN_any am M3 rep dp ra rb _ HG4.out.ma HG4.out.un).mono ?_
      rintro e w5 ⟨hin5, (⟨heq, rfl, M5, hm5, hf5⟩ | ⟨hne, rfl, M5, dp5, hm5, hf5⟩)⟩
      · rw [HRAA.out, HRBB.out] at heq
        have HG5 := Lib.hid (HG4.out.classes hin5 hm5 hf5)
        have HI5 := Lib.hid (HI4.out.trans hin5)
        have HQ : Hid (rep a = rep b) := Lib.hid (by rw [HRA.out, HRB.out]; exact heq)
        clear hin5 hm5 hf5 heq
        go_wp2_with fail
        go_ret
        exact ⟨true, rep, dp, M5, rfl, HG5.out, HI5.out, guni_eq HOK.out HA.out HBB.out HQ.out⟩
      · rw [HRAA.out, HRBB.out] at hne
        rw [HRAA.out, HRBB.out] at hf5
        have HG5 := Lib.hid (HG4.out.classes hin5 hm5 hf5)
        have HI5 := Lib.hid (HI4.out.trans hin5)
        have HNE := Lib.hid hne
        have m0 := HG5.out.c0
        have ma := HG5.out.at hla
        have mb := HG5.out.at hlb
        clear hin5 hm5 hf5 hne k0 ka kb l1
        rw [hsb] at mb; unfold shV at mb
        rcases hsa : sh ra with _ | _ | ⟨k1, l1, r1⟩
        · rw [hsa] at ma; unfold shV at ma
          obtain ⟨W6, hW6⟩ : ∃ W, w5.alloc (.cells #[] 122) = W := ⟨_, rfl⟩
          have hB6 : Below w5.heap.size w5 W6 := by rw [← hW6]; exact (Below.refl _ _).alloc (Nat.le_refl _) _
          have HG6 := Lib.hid (HG5.out.kept hB6)
          have HI6 := Lib.hid (HI5.out.trans (in_below hB6))
          have n06 := HG6.out.c0
          have nb6 := HG6.out.at hlb
          rw [hsb] at nb6; unfold shV at nb6
          obtain ⟨W7, hW7⟩ : ∃ W, W6.alloc (.cells #[] 122) = W := ⟨_, rfl⟩
          have hB7 : Below W6.heap.size W6 W7 := by rw [← hW7]; exact (Below.refl _ _).alloc (Nat.le_refl _) _
          have HG7 := Lib.hid (HG6.out.kept hB7)
          have HI7 := Lib.hid (HI6.out.trans (in_below hB7))
          have n07 := HG7.out.c0
          have nb7 := HG7.out.at hlb
          go_wp2_with fail
          go_ret
          exact ⟨true, _, _, _, rfl, HG7.out, HI7.out, GUni.lead HA.out HBB.out (by rw [HRA.out, HRB.out]; exact guni_num HOK.out hla hlb HRAA.out HRBB.out HNE.out hsa hsb)⟩
        · rw [hsa] at ma; unfold shV at ma
          go_wp2_with fail
          go_ret
          exact ⟨true, _, _, _, rfl, HG5.out, HI5.out, GUni.lead HA.out HBB.out (by rw [HRA.out, HRB.out]; exact guni_var HOK.out hla hlb HRAA.out HRBB.out HNE.out hsa)⟩
        · rw [hsa] at ma; unfold shV at ma
          obtain ⟨W6, hW6⟩ : ∃ W, w5.alloc (.cells #[.int .i64 k1, .int .i64 (l1 : Int), .int .i64 (r1 : Int)] 126) = W := ⟨_, rfl⟩
          have hB6 : Below w5.heap.size w5 W6 := by rw [← hW6]; exact (Below.refl _ _).alloc (Nat.le_refl _) _
          have HG6 := Lib.hid (HG5.out.kept hB6)
          have HI6 := Lib.hid (HI5.out.trans (in_below hB6))
          have n06 := HG6.out.c0
          have nb6 := HG6.out.at hlb
          rw [hsb] at nb6; unfold shV at nb6
          obtain ⟨W7, hW7⟩ : ∃ W, W6.alloc (.cells #[.int .i64 0, .int .i64 0, .int .i64 0] 126) = W := ⟨_, rfl⟩
          have hB7 : Below W6.heap.size W6 W7 := by rw [← hW7]; exact (Below.refl _ _).alloc (Nat.le_refl _) _
          have HG7 := Lib.hid (HG6.out.kept hB7)
          have HI7 := Lib.hid (HI6.out.trans (in_below hB7))
          have n07 := HG7.out.c0
          have nb7 := HG7.out.at hlb
          have HW7 := Lib.hid hW7
          clear hW7
          go_wp2_with fail
          rw [HW7.out]
          go_ret
          exact ⟨false, _, _, _, rfl, HG7.out, HI7.out, GUni.lead HA.out HBB.out (by rw [HRA.out, HRB.out]; exact guni_clash HOK.out hla hlb HRAA.out HRBB.out HNE.out (by rw [hsa, hsb]; trivial))⟩
    · -- a variable
      go_enter Try.func63, Try.ntmps63
      go_wp2_with fail
      go_region_held3 (fun w' => w'.cell? ⟨gb, 1, none⟩ = some (.map (some am))) (go_keep)
        (first
          | (go_at_call 96; have hgd := HG2; clear hgd; refine (leaderN_any am M2 rep dp b _ (by first | exact HG2.out.ma | exact HG2.out.ma.kept (Below.refl _ _).drew) HG2.out.un).mono ?_; rintro e w3 ⟨rfl, hin3, M3, hm3, hf3⟩; rw [HRB.out]; have hin3' : Inside am (am + 1) w2 w3 := (in_below (lo := am) (hi := am + 1) (w := w2) (by first | exact Below.refl _ _ | exact (Below.refl _ _).drew)).trans hin3; have HG3 := Lib.hid (HG2.out.classes hin3' hm3 hf3); have HI3 := Lib.hid (HI2.out.trans hin3'); have c3 := HG3.out.c1; clear hin3 hin3' hm3 hf3)
          | (go_at_call 96; refine (leaderN_any am MA rep dp a _ (by first | exact HG.out.ma | exact HG.out.ma.kept (Below.refl _ _).drew) HG.out.un).mono ?_; rintro e w2 ⟨rfl, hin2, M2, hm2, hf2⟩; rw [HRA.out]; have hin2' : Inside am (am + 1) w w2 := (in_below (lo := am) (hi := am + 1) (w := w) (by first | exact Below.refl _ _ | exact (Below.refl _ _).drew)).trans hin2; have HG2 := Lib.hid (HG.out.classes hin2' hm2 hf2); have HI2 := Lib.hid hin2'; have c2 := HG2.out.c1; clear hin2 hin2' hm2 hf2))
      obtain ⟨W4, hW4⟩ : ∃ W, w3.alloc (.cells #[] 124) = W := ⟨_, rfl⟩
      have hB4 : Below w3.heap.size w3 W4 := by rw [← hW4]; exact (Below.refl _ _).alloc (Nat.le_refl _) _
      have HG4 := Lib.hid (HG3.out.kept hB4)
      have HI4 := Lib.hid (HI3.out.trans (in_below hB4))
      have k0 := HG3.out.c0
      have ka := HG3.out.at hla
      have kb := HG3.out.at hlb
      have l1 := HG4.out.c1
      clear hB4 c1 c2 c3
      rw [hsb] at kb; unfold shV at kb
      go_wp2_with fail
      go_at_call 97
      refine (joinN_any am M3 rep dp rb ra _ HG4.out.ma HG4.out.un).mono ?_
      rintro e w5 ⟨hin5, (⟨heq, rfl, M5, hm5, hf5⟩ | ⟨hne, rfl, M5, dp5, hm5, hf5⟩)⟩
      · rw [HRAA.out, HRBB.out] at heq
        have HG5 := Lib.hid (HG4.out.classes hin5 hm5 hf5)
        have HI5 := Lib.hid (HI4.out.trans hin5)
        have HQ : Hid (rep a = rep b) := Lib.hid (by rw [HRA.out, HRB.out]; exact heq.symm)
        clear hin5 hm5 hf5 heq
        go_wp2_with fail
        go_ret
        exact ⟨true, rep, dp, M5, rfl, HG5.out, HI5.out, guni_eq HOK.out HA.out HBB.out HQ.out⟩
      · rw [HRAA.out, HRBB.out] at hne
        rw [HRAA.out, HRBB.out] at hf5
        have HG5 := Lib.hid (HG4.out.classes hin5 hm5 hf5)
        have HI5 := Lib.hid (HI4.out.trans hin5)
        have HNE := Lib.hid hne
        have m0 := HG5.out.c0
        have ma := HG5.out.at hla
        have mb := HG5.out.at hlb
        clear hin5 hm5 hf5 hne k0 ka kb l1
        rw [hsb] at mb; unfold shV at mb
        go_wp2_with fail
        go_ret
        exact ⟨true, _, _, _, rfl, HG5.out, HI5.out, GUni.swap (GUni.lead HBB.out HA.out (by rw [HRA.out, HRB.out]; exact guni_var HOK.out hlb hla HRBB.out HRAA.out HNE.out hsb))⟩
    · -- a join
      go_enter Try.func63, Try.ntmps63
      go_wp2_with fail
      go_region_held3 (fun w' => w'.cell? ⟨gb, 1, none⟩ = some (.map (some am))) (go_keep)
        (first
          | (go_at_call 96; have hgd := HG2; clear hgd; refine (leaderN_any am M2 rep dp b _ (by first | exact HG2.out.ma | exact HG2.out.ma.kept (Below.refl _ _).drew) HG2.out.un).mono ?_; rintro e w3 ⟨rfl, hin3, M3, hm3, hf3⟩; rw [HRB.out]; have hin3' : Inside am (am + 1) w2 w3 := (in_below (lo := am) (hi := am + 1) (w := w2) (by first | exact Below.refl _ _ | exact (Below.refl _ _).drew)).trans hin3; have HG3 := Lib.hid (HG2.out.classes hin3' hm3 hf3); have HI3 := Lib.hid (HI2.out.trans hin3'); have c3 := HG3.out.c1; clear hin3 hin3' hm3 hf3)
          | (go_at_call 96; refine (leaderN_any am MA rep dp a _ (by first | exact HG.out.ma | exact HG.out.ma.kept (Below.refl _ _).drew) HG.out.un).mono ?_; rintro e w2 ⟨rfl, hin2, M2, hm2, hf2⟩; rw [HRA.out]; have hin2' : Inside am (am + 1) w w2 := (in_below (lo := am) (hi := am + 1) (w := w) (by first | exact Below.refl _ _ | exact (Below.refl _ _).drew)).trans hin2; have HG2 := Lib.hid (HG.out.classes hin2' hm2 hf2); have HI2 := Lib.hid hin2'; have c2 := HG2.out.c1; clear hin2 hin2' hm2 hf2))
      obtain ⟨W4, hW4⟩ : ∃ W, w3.alloc (.cells #[] 124) = W := ⟨_, rfl⟩
      have hB4 : Below w3.heap.size w3 W4 := by rw [← hW4]; exact (Below.refl _ _).alloc (Nat.le_refl _) _
      have HG4 := Lib.hid (HG3.out.kept hB4)
      have HI4 := Lib.hid (HI3.out.trans (in_below hB4))
      have k0 := HG3.out.c0
      have ka := HG3.out.at hla
      have kb := HG3.out.at hlb
      have l1 := HG4.out.c1
      clear hB4 c1 c2 c3
      rw [hsb] at kb; unfold shV at kb
      go_wp2_with fail
      go_at_call 97
      refine (joinN_any am M3 rep dp ra rb _ HG4.out.ma HG4.out.un).mono ?_
      rintro e w5 ⟨hin5, (⟨heq, rfl, M5, hm5, hf5⟩ | ⟨hne, rfl, M5, dp5, hm5, hf5⟩)⟩
      · rw [HRAA.out, HRBB.out] at heq
        have HG5 := Lib.hid (HG4.out.classes hin5 hm5 hf5)
        have HI5 := Lib.hid (HI4.out.trans hin5)
        have HQ : Hid (rep a = rep b) := Lib.hid (by rw [HRA.out, HRB.out]; exact heq)
        clear hin5 hm5 hf5 heq
        go_wp2_with fail
        go_ret
        exact ⟨true, rep, dp, M5, rfl, HG5.out, HI5.out, guni_eq HOK.out HA.out HBB.out HQ.out⟩
      · rw [HRAA.out, HRBB.out] at hne
        rw [HRAA.out, HRBB.out] at hf5
        have HG5 := Lib.hid (HG4.out.classes hin5 hm5 hf5)
        have HI5 := Lib.hid (HI4.out.trans hin5)
        have HNE := Lib.hid hne
        have m0 := HG5.out.c0
        have ma := HG5.out.at hla
        have mb := HG5.out.at hlb
        clear hin5 hm5 hf5 hne k0 ka kb l1
        rw [hsb] at mb; unfold shV at mb
        rcases hsa : sh ra with _ | _ | ⟨k1, l1, r1⟩
        · rw [hsa] at ma; unfold shV at ma
          obtain ⟨W6, hW6⟩ : ∃ W, w5.alloc (.cells #[] 122) = W := ⟨_, rfl⟩
          have hB6 : Below w5.heap.size w5 W6 := by rw [← hW6]; exact (Below.refl _ _).alloc (Nat.le_refl _) _
          have HG6 := Lib.hid (HG5.out.kept hB6)
          have HI6 := Lib.hid (HI5.out.trans (in_below hB6))
          have n06 := HG6.out.c0
          have nb6 := HG6.out.at hlb
          rw [hsb] at nb6; unfold shV at nb6
          obtain ⟨W7, hW7⟩ : ∃ W, W6.alloc (.cells #[] 122) = W := ⟨_, rfl⟩
          have hB7 : Below W6.heap.size W6 W7 := by rw [← hW7]; exact (Below.refl _ _).alloc (Nat.le_refl _) _
          have HG7 := Lib.hid (HG6.out.kept hB7)
          have HI7 := Lib.hid (HI6.out.trans (in_below hB7))
          have n07 := HG7.out.c0
          have nb7 := HG7.out.at hlb
          go_wp2_with fail
          go_ret
          exact ⟨false, _, _, _, rfl, HG7.out, HI7.out, GUni.lead HA.out HBB.out (by rw [HRA.out, HRB.out]; exact guni_clash HOK.out hla hlb HRAA.out HRBB.out HNE.out (by rw [hsa, hsb]; trivial))⟩
        · rw [hsa] at ma; unfold shV at ma
          go_wp2_with fail
          go_ret
          exact ⟨true, _, _, _, rfl, HG5.out, HI5.out, GUni.lead HA.out HBB.out (by rw [HRA.out, HRB.out]; exact guni_var HOK.out hla hlb HRAA.out HRBB.out HNE.out hsa)⟩
        · rw [hsa] at ma; unfold shV at ma
          obtain ⟨W6, hW6⟩ : ∃ W, w5.alloc (.cells #[.int .i64 k1, .int .i64 (l1 : Int), .int .i64 (r1 : Int)] 126) = W := ⟨_, rfl⟩
          have hB6 : Below w5.heap.size w5 W6 := by rw [← hW6]; exact (Below.refl _ _).alloc (Nat.le_refl _) _
          have HG6 := Lib.hid (HG5.out.kept hB6)
          have HI6 := Lib.hid (HI5.out.trans (in_below hB6))
          have n06 := HG6.out.c0
          have nb6 := HG6.out.at hlb
          rw [hsb] at nb6; unfold shV at nb6
          obtain ⟨W7, hW7⟩ : ∃ W, W6.alloc (.cells #[.int .i64 k2, .int .i64 (l2 : Int), .int .i64 (r2 : Int)] 126) = W := ⟨_, rfl⟩
          have hB7 : Below W6.heap.size W6 W7 := by rw [← hW7]; exact (Below.refl _ _).alloc (Nat.le_refl _) _
          have HG7 := Lib.hid (HG6.out.kept hB7)
          have HI7 := Lib.hid (HI6.out.trans (in_below hB7))
          have n07 := HG7.out.c0
          have nb7 := HG7.out.at hlb
          have hz5 : w5.heap.size < W6.heap.size := by rw [← hW6]; simp
          have hz6 : W6.heap.size < W7.heap.size := by rw [← hW7]; simp
          obtain ⟨T5, hT5⟩ : ∃ T, w5.heap.size = T := ⟨_, rfl⟩
          obtain ⟨T6, hT6⟩ : ∃ T, W6.heap.size = T := ⟨_, rfl⟩
          have hX5 : TBox W7 T5 (.int .i64 k1) (.int .i64 (l1 : Int)) (.int .i64 (r1 : Int)) := by
            rw [← hT5]
            have h := tbox_new w5 (.int .i64 k1) (.int .i64 (l1 : Int)) (.int .i64 (r1 : Int)) 126
            rw [hW6] at h
            exact h.kept hB7
          have hX6 : TBox W7 T6 (.int .i64 k2) (.int .i64 (l2 : Int)) (.int .i64 (r2 : Int)) := by
            rw [← hT6]
            have h := tbox_new W6 (.int .i64 k2) (.int .i64 (l2 : Int)) (.int .i64 (r2 : Int)) 126
            rw [hW7] at h
            exact h
          have HX5 := Lib.hid hX5
          have HX6 := Lib.hid hX6
          obtain ⟨p0, p1, p2, pz⟩ := hX5
          obtain ⟨q0, q1, q2, qz⟩ := hX6
          obtain ⟨kk1, kl1, kr1⟩ := HOK.out.kid ra k1 l1 r1 hla hsa
          obtain ⟨kk2, kl2, kr2⟩ := HOK.out.kid rb k2 l2 r2 hlb hsb
          have HKL1 := Lib.hid kl1
          have HKL2 := Lib.hid kl2
          have HKR1 := Lib.hid kr1
          have HKR2 := Lib.hid kr2
          have HSA := Lib.hid hsa
          have HSB := Lib.hid hsb
          have ham : am < T5 := by have := HG5.out.ma.lt; omega
          have ht56 : T5 < T6 := by omega
          have ht67 : T6 < W7.heap.size := by omega
          clear hB6 hB7 kl1 kl2 kr1 kr2 hsa hsb
          by_cases hk : k1 = k2
          · subst hk
            have hkb : (k1 == k1) = true := by simp
            go_wp2_with fail
            refine (HIH.out l1 l2 (repU rep ra rb) dp5 M5 W7 (by have := repU_cls hla HRAA.out HRBB.out HNE.out; have := HC.out; omega) HKL1.out HKL2.out (repU_ok HOK.out hla hlb HRBB.out HNE.out) HG7.out).mono ?_
            rintro e w8 ⟨r8, rep8, dp8, M8, rfl, hg8, hi8, hu8⟩
            have HG8 := Lib.hid hg8
            have HI8 := Lib.hid (HI7.out.trans hi8)
            have HU8 := Lib.hid hu8
            obtain ⟨p0', p1', p2', pz'⟩ := HX5.out.away hi8 (.inr (by omega))
            obtain ⟨q0', q1', q2', qz'⟩ := HX6.out.away hi8 (.inr (by omega))
            clear hg8 hi8 hu8 hW6 hW7
            rcases r8 with _ | _
            · go_wp2_with fail
              go_ret
              exact ⟨false, rep8, dp8, M8, rfl, HG8.out, HI8.out, GUni.lead HA.out HBB.out (by rw [HRA.out, HRB.out]; exact guni_join_no HOK.out hla hlb HRAA.out HRBB.out HNE.out HSA.out HSB.out HU8.out)⟩
            · go_wp2_with fail
              refine (HIH.out r1 r2 rep8 dp8 M8 w8 (by have := repU_cls hla HRAA.out HRBB.out HNE.out; have := HC.out; have := HU8.out.cl; omega) HKR1.out HKR2.out HU8.out.ok HG8.out).mono ?_
              rintro e w9 ⟨r9, rep9, dp9, M9, rfl, hg9, hi9, hu9⟩
              have HG9 := Lib.hid hg9
              have HI9 := Lib.hid (HI8.out.trans hi9)
              have HU9 := Lib.hid hu9
              clear hg9 hi9 hu9
              go_wp2_with fail
              go_ret
              exact ⟨r9, rep9, dp9, M9, rfl, HG9.out, HI9.out, GUni.lead HA.out HBB.out (by rw [HRA.out, HRB.out]; exact guni_join HOK.out hla hlb HRAA.out HRBB.out HNE.out HSA.out HSB.out HU8.out HU9.out)⟩
          · have hkb : (k1 == k2) = false := by rw [beq_eq_false_iff_ne]; exact hk
            have HKN := Lib.hid hk
            clear hk
            go_wp2_with fail
            go_ret
            exact ⟨false, _, _, _, rfl, HG7.out, HI7.out, GUni.lead HA.out HBB.out (by rw [HRA.out, HRB.out]; exact guni_clash HOK.out hla hlb HRAA.out HRBB.out HNE.out (by rw [HSA.out, HSB.out]; exact HKN.out))⟩

end Go.Proofs.Ytndpoejohpmifaa.Mx

