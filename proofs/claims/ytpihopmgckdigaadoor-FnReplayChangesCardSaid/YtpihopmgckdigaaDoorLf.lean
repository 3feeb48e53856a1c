/-
  The files of a workspace in the order of their names: inOrder and its closure.
-/
import Derived.Test.YtpihopmgckdigaaDoorLe
import Derived.Test.YtpihopmgckdigaaDoorIter
import Derived.Test.YtpihopmgckdigaaDoorRa
import Derived.Test.YtpihopmgckdigaaDoorVd
import Derived.Test.YtpihopmgckdigaaDoorVf
import Derived.Maps.StringElems
import Derived.Maps.OwnIn
import Derived.StringKeys
namespace Go.Proofs.YtpihopmgckdigaaDoor
open Go.RowKit Go.Maps Go.Sort Go.Shelf Go.WideMaps
attribute [local go_sem] Oper.semAt_some
set_option linter.unusedVariables false
set_option linter.unusedSimpArgs false

/-- A map of texts by names. -/
def IsWs (w : World) (bm n : Nat) (D : DataW Unit) : Prop := w.ownsMap Tryd.prog 9 (plainElem Tryd.prog 9) bm n D
theorem IsWs.kept {w w' : World} {bm n : Nat} {D : DataW Unit} (h : IsWs w bm n D) (e : w'.heap[bm]? = w.heap[bm]?) : IsWs w' bm n D := by
  obtain ⟨es, clock, hb, F, hs, hD⟩ := h
  exact ⟨es, clock, e.trans hb, F, hs, hD⟩
/-- The names, in order. -/
def keysD (D : DataW Unit) : List (List UInt8) := (strKeys D).mergeSort leB
/-- The text at a name. -/
def txtD (D : DataW Unit) (k : List UInt8) : ByteArray := match D.atKey (.string k) (.lit (.string [])) with
  | .lit (.string t) => ⟨t.toArray⟩
  | _ => ⟨#[]⟩
theorem wsLaw : Keyed Tryd.prog 9 := string_keyed Tryd.underlying9
theorem zeroS (w : World) : (zeroValue 9).run Tryd.prog w = .ok (.string ⟨#[]⟩) w := by kernel_rfl
theorem txt_size {D : DataW Unit} {w : World} {bm n : Nat} (h : IsWs w bm n D) {k : List UInt8} (hk : k.length ≤ maxLen) :
    (Instr.lookup 68 (.map (some bm)) (.string ⟨k.toArray⟩) false).run Tryd.prog w = .ok (.string (txtD D k)) w ∧ (txtD D k).size ≤ maxLen := by
  have hz : plainElem (H := Unit) Tryd.prog 9 (.string ⟨#[]⟩) = some (.lit (.string []), []) := plainElem_string Tryd.underlying9 (Nat.zero_le _)
  have hkey : keyOf Tryd.prog 9 (.string ⟨k.toArray⟩) = some (.string k) := by
    have := keyOf_string_mk (P := Tryd.prog) Tryd.underlying9 (s := ⟨k.toArray⟩) (by simpa [ByteArray.size] using hk)
    simpa using this
  obtain ⟨v, ps, hrun, hv⟩ := World.ownsMap.lookup h wsLaw Tryd.underlying68 (zeroS w) hz hkey
  obtain ⟨s, rfl, he, hs⟩ := plainElem_string_inv Tryd.underlying9 hv
  have he1 : D.atKey (.string k) (.lit (.string [])) = .lit (.string s.data.toList) := by injection he
  have ht : txtD D k = s := by unfold txtD; rw [he1]
  rw [ht]
  exact ⟨hrun, hs⟩
theorem keys_le {D : DataW Unit} {w : World} {bm n : Nat} (h : IsWs w bm n D) : ∀ k ∈ keysD D, k.length ≤ maxLen := fun k hk =>
  strKeys_le h Tryd.underlying9 k (List.mem_mergeSort.1 hk)
theorem keys_len {D : DataW Unit} {w : World} {bm n : Nat} (h : IsWs w bm n D) : (keysD D).length ≤ n := by
  have h1 : (keysD D).length = Maps.size D := by
    obtain ⟨es, _, _, _, _, rfl⟩ := h
    unfold keysD; rw [List.length_mergeSort]; unfold strKeys Maps.size; simp
  rw [h1]
  exact World.ownsMap.size_le h
set_option maxRecDepth 100000 in
set_option maxHeartbeats 1000000 in
theorem inOrder_any (bm : Nat) (w : World) :
    Calls Tryd.prog 51 #[.map (some bm)] w fun e w' => e = .returned (.func (.func 75) #[] #[.pointer (some ⟨w.heap.size, 0, none⟩)]) ∧ w' = w.alloc (.cells #[.map (some bm)] 68) := by
  go_enter Tryd.func51, Tryd.ntmps51
  go_wp2
  go_ret
  exact ⟨rfl, rfl⟩
/-- What the closure reads: the box of the map, the map, and what lies behind. -/
def RdW (A bm B r : Nat) : Prop := r = A ∨ r = bm ∨ B ≤ r
def NoW (_ _ : Nat) : Prop := False
/-- What the closure hands to its body. -/
def encW (D : DataW Unit) (k : List UInt8) : Array Value := #[.string ⟨k.toArray⟩, .string (txtD D k)]
theorem abides_below {J : List (List UInt8) → World → Prop} {D : Nat → Prop} {B : Nat} {W W' : World} {xs : List (List UInt8)} (hJ : AbidesD D B J) (hb : Below W.heap.size W W') (h : J xs W) : J xs W' :=
  hJ xs W W' none h ⟨hb.os, hb.tape, hb.output, hb.size, fun k hk _ => hb.block k hk⟩ (fun r e => by cases e)
theorem take_sn {α : Type} {K : List α} {k : Nat} (h : k < K.length) : K.take (k + 1) = K.take k ++ [K[k]] := by simp [List.take_append_getElem]
/-- The keys as strings. -/
def strB (k : List UInt8) : ByteArray := ⟨k.toArray⟩
set_option maxRecDepth 100000 in
set_option maxHeartbeats 4000000 in
theorem inOrder1_in (n l A bm nn : Nat) (D : DataW Unit) (J Jx : List (List UInt8) → World → Prop) (W : World) (hA : A < W.heap.size) (hbm : bm < W.heap.size)
    (hJ : AbidesD (NoW W.heap.size) W.heap.size J)
    (hY : ∀ pre x W1, J pre W1 → (pre ++ [x]) <+: keysD D → YieldAt Fence.wide (n - 1) Tryd.prog l (encW D x) W1 fun e W' =>
      (e = .returned (.bool true) ∧ J (pre ++ [x]) W' ∧ KeepsAt (RdW A bm W.heap.size) W1 W') ∨ (e = .returned (.bool false) ∧ Jx (pre ++ [x]) W' ∧ KeepsAt (RdW A bm W.heap.size) W1 W'))
    (hc : W.cell? ⟨A, 0, none⟩ = some (.map (some bm))) (hws : IsWs W bm nn D) (hnn : nn ≤ 1000) (h0 : J [] W) :
    CallsIn Fence.wide n Tryd.prog 75 #[.func (.yield l) #[] #[], .pointer (some ⟨A, 0, none⟩)] W fun e W' =>
      (∃ v, e = .returned v) ∧ ((∃ xs, xs = keysD D ∧ J xs W') ∨ (∃ pre : List (List UInt8), pre <+: keysD D ∧ Jx pre W')) := by
  have hsz : Maps.size D ≤ nn := World.ownsMap.size_le hws
  have HSM : Hid (Maps.size D ≤ maxLen) := Lib.hid (by unfold maxLen; omega)
  have HSB : Hid (Maps.size D * 16 ≤ 140737488355328) := Lib.hid (by omega)
  have HWS := Lib.hid hws
  obtain ⟨K, hK⟩ : ∃ K, keysD D = K := ⟨_, rfl⟩
  rw [hK] at hY ⊢
  refine callsIn_of_wp Tryd.func75 rfl trivial ?_ rfl
  simp only [Tryd.ntmps75, List.size_toArray, List.length_cons, List.length_nil, Nat.reduceAdd, Nat.reduceSub, Array.replicate_succ, Array.replicate_zero, List.push_toArray, List.append_toArray, List.nil_append, List.cons_append]
  gi_wp2_with (first
    | (refine ⟨trivial, fun h => Bool.noConfusion h, ?_⟩; gi_at_call 77; refine (callsIn_wide.2 (callsIn_wide.1 (Tryd.maps_Keys_77 _ _))).mono ?_; rintro e w' ⟨rfl, rfl⟩)
    | (refine ⟨trivial, fun h => Bool.noConfusion h, ?_⟩; gi_at_call 76; refine (callsIn_wide.2 (callsIn_wide.1 (Tryd.slices_Sorted_keys_76_77 bm nn D _ _ HWS.out HSM.out HSB.out))).mono ?_; rintro e W2 ⟨v, ss, rfl, hS, hrow, hnil, hb⟩; obtain ⟨av, cv, rfl⟩ := owns_slice hrow; clear hnil))
  obtain ⟨L, hL⟩ : ∃ L, K.length = L := ⟨_, rfl⟩
  have HKD := Lib.hid hK
  have HL := Lib.hid hL
  have hKL : L ≤ 1000 := by have := keys_len hws; rw [hK, hL] at this; omega
  have hle : ∀ k ∈ K, k.length ≤ maxLen := by rw [← hK]; exact keys_le hws
  have HLE := Lib.hid hle
  have hssl : ss.length = L := by rw [← hL, ← hK]; unfold keysD; rw [List.length_mergeSort]; exact hS.length_eq
  have hsk : (ss.mergeSort fun x y => decide (x ≤ y)) = K := by rw [← hK]; exact mergeSort_of_perm hS
  obtain ⟨W1, hW1⟩ : ∃ W1, W.alloc (.cells #[.map (some bm)] 68) = W1 := ⟨_, rfl⟩
  have hz1 : W1.heap.size = W.heap.size + 1 := by rw [← hW1]; simp
  have hb01 : Below W.heap.size W W1 := by rw [← hW1]; exact (Below.refl _ _).alloc (Nat.le_refl _) _
  rw [hsk, hssl] at hrow
  rw [hW1] at hrow hb
  have hb02 : Below W.heap.size W W2 := hb01.trans (hb.mono (by omega))
  have HROW : Hid (W2.ownsRow W1.heap.size 9 1 (.slice av (K.map strB).length cv) (K.map strB).length ((K.map strB).map Value.string)) := Lib.hid (by
    rw [List.length_map, hL, List.map_map]; exact hrow)
  have hJ2 : J [] W2 := abides_below hJ hb02 h0
  have HB02 := Lib.hid hb02
  have HC2 : Hid (W2.cell? ⟨A, 0, none⟩ = some (.map (some bm))) := Lib.hid ((hb02.cell (p := ⟨A, 0, none⟩) hA).trans hc)
  have HWS2 : Hid (IsWs W2 bm nn D) := Lib.hid (hws.kept (hb02.block bm hbm))
  rw [hssl]
  clear hS hrow hsk hssl hb hb01 hW1 hws hc h0 hK hle hL
  gi_loopw [9] (fun i wr => ∃ k : Nat, k ≤ L ∧ i = .int .i64 k ∧ J (K.take k) wr ∧ Hid (KeepsAt (RdW A bm W.heap.size) W2 wr)) (fun i _ => L - (intOf i).toNat)
  case atStart => exact ⟨0, Nat.zero_le _, rfl, by rw [List.take_zero]; exact hJ2, Lib.hid (KeepsAt.refl _ _)⟩
  case round =>
    obtain ⟨k, hk, rfl, hJs, HKP⟩ := hrel
    have hs2 := HB02.out.size
    by_cases hlt : k < L
    · have hki : (k : Int) < (L : Int) := by omega
      have hkK : k < K.length := by rw [HL.out]; exact hlt
      obtain ⟨b, cap, ev, hnb, hbl, c1⟩ := row_str HROW.out k (by rw [List.length_map]; exact hkK)
      have ev1 : av = some ⟨b, 0, none⟩ := by injection ev
      subst ev1
      have hsn := take_sn hkK
      obtain ⟨y, hy⟩ : ∃ y, K[k] = y := ⟨_, rfl⟩
      rw [hy] at hsn
      have c2 : wr.cell? ⟨b, k, none⟩ = some (.string ⟨y.toArray⟩) := by
        refine (cell_same (HKP.out.same b (.inr (.inr (by omega))) hbl)).trans ?_
        rw [c1]
        have e : (K.map strB).getD k ⟨#[]⟩ = strB y := by simp [List.getD, hkK, hy]
        rw [e]; rfl
      have cA : wr.cell? ⟨A, 0, none⟩ = some (.map (some bm)) := (cell_same (HKP.out.same A (.inl rfl) (by omega))).trans HC2.out
      have hws3 : IsWs wr bm nn D := HWS2.out.kept (HKP.out.same bm (.inr (.inl rfl)) (by omega))
      obtain ⟨hlk, _⟩ := txt_size hws3 (HLE.out y (by rw [← hy]; exact List.getElem_mem hkK))
      obtain ⟨fn, tmps, assign, body, hyy, hR⟩ := hY (K.take k) y wr hJs (by rw [← hsn]; exact List.take_prefix _ _)
      have HSN := Lib.hid hsn
      unfold encW at hyy
      clear ev hsn hy c1 hws3 hJs
      gi_wp2
      refine ⟨fun h => Bool.noConfusion h, ?_⟩
      refine hR.mono ?_
      rintro e W3 (⟨rfl, hJ3, hk3⟩ | ⟨rfl, hJx3, _⟩)
      · have HK3 := Lib.hid (HKP.out.trans hk3)
        have HJ3 : Hid (J (K.take (k + 1)) W3) := Lib.hid (by rw [HSN.out]; exact hJ3)
        clear hk3 hJ3
        gi_wp2
        go_roundw
        case rel => exact ⟨k + 1, by omega, by go_num, HJ3.out, HK3⟩
        case measure => simp [intOf]; omega
      · gi_wp2
        refine bodyPost_ret (results_none rfl _ _ _) rfl ?_
        exact ⟨⟨_, rfl⟩, .inr ⟨_, by rw [← HSN.out]; exact List.take_prefix _ _, hJx3⟩⟩
    · have hki : ¬ (k : Int) < (L : Int) := by omega
      have HJE : Hid (J K wr) := Lib.hid (by
        rw [List.take_of_length_le (by rw [HL.out]; omega)] at hJs; exact hJs)
      clear hlt
      gi_wp2
      go_end0
      first | exact ⟨⟨_, rfl⟩, .inl HJE.out⟩ | exact ⟨⟨_, rfl⟩, .inl ⟨_, rfl, HJE.out⟩⟩
theorem inOrder1_stops (n A bm nn : Nat) (D : DataW Unit) (w : World) (hA : A < w.heap.size) (hbm : bm < w.heap.size) (hc : w.cell? ⟨A, 0, none⟩ = some (.map (some bm))) (hws : IsWs w bm nn D) (hnn : nn ≤ 1000) :
    SeqStopsE Fence.wide n Tryd.prog 75 #[.pointer (some ⟨A, 0, none⟩)] (encW D) NoW (RdW A bm) (fun xs => xs = keysD D) (fun pre => pre <+: keysD D) (fun pre => pre <+: keysD D) (fun _ _ => True) w := by
  intro l J Jx W hl hl2 hk hJ hJx hY h0
  have hs := hk.size
  exact inOrder1_in n l A bm nn D J Jx W (by omega) (by omega) hJ (fun pre x W1 h1 h2 => hY pre x W1 h1 h2 trivial)
    ((cell_same (hk.same A (.inl rfl) hA)).trans hc) (hws.kept (hk.same bm (.inr (.inl rfl)) hbm)) hnn h0
end Go.Proofs.YtpihopmgckdigaaDoor
