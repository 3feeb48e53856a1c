/-
The graph of types of the program in memory: its nodes, the classes of nodes, the nodes of variables.
The reader of drawn bytes (l16Rd) in memory, and what 'pick' returns: a number from 0 to n - 1, whatever the bytes; only the reader's counter changes.
  Conditions: at most 2000 bytes, n from 1 to 1000000, fewer than 1000000 picks before.
The reader of drawn bytes, without draws of texts: what 'num' returns; the opening of a reader. Only the reader's counter changes.
-/
import Derived.Test.YtjhccdioainibaaW14
import Derived.Test.YtjhccdioainibaaW8
import Derived.Deep.AppendLies
import Derived.Test.YtjhccdioainibaaProg
import Derived.Test.YtjhccdioainibaaW1
import Derived.Deep.QuietTactic
import Derived.BigQuiet
import Derived.IntWalk
import Derived.Deep.RegionHeld3
import Derived.Deep.RegionWith
import Derived.OpenShut
namespace Go.Proofs.Ytjhccdioainibaa.Mx
open Go.Proofs.Ytjhccdioainibaa
open Go.RowKit
set_option linter.unusedVariables false
set_option linter.unusedSimpArgs false

theorem own_one {w w' : World} {n0 sz n : Nat} {e : TypeId} {v : Value} {xs : List Value} (h : w.ownsRow n0 e sz v n xs) (hk : ∀ g, v.ownBlock = some g → w'.heap[g]? = w.heap[g]?) : w'.ownsRow n0 e sz v n xs := by
  obtain ⟨hl, h | ⟨g, cap, cur, rfl, hb', ho, h1, h2, h3, h4⟩⟩ := h
  · exact ⟨hl, .inl h⟩
  · exact ⟨hl, .inr ⟨g, cap, cur, rfl, hb', (hk g rfl).trans ho, h1, h2, h3, h4⟩⟩
/-- A node's shape as a value. -/
def shV : Sh → Value
  | .num => .iface 101 (.agg #[])
  | .var => .iface 103 (.agg #[])
  | .join k l r => .iface 105 (.agg #[.int .i64 k, .int .i64 (l : Int), .int .i64 (r : Int)])
def shL (sh : Nat → Sh) (M : Nat) : List Value := (List.range M).map fun i => shV (sh i)
theorem shL_len (sh : Nat → Sh) (M : Nat) : (shL sh M).length = M := by simp [shL]
theorem shL_get (sh : Nat → Sh) (M n : Nat) (h : n < M) : (shL sh M)[n]? = some (shV (sh n)) := by simp [shL, h]
/-- One more node. -/
def shP (sh : Nat → Sh) (M : Nat) (s : Sh) : Nat → Sh := fun n => if n = M then s else sh n
theorem shP_new (sh : Nat → Sh) (M : Nat) (s : Sh) : shP sh M s M = s := by unfold shP; rw [if_pos rfl]
theorem shP_old (sh : Nat → Sh) {M n : Nat} (s : Sh) (h : n < M) : shP sh M s n = sh n := by unfold shP; rw [if_neg (by omega)]
theorem shL_push (sh : Nat → Sh) (M : Nat) (s : Sh) : shL (shP sh M s) (M + 1) = shL sh M ++ [shV s] := by
  unfold shL
  rw [List.range_succ, List.map_append]
  congr 1
  · apply List.map_congr_left
    intro i hi
    rw [shP_old sh s (List.mem_range.1 hi)]
  · simp [shP_new]
/-- The map has the nodes of variables. -/
def VR (MV : List IV) (vm : Int → Option Nat) : Prop := ∀ v : Int, look v MV = (vm v).map fun m => .int .i64 (m : Int)
/-- The graph in memory: in block gb, its classes in the map am, the nodes of variables in the map vb, the shapes in the row sv. -/
structure GM (w : World) (n0 gb am vb M : Nat) (sh : Nat → Sh) (rep dp : Nat → Nat) (vm : Int → Option Nat) (sv : Value) (MA MV : List IV) : Prop where
  c0 : w.cell? ⟨gb, 0, none⟩ = some sv
  c1 : w.cell? ⟨gb, 1, none⟩ = some (.map (some am))
  c2 : w.cell? ⟨gb, 2, none⟩ = some (.map (some vb))
  f0 : w.frozen? ⟨gb, 0, none⟩ = false
  gl : gb < w.heap.size
  own : w.ownsRow n0 109 1 sv M (shL sh M)
  ma : IMap w am MA
  un : UN MA rep dp
  mv : IMap w vb MV
  vr : VR MV vm
  lo : n0 ≤ gb ∧ n0 ≤ am ∧ n0 ≤ vb
  d1 : am ≠ gb ∧ vb ≠ gb ∧ vb ≠ am
  d2 : ∀ g, sv.ownBlock = some g → g ≠ gb ∧ g ≠ am ∧ g ≠ vb
/-- Only the graph's blocks have changed; its row is the one that it was, or a new one. -/
structure GK (gb am vb : Nat) (sv : Value) (w w' : World) (sv' : Value) : Prop where
  os : w'.os = w.os
  tape : w'.tape = w.tape
  output : w'.output = w.output
  size : w.heap.size ≤ w'.heap.size
  block : ∀ b, b < w.heap.size → b ≠ gb → b ≠ am → b ≠ vb → sv.ownBlock ≠ some b → w'.heap[b]? = w.heap[b]?
  row : ∀ g, sv'.ownBlock = some g → sv.ownBlock = some g ∨ w.heap.size ≤ g
theorem GK.refl (gb am vb : Nat) (sv : Value) (w : World) : GK gb am vb sv w w sv := ⟨rfl, rfl, rfl, Nat.le_refl _, fun _ _ _ _ _ _ => rfl, fun g h => .inl h⟩
theorem GK.trans {gb am vb : Nat} {s1 s2 s3 : Value} {a b c : World} (h : GK gb am vb s1 a b s2) (k : GK gb am vb s2 b c s3) : GK gb am vb s1 a c s3 where
  os := k.os.trans h.os
  tape := k.tape.trans h.tape
  output := k.output.trans h.output
  size := Nat.le_trans h.size k.size
  block := fun x hx h1 h2 h3 h4 => (k.block x (Nat.lt_of_lt_of_le hx h.size) h1 h2 h3 (fun e => by
    rcases h.row x e with e2 | e2
    · exact h4 e2
    · omega)).trans (h.block x hx h1 h2 h3 h4)
  row := fun g e => by
    rcases k.row g e with e2 | e2
    · exact h.row g e2
    · exact .inr (Nat.le_trans h.size e2)
theorem GK.below {gb am vb : Nat} {sv : Value} {w w' : World} (hb : Below w.heap.size w w') : GK gb am vb sv w w' sv := ⟨hb.os, hb.tape, hb.output, hb.size, fun b h _ _ _ _ => hb.block b h, fun g h => .inl h⟩
theorem GK.inside {gb am vb : Nat} {sv : Value} {w w' : World} (hi : Inside am (am + 1) w w') : GK gb am vb sv w w' sv := ⟨hi.os, hi.tape, hi.output, hi.size, fun b h _ h2 _ _ => hi.block b h (by omega), fun g h => .inl h⟩
/-- What lies below the graph stays. -/
theorem GK.low {w w' : World} {n0 gb am vb M : Nat} {sh : Nat → Sh} {rep dp : Nat → Nat} {vm : Int → Option Nat} {sv sv' : Value} {MA MV : List IV} (hg : GM w n0 gb am vb M sh rep dp vm sv MA MV) (hk : GK gb am vb sv w w' sv') (hn : n0 ≤ w.heap.size) : Below n0 w w' :=
  ⟨hk.os, hk.tape, hk.output, hk.size, fun b h => by
    obtain ⟨h1, h2, h3⟩ := hg.lo
    exact hk.block b (by omega) (by omega) (by omega) (by omega) (fun e => by have := (own_low hg.own e).1; omega)⟩
theorem GM.kept {w w' : World} {n0 gb am vb M : Nat} {sh : Nat → Sh} {rep dp : Nat → Nat} {vm : Int → Option Nat} {sv : Value} {MA MV : List IV} (hg : GM w n0 gb am vb M sh rep dp vm sv MA MV) (hb : Below w.heap.size w w') : GM w' n0 gb am vb M sh rep dp vm sv MA MV :=
  ⟨(hb.cell (p := ⟨gb, 0, none⟩) hg.gl).trans hg.c0, (hb.cell (p := ⟨gb, 1, none⟩) hg.gl).trans hg.c1, (hb.cell (p := ⟨gb, 2, none⟩) hg.gl).trans hg.c2, (hb.frozen (p := ⟨gb, 0, none⟩) hg.gl).trans hg.f0, Nat.lt_of_lt_of_le hg.gl hb.size, own_below hg.own hb, hg.ma.kept hb, hg.un, hg.mv.kept hb, hg.vr, hg.lo, hg.d1, hg.d2⟩
/-- A change of the classes alone. -/
theorem GM.classes {w w' : World} {n0 gb am vb M : Nat} {sh : Nat → Sh} {rep dp : Nat → Nat} {vm : Int → Option Nat} {sv : Value} {MA MV : List IV} (hg : GM w n0 gb am vb M sh rep dp vm sv MA MV) (hi : Inside am (am + 1) w w') {MA' : List IV} {rep' dp' : Nat → Nat} (hm : IMap w' am MA') (hu : UN MA' rep' dp') : GM w' n0 gb am vb M sh rep' dp' vm sv MA' MV := by
  obtain ⟨d1, d2, d3⟩ := hg.d1
  have eg := hi.block gb hg.gl (by omega)
  refine ⟨(cellEq eg).trans hg.c0, (cellEq eg).trans hg.c1, (cellEq eg).trans hg.c2, (frozenEq eg).trans hg.f0, Nat.lt_of_lt_of_le hg.gl hi.size, own_one hg.own (fun g e => hi.block g (own_low hg.own e).2 (by have := (hg.d2 g e).2.1; omega)), hm, hu, hg.mv.keep (hi.block vb hg.mv.lt (by omega)), hg.vr, hg.lo, hg.d1, hg.d2⟩
theorem infoShape : (Try.prog.info? 109).map (fun i => (i.zero, i.size, i.bytes)) = some (some .nilIface, 1, 16) := by kernel_rfl

set_option maxRecDepth 100000 in
set_option maxHeartbeats 4000000 in
theorem newGraph_any (w : World) : Calls Try.prog 29 #[] w fun e w' => ∃ gb am vb, e = .returned (.pointer (some ⟨gb, 0, none⟩)) ∧ GM w' w.heap.size gb am vb 0 (fun _ => .num) id (fun _ => 0) (fun _ => none) (.slice none 0 0) [] [] ∧ Below w.heap.size w w' := by
  have hmm := @run_makeMap Try.prog
  go_enter Try.func29, Try.ntmps29
  go_wp2_with fail
  go_at_call 60
  refine (newUN_any w).mono ?_
  rintro e w1 ⟨rfl, him, hb1, hz1⟩
  have HM := Lib.hid him
  have HB := Lib.hid hb1
  have HZ := Lib.hid hz1
  obtain ⟨W2, hW2⟩ : ∃ W, w1.alloc (.map #[] 0) = W := ⟨_, rfl⟩
  obtain ⟨W3, hW3⟩ : ∃ W, W2.alloc (.cells #[.slice none 0 0, .map (some (w.heap.size + 1)), .map (some w1.heap.size)] 98) = W := ⟨_, rfl⟩
  have hb2 : Below w1.heap.size w1 W2 := by rw [← hW2]; exact (Below.refl _ _).alloc (Nat.le_refl _) _
  have hb3 : Below W2.heap.size W2 W3 := by rw [← hW3]; exact (Below.refl _ _).alloc (Nat.le_refl _) _
  have hz2 : W2.heap.size = w1.heap.size + 1 := by rw [← hW2]; simp
  have hG : Hid (GM W3 w.heap.size (w1.heap.size + 1) (w.heap.size + 1) w1.heap.size 0 (fun _ => .num) id (fun _ => 0) (fun _ => none) (.slice none 0 0) [] []) := Lib.hid (by
    have hz := HZ.out
    refine ⟨?_, ?_, ?_, ?_, ?_, ?_, (HM.out.kept hb2).kept hb3, UN.new, ?_, fun v => rfl, ⟨by omega, by omega, by omega⟩, ⟨by omega, by omega, by omega⟩, fun g e => by (cases e)⟩
    · rw [← hW3, ← hz2]; go_simp
    · rw [← hW3, ← hz2]; go_simp
    · rw [← hW3, ← hz2]; go_simp
    · rw [← hW3, ← hz2]; go_simp
    · rw [← hW3]; simp [hz2]
    · exact World.ownsRow_nil _ _ _ _
    · have h := imap_new w1
      rw [hW2] at h
      exact h.kept hb3)
  have HBB : Hid (Below w.heap.size w W3) := Lib.hid ((HB.out.trans (hb2.mono HB.out.size)).trans (hb3.mono (by have := HB.out.size; omega)))
  have HW2 := Lib.hid hW2
  have HW3 := Lib.hid hW3
  clear him hb1 hz1 hb2 hb3 hW2 hW3
  go_wp2_with fail
  rw [HW2.out, HW3.out]
  go_ret
  exact ⟨w1.heap.size + 1, w.heap.size + 1, w1.heap.size, rfl, hG.out, HBB.out⟩
/-- The graph behind one more node. -/
theorem GM.push {w w3 : World} {n0 gb am vb M : Nat} {sh : Nat → Sh} {rep dp : Nat → Nat} {vm : Int → Option Nat} {sv : Value} {MA MV : List IV} (hg : GM w n0 gb am vb M sh rep dp vm sv MA MV) (s : Sh) {o : Obj} {g cap : Nat}
    (hown : w3.ownsRow n0 109 1 (.slice (some ⟨g, 0, none⟩) (M + 1) cap) (M + 1) (shL sh M ++ [shV s])) (hgrow : (w.alloc o).grownBy w3 sv.ownBlock) (hat : sv.ownBlock = some g ∨ g = w.heap.size + 1) :
    GM (w3.setCell ⟨gb, 0, none⟩ (.slice (some ⟨g, 0, none⟩) (M + 1) cap)) n0 gb am vb (M + 1) (shP sh M s) rep dp vm (.slice (some ⟨g, 0, none⟩) (M + 1) cap) MA MV ∧ GK gb am vb sv w (w3.setCell ⟨gb, 0, none⟩ (.slice (some ⟨g, 0, none⟩) (M + 1) cap)) (.slice (some ⟨g, 0, none⟩) (M + 1) cap) := by
  obtain ⟨d1, d2, d3⟩ := hg.d1
  have hs3 := grow_size hgrow
  have hgl := hg.gl
  have hal := hg.ma.lt
  have hvl := hg.mv.lt
  have old : ∀ q, q < w.heap.size → sv.ownBlock ≠ some q → w3.heap[q]? = w.heap[q]? := fun q h1 h2 => grow_old hgrow h1 (fun g e e2 => h2 (by rw [e, e2]))
  have eg := old gb hgl (fun e => (hg.d2 gb e).1 rfl)
  have hgn : g ≠ gb ∧ g ≠ am ∧ g ≠ vb := by
    rcases hat with e | e
    · exact hg.d2 g e
    · omega
  have set : ∀ q, q ≠ gb → (w3.setCell ⟨gb, 0, none⟩ (.slice (some ⟨g, 0, none⟩) (M + 1) cap)).heap[q]? = w3.heap[q]? := fun q h => heap_setCell_other _ ⟨gb, 0, none⟩ q _ h
  have k0 := (cellEq (i := 0) eg).trans hg.c0
  have k1 := (cellEq (i := 1) eg).trans hg.c1
  have k2 := (cellEq (i := 2) eg).trans hg.c2
  constructor
  · refine ⟨World.cell?_setCell_same' _ _ _ (by rw [k0]; rfl), ?_, ?_, ?_, by simp; omega, ?_, hg.ma.keep ((set am d1).trans (old am hal (fun e => (hg.d2 am e).2.1 rfl))), hg.un, hg.mv.keep ((set vb d2).trans (old vb hvl (fun e => (hg.d2 vb e).2.2 rfl))), hg.vr, hg.lo, hg.d1, fun q e => ?_⟩
    · rw [World.cell?_setCell_other _ _ _ _ (fun e => by injection e with _ e2 _; omega)]; exact k1
    · rw [World.cell?_setCell_other _ _ _ _ (fun e => by injection e with _ e2 _; omega)]; exact k2
    · rw [World.frozen?_setCell]; exact (frozenEq eg).trans hg.f0
    · rw [shL_push]
      exact own_one hown (fun q e => set q (fun e2 => by
        have e : g = q := by simpa [Value.ownBlock] using e
        omega))
    · have e : g = q := by simpa [Value.ownBlock] using e
      subst e
      exact hgn
  · refine ⟨hgrow.os, hgrow.tape, hgrow.output, by simp; omega, fun q h1 h2 h3 h4 h5 => (set q h2).trans (old q h1 h5), fun q e => ?_⟩
    have e : g = q := by simpa [Value.ownBlock] using e
    subst e
    rcases hat with e | e
    · exact .inl e
    · exact .inr (by omega)
set_option maxRecDepth 100000 in
set_option maxHeartbeats 4000000 in
theorem addShape_any (n0 gb am vb M : Nat) (sh : Nat → Sh) (rep dp : Nat → Nat) (vm : Int → Option Nat) (sv : Value) (MA MV : List IV) (s : Sh) (w : World) (hg : GM w n0 gb am vb M sh rep dp vm sv MA MV) (hM : M ≤ 1000000) (hn : n0 ≤ w.heap.size) :
    Calls Try.prog 61 #[.pointer (some ⟨gb, 0, none⟩), shV s] w fun e w' => ∃ sv', e = .returned (.int .i64 (M : Int)) ∧ GM w' n0 gb am vb (M + 1) (shP sh M s) rep dp vm sv' MA MV ∧ GK gb am vb sv w w' sv' := by
  obtain ⟨i0, hi0, hz0, hz1, hz2⟩ := info_parts infoShape
  have HG := Lib.hid hg
  have HN := Lib.hid hn
  obtain ⟨T, u, hx⟩ : ∃ T u, shV s = .iface T u := by cases s <;> exact ⟨_, _, rfl⟩
  have HX := Lib.hid hx
  have c0 := hg.c0
  have f0 := hg.f0
  have h63 : M + 1 ≤ maxLen := by unfold maxLen; omega
  have hby : (M + 1) * 16 ≤ 140737488355328 := by omega
  rw [hx]
  clear hg hn hx
  go_enter Try.func61, Try.ntmps61
  have hbase : ∀ o, n0 ≤ (w.alloc o).heap.size := fun o => by have := HN.out; simp; omega
  go_wp2_with (first | (at_builtin; refine wpList_append_lies _ rfl _ _ 96 rfl n0 109 i0 _ 1 16 Try.underlying96 hi0 hz0 hz1 hz2 rfl (by omega) sv M (shL sh M) rfl (HG.out.kept ((Below.refl _ _).alloc (Nat.le_refl _) _)).own ⟨w.heap.size, 0, none⟩ 1 1 [.iface T u] rfl (by rfl) (World.news_of_block (cs := #[.iface T u]) (t := 109) (fr := (0, 0)) (heap_alloc_new w _)) (by simp [Value.oneCell']) (by omega) h63 hby (hbase _) (w.heap.size + 1) (by simp) ?_; intro g cap3 w3 hown3 hgrow hat hltg; have hpush := HG.out.push s (by rw [HX.out]; exact hown3) hgrow hat; have HP := Lib.hid hpush; have hO := grow_old hgrow (q := gb) HG.out.gl (fun q e e2 => by subst e2; exact (HG.out.d2 gb e).1 rfl); have q0 := (cellEq (i := 0) hO).trans c0; have qf0 := (frozenEq (i := 0) hO).trans f0; clear hown3 hgrow hat hltg hpush hO) | fail)
  go_ret
  exact ⟨_, rfl, HP.out.1, HP.out.2⟩

end Go.Proofs.Ytjhccdioainibaa.Mx

namespace Go.Proofs.Ytjhccdioainibaa
open Go.RowKit

/-- A reader at block B: its bytes (a slice that came in), its counter. -/
structure Rd (w : World) (B : Nat) (a : Option Addr) (len cap : Nat) (zs : List Int) (p : Nat) : Prop where
  c0 : w.cell? ⟨B, 0, none⟩ = some (.slice a len cap)
  c1 : w.cell? ⟨B, 1, none⟩ = some (.int .i64 p)
  fz : w.frozen? ⟨B, 1, none⟩ = false
  row : len = 0 ∨ ∃ cb co, a = some ⟨cb, co, none⟩ ∧ cb < B ∧ ∀ i, i < len → w.cell? ⟨cb, co + i, none⟩ = some (.int .u8 (zs.getD i 0))
  small : ∀ i, 0 ≤ zs.getD i 0 ∧ zs.getD i 0 ≤ 255
  short : len ≤ 2000
  big : B < w.heap.size

theorem bits_xor_i64_nat (a b : Nat) (ha : a < 4611686018427387904) (hb : b < 4611686018427387904) :
    bits .xor .i64 (a : Int) (b : Int) = ((a ^^^ b : Nat) : Int) := by
  have hx : a ^^^ b < 2 ^ 62 := Nat.xor_lt_two_pow (by omega) (by omega)
  have h1 : (BitVec.ofInt 64 (a : Int)).toNat = a := by
    rw [BitVec.ofInt_natCast, BitVec.toNat_ofNat]; exact Nat.mod_eq_of_lt (by omega)
  have h2 : (BitVec.ofInt 64 (b : Int)).toNat = b := by
    rw [BitVec.ofInt_natCast, BitVec.toNat_ofNat]; exact Nat.mod_eq_of_lt (by omega)
  show IntKind.i64.wrap ((BitVec.ofInt 64 (a : Int) ^^^ BitVec.ofInt 64 (b : Int)).toNat : Int) = _
  rw [BitVec.toNat_xor, h1, h2]
  exact IntWalk.i64_in _ (by omega)

theorem xor_mod (X : Nat) (n : Int) (hX : X ≤ 1000000000) (hn : 1 ≤ n) : 0 ≤ (bits .xor .i64 (X : Int) ((X : Int) / 64)).tmod n ∧ (bits .xor .i64 (X : Int) ((X : Int) / 64)).tmod n < n := by
  have e : ((X : Int) / 64) = ((X / 64 : Nat) : Int) := by omega
  rw [e, bits_xor_i64_nat _ _ (by omega) (by omega), Int.tmod_eq_emod_of_nonneg (by omega)]
  exact ⟨Int.emod_nonneg _ (by omega), Int.emod_lt_of_pos _ (by omega)⟩

/-- What 'pick' leaves. -/
def PickPost (w : World) (B p : Nat) (n : Int) (e : Ending) (w' : World) : Prop :=
  ∃ x : Nat, (x : Int) < n ∧ e = .returned (.int .i64 x) ∧ ∃ k, w' = (w.setCell ⟨B, 1, none⟩ (.int .i64 ((p : Int) + 1))).drewN k
theorem pickPost_mk {w : World} {B p : Nat} {n y : Int} {w' : World} (h0 : 0 ≤ y) (h1 : y < n) (k : Nat) (hw : w' = (w.setCell ⟨B, 1, none⟩ (.int .i64 ((p : Int) + 1))).drewN k) : PickPost w B p n (.returned (.int .i64 y)) w' :=
  ⟨y.toNat, by omega, by rw [Int.toNat_of_nonneg h0], k, hw⟩

set_option maxRecDepth 100000 in
set_option maxHeartbeats 1000000 in
theorem pick_any (B : Nat) (a : Option Addr) (len cap : Nat) (zs : List Int) (p : Nat) (n : Int) (w : World) (hr : Rd w B a len cap zs p) (hp : p ≤ 1000000) (hn0 : 1 ≤ n) (hn : n ≤ 1000000) :
    Calls Try.prog 67 #[.pointer (some ⟨B, 0, none⟩), .int .i64 n] w (PickPost w B p n) := by
  obtain ⟨c0, c1, fz, row, small, short, big⟩ := hr
  by_cases h0 : len = 0
  · subst h0
    clear row small
    go_enter Try.func67, Try.ntmps67
    go_wp2
    go_ret
    exact pickPost_mk (Int.le_refl 0) (by omega) 0 rfl
  · obtain ⟨cb, co, rfl, hcb, hcells⟩ : ∃ cb co, a = some ⟨cb, co, none⟩ ∧ cb < B ∧ ∀ i, i < len → w.cell? ⟨cb, co + i, none⟩ = some (.int .u8 (zs.getD i 0)) := by
      rcases row with h | h
      · exact absurd h h0
      · exact h
    have n1 : ¬ cb = B := by omega
    have n2 : ¬ B = cb := by omega
    have l0 : ((len : Int) == 0) = false := by simp; omega
    have l1 : (0 : Int) < len := by omega
    clear row
    by_cases hk : p < len
    · obtain ⟨z, hz⟩ : ∃ z, zs.getD p 0 = z := ⟨_, rfl⟩
      have cz := hcells p hk
      have sz := small p
      rw [hz] at cz sz
      obtain ⟨z0, z1⟩ := sz
      have hk' : (p : Int) < len := by omega
      have HM : Hid (0 ≤ z % n ∧ z % n < n) := Lib.hid ⟨Int.emod_nonneg _ (by omega), Int.emod_lt_of_pos _ (by omega)⟩
      clear hz hcells small
      go_enter Try.func67, Try.ntmps67
      go_wp2
      go_ret
      exact pickPost_mk HM.out.1 HM.out.2 0 rfl
    · obtain ⟨m1, hm1⟩ : ∃ m, p % len = m := ⟨_, rfl⟩
      obtain ⟨m2, hm2⟩ : ∃ m, (p * 7 + 3) % len = m := ⟨_, rfl⟩
      obtain ⟨d, hd⟩ : ∃ d, p / len = d := ⟨_, rfl⟩
      have b1 : m1 < len := by rw [← hm1]; exact Nat.mod_lt _ (by omega)
      have b2 : m2 < len := by rw [← hm2]; exact Nat.mod_lt _ (by omega)
      have b3 : d ≤ p := by rw [← hd]; exact Nat.div_le_self _ _
      obtain ⟨z1, hz1⟩ : ∃ z, zs.getD m1 0 = z := ⟨_, rfl⟩
      obtain ⟨z2, hz2⟩ : ∃ z, zs.getD m2 0 = z := ⟨_, rfl⟩
      have cz1 := hcells m1 b1
      have cz2 := hcells m2 b2
      have s1 := small m1
      have s2 := small m2
      rw [hz1] at cz1 s1
      rw [hz2] at cz2 s2
      have f1 : ((p : Int)).tmod (len : Int) = (m1 : Int) := by rw [Int.tmod_eq_emod_of_nonneg (by omega), ← hm1]; exact (Int.natCast_emod _ _).symm
      have f1' : (p : Int) % (len : Int) = (m1 : Int) := by rw [← hm1]; exact (Int.natCast_emod _ _).symm
      have f2 : ((p : Int) * 7 + 3).tmod (len : Int) = (m2 : Int) := by rw [Int.tmod_eq_emod_of_nonneg (by omega), ← hm2]; push_cast; rfl
      have f2' : ((p : Int) * 7 + 3) % (len : Int) = (m2 : Int) := by rw [← hm2]; push_cast; rfl
      have f3 : ((p : Int)).tdiv (len : Int) = (d : Int) := by rw [Int.tdiv_eq_ediv_of_nonneg (by omega), ← hd]; exact (Int.natCast_ediv _ _).symm
      have f3' : (p : Int) / (len : Int) = (d : Int) := by rw [← hd]; exact (Int.natCast_ediv _ _).symm
      have b1' : (m1 : Int) < (len : Int) := by omega
      have b2' : (m2 : Int) < (len : Int) := by omega
      have hkn : ¬ (p : Int) < len := by omega
      obtain ⟨s10, s11⟩ := s1
      obtain ⟨s20, s21⟩ := s2
      have w1 : IntKind.i64.wrap ((p : Int) * 7) = (p : Int) * 7 := IntWalk.i64_in _ (by omega)
      have w2 : IntKind.i64.wrap ((p : Int) * 7 + 3) = (p : Int) * 7 + 3 := IntWalk.i64_in _ (by omega)
      have w3 : IntKind.i64.wrap (z1 * 131) = z1 * 131 := IntWalk.i64_in _ (by omega)
      have w4 : IntKind.i64.wrap (z2 * 1117) = z2 * 1117 := IntWalk.i64_in _ (by omega)
      have w5 : IntKind.i64.wrap (z1 * 131 + z2 * 1117) = z1 * 131 + z2 * 1117 := IntWalk.i64_in _ (by omega)
      have w6 : IntKind.i64.wrap ((p : Int) * 29) = (p : Int) * 29 := IntWalk.i64_in _ (by omega)
      have w7 : IntKind.i64.wrap (z1 * 131 + z2 * 1117 + (p : Int) * 29) = z1 * 131 + z2 * 1117 + (p : Int) * 29 := IntWalk.i64_in _ (by omega)
      have w8 : IntKind.i64.wrap ((d : Int) * 53) = (d : Int) * 53 := IntWalk.i64_in _ (by omega)
      have w9 : IntKind.i64.wrap (z1 * 131 + z2 * 1117 + (p : Int) * 29 + (d : Int) * 53) = z1 * 131 + z2 * 1117 + (p : Int) * 29 + (d : Int) * 53 := IntWalk.i64_in _ (by omega)
      obtain ⟨X, hX⟩ : ∃ X : Nat, z1 * 131 + z2 * 1117 + (p : Int) * 29 + (d : Int) * 53 = (X : Int) := ⟨(z1 * 131 + z2 * 1117 + (p : Int) * 29 + (d : Int) * 53).toNat, by omega⟩
      have bX : X ≤ 1000000000 := by omega
      clear hz1 hz2 hm1 hm2 hd hcells small hk
      go_enter Try.func67, Try.ntmps67
      go_wp2_with fail
      go_quiet (fail)
      clear w1 w2 w3 w4 w5 w6 w7 w8 w9 f1 f1' f2 f2' f3 f3'
      go_wp2
      go_ret
      exact pickPost_mk (xor_mod X n bX hn0).1 (xor_mod X n bX hn0).2 nq rfl

/-- Behind a pick the reader is as it was, but for its counter. -/
theorem Rd.picked {w w' : World} {B : Nat} {a : Option Addr} {len cap : Nat} {zs : List Int} {p k : Nat} (hr : Rd w B a len cap zs p) (hw : w' = (w.setCell ⟨B, 1, none⟩ (.int .i64 ((p : Int) + 1))).drewN k) : Rd w' B a len cap zs (p + 1) := by
  subst hw
  obtain ⟨c0, c1, fz, row, small, short, big⟩ := hr
  refine ⟨?_, ?_, ?_, ?_, small, short, ?_⟩
  · go_simp
  · go_simp
  · go_simp
  · rcases row with h | ⟨cb, co, rfl, h1, h2⟩
    · exact .inl h
    · refine .inr ⟨cb, co, rfl, h1, fun i hi => ?_⟩
      have n1 : ¬ cb = B := by omega
      have n2 : ¬ B = cb := by omega
      have := h2 i hi
      go_simp
  · simpa using big

end Go.Proofs.Ytjhccdioainibaa

namespace Go.Proofs.Ytjhccdioainibaa
open Go.RowKit

/-- The world has grown, and of what was there only block B may have changed. -/
def Dw (B : Nat) (w w' : World) : Prop := w.grownBy w' (some B)
theorem Dw.refl (B : Nat) (w : World) : Dw B w w := ⟨rfl, rfl, rfl, Nat.le_refl _, fun _ _ _ => rfl⟩
theorem Dw.size {B : Nat} {w w' : World} (h : Dw B w w') : w.heap.size ≤ w'.heap.size := World.grownBy.size h
theorem Dw.trans {B : Nat} {a b c : World} (h : Dw B a b) (k : Dw B b c) : Dw B a c :=
  ⟨k.os.trans h.os, k.tape.trans h.tape, k.output.trans h.output, Nat.le_trans h.size k.size, fun i hi hne => (k.block i (Nat.lt_of_lt_of_le hi h.size) hne).trans (h.block i hi hne)⟩
theorem Dw.alloc {B : Nat} {a w : World} (h : Dw B a w) (o : Obj) : Dw B a (w.alloc o) := h.trans (World.grownBy_alloc w o (some B))
theorem Dw.drewN {B : Nat} {a w : World} (h : Dw B a w) (n : Nat) : Dw B a (w.drewN n) := h.trans ⟨rfl, rfl, rfl, Nat.le_refl _, fun _ _ _ => rfl⟩
theorem Dw.drew {B : Nat} {a w : World} (h : Dw B a w) : Dw B a w.drew := h.trans ⟨rfl, rfl, rfl, Nat.le_refl _, fun _ _ _ => rfl⟩
theorem Dw.setB {B : Nat} {a w : World} (h : Dw B a w) (o : Nat) (v : Value) : Dw B a (w.setCell ⟨B, o, none⟩ v) :=
  h.trans ⟨rfl, rfl, rfl, by simp [World.setCell], fun k _ hne => Below.heap_setCell _ _ _ _ (by intro e; exact hne (by rw [e]))⟩
theorem Dw.setNew {B : Nat} {a w : World} (h : Dw B a w) {b : Nat} (hb : a.heap.size ≤ b) (o : Nat) (v : Value) : Dw B a (w.setCell ⟨b, o, none⟩ v) :=
  ⟨h.os, h.tape, h.output, by have := h.size; simpa [World.setCell] using this, fun k hk hne => (Below.heap_setCell _ _ _ _ (by show k ≠ b; omega)).trans (h.block k hk hne)⟩
theorem Dw.pick {B : Nat} {w w' : World} {v : Value} {k : Nat} (hw : w' = (w.setCell ⟨B, 1, none⟩ v).drewN k) : Dw B w w' := by
  subst hw; exact ((Dw.refl B w).setB 1 v).drewN k
theorem Dw.ofBelow {B : Nat} {a w : World} (h : Below a.heap.size a w) : Dw B a w := ⟨h.os, h.tape, h.output, h.size, fun k hk _ => h.block k hk⟩
theorem Dw.below {B base : Nat} {w w' : World} (h : Dw B w w') (hB : base ≤ B) (hs : base ≤ w.heap.size) : Below base w w' :=
  ⟨h.os, h.tape, h.output, h.size, fun k hk => h.block k (by omega) (by simp; omega)⟩
theorem Dw.cells {B : Nat} {w w' : World} (h : Dw B w w') : (∀ b o, b < w.heap.size → ¬ b = B → w'.cell? ⟨b, o, none⟩ = w.cell? ⟨b, o, none⟩) ∧ (∀ b o, b < w.heap.size → ¬ b = B → w'.frozen? ⟨b, o, none⟩ = w.frozen? ⟨b, o, none⟩) :=
  ⟨fun b o hb hne => World.cell?_of_block (a := ⟨b, o, none⟩) (h.block b hb (by simp [hne])), fun b o hb hne => World.frozen?_of_block (a := ⟨b, o, none⟩) (h.block b hb (by simp [hne]))⟩
/-- A reader is kept by what leaves its block and its bytes alone. -/
theorem Rd.kept {w w' : World} {B : Nat} {a : Option Addr} {len cap : Nat} {zs : List Int} {p : Nat} (hr : Rd w B a len cap zs p) (h : Below (B + 1) w w') : Rd w' B a len cap zs p := by
  obtain ⟨c0, c1, fz, row, small, short, big⟩ := hr
  have e := fun o => h.cell (p := ⟨B, o, none⟩) (Nat.lt_succ_self B)
  have f := fun o => h.frozen (p := ⟨B, o, none⟩) (Nat.lt_succ_self B)
  refine ⟨by rw [e]; exact c0, by rw [e]; exact c1, by rw [f]; exact fz, ?_, small, short, Nat.lt_of_lt_of_le big h.size⟩
  rcases row with h0 | ⟨cb, co, rfl, h1, h2⟩
  · exact .inl h0
  · exact .inr ⟨cb, co, rfl, h1, fun i hi => by rw [h.cell (p := ⟨cb, co + i, none⟩) (by show cb < B + 1; omega)]; exact h2 i hi⟩

/-! the lists that are drawn from -/
def strOk (M : Nat) : Value → Bool | .string s => decide (s.size ≤ M) | _ => false
def intOk (lo hi : Int) : Value → Bool | .int .i64 n => decide (lo ≤ n ∧ n ≤ hi) | _ => false
def StrRow (w : World) (L m M : Nat) : Prop := ∀ i, i < m → ∃ s : ByteArray, s.size ≤ M ∧ w.cell? ⟨L, i, none⟩ = some (.string s)
def IntRow (w : World) (L m : Nat) (lo hi : Int) : Prop := ∀ i, i < m → ∃ n : Int, (lo ≤ n ∧ n ≤ hi) ∧ w.cell? ⟨L, i, none⟩ = some (.int .i64 n)
theorem strRow_new (w : World) (cs : Array Value) (T : TypeId) (m M : Nat) (hm : cs.size = m) (h : cs.all (strOk M) = true) : StrRow (w.alloc (.cells cs T)) w.heap.size m M := by
  intro i hi
  rw [World.cell?_alloc_new]
  have h2 := Array.all_eq_true.mp h i (by omega)
  rw [Array.getElem?_eq_getElem (by omega)]
  have h3 : ∀ v : Value, strOk M v = true → ∃ s : ByteArray, s.size ≤ M ∧ some v = some (.string s) := by
    intro v hv
    unfold strOk at hv
    split at hv
    · exact ⟨_, of_decide_eq_true hv, rfl⟩
    · cases hv
  exact h3 _ h2
theorem intRow_new (w : World) (cs : Array Value) (T : TypeId) (m : Nat) (lo up : Int) (hm : cs.size = m) (h : cs.all (intOk lo up) = true) : IntRow (w.alloc (.cells cs T)) w.heap.size m lo up := by
  intro i hi
  rw [World.cell?_alloc_new]
  have h2 := Array.all_eq_true.mp h i (by omega)
  rw [Array.getElem?_eq_getElem (by omega)]
  have h3 : ∀ v : Value, intOk lo up v = true → ∃ n : Int, (lo ≤ n ∧ n ≤ up) ∧ some v = some (.int .i64 n) := by
    intro v hv
    unfold intOk at hv
    split at hv
    · exact ⟨_, of_decide_eq_true hv, rfl⟩
    · cases hv
  exact h3 _ h2

/-- What 'num' leaves: one of the list's numbers. -/
def NumPost (w : World) (B p : Nat) (lo hi : Int) (e : Ending) (w' : World) : Prop :=
  ∃ n : Int, (lo ≤ n ∧ n ≤ hi) ∧ e = .returned (.int .i64 n) ∧ ∃ k, w' = (w.setCell ⟨B, 1, none⟩ (.int .i64 ((p : Int) + 1))).drewN k
set_option maxRecDepth 100000 in
set_option maxHeartbeats 1000000 in
theorem num_any (B : Nat) (a : Option Addr) (len cap : Nat) (zs : List Int) (p : Nat) (w : World) (hr : Rd w B a len cap zs p) (hp : p ≤ 1000000) (L m c : Nat) (lo hi : Int) (h1 : 1 ≤ m) (h2 : m ≤ 1000) (hL : ¬ L = B) (hx : IntRow w L m lo hi) :
    Calls Try.prog 44 #[.pointer (some ⟨B, 0, none⟩), .slice (some ⟨L, 0, none⟩) m c] w (NumPost w B p lo hi) := by
  have hL' : ¬ B = L := fun e => hL e.symm
  have HR := Lib.hid hr
  have HX := Lib.hid hx
  clear hr hx
  go_enter Try.func44, Try.ntmps44
  go_wp2_with fail
  go_at_call 67
  refine (pick_any B a len cap zs p m _ HR.out hp (by omega) (by omega)).mono ?_
  rintro e w1 ⟨x, hxm, rfl, k, rfl⟩
  have hxn : x < m := by omega
  obtain ⟨n, hn, hc⟩ := HX.out x hxn
  have HN := Lib.hid hn
  clear hn
  go_wp2_with fail
  go_ret
  exact ⟨n, HN.out, rfl, k, rfl⟩

/-- A slice of bytes that came in: nil, or a row of 'cap' bytes. -/
def IsRow (w : World) (a : Option Addr) (len cap : Nat) (zs : List Int) : Prop :=
  (a = none ∧ len = 0 ∧ cap = 0 ∧ zs = []) ∨
  ∃ x, a = some x ∧ len ≤ cap ∧ cap ≤ maxLen ∧ zs.length = cap ∧ (∀ i, i < zs.length → w.cell? (x.add i) = some (.int .u8 (zs.getD i 0))) ∧ ∀ n ∈ zs, (Lit.int .u8 n).wf = true
theorem IsRow.len {w : World} {a : Option Addr} {len cap : Nat} {zs : List Int} (h : IsRow w a len cap zs) : len ≤ maxLen := by
  rcases h with ⟨rfl, rfl, rfl, rfl⟩ | ⟨x, rfl, h1, h2, _⟩
  · exact Nat.zero_le _
  · exact Nat.le_trans h1 h2
theorem IsRow.old {w : World} {a : Option Addr} {len cap : Nat} {zs : List Int} (h : IsRow w a len cap zs) : len = 0 ∨ ∃ cb co, a = some ⟨cb, co, none⟩ ∧ len ≤ cap ∧ cap ≤ maxLen ∧ cb < w.heap.size ∧ ∀ i, i < len → w.cell? ⟨cb, co + i, none⟩ = some (.int .u8 (zs.getD i 0)) := by
  rcases h with ⟨rfl, rfl, rfl, rfl⟩ | ⟨x, rfl, h1, hm, h2, h3, _⟩
  · exact .inl rfl
  · by_cases h0 : len = 0
    · exact .inl h0
    · obtain ⟨b, off, spot⟩ := x
      have hc := h3 0 (by omega)
      have hspot : spot = none := by simpa [Addr.add] using World.cell?_spot hc
      subst hspot
      exact .inr ⟨b, off, rfl, h1, hm, World.block_lt_of_cell? w _ hc, fun i hi => by
        have h5 := h3 i (by omega)
        unfold Addr.add at h5
        by_cases hi0 : i = 0
        · subst hi0; simpa using h5
        · simpa [hi0] using h5⟩
theorem IsRow.small {w : World} {a : Option Addr} {len cap : Nat} {zs : List Int} (h : IsRow w a len cap zs) : ∀ i, 0 ≤ zs.getD i 0 ∧ zs.getD i 0 ≤ 255 := by
  intro i
  rcases h with ⟨rfl, rfl, rfl, rfl⟩ | ⟨x, rfl, _, _, _, _, h4⟩
  · simp
  · by_cases hi : i < zs.length
    · have := h4 zs[i] (List.getElem_mem hi)
      have e : zs.getD i 0 = zs[i] := by simp [List.getD, hi]
      rw [e]
      have h5 := bounds_u8 this
      omega
    · have e : zs.getD i 0 = 0 := by simp [List.getD, hi]
      rw [e]; omega
/-- A row is kept by what leaves old memory alone. -/
theorem IsRow.kept {w w' : World} {a : Option Addr} {len cap : Nat} {zs : List Int} (h : IsRow w a len cap zs) (hb : Below w.heap.size w w') : IsRow w' a len cap zs := by
  rcases h with h | ⟨x, rfl, h1, hm, h2, h3, h4⟩
  · exact .inl h
  · refine .inr ⟨x, rfl, h1, hm, h2, fun i hi => ?_, h4⟩
    rw [hb.cell (p := x.add i) (World.block_lt_of_cell? w _ (h3 i hi))]
    exact h3 i hi

theorem size_alloc1 (w : World) (o : Obj) : (w.alloc o).heap.size = w.heap.size + 1 := by simp
/-- What the opening of a reader leaves. -/
def OpenPost (w : World) (a : Option Addr) (zs : List Int) (e : Ending) (w' : World) : Prop :=
  ∃ len cap, e = .returned (.pointer (some ⟨w.heap.size, 0, none⟩)) ∧ Rd w' w.heap.size a len cap zs 0 ∧ Below w.heap.size w w'
theorem rd_new {w : World} {a : Option Addr} {len cap n : Nat} {zs : List Int} (h : IsRow w a len cap zs) (T : TypeId) (hn : n ≤ len) (hn2 : n ≤ 2000) :
    Rd (w.alloc (.cells #[.slice a n cap, .int .i64 0] T)) w.heap.size a n cap zs 0 := by
  refine ⟨by go_simp, by go_simp, by go_simp, ?_, h.small, hn2, by simp⟩
  rcases h.old with h0 | ⟨cb, co, ha, _, _, h1, h2⟩
  · exact .inl (by omega)
  · refine .inr ⟨cb, co, ha, h1, fun i hi => ?_⟩
    rw [((Below.refl _ w).alloc (Nat.le_refl _) _).cell (p := ⟨cb, co + i, none⟩) h1]
    exact h2 i (by omega)
set_option maxRecDepth 100000 in
set_option maxHeartbeats 400000 in
theorem l16Open_any (a : Option Addr) (len cap : Nat) (zs : List Int) (w : World) (h : IsRow w a len cap zs) :
    Calls Try.prog 41 #[.slice a len cap] w (OpenPost w a zs) := by
  have HR := Lib.hid h
  have hm := h.len
  unfold maxLen at hm
  by_cases hl : 2000 < len
  · obtain ⟨cb, co, rfl, hlc, hcm, _, _⟩ : ∃ cb co, a = some ⟨cb, co, none⟩ ∧ len ≤ cap ∧ cap ≤ maxLen ∧ cb < w.heap.size ∧ ∀ i, i < len → w.cell? ⟨cb, co + i, none⟩ = some (.int .u8 (zs.getD i 0)) := by
      rcases h.old with h0 | h0
      · omega
      · exact h0
    unfold maxLen at hcm
    have h2k : 2000 ≤ cap := by omega
    clear h
    go_enter Try.func41, Try.ntmps41
    go_wp2
    go_ret
    exact ⟨2000, cap, rfl, rd_new HR.out _ (by omega) (by omega), (Below.refl _ _).alloc (Nat.le_refl _) _⟩
  · clear h
    go_enter Try.func41, Try.ntmps41
    go_wp2
    go_ret
    exact ⟨len, cap, rfl, rd_new HR.out _ (Nat.le_refl _) (by omega), (Below.refl _ _).alloc (Nat.le_refl _) _⟩

theorem Rd.setNew {w : World} {B : Nat} {a : Option Addr} {len cap : Nat} {zs : List Int} {p : Nat} (hr : Rd w B a len cap zs p) {E : Nat} (hE : B < E) (o : Nat) (v : Value) : Rd (w.setCell ⟨E, o, none⟩ v) B a len cap zs p :=
  hr.kept ((Below.refl _ _).setCell (p := ⟨E, o, none⟩) hE v)
theorem Rd.drew {w : World} {B : Nat} {a : Option Addr} {len cap : Nat} {zs : List Int} {p : Nat} (hr : Rd w B a len cap zs p) : Rd w.drew B a len cap zs p := hr.kept (Below.refl _ _).drew
theorem Rd.alloc {w : World} {B : Nat} {a : Option Addr} {len cap : Nat} {zs : List Int} {p : Nat} (hr : Rd w B a len cap zs p) (o : Obj) : Rd (w.alloc o) B a len cap zs p :=
  hr.kept ((Below.refl _ _).alloc (by have := hr.big; omega) o)
end Go.Proofs.Ytjhccdioainibaa
