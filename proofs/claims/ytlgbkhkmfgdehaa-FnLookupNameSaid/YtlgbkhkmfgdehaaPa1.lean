/-
  The reader of drawn bytes (l16Rd) in memory, and what 'pick' returns: a number from 0 to n - 1, whatever the bytes; only the reader's counter changes.
  Conditions: at most 2000 bytes, n from 1 to 1000000, fewer than 1000000 picks before.
  The reader of drawn bytes, without draws of texts: what 'num' returns; the opening of a reader. Only the reader's counter changes.
  What the draws of types return: some well-formed type of little depth, in blocks of its own. Only the reader's counter changes, and new memory is made.
  Draws of types: a well-formed type; a copy whose row may still grow.
  Draws of types: a copy that is sometimes made invalid.
  Rows of names with types that grow by append, for the draws of lists of them.
  What l4Draw leaves: at most five names with types in a row. Nothing that was in memory changes but the reader.
  What l4Mutate and the draw of LookupName's arguments leave.
-/
import Derived.Test.YtlgbkhkmfgdehaaProg
import Derived.Test.YtlgbkhkmfgdehaaTa
import Derived.Deep.QuietTactic
import Derived.BigQuiet
import Derived.IntWalk
import Derived.Deep.RegionHeld3
import Derived.Deep.RegionWith
import Derived.OpenShut
import Derived.Test.YtlgbkhkmfgdehaaAa1
import Derived.Test.YtlgbkhkmfgdehaaBf
import Derived.Deep.RegionLaw
import Derived.Test.YtlgbkhkmfgdehaaZa1
import Derived.Test.YtlgbkhkmfgdehaaKa
namespace Go.Proofs.Ytlgbkhkmfgdehaa
open Go.RowKit

/-- A reader at block B: its bytes (a slice that came in), its counter. -/
structure Rd (w : World) (B : Nat) (a : Option Addr) (len cap : Nat) (zs : List Int) (p : Nat) : Prop where
  c0 : w.cell? ⟨B, 0, none⟩ = some (.slice a len cap)
  c1 : w.cell? ⟨B, 1, none⟩ = some (.int .i64 p)
  fz : w.frozen? ⟨B, 1, none⟩ = false
  row : len = 0 ∨ ∃ cb co, a = some ⟨cb, co, none⟩ ∧ cb < B ∧ ∀ i, i < len → w.cell? ⟨cb, co + i, none⟩ = some (.int .u8 (zs.getD i 0))
  small : ∀ i, 0 ≤ zs.getD i 0 ∧ zs.getD i 0 ≤ 255
  short : len ≤ 2000
  big : B < w.heap.size

theorem bits_xor_i64_nat (a b : Nat) (ha : a < 4611686018427387904) (hb : b < 4611686018427387904) :
    bits .xor .i64 (a : Int) (b : Int) = ((a ^^^ b : Nat) : Int) := by
  have hx : a ^^^ b < 2 ^ 62 := Nat.xor_lt_two_pow (by omega) (by omega)
  have h1 : (BitVec.ofInt 64 (a : Int)).toNat = a := by
    rw [BitVec.ofInt_natCast, BitVec.toNat_ofNat]; exact Nat.mod_eq_of_lt (by omega)
  have h2 : (BitVec.ofInt 64 (b : Int)).toNat = b := by
    rw [BitVec.ofInt_natCast, BitVec.toNat_ofNat]; exact Nat.mod_eq_of_lt (by omega)
  show IntKind.i64.wrap ((BitVec.ofInt 64 (a : Int) ^^^ BitVec.ofInt 64 (b : Int)).toNat : Int) = _
  rw [BitVec.toNat_xor, h1, h2]
  exact IntWalk.i64_in _ (by omega)

theorem xor_mod (X : Nat) (n : Int) (hX : X ≤ 1000000000) (hn : 1 ≤ n) : 0 ≤ (bits .xor .i64 (X : Int) ((X : Int) / 64)).tmod n ∧ (bits .xor .i64 (X : Int) ((X : Int) / 64)).tmod n < n := by
  have e : ((X : Int) / 64) = ((X / 64 : Nat) : Int) := by omega
  rw [e, bits_xor_i64_nat _ _ (by omega) (by omega), Int.tmod_eq_emod_of_nonneg (by omega)]
  exact ⟨Int.emod_nonneg _ (by omega), Int.emod_lt_of_pos _ (by omega)⟩

/-- What 'pick' leaves. -/
def PickPost (w : World) (B p : Nat) (n : Int) (e : Ending) (w' : World) : Prop :=
  ∃ x : Nat, (x : Int) < n ∧ e = .returned (.int .i64 x) ∧ ∃ k, w' = (w.setCell ⟨B, 1, none⟩ (.int .i64 ((p : Int) + 1))).drewN k
theorem pickPost_mk {w : World} {B p : Nat} {n y : Int} {w' : World} (h0 : 0 ≤ y) (h1 : y < n) (k : Nat) (hw : w' = (w.setCell ⟨B, 1, none⟩ (.int .i64 ((p : Int) + 1))).drewN k) : PickPost w B p n (.returned (.int .i64 y)) w' :=
  ⟨y.toNat, by omega, by rw [Int.toNat_of_nonneg h0], k, hw⟩

set_option maxRecDepth 100000 in
set_option maxHeartbeats 1000000 in
theorem pick_any (B : Nat) (a : Option Addr) (len cap : Nat) (zs : List Int) (p : Nat) (n : Int) (w : World) (hr : Rd w B a len cap zs p) (hp : p ≤ 1000000) (hn0 : 1 ≤ n) (hn : n ≤ 1000000) :
    Calls Try.prog 51 #[.pointer (some ⟨B, 0, none⟩), .int .i64 n] w (PickPost w B p n) := by
  obtain ⟨c0, c1, fz, row, small, short, big⟩ := hr
  by_cases h0 : len = 0
  · subst h0
    clear row small
    go_enter Try.func51, Try.ntmps51
    go_wp2
    go_ret
    exact pickPost_mk (Int.le_refl 0) (by omega) 0 rfl
  · obtain ⟨cb, co, rfl, hcb, hcells⟩ : ∃ cb co, a = some ⟨cb, co, none⟩ ∧ cb < B ∧ ∀ i, i < len → w.cell? ⟨cb, co + i, none⟩ = some (.int .u8 (zs.getD i 0)) := by
      rcases row with h | h
      · exact absurd h h0
      · exact h
    have n1 : ¬ cb = B := by omega
    have n2 : ¬ B = cb := by omega
    have l0 : ((len : Int) == 0) = false := by simp; omega
    have l1 : (0 : Int) < len := by omega
    clear row
    by_cases hk : p < len
    · obtain ⟨z, hz⟩ : ∃ z, zs.getD p 0 = z := ⟨_, rfl⟩
      have cz := hcells p hk
      have sz := small p
      rw [hz] at cz sz
      obtain ⟨z0, z1⟩ := sz
      have hk' : (p : Int) < len := by omega
      have HM : Hid (0 ≤ z % n ∧ z % n < n) := Lib.hid ⟨Int.emod_nonneg _ (by omega), Int.emod_lt_of_pos _ (by omega)⟩
      clear hz hcells small
      go_enter Try.func51, Try.ntmps51
      go_wp2
      go_ret
      exact pickPost_mk HM.out.1 HM.out.2 0 rfl
    · obtain ⟨m1, hm1⟩ : ∃ m, p % len = m := ⟨_, rfl⟩
      obtain ⟨m2, hm2⟩ : ∃ m, (p * 7 + 3) % len = m := ⟨_, rfl⟩
      obtain ⟨d, hd⟩ : ∃ d, p / len = d := ⟨_, rfl⟩
      have b1 : m1 < len := by rw [← hm1]; exact Nat.mod_lt _ (by omega)
      have b2 : m2 < len := by rw [← hm2]; exact Nat.mod_lt _ (by omega)
      have b3 : d ≤ p := by rw [← hd]; exact Nat.div_le_self _ _
      obtain ⟨z1, hz1⟩ : ∃ z, zs.getD m1 0 = z := ⟨_, rfl⟩
      obtain ⟨z2, hz2⟩ : ∃ z, zs.getD m2 0 = z := ⟨_, rfl⟩
      have cz1 := hcells m1 b1
      have cz2 := hcells m2 b2
      have s1 := small m1
      have s2 := small m2
      rw [hz1] at cz1 s1
      rw [hz2] at cz2 s2
      have f1 : ((p : Int)).tmod (len : Int) = (m1 : Int) := by rw [Int.tmod_eq_emod_of_nonneg (by omega), ← hm1]; exact (Int.natCast_emod _ _).symm
      have f1' : (p : Int) % (len : Int) = (m1 : Int) := by rw [← hm1]; exact (Int.natCast_emod _ _).symm
      have f2 : ((p : Int) * 7 + 3).tmod (len : Int) = (m2 : Int) := by rw [Int.tmod_eq_emod_of_nonneg (by omega), ← hm2]; push_cast; rfl
      have f2' : ((p : Int) * 7 + 3) % (len : Int) = (m2 : Int) := by rw [← hm2]; push_cast; rfl
      have f3 : ((p : Int)).tdiv (len : Int) = (d : Int) := by rw [Int.tdiv_eq_ediv_of_nonneg (by omega), ← hd]; exact (Int.natCast_ediv _ _).symm
      have f3' : (p : Int) / (len : Int) = (d : Int) := by rw [← hd]; exact (Int.natCast_ediv _ _).symm
      have b1' : (m1 : Int) < (len : Int) := by omega
      have b2' : (m2 : Int) < (len : Int) := by omega
      have hkn : ¬ (p : Int) < len := by omega
      obtain ⟨s10, s11⟩ := s1
      obtain ⟨s20, s21⟩ := s2
      have w1 : IntKind.i64.wrap ((p : Int) * 7) = (p : Int) * 7 := IntWalk.i64_in _ (by omega)
      have w2 : IntKind.i64.wrap ((p : Int) * 7 + 3) = (p : Int) * 7 + 3 := IntWalk.i64_in _ (by omega)
      have w3 : IntKind.i64.wrap (z1 * 131) = z1 * 131 := IntWalk.i64_in _ (by omega)
      have w4 : IntKind.i64.wrap (z2 * 1117) = z2 * 1117 := IntWalk.i64_in _ (by omega)
      have w5 : IntKind.i64.wrap (z1 * 131 + z2 * 1117) = z1 * 131 + z2 * 1117 := IntWalk.i64_in _ (by omega)
      have w6 : IntKind.i64.wrap ((p : Int) * 29) = (p : Int) * 29 := IntWalk.i64_in _ (by omega)
      have w7 : IntKind.i64.wrap (z1 * 131 + z2 * 1117 + (p : Int) * 29) = z1 * 131 + z2 * 1117 + (p : Int) * 29 := IntWalk.i64_in _ (by omega)
      have w8 : IntKind.i64.wrap ((d : Int) * 53) = (d : Int) * 53 := IntWalk.i64_in _ (by omega)
      have w9 : IntKind.i64.wrap (z1 * 131 + z2 * 1117 + (p : Int) * 29 + (d : Int) * 53) = z1 * 131 + z2 * 1117 + (p : Int) * 29 + (d : Int) * 53 := IntWalk.i64_in _ (by omega)
      obtain ⟨X, hX⟩ : ∃ X : Nat, z1 * 131 + z2 * 1117 + (p : Int) * 29 + (d : Int) * 53 = (X : Int) := ⟨(z1 * 131 + z2 * 1117 + (p : Int) * 29 + (d : Int) * 53).toNat, by omega⟩
      have bX : X ≤ 1000000000 := by omega
      clear hz1 hz2 hm1 hm2 hd hcells small hk
      go_enter Try.func51, Try.ntmps51
      go_wp2_with fail
      go_quiet (fail)
      clear w1 w2 w3 w4 w5 w6 w7 w8 w9 f1 f1' f2 f2' f3 f3'
      go_wp2
      go_ret
      exact pickPost_mk (xor_mod X n bX hn0).1 (xor_mod X n bX hn0).2 nq rfl

/-- Behind a pick the reader is as it was, but for its counter. -/
theorem Rd.picked {w w' : World} {B : Nat} {a : Option Addr} {len cap : Nat} {zs : List Int} {p k : Nat} (hr : Rd w B a len cap zs p) (hw : w' = (w.setCell ⟨B, 1, none⟩ (.int .i64 ((p : Int) + 1))).drewN k) : Rd w' B a len cap zs (p + 1) := by
  subst hw
  obtain ⟨c0, c1, fz, row, small, short, big⟩ := hr
  refine ⟨?_, ?_, ?_, ?_, small, short, ?_⟩
  · go_simp
  · go_simp
  · go_simp
  · rcases row with h | ⟨cb, co, rfl, h1, h2⟩
    · exact .inl h
    · refine .inr ⟨cb, co, rfl, h1, fun i hi => ?_⟩
      have n1 : ¬ cb = B := by omega
      have n2 : ¬ B = cb := by omega
      have := h2 i hi
      go_simp
  · simpa using big

end Go.Proofs.Ytlgbkhkmfgdehaa

namespace Go.Proofs.Ytlgbkhkmfgdehaa
open Go.RowKit

/-- The world has grown, and of what was there only block B may have changed. -/
def Dw (B : Nat) (w w' : World) : Prop := w.grownBy w' (some B)
theorem Dw.refl (B : Nat) (w : World) : Dw B w w := ⟨rfl, rfl, rfl, Nat.le_refl _, fun _ _ _ => rfl⟩
theorem Dw.size {B : Nat} {w w' : World} (h : Dw B w w') : w.heap.size ≤ w'.heap.size := World.grownBy.size h
theorem Dw.trans {B : Nat} {a b c : World} (h : Dw B a b) (k : Dw B b c) : Dw B a c :=
  ⟨k.os.trans h.os, k.tape.trans h.tape, k.output.trans h.output, Nat.le_trans h.size k.size, fun i hi hne => (k.block i (Nat.lt_of_lt_of_le hi h.size) hne).trans (h.block i hi hne)⟩
theorem Dw.alloc {B : Nat} {a w : World} (h : Dw B a w) (o : Obj) : Dw B a (w.alloc o) := h.trans (World.grownBy_alloc w o (some B))
theorem Dw.drewN {B : Nat} {a w : World} (h : Dw B a w) (n : Nat) : Dw B a (w.drewN n) := h.trans ⟨rfl, rfl, rfl, Nat.le_refl _, fun _ _ _ => rfl⟩
theorem Dw.drew {B : Nat} {a w : World} (h : Dw B a w) : Dw B a w.drew := h.trans ⟨rfl, rfl, rfl, Nat.le_refl _, fun _ _ _ => rfl⟩
theorem Dw.setB {B : Nat} {a w : World} (h : Dw B a w) (o : Nat) (v : Value) : Dw B a (w.setCell ⟨B, o, none⟩ v) :=
  h.trans ⟨rfl, rfl, rfl, by simp [World.setCell], fun k _ hne => Below.heap_setCell _ _ _ _ (by intro e; exact hne (by rw [e]))⟩
theorem Dw.setNew {B : Nat} {a w : World} (h : Dw B a w) {b : Nat} (hb : a.heap.size ≤ b) (o : Nat) (v : Value) : Dw B a (w.setCell ⟨b, o, none⟩ v) :=
  ⟨h.os, h.tape, h.output, by have := h.size; simpa [World.setCell] using this, fun k hk hne => (Below.heap_setCell _ _ _ _ (by show k ≠ b; omega)).trans (h.block k hk hne)⟩
theorem Dw.pick {B : Nat} {w w' : World} {v : Value} {k : Nat} (hw : w' = (w.setCell ⟨B, 1, none⟩ v).drewN k) : Dw B w w' := by
  subst hw; exact ((Dw.refl B w).setB 1 v).drewN k
theorem Dw.ofBelow {B : Nat} {a w : World} (h : Below a.heap.size a w) : Dw B a w := ⟨h.os, h.tape, h.output, h.size, fun k hk _ => h.block k hk⟩
theorem Dw.below {B base : Nat} {w w' : World} (h : Dw B w w') (hB : base ≤ B) (hs : base ≤ w.heap.size) : Below base w w' :=
  ⟨h.os, h.tape, h.output, h.size, fun k hk => h.block k (by omega) (by simp; omega)⟩
theorem Dw.cells {B : Nat} {w w' : World} (h : Dw B w w') : (∀ b o, b < w.heap.size → ¬ b = B → w'.cell? ⟨b, o, none⟩ = w.cell? ⟨b, o, none⟩) ∧ (∀ b o, b < w.heap.size → ¬ b = B → w'.frozen? ⟨b, o, none⟩ = w.frozen? ⟨b, o, none⟩) :=
  ⟨fun b o hb hne => World.cell?_of_block (a := ⟨b, o, none⟩) (h.block b hb (by simp [hne])), fun b o hb hne => World.frozen?_of_block (a := ⟨b, o, none⟩) (h.block b hb (by simp [hne]))⟩
/-- A reader is kept by what leaves its block and its bytes alone. -/
theorem Rd.kept {w w' : World} {B : Nat} {a : Option Addr} {len cap : Nat} {zs : List Int} {p : Nat} (hr : Rd w B a len cap zs p) (h : Below (B + 1) w w') : Rd w' B a len cap zs p := by
  obtain ⟨c0, c1, fz, row, small, short, big⟩ := hr
  have e := fun o => h.cell (p := ⟨B, o, none⟩) (Nat.lt_succ_self B)
  have f := fun o => h.frozen (p := ⟨B, o, none⟩) (Nat.lt_succ_self B)
  refine ⟨by rw [e]; exact c0, by rw [e]; exact c1, by rw [f]; exact fz, ?_, small, short, Nat.lt_of_lt_of_le big h.size⟩
  rcases row with h0 | ⟨cb, co, rfl, h1, h2⟩
  · exact .inl h0
  · exact .inr ⟨cb, co, rfl, h1, fun i hi => by rw [h.cell (p := ⟨cb, co + i, none⟩) (by show cb < B + 1; omega)]; exact h2 i hi⟩

/-! the lists that are drawn from -/
def strOk (M : Nat) : Value → Bool | .string s => decide (s.size ≤ M) | _ => false
def intOk (lo hi : Int) : Value → Bool | .int .i64 n => decide (lo ≤ n ∧ n ≤ hi) | _ => false
def StrRow (w : World) (L m M : Nat) : Prop := ∀ i, i < m → ∃ s : ByteArray, s.size ≤ M ∧ w.cell? ⟨L, i, none⟩ = some (.string s)
def IntRow (w : World) (L m : Nat) (lo hi : Int) : Prop := ∀ i, i < m → ∃ n : Int, (lo ≤ n ∧ n ≤ hi) ∧ w.cell? ⟨L, i, none⟩ = some (.int .i64 n)
theorem strRow_new (w : World) (cs : Array Value) (T : TypeId) (m M : Nat) (hm : cs.size = m) (h : cs.all (strOk M) = true) : StrRow (w.alloc (.cells cs T)) w.heap.size m M := by
  intro i hi
  rw [World.cell?_alloc_new]
  have h2 := Array.all_eq_true.mp h i (by omega)
  rw [Array.getElem?_eq_getElem (by omega)]
  have h3 : ∀ v : Value, strOk M v = true → ∃ s : ByteArray, s.size ≤ M ∧ some v = some (.string s) := by
    intro v hv
    unfold strOk at hv
    split at hv
    · exact ⟨_, of_decide_eq_true hv, rfl⟩
    · cases hv
  exact h3 _ h2
theorem intRow_new (w : World) (cs : Array Value) (T : TypeId) (m : Nat) (lo up : Int) (hm : cs.size = m) (h : cs.all (intOk lo up) = true) : IntRow (w.alloc (.cells cs T)) w.heap.size m lo up := by
  intro i hi
  rw [World.cell?_alloc_new]
  have h2 := Array.all_eq_true.mp h i (by omega)
  rw [Array.getElem?_eq_getElem (by omega)]
  have h3 : ∀ v : Value, intOk lo up v = true → ∃ n : Int, (lo ≤ n ∧ n ≤ up) ∧ some v = some (.int .i64 n) := by
    intro v hv
    unfold intOk at hv
    split at hv
    · exact ⟨_, of_decide_eq_true hv, rfl⟩
    · cases hv
  exact h3 _ h2

/-- What 'num' leaves: one of the list's numbers. -/
def NumPost (w : World) (B p : Nat) (lo hi : Int) (e : Ending) (w' : World) : Prop :=
  ∃ n : Int, (lo ≤ n ∧ n ≤ hi) ∧ e = .returned (.int .i64 n) ∧ ∃ k, w' = (w.setCell ⟨B, 1, none⟩ (.int .i64 ((p : Int) + 1))).drewN k
set_option maxRecDepth 100000 in
set_option maxHeartbeats 1000000 in
theorem num_any (B : Nat) (a : Option Addr) (len cap : Nat) (zs : List Int) (p : Nat) (w : World) (hr : Rd w B a len cap zs p) (hp : p ≤ 1000000) (L m c : Nat) (lo hi : Int) (h1 : 1 ≤ m) (h2 : m ≤ 1000) (hL : ¬ L = B) (hx : IntRow w L m lo hi) :
    Calls Try.prog 55 #[.pointer (some ⟨B, 0, none⟩), .slice (some ⟨L, 0, none⟩) m c] w (NumPost w B p lo hi) := by
  have hL' : ¬ B = L := fun e => hL e.symm
  have HR := Lib.hid hr
  have HX := Lib.hid hx
  clear hr hx
  go_enter Try.func55, Try.ntmps55
  go_wp2_with fail
  go_at_call 51
  refine (pick_any B a len cap zs p m _ HR.out hp (by omega) (by omega)).mono ?_
  rintro e w1 ⟨x, hxm, rfl, k, rfl⟩
  have hxn : x < m := by omega
  obtain ⟨n, hn, hc⟩ := HX.out x hxn
  have HN := Lib.hid hn
  clear hn
  go_wp2_with fail
  go_ret
  exact ⟨n, HN.out, rfl, k, rfl⟩

/-- A slice of bytes that came in: nil, or a row of 'cap' bytes. -/
def IsRow (w : World) (a : Option Addr) (len cap : Nat) (zs : List Int) : Prop :=
  (a = none ∧ len = 0 ∧ cap = 0 ∧ zs = []) ∨
  ∃ x, a = some x ∧ len ≤ cap ∧ cap ≤ maxLen ∧ zs.length = cap ∧ (∀ i, i < zs.length → w.cell? (x.add i) = some (.int .u8 (zs.getD i 0))) ∧ ∀ n ∈ zs, (Lit.int .u8 n).wf = true
theorem IsRow.len {w : World} {a : Option Addr} {len cap : Nat} {zs : List Int} (h : IsRow w a len cap zs) : len ≤ maxLen := by
  rcases h with ⟨rfl, rfl, rfl, rfl⟩ | ⟨x, rfl, h1, h2, _⟩
  · exact Nat.zero_le _
  · exact Nat.le_trans h1 h2
theorem IsRow.old {w : World} {a : Option Addr} {len cap : Nat} {zs : List Int} (h : IsRow w a len cap zs) : len = 0 ∨ ∃ cb co, a = some ⟨cb, co, none⟩ ∧ len ≤ cap ∧ cap ≤ maxLen ∧ cb < w.heap.size ∧ ∀ i, i < len → w.cell? ⟨cb, co + i, none⟩ = some (.int .u8 (zs.getD i 0)) := by
  rcases h with ⟨rfl, rfl, rfl, rfl⟩ | ⟨x, rfl, h1, hm, h2, h3, _⟩
  · exact .inl rfl
  · by_cases h0 : len = 0
    · exact .inl h0
    · obtain ⟨b, off, spot⟩ := x
      have hc := h3 0 (by omega)
      have hspot : spot = none := by simpa [Addr.add] using World.cell?_spot hc
      subst hspot
      exact .inr ⟨b, off, rfl, h1, hm, World.block_lt_of_cell? w _ hc, fun i hi => by
        have h5 := h3 i (by omega)
        unfold Addr.add at h5
        by_cases hi0 : i = 0
        · subst hi0; simpa using h5
        · simpa [hi0] using h5⟩
theorem IsRow.small {w : World} {a : Option Addr} {len cap : Nat} {zs : List Int} (h : IsRow w a len cap zs) : ∀ i, 0 ≤ zs.getD i 0 ∧ zs.getD i 0 ≤ 255 := by
  intro i
  rcases h with ⟨rfl, rfl, rfl, rfl⟩ | ⟨x, rfl, _, _, _, _, h4⟩
  · simp
  · by_cases hi : i < zs.length
    · have := h4 zs[i] (List.getElem_mem hi)
      have e : zs.getD i 0 = zs[i] := by simp [List.getD, hi]
      rw [e]
      have h5 := bounds_u8 this
      omega
    · have e : zs.getD i 0 = 0 := by simp [List.getD, hi]
      rw [e]; omega
/-- A row is kept by what leaves old memory alone. -/
theorem IsRow.kept {w w' : World} {a : Option Addr} {len cap : Nat} {zs : List Int} (h : IsRow w a len cap zs) (hb : Below w.heap.size w w') : IsRow w' a len cap zs := by
  rcases h with h | ⟨x, rfl, h1, hm, h2, h3, h4⟩
  · exact .inl h
  · refine .inr ⟨x, rfl, h1, hm, h2, fun i hi => ?_, h4⟩
    rw [hb.cell (p := x.add i) (World.block_lt_of_cell? w _ (h3 i hi))]
    exact h3 i hi

theorem size_alloc1 (w : World) (o : Obj) : (w.alloc o).heap.size = w.heap.size + 1 := by simp
/-- What the opening of a reader leaves. -/
def OpenPost (w : World) (a : Option Addr) (zs : List Int) (e : Ending) (w' : World) : Prop :=
  ∃ len cap, e = .returned (.pointer (some ⟨w.heap.size, 0, none⟩)) ∧ Rd w' w.heap.size a len cap zs 0 ∧ Below w.heap.size w w'
theorem rd_new {w : World} {a : Option Addr} {len cap n : Nat} {zs : List Int} (h : IsRow w a len cap zs) (T : TypeId) (hn : n ≤ len) (hn2 : n ≤ 2000) :
    Rd (w.alloc (.cells #[.slice a n cap, .int .i64 0] T)) w.heap.size a n cap zs 0 := by
  refine ⟨by go_simp, by go_simp, by go_simp, ?_, h.small, hn2, by simp⟩
  rcases h.old with h0 | ⟨cb, co, ha, _, _, h1, h2⟩
  · exact .inl (by omega)
  · refine .inr ⟨cb, co, ha, h1, fun i hi => ?_⟩
    rw [((Below.refl _ w).alloc (Nat.le_refl _) _).cell (p := ⟨cb, co + i, none⟩) h1]
    exact h2 i (by omega)
set_option maxRecDepth 100000 in
set_option maxHeartbeats 400000 in
theorem l16Open_any (a : Option Addr) (len cap : Nat) (zs : List Int) (w : World) (h : IsRow w a len cap zs) :
    Calls Try.prog 24 #[.slice a len cap] w (OpenPost w a zs) := by
  have HR := Lib.hid h
  have hm := h.len
  unfold maxLen at hm
  by_cases hl : 2000 < len
  · obtain ⟨cb, co, rfl, hlc, hcm, _, _⟩ : ∃ cb co, a = some ⟨cb, co, none⟩ ∧ len ≤ cap ∧ cap ≤ maxLen ∧ cb < w.heap.size ∧ ∀ i, i < len → w.cell? ⟨cb, co + i, none⟩ = some (.int .u8 (zs.getD i 0)) := by
      rcases h.old with h0 | h0
      · omega
      · exact h0
    unfold maxLen at hcm
    have h2k : 2000 ≤ cap := by omega
    clear h
    go_enter Try.func24, Try.ntmps24
    go_wp2
    go_ret
    exact ⟨2000, cap, rfl, rd_new HR.out _ (by omega) (by omega), (Below.refl _ _).alloc (Nat.le_refl _) _⟩
  · clear h
    go_enter Try.func24, Try.ntmps24
    go_wp2
    go_ret
    exact ⟨len, cap, rfl, rd_new HR.out _ (Nat.le_refl _) (by omega), (Below.refl _ _).alloc (Nat.le_refl _) _⟩

theorem Rd.setNew {w : World} {B : Nat} {a : Option Addr} {len cap : Nat} {zs : List Int} {p : Nat} (hr : Rd w B a len cap zs p) {E : Nat} (hE : B < E) (o : Nat) (v : Value) : Rd (w.setCell ⟨E, o, none⟩ v) B a len cap zs p :=
  hr.kept ((Below.refl _ _).setCell (p := ⟨E, o, none⟩) hE v)
theorem Rd.drew {w : World} {B : Nat} {a : Option Addr} {len cap : Nat} {zs : List Int} {p : Nat} (hr : Rd w B a len cap zs p) : Rd w.drew B a len cap zs p := hr.kept (Below.refl _ _).drew
theorem Rd.alloc {w : World} {B : Nat} {a : Option Addr} {len cap : Nat} {zs : List Int} {p : Nat} (hr : Rd w B a len cap zs p) (o : Obj) : Rd (w.alloc o) B a len cap zs p :=
  hr.kept ((Below.refl _ _).alloc (by have := hr.big; omega) o)
end Go.Proofs.Ytlgbkhkmfgdehaa

namespace Go.Proofs.Ytlgbkhkmfgdehaa
open Go.RowKit
set_option linter.unusedVariables false
set_option linter.unusedSimpArgs false
theorem TyIn.dw {w w' : World} {lo hi B : Nat} {t : Ty} {v : Value} (h : TyIn w lo hi t v) (hB : B < lo) (hd : Dw B w w') : TyIn w' lo hi t v :=
  h.keep hd.size (fun b h1 _ h3 => hd.block b h3 (by simp; omega))
theorem Rd.below {w w' : World} {B : Nat} {a : Option Addr} {len cap : Nat} {zs : List Int} {p : Nat} (hr : Rd w B a len cap zs p) (h : Below w.heap.size w w') : Rd w' B a len cap zs p :=
  hr.kept (h.mono (by have := hr.big; omega))
/-- What the draw of a type leaves. -/
def DrPost (P : Ty → Prop) (w : World) (B : Nat) (a : Option Addr) (len cap : Nat) (zs : List Int) (p q : Nat) (e : Ending) (w' : World) : Prop :=
  ∃ (t : Ty) (v : Value) (r : Nat), P t ∧ r ≤ q ∧ e = .returned (.agg #[.int .i64 t.k, .int .i64 t.n, v]) ∧ TyIn w' w.heap.size w'.heap.size t v ∧ Dw B w w' ∧ Rd w' B a len cap zs (p + r)
/-- Where a draw stands: its reader, its result's cells, still empty. -/
structure DS (w : World) (S B : Nat) (a : Option Addr) (len cap : Nat) (zs : List Int) (p : Nat) (W : World) : Prop where
  rd : Rd W B a len cap zs p
  dw : Dw B w W
  rb : RB W S
  lt : B < S
  eq : w.heap.size = S
theorem DS.sz {w : World} {S B : Nat} {a : Option Addr} {len cap : Nat} {zs : List Int} {p : Nat} {W : World} (h : DS w S B a len cap zs p W) : S + 1 ≤ W.heap.size := h.rb.sz
theorem DS.step {w : World} {S B : Nat} {a : Option Addr} {len cap : Nat} {zs : List Int} {p p' : Nat} {W W' : World} (h : DS w S B a len cap zs p W) (hd : Dw B W W') (hr : Rd W' B a len cap zs p') : DS w S B a len cap zs p' W' :=
  ⟨hr, h.dw.trans hd, h.rb.keep hd.size (hd.block S h.rb.sz (by have := h.lt; simp; omega)), h.lt, h.eq⟩
theorem DS.pick {w : World} {S B : Nat} {a : Option Addr} {len cap : Nat} {zs : List Int} {p : Nat} {W W' : World} (h : DS w S B a len cap zs p W) {k : Nat} (hk : W' = (W.setCell ⟨B, 1, none⟩ (.int .i64 ((p : Int) + 1))).drewN k) : DS w S B a len cap zs (p + 1) W' :=
  h.step (Dw.pick hk) (h.rd.picked hk)
theorem DS.below {w : World} {S B : Nat} {a : Option Addr} {len cap : Nat} {zs : List Int} {p : Nat} {W W' : World} (h : DS w S B a len cap zs p W) (hb : Below W.heap.size W W') : DS w S B a len cap zs p W' :=
  h.step (Dw.ofBelow hb) (h.rd.below hb)
theorem DS.alloc {w : World} {S B : Nat} {a : Option Addr} {len cap : Nat} {zs : List Int} {p : Nat} {W : World} (h : DS w S B a len cap zs p W) (o : Obj) : DS w S B a len cap zs p (W.alloc o) :=
  h.step ((Dw.refl B W).alloc o) (h.rd.alloc o)
theorem ds_new {w : World} {B : Nat} {a : Option Addr} {len cap : Nat} {zs : List Int} {p : Nat} (h : Rd w B a len cap zs p) (T : TypeId) : DS w w.heap.size B a len cap zs p (w.alloc (.cells #[.int .i64 0, .int .i64 0, .slice none 0 0] T)) :=
  ⟨h.alloc _, (Dw.refl B w).alloc _, rb_new w T, h.big, rfl⟩
/-- The result goes into its cells. -/
theorem DS.done {w : World} {S B : Nat} {a : Option Addr} {len cap : Nat} {zs : List Int} {p : Nat} {W : World} (h : DS w S B a len cap zs p W) {t : Ty} {v : Value} {lo : Nat} (ht : TyIn W lo W.heap.size t v) (hlo : S + 1 ≤ lo) (x y z : Value) :
    TyIn (((W.setCell ⟨S, 0, none⟩ x).setCell ⟨S, 1, none⟩ y).setCell ⟨S, 2, none⟩ z) w.heap.size (((W.setCell ⟨S, 0, none⟩ x).setCell ⟨S, 1, none⟩ y).setCell ⟨S, 2, none⟩ z).heap.size t v ∧ Dw B w (((W.setCell ⟨S, 0, none⟩ x).setCell ⟨S, 1, none⟩ y).setCell ⟨S, 2, none⟩ z) ∧ Rd (((W.setCell ⟨S, 0, none⟩ x).setCell ⟨S, 1, none⟩ y).setCell ⟨S, 2, none⟩ z) B a len cap zs p := by
  have e := h.eq
  exact ⟨res_ty (ht.wide hlo (Nat.le_refl _)) (by omega) x y z, ((h.dw.setNew (by omega) 0 x).setNew (by omega) 1 y).setNew (by omega) 2 z, ((h.rd.setNew h.lt 0 x).setNew h.lt 1 y).setNew h.lt 2 z⟩
def qd : Nat → Nat
  | 0 => 3
  | d + 1 => 3 + (qd d + qd d)
theorem qd3 : ∀ d, 3 ≤ qd d
  | 0 => Nat.le_refl _
  | d + 1 => by unfold qd; omega
theorem shp_num (d : Nat) : shp (d + 1) (.node 1 0 []) = true := shp_iff.2 ⟨by decide, fun i hi => absurd hi (Nat.not_lt_zero _)⟩
theorem shp_var (d : Nat) (n : Int) (h : 0 ≤ n ∧ n ≤ 25) : shp (d + 1) (.node 4 n []) = true := shp_iff.2 ⟨by show fieldsB 4 n 0 = true; unfold fieldsB; exact decide_eq_true (.inr (.inr ⟨rfl, h.1, h.2, rfl⟩)), fun i hi => absurd hi (Nat.not_lt_zero _)⟩
theorem shp_two (d : Nat) (k : Int) (x y : Ty) (h : 2 ≤ k ∧ k ≤ 3) (hx : shp d x = true) (hy : shp d y = true) : shp (d + 1) (.node k 0 [x, y]) = true := shp_iff.2 ⟨by show fieldsB k 0 2 = true; unfold fieldsB; exact decide_eq_true (.inr (.inl ⟨by omega, rfl, rfl⟩)), fun i hi => by
  have hi : i < 2 := hi
  obtain rfl | rfl : i = 0 ∨ i = 1 := by omega
  · exact hx
  · exact hy⟩

set_option maxRecDepth 100000 in
set_option maxHeartbeats 4000000 in
theorem l2Draw_any : ∀ (d B : Nat) (a : Option Addr) (len cap : Nat) (zs : List Int) (p : Nat) (D : Int) (w : World), D = d → d ≤ 1000 → Rd w B a len cap zs p → p + qd d ≤ 1000000 →
    Calls Try.prog 91 #[.pointer (some ⟨B, 0, none⟩), .int .i64 D] w (DrPost (fun t => shp (d + 1) t = true) w B a len cap zs p (qd d)) := by
  intro d
  induction d with
  | zero =>
    intro B a len cap zs p D w hD hd hr hp
    have hD2 : D < 2 := by omega
    obtain ⟨q, hQ⟩ : ∃ q, qd 0 = q := ⟨_, rfl⟩
    have hq : 3 ≤ q := by rw [← hQ]; exact qd3 0
    rw [hQ] at hp ⊢
    clear hD hQ
    obtain ⟨W1, hW1⟩ : ∃ W, w.alloc (.cells #[.int .i64 0, .int .i64 0, .slice none 0 0] 28) = W := ⟨_, rfl⟩
    obtain ⟨S, hS⟩ : ∃ S, w.heap.size = S := ⟨_, rfl⟩
    have HD0 : Hid (DS w S B a len cap zs p W1) := Lib.hid (by rw [← hW1, ← hS]; exact ds_new hr _)
    have HW1 := Lib.hid hW1
    have HS := Lib.hid hS
    clear hr hW1
    go_enter Try.func91, Try.ntmps91
    go_wp2_with fail
    rw [HW1.out]
    clear hS
    go_at_call 51
    refine (pick_any B a len cap zs p 3 _ HD0.out.rd (by omega) (by omega) (by omega)).mono ?_
    rintro e wa ⟨xa, hxa, rfl, ka, hka⟩
    have HDa := Lib.hid (HD0.out.pick hka)
    clear hka
    by_cases hza : xa = 0
    · subst hza
      go_wp2_with fail
      go_at_call 52
      refine (l2Num_any _).mono ?_
      rintro e wb ⟨v, rfl, hty, hb⟩
      have HT := Lib.hid hty
      have HDb := Lib.hid (HDa.out.below hb)
      obtain ⟨av, cv, rfl, _⟩ := hty.at.slice
      clear hty hb
      obtain ⟨p0, p1, p2, f0, f1, f2, psz⟩ := HDb.out.rb
      go_wp2_with fail
      exact bodyPost_ret (v := .agg #[.int .i64 1, .int .i64 0, .slice av 0 cv]) (by simp [results, Try.results91, go_sem, p0, p1, p2, Ty.ks, Ty.k, Ty.n]) rfl ⟨_, _, 1, shp_num _, by omega, rfl, (HDb.out.done HT.out HDa.out.sz _ _ _).1, (HDb.out.done HT.out HDa.out.sz _ _ _).2.1, (HDb.out.done HT.out HDa.out.sz _ _ _).2.2⟩
    · have hzb : ((xa : Int) == 0) = false := by rw [beq_eq_false_iff_ne]; omega
      have hba := HDa.out.rd.big
      have HDc := Lib.hid (HDa.out.alloc (.cells #[.int .i64 0, .int .i64 1, .int .i64 2, .int .i64 0, .int .i64 25] 3))
      go_wp2_with fail
      go_at_call 55
      refine (num_any B a len cap zs _ _ HDc.out.rd (by omega) _ 5 5 0 25 (by omega) (by omega) (by omega) (intRow_new _ _ _ 5 0 25 rfl (by decide +kernel))).mono ?_
      rintro e wb ⟨n, hn, rfl, kb, hkb⟩
      have HN := Lib.hid hn
      have HDb := Lib.hid (HDc.out.pick hkb)
      clear hkb hn
      go_wp2_with fail
      go_at_call 110
      refine (l2Var_any n _).mono ?_
      rintro e wc ⟨v, rfl, hty, hb⟩
      have HT := Lib.hid hty
      have HDd := Lib.hid (HDb.out.below hb)
      obtain ⟨av, cv, rfl, _⟩ := hty.at.slice
      clear hty hb
      obtain ⟨p0, p1, p2, f0, f1, f2, psz⟩ := HDd.out.rb
      go_wp2_with fail
      exact bodyPost_ret (v := .agg #[.int .i64 4, .int .i64 n, .slice av 0 cv]) (by simp [results, Try.results91, go_sem, p0, p1, p2, Ty.ks, Ty.k, Ty.n]) rfl ⟨_, _, 2, shp_var _ n HN.out, by omega, rfl, (HDd.out.done HT.out HDb.out.sz _ _ _).1, (HDd.out.done HT.out HDb.out.sz _ _ _).2.1, (HDd.out.done HT.out HDb.out.sz _ _ _).2.2⟩
  | succ d ih =>
    intro B a len cap zs p D w hD hd hr hp
    obtain ⟨q, hQ⟩ : ∃ q, qd (d + 1) = q := ⟨_, rfl⟩
    obtain ⟨m, hm⟩ : ∃ m, qd d = m := ⟨_, rfl⟩
    have hq : 3 ≤ q := by rw [← hQ]; exact qd3 _
    have hqq : 3 + (m + m) ≤ q := by rw [← hQ, ← hm]; exact Nat.le_refl _
    rw [hQ] at hp ⊢
    rw [hm] at ih
    have HDD := Lib.hid (show D - 1 = (d : Int) by omega)
    have hDl : 0 ≤ D := by omega
    have hDu : D ≤ 2000 := by omega
    clear hQ hm hD
    by_cases h2 : D < 2
    · skip
      obtain ⟨W1, hW1⟩ : ∃ W, w.alloc (.cells #[.int .i64 0, .int .i64 0, .slice none 0 0] 28) = W := ⟨_, rfl⟩
      obtain ⟨S, hS⟩ : ∃ S, w.heap.size = S := ⟨_, rfl⟩
      have HD0 : Hid (DS w S B a len cap zs p W1) := Lib.hid (by rw [← hW1, ← hS]; exact ds_new hr _)
      have HW1 := Lib.hid hW1
      have HS := Lib.hid hS
      clear hr hW1
      go_enter Try.func91, Try.ntmps91
      go_wp2_with fail
      rw [HW1.out]
      clear hS
      go_at_call 51
      refine (pick_any B a len cap zs p 3 _ HD0.out.rd (by omega) (by omega) (by omega)).mono ?_
      rintro e wa ⟨xa, hxa, rfl, ka, hka⟩
      have HDa := Lib.hid (HD0.out.pick hka)
      clear hka
      by_cases hza : xa = 0
      · subst hza
        go_wp2_with fail
        go_at_call 52
        refine (l2Num_any _).mono ?_
        rintro e wb ⟨v, rfl, hty, hb⟩
        have HT := Lib.hid hty
        have HDb := Lib.hid (HDa.out.below hb)
        obtain ⟨av, cv, rfl, _⟩ := hty.at.slice
        clear hty hb
        obtain ⟨p0, p1, p2, f0, f1, f2, psz⟩ := HDb.out.rb
        go_wp2_with fail
        exact bodyPost_ret (v := .agg #[.int .i64 1, .int .i64 0, .slice av 0 cv]) (by simp [results, Try.results91, go_sem, p0, p1, p2, Ty.ks, Ty.k, Ty.n]) rfl ⟨_, _, 1, shp_num _, by omega, rfl, (HDb.out.done HT.out HDa.out.sz _ _ _).1, (HDb.out.done HT.out HDa.out.sz _ _ _).2.1, (HDb.out.done HT.out HDa.out.sz _ _ _).2.2⟩
      · have hzb : ((xa : Int) == 0) = false := by rw [beq_eq_false_iff_ne]; omega
        have hba := HDa.out.rd.big
        have HDc := Lib.hid (HDa.out.alloc (.cells #[.int .i64 0, .int .i64 1, .int .i64 2, .int .i64 0, .int .i64 25] 3))
        go_wp2_with fail
        go_at_call 55
        refine (num_any B a len cap zs _ _ HDc.out.rd (by omega) _ 5 5 0 25 (by omega) (by omega) (by omega) (intRow_new _ _ _ 5 0 25 rfl (by decide +kernel))).mono ?_
        rintro e wb ⟨n, hn, rfl, kb, hkb⟩
        have HN := Lib.hid hn
        have HDb := Lib.hid (HDc.out.pick hkb)
        clear hkb hn
        go_wp2_with fail
        go_at_call 110
        refine (l2Var_any n _).mono ?_
        rintro e wc ⟨v, rfl, hty, hb⟩
        have HT := Lib.hid hty
        have HDd := Lib.hid (HDb.out.below hb)
        obtain ⟨av, cv, rfl, _⟩ := hty.at.slice
        clear hty hb
        obtain ⟨p0, p1, p2, f0, f1, f2, psz⟩ := HDd.out.rb
        go_wp2_with fail
        exact bodyPost_ret (v := .agg #[.int .i64 4, .int .i64 n, .slice av 0 cv]) (by simp [results, Try.results91, go_sem, p0, p1, p2, Ty.ks, Ty.k, Ty.n]) rfl ⟨_, _, 2, shp_var _ n HN.out, by omega, rfl, (HDd.out.done HT.out HDb.out.sz _ _ _).1, (HDd.out.done HT.out HDb.out.sz _ _ _).2.1, (HDd.out.done HT.out HDb.out.sz _ _ _).2.2⟩
    · skip
      obtain ⟨W1, hW1⟩ : ∃ W, w.alloc (.cells #[.int .i64 0, .int .i64 0, .slice none 0 0] 28) = W := ⟨_, rfl⟩
      obtain ⟨S, hS⟩ : ∃ S, w.heap.size = S := ⟨_, rfl⟩
      have HD0 : Hid (DS w S B a len cap zs p W1) := Lib.hid (by rw [← hW1, ← hS]; exact ds_new hr _)
      have HW1 := Lib.hid hW1
      have HS := Lib.hid hS
      clear hr hW1
      go_enter Try.func91, Try.ntmps91
      go_wp2_with fail
      rw [HW1.out]
      clear hS
      go_at_call 51
      refine (pick_any B a len cap zs p 4 _ HD0.out.rd (by omega) (by omega) (by omega)).mono ?_
      rintro e w1 ⟨x1, hx1, rfl, k1, hk1⟩
      have HD1 := Lib.hid (HD0.out.pick hk1)
      clear hk1
      by_cases hz1 : x1 = 0
      · subst hz1
        go_wp2_with fail
        go_at_call 51
        refine (pick_any B a len cap zs _ 3 _ HD1.out.rd (by omega) (by omega) (by omega)).mono ?_
        rintro e wa ⟨xa, hxa, rfl, ka, hka⟩
        have HDa := Lib.hid (HD1.out.pick hka)
        clear hka
        by_cases hza : xa = 0
        · subst hza
          go_wp2_with fail
          go_at_call 52
          refine (l2Num_any _).mono ?_
          rintro e wb ⟨v, rfl, hty, hb⟩
          have HT := Lib.hid hty
          have HDb := Lib.hid (HDa.out.below hb)
          obtain ⟨av, cv, rfl, _⟩ := hty.at.slice
          clear hty hb
          obtain ⟨p0, p1, p2, f0, f1, f2, psz⟩ := HDb.out.rb
          go_wp2_with fail
          exact bodyPost_ret (v := .agg #[.int .i64 1, .int .i64 0, .slice av 0 cv]) (by simp [results, Try.results91, go_sem, p0, p1, p2, Ty.ks, Ty.k, Ty.n]) rfl ⟨_, _, 2, shp_num _, by omega, rfl, (HDb.out.done HT.out HDa.out.sz _ _ _).1, (HDb.out.done HT.out HDa.out.sz _ _ _).2.1, (HDb.out.done HT.out HDa.out.sz _ _ _).2.2⟩
        · have hzb : ((xa : Int) == 0) = false := by rw [beq_eq_false_iff_ne]; omega
          have hba := HDa.out.rd.big
          have HDc := Lib.hid (HDa.out.alloc (.cells #[.int .i64 0, .int .i64 1, .int .i64 2, .int .i64 0, .int .i64 25] 3))
          go_wp2_with fail
          go_at_call 55
          refine (num_any B a len cap zs _ _ HDc.out.rd (by omega) _ 5 5 0 25 (by omega) (by omega) (by omega) (intRow_new _ _ _ 5 0 25 rfl (by decide +kernel))).mono ?_
          rintro e wb ⟨n, hn, rfl, kb, hkb⟩
          have HN := Lib.hid hn
          have HDb := Lib.hid (HDc.out.pick hkb)
          clear hkb hn
          go_wp2_with fail
          go_at_call 110
          refine (l2Var_any n _).mono ?_
          rintro e wc ⟨v, rfl, hty, hb⟩
          have HT := Lib.hid hty
          have HDd := Lib.hid (HDb.out.below hb)
          obtain ⟨av, cv, rfl, _⟩ := hty.at.slice
          clear hty hb
          obtain ⟨p0, p1, p2, f0, f1, f2, psz⟩ := HDd.out.rb
          go_wp2_with fail
          exact bodyPost_ret (v := .agg #[.int .i64 4, .int .i64 n, .slice av 0 cv]) (by simp [results, Try.results91, go_sem, p0, p1, p2, Ty.ks, Ty.k, Ty.n]) rfl ⟨_, _, 3, shp_var _ n HN.out, by omega, rfl, (HDd.out.done HT.out HDb.out.sz _ _ _).1, (HDd.out.done HT.out HDb.out.sz _ _ _).2.1, (HDd.out.done HT.out HDb.out.sz _ _ _).2.2⟩
      · have hz1b : ((x1 : Int) == 0) = false := by rw [beq_eq_false_iff_ne]; omega
        have hb1 := HD1.out.rd.big
        have HDc := Lib.hid (HD1.out.alloc (.cells #[.int .i64 2, .int .i64 3, .int .i64 2] 3))
        go_wp2_with fail
        go_at_call 55
        refine (num_any B a len cap zs _ _ HDc.out.rd (by omega) _ 3 3 2 3 (by omega) (by omega) (by omega) (intRow_new _ _ _ 3 2 3 rfl (by decide +kernel))).mono ?_
        rintro e w2 ⟨n, hn, rfl, k2, hk2⟩
        have HN := Lib.hid hn
        have HD2 := Lib.hid (HDc.out.pick hk2)
        clear hk2 hn
        go_wp2_with fail
        go_at_call 91
        refine (ih B a len cap zs _ (D - 1) _ HDD.out (by omega) HD2.out.rd (by omega)).mono ?_
        rintro e w3 ⟨t1, v1, r1, hs1, hr1, rfl, hty1, hd1, hrd1⟩
        have HT1 := Lib.hid hty1
        have HS1 := Lib.hid hs1
        have HD3 := Lib.hid (HD2.out.step hd1 hrd1)
        obtain ⟨a1, c1, rfl, _⟩ := hty1.at.slice
        have HZ3 := Lib.hid hd1.size
        clear hty1 hs1 hd1 hrd1
        go_wp2_with fail
        go_at_call 91
        refine (ih B a len cap zs _ (D - 1) _ HDD.out (by omega) HD3.out.rd (by omega)).mono ?_
        rintro e w4 ⟨t2, v2, r2, hs2, hr2, rfl, hty2, hd2, hrd2⟩
        have HT2 := Lib.hid hty2
        have HS2 := Lib.hid hs2
        have HD4 := Lib.hid (HD3.out.step hd2 hrd2)
        have HT1' := Lib.hid (HT1.out.dw HD2.out.rd.big hd2)
        obtain ⟨a2, c2, rfl, _⟩ := hty2.at.slice
        have HZ4 := Lib.hid hd2.size
        clear hty2 hs2 hd2 hrd2
        go_wp2_with fail
        go_at_call 90
        refine (l2Node_any n t1 t2 _ _ w2.heap.size _ _ _ _ _ HT1'.out HT2.out (Nat.le_refl _) HZ3.out (Nat.le_refl _) HZ4.out (Nat.le_refl _) (Nat.le_trans HZ3.out HZ4.out)).mono ?_
        rintro e w5 ⟨v, rfl, hty, hb⟩
        have HT := Lib.hid hty
        have HD5 := Lib.hid (HD4.out.below hb)
        obtain ⟨av, cv, rfl, _⟩ := hty.at.slice
        clear hty hb
        obtain ⟨p0, p1, p2, f0, f1, f2, psz⟩ := HD5.out.rb
        go_wp2_with fail
        exact bodyPost_ret (v := .agg #[.int .i64 n, .int .i64 0, .slice av 2 cv]) (by simp [results, Try.results91, go_sem, p0, p1, p2, Ty.ks, Ty.k, Ty.n]) rfl ⟨_, _, 2 + (r1 + r2), shp_two _ n t1 t2 HN.out HS1.out HS2.out, by omega, rfl, (HD5.out.done HT.out HD2.out.sz _ _ _).1, (HD5.out.done HT.out HD2.out.sz _ _ _).2.1, by have h := (HD5.out.done HT.out HD2.out.sz (.int .i64 n) (.int .i64 0) (.slice av 2 cv)).2.2; rw [show p + 1 + 1 + r1 + r2 = p + (2 + (r1 + r2)) by omega] at h; exact h⟩

end Go.Proofs.Ytlgbkhkmfgdehaa

namespace Go.Proofs.Ytlgbkhkmfgdehaa
open Go.RowKit
set_option linter.unusedVariables false
set_option linter.unusedSimpArgs false
theorem sum_mem_le : ∀ (l : List Nat) (x : Nat), x ∈ l → x ≤ l.sum
  | [], x, h => by cases h
  | y :: l, x, h => by
    rcases List.mem_cons.1 h with h | h
    · subst h; simp
    · have := sum_mem_le l x h; simp; omega
theorem nodes_kid (t : Ty) (i : Nat) (hi : i < t.ks.length) : nodes (t.ks.getD i Ty.dummy) < nodes t := by
  cases t with
  | node k n ks =>
    rw [nodes_kids]
    have hi' : i < ks.length := hi
    have := sum_mem_le ((List.range ks.length).map fun i => nodes (ks.getD i Ty.dummy)) (nodes (ks.getD i Ty.dummy)) (List.mem_map.2 ⟨i, List.mem_range.2 hi', rfl⟩)
    show nodes (ks.getD i Ty.dummy) < _
    omega
theorem sum_len : ∀ (f : Nat → Nat) (n : Nat), (∀ i, 0 < f i) → n ≤ ((List.range n).map f).sum
  | f, 0, _ => Nat.zero_le _
  | f, n + 1, h => by
    have h1 := sum_len f n h
    have h2 := h n
    simp only [List.range_succ, List.map_append, List.sum_append, List.map_cons, List.map_nil, List.sum_cons, List.sum_nil]
    omega
theorem nodes_len (t : Ty) : t.ks.length < nodes t := by
  cases t with
  | node k n ks =>
    rw [nodes_kids]
    have := sum_len (fun i => nodes (ks.getD i Ty.dummy)) ks.length (fun i => nodes_pos _)
    show ks.length < _
    omega
/-- l2Copy copies every type of at most a million nodes. -/
theorem l2Copy_all : ∀ (m : Nat) (t : Ty) (v : Value) (w : World), nodes t < m → m ≤ 1000001 → TyAt w t v → Calls Try.prog 30 #[.agg #[.int .i64 t.k, .int .i64 t.n, v]] w (TyRet t w) := by
  intro m
  induction m with
  | zero => intro t v w h; exact absurd h (Nat.not_lt_zero _)
  | succ m ih =>
    intro t v w h hm hx
    have hl := nodes_len t
    have h1 := l2Copy_of t t.ks v w hx rfl (by omega) (fun i hi vi W hki => ih _ vi W (by have := nodes_kid t i hi; omega) (by omega) hki)
    cases t with
    | node k n ks => exact h1
theorem own_under {w : World} {B B' n sz : Nat} {e : TypeId} {v : Value} {xs : List Value} (h : w.ownsRow B e sz v n xs) (hb : B' ≤ B) : w.ownsRow B' e sz v n xs := by
  obtain ⟨hl, h | ⟨g, cap, cur, rfl, hb', hg, h1, h2, h3, h4⟩⟩ := h
  · exact ⟨hl, .inl h⟩
  · exact ⟨hl, .inr ⟨g, cap, cur, rfl, Nat.le_trans hb hb', hg, h1, h2, h3, h4⟩⟩
theorem Gr.under {rs : List Ty} {B B' j : Nat} {w : World} {cv : Value} {xs : List Value} {vs : Nat → Value} {l h : Nat → Nat} (f : Gr rs B j w cv xs vs l h) (hb : B' ≤ B) : Gr rs B' j w cv xs vs l h :=
  ⟨own_under f.own hb, f.x0, f.x1, f.x2, fun i hi => ⟨Nat.le_trans hb (f.lo i hi).1, (f.lo i hi).2⟩, f.di, f.ty, f.ap⟩
theorem Gr.res {rs : List Ty} {R B j : Nat} {w : World} {cv : Value} {xs : List Value} {vs : Nat → Value} {l h : Nat → Nat} (f : Gr rs B j w cv xs vs l h) (hR : R < B) (x y z : Value) : Gr rs B j (((w.setCell ⟨R, 0, none⟩ x).setCell ⟨R, 1, none⟩ y).setCell ⟨R, 2, none⟩ z) cv xs vs l h :=
  f.keep (by simp) (fun b hb _ => heap_res (by omega))
/-- What l2Copy leaves, its row one that may grow. -/
def GrRet (t : Ty) (w : World) (e : Ending) (w' : World) : Prop := ∃ (cv : Value) (xs : List Value) (vs : Nat → Value) (l h : Nat → Nat), e = .returned (.agg #[.int .i64 t.k, .int .i64 t.n, cv]) ∧ Gr t.ks w.heap.size t.ks.length w' cv xs vs l h ∧ Below w.heap.size w w'
set_option maxRecDepth 100000 in
set_option maxHeartbeats 8000000 in
theorem l2Copy_own (t : Ty) (rs : List Ty) (v : Value) (w : World) (hx : TyAt w t v) (hrs : rs.length = t.ks.length) (hsz : t.ks.length ≤ 1000000)
    (H : ∀ i, i < t.ks.length → ∀ (vi : Value) (W : World), TyAt W (t.ks.getD i Ty.dummy) vi → Calls Try.prog 30 #[.agg #[.int .i64 (t.ks.getD i Ty.dummy).k, .int .i64 (t.ks.getD i Ty.dummy).n, vi]] W (TyRet (rs.getD i Ty.dummy) W)) :
    Calls Try.prog 30 #[.agg #[.int .i64 t.k, .int .i64 t.n, v]] w (GrRet (.node t.k t.n rs) w) := by
  obtain ⟨i0, hi0, hz0, hz1, hz2⟩ := info_parts infoTy
  have HH := Lib.hid H
  have HX0 := Lib.hid hx
  obtain ⟨a, cap, rfl, hlen⟩ := hx.slice
  obtain ⟨L, hL⟩ : ∃ L, t.ks.length = L := ⟨_, rfl⟩
  have HL := Lib.hid hL
  have HRS := Lib.hid (hrs.trans hL)
  rw [hL] at hlen hsz ⊢
  obtain ⟨S, hS⟩ : ∃ S, w.heap.size = S := ⟨_, rfl⟩
  have HS := Lib.hid hS
  obtain ⟨W1, hW1⟩ : ∃ W1, ((w.alloc (.cells #[.int .i64 t.k, .int .i64 t.n, .slice a L cap] 28)).alloc (.cells #[.int .i64 0, .int .i64 0, .slice none 0 0] 28)).alloc (.cells #[.int .i64 t.k, .int .i64 t.n, .slice none 0 0] 28) = W1 := ⟨_, rfl⟩
  have HW1 := Lib.hid hW1
  have hB1 : Below w.heap.size w W1 := by rw [← hW1]; exact (((Below.refl _ _).alloc (Nat.le_refl _) _).alloc (by simp) _).alloc (by simp; omega) _
  have HB1S : Hid (Below S w W1) := Lib.hid (by rw [← hS]; exact hB1)
  have HT1 : Hid (TBox W1 S (.int .i64 t.k) (.int .i64 t.n) (.slice a L cap)) := Lib.hid (by rw [← hW1, ← hS]; exact ((tbox_new w _ _ _ _).kept ((Below.refl _ _).alloc (Nat.le_refl _) _)).kept ((Below.refl _ _).alloc (Nat.le_refl _) _))
  have HR1 : Hid (RB W1 (S + 1)) := Lib.hid (by have h := (rb_new (w.alloc (.cells #[.int .i64 t.k, .int .i64 t.n, .slice a L cap] 28)) 28).kept ((Below.refl _ _).alloc (Nat.le_refl _) (.cells #[.int .i64 t.k, .int .i64 t.n, .slice none 0 0] 28)); rw [sizeA, hW1, hS] at h; exact h)
  have HO1 : Hid (OB W1 (S + 1 + 1) t.k t.n (.slice none 0 0)) := Lib.hid (by
    have h := ob_new ((w.alloc (.cells #[.int .i64 t.k, .int .i64 t.n, .slice a L cap] 28)).alloc (.cells #[.int .i64 0, .int .i64 0, .slice none 0 0] 28)) t.k t.n (.slice none 0 0) 28
    rw [sizeA, sizeA, hW1, hS] at h
    exact h)
  have hz1' : W1.heap.size = S + 1 + 1 + 1 := by rw [← hW1, ← hS]; simp
  have HSW := Lib.hid (show S ≤ W1.heap.size by omega)
  clear hx hL hrs H hB1 hW1
  go_enter Try.func30, Try.ntmps30
  go_wp2_with fail
  rw [HW1.out]
  clear hS
  go_loopw [4] (fun i wr => ∃ (j : Nat) (cv : Value) (xs : List Value) (vs : Nat → Value) (l h : Nat → Nat), j ≤ L ∧ i = .int .i64 j ∧ Hid (Gr rs (S + 1 + 1 + 1) j wr cv xs vs l h) ∧ Hid (OB wr (S + 1 + 1) t.k t.n cv) ∧ Hid (Inside (S + 1 + 1) (S + 1 + 1 + 1) W1 wr)) (fun i _ => L - (intOf i).toNat)
  case atStart => exact ⟨0, _, [], _, _, _, Nat.zero_le _, rfl, Lib.hid (gr_nil rs (S + 1 + 1 + 1) W1), HO1, Lib.hid (Inside.refl _ _ _)⟩
  case round =>
    obtain ⟨j, cv, xs, vs, l, h, hj, rfl, hgr, hob, hin⟩ := hrel
    have HTw := Lib.hid (HT1.out.away hin.out (.inl (by omega)))
    have hszw : S + 1 + 1 + 1 ≤ wr.heap.size := by have := hin.out.size; omega
    by_cases hlt : j < L
    · have hji : (j : Int) < (L : Int) := by omega
      have hti := hin.out.below (B := S) (by omega) HB1S.out HSW.out
      obtain ⟨b, o, cap2, vi, ex, bl, y0, y1, y2, hkid⟩ := HX0.out.kid j (by rw [HL.out]; exact hlt)
      have ex1 : a = some ⟨b, o, none⟩ := by injection ex
      subst ex1
      rw [HS.out] at bl
      replace y0 := (hti.cell (p := ⟨b, o + j * 3, none⟩) bl).trans y0
      replace y1 := (hti.cell (p := ⟨b, o + j * 3 + 1, none⟩) bl).trans y1
      replace y2 := (hti.cell (p := ⟨b, o + j * 3 + 2, none⟩) bl).trans y2
      have HKID := Lib.hid (hkid.kept (by rw [HS.out]; exact hti))
      have HJ := Lib.hid (HH.out j (by rw [HL.out]; exact hlt) vi)
      obtain ⟨x, hx⟩ : ∃ x, t.ks.getD j Ty.dummy = x := ⟨_, rfl⟩
      obtain ⟨y, hy⟩ : ∃ y, rs.getD j Ty.dummy = y := ⟨_, rfl⟩
      rw [hx] at y0 y1 HKID HJ
      rw [hy] at HJ
      have HY := Lib.hid hy
      have hbw : b < wr.heap.size := by omega
      have h63 : j + 1 ≤ maxLen := by unfold maxLen; omega
      have hby : (j + 1) * 40 ≤ 140737488355328 := by omega
      obtain ⟨t0, t1, t2, tz⟩ := HTw.out
      obtain ⟨p0, p1, p2, pf2, pz⟩ := hob.out
      have hn0 : ¬ S = S + 1 + 1 := by omega
      have hn1 : ¬ b = S + 1 + 1 := by omega
      have HTI := Lib.hid hti
      have hszS : S ≤ wr.heap.size := by omega
      clear ex hkid hx hy hti t0 t1 tz
      go_wp2_with fail
      go_region_law (first
        | (refine step_append_lies _ (by rfl) _ _ _ (by rfl) (S + 1 + 1 + 1) 28 i0 _ 3 40 Try.underlying26 hi0 hz0 hz1 hz2 rfl (by omega) cv j xs (by rfl) (HOWN2.out.alloc _) ⟨w2.heap.size, 0, none⟩ 1 1 [.int .i64 y.k, .int .i64 y.n, .slice a2 y.ks.length k2] (by rfl) (by rfl) (World.news_of_block (cs := #[.int .i64 y.k, .int .i64 y.n, .slice a2 y.ks.length k2]) (t := 28) (fr := (0, 0)) (heap_alloc_new w2 _)) (by simp [Value.oneCell']) (by omega) h63 hby (hbase2 _) (w2.heap.size + 1) (by simp) ?_; intro g cap3 w3 hown3 hgrow hat hltg; obtain ⟨xs3, vs3, l3, h3, hg3⟩ := hgr.out.step (by omega) HY.out HB2.out HTY2.out hown3 hgrow hat; have hrow : ∀ q, cv.ownBlock = some q → S + 1 + 1 + 1 ≤ q := (fun q e => (own_low HOWN2.out e).1); have e0 := grow_old hgrow (q := S) (by omega) (fun q e => by have := hrow q e; omega); have e1 := grow_old hgrow (q := b) (by omega) (fun q e => by have := hrow q e; omega); have HO3 := Lib.hid (HO2.out.keep (by have := grow_size hgrow; omega) (grow_old hgrow (q := S + 1 + 1) (by omega) (fun q e => by have := hrow q e; omega))); have HI3 := Lib.hid (in_grow HI2.out hgrow (fun q e => by have := hrow q e; omega)); have HG3 := Lib.hid hg3; have f2 := (cellEq e0).trans c2; have g0 := (cellEq e1).trans d0; have g1 := (cellEq e1).trans d1; have g2 := (cellEq e1).trans d2; obtain ⟨o0, o1, o2, of2, oz⟩ := HO3.out; have hs3 := grow_size hgrow; clear hown3 hgrow hat hg3 e0 e1)
        | (go_simp; go_at_call 30; refine (HJ.out _ (HKID.out.kept (by first | exact Below.refl _ _ | exact (Below.refl _ _).drew))).mono ?_; rintro e w2 ⟨v2, rfl, hty2, hb2⟩; obtain ⟨a2, k2, rfl, _⟩ := hty2.at.slice; have hb2' : Below wr.heap.size wr w2 := Below.trans (B := wr.heap.size) (by first | exact Below.refl _ _ | exact (Below.refl _ _).drew) hb2; have hty2' : TyIn w2 wr.heap.size w2.heap.size y (.slice a2 y.ks.length k2) := hty2; have HTY2 := Lib.hid hty2'; have HB2 := Lib.hid hb2'; have HOWN2 := Lib.hid (own_below hgr.out.own hb2'); have HO2 := Lib.hid (hob.out.kept hb2'); have HT2 := Lib.hid (HTw.out.kept hb2'); have HI2 := Lib.hid (hin.out.trans (Inside.of_below hb2')); have hs2 : wr.heap.size ≤ w2.heap.size := hb2'.size; have hbase2 : ∀ o, S + 1 + 1 + 1 ≤ (w2.alloc o).heap.size := (fun o => by simp; omega); obtain ⟨c0, c1, c2, cz⟩ := HT2.out; obtain ⟨rp0, rp1, rp2, rpf, rpz⟩ := HO2.out; have d0 := (hb2'.cell (p := ⟨b, o + j * 3, none⟩) hbw).trans y0; have d1 := (hb2'.cell (p := ⟨b, o + j * 3 + 1, none⟩) hbw).trans y1; have d2 := (hb2'.cell (p := ⟨b, o + j * 3 + 2, none⟩) hbw).trans y2; clear hb2 hb2' hty2 hty2'))
      all_goals go_wp2_with fail
      all_goals go_roundw
      all_goals first
        | exact ⟨j + 1, _, _, _, _, _, by omega, by go_num, Lib.hid (HG3.out.keep (by simp) (fun q h1 _ => heap_setCell_other _ ⟨S + 1 + 1, 2, none⟩ q _ (by show q ≠ S + 1 + 1; omega))), Lib.hid (HO3.out.set _), Lib.hid (HI3.out.trans (Inside.set _ _ _ (Nat.le_refl _) (Nat.lt_succ_self _)))⟩
        | (simp [intOf]; omega)
    · have hji : ¬ (j : Int) < (L : Int) := by omega
      obtain rfl : j = L := by omega
      have hgd := hgr.out
      rw [← HRS.out] at hgd
      have HD := Lib.hid (hgd.done t.k t.n (by rw [HRS.out]; exact hlen))
      obtain ⟨ca, cc, rfl, _⟩ := HD.out.at.slice
      have HRw := Lib.hid (HR1.out.keep hin.out.size (hin.out.block _ HR1.out.sz (.inl (by omega))))
      have HBw := Lib.hid (hin.out.below (B := S) (by omega) HB1S.out HSW.out)
      obtain ⟨t0, t1, t2, tz⟩ := HTw.out
      obtain ⟨p0, p1, p2, pf2, pz⟩ := hob.out
      obtain ⟨q0, q1, q2, qf0, qf1, qf2, qz⟩ := HRw.out
      clear hgd
      go_wp2_with fail
      exact bodyPost_ret (v := .agg #[.int .i64 t.k, .int .i64 t.n, .slice ca (Ty.node t.k t.n rs).ks.length cc]) (by simp [results, Try.results30, go_sem, q0, q1, q2, Ty.ks, HRS.out]) rfl ⟨_, _, _, _, _, rfl, by have h := (hgr.out.under (Nat.le_succ_of_le (Nat.le_refl _))).res (R := S + 1) (by omega) (.int .i64 t.k) (.int .i64 t.n) (.slice ca (Ty.node t.k t.n rs).ks.length cc); have h2 := h.under (show w.heap.size ≤ S + 1 + 1 by rw [HS.out]; omega); rw [← HRS.out] at h2; exact h2, Inside.thin (in_res (lo := w.heap.size) (hi := w.heap.size) (Inside.of_below (by rw [HS.out]; exact HBw.out)) (by rw [HS.out]; omega) _ _ _)⟩

/-- A copy whose row may grow. -/
theorem l2Copy_gr (t : Ty) (v : Value) (w : World) (hn : nodes t ≤ 1000000) (hx : TyAt w t v) : Calls Try.prog 30 #[.agg #[.int .i64 t.k, .int .i64 t.n, v]] w (GrRet t w) := by
  have hl := nodes_len t
  have h1 := l2Copy_own t t.ks v w hx rfl (by omega) (fun i hi vi W hki => l2Copy_all _ _ vi W (Nat.lt_succ_self _) (by have := nodes_kid t i hi; omega) hki)
  cases t with
  | node k n ks => exact h1
theorem shp_up : ∀ (d : Nat) (t : Ty), shp d t = true → shp (d + 1) t = true := by
  intro d
  induction d with
  | zero => intro t h; cases h
  | succ d ih =>
    intro t h
    obtain ⟨h1, h2⟩ := shp_iff.1 h
    exact shp_iff.2 ⟨h1, fun i hi => ih _ (h2 i hi)⟩
theorem shp_add {d : Nat} {t : Ty} (h : shp d t = true) : ∀ m, shp (d + m) t = true
  | 0 => h
  | m + 1 => shp_up _ _ (shp_add h m)
theorem shp_le {d d' : Nat} {t : Ty} (h : shp d t = true) (hd : d ≤ d') : shp d' t = true := by
  have := shp_add h (d' - d); rwa [show d + (d' - d) = d' by omega] at this
theorem nodes_shp : ∀ (d : Nat) (t : Ty), shp d t = true → nodes t + 1 ≤ 2 ^ d := by
  intro d
  induction d with
  | zero => intro t h; cases h
  | succ d ih =>
    intro t h
    obtain ⟨h1, h2⟩ := shp_iff.1 h
    have hl := fieldsB_len h1
    cases t with
    | node k n ks =>
      rw [nodes_kids]
      have hp : 1 ≤ 2 ^ d := Nat.one_le_two_pow
      have e2 : 2 ^ (d + 1) = 2 ^ d + 2 ^ d := by rw [Nat.pow_succ]; omega
      match ks, hl, h2 with
      | [], _, _ => simp; omega
      | [x], _, h2 => have a := ih x (h2 0 (by simp [Ty.ks])); simp [List.range_succ]; omega
      | [x, y], _, h2 => have a := ih x (h2 0 (by simp [Ty.ks])); have b := ih y (h2 1 (by simp [Ty.ks])); simp [List.range_succ, List.getD]; omega
      | _ :: _ :: _ :: _, hl, _ => simp [Ty.ks] at hl
set_option maxRecDepth 100000 in
set_option maxHeartbeats 4000000 in
theorem l2Some_any (B : Nat) (a : Option Addr) (len cap : Nat) (zs : List Int) (p : Nat) (w : World) (P : Ty → Prop) (hP : ∀ t, shp 5 t = true → P t) (q : Nat) (hqq : 100 ≤ q) (hr : Rd w B a len cap zs p) (hp : p + q ≤ 1000000) :
    Calls Try.prog 54 #[.pointer (some ⟨B, 0, none⟩)] w (DrPost P w B a len cap zs p q) := by
  have HP := Lib.hid hP
  clear hP
  obtain ⟨W1, hW1⟩ : ∃ W, w.alloc (.cells #[.int .i64 0, .int .i64 0, .slice none 0 0] 28) = W := ⟨_, rfl⟩
  obtain ⟨S, hS⟩ : ∃ S, w.heap.size = S := ⟨_, rfl⟩
  have HD0 : Hid (DS w S B a len cap zs p W1) := Lib.hid (by rw [← hW1, ← hS]; exact ds_new hr _)
  have HW1 := Lib.hid hW1
  have HS := Lib.hid hS
  clear hr hW1
  go_enter Try.func54, Try.ntmps54
  go_wp2_with fail
  rw [HW1.out]
  clear hS
  have hb1 := HD0.out.rd.big
  have HDc := Lib.hid (HD0.out.alloc (.cells #[.int .i64 3, .int .i64 2, .int .i64 4, .int .i64 1] 3))
  have HIR : Hid (IntRow (W1.alloc (.cells #[.int .i64 3, .int .i64 2, .int .i64 4, .int .i64 1] 3)) (S + 1) 4 1 4) := Lib.hid (by
    have h := intRow_new W1 #[.int .i64 3, .int .i64 2, .int .i64 4, .int .i64 1] 3 4 1 4 rfl (by decide +kernel)
    have e : W1.heap.size = S + 1 := by rw [← HW1.out, ← HS.out]; simp
    rw [e] at h
    exact h)
  have hbs : ¬ S + 1 = B := by have := HD0.out.lt; omega
  go_at_call 55
  refine (num_any B a len cap zs _ _ HDc.out.rd (by omega) _ 4 4 1 4 (by omega) (by omega) hbs HIR.out).mono ?_
  rintro e w2 ⟨n, hn, rfl, k2, hk2⟩
  have HN := Lib.hid hn
  have HD2 := Lib.hid (HDc.out.pick hk2)
  clear hk2 hn
  obtain ⟨d, hd⟩ : ∃ d : Nat, n = d := ⟨n.toNat, by have := HN.out; omega⟩
  have hd4 : d ≤ 4 := by have := HN.out; omega
  have HDD := Lib.hid hd
  have hq : qd d ≤ 93 := by
    have : d = 0 ∨ d = 1 ∨ d = 2 ∨ d = 3 ∨ d = 4 := by omega
    rcases this with rfl | rfl | rfl | rfl | rfl <;> decide
  clear hd
  go_wp2_with fail
  go_at_call 91
  refine (l2Draw_any d B a len cap zs _ n _ HDD.out (by omega) HD2.out.rd (by omega)).mono ?_
  rintro e w3 ⟨t, v, r, hs, hr, rfl, hty, hdw, hrd⟩
  have HT := Lib.hid hty
  have HS1 := Lib.hid (HP.out t (shp_le (d' := 5) hs (by omega)))
  have HD3 := Lib.hid (HD2.out.step hdw hrd)
  obtain ⟨av, cv, rfl, _⟩ := hty.at.slice
  clear hty hs hdw hrd
  obtain ⟨p0, p1, p2, f0, f1, f2, psz⟩ := HD3.out.rb
  go_wp2_with fail
  exact bodyPost_ret (v := .agg #[.int .i64 t.k, .int .i64 t.n, .slice av t.ks.length cv]) (by simp [results, Try.results54, go_sem, p0, p1, p2, Ty.ks, Ty.k, Ty.n]) rfl ⟨_, _, 1 + r, HS1.out, by omega, rfl, (HD3.out.done HT.out HD2.out.sz _ _ _).1, (HD3.out.done HT.out HD2.out.sz _ _ _).2.1, by have h := (HD3.out.done HT.out HD2.out.sz (.int .i64 t.k) (.int .i64 t.n) (.slice av t.ks.length cv)).2.2; rw [show p + 1 + r = p + (1 + r) by omega] at h; exact h⟩

end Go.Proofs.Ytlgbkhkmfgdehaa

namespace Go.Proofs.Ytlgbkhkmfgdehaa
open Go.RowKit
set_option linter.unusedVariables false
set_option linter.unusedSimpArgs false
/-- A box of three cells that may be written. -/
structure OC (w : World) (E : Nat) (k n : Int) (v : Value) : Prop where
  c0 : w.cell? ⟨E, 0, none⟩ = some (.int .i64 k)
  c1 : w.cell? ⟨E, 1, none⟩ = some (.int .i64 n)
  c2 : w.cell? ⟨E, 2, none⟩ = some v
  f0 : w.frozen? ⟨E, 0, none⟩ = false
  f1 : w.frozen? ⟨E, 1, none⟩ = false
  f2 : w.frozen? ⟨E, 2, none⟩ = false
  sz : E < w.heap.size
theorem OC.keep {w w' : World} {E : Nat} {k n : Int} {v : Value} (h : OC w E k n v) (hs : w.heap.size ≤ w'.heap.size) (e : w'.heap[E]? = w.heap[E]?) : OC w' E k n v :=
  ⟨(cellEq e).trans h.c0, (cellEq e).trans h.c1, (cellEq e).trans h.c2, (frozenEq e).trans h.f0, (frozenEq e).trans h.f1, (frozenEq e).trans h.f2, Nat.lt_of_lt_of_le h.sz hs⟩
theorem OC.dw {w w' : World} {B E : Nat} {k n : Int} {v : Value} (h : OC w E k n v) (hB : B < E) (hd : Dw B w w') : OC w' E k n v := h.keep hd.size (hd.block E h.sz (by simp; omega))
theorem OC.kept {w w' : World} {E : Nat} {k n : Int} {v : Value} (h : OC w E k n v) (hb : Below w.heap.size w w') : OC w' E k n v := h.keep hb.size (hb.block E h.sz)
theorem oc_new (w : World) (k n : Int) (v : Value) (T : TypeId) : OC (w.alloc (.cells #[.int .i64 k, .int .i64 n, v] T)) w.heap.size k n v := ⟨by go_simp, by go_simp, by go_simp, by go_simp, by go_simp, by go_simp, by simp⟩
theorem OC.set0 {w : World} {E : Nat} {k n : Int} {v : Value} (h : OC w E k n v) (u : Int) : OC (w.setCell ⟨E, 0, none⟩ (.int .i64 u)) E u n v := by
  obtain ⟨a0, a1, a2, b0, b1, b2, sz⟩ := h
  exact ⟨by go_simp, by go_simp, by go_simp, by go_simp, by go_simp, by go_simp, by simpa using sz⟩
theorem OC.set1 {w : World} {E : Nat} {k n : Int} {v : Value} (h : OC w E k n v) (u : Int) : OC (w.setCell ⟨E, 1, none⟩ (.int .i64 u)) E k u v := by
  obtain ⟨a0, a1, a2, b0, b1, b2, sz⟩ := h
  exact ⟨by go_simp, by go_simp, by go_simp, by go_simp, by go_simp, by go_simp, by simpa using sz⟩
theorem OC.set2 {w : World} {E : Nat} {k n : Int} {v : Value} (h : OC w E k n v) (u : Value) : OC (w.setCell ⟨E, 2, none⟩ u) E k n u := by
  obtain ⟨a0, a1, a2, b0, b1, b2, sz⟩ := h
  exact ⟨by go_simp, by go_simp, by go_simp, by go_simp, by go_simp, by go_simp, by simpa using sz⟩
theorem Gr.dw {rs : List Ty} {B B0 j : Nat} {w w' : World} {cv : Value} {xs : List Value} {vs : Nat → Value} {l h : Nat → Nat} (f : Gr rs B j w cv xs vs l h) (hB : B0 < B) (hd : Dw B0 w w') : Gr rs B j w' cv xs vs l h :=
  f.keep hd.size (fun b h1 h2 => hd.block b h2 (by simp; omega))
theorem DS.setNew {w : World} {S B : Nat} {a : Option Addr} {len cap : Nat} {zs : List Int} {p : Nat} {W : World} (h : DS w S B a len cap zs p W) {E : Nat} (hE : S < E) (o : Nat) (x : Value) : DS w S B a len cap zs p (W.setCell ⟨E, o, none⟩ x) :=
  ⟨h.rd.setNew (by have := h.lt; omega) o x, h.dw.setNew (by have := h.eq; omega) o x, h.rb.keep (by simp) (heap_setCell_other _ ⟨E, o, none⟩ S _ (by show S ≠ E; omega)), h.lt, h.eq⟩
theorem nodes_same (t : Ty) (k n : Int) : nodes (.node k n t.ks) = nodes t := by cases t; simp [nodes_kids, Ty.ks]
theorem nodes_more (t : Ty) (k n : Int) : nodes (.node k n (t.ks ++ [.node 1 0 []])) = nodes t + 1 := by
  cases t with
  | node k' n' ks =>
    simp only [Ty.ks]
    simp only [nodes]
    have : ∀ l : List Ty, nodesL (l ++ [.node 1 0 []]) = nodesL l + 1 := fun l => by
      induction l with
      | nil => simp [nodesL, nodes]
      | cons x l ih => simp [nodesL, ih]; omega
    rw [this]
theorem nodes_two (k n : Int) (x y : Ty) : nodes (.node k n [x, y]) = nodes x + nodes y + 1 := by simp [nodes, nodesL]

/-- The type's rows lie from block lo on, none in block E. -/
inductive TyN (w : World) (lo E : Nat) : Ty → Value → Prop where
  | bare (k n : Int) (a : Option Addr) (cap : Nat) : TyN w lo E (.node k n []) (.slice a 0 cap)
  | row (k n : Int) (ks : List Ty) (b o cap : Nat) (vs : Nat → Value) (hb : lo ≤ b) (he : b ≠ E) (hr : Row w b) (hl : ks.length ≤ 9223372036854775807)
      (h0 : ∀ i, i < ks.length → w.cell? ⟨b, o + i * 3, none⟩ = some (.int .i64 (ks.getD i Ty.dummy).k))
      (h1 : ∀ i, i < ks.length → w.cell? ⟨b, o + i * 3 + 1, none⟩ = some (.int .i64 (ks.getD i Ty.dummy).n))
      (h2 : ∀ i, i < ks.length → w.cell? ⟨b, o + i * 3 + 2, none⟩ = some (vs i))
      (h3 : ∀ i, i < ks.length → TyN w lo E (ks.getD i Ty.dummy) (vs i)) : TyN w lo E (.node k n ks) (.slice (some ⟨b, o, none⟩) ks.length cap)
theorem TyN.ok {w : World} {lo E : Nat} {t : Ty} {v : Value} (h : TyN w lo E t v) : TyOk w t v := by
  induction h with
  | bare k n a cap => exact .bare k n a cap
  | row k n ks b o cap vs hb he hr hl h0 h1 h2 _ ih => exact .row k n ks b o cap vs hr hl h0 h1 h2 ih
theorem TyN.keep {w w' : World} {lo E : Nat} {t : Ty} {v : Value} (h : TyN w lo E t v) (hs : w.heap.size ≤ w'.heap.size) (hk : ∀ b, lo ≤ b → b ≠ E → b < w.heap.size → w'.heap[b]? = w.heap[b]?) : TyN w' lo E t v := by
  induction h with
  | bare k n a cap => exact .bare k n a cap
  | row k n ks b o cap vs hb he hr hl h0 h1 h2 _ ih =>
    have e := hk b hb he hr.lt
    exact .row k n ks b o cap vs hb he (hr.keep hs e) hl (fun i hi => (cellEq e).trans (h0 i hi)) (fun i hi => (cellEq e).trans (h1 i hi)) (fun i hi => (cellEq e).trans (h2 i hi)) ih
theorem TyN.low {w : World} {lo lo' E : Nat} {t : Ty} {v : Value} (h : TyN w lo E t v) (hl' : lo' ≤ lo) : TyN w lo' E t v := by
  induction h with
  | bare k n a cap => exact .bare k n a cap
  | row k n ks b o cap vs hb he hr hl h0 h1 h2 _ ih => exact .row k n ks b o cap vs (Nat.le_trans hl' hb) he hr hl h0 h1 h2 ih
theorem TyN.no0 {w : World} {lo E : Nat} {t : Ty} {v : Value} (h : TyN w lo E t v) (hl' : 0 < lo) : TyN w lo 0 t v := by
  induction h with
  | bare k n a cap => exact .bare k n a cap
  | row k n ks b o cap vs hb he hr hl h0 h1 h2 _ ih => exact .row k n ks b o cap vs hb (by omega) hr hl h0 h1 h2 ih
theorem TyN.kept {w w' : World} {lo E : Nat} {t : Ty} {v : Value} (h : TyN w lo E t v) (hb : Below w.heap.size w w') : TyN w' lo E t v := h.keep hb.size (fun b _ _ h => hb.block b h)
theorem TyIn.toN {w : World} {lo lo' hi E : Nat} {t : Ty} {v : Value} (h : TyIn w lo hi t v) (h1 : lo' ≤ lo) (h2 : hi ≤ E ∨ E < lo) : TyN w lo' E t v := by
  induction h with
  | bare lo hi k n a cap => exact .bare k n a cap
  | row lo hi k n ks b cap vs l h hb1 hb2 hw hl h0 h1' h2' hf hin hd _ ih =>
    refine .row k n ks b 0 cap vs (by omega) (by omega) hw hl (fun i hi => by rw [Nat.zero_add]; exact h0 i hi) (fun i hi => by rw [Nat.zero_add]; exact h1' i hi) (fun i hi => by rw [Nat.zero_add]; exact h2' i hi) (fun i hi => ?_)
    have := hin i hi
    exact ih i hi (by omega) (by omega)
theorem TyN.pair {w : World} {lo E b cap : Nat} {k n : Int} {x y : Ty} {vx vy : Value} (hx : TyN w lo E x vx) (hy : TyN w lo E y vy) (hb : lo ≤ b) (he : b ≠ E) (hw : Row w b)
    (c0 : w.cell? ⟨b, 0, none⟩ = some (.int .i64 x.k)) (c1 : w.cell? ⟨b, 1, none⟩ = some (.int .i64 x.n)) (c2 : w.cell? ⟨b, 2, none⟩ = some vx)
    (c3 : w.cell? ⟨b, 3, none⟩ = some (.int .i64 y.k)) (c4 : w.cell? ⟨b, 4, none⟩ = some (.int .i64 y.n)) (c5 : w.cell? ⟨b, 5, none⟩ = some vy) :
    TyN w lo E (.node k n [x, y]) (.slice (some ⟨b, 0, none⟩) 2 cap) := by
  have two : ∀ i, i < [x, y].length → i = 0 ∨ i = 1 := fun i hi => by have hi : i < 2 := hi; omega
  refine .row k n [x, y] b 0 cap (fun i => if i = 0 then vx else vy) hb he hw (by simp) ?_ ?_ ?_ ?_
  · intro i hi
    rcases two i hi with rfl | rfl
    · exact c0
    · exact c3
  · intro i hi
    rcases two i hi with rfl | rfl
    · exact c1
    · exact c4
  · intro i hi
    rcases two i hi with rfl | rfl
    · exact c2
    · exact c5
  · intro i hi
    rcases two i hi with rfl | rfl
    · exact hx
    · exact hy
set_option maxRecDepth 100000 in
set_option maxHeartbeats 1000000 in
theorem l2Node_n (k : Int) (x y : Ty) (vx vy : Value) (lo E : Nat) (w : World) (hx : TyN w lo E x vx) (hy : TyN w lo E y vy) (hE : E < w.heap.size) (hlo : lo ≤ w.heap.size) :
    Calls Try.prog 90 #[.int .i64 k, .agg #[.int .i64 x.k, .int .i64 x.n, vx], .agg #[.int .i64 y.k, .int .i64 y.n, vy]] w fun e w' => ∃ c, e = .returned (.agg #[.int .i64 k, .int .i64 0, .slice c 2 2]) ∧ TyN w' lo E (.node k 0 [x, y]) (.slice c 2 2) ∧ Below w.heap.size w w' := by
  have HX := Lib.hid hx
  have HY := Lib.hid hy
  obtain ⟨ax, cx, rfl, _⟩ := hx.ok.at.slice
  obtain ⟨ay, cy, rfl, _⟩ := hy.ok.at.slice
  obtain ⟨nx, hnx⟩ : ∃ n, x.ks.length = n := ⟨_, rfl⟩
  obtain ⟨ny, hny⟩ : ∃ n, y.ks.length = n := ⟨_, rfl⟩
  obtain ⟨kx, hkx⟩ : ∃ n, x.k = n := ⟨_, rfl⟩
  obtain ⟨ky, hky⟩ : ∃ n, y.k = n := ⟨_, rfl⟩
  obtain ⟨mx, hmx⟩ : ∃ n, x.n = n := ⟨_, rfl⟩
  obtain ⟨my, hmy⟩ : ∃ n, y.n = n := ⟨_, rfl⟩
  have HE := Lib.hid (And.intro hkx (And.intro hky (And.intro hmx hmy)))
  rw [hnx] at HX ⊢
  rw [hny] at HY ⊢
  rw [hkx, hky, hmx, hmy]
  have HLO := Lib.hid (And.intro hE hlo)
  clear hx hy hkx hky hmx hmy hnx hny hE hlo
  go_enter Try.func90, Try.ntmps90
  go_wp2_with fail
  refine bodyPost_ret (v := .agg #[.int .i64 k, .int .i64 0, .slice (some ⟨w.heap.size + 1 + 1 + 1, 0, none⟩) 2 2]) (by simp [results, Try.results90, go_sem]) rfl ⟨_, rfl, ?_, ?_⟩
  · obtain ⟨e1, e2, e3, e4⟩ := HE.out
    obtain ⟨h1, h2⟩ := HLO.out
    refine TyN.pair (b := w.heap.size + 1 + 1 + 1) (vx := .slice ax nx cx) (vy := .slice ay ny cy) (HX.out.kept ?_) (HY.out.kept ?_) (by omega) (by omega) (row_at (by simp)) (by rw [e1]; go_simp) (by rw [e3]; go_simp) (by go_simp) (by rw [e2]; go_simp) (by rw [e4]; go_simp) (by go_simp)
    · exact ((((Below.refl _ _).alloc (Nat.le_refl _) _).alloc (by simp) _).alloc (by simp; omega) _).alloc (by simp; omega) _
    · exact ((((Below.refl _ _).alloc (Nat.le_refl _) _).alloc (by simp) _).alloc (by simp; omega) _).alloc (by simp; omega) _
  · exact ((((Below.refl _ _).alloc (Nat.le_refl _) _).alloc (by simp) _).alloc (by simp; omega) _).alloc (by simp; omega) _
theorem l2Num_flat (w : World) : Calls Try.prog 52 #[] w fun e w' => ∃ a c, e = .returned (.agg #[.int .i64 1, .int .i64 0, .slice a 0 c]) ∧ Below w.heap.size w w' :=
  (l2Num_any w).mono (by
    rintro e w' ⟨v, rfl, ht, hb⟩
    obtain ⟨a, c, rfl, _⟩ := ht.at.slice
    exact ⟨a, c, rfl, hb⟩)
/-- What the draw of a type leaves that may be no valid type. -/
def DkPost (P : Ty → Prop) (w : World) (B : Nat) (a : Option Addr) (len cap : Nat) (zs : List Int) (p q : Nat) (e : Ending) (w' : World) : Prop :=
  ∃ (t : Ty) (v : Value) (r : Nat), P t ∧ r ≤ q ∧ e = .returned (.agg #[.int .i64 t.k, .int .i64 t.n, v]) ∧ TyN w' w.heap.size 0 t v ∧ Dw B w w' ∧ Rd w' B a len cap zs (p + r)
theorem DkPost.low {P : Ty → Prop} {w : World} {o : Obj} {B : Nat} {a : Option Addr} {len cap : Nat} {zs : List Int} {p q : Nat} {e : Ending} {w' : World} (h : DkPost P (w.alloc o) B a len cap zs p q e w') : DkPost P w B a len cap zs p q e w' := by
  obtain ⟨t, v, r, h1, h2, h3, h4, h5, h6⟩ := h
  exact ⟨t, v, r, h1, h2, h3, h4.low (by simp), ((Dw.refl B w).alloc o).trans h5, h6⟩
/-- The result goes into its cells. -/
theorem DS.doneN {w : World} {S B : Nat} {a : Option Addr} {len cap : Nat} {zs : List Int} {p : Nat} {W : World} (h : DS w S B a len cap zs p W) {t : Ty} {v : Value} {lo E : Nat} (ht : TyN W lo E t v) (hlo : S + 1 ≤ lo) (x y z : Value) :
    TyN (((W.setCell ⟨S, 0, none⟩ x).setCell ⟨S, 1, none⟩ y).setCell ⟨S, 2, none⟩ z) w.heap.size 0 t v ∧ Dw B w (((W.setCell ⟨S, 0, none⟩ x).setCell ⟨S, 1, none⟩ y).setCell ⟨S, 2, none⟩ z) ∧ Rd (((W.setCell ⟨S, 0, none⟩ x).setCell ⟨S, 1, none⟩ y).setCell ⟨S, 2, none⟩ z) B a len cap zs p := by
  have e := h.eq
  have hl := h.lt
  exact ⟨((ht.keep (by simp) (fun b h1 _ _ => heap_res (by omega))).low (show w.heap.size ≤ lo by omega)).no0 (by omega), ((h.dw.setNew (by omega) 0 x).setNew (by omega) 1 y).setNew (by omega) 2 z, ((h.rd.setNew h.lt 0 x).setNew h.lt 1 y).setNew h.lt 2 z⟩
theorem DS.grow {w : World} {S B : Nat} {a : Option Addr} {len cap : Nat} {zs : List Int} {p : Nat} {W W' : World} {o : Obj} {row : Option Nat} (h : DS w S B a len cap zs p W) (hg : (W.alloc o).grownBy W' row) (hr : ∀ g, row = some g → S + 1 ≤ g) : DS w S B a len cap zs p W' := by
  have ha := (Below.refl W.heap.size W).alloc (Nat.le_refl _) o
  have hs := grow_size hg
  have hl := h.lt
  have hz := h.sz
  have he := h.eq
  have hb : ∀ q, q ≤ S → W'.heap[q]? = W.heap[q]? := fun q hq => grow_old hg (by omega) (fun g e => by have := hr g e; omega)
  refine ⟨h.rd.kept ⟨hg.os.trans ha.os, hg.tape.trans ha.tape, hg.output.trans ha.output, by omega, fun q hq => hb q (by omega)⟩, ⟨hg.os.trans (ha.os.trans h.dw.os), hg.tape.trans (ha.tape.trans h.dw.tape), hg.output.trans (ha.output.trans h.dw.output), by have := h.dw.size; omega, fun q hq hne => (hb q (by omega)).trans (h.dw.block q hq hne)⟩, h.rb.keep (by omega) (hb S (Nat.le_refl _)), h.lt, h.eq⟩
theorem Gr.keepE {rs : List Ty} {B j : Nat} {w w' : World} {cv : Value} {xs : List Value} {vs : Nat → Value} {l h : Nat → Nat} (f : Gr rs B j w cv xs vs l h) {E : Nat} (hE : ∀ i, i < j → E < l i ∨ h i ≤ E) (hg : ∀ g, cv.ownBlock = some g → g ≠ E) (hs : w.heap.size ≤ w'.heap.size) (hk : ∀ b, b ≠ E → b < w.heap.size → w'.heap[b]? = w.heap[b]?) : Gr rs B j w' cv xs vs l h := by
  refine ⟨?_, f.x0, f.x1, f.x2, fun i hi => ⟨(f.lo i hi).1, Nat.le_trans (f.lo i hi).2 hs⟩, f.di, fun i hi => (f.ty i hi).keep hs (fun b h1 h2 h3 => hk b (by have := hE i hi; omega) h3), f.ap⟩
  obtain ⟨hl, h | ⟨g, cap, cur, rfl, hb', ho, h1, h2, h3, h4⟩⟩ := f.own
  · exact ⟨hl, .inl h⟩
  · exact ⟨hl, .inr ⟨g, cap, cur, rfl, hb', (hk g (hg g rfl) (Array.getElem?_eq_some_iff.1 ho).1).trans ho, h1, h2, h3, h4⟩⟩
theorem Gr.more {rs : List Ty} {B j : Nat} {w : World} {cv : Value} {xs : List Value} {vs : Nat → Value} {l h : Nat → Nat} (f : Gr rs B j w cv xs vs l h) (hj : j ≤ rs.length) (x : Ty) : Gr (rs ++ [x]) B j w cv xs vs l h := by
  have e : ∀ i, i < j → (rs ++ [x]).getD i Ty.dummy = rs.getD i Ty.dummy := fun i hi => by
    simp only [List.getD]; rw [List.getElem?_append_left (by omega)]
  exact ⟨f.own, fun i hi => by rw [e i hi]; exact f.x0 i hi, fun i hi => by rw [e i hi]; exact f.x1 i hi, f.x2, f.lo, f.di, fun i hi => by rw [e i hi]; exact f.ty i hi, f.ap⟩
theorem oc_all {w : World} {E : Nat} {k n : Int} {v : Value} (h : OC w E k n v) (k' n' : Int) (v' : Value) : OC (((w.setCell ⟨E, 0, none⟩ (.int .i64 k')).setCell ⟨E, 1, none⟩ (.int .i64 n')).setCell ⟨E, 2, none⟩ v') E k' n' v' := ((h.set0 k').set1 n').set2 v'
theorem undrew2 {w w' : World} {r : Option Nat} (h : w.drew.grownBy w' r) : w.grownBy w' r := ⟨h.os, h.tape, h.output, h.size, h.block⟩
theorem Gr.stepE {rs : List Ty} {B j : Nat} {w w1 w3 : World} {cv : Value} {xs : List Value} {vs : Nat → Value} {l h : Nat → Nat} (f : Gr rs B j w cv xs vs l h) (hB : B ≤ w.heap.size) {t : Ty} (ht : rs.getD j Ty.dummy = t) {v : Value} (hb : Below w.heap.size w w1) (hty : TyIn w1 w.heap.size w1.heap.size t v) {o : Obj} {g cap E : Nat} (hE : ∀ i, i < j → E < l i ∨ h i ≤ E) (hEw : E < w.heap.size)
    (hown : w3.ownsRow B 28 3 (.slice (some ⟨g, 0, none⟩) (j + 1) cap) (j + 1) (xs ++ [.int .i64 t.k, .int .i64 t.n, v])) (hgrow : (w1.alloc o).grownBy w3 cv.ownBlock) (hat : cv.ownBlock = some g ∨ g = w1.heap.size + 1) :
    ∃ xs' vs' l' h', Gr rs B (j + 1) w3 (.slice (some ⟨g, 0, none⟩) (j + 1) cap) xs' vs' l' h' ∧ ∀ i, i < j + 1 → E < l' i ∨ h' i ≤ E := by
  have hs1 := hb.size
  have hsA : (w1.alloc o).heap.size = w1.heap.size + 1 := by simp
  have hs3 : w1.heap.size + 1 ≤ w3.heap.size := by have := hgrow.size; omega
  have hlen := f.own.1
  have hold : ∀ b, b < w1.heap.size → some b ≠ cv.ownBlock → w3.heap[b]? = w1.heap[b]? := fun b h1 h2 =>
    (hgrow.block b (by omega) h2).trans (((Below.refl w1.heap.size w1).alloc (Nat.le_refl _) o).block b h1)
  refine ⟨xs ++ [.int .i64 t.k, .int .i64 t.n, v], fun i => if i = j then v else vs i, fun i => if i = j then w.heap.size else l i, fun i => if i = j then w1.heap.size else h i, ⟨hown, ?_, ?_, ?_, ?_, ?_, ?_, ?_⟩, ?_⟩
  · intro i hi
    by_cases hij : i = j
    · subst hij; rw [List.getElem?_append_right (by omega), ht, hlen]; simp
    · exact get_old (f.x0 i (by omega))
  · intro i hi
    by_cases hij : i = j
    · subst hij; rw [List.getElem?_append_right (by omega), ht, hlen]; simp
    · exact get_old (f.x1 i (by omega))
  · intro i hi
    by_cases hij : i = j
    · subst hij; rw [List.getElem?_append_right (by omega), hlen]; simp
    · simp only [hij, if_false]; exact get_old (f.x2 i (by omega))
  · intro i hi
    by_cases hij : i = j
    · simp only [hij, if_true]; omega
    · have := f.lo i (by omega); simp only [hij, if_false]; omega
  · intro i k hik hk
    have hij : i ≠ j := by omega
    by_cases hkj : k = j
    · have := f.lo i (by omega); simp only [hij, hkj, if_false, if_true]; omega
    · simp only [hij, hkj, if_false]; exact f.di i k hik (by omega)
  · intro i hi
    by_cases hij : i = j
    · subst hij
      simp only [if_true]
      rw [ht]
      exact hty.keep (by omega) (fun b h1 h2 h3 => hold b h3 (fun e => by have := (own_low f.own e.symm).2; omega))
    · simp only [hij, if_false]
      have hlo := f.lo i (by omega)
      exact (f.ty i (by omega)).keep (by omega) (fun b h1 h2 h3 => (hold b (by omega) (fun e => by have := f.ap b e.symm i (by omega); omega)).trans (hb.block b h3))
  · intro g' hg' i hi
    have e : g = g' := by simpa [Value.ownBlock] using hg'
    subst e
    rcases hat with hat | hat
    · have hgl := (own_low f.own hat).2
      by_cases hij : i = j
      · simp only [hij, if_true]; omega
      · simp only [hij, if_false]; exact f.ap g hat i (by omega)
    · by_cases hij : i = j
      · simp only [hij, if_true]; omega
      · have := f.lo i (by omega); simp only [hij, if_false]; omega
  · intro i hi
    by_cases hij : i = j
    · simp only [hij, if_true]; omega
    · have := hE i (by omega); simp only [hij, if_false]; exact this

set_option maxRecDepth 100000 in
set_option maxHeartbeats 8000000 in
theorem l2Mutate_any (t : Ty) (v : Value) (B : Nat) (a : Option Addr) (len cap : Nat) (zs : List Int) (p : Nat) (w : World) (P : Ty → Prop) (hP : ∀ t', nodes t' ≤ nodes t + 40 → P t') (q : Nat) (hqq : 2 ≤ q) (hn : nodes t ≤ 900000) (hx : TyAt w t v) (hr : Rd w B a len cap zs p) (hp : p + q ≤ 1000000) :
    Calls Try.prog 53 #[.pointer (some ⟨B, 0, none⟩), .agg #[.int .i64 t.k, .int .i64 t.n, v]] w (DkPost P w B a len cap zs p q) := by
  obtain ⟨av, cv, rfl, lv⟩ := hx.slice
  have HP := Lib.hid hP
  obtain ⟨BX, hBX⟩ : ∃ o, (.cells #[.int .i64 t.k, .int .i64 t.n, .slice av t.ks.length cv] 28 : Obj) = o := ⟨_, rfl⟩
  obtain ⟨w0, hw0⟩ : ∃ W, w.alloc BX = W := ⟨_, rfl⟩
  have HB0 : Hid (Below w.heap.size w w0) := Lib.hid (by rw [← hw0]; exact (Below.refl _ _).alloc (Nat.le_refl _) _)
  have hr0 : Rd w0 B a len cap zs p := by rw [← hw0]; exact hr.alloc _
  have hx0 := hx.kept HB0.out
  have hwz : w.heap.size + 1 = w0.heap.size := by rw [← hw0]; simp
  obtain ⟨W1, hW1⟩ : ∃ W, w0.alloc (.cells #[.int .i64 0, .int .i64 0, .slice none 0 0] 28) = W := ⟨_, rfl⟩
  obtain ⟨S, hS⟩ : ∃ S, w0.heap.size = S := ⟨_, rfl⟩
  have HD0 : Hid (DS w0 S B a len cap zs p W1) := Lib.hid (by rw [← hW1, ← hS]; exact ds_new hr0 _)
  have HX : Hid (TyAt W1 t (.slice av t.ks.length cv)) := Lib.hid (hx0.kept (by rw [← hW1]; exact (Below.refl _ _).alloc (Nat.le_refl _) _))
  rw [hS] at hwz
  have HW0 : Hid (w.alloc (.cells #[.int .i64 t.k, .int .i64 t.n, .slice av t.ks.length cv] 28) = w0) := Lib.hid (by rw [hBX]; exact hw0)
  have HW00 := Lib.hid hw0
  have HW1 := Lib.hid hW1
  have HS := Lib.hid hS
  have HN := Lib.hid hn
  obtain ⟨N, hN⟩ : ∃ N, nodes t = N := ⟨_, rfl⟩
  have HNN := Lib.hid hN
  rw [hN] at hn
  clear hr hx hW1 hP hr0 hx0 hw0 hBX hN
  have hLN : t.ks.length < N := by rw [← HNN.out]; exact nodes_len t
  go_enter Try.func53, Try.ntmps53
  go_wp2_with fail
  rw [HW0.out, HW1.out]
  clear hS
  go_at_call 30
  refine (l2Copy_gr t _ _ (by have := HN.out; omega) HX.out).mono ?_
  rintro e w1 ⟨cw, xs, vs, l, h, rfl, hgr, hb⟩
  have HD1 := Lib.hid (HD0.out.below hb)
  have HG1 := Lib.hid (hgr.under (show S + 1 ≤ W1.heap.size from HD0.out.sz))
  have hz1 := HD1.out.sz
  clear hgr hb
  obtain ⟨ca, cc, rfl⟩ : ∃ ca cc, cw = .slice ca t.ks.length cc := by
    obtain ⟨_, ⟨h1, h2⟩ | ⟨g, cap2, cur, h1, _⟩⟩ := HG1.out.own
    · exact ⟨none, 0, by rw [h1, h2]⟩
    · exact ⟨_, _, h1⟩
  obtain ⟨W2, hW2⟩ : ∃ W, w1.alloc (.cells #[.int .i64 t.k, .int .i64 t.n, .slice ca t.ks.length cc] 28) = W := ⟨_, rfl⟩
  obtain ⟨E, hE⟩ : ∃ E, w1.heap.size = E := ⟨_, rfl⟩
  have HEE := Lib.hid hE
  have HO2 : Hid (OC W2 E t.k t.n (.slice ca t.ks.length cc)) := Lib.hid (by rw [← hW2, ← hE]; exact oc_new _ _ _ _ _)
  have HD2 : Hid (DS w0 S B a len cap zs p W2) := Lib.hid (by rw [← hW2]; exact HD1.out.alloc _)
  have HG2 : Hid (Gr t.ks (S + 1) t.ks.length W2 (.slice ca t.ks.length cc) xs vs l h) := Lib.hid (by rw [← hW2]; exact HG1.out.kept ((Below.refl _ _).alloc (Nat.le_refl _) _))
  have hSE : S < E := by omega
  have hBE : B < E := by have := HD2.out.lt; omega
  have hBS : B < S := HD2.out.lt
  have HW2 := Lib.hid hW2
  have hrow : ∀ g, (Value.slice ca t.ks.length cc).ownBlock = some g → S + 1 ≤ g ∧ g < E := fun g e => by have := own_low HG1.out.own e; omega
  have HROW := Lib.hid hrow
  have HU : Hid (∀ i, i < t.ks.length → E < l i ∨ h i ≤ E) := Lib.hid (fun i hi => .inr (by have := (HG1.out.lo i hi).2; omega))
  clear hW2 hrow
  go_wp2_with fail
  rw [HW2.out]
  clear hE
  go_at_call 51
  refine (pick_any B a len cap zs p 50 _ HD2.out.rd (by omega) (by omega) (by omega)).mono ?_
  rintro e w3 ⟨x, hx, rfl, k3, hk3⟩
  have HD3 := Lib.hid (HD2.out.pick hk3)
  have HPK := Lib.hid (Dw.pick (B := B) hk3)
  have HO3 := Lib.hid (HO2.out.dw hBE (Dw.pick (B := B) hk3))
  have HG3 := Lib.hid (HG2.out.dw (B0 := B) (by omega) (Dw.pick hk3))
  clear hk3
  have HG3T := Lib.hid (fun k n => HG3.out.done k n (by omega))
  by_cases h0 : x = 0
  · subst h0
    go_wp2_with fail
    have hb3 := HD3.out.rd.big
    have HDc := Lib.hid (HD3.out.alloc (.cells #[.int .i64 0, .int .i64 5, .int .i64 1, .int .i64 4] 3))
    have HOc := Lib.hid (HO3.out.kept ((Below.refl _ _).alloc (Nat.le_refl _) (.cells #[.int .i64 0, .int .i64 5, .int .i64 1, .int .i64 4] 3)))
    have HGc := Lib.hid (HG3.out.kept ((Below.refl _ _).alloc (Nat.le_refl _) (.cells #[.int .i64 0, .int .i64 5, .int .i64 1, .int .i64 4] 3)))
    go_at_call 55
    refine (num_any B a len cap zs _ _ HDc.out.rd (by omega) _ 4 4 (0) 5 (by omega) (by omega) (by omega) (intRow_new _ _ _ 4 (0) 5 rfl (by decide +kernel))).mono ?_
    rintro e w4 ⟨u, hu, rfl, k4, hk4⟩
    have HD4 := Lib.hid (HDc.out.pick hk4)
    have HO4 := Lib.hid (HOc.out.dw hBE (Dw.pick (B := B) hk4))
    have HG4 := Lib.hid (HGc.out.dw (B0 := B) (by omega) (Dw.pick hk4))
    clear hk4 hu
    have HD5 := Lib.hid (HD4.out.setNew hSE 0 (.int .i64 u))
    have HO5 := Lib.hid (HO4.out.set0 u)
    have HG5 := Lib.hid (HG4.out.keepE (w' := w4.setCell ⟨E, 0, none⟩ (.int .i64 u)) HU.out (fun g e => by have := (HROW.out g e).2; omega) (by simp) (fun b hb _ => heap_setCell_other _ ⟨E, 0, none⟩ b _ hb))
    have HGT := Lib.hid (HG5.out.done u t.n (by omega))
    have HPT := Lib.hid (HP.out (.node u t.n t.ks) (by rw [nodes_same, HNN.out]; omega))
    obtain ⟨q0, q1, q2, qf0, qf1, qf2, qz⟩ := HO4.out
    obtain ⟨p0, p1, p2, f0, f1, f2, psz⟩ := HD5.out.rb
    obtain ⟨o0, o1, o2, of0, of1, of2, oz⟩ := HO5.out
    go_wp2_with fail
    exact bodyPost_ret (v := .agg #[.int .i64 u, .int .i64 t.n, .slice ca t.ks.length cc]) (by simp [results, Try.results53, go_sem, p0, p1, p2]) rfl (DkPost.low (o := BX) (by rw [HW00.out]; exact ⟨_, _, 2, HPT.out, by omega, rfl, (HD5.out.doneN ((HGT.out).toN (E := 0) (Nat.le_refl _) (.inr (Nat.succ_pos _))) (Nat.le_refl _) _ _ _).1, (HD5.out.doneN ((HGT.out).toN (E := 0) (Nat.le_refl _) (.inr (Nat.succ_pos _))) (Nat.le_refl _) _ _ _).2.1, (HD5.out.doneN ((HGT.out).toN (E := 0) (Nat.le_refl _) (.inr (Nat.succ_pos _))) (Nat.le_refl _) _ _ _).2.2⟩))
  by_cases h1 : x = 1
  · subst h1
    go_wp2_with fail
    have hb3 := HD3.out.rd.big
    have HDc := Lib.hid (HD3.out.alloc (.cells #[.int .i64 26, .int .i64 (-1), .int .i64 1] 3))
    have HOc := Lib.hid (HO3.out.kept ((Below.refl _ _).alloc (Nat.le_refl _) (.cells #[.int .i64 26, .int .i64 (-1), .int .i64 1] 3)))
    have HGc := Lib.hid (HG3.out.kept ((Below.refl _ _).alloc (Nat.le_refl _) (.cells #[.int .i64 26, .int .i64 (-1), .int .i64 1] 3)))
    go_at_call 55
    refine (num_any B a len cap zs _ _ HDc.out.rd (by omega) _ 3 3 (-1) 26 (by omega) (by omega) (by omega) (intRow_new _ _ _ 3 (-1) 26 rfl (by decide +kernel))).mono ?_
    rintro e w4 ⟨u, hu, rfl, k4, hk4⟩
    have HD4 := Lib.hid (HDc.out.pick hk4)
    have HO4 := Lib.hid (HOc.out.dw hBE (Dw.pick (B := B) hk4))
    have HG4 := Lib.hid (HGc.out.dw (B0 := B) (by omega) (Dw.pick hk4))
    clear hk4 hu
    have HD5 := Lib.hid (HD4.out.setNew hSE 1 (.int .i64 u))
    have HO5 := Lib.hid (HO4.out.set1 u)
    have HG5 := Lib.hid (HG4.out.keepE (w' := w4.setCell ⟨E, 1, none⟩ (.int .i64 u)) HU.out (fun g e => by have := (HROW.out g e).2; omega) (by simp) (fun b hb _ => heap_setCell_other _ ⟨E, 1, none⟩ b _ hb))
    have HGT := Lib.hid (HG5.out.done t.k u (by omega))
    have HPT := Lib.hid (HP.out (.node t.k u t.ks) (by rw [nodes_same, HNN.out]; omega))
    obtain ⟨q0, q1, q2, qf0, qf1, qf2, qz⟩ := HO4.out
    obtain ⟨p0, p1, p2, f0, f1, f2, psz⟩ := HD5.out.rb
    obtain ⟨o0, o1, o2, of0, of1, of2, oz⟩ := HO5.out
    go_wp2_with fail
    exact bodyPost_ret (v := .agg #[.int .i64 t.k, .int .i64 u, .slice ca t.ks.length cc]) (by simp [results, Try.results53, go_sem, p0, p1, p2]) rfl (DkPost.low (o := BX) (by rw [HW00.out]; exact ⟨_, _, 2, HPT.out, by omega, rfl, (HD5.out.doneN ((HGT.out).toN (E := 0) (Nat.le_refl _) (.inr (Nat.succ_pos _))) (Nat.le_refl _) _ _ _).1, (HD5.out.doneN ((HGT.out).toN (E := 0) (Nat.le_refl _) (.inr (Nat.succ_pos _))) (Nat.le_refl _) _ _ _).2.1, (HD5.out.doneN ((HGT.out).toN (E := 0) (Nat.le_refl _) (.inr (Nat.succ_pos _))) (Nat.le_refl _) _ _ _).2.2⟩))
  by_cases h2 : x = 2
  · subst h2
    obtain ⟨i0, hi0, hz0, hz1, hz2⟩ := info_parts infoTy
    have h63 : t.ks.length + 1 ≤ maxLen := by unfold maxLen; omega
    have hby : (t.ks.length + 1) * 40 ≤ 140737488355328 := by omega
    have hw3 : E < w3.heap.size := HO3.out.sz
    obtain ⟨q0, q1, q2, qf0, qf1, qf2, qz⟩ := HO3.out
    have hnE : ∀ g, (Value.slice ca t.ks.length cc).ownBlock = some g → E ≠ g := fun g e => by have := (HROW.out g e).2; omega
    have HNE := Lib.hid hnE
    clear hnE
    go_wp2_with fail
    go_region_law (first
      | (refine step_append_lies _ (by rfl) _ _ _ (by rfl) (S + 1) 28 i0 _ 3 40 Try.underlying26 hi0 hz0 hz1 hz2 rfl (by omega) (.slice ca t.ks.length cc) t.ks.length xs (by rfl) (by first | exact HOWN4.out.alloc _ | exact (HOWN4.out.alloc _).drew) ⟨w4.heap.size, 0, none⟩ 1 1 [.int .i64 1, .int .i64 0, .slice a4 0 k4] (by rfl) (by rfl) (World.news_of_block (cs := #[.int .i64 1, .int .i64 0, .slice a4 0 k4]) (t := 28) (fr := (0, 0)) (heap_alloc_new w4 _)) (by simp [Value.oneCell']) (by omega) h63 hby (by first | exact hbase4 _ | exact hbase5 _) (w4.heap.size + 1) (by simp) ?_; intro g6 cap6 w6 hown6 hgrow6 hat6 hltg6; have hgr6 := (by first | exact hgrow6 | exact undrew2 hgrow6 : (w4.alloc (.cells #[.int .i64 1, .int .i64 0, .slice a4 0 k4] 28)).grownBy w6 (Value.slice ca t.ks.length cc).ownBlock); obtain ⟨xs6, vs6, l6, h6, hG6, hE6⟩ := (HG3.out.more (Nat.le_refl _) (.node 1 0 [])).stepE (by omega) (t := .node 1 0 []) (by simp [List.getD]) HB4.out (v := .slice a4 0 k4) (.bare _ _ _ _ _ _) HU.out hw3 hown6 hgr6 hat6; have HG6 := Lib.hid hG6; have HE6 := Lib.hid hE6; have HD6 := Lib.hid (HD4.out.grow hgr6 (fun g e => (HROW.out g e).1)); have HO6 := Lib.hid (HO4.out.keep (by have := grow_size hgr6; omega) (grow_old hgr6 (q := E) (by omega) HNE.out)); have HA6 : Hid (g6 ≠ E) := Lib.hid (by rcases hat6 with h | h; exact fun e => HNE.out g6 h e.symm; omega); obtain ⟨s0, s1, s2, sf0, sf1, sf2, sz⟩ := HO6.out; clear hown6 hgrow6 hat6 hG6 hE6 hgr6)
      | (go_simp; go_at_call 52; refine (l2Num_flat _).mono ?_; rintro e w4 ⟨a4, k4, rfl, hb4⟩; have hb4' : Below w3.heap.size w3 w4 := Below.trans (B := w3.heap.size) (by first | exact Below.refl _ _ | exact (Below.refl _ _).drew) hb4; have HB4 := Lib.hid hb4'; have HOWN4 := Lib.hid (own_below HG3.out.own hb4'); have HD4 := Lib.hid (HD3.out.below hb4'); have HO4 := Lib.hid (HO3.out.kept hb4'); have hs4 : w3.heap.size ≤ w4.heap.size := hb4'.size; have hbase4 : ∀ o, S + 1 ≤ (w4.alloc o).heap.size := (fun o => by simp; omega); have hbase5 : ∀ o, S + 1 ≤ (w4.alloc o).drew.heap.size := (fun o => by simp; omega); obtain ⟨r0, r1, r2, rf0, rf1, rf2, rz⟩ := HO4.out; clear hb4 hb4'))
    all_goals
      have HD7 := Lib.hid (HD6.out.setNew hSE 2 (.slice (some ⟨g6, 0, none⟩) (t.ks.length + 1) cap6))
      have HO7 := Lib.hid (HO6.out.set2 (.slice (some ⟨g6, 0, none⟩) (t.ks.length + 1) cap6))
      have HG7 := Lib.hid (HG6.out.keepE (w' := w6.setCell ⟨E, 2, none⟩ (.slice (some ⟨g6, 0, none⟩) (t.ks.length + 1) cap6)) HE6.out (fun g e => by have e2 : g6 = g := (by simpa [Value.ownBlock] using e); have := HA6.out; omega) (by simp) (fun b hb _ => heap_setCell_other _ ⟨E, 2, none⟩ b _ hb))
      have hlen : t.ks.length + 1 = (t.ks ++ [Ty.node 1 0 []]).length := by simp
      have HGT : Hid (TyIn (w6.setCell ⟨E, 2, none⟩ (.slice (some ⟨g6, 0, none⟩) (t.ks.length + 1) cap6)) (S + 1) (w6.setCell ⟨E, 2, none⟩ (.slice (some ⟨g6, 0, none⟩) (t.ks.length + 1) cap6)).heap.size (.node t.k t.n (t.ks ++ [Ty.node 1 0 []])) (.slice (some ⟨g6, 0, none⟩) (t.ks.length + 1) cap6)) := Lib.hid (by
        have h := HG7.out
        obtain ⟨V, hV⟩ : ∃ V, (.slice (some ⟨g6, 0, none⟩) (t.ks.length + 1) cap6 : Value) = V := ⟨_, rfl⟩
        rw [hV] at h ⊢
        rw [hlen] at h
        exact h.done t.k t.n (by simp; omega))
      clear hlen
      have HPT := Lib.hid (HP.out (.node t.k t.n (t.ks ++ [.node 1 0 []])) (by rw [nodes_more, HNN.out]; omega))
      obtain ⟨p0, p1, p2, f0, f1, f2, psz⟩ := HD7.out.rb
      obtain ⟨o0, o1, o2, of0, of1, of2, oz⟩ := HO7.out
      go_wp2_with fail
      exact bodyPost_ret (v := .agg #[.int .i64 t.k, .int .i64 t.n, .slice (some ⟨g6, 0, none⟩) (t.ks.length + 1) cap6]) (by simp [results, Try.results53, go_sem, p0, p1, p2]) rfl (DkPost.low (o := BX) (by rw [HW00.out]; exact ⟨_, _, 1, HPT.out, by omega, rfl, (HD7.out.doneN ((HGT.out).toN (E := 0) (Nat.le_refl _) (.inr (Nat.succ_pos _))) (Nat.le_refl _) _ _ _).1, (HD7.out.doneN ((HGT.out).toN (E := 0) (Nat.le_refl _) (.inr (Nat.succ_pos _))) (Nat.le_refl _) _ _ _).2.1, (HD7.out.doneN ((HGT.out).toN (E := 0) (Nat.le_refl _) (.inr (Nat.succ_pos _))) (Nat.le_refl _) _ _ _).2.2⟩))
  by_cases h3 : x = 3
  · subst h3
    have HTT : Hid (TyN W2 (S + 1) E (.node t.k t.n t.ks) (.slice ca t.ks.length cc)) := Lib.hid (by
      rw [← HW2.out]
      exact ((HG1.out.done t.k t.n (by omega)).toN (E := E) (Nat.le_refl _) (.inl (by rw [HEE.out]; exact Nat.le_refl _))).kept ((Below.refl _ _).alloc (Nat.le_refl _) _))
    have HT3 : Hid (TyN w3 (S + 1) E (.node t.k t.n t.ks) (.slice ca t.ks.length cc)) := Lib.hid (HTT.out.keep HPK.out.size (fun b h1 _ h3 => HPK.out.block b h3 (by simp; omega)))
    obtain ⟨q0, q1, q2, qf0, qf1, qf2, qz⟩ := HO3.out
    go_wp2_with fail
    go_loopw [6] (fun i wr => ∃ (j : Nat) (T : Ty) (ar : Option Addr) (c : Nat), j ≤ 16 ∧ i = .int .i64 j ∧ Hid (nodes T ≤ N + 2 * j) ∧ Hid (OC wr E T.k T.n (.slice ar T.ks.length c)) ∧ Hid (TyN wr (S + 1) E T (.slice ar T.ks.length c)) ∧ Hid (DS w0 S B a len cap zs (p + 1) wr)) (fun i _ => 16 - (intOf i).toNat)
    case atStart => exact ⟨0, .node t.k t.n t.ks, ca, cc, by omega, rfl, Lib.hid (by rw [nodes_same, HNN.out]; omega), HO3, HT3, HD3⟩
    case round =>
      obtain ⟨j, T, ar, c, hj, rfl, HM, HO5, HT5, HD5⟩ := hrel
      by_cases hlt : j < 16
      · have hji : (j : Int) < 16 := by omega
        have hwE := HO5.out.sz
        have hwS := HD5.out.sz
        obtain ⟨s0, s1, s2, sf0, sf1, sf2, sz⟩ := HO5.out
        go_wp2_with fail
        go_region_law (first
          | (go_simp; go_at_call 90; have hgd := HN6; clear hgd; refine (l2Node_n 3 T (.node 1 0 []) (.slice ar T.ks.length c) (.slice a6 0 k6) (S + 1) E _ (by first | exact HT6.out | exact HT6.out.kept (by first | exact Below.refl _ _ | exact (Below.refl _ _).drew)) (.bare _ _ _ _) (by first | exact hE6 | simpa using hE6) (by first | exact hS6 | simpa using hS6)).mono ?_; rintro e w7 ⟨a7, rfl, hT7, hb7⟩; have hb7' : Below w6.heap.size w6 w7 := Below.trans (B := w6.heap.size) (by first | exact Below.refl _ _ | exact (Below.refl _ _).drew) hb7; have HT7 := Lib.hid hT7; have HD7 := Lib.hid (HD6.out.below hb7'); have HO7 := Lib.hid (HO6.out.kept hb7'); obtain ⟨u0, u1, u2, uf0, uf1, uf2, uz⟩ := HO7.out; clear hb7 hb7' hT7)
          | (go_simp; go_at_call 52; refine (l2Num_flat _).mono ?_; rintro e w6 ⟨a6, k6, rfl, hb6⟩; have hb6' : Below wr.heap.size wr w6 := Below.trans (B := wr.heap.size) (by first | exact Below.refl _ _ | exact (Below.refl _ _).drew) hb6; have HN6 := Lib.hid trivial; have HT6 := Lib.hid (HT5.out.kept hb6'); have HD6 := Lib.hid (HD5.out.below hb6'); have HO6 := Lib.hid (HO5.out.kept hb6'); have hE6 : E < w6.heap.size := HO6.out.sz; have hS6 : S + 1 ≤ w6.heap.size := HD6.out.sz; obtain ⟨r0, r1, r2, rf0, rf1, rf2, rz⟩ := HO6.out; clear hb6 hb6'))
        all_goals go_wp2_with fail
        all_goals go_roundw
        all_goals first
          | exact ⟨j + 1, .node 3 0 [T, .node 1 0 []], a7, 2, by omega, by go_num, Lib.hid (by rw [nodes_two]; have := HM.out; simp [nodes, nodesL]; omega), Lib.hid (oc_all HO7.out _ _ _), Lib.hid (HT7.out.keep (by simp) (fun b _ h2 _ => heap_res h2)), Lib.hid (((HD7.out.setNew hSE 0 _).setNew hSE 1 _).setNew hSE 2 _)⟩
          | (simp [intOf]; omega)
      · obtain rfl : j = 16 := by omega
        have hji : ¬ ((16 : Nat) : Int) < 16 := by omega
        have HPT := Lib.hid (HP.out T (by have := HM.out; rw [HNN.out]; omega))
        obtain ⟨p0, p1, p2, f0, f1, f2, psz⟩ := HD5.out.rb
        obtain ⟨o0, o1, o2, of0, of1, of2, oz⟩ := HO5.out
        go_wp2_with fail
        exact bodyPost_ret (v := .agg #[.int .i64 T.k, .int .i64 T.n, .slice ar T.ks.length c]) (by simp [results, Try.results53, go_sem, p0, p1, p2]) rfl (DkPost.low (o := BX) (by rw [HW00.out]; exact ⟨_, _, 1, HPT.out, by omega, rfl, (HD5.out.doneN HT5.out (Nat.le_refl _) _ _ _).1, (HD5.out.doneN HT5.out (Nat.le_refl _) _ _ _).2.1, (HD5.out.doneN HT5.out (Nat.le_refl _) _ _ _).2.2⟩))
  · have e0 : ((x : Int) == 0) = false := by rw [beq_eq_false_iff_ne]; omega
    have e1 : ((x : Int) == 1) = false := by rw [beq_eq_false_iff_ne]; omega
    have e2 : ((x : Int) == 2) = false := by rw [beq_eq_false_iff_ne]; omega
    have e3 : ((x : Int) == 3) = false := by rw [beq_eq_false_iff_ne]; omega
    have HPT := Lib.hid (HP.out (.node t.k t.n t.ks) (by rw [nodes_same, HNN.out]; omega))
    obtain ⟨p0, p1, p2, f0, f1, f2, psz⟩ := HD3.out.rb
    obtain ⟨o0, o1, o2, of0, of1, of2, oz⟩ := HO3.out
    go_wp2_with fail
    exact bodyPost_ret (v := .agg #[.int .i64 t.k, .int .i64 t.n, .slice ca t.ks.length cc]) (by simp [results, Try.results53, go_sem, p0, p1, p2]) rfl (DkPost.low (o := BX) (by rw [HW00.out]; exact ⟨_, _, 1, HPT.out, by omega, rfl, (HD3.out.doneN ((HG3T.out t.k t.n).toN (E := 0) (Nat.le_refl _) (.inr (Nat.succ_pos _))) (Nat.le_refl _) _ _ _).1, (HD3.out.doneN ((HG3T.out t.k t.n).toN (E := 0) (Nat.le_refl _) (.inr (Nat.succ_pos _))) (Nat.le_refl _) _ _ _).2.1, (HD3.out.doneN ((HG3T.out t.k t.n).toN (E := 0) (Nat.le_refl _) (.inr (Nat.succ_pos _))) (Nat.le_refl _) _ _ _).2.2⟩))

end Go.Proofs.Ytlgbkhkmfgdehaa

namespace Go.Proofs.Ytlgbkhkmfgdehaa
open Go.RowKit
set_option linter.unusedVariables false
set_option linter.unusedSimpArgs false

theorem TyN.moved {w w' : World} {lo E E' : Nat} {t : Ty} {v : Value} (h : TyN w lo E t v) (hs : w.heap.size ≤ w'.heap.size) (hk : ∀ b, b ≠ E → b < w.heap.size → w'.heap[b]? = w.heap[b]?) (hE : E' = E ∨ w.heap.size ≤ E') : TyN w' lo E' t v := by
  induction h with
  | bare k n a cap => exact .bare k n a cap
  | row k n ks b o cap vs hb he hr hl h0 h1 h2 _ ih =>
    have e := hk b he hr.lt
    exact .row k n ks b o cap vs hb (by have := hr.lt; omega) (hr.keep hs e) hl (fun i hi => (cellEq e).trans (h0 i hi)) (fun i hi => (cellEq e).trans (h1 i hi)) (fun i hi => (cellEq e).trans (h2 i hi)) ih
theorem TyN.lowE {w : World} {lo lo' E E' : Nat} {t : Ty} {v : Value} (h : TyN w lo' E' t v) (hl : lo ≤ lo') (hE : E < lo') : TyN w lo E t v := by
  induction h with
  | bare k n a cap => exact .bare k n a cap
  | row k n ks b o cap vs hb he hr hl' h0 h1 h2 _ ih => exact .row k n ks b o cap vs (by omega) (by omega) hr hl' h0 h1 h2 ih
theorem TyN.dw {w w' : World} {lo E B : Nat} {t : Ty} {v : Value} (h : TyN w lo E t v) (hB : B < lo) (hd : Dw B w w') : TyN w' lo E t v :=
  h.keep hd.size (fun b h1 _ h3 => hd.block b h3 (by simp; omega))
theorem TBox.dw {w w' : World} {B T : Nat} {x y z : Value} (h : TBox w T x y z) (hB : B < T) (hd : Dw B w w') : TBox w' T x y z := by
  have e := hd.block T h.sz (by simp; omega)
  exact ⟨(cellEq e).trans h.c0, (cellEq e).trans h.c1, (cellEq e).trans h.c2, Nat.lt_of_lt_of_le h.sz hd.size⟩
/-- A name with its type, and the value of the type's row. -/
abbrev KV2 := Kn × Value
def KV2.dummy : KV2 := (Kn.dummy, .bool false)
def quad (p : KV2) : List Value := [.string p.1.s, .int .i64 p.1.t.k, .int .i64 p.1.t.n, p.2]
def quads (L : List KV2) : List Value := L.flatMap quad
theorem quads_snoc (L : List KV2) (p : KV2) : quads (L ++ [p]) = quads L ++ quad p := by simp [quads]
theorem quads_len : ∀ L : List KV2, (quads L).length = L.length * 4
  | [] => rfl
  | p :: L => by
    have := quads_len L
    have e : quads (p :: L) = quad p ++ quads L := rfl
    rw [e, List.length_append, this]
    show 4 + L.length * 4 = (L.length + 1) * 4
    omega
theorem quads_at : ∀ (L : List KV2) (i q : Nat), i < L.length → q < 4 → (quads L)[i * 4 + q]? = (quad (L.getD i KV2.dummy))[q]?
  | p :: L, i, q, hi, hq => by
    have e : quads (p :: L) = quad p ++ quads L := rfl
    rw [e]
    cases i with
    | zero =>
      rw [List.getElem?_append_left (by show 0 * 4 + q < 4; omega)]
      simp [List.getD]
    | succ i =>
      have hl : (quad p).length = 4 := rfl
      rw [List.getElem?_append_right (by rw [hl]; omega), hl, show (i + 1) * 4 + q - 4 = i * 4 + q by omega, quads_at L i q (by simpa using hi) hq]
      simp [List.getD]
theorem quads_one (L : List KV2) : ∀ u ∈ quads L, u.oneCell' = true → True := fun _ _ _ => trivial
theorem grow_oldK {w2 w3 : World} {o : Obj} {row : Option Nat} (hg : (w2.alloc o).grownBy w3 row) {q : Nat} (h1 : q < w2.heap.size) (h2 : ∀ g, row = some g → q ≠ g) : w3.heap[q]? = w2.heap[q]? :=
  (hg.block q (by simp; omega) (fun e => h2 q e.symm rfl)).trans (((Below.refl w2.heap.size w2).alloc (Nat.le_refl _) o).block q h1)
/-- The names with types lie in the row, which is the call's own; the types' rows lie from lo on, none in the row's block. -/
structure KR (w : World) (B0 lo : Nat) (g c : Nat) (L : List KV2) : Prop where
  own : w.ownsRow B0 34 4 (.slice (some ⟨g, 0, none⟩) L.length c) L.length (quads L)
  el : ∀ p ∈ L, TyN w lo g p.1.t p.2
  sm : ∀ p ∈ L, p.1.s.size ≤ 100 ∧ nodes p.1.t ≤ 100000
theorem KR.low {w : World} {B0 lo g c : Nat} {L : List KV2} (h : KR w B0 lo g c L) : B0 ≤ g ∧ g < w.heap.size := own_low h.own rfl
theorem KR.dw {w w' : World} {B B0 lo g c : Nat} {L : List KV2} (h : KR w B0 lo g c L) (h1 : B < lo) (h2 : B < B0) (hd : Dw B w w') : KR w' B0 lo g c L :=
  ⟨own_keep h.own (fun b h3 h4 => hd.block b h4 (by simp; omega)), fun p hp => (h.el p hp).dw h1 hd, h.sm⟩
theorem KR.kept {w w' : World} {B0 lo g c : Nat} {L : List KV2} (h : KR w B0 lo g c L) (hb : Below w.heap.size w w') : KR w' B0 lo g c L :=
  ⟨own_keep h.own (fun b _ h4 => hb.block b h4), fun p hp => (h.el p hp).kept hb, h.sm⟩
theorem KR.mem {L : List KV2} {i : Nat} (hi : i < L.length) : L.getD i KV2.dummy ∈ L := by simp [List.getD, hi]
theorem KR.map {L : List KV2} {i : Nat} (hi : i < L.length) : (L.map (·.1)).getD i Kn.dummy = (L.getD i KV2.dummy).1 := by simp [List.getD, hi]
theorem KR.cell {w : World} {B0 lo g c : Nat} {L : List KV2} (h : KR w B0 lo g c L) {i : Nat} (hi : i < L.length) : KFd w g (0 + i * 4) (L.getD i KV2.dummy).1 (L.getD i KV2.dummy).2 := by
  have hc : ∀ q, q < 4 → w.cell? ⟨g, i * 4 + q, none⟩ = (quad (L.getD i KV2.dummy))[q]? := fun q hq => (h.own.cellAt _ (by omega)).trans (quads_at L i q hi hq)
  rw [Nat.zero_add]
  exact ⟨hc 0 (by omega), hc 1 (by omega), hc 2 (by omega), hc 3 (by omega)⟩
theorem KR.at {w : World} {B0 lo g c : Nat} {L : List KV2} (h : KR w B0 lo g c L) (hl : L.length ≤ 1000000) : KnAt w (L.map (·.1)) (.slice (some ⟨g, 0, none⟩) L.length c) := by
  have e : (L.map (·.1)).length = L.length := by simp
  have := KnAt.row (w := w) (L.map (·.1)) g 0 c (fun i => (L.getD i KV2.dummy).2) h.low.2 (by rw [e]; omega)
    (fun i hi => by rw [e] at hi; rw [KR.map hi]; exact h.cell hi)
    (fun i hi => by rw [e] at hi; rw [KR.map hi]; exact (h.el _ (KR.mem hi)).ok.at)
  rwa [e] at this
theorem KR.push {w w6 : World} {B0 lo g c g6 c6 : Nat} {L : List KV2} (h : KR w B0 lo g c L) {o : Obj} {p : KV2} (hp : TyN w lo g p.1.t p.2) (hs : p.1.s.size ≤ 100 ∧ nodes p.1.t ≤ 100000)
    (hown : w6.ownsRow B0 34 4 (.slice (some ⟨g6, 0, none⟩) (L.length + 1) c6) (L.length + 1) (quads L ++ quad p)) (hg : (w.alloc o).grownBy w6 (some g)) (hat : some g = some g6 ∨ w.heap.size ≤ g6) : KR w6 B0 lo g6 c6 (L ++ [p]) := by
  have hsz : w.heap.size ≤ w6.heap.size := by have := hg.size; simp at this; omega
  have hold : ∀ q, q ≠ g → q < w.heap.size → w6.heap[q]? = w.heap[q]? := fun q h1 h2 => grow_oldK hg h2 (fun x e => by injection e with e; omega)
  have hE : g6 = g ∨ w.heap.size ≤ g6 := hat.imp (fun e => by injection e with e; exact e.symm) id
  refine ⟨?_, fun x hx => ?_, fun x hx => ?_⟩
  · rw [List.length_append, quads_snoc]; exact hown
  · rcases List.mem_append.1 hx with hx | hx
    · exact (h.el x hx).moved hsz hold hE
    · rw [List.mem_singleton.1 hx]; exact hp.moved hsz hold hE
  · rcases List.mem_append.1 hx with hx | hx
    · exact h.sm x hx
    · rw [List.mem_singleton.1 hx]; exact hs
theorem StrRow.keep {w w' : World} {N m M : Nat} (h : StrRow w N m M) (e : w'.heap[N]? = w.heap[N]?) : StrRow w' N m M := fun i hi => by
  obtain ⟨s, hs, hc⟩ := h i hi
  exact ⟨s, hs, (cellEq (b := N) e).trans hc⟩
/-- Where the draw of such a list stands. -/
structure QK (w : World) (B : Nat) (a : Option Addr) (len cap : Nat) (zs : List Int) (p : Nat) (B0 g c : Nat) (L : List KV2) (W : World) : Prop where
  rd : Rd W B a len cap zs p
  dw : Dw B w W
  kr : KR W B0 w.heap.size g c L
  h1 : B < w.heap.size
  h2 : w.heap.size ≤ B0
  h3 : B0 ≤ W.heap.size
theorem QK.step {w : World} {B : Nat} {a : Option Addr} {len cap : Nat} {zs : List Int} {p p' B0 g c : Nat} {L : List KV2} {W W' : World} (h : QK w B a len cap zs p B0 g c L W) (hd : Dw B W W') (hr : Rd W' B a len cap zs p') : QK w B a len cap zs p' B0 g c L W' := by
  have h1 := h.h1; have h2 := h.h2
  exact ⟨hr, h.dw.trans hd, h.kr.dw h1 (by omega) hd, h1, h2, Nat.le_trans h.h3 hd.size⟩
theorem QK.pick {w : World} {B : Nat} {a : Option Addr} {len cap : Nat} {zs : List Int} {p B0 g c : Nat} {L : List KV2} {W W' : World} (h : QK w B a len cap zs p B0 g c L W) {k : Nat} (hk : W' = (W.setCell ⟨B, 1, none⟩ (.int .i64 ((p : Int) + 1))).drewN k) : QK w B a len cap zs (p + 1) B0 g c L W' :=
  h.step (Dw.pick hk) (h.rd.picked hk)
theorem QK.below {w : World} {B : Nat} {a : Option Addr} {len cap : Nat} {zs : List Int} {p B0 g c : Nat} {L : List KV2} {W W' : World} (h : QK w B a len cap zs p B0 g c L W) (hb : Below W.heap.size W W') : QK w B a len cap zs p B0 g c L W' :=
  h.step (Dw.ofBelow hb) (h.rd.below hb)
theorem QK.alloc {w : World} {B : Nat} {a : Option Addr} {len cap : Nat} {zs : List Int} {p B0 g c : Nat} {L : List KV2} {W : World} (h : QK w B a len cap zs p B0 g c L W) (o : Obj) : QK w B a len cap zs p B0 g c L (W.alloc o) :=
  h.step ((Dw.refl B W).alloc o) (h.rd.alloc o)
theorem QK.low {w : World} {B : Nat} {a : Option Addr} {len cap : Nat} {zs : List Int} {p B0 g c : Nat} {L : List KV2} {W : World} (h : QK w B a len cap zs p B0 g c L W) : w.heap.size ≤ g ∧ g < W.heap.size := by
  have := h.kr.low; have := h.h2; omega
theorem QK.grown {W W6 : World} {B g : Nat} {o : Obj} (hg : (W.alloc o).grownBy W6 (some g)) : Below (g + 1) W W6 → True := fun _ => trivial
theorem QK.push {w : World} {B : Nat} {a : Option Addr} {len cap : Nat} {zs : List Int} {p B0 g c : Nat} {L : List KV2} {W W6 : World} (h : QK w B a len cap zs p B0 g c L W) {o : Obj} {x : KV2} {g6 c6 : Nat} (hp : TyN W w.heap.size g x.1.t x.2) (hs : x.1.s.size ≤ 100 ∧ nodes x.1.t ≤ 100000)
    (hown : W6.ownsRow B0 34 4 (.slice (some ⟨g6, 0, none⟩) (L.length + 1) c6) (L.length + 1) (quads L ++ quad x)) (hg : (W.alloc o).grownBy W6 (some g)) (hat : some g = some g6 ∨ W.heap.size ≤ g6) : QK w B a len cap zs p B0 g6 c6 (L ++ [x]) W6 := by
  have h1 := h.h1; have h2 := h.h2
  have hb := h.rd.big
  have hlow := h.low
  have hsz : W.heap.size ≤ W6.heap.size := by have := hg.size; simp at this; omega
  have hold : ∀ q, q ≠ g → q < W.heap.size → W6.heap[q]? = W.heap[q]? := fun q h1 h2 => grow_oldK hg h2 (fun x e => by injection e with e; omega)
  have hA := (Below.refl W.heap.size W).alloc (Nat.le_refl _) o
  have hbl : Below w.heap.size W W6 := ⟨hg.os.trans hA.os, hg.tape.trans hA.tape, hg.output.trans hA.output, hsz, fun q hq => hold q (by omega) (by omega)⟩
  refine ⟨h.rd.kept (hbl.mono (by omega)), ?_, h.kr.push hp hs hown hg hat, h1, h2, Nat.le_trans h.h3 hsz⟩
  have hd := h.dw
  exact ⟨hbl.os.trans hd.os, hbl.tape.trans hd.tape, hbl.output.trans hd.output, Nat.le_trans hd.size hsz, fun q hq hne => (hold q (by omega) (by have := hd.size; omega)).trans (hd.block q hq hne)⟩
theorem QK.old {w : World} {B : Nat} {a : Option Addr} {len cap : Nat} {zs : List Int} {p B0 g c : Nat} {L : List KV2} {W W6 : World} (h : QK w B a len cap zs p B0 g c L W) {o : Obj} (hg : (W.alloc o).grownBy W6 (some g)) {N : Nat} (hN : N < B0) : W6.heap[N]? = W.heap[N]? :=
  grow_oldK hg (by have := h.h3; omega) (fun x e => by have := h.kr.low; injection e with e; omega)
theorem infoKn : (Try.prog.info? 34).map (fun i => (i.zero, i.size, i.bytes)) = some (some (.agg #[.string ⟨#[]⟩, .int .i64 0, .int .i64 0, .slice none 0 0]), 4, 56) := by kernel_rfl
theorem nodes_opt {r : Option Ty} (h : ∀ t, r = some t → tvT t = true) : nodes (optT r) ≤ 100000 := by
  cases r with
  | none => simp [optT, nodes, nodesL]
  | some t =>
    have h1 := h t rfl
    unfold tvT at h1
    rw [Bool.and_eq_true] at h1
    have := nodes_shp 16 t h1.1
    have e : (2 : Nat) ^ 16 = 65536 := by decide
    show nodes t ≤ 100000
    omega
theorem pT_valid {s : ByteArray} {t : Ty} (h : pT s = some t) : tvT t = true := by
  rw [pT] at h
  split at h
  · split at h
    · rename_i hq; injection h with h; subst h; exact hq.2
    · cases h
  · cases h
/-- What 'of' leaves: one of the list's strings. -/
def OfPost (w : World) (B p M : Nat) (e : Ending) (w' : World) : Prop :=
  ∃ s : ByteArray, s.size ≤ M ∧ e = .returned (.string s) ∧ ∃ k, w' = (w.setCell ⟨B, 1, none⟩ (.int .i64 ((p : Int) + 1))).drewN k
set_option maxRecDepth 100000 in
set_option maxHeartbeats 1000000 in
theorem of_any (B : Nat) (a : Option Addr) (len cap : Nat) (zs : List Int) (p : Nat) (w : World) (hr : Rd w B a len cap zs p) (hp : p ≤ 1000000) (L m c M : Nat) (h1 : 1 ≤ m) (h2 : m ≤ 1000) (hL : ¬ L = B) (hx : StrRow w L m M) :
    Calls Try.prog 27 #[.pointer (some ⟨B, 0, none⟩), .slice (some ⟨L, 0, none⟩) m c] w (OfPost w B p M) := by
  have hL' : ¬ B = L := fun e => hL e.symm
  have HR := Lib.hid hr
  have HX := Lib.hid hx
  clear hr hx
  go_enter Try.func27, Try.ntmps27
  go_wp2_with fail
  go_at_call 51
  refine (pick_any B a len cap zs p m _ HR.out hp (by omega) (by omega)).mono ?_
  rintro e w1 ⟨x, hxm, rfl, k, rfl⟩
  have hxn : x < m := by omega
  obtain ⟨s, hs, hc⟩ := HX.out x hxn
  have HN := Lib.hid hs
  clear hs
  go_wp2_with fail
  go_ret
  exact ⟨s, HN.out, rfl, k, rfl⟩

end Go.Proofs.Ytlgbkhkmfgdehaa

namespace Go.Proofs.Ytlgbkhkmfgdehaa
open Go.RowKit
set_option linter.unusedVariables false
set_option linter.unusedSimpArgs false

/-- What such a draw leaves. -/
def KdPost (m q : Nat) (w : World) (B : Nat) (a : Option Addr) (len cap : Nat) (zs : List Int) (p : Nat) (e : Ending) (w' : World) : Prop :=
  ∃ (L : List KV2) (B0 g c r : Nat), r ≤ q ∧ L.length ≤ m ∧ e = .returned (.slice (some ⟨g, 0, none⟩) L.length c) ∧ QK w B a len cap zs (p + r) B0 g c L w'
/-- Where l4Draw stands: with its lists of names and texts. -/
structure QD (w : World) (B N : Nat) (a : Option Addr) (len cap : Nat) (zs : List Int) (p : Nat) (B0 g c : Nat) (L : List KV2) (W : World) : Prop where
  q : QK w B a len cap zs p B0 g c L W
  r1 : StrRow W N 7 100
  r2 : StrRow W (N + 1) 8 100
  n1 : B < N
  n2 : N + 1 < B0
theorem QD.step {w : World} {B N : Nat} {a : Option Addr} {len cap : Nat} {zs : List Int} {p p' B0 g c : Nat} {L : List KV2} {W W' : World} (h : QD w B N a len cap zs p B0 g c L W) (hd : Dw B W W') (hr : Rd W' B a len cap zs p') : QD w B N a len cap zs p' B0 g c L W' := by
  have h1 := h.n1; have h2 := h.n2; have h3 := h.q.h3
  exact ⟨h.q.step hd hr, h.r1.keep (hd.block N (by omega) (by simp; omega)), h.r2.keep (hd.block (N + 1) (by omega) (by simp; omega)), h1, h2⟩
theorem QD.pick {w : World} {B N : Nat} {a : Option Addr} {len cap : Nat} {zs : List Int} {p B0 g c : Nat} {L : List KV2} {W W' : World} (h : QD w B N a len cap zs p B0 g c L W) {k : Nat} (hk : W' = (W.setCell ⟨B, 1, none⟩ (.int .i64 ((p : Int) + 1))).drewN k) : QD w B N a len cap zs (p + 1) B0 g c L W' :=
  h.step (Dw.pick hk) (h.q.rd.picked hk)
theorem QD.below {w : World} {B N : Nat} {a : Option Addr} {len cap : Nat} {zs : List Int} {p B0 g c : Nat} {L : List KV2} {W W' : World} (h : QD w B N a len cap zs p B0 g c L W) (hb : Below W.heap.size W W') : QD w B N a len cap zs p B0 g c L W' :=
  h.step (Dw.ofBelow hb) (h.q.rd.below hb)
theorem QD.push {w : World} {B N : Nat} {a : Option Addr} {len cap : Nat} {zs : List Int} {p B0 g c : Nat} {L : List KV2} {W W6 : World} (h : QD w B N a len cap zs p B0 g c L W) {o : Obj} {x : KV2} {g6 c6 : Nat} (hp : TyN W w.heap.size g x.1.t x.2) (hs : x.1.s.size ≤ 100 ∧ nodes x.1.t ≤ 100000)
    (hown : W6.ownsRow B0 34 4 (.slice (some ⟨g6, 0, none⟩) (L.length + 1) c6) (L.length + 1) (quads L ++ quad x)) (hg : (W.alloc o).grownBy W6 (some g)) (hat : some g = some g6 ∨ W.heap.size ≤ g6) : QD w B N a len cap zs p B0 g6 c6 (L ++ [x]) W6 := by
  have h1 := h.n1; have h2 := h.n2
  exact ⟨h.q.push hp hs hown hg hat, h.r1.keep (h.q.old hg (by omega)), h.r2.keep (h.q.old hg h2), h1, h2⟩

set_option maxRecDepth 100000 in
set_option maxHeartbeats 8000000 in
theorem l4Draw_any (B : Nat) (a : Option Addr) (len cap : Nat) (zs : List Int) (p : Nat) (w : World) (hr : Rd w B a len cap zs p) (hp : p ≤ 100000) :
    Calls Try.prog 26 #[.pointer (some ⟨B, 0, none⟩)] w (KdPost 5 11 w B a len cap zs p) := by
  obtain ⟨S, hS⟩ : ∃ S, w.heap.size = S := ⟨_, rfl⟩
  have hBS : B < S := by rw [← hS]; exact hr.big
  obtain ⟨W4, hW4⟩ : ∃ W, (((w.alloc (.cells #[.string ⟨#[120]⟩, .string ⟨#[121]⟩, .string ⟨#[102]⟩, .string ⟨#[103]⟩, .string ⟨#[65, 46, 120]⟩, .string ⟨#[65, 46, 102]⟩, .string ⟨#[66, 46, 102]⟩] 9)).alloc (.cells #[.string ⟨#[73]⟩, .string ⟨#[40, 97, 62, 97, 41]⟩, .string ⟨#[40, 73, 62, 73, 41]⟩, .string ⟨#[40, 97, 62, 40, 98, 62, 40, 97, 42, 98, 41, 41, 41]⟩, .string ⟨#[40, 40, 97, 42, 98, 41, 62, 97, 41]⟩, .string ⟨#[97]⟩, .string ⟨#[40, 40, 97, 62, 98, 41, 62, 40, 97, 62, 98, 41, 41]⟩, .string ⟨#[40, 73, 42, 40, 97, 62, 97, 41, 41]⟩] 9)).alloc (.cells #[] 34)).alloc (.cells #[.int .i64 4, .int .i64 3, .int .i64 5, .int .i64 2, .int .i64 0] 3) = W := ⟨_, rfl⟩
  have HQ4 : Hid (QD w B S a len cap zs p (S + 2) (S + 2) 0 [] W4) := Lib.hid (by
    have hA : Dw B w W4 := by rw [← hW4]; exact ((((Dw.refl B w).alloc _).alloc _).alloc _).alloc _
    refine ⟨⟨by rw [← hW4]; exact (((hr.alloc _).alloc _).alloc _).alloc _, hA, ⟨?_, fun x hx => (by cases hx), fun x hx => (by cases hx)⟩, by omega, by omega, by rw [← hW4, ← hS]; simp⟩, ?_, ?_, hBS, by omega⟩
    · rw [← hW4, ← hS]
      have hown := World.ownsRow_lit (e := 34) (size := 4) (base := w.heap.size + 2) ((w.alloc (.cells #[.string ⟨#[120]⟩, .string ⟨#[121]⟩, .string ⟨#[102]⟩, .string ⟨#[103]⟩, .string ⟨#[65, 46, 120]⟩, .string ⟨#[65, 46, 102]⟩, .string ⟨#[66, 46, 102]⟩] 9)).alloc (.cells #[.string ⟨#[73]⟩, .string ⟨#[40, 97, 62, 97, 41]⟩, .string ⟨#[40, 73, 62, 73, 41]⟩, .string ⟨#[40, 97, 62, 40, 98, 62, 40, 97, 42, 98, 41, 41, 41]⟩, .string ⟨#[40, 40, 97, 42, 98, 41, 62, 97, 41]⟩, .string ⟨#[97]⟩, .string ⟨#[40, 40, 97, 62, 98, 41, 62, 40, 97, 62, 98, 41, 41]⟩, .string ⟨#[40, 73, 42, 40, 97, 62, 97, 41, 41]⟩] 9)) #[] 0 (by simp) (by decide) rfl
      have e2 : ((w.alloc (.cells #[.string ⟨#[120]⟩, .string ⟨#[121]⟩, .string ⟨#[102]⟩, .string ⟨#[103]⟩, .string ⟨#[65, 46, 120]⟩, .string ⟨#[65, 46, 102]⟩, .string ⟨#[66, 46, 102]⟩] 9)).alloc (.cells #[.string ⟨#[73]⟩, .string ⟨#[40, 97, 62, 97, 41]⟩, .string ⟨#[40, 73, 62, 73, 41]⟩, .string ⟨#[40, 97, 62, 40, 98, 62, 40, 97, 42, 98, 41, 41, 41]⟩, .string ⟨#[40, 40, 97, 42, 98, 41, 62, 97, 41]⟩, .string ⟨#[97]⟩, .string ⟨#[40, 40, 97, 62, 98, 41, 62, 40, 97, 62, 98, 41, 41]⟩, .string ⟨#[40, 73, 42, 40, 97, 62, 97, 41, 41]⟩] 9)).heap.size = w.heap.size + 2 := by simp
      rw [e2] at hown
      exact own_keep hown (fun b _ h4 => ((Below.refl _ _).alloc (Nat.le_refl _) _).block b h4)
    · rw [← hW4, ← hS]
      have h0 := strRow_new w #[.string ⟨#[120]⟩, .string ⟨#[121]⟩, .string ⟨#[102]⟩, .string ⟨#[103]⟩, .string ⟨#[65, 46, 120]⟩, .string ⟨#[65, 46, 102]⟩, .string ⟨#[66, 46, 102]⟩] 9 7 100 rfl (by decide +kernel)
      exact (h0.keep (((Below.refl _ _).alloc (Nat.le_refl _) _).block _ (by simp))).keep ((((Below.refl ((w.alloc (.cells #[.string ⟨#[120]⟩, .string ⟨#[121]⟩, .string ⟨#[102]⟩, .string ⟨#[103]⟩, .string ⟨#[65, 46, 120]⟩, .string ⟨#[65, 46, 102]⟩, .string ⟨#[66, 46, 102]⟩] 9)).alloc (.cells #[.string ⟨#[73]⟩, .string ⟨#[40, 97, 62, 97, 41]⟩, .string ⟨#[40, 73, 62, 73, 41]⟩, .string ⟨#[40, 97, 62, 40, 98, 62, 40, 97, 42, 98, 41, 41, 41]⟩, .string ⟨#[40, 40, 97, 42, 98, 41, 62, 97, 41]⟩, .string ⟨#[97]⟩, .string ⟨#[40, 40, 97, 62, 98, 41, 62, 40, 97, 62, 98, 41, 41]⟩, .string ⟨#[40, 73, 42, 40, 97, 62, 97, 41, 41]⟩] 9)).heap.size _).alloc (Nat.le_refl _) _).alloc (by simp) _).block _ (by simp; omega))
    · rw [← hW4, ← hS]
      have h0 := strRow_new (w.alloc (.cells #[.string ⟨#[120]⟩, .string ⟨#[121]⟩, .string ⟨#[102]⟩, .string ⟨#[103]⟩, .string ⟨#[65, 46, 120]⟩, .string ⟨#[65, 46, 102]⟩, .string ⟨#[66, 46, 102]⟩] 9)) #[.string ⟨#[73]⟩, .string ⟨#[40, 97, 62, 97, 41]⟩, .string ⟨#[40, 73, 62, 73, 41]⟩, .string ⟨#[40, 97, 62, 40, 98, 62, 40, 97, 42, 98, 41, 41, 41]⟩, .string ⟨#[40, 40, 97, 42, 98, 41, 62, 97, 41]⟩, .string ⟨#[97]⟩, .string ⟨#[40, 40, 97, 62, 98, 41, 62, 40, 97, 62, 98, 41, 41]⟩, .string ⟨#[40, 73, 42, 40, 97, 62, 97, 41, 41]⟩] 9 8 100 rfl (by decide +kernel)
      rw [size_alloc1] at h0
      exact h0.keep ((((Below.refl ((w.alloc (.cells #[.string ⟨#[120]⟩, .string ⟨#[121]⟩, .string ⟨#[102]⟩, .string ⟨#[103]⟩, .string ⟨#[65, 46, 120]⟩, .string ⟨#[65, 46, 102]⟩, .string ⟨#[66, 46, 102]⟩] 9)).alloc (.cells #[.string ⟨#[73]⟩, .string ⟨#[40, 97, 62, 97, 41]⟩, .string ⟨#[40, 73, 62, 73, 41]⟩, .string ⟨#[40, 97, 62, 40, 98, 62, 40, 97, 42, 98, 41, 41, 41]⟩, .string ⟨#[40, 40, 97, 42, 98, 41, 62, 97, 41]⟩, .string ⟨#[97]⟩, .string ⟨#[40, 40, 97, 62, 98, 41, 62, 40, 97, 62, 98, 41, 41]⟩, .string ⟨#[40, 73, 42, 40, 97, 62, 97, 41, 41]⟩] 9)).heap.size _).alloc (Nat.le_refl _) _).alloc (by simp) _).block _ (by simp)))
  have HIR : Hid (IntRow W4 (S + 1 + 1 + 1) 5 0 5) := Lib.hid (by
    have h := intRow_new (((w.alloc (.cells #[.string ⟨#[120]⟩, .string ⟨#[121]⟩, .string ⟨#[102]⟩, .string ⟨#[103]⟩, .string ⟨#[65, 46, 120]⟩, .string ⟨#[65, 46, 102]⟩, .string ⟨#[66, 46, 102]⟩] 9)).alloc (.cells #[.string ⟨#[73]⟩, .string ⟨#[40, 97, 62, 97, 41]⟩, .string ⟨#[40, 73, 62, 73, 41]⟩, .string ⟨#[40, 97, 62, 40, 98, 62, 40, 97, 42, 98, 41, 41, 41]⟩, .string ⟨#[40, 40, 97, 42, 98, 41, 62, 97, 41]⟩, .string ⟨#[97]⟩, .string ⟨#[40, 40, 97, 62, 98, 41, 62, 40, 97, 62, 98, 41, 41]⟩, .string ⟨#[40, 73, 42, 40, 97, 62, 97, 41, 41]⟩] 9)).alloc (.cells #[] 34)) #[.int .i64 4, .int .i64 3, .int .i64 5, .int .i64 2, .int .i64 0] 3 5 0 5 rfl (by decide +kernel)
    rw [hW4, size_alloc1, size_alloc1, size_alloc1, hS] at h
    exact h)
  have HW4 := Lib.hid hW4
  have HS := Lib.hid hS
  clear hr hW4
  go_enter Try.func26, Try.ntmps26
  go_wp2_with fail
  rw [HW4.out]
  try rw [hS]
  clear hS
  go_at_call 55
  refine (num_any B a len cap zs p _ HQ4.out.q.rd (by omega) _ 5 5 0 5 (by omega) (by omega) (by omega) HIR.out).mono ?_
  rintro e w5 ⟨n0, hn0, rfl, k5, hk5⟩
  have HQ5 := Lib.hid (HQ4.out.pick hk5)
  obtain ⟨hn1, hn2⟩ := hn0
  clear hk5
  go_wp2_with fail
  go_loopw [5, 6] (fun cv i wr => ∃ (L : List KV2) (g c r : Nat) (n : Int), cv = .slice (some ⟨g, 0, none⟩) L.length c ∧ i = .int .i64 n ∧ 0 ≤ n ∧ n + L.length ≤ 5 ∧ r + 2 * n.toNat ≤ 11 ∧ Hid (QD w B S a len cap zs (p + r) (S + 2) g c L wr)) (fun _ i _ => (intOf i).toNat)
  case atStart => exact ⟨[], S + 1 + 1, 0, 1, n0, rfl, rfl, hn1, by simp; omega, by omega, HQ5⟩
  case round =>
    obtain ⟨L, g, c, r, n, rfl, rfl, hn0, hn5, hr, hq⟩ := hrel
    obtain ⟨jl, hjl⟩ : ∃ j, L.length = j := ⟨_, rfl⟩
    have HJL := Lib.hid hjl
    rw [hjl] at hn5 ⊢
    clear hjl
    by_cases hlt : 0 < n
    · obtain ⟨n', rfl⟩ : ∃ n' : Nat, n = (n' : Int) + 1 := ⟨(n - 1).toNat, by omega⟩
      have hr2 : r + 2 * n' + 2 ≤ 11 := by omega
      go_wp2_with fail
      go_at_call 51
      refine (pick_any B a len cap zs (p + r) 8 _ hq.out.q.rd (by omega) (by omega) (by omega)).mono ?_
      rintro e w6 ⟨x, hx, rfl, k6, hk6⟩
      have HQ6 := Lib.hid (hq.out.pick hk6)
      have hx8 : x < 8 := by omega
      obtain ⟨s, hs, hc⟩ := HQ6.out.r2 x hx8
      have HSZ := Lib.hid hs
      clear hk6 hs
      go_wp2_with fail
      go_at_call 56
      refine (parseType_spec s (by have := HSZ.out; omega) _ rfl _).mono ?_
      rintro e w7 hpt
      obtain ⟨v, rfl, hty, hb7⟩ := hpt.flat
      clear hpt
      have HND : Hid (nodes (optT (pT s)) ≤ 100000) := Lib.hid (nodes_opt (fun t h => pT_valid h))
      obtain ⟨ok, hok⟩ : ∃ b, (pT s).isSome = b := ⟨_, rfl⟩
      rw [hok]
      obtain ⟨t, ht⟩ : ∃ t, optT (pT s) = t := ⟨_, rfl⟩
      rw [ht] at hty HND ⊢
      have HQ7 := Lib.hid (HQ6.out.below hb7)
      have hg6 : g < w6.heap.size := HQ6.out.q.low.2
      have hw6 : w.heap.size ≤ w6.heap.size := HQ6.out.q.dw.size
      have HT7 := Lib.hid (hty.toN (lo' := w.heap.size) (E := g) hw6 (.inr hg6))
      obtain ⟨av, cv, rfl, _⟩ := hty.at.slice
      clear hty hb7 hok ht hc hg6
      have HA7 := Lib.hid ((Below.refl w7.heap.size w7).alloc (Nat.le_refl _) (.cells #[.int .i64 t.k, .int .i64 t.n, .slice av t.ks.length cv] 28))
      obtain ⟨W8, hW8⟩ : ∃ W, w7.alloc (.cells #[.int .i64 t.k, .int .i64 t.n, .slice av t.ks.length cv] 28) = W := ⟨_, rfl⟩
      obtain ⟨T, hT⟩ : ∃ T, w7.heap.size = T := ⟨_, rfl⟩
      have HBX := Lib.hid (tbox_new w7 (.int .i64 t.k) (.int .i64 t.n) (.slice av t.ks.length cv) 28)
      rw [hW8, hT] at HBX
      rw [hW8] at HA7
      have HQ8 := Lib.hid (HQ7.out.below HA7.out)
      have HT8 := Lib.hid (HT7.out.kept HA7.out)
      have HW8 := Lib.hid hW8
      have hBT : B < T := by rw [← hT]; have := HQ7.out.q.rd.big; exact this
      have HTT := Lib.hid hT
      obtain ⟨b0, b1, b2, bz⟩ := HBX.out
      obtain ⟨i0, hi0, hz0, hz1, hz2⟩ := info_parts infoKn
      clear hW8
      go_wp2_with fail
      rw [HW8.out]
      try rw [hT]
      clear hT
      go_region_law (first
        | (refine step_append_lies _ (by rfl) _ _ _ (by rfl) (S + 2) 34 i0 _ 4 56 Try.underlying23 hi0 hz0 hz1 hz2 rfl (by omega) (.slice (some ⟨g, 0, none⟩) jl c) jl (quads L) (by rfl) (by first | exact HO9.out.alloc _ | exact (HO9.out.alloc _).drew | exact HO9.out.drew.alloc _) ⟨w9.heap.size, 0, none⟩ 1 1 [.string s2, .int .i64 t.k, .int .i64 t.n, .slice av t.ks.length cv] (by rfl) (by rfl) (World.news_of_block (cs := #[.string s2, .int .i64 t.k, .int .i64 t.n, .slice av t.ks.length cv]) (t := 34) (fr := (0, 0)) (by exact heap_alloc_new _ _)) (by simp [Value.oneCell']) (by omega) (by unfold maxLen; omega) (by omega) (by have := HQ9.out.q.h3; simp; omega) (w9.heap.size + 1) (by simp; first | done | omega) ?_; intro g6 cap6 w10 hown6 hgrow6 hat6 hlt6; have hgr6 : (w9.alloc (.cells #[.string s2, .int .i64 t.k, .int .i64 t.n, .slice av t.ks.length cv] 34)).grownBy w10 (some g) := ⟨hgrow6.os, hgrow6.tape, hgrow6.output, hgrow6.size, hgrow6.block⟩; have HQ10 := Lib.hid (HQ9.out.push (x := (⟨s2, t⟩, .slice av t.ks.length cv)) (g6 := g6) (c6 := cap6) HT9.out ⟨HSN.out, HND.out⟩ (by rw [HJL.out]; exact hown6) hgr6 (hat6.imp id (fun h => by omega))); clear hown6 hgrow6 hat6 hlt6 hgr6)
        | (go_simp; go_at_call 51; refine (pick_any B a len cap zs (p + r + 1) 7 _ (by first | exact HQ8.out.q.rd | exact HQ8.out.q.rd.drew) (by omega) (by omega) (by omega)).mono ?_; rintro e w9 ⟨y, hy, rfl, k9, hk9⟩; have hd9 : Dw B W8 w9 := (by first | exact Dw.pick hk9 | exact ((Dw.refl B W8).drew).trans (Dw.pick hk9)); have HQ9 := Lib.hid (HQ8.out.step hd9 (Rd.picked (by first | exact HQ8.out.q.rd | exact HQ8.out.q.rd.drew) hk9)); have HT9 := Lib.hid (HT8.out.dw (show B < w.heap.size from HQ8.out.q.h1) hd9); have HB9 := Lib.hid (HBX.out.dw hBT hd9); have hy7 : y < 7 := (by omega); obtain ⟨s2, hs2, hc2⟩ := HQ9.out.r1 y hy7; have HSN := Lib.hid hs2; have HO9 : Hid (w9.ownsRow (S + 2) 34 4 (.slice (some ⟨g, 0, none⟩) jl c) jl (quads L)) := Lib.hid (by rw [← HJL.out]; exact HQ9.out.q.kr.own); obtain ⟨d0, d1, d2, dz⟩ := HB9.out; clear hk9 hs2 hd9)
        | fail)
      all_goals go_wp2_with fail
      all_goals go_roundw
      all_goals first
        | exact ⟨L ++ [(⟨s2, t⟩, .slice av t.ks.length cv)], g6, cap6, r + 2, n', by simp [HJL.out], by go_num, by omega, by rw [List.length_append, HJL.out]; simp; omega, by omega, by have h := HQ10; rw [show p + r + 1 + 1 = p + (r + 2) by omega] at h; exact h⟩
        | (simp [intOf] <;> omega)
    · obtain rfl : n = 0 := by omega
      go_wp2_with fail
      go_ret
      exact ⟨L, S + 2, g, c, r, by omega, by rw [HJL.out]; omega, by rw [HJL.out]; rfl, hq.out.q⟩

end Go.Proofs.Ytlgbkhkmfgdehaa

namespace Go.Proofs.Ytlgbkhkmfgdehaa
open Go.RowKit
set_option linter.unusedVariables false
set_option linter.unusedSimpArgs false

def lenN : Value → Nat
  | .slice _ n _ => n
  | _ => 0

set_option maxRecDepth 100000 in
set_option maxHeartbeats 16000000 in
theorem l4Mutate_any (B : Nat) (a : Option Addr) (len cap : Nat) (zs : List Int) (p : Nat) (w : World) (hr : Rd w B a len cap zs p) (hp : p ≤ 100000) {E0 lo0 ge ce : Nat} {Le : List KV2} (he : KR w E0 lo0 ge ce Le) (h1 : B < lo0) (h2 : B < E0) (hn5 : Le.length ≤ 5) :
    Calls Try.prog 25 #[.pointer (some ⟨B, 0, none⟩), .slice (some ⟨ge, 0, none⟩) Le.length ce] w (KdPost 61 103 w B a len cap zs p) := by
  obtain ⟨S, hS⟩ : ∃ S, w.heap.size = S := ⟨_, rfl⟩
  have hBS : B < S := by rw [← hS]; exact hr.big
  obtain ⟨n, hn⟩ : ∃ n, Le.length = n := ⟨_, rfl⟩
  have HNN := Lib.hid hn
  have HE := Lib.hid he
  have hge : ge < S := by rw [← hS]; exact he.low.2
  rw [hn] at hn5 ⊢
  obtain ⟨W1, hW1⟩ : ∃ W, w.alloc (.cells #[] 34) = W := ⟨_, rfl⟩
  have HQ1 : Hid (QK w B a len cap zs p S S 0 [] W1) := Lib.hid (by
    have hA : Dw B w W1 := by rw [← hW1]; exact (Dw.refl B w).alloc _
    refine ⟨by rw [← hW1]; exact hr.alloc _, hA, ⟨?_, fun x hx => (by cases hx), fun x hx => (by cases hx)⟩, by omega, by omega, by rw [← hW1, ← hS]; simp⟩
    rw [← hW1, ← hS]
    exact World.ownsRow_lit (e := 34) (size := 4) (base := w.heap.size) w #[] 0 (Nat.le_refl _) (by decide) rfl)
  have HW1 := Lib.hid hW1
  have HS := Lib.hid hS
  obtain ⟨i0, hi0, hz0, hz1, hz2⟩ := info_parts infoKn
  clear hr hW1 he hn
  go_enter Try.func25, Try.ntmps25
  go_wp2_with fail
  rw [HW1.out]
  try rw [hS]
  clear hS
  go_loopw [5, 6] (fun cv i wr => ∃ (j : Nat) (L : List KV2) (g c : Nat), j ≤ n ∧ L.length = j ∧ i = .int .i64 j ∧ cv = .slice (some ⟨g, 0, none⟩) j c ∧ Hid (QK w B a len cap zs p S g c L wr)) (fun _ i _ => n - (intOf i).toNat)
  case atStart => exact ⟨0, [], S, 0, Nat.zero_le _, rfl, rfl, rfl, HQ1⟩
  case round =>
    obtain ⟨j, L, g, c, hj, hjl, rfl, rfl, hq⟩ := hrel
    have HJL := Lib.hid hjl
    have hQ3 := hq.out.h3
    have hgw := hq.out.low.2
    have hSw : S ≤ wr.heap.size := by have := hq.out.h3; omega
    clear hjl
    by_cases hlt : j < n
    · have hji : (j : Int) < (n : Int) := by omega
      have hk := HE.out.dw h1 h2 hq.out.dw
      have hjL : j < Le.length := by rw [HNN.out]; exact hlt
      obtain ⟨c0, c1, c2, c3⟩ := hk.cell hjL
      have hmem := KR.mem hjL
      have htx := (hk.el _ hmem).ok.at
      have hsx := hk.sm _ hmem
      obtain ⟨⟨⟨sx, tx⟩, vx⟩, hx⟩ : ∃ x, Le.getD j KV2.dummy = x := ⟨_, rfl⟩
      rw [hx] at c0 c1 c2 c3 htx hsx
      simp only at c0 c1 c2 c3 htx hsx
      obtain ⟨ax, cx, rfl, _⟩ := htx.slice
      rw [Nat.zero_add] at c0 c1 c2 c3
      have HTX := Lib.hid htx
      have HSX := Lib.hid hsx
      have hgew : ge < wr.heap.size := by omega
      clear hk hmem htx hsx hx
      go_wp2_with fail
      go_region_law (first
        | (refine step_append_lies _ (by rfl) _ _ _ (by rfl) S 34 i0 _ 4 56 Try.underlying23 hi0 hz0 hz1 hz2 rfl (by omega) (.slice (some ⟨g, 0, none⟩) j c) j (quads L) (by rfl) (by first | exact HO9.out.alloc _ | exact (HO9.out.alloc _).drew | exact HO9.out.drew.alloc _) ⟨w9.heap.size, 0, none⟩ 1 1 [.string sx, .int .i64 tx.k, .int .i64 tx.n, .slice a9 tx.ks.length k9] (by rfl) (by rfl) (World.news_of_block (cs := #[.string sx, .int .i64 tx.k, .int .i64 tx.n, .slice a9 tx.ks.length k9]) (t := 34) (fr := (0, 0)) (by exact heap_alloc_new _ _)) (by simp [Value.oneCell']) (by omega) (by unfold maxLen; omega) (by omega) (by have := HQ9.out.h3; simp; omega) (w9.heap.size + 1) (by simp; first | done | omega) ?_; intro g6 cap6 w10 hown6 hgrow6 hat6 hlt6; have hgr6 : (w9.alloc (.cells #[.string sx, .int .i64 tx.k, .int .i64 tx.n, .slice a9 tx.ks.length k9] 34)).grownBy w10 (some g) := ⟨hgrow6.os, hgrow6.tape, hgrow6.output, hgrow6.size, hgrow6.block⟩; have HQ10 := Lib.hid (HQ9.out.push (x := (⟨sx, tx⟩, .slice a9 tx.ks.length k9)) (g6 := g6) (c6 := cap6) HT9.out HSX.out (by rw [HJL.out]; exact hown6) hgr6 (hat6.imp id (fun h => by omega))); clear hown6 hgrow6 hat6 hlt6 hgr6)
        | (go_simp; go_at_call 30; refine (l2Copy_all 100002 tx _ _ (by have := HSX.out.2; omega) (by omega) (by first | exact HTX.out | exact HTX.out.kept (Below.refl _ _).drew)).mono ?_; rintro e w9 ⟨v9, rfl, hty, hb9⟩; have hb9' : Below wr.heap.size wr w9 := (Below.trans (B := wr.heap.size) (by first | exact Below.refl _ _ | exact (Below.refl _ _).drew) hb9); have HQ9 := Lib.hid (hq.out.below hb9'); have HT9 := Lib.hid (hty.toN (lo' := w.heap.size) (E := g) (by have h := hq.out.dw.size; first | exact h | (simp; omega)) (.inr (by first | exact hgw | (simp; omega)))); obtain ⟨a9, k9, rfl, _⟩ := hty.at.slice; have d0 := (hb9'.cell (p := ⟨ge, j * 4, none⟩) hgew).trans c0; have d1 := (hb9'.cell (p := ⟨ge, j * 4 + 1, none⟩) hgew).trans c1; have d2 := (hb9'.cell (p := ⟨ge, j * 4 + 2, none⟩) hgew).trans c2; have d3 := (hb9'.cell (p := ⟨ge, j * 4 + 3, none⟩) hgew).trans c3; have HO9 : Hid (w9.ownsRow S 34 4 (.slice (some ⟨g, 0, none⟩) j c) j (quads L)) := Lib.hid (by rw [← HJL.out]; exact HQ9.out.kr.own); clear hty hb9 hb9')
        | fail)
      all_goals go_wp2_with fail
      all_goals go_roundw
      all_goals first
        | exact ⟨j + 1, L ++ [(⟨sx, tx⟩, .slice a9 tx.ks.length k9)], g6, cap6, by omega, by simp [HJL.out], by go_num, rfl, HQ10⟩
        | (simp [intOf] <;> omega)
    · have hji : ¬ (j : Int) < (n : Int) := by omega
      obtain rfl : j = n := by omega
      clear hlt hj
      go_wp2_with fail
      go_at_call 51
      refine (pick_any B a len cap zs p 30 _ hq.out.rd (by omega) (by omega) (by omega)).mono ?_
      rintro e w2 ⟨x, hx, rfl, k2, hk2⟩
      have HQ2 := Lib.hid (hq.out.pick hk2)
      have hw2 : wr.heap.size ≤ w2.heap.size := by rw [hk2]; simp
      have HO2 : Hid (w2.ownsRow S 34 4 (.slice (some ⟨g, 0, none⟩) j c) j (quads L)) := Lib.hid (by rw [← HJL.out]; exact HQ2.out.kr.own)
      clear hk2 hx
      by_cases x0 : x = 0
      · have e0 : ((x : Int) == 0) = true := by rw [beq_iff_eq]; omega
        clear x0
        go_wp2_with fail
        go_at_call 27
        refine (of_any B a len cap zs (p + 1) _ (HQ2.out.rd.alloc _) (by omega) _ 5 5 100 (by omega) (by omega) (by omega) (strRow_new _ _ _ 5 100 rfl (by decide +kernel))).mono ?_
        rintro e w3 ⟨sn, hsn, rfl, k3, hk3⟩
        have HQ3 := Lib.hid ((HQ2.out.alloc _).pick hk3)
        have HSN := Lib.hid hsn
        clear hk3 hsn
        go_wp2_with fail
        go_at_call 52
        refine (l2Num_flat _).mono ?_
        rintro e w4 ⟨an, cn, rfl, hb4⟩
        have HQ4 := Lib.hid (HQ3.out.below hb4)
        have HO4 : Hid (w4.ownsRow S 34 4 (.slice (some ⟨g, 0, none⟩) j c) j (quads L)) := Lib.hid (by rw [← HJL.out]; exact HQ4.out.kr.own)
        have hz4 : S ≤ w4.heap.size := by have := HQ4.out.h3; omega
        clear hb4
        go_wp2_with (first | (at_builtin; refine wpList_append_lies _ rfl _ _ 23 rfl S 34 i0 _ 4 56 Try.underlying23 hi0 hz0 hz1 hz2 rfl (by omega) (.slice (some ⟨g, 0, none⟩) j c) j (quads L) rfl (HO4.out.alloc _) ⟨w4.heap.size, 0, none⟩ 1 1 [.string sn, .int .i64 1, .int .i64 0, .slice an 0 cn] rfl rfl (World.news_of_block (cs := #[.string sn, .int .i64 1, .int .i64 0, .slice an 0 cn]) (t := 34) (fr := (0, 0)) (heap_alloc_new w4 _)) (by simp [Value.oneCell']) (by omega) (by unfold maxLen; omega) (by omega) (by simp; omega) (w4.heap.size + 1) (by simp) ?_; intro g6 cap6 w5 hown6 hgrow6 hat6 hlt6))
        have HQ5 := Lib.hid (HQ4.out.push (x := (⟨sn, .node 1 0 []⟩, .slice an 0 cn)) (g6 := g6) (c6 := cap6) (.bare _ _ _ _) ⟨HSN.out, by simp [nodes, nodesL]⟩ (by rw [HJL.out]; exact hown6) hgrow6 (hat6.imp id (fun h => by omega)))
        clear hown6 hgrow6 hat6 hlt6
        go_ret
        exact ⟨L ++ [(⟨sn, .node 1 0 []⟩, .slice an 0 cn)], S, g6, cap6, 2, by omega, by rw [List.length_append, HJL.out]; simp; omega, by rw [List.length_append, HJL.out]; rfl, HQ5.out⟩
      have e0 : ((x : Int) == 0) = false := by rw [beq_eq_false_iff_ne]; omega
      by_cases x1 : x = 1
      · have e1 : ((x : Int) == 1) = true := by rw [beq_iff_eq]; omega
        clear x0 x1
        go_wp2_with fail
        go_at_call 54
        refine (l2Some_any B a len cap zs (p + 1) _ (fun t => nodes t ≤ 40) (fun t h => by have := nodes_shp 5 t h; have e : (2 : Nat) ^ 5 = 32 := (by decide); omega) 100 (Nat.le_refl _) HQ2.out.rd (by omega)).mono ?_
        rintro e w4 ⟨ts, vs, r4, hns, hr4, rfl, hts, hd4, hrd4⟩
        have HNS := Lib.hid hns
        have HTS := Lib.hid hts.at
        have HQ4 := Lib.hid (HQ2.out.step hd4 hrd4)
        obtain ⟨as_, cs_, rfl, _⟩ := hts.at.slice
        have hw4 : w2.heap.size ≤ w4.heap.size := hd4.size
        clear hts hd4 hrd4 hns
        go_wp2_with fail
        go_at_call 53
        refine (l2Mutate_any ts _ B a len cap zs _ _ (fun t => nodes t ≤ 80) (fun t h => by have := HNS.out; omega) 2 (Nat.le_refl _) (by have := HNS.out; omega) HTS.out HQ4.out.rd (by omega)).mono ?_
        rintro e w5 ⟨tm, vm, r5, hnm, hr5, rfl, htm, hd5, hrd5⟩
        have HNM := Lib.hid hnm
        have HQ5 := Lib.hid (HQ4.out.step hd5 hrd5)
        have HTM := Lib.hid (htm.lowE (lo := w.heap.size) (E := g) (by have := HQ4.out.dw.size; exact this) (by omega))
        obtain ⟨am, cm, rfl, _⟩ := htm.ok.at.slice
        have HO5 : Hid (w5.ownsRow S 34 4 (.slice (some ⟨g, 0, none⟩) j c) j (quads L)) := Lib.hid (by rw [← HJL.out]; exact HQ5.out.kr.own)
        have hz5 : S ≤ w5.heap.size := by have := HQ5.out.h3; omega
        clear htm hd5 hrd5 hnm
        go_wp2_with (first | (at_builtin; refine wpList_append_lies _ rfl _ _ 23 rfl S 34 i0 _ 4 56 Try.underlying23 hi0 hz0 hz1 hz2 rfl (by omega) (.slice (some ⟨g, 0, none⟩) j c) j (quads L) rfl (HO5.out.alloc _) ⟨w5.heap.size, 0, none⟩ 1 1 [.string ⟨#[122]⟩, .int .i64 tm.k, .int .i64 tm.n, .slice am tm.ks.length cm] rfl rfl (World.news_of_block (cs := #[.string ⟨#[122]⟩, .int .i64 tm.k, .int .i64 tm.n, .slice am tm.ks.length cm]) (t := 34) (fr := (0, 0)) (heap_alloc_new w5 _)) (by simp [Value.oneCell']) (by omega) (by unfold maxLen; omega) (by omega) (by simp; omega) (w5.heap.size + 1) (by simp) ?_; intro g6 cap6 w6 hown6 hgrow6 hat6 hlt6))
        have HQ6 := Lib.hid (HQ5.out.push (x := (⟨⟨#[122]⟩, tm⟩, .slice am tm.ks.length cm)) (g6 := g6) (c6 := cap6) HTM.out ⟨(by show 1 ≤ 100; omega), by have := HNM.out; show nodes tm ≤ 100000; omega⟩ (by rw [HJL.out]; exact hown6) hgrow6 (hat6.imp id (fun h => by omega)))
        clear hown6 hgrow6 hat6 hlt6
        go_ret
        exact ⟨L ++ [(⟨⟨#[122]⟩, tm⟩, .slice am tm.ks.length cm)], S, g6, cap6, 1 + r4 + r5, by omega, by rw [List.length_append, HJL.out]; simp; omega, by rw [List.length_append, HJL.out]; rfl, by have h := HQ6.out; rw [show p + 1 + r4 + r5 = p + (1 + r4 + r5) by omega] at h; exact h⟩
      have e1 : ((x : Int) == 1) = false := by rw [beq_eq_false_iff_ne]; omega
      by_cases x2 : x = 2
      · have e2 : ((x : Int) == 2) = true := by rw [beq_iff_eq]; omega
        clear x0 x1 x2
        have HJ0 := Lib.hid (And.intro HQ2 (And.intro HJL HO2))
        go_wp2_with fail
        go_loopw [5] (fun cv wr3 => ∃ (m : Nat) (L : List KV2) (g c : Nat), m ≤ 61 ∧ L.length = m ∧ cv = .slice (some ⟨g, 0, none⟩) m c ∧ Hid (QK w B a len cap zs (p + 1) S g c L wr3)) (fun cv _ => 61 - lenN cv)
        case atStart => exact ⟨j, L, g, c, by omega, HJL.out, rfl, HQ2⟩
        case round =>
          clear HQ2 HO2 HJL hq HJ0
          obtain ⟨m, L, g, c, hm, hml, rfl, hq3⟩ := hrel
          have HJL := Lib.hid hml
          clear hml
          by_cases hm60 : m ≤ 60
          · have hmi : (m : Int) ≤ 60 := by omega
            go_wp2_with fail
            go_at_call 52
            refine (l2Num_flat _).mono ?_
            rintro e w4 ⟨an, cn, rfl, hb4⟩
            have HQ4 := Lib.hid (hq3.out.below hb4)
            have HO4 : Hid (w4.ownsRow S 34 4 (.slice (some ⟨g, 0, none⟩) m c) m (quads L)) := Lib.hid (by rw [← HJL.out]; exact HQ4.out.kr.own)
            have hz4 : S ≤ w4.heap.size := by have := HQ4.out.h3; omega
            clear hb4
            go_wp2_with (first | (at_builtin; refine wpList_append_lies _ rfl _ _ 23 rfl S 34 i0 _ 4 56 Try.underlying23 hi0 hz0 hz1 hz2 rfl (by omega) (.slice (some ⟨g, 0, none⟩) m c) m (quads L) rfl (HO4.out.alloc _) ⟨w4.heap.size, 0, none⟩ 1 1 [.string ⟨#[122]⟩, .int .i64 1, .int .i64 0, .slice an 0 cn] rfl rfl (World.news_of_block (cs := #[.string ⟨#[122]⟩, .int .i64 1, .int .i64 0, .slice an 0 cn]) (t := 34) (fr := (0, 0)) (heap_alloc_new w4 _)) (by simp [Value.oneCell']) (by omega) (by unfold maxLen; omega) (by omega) (by simp; omega) (w4.heap.size + 1) (by simp) ?_; intro g6 cap6 w5 hown6 hgrow6 hat6 hlt6))
            have HQ5 := Lib.hid (HQ4.out.push (x := (⟨⟨#[122]⟩, .node 1 0 []⟩, .slice an 0 cn)) (g6 := g6) (c6 := cap6) (.bare _ _ _ _) ⟨(by show 1 ≤ 100; omega), by simp [nodes, nodesL]⟩ (by rw [HJL.out]; exact hown6) hgrow6 (hat6.imp id (fun h => by omega)))
            clear hown6 hgrow6 hat6 hlt6
            go_roundw
            case rel => exact ⟨m + 1, L ++ [(⟨⟨#[122]⟩, .node 1 0 []⟩, .slice an 0 cn)], g6, cap6, by omega, by simp [HJL.out], rfl, HQ5⟩
            case measure => simp [lenN] <;> omega
          · have hmi : ¬ (m : Int) ≤ 60 := by omega
            go_wp2_with fail
            go_ret
            exact ⟨L, S, g, c, 1, by omega, by rw [HJL.out]; exact hm, by rw [HJL.out]; rfl, hq3.out⟩
      have e2 : ((x : Int) == 2) = false := by rw [beq_eq_false_iff_ne]; omega
      clear x0 x1 x2
      go_wp2_with fail
      go_ret
      exact ⟨L, S, g, c, 1, by omega, by rw [HJL.out]; omega, by rw [HJL.out]; rfl, HQ2.out⟩

/-- What the draw of LookupName's arguments returns. -/
def LkPost (w : World) (e : Ending) (w' : World) : Prop := ∃ (L : List KV2) (B0 lo g c : Nat) (s : ByteArray), L.length ≤ 61 ∧ s.size ≤ 100 ∧ e = .returned (.tuple #[.slice (some ⟨g, 0, none⟩) L.length c, .string s]) ∧ KR w' B0 lo g c L ∧ Below w.heap.size w w'
set_option maxRecDepth 100000 in
set_option maxHeartbeats 8000000 in
theorem drawLookupName_any (a : Option Addr) (len cap : Nat) (zs : List Int) (w : World) (h : IsRow w a len cap zs) :
    Calls Try.prog 6 #[.slice a len cap] w (LkPost w) := by
  have H := Lib.hid h
  clear h
  go_enter Try.func6, Try.ntmps6
  go_wp2_with fail
  go_at_call 24
  refine (l16Open_any a len cap zs _ H.out).mono ?_
  rintro e w1 ⟨ln, cp, rfl, hr, hb⟩
  obtain ⟨B, hB⟩ : ∃ B, w.heap.size = B := ⟨_, rfl⟩
  rw [hB] at hr ⊢
  have HRD1 := Lib.hid hr
  have HB1 : Hid (Below B w w1) := Lib.hid (by rw [← hB]; exact hb)
  have HBB := Lib.hid hB
  clear hr hb hB
  go_wp2_with fail
  go_at_call 26
  refine (l4Draw_any B a ln cp zs 0 _ HRD1.out (by omega)).mono ?_
  rintro e w2 ⟨Le, E0, ge, ce, r2, hr2, hl2, rfl, hq2⟩
  have HQ2 := Lib.hid hq2
  have hB1 : B < w1.heap.size := hq2.h1
  have hE0 : w1.heap.size ≤ E0 := hq2.h2
  have hge := hq2.kr.low
  have hz2 := hq2.h3
  clear hq2
  go_wp2_with fail
  go_at_call 25
  refine (l4Mutate_any B a ln cp zs (0 + r2) _ HQ2.out.rd (by omega) HQ2.out.kr hB1 (by omega) (by omega)).mono ?_
  rintro e w3 ⟨L, B0, g, c, r3, hr3, hl3, rfl, hq3⟩
  have HQ3 := Lib.hid hq3
  have hg3 := hq3.kr.low
  have hz3 := hq3.h3
  have hB2 := hq3.h2
  have hB3 := hq3.h1
  clear hq3
  go_wp2_with fail
  go_at_call 27
  refine (of_any B a ln cp zs (0 + r2 + r3) _ (HQ3.out.rd.alloc _) (by omega) _ 6 6 100 (by omega) (by omega) (by omega) (strRow_new _ _ _ 6 100 rfl (by decide +kernel))).mono ?_
  rintro e w4 ⟨s, hs, rfl, k4, hk4⟩
  have HQ4 := Lib.hid ((HQ3.out.alloc _).pick hk4)
  have HBL : Hid (Below B w w4) := Lib.hid (by
    have d1 := HQ2.out.dw
    have d2 := HQ4.out.dw
    exact HB1.out.trans ((d1.below (Nat.le_refl _) (by omega)).trans (d2.below (Nat.le_refl _) (by omega))))
  have HSN := Lib.hid hs
  clear hk4 hs
  go_wp2_with fail
  refine bodyPost_ret (v := .tuple #[.slice (some ⟨g, 0, none⟩) L.length c, .string s]) (by simp [results, Try.results6, go_sem]) rfl ⟨L, B0, w2.heap.size, g, c, s, hl3, HSN.out, rfl, HQ4.out.kr, by rw [HBB.out]; exact HBL.out⟩

end Go.Proofs.Ytlgbkhkmfgdehaa

