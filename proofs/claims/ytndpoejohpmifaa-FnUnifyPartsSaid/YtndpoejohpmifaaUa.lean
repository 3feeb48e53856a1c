/-
  The reader of drawn bytes (l16Rd) in memory, and what 'pick' returns: a number from 0 to n - 1, whatever the bytes; only the reader's counter changes.
  Conditions: at most 2000 bytes, n from 1 to 1000000, fewer than 1000000 picks before.
-/
import Derived.Test.YtndpoejohpmifaaProg
import Derived.Test.YtndpoejohpmifaaTa
import Derived.Deep.QuietTactic
import Derived.BigQuiet
import Derived.IntWalk
namespace Go.Proofs.Ytndpoejohpmifaa
open Go.RowKit

/-- A reader at block B: its bytes (a slice that came in), its counter. -/
structure Rd (w : World) (B : Nat) (a : Option Addr) (len cap : Nat) (zs : List Int) (p : Nat) : Prop where
  c0 : w.cell? ⟨B, 0, none⟩ = some (.slice a len cap)
  c1 : w.cell? ⟨B, 1, none⟩ = some (.int .i64 p)
  fz : w.frozen? ⟨B, 1, none⟩ = false
  row : len = 0 ∨ ∃ cb co, a = some ⟨cb, co, none⟩ ∧ cb < B ∧ ∀ i, i < len → w.cell? ⟨cb, co + i, none⟩ = some (.int .u8 (zs.getD i 0))
  small : ∀ i, 0 ≤ zs.getD i 0 ∧ zs.getD i 0 ≤ 255
  short : len ≤ 2000
  big : B < w.heap.size

theorem bits_xor_i64_nat (a b : Nat) (ha : a < 4611686018427387904) (hb : b < 4611686018427387904) :
    bits .xor .i64 (a : Int) (b : Int) = ((a ^^^ b : Nat) : Int) := by
  have hx : a ^^^ b < 2 ^ 62 := Nat.xor_lt_two_pow (by omega) (by omega)
  have h1 : (BitVec.ofInt 64 (a : Int)).toNat = a := by
    rw [BitVec.ofInt_natCast, BitVec.toNat_ofNat]; exact Nat.mod_eq_of_lt (by omega)
  have h2 : (BitVec.ofInt 64 (b : Int)).toNat = b := by
    rw [BitVec.ofInt_natCast, BitVec.toNat_ofNat]; exact Nat.mod_eq_of_lt (by omega)
  show IntKind.i64.wrap ((BitVec.ofInt 64 (a : Int) ^^^ BitVec.ofInt 64 (b : Int)).toNat : Int) = _
  rw [BitVec.toNat_xor, h1, h2]
  exact IntWalk.i64_in _ (by omega)

theorem xor_mod (X : Nat) (n : Int) (hX : X ≤ 1000000000) (hn : 1 ≤ n) : 0 ≤ (bits .xor .i64 (X : Int) ((X : Int) / 64)).tmod n ∧ (bits .xor .i64 (X : Int) ((X : Int) / 64)).tmod n < n := by
  have e : ((X : Int) / 64) = ((X / 64 : Nat) : Int) := by omega
  rw [e, bits_xor_i64_nat _ _ (by omega) (by omega), Int.tmod_eq_emod_of_nonneg (by omega)]
  exact ⟨Int.emod_nonneg _ (by omega), Int.emod_lt_of_pos _ (by omega)⟩

/-- What 'pick' leaves. -/
def PickPost (w : World) (B p : Nat) (n : Int) (e : Ending) (w' : World) : Prop :=
  ∃ x : Nat, (x : Int) < n ∧ e = .returned (.int .i64 x) ∧ ∃ k, w' = (w.setCell ⟨B, 1, none⟩ (.int .i64 ((p : Int) + 1))).drewN k
theorem pickPost_mk {w : World} {B p : Nat} {n y : Int} {w' : World} (h0 : 0 ≤ y) (h1 : y < n) (k : Nat) (hw : w' = (w.setCell ⟨B, 1, none⟩ (.int .i64 ((p : Int) + 1))).drewN k) : PickPost w B p n (.returned (.int .i64 y)) w' :=
  ⟨y.toNat, by omega, by rw [Int.toNat_of_nonneg h0], k, hw⟩

set_option maxRecDepth 100000 in
set_option maxHeartbeats 1000000 in
theorem pick_any (B : Nat) (a : Option Addr) (len cap : Nat) (zs : List Int) (p : Nat) (n : Int) (w : World) (hr : Rd w B a len cap zs p) (hp : p ≤ 1000000) (hn0 : 1 ≤ n) (hn : n ≤ 1000000) :
    Calls Try.prog 80 #[.pointer (some ⟨B, 0, none⟩), .int .i64 n] w (PickPost w B p n) := by
  obtain ⟨c0, c1, fz, row, small, short, big⟩ := hr
  by_cases h0 : len = 0
  · subst h0
    clear row small
    go_enter Try.func80, Try.ntmps80
    go_wp2
    go_ret
    exact pickPost_mk (Int.le_refl 0) (by omega) 0 rfl
  · obtain ⟨cb, co, rfl, hcb, hcells⟩ : ∃ cb co, a = some ⟨cb, co, none⟩ ∧ cb < B ∧ ∀ i, i < len → w.cell? ⟨cb, co + i, none⟩ = some (.int .u8 (zs.getD i 0)) := by
      rcases row with h | h
      · exact absurd h h0
      · exact h
    have n1 : ¬ cb = B := by omega
    have n2 : ¬ B = cb := by omega
    have l0 : ((len : Int) == 0) = false := by simp; omega
    have l1 : (0 : Int) < len := by omega
    clear row
    by_cases hk : p < len
    · obtain ⟨z, hz⟩ : ∃ z, zs.getD p 0 = z := ⟨_, rfl⟩
      have cz := hcells p hk
      have sz := small p
      rw [hz] at cz sz
      obtain ⟨z0, z1⟩ := sz
      have hk' : (p : Int) < len := by omega
      have HM : Hid (0 ≤ z % n ∧ z % n < n) := Lib.hid ⟨Int.emod_nonneg _ (by omega), Int.emod_lt_of_pos _ (by omega)⟩
      clear hz hcells small
      go_enter Try.func80, Try.ntmps80
      go_wp2
      go_ret
      exact pickPost_mk HM.out.1 HM.out.2 0 rfl
    · obtain ⟨m1, hm1⟩ : ∃ m, p % len = m := ⟨_, rfl⟩
      obtain ⟨m2, hm2⟩ : ∃ m, (p * 7 + 3) % len = m := ⟨_, rfl⟩
      obtain ⟨d, hd⟩ : ∃ d, p / len = d := ⟨_, rfl⟩
      have b1 : m1 < len := by rw [← hm1]; exact Nat.mod_lt _ (by omega)
      have b2 : m2 < len := by rw [← hm2]; exact Nat.mod_lt _ (by omega)
      have b3 : d ≤ p := by rw [← hd]; exact Nat.div_le_self _ _
      obtain ⟨z1, hz1⟩ : ∃ z, zs.getD m1 0 = z := ⟨_, rfl⟩
      obtain ⟨z2, hz2⟩ : ∃ z, zs.getD m2 0 = z := ⟨_, rfl⟩
      have cz1 := hcells m1 b1
      have cz2 := hcells m2 b2
      have s1 := small m1
      have s2 := small m2
      rw [hz1] at cz1 s1
      rw [hz2] at cz2 s2
      have f1 : ((p : Int)).tmod (len : Int) = (m1 : Int) := by rw [Int.tmod_eq_emod_of_nonneg (by omega), ← hm1]; exact (Int.natCast_emod _ _).symm
      have f1' : (p : Int) % (len : Int) = (m1 : Int) := by rw [← hm1]; exact (Int.natCast_emod _ _).symm
      have f2 : ((p : Int) * 7 + 3).tmod (len : Int) = (m2 : Int) := by rw [Int.tmod_eq_emod_of_nonneg (by omega), ← hm2]; push_cast; rfl
      have f2' : ((p : Int) * 7 + 3) % (len : Int) = (m2 : Int) := by rw [← hm2]; push_cast; rfl
      have f3 : ((p : Int)).tdiv (len : Int) = (d : Int) := by rw [Int.tdiv_eq_ediv_of_nonneg (by omega), ← hd]; exact (Int.natCast_ediv _ _).symm
      have f3' : (p : Int) / (len : Int) = (d : Int) := by rw [← hd]; exact (Int.natCast_ediv _ _).symm
      have b1' : (m1 : Int) < (len : Int) := by omega
      have b2' : (m2 : Int) < (len : Int) := by omega
      have hkn : ¬ (p : Int) < len := by omega
      obtain ⟨s10, s11⟩ := s1
      obtain ⟨s20, s21⟩ := s2
      have w1 : IntKind.i64.wrap ((p : Int) * 7) = (p : Int) * 7 := IntWalk.i64_in _ (by omega)
      have w2 : IntKind.i64.wrap ((p : Int) * 7 + 3) = (p : Int) * 7 + 3 := IntWalk.i64_in _ (by omega)
      have w3 : IntKind.i64.wrap (z1 * 131) = z1 * 131 := IntWalk.i64_in _ (by omega)
      have w4 : IntKind.i64.wrap (z2 * 1117) = z2 * 1117 := IntWalk.i64_in _ (by omega)
      have w5 : IntKind.i64.wrap (z1 * 131 + z2 * 1117) = z1 * 131 + z2 * 1117 := IntWalk.i64_in _ (by omega)
      have w6 : IntKind.i64.wrap ((p : Int) * 29) = (p : Int) * 29 := IntWalk.i64_in _ (by omega)
      have w7 : IntKind.i64.wrap (z1 * 131 + z2 * 1117 + (p : Int) * 29) = z1 * 131 + z2 * 1117 + (p : Int) * 29 := IntWalk.i64_in _ (by omega)
      have w8 : IntKind.i64.wrap ((d : Int) * 53) = (d : Int) * 53 := IntWalk.i64_in _ (by omega)
      have w9 : IntKind.i64.wrap (z1 * 131 + z2 * 1117 + (p : Int) * 29 + (d : Int) * 53) = z1 * 131 + z2 * 1117 + (p : Int) * 29 + (d : Int) * 53 := IntWalk.i64_in _ (by omega)
      obtain ⟨X, hX⟩ : ∃ X : Nat, z1 * 131 + z2 * 1117 + (p : Int) * 29 + (d : Int) * 53 = (X : Int) := ⟨(z1 * 131 + z2 * 1117 + (p : Int) * 29 + (d : Int) * 53).toNat, by omega⟩
      have bX : X ≤ 1000000000 := by omega
      clear hz1 hz2 hm1 hm2 hd hcells small hk
      go_enter Try.func80, Try.ntmps80
      go_wp2_with fail
      go_quiet (fail)
      clear w1 w2 w3 w4 w5 w6 w7 w8 w9 f1 f1' f2 f2' f3 f3'
      go_wp2
      go_ret
      exact pickPost_mk (xor_mod X n bX hn0).1 (xor_mod X n bX hn0).2 nq rfl

/-- Behind a pick the reader is as it was, but for its counter. -/
theorem Rd.picked {w w' : World} {B : Nat} {a : Option Addr} {len cap : Nat} {zs : List Int} {p k : Nat} (hr : Rd w B a len cap zs p) (hw : w' = (w.setCell ⟨B, 1, none⟩ (.int .i64 ((p : Int) + 1))).drewN k) : Rd w' B a len cap zs (p + 1) := by
  subst hw
  obtain ⟨c0, c1, fz, row, small, short, big⟩ := hr
  refine ⟨?_, ?_, ?_, ?_, small, short, ?_⟩
  · go_simp
  · go_simp
  · go_simp
  · rcases row with h | ⟨cb, co, rfl, h1, h2⟩
    · exact .inl h
    · refine .inr ⟨cb, co, rfl, h1, fun i hi => ?_⟩
      have n1 : ¬ cb = B := by omega
      have n2 : ¬ B = cb := by omega
      have := h2 i hi
      go_simp
  · simpa using big

end Go.Proofs.Ytndpoejohpmifaa
