/-
unify of the program's graph: two nodes become one class.
freshNames of the program at nodes: the generator of XAk, its keys nodes.
-/
import Derived.Test.YtjhccdioainibaaW18
import Derived.Test.YtjhccdioainibaaW12
namespace Go.Proofs.Ytjhccdioainibaa.Mx
open Go.Proofs.Ytjhccdioainibaa
open Go.RowKit
set_option linter.unusedVariables false
set_option linter.unusedSimpArgs false

@[go_sem] theorem as_n_n (v : Value) (w : World) : (Instr.typeAssert (.iface 101 v) 109 101 true).run Try.prog w = .ok (.tuple #[v, .bool true]) w := by kernel_rfl
@[go_sem] theorem as_n_v (v : Value) (w : World) : (Instr.typeAssert (.iface 101 v) 109 103 true).run Try.prog w = .ok (.tuple #[.agg #[], .bool false]) w := by kernel_rfl
@[go_sem] theorem as_n_j (v : Value) (w : World) : (Instr.typeAssert (.iface 101 v) 109 105 true).run Try.prog w = .ok (.tuple #[.agg #[.int .i64 0, .int .i64 0, .int .i64 0], .bool false]) w := by kernel_rfl
@[go_sem] theorem as_v_n (v : Value) (w : World) : (Instr.typeAssert (.iface 103 v) 109 101 true).run Try.prog w = .ok (.tuple #[.agg #[], .bool false]) w := by kernel_rfl
@[go_sem] theorem as_v_v (v : Value) (w : World) : (Instr.typeAssert (.iface 103 v) 109 103 true).run Try.prog w = .ok (.tuple #[v, .bool true]) w := by kernel_rfl
@[go_sem] theorem as_v_j (v : Value) (w : World) : (Instr.typeAssert (.iface 103 v) 109 105 true).run Try.prog w = .ok (.tuple #[.agg #[.int .i64 0, .int .i64 0, .int .i64 0], .bool false]) w := by kernel_rfl
@[go_sem] theorem as_j_n (v : Value) (w : World) : (Instr.typeAssert (.iface 105 v) 109 101 true).run Try.prog w = .ok (.tuple #[.agg #[], .bool false]) w := by kernel_rfl
@[go_sem] theorem as_j_v (v : Value) (w : World) : (Instr.typeAssert (.iface 105 v) 109 103 true).run Try.prog w = .ok (.tuple #[.agg #[], .bool false]) w := by kernel_rfl
@[go_sem] theorem as_j_j (v : Value) (w : World) : (Instr.typeAssert (.iface 105 v) 109 105 true).run Try.prog w = .ok (.tuple #[v, .bool true]) w := by kernel_rfl
theorem GM.row {w : World} {n0 gb am vb M : Nat} {sh : Nat → Sh} {rep dp : Nat → Nat} {vm : Int → Option Nat} {sv : Value} {MA MV : List IV} (hg : GM w n0 gb am vb M sh rep dp vm sv MA MV) (hM : 0 < M) : ∃ g cap, sv = .slice (some ⟨g, 0, none⟩) M cap := by
  obtain ⟨_, ⟨_, h⟩ | ⟨g, cap, cur, h, _⟩⟩ := hg.own
  · omega
  · exact ⟨g, cap, h⟩
theorem GM.at {w : World} {n0 gb am vb M g cap : Nat} {sh : Nat → Sh} {rep dp : Nat → Nat} {vm : Int → Option Nat} {MA MV : List IV} (hg : GM w n0 gb am vb M sh rep dp vm (.slice (some ⟨g, 0, none⟩) M cap) MA MV) {n : Nat} (hn : n < M) : w.cell? ⟨g, n, none⟩ = some (shV (sh n)) := by
  rw [World.ownsRow.cellAt hg.own n (by omega)]
  exact shL_get sh M n hn
/-- What unify leaves. -/
def UfPost (n0 gb am vb M : Nat) (sh : Nat → Sh) (rep : Nat → Nat) (vm : Int → Option Nat) (sv : Value) (MV : List IV) (a b : Nat) (w : World) (e : Ending) (w' : World) : Prop :=
  ∃ (r : Bool) (rep' dp' : Nat → Nat) (MA' : List IV), e = .returned (.bool r) ∧ GM w' n0 gb am vb M sh rep' dp' vm sv MA' MV ∧ Inside am (am + 1) w w' ∧ GUni M sh rep rep' a b r
theorem guni_eq {M : Nat} {sh : Nat → Sh} {rep : Nat → Nat} (h : GOk M sh rep) {a b : Nat} (ha : a < M) (hb : b < M) (e : rep a = rep b) : GUni M sh rep rep a b true :=
  GUni.lead ha hb (by rw [e]; exact guni_same h (rep b))

set_option maxRecDepth 100000 in
set_option maxHeartbeats 8000000 in
theorem unify_any (n0 gb am vb M : Nat) (sh : Nat → Sh) (vm : Int → Option Nat) (sv : Value) (MV : List IV) (hMM : M ≤ 1000000) : ∀ (c a b : Nat) (rep dp : Nat → Nat) (MA : List IV) (w : World), cls M rep < c → a < M → b < M → GOk M sh rep → GM w n0 gb am vb M sh rep dp vm sv MA MV →
    Calls Try.prog 31 #[.pointer (some ⟨gb, 0, none⟩), .int .i64 (a : Int), .int .i64 (b : Int)] w (UfPost n0 gb am vb M sh rep vm sv MV a b w) := by
  intro c
  induction c with
  | zero => intro a b rep dp MA w h; omega
  | succ c ih =>
    intro a b rep dp MA w hc ha hb hok hg
    obtain ⟨g, cap, rfl⟩ := hg.row (by omega)
    have HIH := Lib.hid ih
    have HG := Lib.hid hg
    have HOK := Lib.hid hok
    have HC := Lib.hid hc
    obtain ⟨S, hS⟩ : ∃ S, w.heap.size = S := ⟨_, rfl⟩
    have hgS : gb < S := by rw [← hS]; exact hg.gl
    have hrS : g < S := by rw [← hS]; exact (own_low hg.own rfl).2
    have hgam : gb ≠ am := fun e => hg.d1.1 e.symm
    have hram : g ≠ am := (hg.d2 g rfl).2.1
    have c1 := hg.c1
    have hla : rep a < M := hok.lt a ha
    have hlb : rep b < M := hok.lt b hb
    have HA := Lib.hid ha
    have HBB := Lib.hid hb
    have hI0 : Hid (Inside am (am + 1) w w) := Lib.hid (in_below (Below.refl _ _))
    have HS := Lib.hid hS
    obtain ⟨ra, hra⟩ : ∃ ra, rep a = ra := ⟨_, rfl⟩
    obtain ⟨rb, hrb⟩ : ∃ rb, rep b = rb := ⟨_, rfl⟩
    have HRA := Lib.hid hra
    have HRB := Lib.hid hrb
    have hraa : rep ra = ra := by rw [← hra]; exact hok.idem a ha
    have hrbb : rep rb = rb := by rw [← hrb]; exact hok.idem b hb
    have HRAA := Lib.hid hraa
    have HRBB := Lib.hid hrbb
    rw [hra] at hla
    rw [hrb] at hlb
    have hla0 : (0 : Int) ≤ (ra : Int) := by omega
    have hlb0 : (0 : Int) ≤ (rb : Int) := by omega
    have hla1 : (ra : Int) < (M : Int) := by omega
    have hlb1 : (rb : Int) < (M : Int) := by omega
    have toA : ((ra : Int)).toNat = ra := by omega
    have toB : ((rb : Int)).toNat = rb := by omega
    clear ih hc hok hg ha hb hS hra hrb hraa hrbb
    rcases hsb : sh rb with _ | _ | ⟨k2, l2, r2⟩
    · -- a number
      go_enter Try.func31, Try.ntmps31
      go_wp2_with fail
      go_region_held3 (fun w' => w'.cell? ⟨gb, 1, none⟩ = some (.map (some am))) (go_keep)
        (first
          | (go_at_call 62; have hgd := HG2; clear hgd; refine (leaderN_any am M2 rep dp b _ (by first | exact HG2.out.ma | exact HG2.out.ma.kept (Below.refl _ _).drew) HG2.out.un).mono ?_; rintro e w3 ⟨rfl, hin3, M3, hm3, hf3⟩; rw [HRB.out]; have hin3' : Inside am (am + 1) w2 w3 := (in_below (lo := am) (hi := am + 1) (w := w2) (by first | exact Below.refl _ _ | exact (Below.refl _ _).drew)).trans hin3; have HG3 := Lib.hid (HG2.out.classes hin3' hm3 hf3); have HI3 := Lib.hid (HI2.out.trans hin3'); have c3 := HG3.out.c1; clear hin3 hin3' hm3 hf3)
          | (go_at_call 62; refine (leaderN_any am MA rep dp a _ (by first | exact HG.out.ma | exact HG.out.ma.kept (Below.refl _ _).drew) HG.out.un).mono ?_; rintro e w2 ⟨rfl, hin2, M2, hm2, hf2⟩; rw [HRA.out]; have hin2' : Inside am (am + 1) w w2 := (in_below (lo := am) (hi := am + 1) (w := w) (by first | exact Below.refl _ _ | exact (Below.refl _ _).drew)).trans hin2; have HG2 := Lib.hid (HG.out.classes hin2' hm2 hf2); have HI2 := Lib.hid hin2'; have c2 := HG2.out.c1; clear hin2 hin2' hm2 hf2))
      obtain ⟨W4, hW4⟩ : ∃ W, w3.alloc (.cells #[] 103) = W := ⟨_, rfl⟩
      have hB4 : Below w3.heap.size w3 W4 := by rw [← hW4]; exact (Below.refl _ _).alloc (Nat.le_refl _) _
      have HG4 := Lib.hid (HG3.out.kept hB4)
      have HI4 := Lib.hid (HI3.out.trans (in_below hB4))
      have k0 := HG3.out.c0
      have ka := HG3.out.at hla
      have kb := HG3.out.at hlb
      have l1 := HG4.out.c1
      clear hB4 c1 c2 c3
      rw [hsb] at kb; unfold shV at kb
      go_wp2_with fail
      go_at_call 63
      refine (joinN_any am M3 rep dp ra rb _ HG4.out.ma HG4.out.un).mono ?_
      rintro e w5 ⟨hin5, (⟨heq, rfl, M5, hm5, hf5⟩ | ⟨hne, rfl, M5, dp5, hm5, hf5⟩)⟩
      · rw [HRAA.out, HRBB.out] at heq
        have HG5 := Lib.hid (HG4.out.classes hin5 hm5 hf5)
        have HI5 := Lib.hid (HI4.out.trans hin5)
        have HQ : Hid (rep a = rep b) := Lib.hid (by rw [HRA.out, HRB.out]; exact heq)
        clear hin5 hm5 hf5 heq
        go_wp2_with fail
        go_ret
        exact ⟨true, rep, dp, M5, rfl, HG5.out, HI5.out, guni_eq HOK.out HA.out HBB.out HQ.out⟩
      · rw [HRAA.out, HRBB.out] at hne
        rw [HRAA.out, HRBB.out] at hf5
        have HG5 := Lib.hid (HG4.out.classes hin5 hm5 hf5)
        have HI5 := Lib.hid (HI4.out.trans hin5)
        have HNE := Lib.hid hne
        have m0 := HG5.out.c0
        have ma := HG5.out.at hla
        have mb := HG5.out.at hlb
        clear hin5 hm5 hf5 hne k0 ka kb l1
        rw [hsb] at mb; unfold shV at mb
        rcases hsa : sh ra with _ | _ | ⟨k1, l1, r1⟩
        · rw [hsa] at ma; unfold shV at ma
          obtain ⟨W6, hW6⟩ : ∃ W, w5.alloc (.cells #[] 101) = W := ⟨_, rfl⟩
          have hB6 : Below w5.heap.size w5 W6 := by rw [← hW6]; exact (Below.refl _ _).alloc (Nat.le_refl _) _
          have HG6 := Lib.hid (HG5.out.kept hB6)
          have HI6 := Lib.hid (HI5.out.trans (in_below hB6))
          have n06 := HG6.out.c0
          have nb6 := HG6.out.at hlb
          rw [hsb] at nb6; unfold shV at nb6
          obtain ⟨W7, hW7⟩ : ∃ W, W6.alloc (.cells #[] 101) = W := ⟨_, rfl⟩
          have hB7 : Below W6.heap.size W6 W7 := by rw [← hW7]; exact (Below.refl _ _).alloc (Nat.le_refl _) _
          have HG7 := Lib.hid (HG6.out.kept hB7)
          have HI7 := Lib.hid (HI6.out.trans (in_below hB7))
          have n07 := HG7.out.c0
          have nb7 := HG7.out.at hlb
          go_wp2_with fail
          go_ret
          exact ⟨true, _, _, _, rfl, HG7.out, HI7.out, GUni.lead HA.out HBB.out (by rw [HRA.out, HRB.out]; exact guni_num HOK.out hla hlb HRAA.out HRBB.out HNE.out hsa hsb)⟩
        · rw [hsa] at ma; unfold shV at ma
          go_wp2_with fail
          go_ret
          exact ⟨true, _, _, _, rfl, HG5.out, HI5.out, GUni.lead HA.out HBB.out (by rw [HRA.out, HRB.out]; exact guni_var HOK.out hla hlb HRAA.out HRBB.out HNE.out hsa)⟩
        · rw [hsa] at ma; unfold shV at ma
          obtain ⟨W6, hW6⟩ : ∃ W, w5.alloc (.cells #[.int .i64 k1, .int .i64 (l1 : Int), .int .i64 (r1 : Int)] 105) = W := ⟨_, rfl⟩
          have hB6 : Below w5.heap.size w5 W6 := by rw [← hW6]; exact (Below.refl _ _).alloc (Nat.le_refl _) _
          have HG6 := Lib.hid (HG5.out.kept hB6)
          have HI6 := Lib.hid (HI5.out.trans (in_below hB6))
          have n06 := HG6.out.c0
          have nb6 := HG6.out.at hlb
          rw [hsb] at nb6; unfold shV at nb6
          obtain ⟨W7, hW7⟩ : ∃ W, W6.alloc (.cells #[.int .i64 0, .int .i64 0, .int .i64 0] 105) = W := ⟨_, rfl⟩
          have hB7 : Below W6.heap.size W6 W7 := by rw [← hW7]; exact (Below.refl _ _).alloc (Nat.le_refl _) _
          have HG7 := Lib.hid (HG6.out.kept hB7)
          have HI7 := Lib.hid (HI6.out.trans (in_below hB7))
          have n07 := HG7.out.c0
          have nb7 := HG7.out.at hlb
          have HW7 := Lib.hid hW7
          clear hW7
          go_wp2_with fail
          rw [HW7.out]
          go_ret
          exact ⟨false, _, _, _, rfl, HG7.out, HI7.out, GUni.lead HA.out HBB.out (by rw [HRA.out, HRB.out]; exact guni_clash HOK.out hla hlb HRAA.out HRBB.out HNE.out (by rw [hsa, hsb]; trivial))⟩
    · -- a variable
      go_enter Try.func31, Try.ntmps31
      go_wp2_with fail
      go_region_held3 (fun w' => w'.cell? ⟨gb, 1, none⟩ = some (.map (some am))) (go_keep)
        (first
          | (go_at_call 62; have hgd := HG2; clear hgd; refine (leaderN_any am M2 rep dp b _ (by first | exact HG2.out.ma | exact HG2.out.ma.kept (Below.refl _ _).drew) HG2.out.un).mono ?_; rintro e w3 ⟨rfl, hin3, M3, hm3, hf3⟩; rw [HRB.out]; have hin3' : Inside am (am + 1) w2 w3 := (in_below (lo := am) (hi := am + 1) (w := w2) (by first | exact Below.refl _ _ | exact (Below.refl _ _).drew)).trans hin3; have HG3 := Lib.hid (HG2.out.classes hin3' hm3 hf3); have HI3 := Lib.hid (HI2.out.trans hin3'); have c3 := HG3.out.c1; clear hin3 hin3' hm3 hf3)
          | (go_at_call 62; refine (leaderN_any am MA rep dp a _ (by first | exact HG.out.ma | exact HG.out.ma.kept (Below.refl _ _).drew) HG.out.un).mono ?_; rintro e w2 ⟨rfl, hin2, M2, hm2, hf2⟩; rw [HRA.out]; have hin2' : Inside am (am + 1) w w2 := (in_below (lo := am) (hi := am + 1) (w := w) (by first | exact Below.refl _ _ | exact (Below.refl _ _).drew)).trans hin2; have HG2 := Lib.hid (HG.out.classes hin2' hm2 hf2); have HI2 := Lib.hid hin2'; have c2 := HG2.out.c1; clear hin2 hin2' hm2 hf2))
      obtain ⟨W4, hW4⟩ : ∃ W, w3.alloc (.cells #[] 103) = W := ⟨_, rfl⟩
      have hB4 : Below w3.heap.size w3 W4 := by rw [← hW4]; exact (Below.refl _ _).alloc (Nat.le_refl _) _
      have HG4 := Lib.hid (HG3.out.kept hB4)
      have HI4 := Lib.hid (HI3.out.trans (in_below hB4))
      have k0 := HG3.out.c0
      have ka := HG3.out.at hla
      have kb := HG3.out.at hlb
      have l1 := HG4.out.c1
      clear hB4 c1 c2 c3
      rw [hsb] at kb; unfold shV at kb
      go_wp2_with fail
      go_at_call 63
      refine (joinN_any am M3 rep dp rb ra _ HG4.out.ma HG4.out.un).mono ?_
      rintro e w5 ⟨hin5, (⟨heq, rfl, M5, hm5, hf5⟩ | ⟨hne, rfl, M5, dp5, hm5, hf5⟩)⟩
      · rw [HRAA.out, HRBB.out] at heq
        have HG5 := Lib.hid (HG4.out.classes hin5 hm5 hf5)
        have HI5 := Lib.hid (HI4.out.trans hin5)
        have HQ : Hid (rep a = rep b) := Lib.hid (by rw [HRA.out, HRB.out]; exact heq.symm)
        clear hin5 hm5 hf5 heq
        go_wp2_with fail
        go_ret
        exact ⟨true, rep, dp, M5, rfl, HG5.out, HI5.out, guni_eq HOK.out HA.out HBB.out HQ.out⟩
      · rw [HRAA.out, HRBB.out] at hne
        rw [HRAA.out, HRBB.out] at hf5
        have HG5 := Lib.hid (HG4.out.classes hin5 hm5 hf5)
        have HI5 := Lib.hid (HI4.out.trans hin5)
        have HNE := Lib.hid hne
        have m0 := HG5.out.c0
        have ma := HG5.out.at hla
        have mb := HG5.out.at hlb
        clear hin5 hm5 hf5 hne k0 ka kb l1
        rw [hsb] at mb; unfold shV at mb
        go_wp2_with fail
        go_ret
        exact ⟨true, _, _, _, rfl, HG5.out, HI5.out, GUni.swap (GUni.lead HBB.out HA.out (by rw [HRA.out, HRB.out]; exact guni_var HOK.out hlb hla HRBB.out HRAA.out HNE.out hsb))⟩
    · -- a join
      go_enter Try.func31, Try.ntmps31
      go_wp2_with fail
      go_region_held3 (fun w' => w'.cell? ⟨gb, 1, none⟩ = some (.map (some am))) (go_keep)
        (first
          | (go_at_call 62; have hgd := HG2; clear hgd; refine (leaderN_any am M2 rep dp b _ (by first | exact HG2.out.ma | exact HG2.out.ma.kept (Below.refl _ _).drew) HG2.out.un).mono ?_; rintro e w3 ⟨rfl, hin3, M3, hm3, hf3⟩; rw [HRB.out]; have hin3' : Inside am (am + 1) w2 w3 := (in_below (lo := am) (hi := am + 1) (w := w2) (by first | exact Below.refl _ _ | exact (Below.refl _ _).drew)).trans hin3; have HG3 := Lib.hid (HG2.out.classes hin3' hm3 hf3); have HI3 := Lib.hid (HI2.out.trans hin3'); have c3 := HG3.out.c1; clear hin3 hin3' hm3 hf3)
          | (go_at_call 62; refine (leaderN_any am MA rep dp a _ (by first | exact HG.out.ma | exact HG.out.ma.kept (Below.refl _ _).drew) HG.out.un).mono ?_; rintro e w2 ⟨rfl, hin2, M2, hm2, hf2⟩; rw [HRA.out]; have hin2' : Inside am (am + 1) w w2 := (in_below (lo := am) (hi := am + 1) (w := w) (by first | exact Below.refl _ _ | exact (Below.refl _ _).drew)).trans hin2; have HG2 := Lib.hid (HG.out.classes hin2' hm2 hf2); have HI2 := Lib.hid hin2'; have c2 := HG2.out.c1; clear hin2 hin2' hm2 hf2))
      obtain ⟨W4, hW4⟩ : ∃ W, w3.alloc (.cells #[] 103) = W := ⟨_, rfl⟩
      have hB4 : Below w3.heap.size w3 W4 := by rw [← hW4]; exact (Below.refl _ _).alloc (Nat.le_refl _) _
      have HG4 := Lib.hid (HG3.out.kept hB4)
      have HI4 := Lib.hid (HI3.out.trans (in_below hB4))
      have k0 := HG3.out.c0
      have ka := HG3.out.at hla
      have kb := HG3.out.at hlb
      have l1 := HG4.out.c1
      clear hB4 c1 c2 c3
      rw [hsb] at kb; unfold shV at kb
      go_wp2_with fail
      go_at_call 63
      refine (joinN_any am M3 rep dp ra rb _ HG4.out.ma HG4.out.un).mono ?_
      rintro e w5 ⟨hin5, (⟨heq, rfl, M5, hm5, hf5⟩ | ⟨hne, rfl, M5, dp5, hm5, hf5⟩)⟩
      · rw [HRAA.out, HRBB.out] at heq
        have HG5 := Lib.hid (HG4.out.classes hin5 hm5 hf5)
        have HI5 := Lib.hid (HI4.out.trans hin5)
        have HQ : Hid (rep a = rep b) := Lib.hid (by rw [HRA.out, HRB.out]; exact heq)
        clear hin5 hm5 hf5 heq
        go_wp2_with fail
        go_ret
        exact ⟨true, rep, dp, M5, rfl, HG5.out, HI5.out, guni_eq HOK.out HA.out HBB.out HQ.out⟩
      · rw [HRAA.out, HRBB.out] at hne
        rw [HRAA.out, HRBB.out] at hf5
        have HG5 := Lib.hid (HG4.out.classes hin5 hm5 hf5)
        have HI5 := Lib.hid (HI4.out.trans hin5)
        have HNE := Lib.hid hne
        have m0 := HG5.out.c0
        have ma := HG5.out.at hla
        have mb := HG5.out.at hlb
        clear hin5 hm5 hf5 hne k0 ka kb l1
        rw [hsb] at mb; unfold shV at mb
        rcases hsa : sh ra with _ | _ | ⟨k1, l1, r1⟩
        · rw [hsa] at ma; unfold shV at ma
          obtain ⟨W6, hW6⟩ : ∃ W, w5.alloc (.cells #[] 101) = W := ⟨_, rfl⟩
          have hB6 : Below w5.heap.size w5 W6 := by rw [← hW6]; exact (Below.refl _ _).alloc (Nat.le_refl _) _
          have HG6 := Lib.hid (HG5.out.kept hB6)
          have HI6 := Lib.hid (HI5.out.trans (in_below hB6))
          have n06 := HG6.out.c0
          have nb6 := HG6.out.at hlb
          rw [hsb] at nb6; unfold shV at nb6
          obtain ⟨W7, hW7⟩ : ∃ W, W6.alloc (.cells #[] 101) = W := ⟨_, rfl⟩
          have hB7 : Below W6.heap.size W6 W7 := by rw [← hW7]; exact (Below.refl _ _).alloc (Nat.le_refl _) _
          have HG7 := Lib.hid (HG6.out.kept hB7)
          have HI7 := Lib.hid (HI6.out.trans (in_below hB7))
          have n07 := HG7.out.c0
          have nb7 := HG7.out.at hlb
          go_wp2_with fail
          go_ret
          exact ⟨false, _, _, _, rfl, HG7.out, HI7.out, GUni.lead HA.out HBB.out (by rw [HRA.out, HRB.out]; exact guni_clash HOK.out hla hlb HRAA.out HRBB.out HNE.out (by rw [hsa, hsb]; trivial))⟩
        · rw [hsa] at ma; unfold shV at ma
          go_wp2_with fail
          go_ret
          exact ⟨true, _, _, _, rfl, HG5.out, HI5.out, GUni.lead HA.out HBB.out (by rw [HRA.out, HRB.out]; exact guni_var HOK.out hla hlb HRAA.out HRBB.out HNE.out hsa)⟩
        · rw [hsa] at ma; unfold shV at ma
          obtain ⟨W6, hW6⟩ : ∃ W, w5.alloc (.cells #[.int .i64 k1, .int .i64 (l1 : Int), .int .i64 (r1 : Int)] 105) = W := ⟨_, rfl⟩
          have hB6 : Below w5.heap.size w5 W6 := by rw [← hW6]; exact (Below.refl _ _).alloc (Nat.le_refl _) _
          have HG6 := Lib.hid (HG5.out.kept hB6)
          have HI6 := Lib.hid (HI5.out.trans (in_below hB6))
          have n06 := HG6.out.c0
          have nb6 := HG6.out.at hlb
          rw [hsb] at nb6; unfold shV at nb6
          obtain ⟨W7, hW7⟩ : ∃ W, W6.alloc (.cells #[.int .i64 k2, .int .i64 (l2 : Int), .int .i64 (r2 : Int)] 105) = W := ⟨_, rfl⟩
          have hB7 : Below W6.heap.size W6 W7 := by rw [← hW7]; exact (Below.refl _ _).alloc (Nat.le_refl _) _
          have HG7 := Lib.hid (HG6.out.kept hB7)
          have HI7 := Lib.hid (HI6.out.trans (in_below hB7))
          have n07 := HG7.out.c0
          have nb7 := HG7.out.at hlb
          have hz5 : w5.heap.size < W6.heap.size := by rw [← hW6]; simp
          have hz6 : W6.heap.size < W7.heap.size := by rw [← hW7]; simp
          obtain ⟨T5, hT5⟩ : ∃ T, w5.heap.size = T := ⟨_, rfl⟩
          obtain ⟨T6, hT6⟩ : ∃ T, W6.heap.size = T := ⟨_, rfl⟩
          have hX5 : TBox W7 T5 (.int .i64 k1) (.int .i64 (l1 : Int)) (.int .i64 (r1 : Int)) := by
            rw [← hT5]
            have h := tbox_new w5 (.int .i64 k1) (.int .i64 (l1 : Int)) (.int .i64 (r1 : Int)) 105
            rw [hW6] at h
            exact h.kept hB7
          have hX6 : TBox W7 T6 (.int .i64 k2) (.int .i64 (l2 : Int)) (.int .i64 (r2 : Int)) := by
            rw [← hT6]
            have h := tbox_new W6 (.int .i64 k2) (.int .i64 (l2 : Int)) (.int .i64 (r2 : Int)) 105
            rw [hW7] at h
            exact h
          have HX5 := Lib.hid hX5
          have HX6 := Lib.hid hX6
          obtain ⟨p0, p1, p2, pz⟩ := hX5
          obtain ⟨q0, q1, q2, qz⟩ := hX6
          obtain ⟨kk1, kl1, kr1⟩ := HOK.out.kid ra k1 l1 r1 hla hsa
          obtain ⟨kk2, kl2, kr2⟩ := HOK.out.kid rb k2 l2 r2 hlb hsb
          have HKL1 := Lib.hid kl1
          have HKL2 := Lib.hid kl2
          have HKR1 := Lib.hid kr1
          have HKR2 := Lib.hid kr2
          have HSA := Lib.hid hsa
          have HSB := Lib.hid hsb
          have ham : am < T5 := by have := HG5.out.ma.lt; omega
          have ht56 : T5 < T6 := by omega
          have ht67 : T6 < W7.heap.size := by omega
          clear hB6 hB7 kl1 kl2 kr1 kr2 hsa hsb
          by_cases hk : k1 = k2
          · subst hk
            have hkb : (k1 == k1) = true := by simp
            go_wp2_with fail
            refine (HIH.out l1 l2 (repU rep ra rb) dp5 M5 W7 (by have := repU_cls hla HRAA.out HRBB.out HNE.out; have := HC.out; omega) HKL1.out HKL2.out (repU_ok HOK.out hla hlb HRBB.out HNE.out) HG7.out).mono ?_
            rintro e w8 ⟨r8, rep8, dp8, M8, rfl, hg8, hi8, hu8⟩
            have HG8 := Lib.hid hg8
            have HI8 := Lib.hid (HI7.out.trans hi8)
            have HU8 := Lib.hid hu8
            obtain ⟨p0', p1', p2', pz'⟩ := HX5.out.away hi8 (.inr (by omega))
            obtain ⟨q0', q1', q2', qz'⟩ := HX6.out.away hi8 (.inr (by omega))
            clear hg8 hi8 hu8 hW6 hW7
            rcases r8 with _ | _
            · go_wp2_with fail
              go_ret
              exact ⟨false, rep8, dp8, M8, rfl, HG8.out, HI8.out, GUni.lead HA.out HBB.out (by rw [HRA.out, HRB.out]; exact guni_join_no HOK.out hla hlb HRAA.out HRBB.out HNE.out HSA.out HSB.out HU8.out)⟩
            · go_wp2_with fail
              refine (HIH.out r1 r2 rep8 dp8 M8 w8 (by have := repU_cls hla HRAA.out HRBB.out HNE.out; have := HC.out; have := HU8.out.cl; omega) HKR1.out HKR2.out HU8.out.ok HG8.out).mono ?_
              rintro e w9 ⟨r9, rep9, dp9, M9, rfl, hg9, hi9, hu9⟩
              have HG9 := Lib.hid hg9
              have HI9 := Lib.hid (HI8.out.trans hi9)
              have HU9 := Lib.hid hu9
              clear hg9 hi9 hu9
              go_wp2_with fail
              go_ret
              exact ⟨r9, rep9, dp9, M9, rfl, HG9.out, HI9.out, GUni.lead HA.out HBB.out (by rw [HRA.out, HRB.out]; exact guni_join HOK.out hla hlb HRAA.out HRBB.out HNE.out HSA.out HSB.out HU8.out HU9.out)⟩
          · have hkb : (k1 == k2) = false := by rw [beq_eq_false_iff_ne]; exact hk
            have HKN := Lib.hid hk
            clear hk
            go_wp2_with fail
            go_ret
            exact ⟨false, _, _, _, rfl, HG7.out, HI7.out, GUni.lead HA.out HBB.out (by rw [HRA.out, HRB.out]; exact guni_clash HOK.out hla hlb HRAA.out HRBB.out HNE.out (by rw [HSA.out, HSB.out]; exact HKN.out))⟩

end Go.Proofs.Ytjhccdioainibaa.Mx

namespace Go.Proofs.Ytjhccdioainibaa.Nx
open Go.Proofs.Ytjhccdioainibaa
open Go.RowKit Go.Maps
set_option linter.unusedVariables false
set_option linter.unusedSimpArgs false

theorem lawN : Keyed Try.prog 55 := int_keyed Try.underlying55
/-- The map numbers the elements of st by their places. -/
structure MapIs (D : DataW Unit) (st : List Int) : Prop where
  tidy : Tidy D
  size : Maps.size D = st.length
  has : ∀ n, Maps.has D (kI n) = decide (n ∈ st)
  at' : ∀ (i : Nat) (n : Int), st[i]? = some n → D.atKey (kI n) (.lit (.int .i64 0)) = .lit (.int .i64 (i : Int))
  nd : st.Nodup
  rg : ∀ n, n ∈ st → 0 ≤ n ∧ n ≤ 1000000
theorem mapIs_nil : MapIs (.map []) [] := ⟨tidy_empty, rfl, fun n => by simp [Maps.has], fun i n h => by simp at h, List.nodup_nil, fun n h => by simp at h⟩
theorem MapIs.put {D : DataW Unit} {st : List Int} (h : MapIs D st) {n : Int} (hn : n ∉ st) (h0 : 0 ≤ n) (h1 : n ≤ 1000000) : MapIs (D.put (kI n) (.lit (.int .i64 (st.length : Int)))) (st ++ [n]) := by
  refine ⟨h.tidy.put (key_lit n) _, ?_, ?_, ?_, ?_, ?_⟩
  · rw [size_put h.tidy, h.has, h.size]; simp [hn]
  · intro m
    by_cases hm : m = n
    · subst hm; rw [has_put_same h.tidy.isMap (key_lit _)]; simp
    · rw [has_put_other (kI_ne hm), h.has]; simp [hm]
  · intro i m hi
    by_cases hm : m = n
    · subst hm
      rw [atKey_put_same h.tidy.isMap (key_lit _)]
      by_cases hl : i < st.length
      · rw [List.getElem?_append_left hl] at hi
        exact absurd (List.mem_of_getElem? hi) hn
      · have hi' := (List.getElem?_eq_some_iff.1 hi).1
        simp at hi'
        obtain rfl : i = st.length := by omega
        rfl
    · rw [atKey_put_other (kI_ne hm)]
      by_cases hl : i < st.length
      · rw [List.getElem?_append_left hl] at hi; exact h.at' i m hi
      · rw [List.getElem?_append_right (by omega)] at hi
        have := (List.getElem?_eq_some_iff.1 hi)
        obtain ⟨hlt, he⟩ := this
        simp at he
        exact absurd he.symm hm
  · rw [List.nodup_append]
    refine ⟨h.nd, by simp, fun a ha b hb e => ?_⟩
    simp at hb
    subst hb; subst e
    exact hn ha
  · intro m hm
    rcases List.mem_append.1 hm with hm | hm
    · exact h.rg m hm
    · simp at hm; subst hm; exact ⟨h0, h1⟩
theorem MapIs.len {D : DataW Unit} {st : List Int} (h : MapIs D st) : st.length ≤ 1000001 := nodup_len 1000001 st h.nd (fun n hn => by have := h.rg n hn; omega)
/-- The generator's memory: its map in block bm behind the variable q -/
structure Gen (lo hi q bm : Nat) (st : List Int) (w : World) : Prop where
  d : ∃ D : DataW Unit, w.ownsMap Try.prog 55 (plainElem Try.prog 3) bm st.length D ∧ MapIs D st
  cq : w.cell? ⟨q, 0, none⟩ = some (.map (some bm))
  sq : lo ≤ q ∧ q < hi
  sm : lo ≤ bm ∧ bm < hi
  ne : q ≠ bm
  sz : hi ≤ w.heap.size
theorem ownsMap_block {w w' : World} {b n : Nat} {D : DataW Unit} (h : w.ownsMap Try.prog 55 (plainElem Try.prog 3) b n D) (e : w'.heap[b]? = w.heap[b]?) : w'.ownsMap Try.prog 55 (plainElem Try.prog 3) b n D := by
  obtain ⟨es, clock, hb, F, hs, hD⟩ := h
  exact ⟨es, clock, e.trans hb, F, hs, hD⟩
theorem gen_stays (lo hi q bm : Nat) : Stays (Gen lo hi q bm) lo hi :=
  ⟨fun st w w' h hs hk => ⟨by obtain ⟨D, h1, h2⟩ := h.d; exact ⟨D, ownsMap_block h1 (hk bm h.sm.1 h.sm.2), h2⟩, (cellEq (hk q h.sq.1 h.sq.2)).trans h.cq, h.sq, h.sm, h.ne, Nat.le_trans h.sz hs⟩, fun st w h => h.sz⟩
/-- What a call of the generator leaves. -/
def GenPost (lo hi q bm : Nat) (st : List Int) (n : Int) (w : World) (e : Ending) (w' : World) : Prop :=
  e = .returned (.int .i64 (ixA st n)) ∧ Inside lo hi w w' ∧ Gen lo hi q bm (addV st n) w'

set_option maxRecDepth 100000 in
set_option maxHeartbeats 2000000 in
theorem fresh_yes (lo hi q bm : Nat) (st : List Int) (n : Int) (h0 : 0 ≤ n) (h1 : n ≤ 1000000) (w : World) (hg : Gen lo hi q bm st w) (hn : n ∈ st) :
    Calls Try.prog 78 #[.int .i64 n, .pointer (some ⟨q, 0, none⟩)] w (GenPost lo hi q bm st n w) := by
  have HG := Lib.hid hg
  obtain ⟨D, hown, hD⟩ := hg.d
  have hq := hg.cq
  have hkey : keyOf Try.prog 55 (.int .i64 n) = some (kI n) := keyOf_int_mk Try.underlying55 (WalkArith.wf_i64 (by omega))
  have HH : Hid (Maps.has D (kI n) = true) := Lib.hid (by rw [hD.has]; simpa using hn)
  have HAT : Hid (D.atKey (kI n) (.lit (.int .i64 0)) = .lit (.int .i64 ((st.idxOf n : Nat) : Int))) := Lib.hid (hD.at' _ _ (by rw [List.getElem?_eq_getElem (List.idxOf_lt_length_of_mem hn)]; simp))
  have HIX := Lib.hid (ixA_in hn)
  have HADD : Hid (addV st n = st) := Lib.hid (by unfold addV; rw [if_pos hn])
  clear hg hD hn
  go_enter Try.func78, Try.ntmps78
  go_wp2_with (first | (at_lookup; refine wpList_lookup_own_ok_int _ rfl _ _ 122 rfl 55 3 .i64 lawN Try.underlying122 Try.underlying3 (zeroI _) bm _ D rfl hown _ _ rfl hkey ?_; intro c hat hwc; rw [HH.out]) | fail)
  have hc : c = ((st.idxOf n : Nat) : Int) := by
    have h := hat.symm.trans HAT.out
    injection h with h
    injection h
  exact bodyPost_ret (v := .int .i64 c) (by simp [results, Try.results78, go_sem]) rfl ⟨by rw [HIX.out, hc], Inside.refl _ _ _, by rw [HADD.out]; exact HG.out⟩

set_option maxRecDepth 100000 in
set_option maxHeartbeats 2000000 in
theorem fresh_no (lo hi q bm : Nat) (st : List Int) (n : Int) (h0 : 0 ≤ n) (h1 : n ≤ 1000000) (w : World) (hg : Gen lo hi q bm st w) (hn : n ∉ st) :
    Calls Try.prog 78 #[.int .i64 n, .pointer (some ⟨q, 0, none⟩)] w (GenPost lo hi q bm st n w) := by
  have HG := Lib.hid hg
  obtain ⟨D, hown, hD⟩ := hg.d
  have hq := hg.cq
  have hkey : keyOf Try.prog 55 (.int .i64 n) = some (kI n) := keyOf_int_mk Try.underlying55 (WalkArith.wf_i64 (by omega))
  have HH : Hid (Maps.has D (kI n) = false) := Lib.hid (by rw [hD.has]; simpa using hn)
  obtain ⟨L, hL⟩ : ∃ L, st.length = L := ⟨_, rfl⟩
  have hLl : L ≤ 1000001 := by rw [← hL]; exact hD.len
  have HSZ : Hid (Maps.size D = L) := Lib.hid (hD.size.trans hL)
  have HIX : Hid (ixA st n = (L : Int)) := Lib.hid (by rw [ixA_out hn, hL])
  have HADD : Hid (addV st n = st ++ [n]) := Lib.hid (by unfold addV; rw [if_neg hn])
  have HPUT : Hid (MapIs (D.put (kI n) (.lit (.int .i64 (L : Int)))) (st ++ [n])) := Lib.hid (by rw [← hL]; exact hD.put hn h0 h1)
  have HL := Lib.hid hL
  have hwf : (Lit.int .i64 (L : Int)).wf = true := WalkArith.wf_i64 (by omega)
  rw [hL] at hown
  clear hg hD hn hL
  go_enter Try.func78, Try.ntmps78
  go_wp2_with (first | (at_lookup; refine wpList_lookup_own_ok_int _ rfl _ _ 122 rfl 55 3 .i64 lawN Try.underlying122 Try.underlying3 (zeroI _) bm _ D rfl hown _ _ rfl hkey ?_; intro c hat hwc; rw [HH.out]) | (at_len; refine wpList_len_own _ rfl _ 122 rfl 55 3 Try.underlying122 _ bm _ D rfl hown ?_; rw [HSZ.out]) | (at_mapUpdate; refine wpList_mapUpdate_own _ rfl _ _ _ 122 rfl 55 3 lawN Try.underlying122 _ bm _ D rfl hown (by unfold maxLen; omega) _ _ _ rfl rfl hkey _ [] (plainElem_int Try.underlying3 hwf) ?_; intro w1 hown1 hgrow1) | fail)
  obtain ⟨gd, gq, gsq, gsm, gne, gsz⟩ := HG.out
  have hne : ∀ b, b ≠ bm → some b ≠ some bm := fun b h e => h (by injection e)
  have hb1 : ∀ b, b < w.heap.size → b ≠ bm → w1.heap[b]? = w.heap[b]? := fun b h1 h2 => hgrow1.block b h1 (hne b h2)
  have hin : Inside lo hi w w1 := ⟨hgrow1.os, hgrow1.tape, hgrow1.output, hgrow1.size, fun b hb hx => hb1 b hb (by omega)⟩
  have hgen : Gen lo hi q bm (st ++ [n]) w1 := ⟨⟨_, by rw [List.length_append, HL.out]; exact hown1, HPUT.out⟩, (cellEq (hb1 q (by omega) gne)).trans gq, gsq, gsm, gne, Nat.le_trans gsz hgrow1.size⟩
  exact bodyPost_ret (v := .int .i64 (L : Int)) (by simp [results, Try.results78, go_sem]) rfl ⟨by rw [HIX.out], hin, by rw [HADD.out]; exact hgen⟩
theorem fresh_any (lo hi q bm : Nat) (st : List Int) (n : Int) (h0 : 0 ≤ n) (h1 : n ≤ 1000000) (w : World) (hg : Gen lo hi q bm st w) :
    Calls Try.prog 78 #[.int .i64 n, .pointer (some ⟨q, 0, none⟩)] w (GenPost lo hi q bm st n w) := by
  by_cases hn : n ∈ st
  · exact fresh_yes lo hi q bm st n h0 h1 w hg hn
  · exact fresh_no lo hi q bm st n h0 h1 w hg hn

theorem freshNames_any (w : World) : Calls Try.prog 65 #[] w fun e w' => e = .returned (.func (.func 78) #[] #[.pointer (some ⟨w.heap.size + 1, 0, none⟩)]) ∧ w' = (w.alloc (.map #[] 0)).alloc (.cells #[.map (some w.heap.size)] 122) := by
  have hmm := @run_makeMap Try.prog
  go_enter Try.func65, Try.ntmps65
  go_wp2_with fail
  exact bodyPost_ret (v := .func (.func 78) #[] #[.pointer (some ⟨w.heap.size + 1, 0, none⟩)]) (by simp [results, Try.results65, go_sem]) rfl ⟨rfl, rfl⟩
theorem gen_new (w : World) : Gen w.heap.size (w.heap.size + 2) (w.heap.size + 1) w.heap.size [] ((w.alloc (.map #[] 0)).alloc (.cells #[.map (some w.heap.size)] 122)) := by
  obtain ⟨W1, hW1⟩ : ∃ W1, w.alloc (.map #[] 0) = W1 := ⟨_, rfl⟩
  have hz1 : W1.heap.size = w.heap.size + 1 := by rw [← hW1]; simp
  have hm : W1.ownsMap Try.prog 55 (plainElem (H := Unit) Try.prog 3) w.heap.size 0 (.map []) := by rw [← hW1]; exact World.ownsMap_made _ _ _ _
  rw [hW1, ← hz1]
  have hb2 : Below W1.heap.size W1 (W1.alloc (.cells #[.map (some w.heap.size)] 122)) := (Below.refl _ _).alloc (Nat.le_refl _) _
  refine ⟨⟨.map [], ?_, mapIs_nil⟩, ?_, by omega, by omega, by omega, by simp; omega⟩
  · exact ownsMap_block hm (hb2.block _ (by omega))
  · exact cell_fresh _ _ _

end Go.Proofs.Ytjhccdioainibaa.Nx
