/-
  What the exact laws' size of a type returns: what is left of a number when every node below the root is taken away, or -1; what was in memory stays.
-/
import Derived.Test.YtmoclinccmhijaaDoorProg
import Derived.Test.YtmoclinccmhijaaDoorYd
import Derived.Test.YtmoclinccmhijaaDoorEc
import Derived.Deep.Slices
namespace Go.Proofs.YtmoclinccmhijaaDoor.Ox
open Go.Proofs.YtmoclinccmhijaaDoor
open Go.RowKit

set_option maxRecDepth 100000 in
set_option maxHeartbeats 2000000 in
theorem szExprS_of (t : Ex) (c : Nat → Nat) (v : Value) (l : Int) (w : World) (hx : ExAt w t v) (h0 : 0 ≤ l) (h1 : l ≤ 1048576)
    (H : ∀ i, i < t.ks.length → ∀ (r : Int) (vi : Value) (W : World), 0 ≤ r → r ≤ 1048576 → ExAt W (t.ks.getD i Ex.dummy) vi →
      Calls Tryd.prog 6 #[.agg #[.int .i64 (t.ks.getD i Ex.dummy).k, .int .i64 (t.ks.getD i Ex.dummy).n, .string (t.ks.getD i Ex.dummy).m, .string (t.ks.getD i Ex.dummy).s, vi], .int .i64 r] W (SzPost r (c i) W)) :
    Calls Tryd.prog 22 #[v, .int .i64 l] w (SzPost l (t.ks.length + ((List.range t.ks.length).map c).sum) w) := by
  have HX := Lib.hid hx
  have HH := Lib.hid H
  obtain ⟨a, cap, rfl, hlen⟩ := hx.slice
  clear hx H
  obtain ⟨L, hL⟩ : ∃ L, t.ks.length = L := ⟨_, rfl⟩
  have HL := Lib.hid hL
  rw [hL] at hlen ⊢
  clear hL
  by_cases hll : (L : Int) ≤ l
  case neg =>
    have HS := Lib.hid (leftOf_no (l := l) (c := L + ((List.range L).map c).sum) (by push_cast; omega))
    have hneg : l - (L : Int) < 0 := by omega
    go_enter Tryd.func22, Tryd.ntmps22
    go_wp2
    go_ret
    exact ⟨ret_i HS.out.symm, Below.refl _ _⟩
  have hnn : ¬ l - (L : Int) < 0 := by omega
  go_enter Tryd.func22, Tryd.ntmps22
  go_wp2
  go_loopw [1, 5] (fun lv i wr => ∃ (k : Nat) (r : Int), k ≤ L ∧ i = .int .i64 k ∧ lv = .int .i64 r ∧ 0 ≤ r ∧ r ≤ 1048576 ∧ Hid (r = l - L - ((List.range k).map c).sum) ∧ Below w.heap.size w wr) (fun _ i _ => L - (intOf i).toNat)
  case atStart => exact ⟨0, l - L, Nat.zero_le _, rfl, rfl, by omega, by omega, Lib.hid (by simp), Below.refl _ _⟩
  case round =>
    obtain ⟨k, r, hk, rfl, rfl, r0, r1, hr, hB⟩ := hrel
    have HB := Lib.hid hB
    clear hB
    by_cases hlt : k < L
    · have hki : (k : Int) < (L : Int) := by omega
      obtain ⟨b, o, cap2, vi, ex, bl, ⟨x0, x1, x2, x3, x4⟩, hkid⟩ := (HX.out.kept HB.out).kid k (by rw [HL.out]; exact hlt)
      have ex1 : a = some ⟨b, o, none⟩ := by injection ex
      subst ex1
      clear ex
      have HKID := Lib.hid hkid
      have hsk := sum_mono c (show k + 1 ≤ L by omega)
      rw [sum_succ] at hsk
      have HSK := Lib.hid hsk
      clear hkid hsk
      by_cases hc : (c k : Int) ≤ r
      · have HP := Lib.hid (leftOf_yes hc)
        have hcn : 0 ≤ r - (c k : Int) := by omega
        go_wp2_with fail
        go_at_call 6
        refine (HH.out k (by rw [HL.out]; exact hlt) r vi _ r0 r1 HKID.out).mono ?_
        rintro e w2 ⟨rfl, hb2⟩
        rw [HP.out]
        have HB2 := Lib.hid (HB.out.trans (hb2.mono HB.out.size))
        clear hb2
        go_wp2_with fail
        go_roundw
        case rel => exact ⟨k + 1, r - c k, by omega, by go_num, rfl, hcn, by omega, Lib.hid (by rw [sum_succ, hr.out]; push_cast; omega), HB2.out⟩
        case measure => simp [intOf]; omega
      · have HP := Lib.hid (leftOf_no hc)
        have HS := Lib.hid (leftOf_no (l := l) (c := L + ((List.range L).map c).sum) (by
          have h1 := HSK.out
          have h2 := hr.out
          push_cast
          omega))
        go_wp2_with fail
        go_at_call 6
        refine (HH.out k (by rw [HL.out]; exact hlt) r vi _ r0 r1 HKID.out).mono ?_
        rintro e w2 ⟨rfl, hb2⟩
        rw [HP.out]
        have HB2 := Lib.hid (HB.out.trans (hb2.mono HB.out.size))
        clear hb2
        go_wp2_with fail
        go_ret
        exact ⟨ret_i HS.out.symm, HB2.out⟩
    · have hki : ¬ (k : Int) < (L : Int) := by omega
      have hkl : k = L := by omega
      have HS := Lib.hid (leftOf_yes (l := l) (c := L + ((List.range L).map c).sum) (by have h2 := hr.out; rw [hkl] at h2; push_cast; omega))
      have HR : Hid (r = l - ((L + ((List.range L).map c).sum : Nat) : Int)) := Lib.hid (by have h2 := hr.out; rw [hkl] at h2; push_cast; omega)
      clear hlt hkl
      go_wp2_with fail
      go_ret
      exact ⟨ret_i (by rw [HS.out, HR.out]), HB.out⟩

set_option maxRecDepth 100000 in
set_option maxHeartbeats 2000000 in
theorem szExpr_any (m : Nat) : ∀ (t : Ex) (n : Nat) (v : Value) (l : Int) (w : World), SizeOf.sizeOf t < m → Cnt t n → ExAt w t v → 0 ≤ l → l ≤ 1048576 →
    Calls Tryd.prog 6 #[.agg #[.int .i64 t.k, .int .i64 t.n, .string t.m, .string t.s, v], .int .i64 l] w (SzPost l n w) := by
  induction m with
  | zero => intro t n v l w h; exact absurd h (Nat.not_lt_zero _)
  | succ m ih =>
    intro t n v l w hm hc hx h0 h1
    obtain ⟨c, rfl, mm, ms, hcs⟩ : ∃ c : Nat → Nat, n = t.m.size + t.s.size + (t.ks.length + ((List.range t.ks.length).map c).sum) ∧ t.m.size ≤ maxLen ∧ t.s.size ≤ maxLen ∧ ∀ i, i < t.ks.length → Cnt (t.ks.getD i Ex.dummy) (c i) := by
      cases hc with
      | node k n m s ks c hm1 hs1 h => exact ⟨c, rfl, hm1, hs1, h⟩
    unfold maxLen at mm ms
    have HX := Lib.hid hx
    have HC := Lib.hid hcs
    obtain ⟨a, cap, rfl, hlen⟩ := hx.slice
    obtain ⟨M, hM⟩ : ∃ M, t.m = M := ⟨_, rfl⟩
    obtain ⟨Q, hQ⟩ : ∃ Q, t.s = Q := ⟨_, rfl⟩
    have HSZ := fun (l : Int) (W : World) (g0 : 0 ≤ l) (g1 : l ≤ 1048576) (hb : Below w.heap.size w W) => szExprS_of t c _ l W (HX.out.kept hb) g0 g1 (fun i hi r vi W' r0 r1 hk => ih _ _ vi r W' (by have := Ex.kid_lt t i hi; omega) (HC.out i hi) hk r0 r1)
    obtain ⟨N, hN⟩ : ∃ N, t.ks.length + ((List.range t.ks.length).map c).sum = N := ⟨_, rfl⟩
    rw [hN] at HSZ ⊢
    rw [hM] at mm
    rw [hQ] at ms
    rw [hM, hQ]
    have HZ := Lib.hid HSZ
    have HBA : Hid (Below w.heap.size w (w.alloc (.cells #[.int .i64 t.k, .int .i64 t.n, .string M, .string Q, .slice a t.ks.length cap] 24))) := Lib.hid ((Below.refl _ _).alloc (Nat.le_refl _) _)
    clear HSZ hN hx hcs hm hc ih hM hQ
    by_cases hA : l < (M.size : Int)
    · have HP := Lib.hid (leftOf_no (l := l) (c := M.size + Q.size + N) (by push_cast; omega))
      go_enter Tryd.func6, Tryd.ntmps6
      go_wp2_with fail
      go_ret
      exact ⟨ret_i HP.out.symm, HBA.out⟩
    have hA' : ¬ l - (M.size : Int) < 0 := by omega
    by_cases hB : l - (M.size : Int) < (Q.size : Int)
    · have HP := Lib.hid (leftOf_no (l := l) (c := M.size + Q.size + N) (by push_cast; omega))
      go_enter Tryd.func6, Tryd.ntmps6
      go_wp2_with fail
      go_ret
      exact ⟨ret_i HP.out.symm, HBA.out⟩
    have hB' : ¬ l - (M.size : Int) - (Q.size : Int) < 0 := by omega
    have hl0 : 0 ≤ l - (M.size : Int) - (Q.size : Int) := by omega
    have hl1 : l - (M.size : Int) - (Q.size : Int) ≤ 1048576 := by omega
    by_cases hle : (N : Int) ≤ l - (M.size : Int) - (Q.size : Int)
    · have HP := Lib.hid (leftOf_yes hle)
      have HT := Lib.hid (leftOf_yes (l := l) (c := M.size + Q.size + N) (by push_cast; omega))
      have hnn : 0 ≤ l - (M.size : Int) - (Q.size : Int) - (N : Int) := by omega
      go_enter Tryd.func6, Tryd.ntmps6
      go_wp2_with fail
      go_at_call 22
      refine (HZ.out _ _ hl0 hl1 HBA.out).mono ?_
      rintro e w2 ⟨rfl, hb2⟩
      rw [HP.out]
      have HB2 : Hid (Below w.heap.size w w2) := Lib.hid (HBA.out.trans (hb2.mono HBA.out.size))
      clear hb2
      go_wp2_with fail
      go_ret
      exact ⟨ret_i (by rw [HT.out]; push_cast; omega), HB2.out⟩
    · have HP := Lib.hid (leftOf_no hle)
      have HT := Lib.hid (leftOf_no (l := l) (c := M.size + Q.size + N) (by push_cast; omega))
      go_enter Tryd.func6, Tryd.ntmps6
      go_wp2_with fail
      go_at_call 22
      refine (HZ.out _ _ hl0 hl1 HBA.out).mono ?_
      rintro e w2 ⟨rfl, hb2⟩
      rw [HP.out]
      have HB2 : Hid (Below w.heap.size w w2) := Lib.hid (HBA.out.trans (hb2.mono HBA.out.size))
      clear hb2
      go_wp2_with fail
      go_ret
      exact ⟨ret_i HT.out.symm, HB2.out⟩

end Go.Proofs.YtmoclinccmhijaaDoor.Ox
