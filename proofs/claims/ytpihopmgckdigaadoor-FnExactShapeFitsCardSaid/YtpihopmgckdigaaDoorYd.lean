/-
  What the exact laws' size of a type returns: what is left of a number when every node below the root is taken away, or -1; what was in memory stays.
-/
import Derived.Test.YtpihopmgckdigaaDoorProg
import Derived.Test.YtpihopmgckdigaaDoorYa
import Derived.Deep.Slices
namespace Go.Proofs.YtpihopmgckdigaaDoor
open Go.RowKit

/-- How many nodes lie below a node. -/
inductive Cnt : Ty → Nat → Prop where
  | node (k n : Int) (ks : List Ty) (c : Nat → Nat) (h : ∀ i, i < ks.length → Cnt (ks.getD i Ty.dummy) (c i)) : Cnt (.node k n ks) (ks.length + ((List.range ks.length).map c).sum)
theorem cnt_total : ∀ (m : Nat) (t : Ty), SizeOf.sizeOf t < m → ∃ c, Cnt t c := by
  intro m
  induction m with
  | zero => intro t h; exact absurd h (Nat.not_lt_zero _)
  | succ m ih =>
    intro t h
    cases t with
    | node k n ks =>
      have step : ∀ i, i < ks.length → ∃ c, Cnt (ks.getD i Ty.dummy) c := fun i hi => ih _ (by
        have := Ty.kid_lt (.node k n ks) i hi
        have e : (Ty.node k n ks).ks = ks := rfl
        rw [e] at this
        omega)
      obtain ⟨c, hc⟩ := Go.Deep.choose_lt step
      exact ⟨_, .node k n ks c hc⟩
theorem sum_succ (c : Nat → Nat) (k : Nat) : ((List.range (k + 1)).map c).sum = ((List.range k).map c).sum + c k := by
  rw [List.range_succ, List.map_append, List.sum_append]; simp
theorem sum_mono (c : Nat → Nat) {k l : Nat} (h : k ≤ l) : ((List.range k).map c).sum ≤ ((List.range l).map c).sum := by
  induction h with
  | refl => exact Nat.le_refl _
  | step _ ih => rw [sum_succ]; omega

/-- What is left of l, c nodes being taken away. -/
def LeftOf (l : Int) (c : Nat) : Int := if (c : Int) ≤ l then l - c else -1
def SzPost (l : Int) (c : Nat) (w : World) (e : Ending) (w' : World) : Prop := e = .returned (.int .i64 (LeftOf l c)) ∧ Below w.heap.size w w'
theorem leftOf_yes {l : Int} {c : Nat} (h : (c : Int) ≤ l) : LeftOf l c = l - c := by unfold LeftOf; rw [if_pos h]
theorem leftOf_no {l : Int} {c : Nat} (h : ¬ (c : Int) ≤ l) : LeftOf l c = -1 := by unfold LeftOf; rw [if_neg h]
theorem ret_i {a b : Int} (h : a = b) : Ending.returned (.int .i64 a) = .returned (.int .i64 b) := by rw [h]

set_option maxRecDepth 100000 in
set_option maxHeartbeats 2000000 in
theorem szTypeS_of (t : Ty) (c : Nat → Nat) (v : Value) (l : Int) (w : World) (hx : TyAt w t v) (h0 : 0 ≤ l) (h1 : l ≤ 1048576)
    (H : ∀ i, i < t.ks.length → ∀ (r : Int) (vi : Value) (W : World), 0 ≤ r → r ≤ 1048576 → TyAt W (t.ks.getD i Ty.dummy) vi →
      Calls Tryd.prog 15 #[.agg #[.int .i64 (t.ks.getD i Ty.dummy).k, .int .i64 (t.ks.getD i Ty.dummy).n, vi], .int .i64 r] W (SzPost r (c i) W)) :
    Calls Tryd.prog 37 #[v, .int .i64 l] w (SzPost l (t.ks.length + ((List.range t.ks.length).map c).sum) w) := by
  have HX := Lib.hid hx
  have HH := Lib.hid H
  obtain ⟨a, cap, rfl, hlen⟩ := hx.slice
  clear hx H
  obtain ⟨L, hL⟩ : ∃ L, t.ks.length = L := ⟨_, rfl⟩
  have HL := Lib.hid hL
  rw [hL] at hlen ⊢
  clear hL
  by_cases hll : (L : Int) ≤ l
  case neg =>
    have HS := Lib.hid (leftOf_no (l := l) (c := L + ((List.range L).map c).sum) (by push_cast; omega))
    have hneg : l - (L : Int) < 0 := by omega
    go_enter Tryd.func37, Tryd.ntmps37
    go_wp2
    go_ret
    exact ⟨ret_i HS.out.symm, Below.refl _ _⟩
  have hnn : ¬ l - (L : Int) < 0 := by omega
  go_enter Tryd.func37, Tryd.ntmps37
  go_wp2
  go_loopw [1, 5] (fun lv i wr => ∃ (k : Nat) (r : Int), k ≤ L ∧ i = .int .i64 k ∧ lv = .int .i64 r ∧ 0 ≤ r ∧ r ≤ 1048576 ∧ Hid (r = l - L - ((List.range k).map c).sum) ∧ Below w.heap.size w wr) (fun _ i _ => L - (intOf i).toNat)
  case atStart => exact ⟨0, l - L, Nat.zero_le _, rfl, rfl, by omega, by omega, Lib.hid (by simp), Below.refl _ _⟩
  case round =>
    obtain ⟨k, r, hk, rfl, rfl, r0, r1, hr, hB⟩ := hrel
    have HB := Lib.hid hB
    clear hB
    by_cases hlt : k < L
    · have hki : (k : Int) < (L : Int) := by omega
      obtain ⟨b, o, cap2, vi, ex, bl, x0, x1, x2, hkid⟩ := (HX.out.kept HB.out).kid k (by rw [HL.out]; exact hlt)
      have ex1 : a = some ⟨b, o, none⟩ := by injection ex
      subst ex1
      clear ex
      have HKID := Lib.hid hkid
      have hsk := sum_mono c (show k + 1 ≤ L by omega)
      rw [sum_succ] at hsk
      have HSK := Lib.hid hsk
      clear hkid hsk
      by_cases hc : (c k : Int) ≤ r
      · have HP := Lib.hid (leftOf_yes hc)
        have hcn : 0 ≤ r - (c k : Int) := by omega
        go_wp2_with fail
        go_at_call 15
        refine (HH.out k (by rw [HL.out]; exact hlt) r vi _ r0 r1 HKID.out).mono ?_
        rintro e w2 ⟨rfl, hb2⟩
        rw [HP.out]
        have HB2 := Lib.hid (HB.out.trans (hb2.mono HB.out.size))
        clear hb2
        go_wp2_with fail
        go_roundw
        case rel => exact ⟨k + 1, r - c k, by omega, by go_num, rfl, hcn, by omega, Lib.hid (by rw [sum_succ, hr.out]; push_cast; omega), HB2.out⟩
        case measure => simp [intOf]; omega
      · have HP := Lib.hid (leftOf_no hc)
        have HS := Lib.hid (leftOf_no (l := l) (c := L + ((List.range L).map c).sum) (by
          have h1 := HSK.out
          have h2 := hr.out
          push_cast
          omega))
        go_wp2_with fail
        go_at_call 15
        refine (HH.out k (by rw [HL.out]; exact hlt) r vi _ r0 r1 HKID.out).mono ?_
        rintro e w2 ⟨rfl, hb2⟩
        rw [HP.out]
        have HB2 := Lib.hid (HB.out.trans (hb2.mono HB.out.size))
        clear hb2
        go_wp2_with fail
        go_ret
        exact ⟨ret_i HS.out.symm, HB2.out⟩
    · have hki : ¬ (k : Int) < (L : Int) := by omega
      have hkl : k = L := by omega
      have HS := Lib.hid (leftOf_yes (l := l) (c := L + ((List.range L).map c).sum) (by have h2 := hr.out; rw [hkl] at h2; push_cast; omega))
      have HR : Hid (r = l - ((L + ((List.range L).map c).sum : Nat) : Int)) := Lib.hid (by have h2 := hr.out; rw [hkl] at h2; push_cast; omega)
      clear hlt hkl
      go_wp2_with fail
      go_ret
      exact ⟨ret_i (by rw [HS.out, HR.out]), HB.out⟩

set_option maxRecDepth 100000 in
set_option maxHeartbeats 1000000 in
theorem szType_any (m : Nat) : ∀ (t : Ty) (n : Nat) (v : Value) (l : Int) (w : World), SizeOf.sizeOf t < m → Cnt t n → TyAt w t v → 0 ≤ l → l ≤ 1048576 →
    Calls Tryd.prog 15 #[.agg #[.int .i64 t.k, .int .i64 t.n, v], .int .i64 l] w (SzPost l n w) := by
  induction m with
  | zero => intro t n v l w h; exact absurd h (Nat.not_lt_zero _)
  | succ m ih =>
    intro t n v l w hm hc hx h0 h1
    obtain ⟨c, rfl, hcs⟩ : ∃ c : Nat → Nat, n = t.ks.length + ((List.range t.ks.length).map c).sum ∧ ∀ i, i < t.ks.length → Cnt (t.ks.getD i Ty.dummy) (c i) := by
      cases hc with
      | node k n ks c h => exact ⟨c, rfl, h⟩
    have HX := Lib.hid hx
    have HC := Lib.hid hcs
    have HM := Lib.hid hm
    obtain ⟨a, cap, rfl, hlen⟩ := hx.slice
    obtain ⟨N, hN⟩ : ∃ N, t.ks.length + ((List.range t.ks.length).map c).sum = N := ⟨_, rfl⟩
    have HN := Lib.hid hN
    have HSZ := fun (W : World) (hb : Below w.heap.size w W) => szTypeS_of t c _ l W (HX.out.kept hb) h0 h1 (fun i hi r vi W' r0 r1 hk => ih _ _ vi r W' (by have := Ty.kid_lt t i hi; omega) (HC.out i hi) hk r0 r1)
    rw [hN] at HSZ ⊢
    have HZ := Lib.hid HSZ
    clear HSZ hN hx hcs hm hc
    by_cases hle : (N : Int) ≤ l
    · have HP := Lib.hid (leftOf_yes hle)
      have hnn : 0 ≤ l - (N : Int) := by omega
      go_enter Tryd.func15, Tryd.ntmps15
      go_wp2_with fail
      go_at_call 37
      refine (HZ.out _ ((Below.refl _ _).alloc (Nat.le_refl _) _)).mono ?_
      rintro e w2 ⟨rfl, hb2⟩
      rw [HP.out]
      have HB2 : Hid (Below w.heap.size w w2) := Lib.hid (((Below.refl _ _).alloc (Nat.le_refl _) _).trans (hb2.mono (by simp)))
      clear hb2
      go_wp2_with fail
      go_ret
      exact ⟨ret_i HP.out.symm, HB2.out⟩
    · have HP := Lib.hid (leftOf_no hle)
      go_enter Tryd.func15, Tryd.ntmps15
      go_wp2_with fail
      go_at_call 37
      refine (HZ.out _ ((Below.refl _ _).alloc (Nat.le_refl _) _)).mono ?_
      rintro e w2 ⟨rfl, hb2⟩
      rw [HP.out]
      have HB2 : Hid (Below w.heap.size w w2) := Lib.hid (((Below.refl _ _).alloc (Nat.le_refl _) _).trans (hb2.mono (by simp)))
      clear hb2
      go_wp2_with fail
      go_ret
      exact ⟨ret_i HP.out.symm, HB2.out⟩

end Go.Proofs.YtpihopmgckdigaaDoor
