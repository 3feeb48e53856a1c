/-
  FreeNames of both programs; the marks of an expression.
-/
import Derived.Test.YtlgbkhkmfgdehaaRf
import Derived.Test.YtlgbkhkmfgdehaaRc
namespace Go.Proofs.Ytlgbkhkmfgdehaa.Ox
open Go.Proofs.Ytlgbkhkmfgdehaa
open Go.RowKit
set_option linter.unusedVariables false
set_option linter.unusedSimpArgs false

/-- FreeNames. -/
def fnl (x : Ex) : List ByteArray := if okX 12 x = true then fnX 12 [] x [] else []
theorem fnl_yes {x : Ex} (h : okX 12 x = true) : fnl x = fnX 12 [] x [] := by unfold fnl; rw [if_pos h]
theorem fnl_no {x : Ex} (h : okX 12 x = false) : fnl x = [] := by unfold fnl; rw [if_neg (by rw [h]; decide)]
theorem fnl_len (x : Ex) : (fnl x).length ≤ 60 := by
  rcases h : okX 12 x with _ | _
  · rw [fnl_no h]; simp
  · rw [fnl_yes h]
    have h1 := fnX_len 12 [] x []
    have h2 := (okX_iff.1 h).2
    simp at h1
    omega

set_option maxHeartbeats 4000000 in
theorem freeNames_spec {x : Ex} {l : List ByteArray} (hl : fnl x = l) (v : Value) (w : World) (hx : ExAt w x v) :
    Calls Try.prog 18 #[.agg #[.int .i64 x.k, .int .i64 x.n, .string x.m, .string x.s, v]] w fun e w' => ∃ s, e = .returned s ∧ SR w' w.heap.size s l ∧ Below w.heap.size w w' := by
  obtain ⟨a, cap, rfl, hlen⟩ := hx.slice
  have HX := Lib.hid hx
  have HA0 : Hid (Below w.heap.size w (w.alloc (.cells #[.int .i64 x.k, .int .i64 x.n, .string x.m, .string x.s, .slice a x.ks.length cap] 38))) := Lib.hid ((Below.refl _ _).alloc (Nat.le_refl _) _)
  have HP0 := Lib.hid (ebox_new w (.int .i64 x.k) (.int .i64 x.n) (.string x.m) (.string x.s) (.slice a x.ks.length cap) 38)
  clear hx
  rcases hb : okX 12 x with _ | _
  · have HV := Lib.hid hb
    have HL : Hid (l = []) := Lib.hid (by rw [← hl, fnl_no hb])
    clear hb hl
    go_enter Try.func18, Try.ntmps18
    go_wp2_with fail
    go_at_call 40
    refine (exprValid_spec x _ _ (HX.out.kept HA0.out)).mono ?_
    rintro e w1 ⟨rfl, hb1⟩
    rw [HV.out]
    have H1 := Lib.hid (HA0.out.trans (hb1.mono HA0.out.size))
    clear hb1
    go_wp2_with fail
    go_ret
    rw [HL.out]
    exact ⟨_, rfl, lit_row (Go.heap_alloc_new _ _) H1.out.size, H1.out.alloc H1.out.size _⟩
  · have HV := Lib.hid hb
    have HL : Hid (fnX 12 [] x [] = l) := Lib.hid (by rw [← hl, fnl_yes hb])
    have HS := Lib.hid (okX_iff.1 hb)
    clear hb hl
    go_enter Try.func18, Try.ntmps18
    go_wp2_with fail
    go_at_call 40
    refine (exprValid_spec x _ _ (HX.out.kept HA0.out)).mono ?_
    rintro e w1 ⟨rfl, hb1⟩
    rw [HV.out]
    have H1 := Lib.hid (HA0.out.trans (hb1.mono HA0.out.size))
    have HP1 := Lib.hid (HP0.out.kept hb1)
    clear hb1
    obtain ⟨p0, p1, p2, p3, p4, pz⟩ := HP1.out
    go_wp2_with fail
    go_at_call 46
    refine (l3Free_any w 12 x _ [] (.slice none 0 0) 0 [] (.slice (some ⟨w1.heap.size, 0, none⟩) 0 0) _ HS.out.1 (by omega) HX.out (H1.out.alloc H1.out.size _) (lit_row (Go.heap_alloc_new _ _) H1.out.size) (sr_nil _) (fun g _ e2 => by cases e2) (by simp) (by have := HS.out.2; simp; omega) (fun _ => rfl)).mono ?_
    rintro e w2 ⟨s, rfl, h1, h2, h3⟩
    rw [HL.out] at h1
    have HB2 := Lib.hid (grow_below h2 (H1.out.alloc H1.out.size _) (by have := H1.out.size; simp; omega) (fun g e => by have e2 : w1.heap.size = g := (by simpa [Value.ownBlock] using e); have := H1.out.size; omega))
    have HS2 := Lib.hid h1
    clear h1 h2 h3
    go_wp2_with fail
    go_ret
    exact ⟨_, rfl, HS2.out, HB2.out⟩

set_option maxHeartbeats 4000000 in
theorem freeNames_impl {x : Ex} {l : List ByteArray} (hl : fnl x = l) (v : Value) (w : World) (hx : ExAt w x v) :
    Calls Try.prog 20 #[.agg #[.int .i64 x.k, .int .i64 x.n, .string x.m, .string x.s, v]] w fun e w' => ∃ s, e = .returned s ∧ SR w' w.heap.size s l ∧ Below w.heap.size w w' := by
  obtain ⟨a, cap, rfl, hlen⟩ := hx.slice
  have HX := Lib.hid hx
  have HA0 : Hid (Below w.heap.size w (w.alloc (.cells #[.int .i64 x.k, .int .i64 x.n, .string x.m, .string x.s, .slice a x.ks.length cap] 38))) := Lib.hid ((Below.refl _ _).alloc (Nat.le_refl _) _)
  have HP0 := Lib.hid (ebox_new w (.int .i64 x.k) (.int .i64 x.n) (.string x.m) (.string x.s) (.slice a x.ks.length cap) 38)
  clear hx
  rcases hb : okX 12 x with _ | _
  · have HV := Lib.hid hb
    have HL : Hid (l = []) := Lib.hid (by rw [← hl, fnl_no hb])
    clear hb hl
    go_enter Try.func20, Try.ntmps20
    go_wp2_with fail
    go_at_call 48
    refine (exprValid_impl x _ _ (HX.out.kept HA0.out)).mono ?_
    rintro e w1 ⟨rfl, hb1⟩
    rw [HV.out]
    have H1 := Lib.hid (HA0.out.trans (hb1.mono HA0.out.size))
    clear hb1
    go_wp2_with fail
    go_ret
    rw [HL.out]
    exact ⟨_, rfl, ⟨rfl, .inl ⟨rfl, rfl⟩⟩, H1.out⟩
  · have HV := Lib.hid hb
    have HL : Hid (fnX 12 [] x [] = l) := Lib.hid (by rw [← hl, fnl_yes hb])
    have HS := Lib.hid (okX_iff.1 hb)
    clear hb hl
    go_enter Try.func20, Try.ntmps20
    go_wp2_with fail
    go_at_call 48
    refine (exprValid_impl x _ _ (HX.out.kept HA0.out)).mono ?_
    rintro e w1 ⟨rfl, hb1⟩
    rw [HV.out]
    have H1 := Lib.hid (HA0.out.trans (hb1.mono HA0.out.size))
    have HP1 := Lib.hid (HP0.out.kept hb1)
    clear hb1
    obtain ⟨p0, p1, p2, p3, p4, pz⟩ := HP1.out
    go_wp2_with fail
    go_at_call 49
    refine (addFree_any w 12 x _ [] 0 [] (.slice none 0 0) _ HS.out.1 (by omega) HX.out H1.out ⟨rfl, .inl ⟨rfl, rfl⟩⟩ Bnd.nil (by have := HS.out.2; simp; omega)).mono ?_
    rintro e w2 ⟨s, rfl, h1, h2, h3⟩
    rw [HL.out] at h1
    have HB2 := Lib.hid (grow_below h2 H1.out H1.out.size (fun g e => by cases e))
    have HS2 := Lib.hid h1
    clear h1 h2 h3
    go_wp2_with fail
    go_ret
    exact ⟨_, rfl, HS2.out, HB2.out⟩

set_option maxHeartbeats 1000000 in
theorem markExpr_any (x : Ex) (c : Nat) (v : Value) (lo hi : Nat) (K : Nat) (w : World) (hc : Cnt x c) (hx : ExIn w lo hi x v) (h0 : 0 < K) (hK : K + 4 * c ≤ 9000000) :
    Calls Try.prog 15 #[.agg #[.int .i64 x.k, .int .i64 x.n, .string x.m, .string x.s, v], .int .i64 K] w (MkPost K c lo hi w) := by
  obtain ⟨a, cap, rfl, hlen⟩ := hx.at.slice
  have HX := Lib.hid hx
  have HC := Lib.hid hc
  have HA0 : Hid (Inside lo hi w (w.alloc (.cells #[.int .i64 x.k, .int .i64 x.n, .string x.m, .string x.s, .slice a x.ks.length cap] 38))) := Lib.hid (by
    have hb := (Below.refl w.heap.size w).alloc (Nat.le_refl _) (.cells #[.int .i64 x.k, .int .i64 x.n, .string x.m, .string x.s, .slice a x.ks.length cap] 38)
    exact ⟨hb.os, hb.tape, hb.output, hb.size, fun x hx _ => hb.block x hx⟩)
  clear hx hc
  go_enter Try.func15, Try.ntmps15
  go_wp2_with fail
  go_at_call 43
  refine (markExprS_any _ x c _ lo hi K _ (Nat.lt_succ_self _) HC.out (HX.out.kept ((Below.refl _ _).alloc (Nat.le_refl _) _)) h0 hK).mono ?_
  rintro e w1 ⟨q, rfl, h1, h2, hI⟩
  have HI := Lib.hid (HA0.out.trans hI)
  clear hI
  go_wp2_with fail
  go_ret
  exact ⟨q, rfl, h1, h2, HI.out⟩

end Go.Proofs.Ytlgbkhkmfgdehaa.Ox
