/-
  FormatType of the program and of the model: for every type in memory, its text, or the empty one if it is not valid; what was in memory stays.
-/
import Derived.Test.YtncpakpamfocbabZi
import Derived.Test.YtncpakpamfocbabZh
namespace Go.Proofs.Ytncpakpamfocbab
open Go.RowKit

theorem tvT_shp {t : Ty} (h : tvT t = true) : shp 16 t = true := by
  rcases hs : shp 16 t with _ | _
  · rw [tvT_no hs] at h; cases h
  · rfl
/-- The text that FormatType returns. -/
def fmtT (t : Ty) : ByteArray := if tvT t = true then txt 16 t else ⟨#[]⟩
theorem fmtT_no {t : Ty} (h : tvT t = false) : fmtT t = ⟨#[]⟩ := by unfold fmtT; rw [if_neg (by rw [h]; decide)]
theorem fmtT_yes {t : Ty} (h : tvT t = true) : fmtT t = txt 16 t := by unfold fmtT; rw [if_pos h]

theorem typeText_val {t : Ty} {s : ByteArray} (hs : shp 16 t = true) (ht : txt 16 t = s) (v : Value) (w : World) (hx : TyAt w t v) :
    Calls Try.prog 57 #[.agg #[.int .i64 t.k, .int .i64 t.n, v]] w (TextIs s w) := by
  subst ht; exact typeText_any 16 t v w (by omega) hs hx
theorem typeValid_impl_val {t : Ty} {b : Bool} (hb : tvT t = b) (v : Value) (w : World) (hx : TyAt w t v) :
    Calls Try.prog 42 #[.agg #[.int .i64 t.k, .int .i64 t.n, v]] w fun e w' => e = .returned (.bool b) ∧ Below w.heap.size w w' := by
  subst hb; exact typeValid_impl t v w hx
set_option maxRecDepth 100000 in
set_option maxHeartbeats 1000000 in
theorem formatType_impl_val {t : Ty} {s : ByteArray} (ht : fmtT t = s) (v : Value) (w : World) (hx : TyAt w t v) :
    Calls Try.prog 25 #[.agg #[.int .i64 t.k, .int .i64 t.n, v]] w fun e w' => e = .returned (.string s) ∧ Below w.heap.size w w' := by
  obtain ⟨a, cap, rfl, hlen⟩ := hx.slice
  have HX := Lib.hid hx
  clear hx
  have HP0 := Lib.hid (tbox_new w (.int .i64 t.k) (.int .i64 t.n) (.slice a t.ks.length cap) 29)
  have HA0 : Hid (Below w.heap.size w (w.alloc (.cells #[.int .i64 t.k, .int .i64 t.n, .slice a t.ks.length cap] 29))) := Lib.hid ((Below.refl _ _).alloc (Nat.le_refl _) _)
  rcases hv : tvT t with _ | _
  · have HV := Lib.hid hv
    have HS : Hid (s = ⟨#[]⟩) := Lib.hid (by rw [← ht, fmtT_no hv])
    clear hv ht
    go_enter Try.func25, Try.ntmps25
    go_wp2_with fail
    go_at_call 42
    refine (typeValid_impl_val HV.out _ _ (HX.out.kept HA0.out)).mono ?_
    rintro e w1 ⟨rfl, hb1⟩
    have H1 := Lib.hid (HA0.out.trans (hb1.mono HA0.out.size))
    clear hb1
    go_wp2_with fail
    go_ret
    exact ⟨by rw [HS.out]; rfl, H1.out⟩
  · have HV := Lib.hid hv
    have HS : Hid (txt 16 t = s) := Lib.hid (by rw [← ht, fmtT_yes hv])
    have HSH := Lib.hid (tvT_shp hv)
    clear hv ht
    go_enter Try.func25, Try.ntmps25
    go_wp2_with fail
    go_at_call 42
    refine (typeValid_impl_val HV.out _ _ (HX.out.kept HA0.out)).mono ?_
    rintro e w1 ⟨rfl, hb1⟩
    have HP1 := Lib.hid (HP0.out.kept hb1)
    have H1 := Lib.hid (HA0.out.trans (hb1.mono HA0.out.size))
    clear hb1
    obtain ⟨p0, p1, p2, pz⟩ := HP1.out
    go_wp2_with fail
    go_at_call 57
    refine (typeText_val HSH.out HS.out _ _ (HX.out.kept H1.out)).mono ?_
    rintro e w2 ⟨rfl, hb2⟩
    have H2 := Lib.hid (H1.out.trans (hb2.mono H1.out.size))
    clear hb2
    go_wp2_with fail
    go_ret
    exact ⟨rfl, H2.out⟩
theorem formatType_impl (t : Ty) (v : Value) (w : World) (hx : TyAt w t v) :
    Calls Try.prog 25 #[.agg #[.int .i64 t.k, .int .i64 t.n, v]] w fun e w' => e = .returned (.string (fmtT t)) ∧ Below w.heap.size w w' := formatType_impl_val rfl v w hx

theorem typeValid_spec_val {t : Ty} {b : Bool} (hb : tvT t = b) (v : Value) (w : World) (hx : TyAt w t v) :
    Calls Try.prog 40 #[.agg #[.int .i64 t.k, .int .i64 t.n, v]] w fun e w' => e = .returned (.bool b) ∧ Below w.heap.size w w' := by
  subst hb; exact typeValid_spec t v w hx
end Go.Proofs.Ytncpakpamfocbab
