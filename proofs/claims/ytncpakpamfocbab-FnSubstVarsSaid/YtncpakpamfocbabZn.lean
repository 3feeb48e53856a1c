/-
  TypeVars of the program and of the model: for every type in memory, its variables in a new slice; the exact laws' functions on slices of numbers.
-/
import Derived.Test.YtncpakpamfocbabZm
import Derived.Test.YtncpakpamfocbabZj
namespace Go.Proofs.Ytncpakpamfocbab
open Go.RowKit

theorem ints_base {w : World} {B C : Nat} {v : Value} {l : List Int} (h : IntsAt w B v l) (hb : C ≤ B) : IntsAt w C v l := by
  obtain ⟨hl, h | ⟨g, cap, cur, rfl, hb', ho, h1, h2, h3, h4⟩⟩ := h
  · exact ⟨hl, .inl h⟩
  · exact ⟨hl, .inr ⟨g, cap, cur, rfl, by omega, ho, h1, h2, h3, h4⟩⟩
/-- The numbers that TypeVars returns. -/
def varsT (t : Ty) : List Int := if tvT t = true then vars 16 t [] else []
theorem varsT_no {t : Ty} (h : tvT t = false) : varsT t = [] := by unfold varsT; rw [if_neg (by rw [h]; decide)]
theorem varsT_yes {t : Ty} (h : tvT t = true) : varsT t = vars 16 t [] := by unfold varsT; rw [if_pos h]
theorem varsT_len (t : Ty) : (varsT t).length ≤ 65536 := by
  rcases h : tvT t with _ | _
  · rw [varsT_no h]; simp
  · rw [varsT_yes h]
    have h1 := vars_len 16 t []
    have h2 := nd_le (by omega) (tvT_shp h)
    simp at h1
    omega
def IntsPost (l : List Int) (w : World) (e : Ending) (w' : World) : Prop := ∃ v, e = .returned v ∧ IntsAt w' w.heap.size v l ∧ Below w.heap.size w w'
theorem addVars_val {t : Ty} {l : List Int} (hs : shp 16 t = true) (hl : vars 16 t [] = l) (v lv : Value) (w0 w : World) (hx : TyAt w0 t v) (hb : Below w0.heap.size w0 w) (hi : IntsAt w w0.heap.size lv []) :
    Calls Try.prog 67 #[lv, .agg #[.int .i64 t.k, .int .i64 t.n, v]] w (VarsPost w0 w l) := by
  subst hl; exact addVars_any w0 16 t v lv [] w (by omega) hs hx hb hi (by have := nd_le (by omega) hs; simp; omega)
theorem l2Vars_val {t : Ty} {l : List Int} (hs : shp 16 t = true) (hl : vars 16 t [] = l) (v lv : Value) (w0 w : World) (hx : TyAt w0 t v) (hb : Below w0.heap.size w0 w) (hi : IntsAt w w0.heap.size lv []) :
    Calls Try.prog 77 #[lv, .agg #[.int .i64 t.k, .int .i64 t.n, v]] w (VarsPost w0 w l) := by
  subst hl; exact l2Vars_any w0 16 t v lv [] w (by omega) hs hx hb hi (by have := nd_le (by omega) hs; simp; omega)

set_option maxRecDepth 100000 in
set_option maxHeartbeats 1000000 in
theorem typeVars_impl {t : Ty} {l : List Int} (ht : varsT t = l) (v : Value) (w : World) (hx : TyAt w t v) :
    Calls Try.prog 30 #[.agg #[.int .i64 t.k, .int .i64 t.n, v]] w (IntsPost l w) := by
  obtain ⟨a, cap, rfl, hlen⟩ := hx.slice
  have HX := Lib.hid hx
  clear hx
  have HP0 := Lib.hid (tbox_new w (.int .i64 t.k) (.int .i64 t.n) (.slice a t.ks.length cap) 29)
  have HA0 : Hid (Below w.heap.size w (w.alloc (.cells #[.int .i64 t.k, .int .i64 t.n, .slice a t.ks.length cap] 29))) := Lib.hid ((Below.refl _ _).alloc (Nat.le_refl _) _)
  rcases hv : tvT t with _ | _
  · have HV := Lib.hid hv
    have HS : Hid (l = []) := Lib.hid (by rw [← ht, varsT_no hv])
    clear hv ht
    go_enter Try.func30, Try.ntmps30
    go_wp2_with fail
    go_at_call 42
    refine (typeValid_impl_val HV.out _ _ (HX.out.kept HA0.out)).mono ?_
    rintro e w1 ⟨rfl, hb1⟩
    have H1 := Lib.hid (HA0.out.trans (hb1.mono HA0.out.size))
    clear hb1
    go_wp2_with fail
    go_ret
    exact ⟨_, rfl, by rw [HS.out]; exact World.ownsRow_nil _ _ _ _, H1.out⟩
  · have HV := Lib.hid hv
    have HS : Hid (vars 16 t [] = l) := Lib.hid (by rw [← ht, varsT_yes hv])
    have HSH := Lib.hid (tvT_shp hv)
    clear hv ht
    go_enter Try.func30, Try.ntmps30
    go_wp2_with fail
    go_at_call 42
    refine (typeValid_impl_val HV.out _ _ (HX.out.kept HA0.out)).mono ?_
    rintro e w1 ⟨rfl, hb1⟩
    have HP1 := Lib.hid (HP0.out.kept hb1)
    have H1 := Lib.hid (HA0.out.trans (hb1.mono HA0.out.size))
    clear hb1
    obtain ⟨p0, p1, p2, pz⟩ := HP1.out
    go_wp2_with fail
    go_at_call 67
    refine (addVars_val HSH.out HS.out _ _ w1 w1 (HX.out.kept H1.out) (Below.refl _ _) (World.ownsRow_nil _ _ _ _)).mono ?_
    rintro e w2 ⟨lv, rfl, hi2, hb2, _⟩
    have H2 := Lib.hid (H1.out.trans (hb2.mono H1.out.size))
    have HI2 := Lib.hid (ints_base hi2 H1.out.size)
    clear hb2 hi2
    go_wp2_with fail
    go_ret
    exact ⟨_, rfl, HI2.out, H2.out⟩

/-- The marks from K on. -/
def marksI (K L : Nat) : List Int := (List.range L).map fun i => ((K + i : Nat) : Int)
theorem marksI_len (K L : Nat) : (marksI K L).length = L := by unfold marksI; simp

end Go.Proofs.Ytncpakpamfocbab
