/-
  FormatType of the program and of the model: for every type in memory, its text, or the empty one if it is not valid; what was in memory stays.
-/
import Derived.Test.YtjciindcdcgclaaZi
import Derived.Test.YtjciindcdcgclaaZh
namespace Go.Proofs.Ytjciindcdcgclaa
open Go.RowKit

theorem tvT_shp {t : Ty} (h : tvT t = true) : shp 16 t = true := by
  rcases hs : shp 16 t with _ | _
  · rw [tvT_no hs] at h; cases h
  · rfl
/-- The text that FormatType returns. -/
def fmtT (t : Ty) : ByteArray := if tvT t = true then txt 16 t else ⟨#[]⟩
theorem fmtT_no {t : Ty} (h : tvT t = false) : fmtT t = ⟨#[]⟩ := by unfold fmtT; rw [if_neg (by rw [h]; decide)]
theorem fmtT_yes {t : Ty} (h : tvT t = true) : fmtT t = txt 16 t := by unfold fmtT; rw [if_pos h]

theorem typeValid_impl_val {t : Ty} {b : Bool} (hb : tvT t = b) (v : Value) (w : World) (hx : TyAt w t v) :
    Calls Try.prog 44 #[.agg #[.int .i64 t.k, .int .i64 t.n, v]] w fun e w' => e = .returned (.bool b) ∧ Below w.heap.size w w' := by
  subst hb; exact typeValid_impl t v w hx
theorem typeValid_spec_val {t : Ty} {b : Bool} (hb : tvT t = b) (v : Value) (w : World) (hx : TyAt w t v) :
    Calls Try.prog 46 #[.agg #[.int .i64 t.k, .int .i64 t.n, v]] w fun e w' => e = .returned (.bool b) ∧ Below w.heap.size w w' := by
  subst hb; exact typeValid_spec t v w hx
end Go.Proofs.Ytjciindcdcgclaa
