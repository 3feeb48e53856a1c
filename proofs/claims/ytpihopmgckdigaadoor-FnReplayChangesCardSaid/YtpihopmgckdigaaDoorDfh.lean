/-
  What the draw of a change leaves: a change whose name and text are short. Nothing that was in memory changes but the reader.
  Conditions: the bytes that are drawn from and the files can be read, and the files' texts are not longer than 2000 bytes.
  Rows of changes that grow by append, beside a reader: what the draw of changes of files keeps.
  Conditions: none.
  What the draw of files and of changes leaves: files and changes that are not long. Nothing that was in memory changes.
  Conditions: the bytes that are drawn from can be read.
-/
import Derived.Test.YtpihopmgckdigaaDoorDbe
import Derived.Test.YtpihopmgckdigaaDoorJef
import Derived.Test.YtpihopmgckdigaaDoorJgx
namespace Go.Proofs.YtpihopmgckdigaaDoor
open Go.RowKit
set_option linter.unusedVariables false
set_option linter.unusedSimpArgs false

theorem FsAt.dw {w w' : World} {B g L c : Nat} {ls : List Fl} (h : FsAt w ls (.slice (some ⟨g, 0, none⟩) L c)) (hg : ¬ g = B) (hd : Dw B w w') : FsAt w' ls (.slice (some ⟨g, 0, none⟩) L c) := by
  cases h with
  | bare a cap => exact .bare _ _
  | row ls b o cap hbl hl h0 =>
    refine .row ls g 0 c (Nat.lt_of_lt_of_le hbl hd.size) hl (fun i hi => ?_)
    have h := h0 i hi
    exact ⟨(hd.cells.1 g _ hbl hg).trans h.c0, (hd.cells.1 g _ hbl hg).trans h.c1⟩
theorem BxC.dw {w w' : World} {B T : Nat} {n : ByteArray} {f t : Int} {i : ByteArray} (h : BxC w T n f t i) (hT : ¬ T = B) (hd : Dw B w w') : BxC w' T n f t i :=
  h.block (hd.block T h.sz (by simp; omega)) hd.size
theorem bxC_set4 {w : World} {T : Nat} {n0 : ByteArray} {f0 t0 : Int} {i0 : ByteArray} (h : BxC w T n0 f0 t0 i0) (n : ByteArray) (f t : Int) (i : ByteArray) : BxC ((((w.setCell ⟨T, 0, none⟩ (.string n)).setCell ⟨T, 1, none⟩ (.int .i64 f)).setCell ⟨T, 2, none⟩ (.int .i64 t)).setCell ⟨T, 3, none⟩ (.string i)) T n f t i := by
  obtain ⟨c0, c1, c2, c3, f0, f1, f2, f3, z0⟩ := h
  exact ⟨by go_simp, by go_simp, by go_simp, by go_simp, by go_simp, by go_simp, by go_simp, by go_simp, by simpa using z0⟩
/-- What the draw of a change leaves. -/
def CdPost (w : World) (B : Nat) (a : Option Addr) (len cap : Nat) (zs : List Int) (p : Nat) (e : Ending) (w' : World) : Prop :=
  ∃ (x : Ch) (r : Nat), x.n.size ≤ 16 ∧ x.i.size ≤ 16 ∧ r ≤ 7 ∧ e = .returned (.agg #[.string x.n, .int .i64 x.f, .int .i64 x.t, .string x.i]) ∧ Dw B w w' ∧ Rd w' B a len cap zs (p + r)

set_option maxRecDepth 100000 in
set_option maxHeartbeats 1600000 in
theorem l11Edit_any (B : Nat) (a : Option Addr) (len cap : Nat) (zs : List Int) (p : Nat) (w : World) (hr : Rd w B a len cap zs p) (hp : p ≤ 500000) {g L c : Nat} {ls : List Fl} (hL : ls.length = L) (hl : L ≤ 1000)
    (h : FsAt w ls (.slice (some ⟨g, 0, none⟩) L c)) (hg : ¬ g = B) (hsz : ∀ x ∈ ls, x.t.size ≤ 2000) :
    Calls Tryd.prog 22 #[.pointer (some ⟨B, 0, none⟩), .slice (some ⟨g, 0, none⟩) L c] w (CdPost w B a len cap zs p) := by
  have HR := Lib.hid hr
  have HF := Lib.hid h
  have HL := Lib.hid hL
  have HZ := Lib.hid hsz
  have hBw : B < w.heap.size := hr.big
  clear hr h hL hsz
  go_enter Tryd.func22, Tryd.ntmps22
  obtain ⟨T, hT⟩ : ∃ T, w.heap.size = T := ⟨_, rfl⟩
  obtain ⟨W1, hW1⟩ : ∃ W, (w.alloc (.cells #[.string ⟨#[]⟩, .int .i64 0, .int .i64 0, .string ⟨#[]⟩] 56)).alloc (.cells #[.string ⟨#[65]⟩, .string ⟨#[66]⟩, .string ⟨#[65]⟩, .string ⟨#[90]⟩] 9) = W := ⟨_, rfl⟩
  have HS1 : Hid (StrRow W1 (T + 1) 4 16) := Lib.hid (by rw [← hW1, ← hT]; exact strRow_at _ _ _ _ _ _ (by simp) rfl (by kernel_rfl))
  have HD1 : Hid (Dw B w W1) := Lib.hid (by rw [← hW1]; exact ((Dw.refl B w).alloc _).alloc _)
  have HR1 : Hid (Rd W1 B a len cap zs p) := Lib.hid (by rw [← hW1]; exact (HR.out.alloc _).alloc _)
  have HX1 : Hid (BxC W1 T ⟨#[]⟩ 0 0 ⟨#[]⟩) := Lib.hid (by rw [← hW1, ← hT]; exact (BxC.new w ⟨#[]⟩ 0 0 ⟨#[]⟩).kept ((Below.refl _ _).alloc (Nat.le_refl _) _))
  have HW1 := Lib.hid hW1
  have HT := Lib.hid hT
  have hBT : B < T := by omega
  clear hW1
  go_wp2_with fail
  rw [HW1.out]
  try rw [hT]
  clear hT
  go_at_call 32
  refine (of_any B a len cap zs p W1 HR1.out (by omega) (T + 1) 4 4 16 (by omega) (by omega) (by omega) HS1.out).mono ?_
  rintro e w1 ⟨n, hn, rfl, k1, hk1⟩
  have HN := Lib.hid hn
  have HD2 : Hid (Dw B w w1) := Lib.hid (HD1.out.trans (Dw.pick hk1))
  have HR2 := Lib.hid (Rd.picked HR1.out hk1)
  have HX2 := Lib.hid (HX1.out.dw (by omega) (Dw.pick hk1))
  clear hn hk1
  obtain ⟨c0, c1, c2, c3, f0, f1, f2, f3, z0⟩ := HX2.out
  obtain ⟨W2, hW2⟩ : ∃ W, w1.alloc (.cells #[.string n, .int .i64 0, .int .i64 0, .string ⟨#[]⟩] 56) = W := ⟨_, rfl⟩
  obtain ⟨E, hE⟩ : ∃ E, w1.heap.size = E := ⟨_, rfl⟩
  have HX3 : Hid (BxC W2 E n 0 0 ⟨#[]⟩) := Lib.hid (by rw [← hW2, ← hE]; exact BxC.new w1 n 0 0 ⟨#[]⟩)
  have HX4 : Hid (BxC W2 T ⟨#[]⟩ 0 0 ⟨#[]⟩) := Lib.hid (by rw [← hW2]; exact HX2.out.kept ((Below.refl _ _).alloc (Nat.le_refl _) _))
  have hTw : w.heap.size ≤ T := by have := HT.out; omega
  have hTE : T < E := by have := HX2.out.sz; omega
  have HD3 : Hid (Dw B w W2) := Lib.hid (by rw [← hW2]; exact HD2.out.alloc _)
  have HR3 : Hid (Rd W2 B a len cap zs (p + 1)) := Lib.hid (by rw [← hW2]; exact HR2.out.alloc _)
  have HF2 := Lib.hid (HF.out.dw hg HD3.out)
  have HW2 := Lib.hid hW2
  have HE := Lib.hid hE
  clear hW2
  go_wp2_with fail
  rw [HW2.out]
  try rw [hE]
  clear hE
  go_at_call 45
  refine (l5Find_any ls (by have := HL.out; omega) _ n _ HF2.out).mono ?_
  rintro e w3 ⟨k, rfl, hk, rfl⟩
  clear c0 c1 c2 c3 f0 f1 f2 f3 z0
  obtain ⟨c0, c1, c2, c3, f0, f1, f2, f3, z0⟩ := HX3.out
  obtain ⟨_, _, _, _, g0, g1, g2, g3, _⟩ := HX4.out
  obtain ⟨d0, d1, d2, d3, _, _, _, _, _⟩ := HX4.out
  rcases hk with ⟨rfl, _⟩ | ⟨k, hk, rfl, _, _⟩
  · go_wp2_with fail
    exact bodyPost_ret (v := .agg #[.string n, .int .i64 0, .int .i64 0, .string ⟨#[]⟩]) (by simp [results, Tryd.results22, go_sem, d0, d1, d2, d3]) rfl ⟨⟨n, 0, 0, ⟨#[]⟩⟩, 1, HN.out, by show (0 : Nat) ≤ 16; omega, by omega, rfl, ((((HD3.out.setNew hTw _ _).setNew hTw _ _).setNew hTw _ _).setNew hTw _ _), ((((HR3.out.setNew hBT _ _).setNew hBT _ _).setNew hBT _ _).setNew hBT _ _)⟩
  · have hkL : k < L := by rw [← HL.out]; exact hk
    have HK := Lib.hid hk
    obtain ⟨b, o, cap2, ev, hb, hfd⟩ := HF2.out.kid k hk
    injection ev with ev1 ev2 ev3
    injection ev1 with ev1
    injection ev1 with ev1 ev4
    subst ev1 ev4
    have y1 := hfd.c1
    rw [Nat.zero_add] at y1
    obtain ⟨s, hs⟩ : ∃ s, (ls.getD k Fl.dummy).t = s := ⟨_, rfl⟩
    have HSZ : Hid (s.size ≤ 2000) := Lib.hid (by rw [← hs]; exact HZ.out _ (by simp [List.getD, hk]))
    rw [hs] at y1
    have hki : (k : Int) < (L : Int) := by omega
    clear hk hfd hs ev2 ev3
    go_wp2_with fail
    go_at_call 43
    refine (l1Edit_any B a len cap zs (p + 1) s _ HR3.out (by omega) (by have := HSZ.out; omega)).mono ?_
    rintro e w5 ⟨f, t, i, r5, hi, hr5, rfl, hd5, hrd5⟩
    have HI := Lib.hid hi
    have HX5 := Lib.hid (HX3.out.dw (by omega) hd5)
    have HX6 := Lib.hid (HX4.out.dw (by omega) hd5)
    have HD5 := Lib.hid (HD3.out.trans hd5)
    have HR5 := Lib.hid hrd5
    have hEw : w.heap.size ≤ E := by omega
    have hBE : B < E := by omega
    clear c0 c1 c2 c3 f0 f1 f2 f3 z0 g0 g1 g2 g3 d0 d1 d2 d3 y1 hd5 hrd5 hi
    obtain ⟨c0, c1, c2, c3, f0, f1, f2, f3, z0⟩ := HX5.out
    obtain ⟨d0, d1, d2, d3, g0, g1, g2, g3, z1⟩ := HX6.out
    go_wp2_with fail
    exact bodyPost_ret (v := .agg #[.string n, .int .i64 f, .int .i64 t, .string i]) (by have hTE2 : ¬ T = E := (by omega); have hET2 : ¬ E = T := (by omega); simp [results, Tryd.results22, go_sem, d0, d1, d2, d3, hTE2, hET2]) rfl ⟨⟨n, f, t, i⟩, 1 + r5, HN.out, HI.out, by omega, rfl, (((((((HD5.out.setNew hEw _ _).setNew hEw _ _).setNew hEw _ _).setNew hTw _ _).setNew hTw _ _).setNew hTw _ _).setNew hTw _ _), by rw [show p + (1 + r5) = p + 1 + r5 by omega]; exact (((((((HR5.out.setNew hBE _ _).setNew hBE _ _).setNew hBE _ _).setNew hBT _ _).setNew hBT _ _).setNew hBT _ _).setNew hBT _ _)⟩

end Go.Proofs.YtpihopmgckdigaaDoor

namespace Go.Proofs.YtpihopmgckdigaaDoor
open Go.RowKit
set_option linter.unusedVariables false
set_option linter.unusedSimpArgs false

def quadC (x : Ch) : List Value := [.string x.n, .int .i64 x.f, .int .i64 x.t, .string x.i]
def chCells (L : List Ch) : List Value := L.flatMap quadC
theorem chCells_snoc (L : List Ch) (x : Ch) : chCells (L ++ [x]) = chCells L ++ quadC x := by simp [chCells]
theorem chCells_at : ∀ (L : List Ch) (i q : Nat), i < L.length → q < 4 → (chCells L)[i * 4 + q]? = (quadC (L.getD i Ch.dummy))[q]?
  | p :: L, i, q, hi, hq => by
    have e : chCells (p :: L) = quadC p ++ chCells L := rfl
    rw [e]
    cases i with
    | zero =>
      rw [List.getElem?_append_left (by show 0 * 4 + q < 4; omega)]
      simp [List.getD]
    | succ i =>
      have hl : (quadC p).length = 4 := rfl
      rw [List.getElem?_append_right (by rw [hl]; omega), hl, show (i + 1) * 4 + q - 4 = i * 4 + q by omega, chCells_at L i q (by simpa using hi) hq]
      simp [List.getD]
/-- Where the draw of changes stands. -/
structure QG (w : World) (B : Nat) (a : Option Addr) (len cap : Nat) (zs : List Int) (p g c : Nat) (L : List Ch) (W : World) : Prop where
  rd : Rd W B a len cap zs p
  dw : Dw B w W
  own : W.ownsRow w.heap.size 56 4 (.slice (some ⟨g, 0, none⟩) L.length c) L.length (chCells L)
  sz : ∀ x ∈ L, x.n.size ≤ 16 ∧ x.i.size ≤ 16
  h1 : B < w.heap.size
theorem QG.step {w : World} {B : Nat} {a : Option Addr} {len cap : Nat} {zs : List Int} {p p' g c : Nat} {L : List Ch} {W W' : World} (h : QG w B a len cap zs p g c L W) (hd : Dw B W W') (hr : Rd W' B a len cap zs p') : QG w B a len cap zs p' g c L W' := by
  have h1 := h.h1
  exact ⟨hr, h.dw.trans hd, ownStay h.own (fun b h3 h4 => hd.block b h4 (by simp; omega)), h.sz, h1⟩
theorem QG.pick {w : World} {B : Nat} {a : Option Addr} {len cap : Nat} {zs : List Int} {p g c : Nat} {L : List Ch} {W W' : World} (h : QG w B a len cap zs p g c L W) {k : Nat} (hk : W' = (W.setCell ⟨B, 1, none⟩ (.int .i64 ((p : Int) + 1))).drewN k) : QG w B a len cap zs (p + 1) g c L W' :=
  h.step (Dw.pick hk) (h.rd.picked hk)
theorem QG.below {w : World} {B : Nat} {a : Option Addr} {len cap : Nat} {zs : List Int} {p g c : Nat} {L : List Ch} {W W' : World} (h : QG w B a len cap zs p g c L W) (hb : Below W.heap.size W W') : QG w B a len cap zs p g c L W' :=
  h.step (Dw.ofBelow hb) (h.rd.kept (hb.mono (by have := h.rd.big; omega)))
theorem QG.low {w : World} {B : Nat} {a : Option Addr} {len cap : Nat} {zs : List Int} {p g c : Nat} {L : List Ch} {W : World} (h : QG w B a len cap zs p g c L W) : w.heap.size ≤ g ∧ g < W.heap.size := h.own.lt g rfl
theorem QG.push {w : World} {B : Nat} {a : Option Addr} {len cap : Nat} {zs : List Int} {p g c : Nat} {L : List Ch} {W W6 : World} (h : QG w B a len cap zs p g c L W) {o : Obj} {x : Ch} {g6 c6 : Nat} (hx : x.n.size ≤ 16 ∧ x.i.size ≤ 16)
    (hown : W6.ownsRow w.heap.size 56 4 (.slice (some ⟨g6, 0, none⟩) (L.length + 1) c6) (L.length + 1) (chCells L ++ quadC x)) (hg : (W.alloc o).grownBy W6 (some g)) : QG w B a len cap zs p g6 c6 (L ++ [x]) W6 := by
  have h1 := h.h1
  have hlow := h.low
  have hb := h.rd.big
  have hsz : W.heap.size ≤ W6.heap.size := by have := hg.size; simp at this; omega
  have hbl : Below w.heap.size W W6 := below_grown (Below.refl _ _) (Nat.le_trans hlow.1 (Nat.le_of_lt hlow.2)) hg hlow.1
  refine ⟨h.rd.kept (hbl.mono (by omega)), ?_, ?_, fun y hy => ?_, h1⟩
  · have hd := h.dw
    exact ⟨hbl.os.trans hd.os, hbl.tape.trans hd.tape, hbl.output.trans hd.output, Nat.le_trans hd.size hsz, fun q hq hne => (hbl.block q hq).trans (hd.block q hq hne)⟩
  · rw [List.length_append, chCells_snoc]; exact hown
  · rcases List.mem_append.1 hy with hy | hy
    · exact h.sz y hy
    · rw [List.mem_singleton.1 hy]; exact hx
theorem QG.at {w : World} {B : Nat} {a : Option Addr} {len cap : Nat} {zs : List Int} {p g c : Nat} {L : List Ch} {W : World} (h : QG w B a len cap zs p g c L W) (hl : L.length ≤ 1000000) : CsAt W L (.slice (some ⟨g, 0, none⟩) L.length c) := by
  refine .row L g 0 c h.low.2 (by omega) (fun i hi => ?_)
  have hc : ∀ q, q < 4 → W.cell? ⟨g, i * 4 + q, none⟩ = (quadC (L.getD i Ch.dummy))[q]? := fun q hq => (h.own.cellAt _ (by omega)).trans (chCells_at L i q hi hq)
  rw [Nat.zero_add]
  exact ⟨hc 0 (by omega), hc 1 (by omega), hc 2 (by omega), hc 3 (by omega)⟩
theorem infoCh : (Tryd.prog.info? 56).map (fun i => (i.zero, i.size)) = some (some (.agg #[.string ⟨#[]⟩, .int .i64 0, .int .i64 0, .string ⟨#[]⟩]), 4) := by kernel_rfl

end Go.Proofs.YtpihopmgckdigaaDoor

namespace Go.Proofs.YtpihopmgckdigaaDoor
open Go.RowKit
set_option linter.unusedVariables false
set_option linter.unusedSimpArgs false

/-- What the draw of files and of changes leaves. -/
def RdPost (w : World) (e : Ending) (w' : World) : Prop :=
  ∃ (ls : List Fl) (cs : List Ch) (g c g2 c2 : Nat), ls.length ≤ 16 ∧ cs.length ≤ 5 ∧ (∀ x ∈ ls, x.n.size ≤ 200 ∧ x.t.size ≤ 2000) ∧ (∀ x ∈ cs, x.n.size ≤ 16 ∧ x.i.size ≤ 16) ∧
    e = .returned (.tuple #[.slice (some ⟨g, 0, none⟩) ls.length c, .slice (some ⟨g2, 0, none⟩) cs.length c2]) ∧ FsAt w' ls (.slice (some ⟨g, 0, none⟩) ls.length c) ∧ CsAt w' cs (.slice (some ⟨g2, 0, none⟩) cs.length c2) ∧ Below w.heap.size w w' ∧ (ls.length ≤ c ∧ c ≤ 9223372036854775807 ∧ cs.length ≤ c2 ∧ c2 ≤ 9223372036854775807)
theorem own_cap {W : World} {n0 sz n cap : Nat} {e : TypeId} {a : Option Addr} {xs : List Value} (h : W.ownsRow n0 e sz (.slice a n cap) n xs) : n ≤ cap ∧ cap ≤ 9223372036854775807 := by
  obtain ⟨_, ⟨h, rfl⟩ | ⟨g, cap', cur, h, _, _, h1, h2, _⟩⟩ := h
  · injection h with _ _ h; subst h; exact ⟨Nat.le_refl _, by omega⟩
  · injection h with _ _ h; subst h; exact ⟨h1, by unfold maxLen at h2; omega⟩
theorem QF.at {w : World} {B : Nat} {a : Option Addr} {len cap : Nat} {zs : List Int} {p g c : Nat} {L : List Fl} {W : World} (h : QF w B a len cap zs p g c L W) (hl : L.length ≤ 1000000) : FsAt W L (.slice (some ⟨g, 0, none⟩) L.length c) :=
  .row L g 0 c h.low.2 (by omega) (fun i hi => by rw [Nat.zero_add]; exact ⟨(h.cell hi).1, (h.cell hi).2.1⟩)

theorem FsAt.lt {w : World} {g n c : Nat} {ls : List Fl} (h : FsAt w ls (.slice (some ⟨g, 0, none⟩) n c)) : n = 0 ∨ g < w.heap.size := by
  cases h with
  | bare a cap => exact .inl rfl
  | row ls b o cap hbl hl h0 => exact .inr hbl
theorem FsAt.grown {W W6 : World} {g n c g2 : Nat} {o : Obj} {ls : List Fl} (h : FsAt W ls (.slice (some ⟨g, 0, none⟩) n c)) (hg : (W.alloc o).grownBy W6 (some g2)) (hne : n = 0 ∨ ¬ g = g2) : FsAt W6 ls (.slice (some ⟨g, 0, none⟩) n c) := by
  cases h with
  | bare a cap => exact .bare _ _
  | row ls b o2 cap hbl hl h0 =>
    refine .row ls g 0 c (by have := hg.size; simp at this; omega) hl (fun i hi => ?_)
    have hne2 : ¬ g = g2 := hne.resolve_left (by omega)
    have hA := (Below.refl W.heap.size W).alloc (Nat.le_refl _) o
    have hbk : W6.heap[g]? = W.heap[g]? := (hg.block g (by simp; omega) (fun e => by injection e with e; omega)).trans (hA.block g hbl)
    have h := h0 i hi
    exact ⟨(World.cell?_of_block hbk).trans h.c0, (World.cell?_of_block hbk).trans h.c1⟩
theorem upC_small {ls : List Fl} {x : Ch} (h : ∀ y ∈ ls, y.n.size ≤ 200 ∧ y.t.size ≤ 2000) (hok : okC ls x = true) : ∀ y ∈ upC ls x, y.n.size ≤ 200 ∧ y.t.size ≤ 2000 := by
  intro y hy
  unfold okC at hok
  simp only [Bool.and_eq_true] at hok
  unfold upC at hy
  rcases List.mem_or_eq_of_mem_set hy with hy | rfl
  · exact h y hy
  · refine ⟨?_, ftB_size hok.2.2⟩
    by_cases hk : (fdI ls x.n).toNat < ls.length
    · have h3 := h (ls.getD (fdI ls x.n).toNat Fl.dummy) (by simp [List.getD, hk])
      exact h3.1
    · have e : ls.getD (fdI ls x.n).toNat Fl.dummy = Fl.dummy := by simp [List.getD, hk]
      rw [e]
      show (0 : Nat) ≤ 200
      omega
theorem infoChB : (Tryd.prog.info? 56).map (fun i => (i.zero, i.size, i.bytes)) = some (some (.agg #[.string ⟨#[]⟩, .int .i64 0, .int .i64 0, .string ⟨#[]⟩]), 4, 48) := by kernel_rfl

set_option maxRecDepth 100000 in
set_option maxHeartbeats 8000000 in
theorem drawReplayChanges_any (a : Option Addr) (len cap : Nat) (zs : List Int) (w : World) (h : IsRow w a len cap zs) :
    Calls Tryd.prog 6 #[.slice a len cap] w (RdPost w) := by
  have H := Lib.hid h
  clear h
  go_enter Tryd.func6, Tryd.ntmps6
  go_wp2_with fail
  go_at_call 18
  refine (l16Open_any a len cap zs _ H.out).mono ?_
  rintro e w1 ⟨ln, cp, rfl, hr, hb⟩
  obtain ⟨B, hB⟩ : ∃ B, w.heap.size = B := ⟨_, rfl⟩
  rw [hB] at hr ⊢
  have HR1 := Lib.hid hr
  have HB1 : Hid (Below B w w1) := Lib.hid (by rw [← hB]; exact hb)
  have HBB := Lib.hid hB
  clear hr hb hB
  go_wp2_with fail
  go_at_call 20
  refine (l5Draw_any B a ln cp zs 0 w1 HR1.out (by omega)).mono ?_
  rintro e w2 ⟨L1, g1, c1, r1, hl1, hr1, rfl, hq1⟩
  have HQ1 := Lib.hid hq1
  clear hq1
  go_wp2_with fail
  go_at_call 19
  refine (l5Mutate_any B a ln cp zs (0 + r1) w2 HQ1.out.rd (by omega) HQ1.out.own HQ1.out.sz hl1).mono ?_
  rintro e w3 ⟨L, g, c, r2, hl, hr2, rfl, hq2⟩
  have HQ2 := Lib.hid hq2
  obtain ⟨q, hqd⟩ : ∃ q, 0 + r1 + r2 = q := ⟨_, rfl⟩
  have hq33 : q ≤ 40 := by omega
  rw [hqd] at hq2
  have HR3 := Lib.hid hq2.rd
  have HF3 := Lib.hid (hq2.at (by omega))
  have HZ3 := Lib.hid hq2.sz
  have hgS0 : g < w3.heap.size := hq2.low.2
  have HCP3 := Lib.hid (own_cap hq2.own)
  have hgB : ¬ g = B := by have := hq2.low; have := hq2.h1; omega
  have HD3 : Hid (Dw B w1 w3) := Lib.hid (HQ1.out.dw.trans hq2.dw)
  obtain ⟨n, hn⟩ : ∃ n, L.length = n := ⟨_, rfl⟩
  have HN := Lib.hid hn
  rw [hn] at hl HF3 ⊢
  clear hq2 HQ2 hn
  obtain ⟨S, hS⟩ : ∃ S, w3.heap.size = S := ⟨_, rfl⟩
  obtain ⟨W4, hW4⟩ : ∃ W, (w3.alloc (.cells #[] 56)).alloc (.cells #[.int .i64 2, .int .i64 3, .int .i64 1, .int .i64 0, .int .i64 5] 3) = W := ⟨_, rfl⟩
  have HQ4 : Hid (QG w3 B a ln cp zs q S 0 [] W4) := Lib.hid (by
    refine ⟨by rw [← hW4]; exact (HR3.out.alloc _).alloc _, by rw [← hW4]; exact ((Dw.refl B w3).alloc _).alloc _, ?_, fun x hx => (by cases hx), HR3.out.big⟩
    rw [← hW4, ← hS]
    have hown := World.ownsRow_lit (e := 56) (size := 4) (base := w3.heap.size) w3 #[] 0 (Nat.le_refl _) (by decide) rfl
    exact ownStay hown (fun b _ h4 => ((Below.refl _ _).alloc (Nat.le_refl _) _).block b h4))
  have HIR : Hid (IntRow W4 (S + 1) 5 0 5) := Lib.hid (by
    have h := intRow_new (w3.alloc (.cells #[] 56)) #[.int .i64 2, .int .i64 3, .int .i64 1, .int .i64 0, .int .i64 5] 3 5 0 5 rfl (by decide +kernel)
    rw [hW4, size_alloc1, hS] at h
    exact h)
  have hBS : B < S := by rw [← hS]; exact HR3.out.big
  have hgS : n = 0 ∨ ¬ g = S := .inr (by omega)
  obtain ⟨i0, hi0, hz0, hz1, hz2⟩ := info_parts infoChB
  have HW4 := Lib.hid hW4
  have HS := Lib.hid hS
  clear hW4
  go_wp2_with fail
  rw [HW4.out]
  try rw [hS]
  clear hS
  go_at_call 21
  refine (num_any B a ln cp zs q _ HQ4.out.rd (by omega) _ 5 5 0 5 (by omega) (by omega) (by omega) HIR.out).mono ?_
  rintro e w5 ⟨n0, hn0, rfl, k5, hk5⟩
  have HQ5 := Lib.hid (HQ4.out.pick hk5)
  obtain ⟨hn1, hn2⟩ := hn0
  clear hk5
  go_wp2_with fail
  go_loopw [6, 7, 8] (fun ov nv i wr => ∃ (C : List Ch) (g2 c2 : Nat) (ls : List Fl) (gn cn r : Nat) (m : Int), ov = .slice (some ⟨g2, 0, none⟩) C.length c2 ∧ nv = .slice (some ⟨gn, 0, none⟩) n cn ∧ i = .int .i64 m ∧ 0 ≤ m ∧ m + C.length ≤ 5 ∧ r + 8 * m.toNat ≤ 50 ∧ ls.length = n ∧ ¬ gn = B ∧ (n = 0 ∨ ¬ gn = g2) ∧ Hid (∀ x ∈ ls, x.n.size ≤ 200 ∧ x.t.size ≤ 2000) ∧ Hid (FsAt wr ls (.slice (some ⟨gn, 0, none⟩) n cn)) ∧ Hid (QG w3 B a ln cp zs (q + r) g2 c2 C wr)) (fun _ _ i _ => (intOf i).toNat)
  case atStart => exact ⟨[], S, 0, L, g, c, 1, n0, rfl, rfl, rfl, hn1, by simp; omega, by omega, HN.out, hgB, hgS, HZ3, Lib.hid (HF3.out.dw hgB HQ5.out.dw), HQ5⟩
  case round =>
    obtain ⟨C, g2, c2, ls, gn, cn, r, m, rfl, rfl, rfl, hm0, hmC, hr, hls, hgn, hgg, HZ, HF, HQ⟩ := hrel
    have HGG := Lib.hid hgg
    clear hgg
    have HLS := Lib.hid hls
    obtain ⟨jc, hjc⟩ : ∃ j, C.length = j := ⟨_, rfl⟩
    have HJC := Lib.hid hjc
    rw [hjc] at hmC ⊢
    clear hls hjc
    by_cases hlt : 0 < m
    · obtain ⟨m', rfl⟩ : ∃ m' : Nat, m = (m' : Int) + 1 := ⟨(m - 1).toNat, by omega⟩
      go_wp2_with fail
      go_at_call 22
      refine (l11Edit_any B a ln cp zs (q + r) wr HQ.out.rd (by omega) HLS.out (by omega) HF.out hgn (fun x hx => (HZ.out x hx).2)).mono ?_
      rintro e w6 ⟨x, r6, hxn, hxi, hr6, rfl, hd6, hrd6⟩
      have HXN := Lib.hid hxn
      have HXI := Lib.hid hxi
      have HQ6 := Lib.hid (HQ.out.step hd6 hrd6)
      have HF6 := Lib.hid (HF.out.dw hgn hd6)
      obtain ⟨W7, hW7⟩ : ∃ W, w6.alloc (.cells #[.string x.n, .int .i64 x.f, .int .i64 x.t, .string x.i] 56) = W := ⟨_, rfl⟩
      obtain ⟨E, hE⟩ : ∃ E, w6.heap.size = E := ⟨_, rfl⟩
      have HX7 : Hid (BxC W7 E x.n x.f x.t x.i) := Lib.hid (by rw [← hW7, ← hE]; exact BxC.new w6 x.n x.f x.t x.i)
      have HQ7 : Hid (QG w3 B a ln cp zs (q + r + r6) g2 c2 C W7) := Lib.hid (by rw [← hW7]; exact HQ6.out.below ((Below.refl _ _).alloc (Nat.le_refl _) _))
      have HF7 : Hid (FsAt W7 ls (.slice (some ⟨gn, 0, none⟩) n cn)) := Lib.hid (by rw [← hW7]; exact HF6.out.kept ((Below.refl _ _).alloc (Nat.le_refl _) _))
      have HFZ : Hid (FlSz ls) := Lib.hid (fun i hi => ⟨by have := (HZ.out (ls.getD i Fl.dummy) (by simp [List.getD, hi])).1; unfold maxLen; omega, by have := (HZ.out (ls.getD i Fl.dummy) (by simp [List.getD, hi])).2; unfold maxLen; omega⟩)
      have HE := Lib.hid hE
      obtain ⟨b0, b1, b2, b3, _, _, _, _, bz⟩ := HX7.out
      clear hxn hxi hd6 hrd6
      go_wp2_with fail
      clear hW7 hE b0 b1 b2 b3 bz
      go_at_call 23
      refine (l11_any ls n HLS.out (by omega) HFZ.out x (by have := HXN.out; unfold maxLen; omega) (by have := HXI.out; unfold maxLen; omega) gn cn W7 HF7.out).mono ?_
      rintro e w8 ⟨hcase, hb8⟩
      have HQ8 := Lib.hid (HQ7.out.below hb8)
      have HX8 := Lib.hid (HX7.out.kept hb8)
      have HF8 := Lib.hid (HF7.out.kept hb8)
      have HB8 := Lib.hid hb8
      obtain ⟨b0, b1, b2, b3, b4, b5, b6, b7, bz⟩ := HX8.out
      clear hb8
      rcases hcase with ⟨hok, rfl⟩ | ⟨hok, g8, c8, bf, bt, bi, rfl, hfo, h1, h2⟩
      · go_wp2_with fail
        go_at_call 24
        refine (pick_any B a ln cp zs (q + r + r6) 8 _ (HQ8.out.rd.alloc _) (by omega) (by omega) (by omega)).mono ?_
        rintro e w10 ⟨y, hy, rfl, k10, hk10⟩
        have HQ9 := Lib.hid (HQ8.out.below ((Below.refl _ _).alloc (Nat.le_refl _) (.cells #[.string ⟨#[]⟩, .int .i64 0, .int .i64 0, .string ⟨#[]⟩] 56)))
        have HF9 := Lib.hid (HF8.out.kept ((Below.refl _ _).alloc (Nat.le_refl _) (.cells #[.string ⟨#[]⟩, .int .i64 0, .int .i64 0, .string ⟨#[]⟩] 56)))
        have HX9 := Lib.hid (HX8.out.kept ((Below.refl _ _).alloc (Nat.le_refl _) (.cells #[.string ⟨#[]⟩, .int .i64 0, .int .i64 0, .string ⟨#[]⟩] 56)))
        have hEB : ¬ E = B := by have := HQ6.out.rd.big; have := HE.out; omega
        have HQ10 := Lib.hid (HQ9.out.pick hk10)
        have HF10 := Lib.hid (HF9.out.dw hgn (Dw.pick hk10))
        have HX10 := Lib.hid (HX9.out.dw hEB (Dw.pick hk10))
        clear hk10 b0 b1 b2 b3 b4 b5 b6 b7 bz
        obtain ⟨b0, b1, b2, b3, b4, b5, b6, b7, bz⟩ := HX10.out
        by_cases hy0 : y = 0
        · subst hy0
          have HO9 : Hid (w10.ownsRow S 56 4 (.slice (some ⟨g2, 0, none⟩) jc c2) jc (chCells C)) := Lib.hid (by rw [← HJC.out, ← HS.out]; exact HQ10.out.own)
          have hS9 : S ≤ w10.heap.size := by have := HQ10.out.low; have := HS.out; omega
          have HG9 : Hid (n = 0 ∨ ¬ gn = g2) := HGG
          have HL9 : Hid (n = 0 ∨ gn < w10.heap.size) := Lib.hid HF10.out.lt
          go_wp2_with (at_builtin; suffices hgoal : _ ∧ True from hgoal.1)
          refine ⟨?_, trivial⟩
          refine wpList_append_lies _ rfl _ _ 24 rfl S 56 i0 _ 4 48 Tryd.underlying24 hi0 hz0 hz1 hz2 rfl (by omega) (.slice (some ⟨g2, 0, none⟩) jc c2) jc (chCells C) rfl (HO9.out.alloc _) ⟨w10.heap.size, 0, none⟩ 1 1 (quadC x) rfl rfl (World.news_of_block (cs := #[.string x.n, .int .i64 x.f, .int .i64 x.t, .string x.i]) (t := 56) (fr := (0, 0)) (heap_alloc_new w10 _)) (by simp [quadC, Value.oneCell']) (by omega) (by unfold maxLen; omega) (by omega) (by simp; omega) (w10.heap.size + 1) (by simp) ?_
          intro g6 cap6 w11 hown6 hgrow6 hat6 hlt6
          have HQ11 := Lib.hid (HQ10.out.push (x := x) (g6 := g6) (c6 := cap6) ⟨HXN.out, HXI.out⟩ (by rw [HJC.out, HS.out]; exact hown6) hgrow6)
          have HF11 := Lib.hid (HF10.out.grown hgrow6 HG9.out)
          have hG11 : n = 0 ∨ ¬ gn = g6 := by
            rcases HG9.out with h | h
            · exact .inl h
            · rcases HL9.out with h2 | h2
              · exact .inl h2
              · refine .inr ?_
                rcases hat6 with h3 | h3
                · have e2 : g2 = g6 := by simpa [Value.ownBlock] using h3
                  omega
                · omega
          clear hown6 hgrow6 hat6 hlt6
          go_wp2_with fail
          go_roundw
          case rel => exact ⟨C ++ [x], g6, cap6, ls, gn, cn, r + (r6 + 1), m', by rw [List.length_append, HJC.out]; rfl, rfl, by go_num, by omega, by rw [List.length_append, HJC.out]; simp; omega, by omega, HLS.out, hgn, hG11, HZ, HF11, by have h := HQ11; rw [show q + r + r6 + 1 = q + (r + (r6 + 1)) by omega] at h; exact h⟩
          case measure => simp [intOf] <;> omega
        · have c0 : ((y : Int) == 0) = false := by rw [beq_eq_false_iff_ne]; omega
          clear hy0
          go_wp2_with fail
          go_roundw
          case rel => exact ⟨C, g2, c2, ls, gn, cn, r + (r6 + 1), m', by rw [HJC.out], rfl, by go_num, by omega, by rw [HJC.out]; omega, by omega, HLS.out, hgn, HGG.out, HZ, HF10, by have h := HQ10; rw [show q + r + r6 + 1 = q + (r + (r6 + 1)) by omega] at h; exact h⟩
          case measure => simp [intOf] <;> omega
      · rw [HLS.out] at hfo ⊢
        have hg8 : ¬ g8 = B := by have := HQ7.out.rd.big; omega
        have hg82 : ¬ g8 = g2 := by have := HQ7.out.low; omega
        have HZ8 : Hid (∀ y ∈ upC ls x, y.n.size ≤ 200 ∧ y.t.size ≤ 2000) := Lib.hid (upC_small HZ.out hok)
        have HL8 : Hid ((upC ls x).length = n) := Lib.hid (by rw [upC_len]; exact HLS.out)
        obtain ⟨us, hus⟩ : ∃ us, upC ls x = us := ⟨_, rfl⟩
        rw [hus] at hfo HZ8 HL8
        have HFU : Hid (FsAt w8 us (.slice (some ⟨g8, 0, none⟩) n c8)) := Lib.hid (by have h := hfo.at; exact h)
        obtain ⟨W9, hW9⟩ : ∃ W, w8.alloc (.cells #[.string x.n, .int .i64 bf, .int .i64 bt, .string bi] 56) = W := ⟨_, rfl⟩
        have HQ9 : Hid (QG w3 B a ln cp zs (q + r + r6) g2 c2 C W9) := Lib.hid (by rw [← hW9]; exact HQ8.out.below ((Below.refl _ _).alloc (Nat.le_refl _) _))
        have HF9 : Hid (FsAt W9 us (.slice (some ⟨g8, 0, none⟩) n c8)) := Lib.hid (by rw [← hW9]; exact HFU.out.kept ((Below.refl _ _).alloc (Nat.le_refl _) _))
        have HX9 : Hid (BxC W9 E x.n x.f x.t x.i) := Lib.hid (by rw [← hW9]; exact HX8.out.kept ((Below.refl _ _).alloc (Nat.le_refl _) _))
        have HG8 : Hid (n = 0 ∨ ¬ g8 = g2) := Lib.hid (.inr hg82)
        clear b0 b1 b2 b3 b4 b5 b6 b7 bz hok hfo hus
        obtain ⟨b0, b1, b2, b3, b4, b5, b6, b7, bz⟩ := HX9.out
        have HO9 : Hid (W9.ownsRow S 56 4 (.slice (some ⟨g2, 0, none⟩) jc c2) jc (chCells C)) := Lib.hid (by rw [← HJC.out, ← HS.out]; exact HQ9.out.own)
        have hS9 : S ≤ W9.heap.size := by have := HQ9.out.low; have := HS.out; omega
        have HG9 : Hid (n = 0 ∨ ¬ g8 = g2) := HG8
        have HL9 : Hid (n = 0 ∨ g8 < W9.heap.size) := Lib.hid HF9.out.lt
        go_wp2_with (at_builtin; suffices hgoal : _ ∧ True from hgoal.1)
        refine ⟨?_, trivial⟩
        refine wpList_append_lies _ rfl _ _ 24 rfl S 56 i0 _ 4 48 Tryd.underlying24 hi0 hz0 hz1 hz2 rfl (by omega) (.slice (some ⟨g2, 0, none⟩) jc c2) jc (chCells C) rfl (HO9.out.alloc _) ⟨W9.heap.size, 0, none⟩ 1 1 (quadC x) rfl rfl (World.news_of_block (cs := #[.string x.n, .int .i64 x.f, .int .i64 x.t, .string x.i]) (t := 56) (fr := (0, 0)) (heap_alloc_new W9 _)) (by simp [quadC, Value.oneCell']) (by omega) (by unfold maxLen; omega) (by omega) (by simp; omega) (W9.heap.size + 1) (by simp) ?_
        intro g6 cap6 w11 hown6 hgrow6 hat6 hlt6
        have HQ11 := Lib.hid (HQ9.out.push (x := x) (g6 := g6) (c6 := cap6) ⟨HXN.out, HXI.out⟩ (by rw [HJC.out, HS.out]; exact hown6) hgrow6)
        have HF11 := Lib.hid (HF9.out.grown hgrow6 HG9.out)
        have hG11 : n = 0 ∨ ¬ g8 = g6 := by
          rcases HG9.out with h | h
          · exact .inl h
          · rcases HL9.out with h2 | h2
            · exact .inl h2
            · refine .inr ?_
              rcases hat6 with h3 | h3
              · have e2 : g2 = g6 := by simpa [Value.ownBlock] using h3
                omega
              · omega
        clear hown6 hgrow6 hat6 hlt6
        go_wp2_with fail
        go_roundw
        case rel => exact ⟨C ++ [x], g6, cap6, us, g8, c8, r + r6, m', by rw [List.length_append, HJC.out]; rfl, rfl, by go_num, by omega, by rw [List.length_append, HJC.out]; simp; omega, by omega, HL8.out, hg8, hG11, HZ8, HF11, by have h := HQ11; rw [show q + r + r6 = q + (r + r6) by omega] at h; exact h⟩
        case measure => simp [intOf] <;> omega
    · obtain rfl : m = 0 := by omega
      go_wp2_with fail
      go_ret2
      exact ⟨L, C, g, c, g2, c2, by rw [HN.out]; omega, by rw [HJC.out]; omega, HZ3.out, fun x hx => HQ.out.sz x hx, by rw [HN.out, HJC.out]; rfl, by rw [HN.out]; exact HF3.out.dw hgB HQ.out.dw, HQ.out.at (by rw [HJC.out]; omega), by rw [HBB.out]; exact HB1.out.trans ((HD3.out.trans HQ.out.dw).below (Nat.le_refl _) (by have := HR1.out.big; omega)), HCP3.out.1, HCP3.out.2, (own_cap HQ.out.own).1, (own_cap HQ.out.own).2⟩

end Go.Proofs.YtpihopmgckdigaaDoor

