/-
  Rows of edits that grow by append; what the draws of a text and of edits in order leave. Nothing that was in memory changes.
  Conditions: the bytes that are drawn from can be read.
-/
import Derived.Test.YtnnjnkeabljlaaaUd
import Derived.Test.YtnnjnkeabljlaaaIc
import Derived.LoopN
import Derived.OwnWalk
import Derived.Laws.OwnMore
import Derived.Deep.AppendLies
import Derived.Deep.RegionLaw
namespace Go.Proofs.Ytnnjnkeabljlaaa
open Go.RowKit
set_option linter.unusedVariables false
set_option linter.unusedSimpArgs false

def trip (x : Ed) : List Value := [.int .i64 x.f, .int .i64 x.t, .string x.i]
def trips (L : List Ed) : List Value := L.flatMap trip
theorem trips_snoc (L : List Ed) (x : Ed) : trips (L ++ [x]) = trips L ++ trip x := by simp [trips]
theorem trips_at : ∀ (L : List Ed) (i q : Nat), i < L.length → q < 3 → (trips L)[i * 3 + q]? = (trip (L.getD i Ed.dummy))[q]?
  | p :: L, i, q, hi, hq => by
    have e : trips (p :: L) = trip p ++ trips L := rfl
    rw [e]
    cases i with
    | zero =>
      rw [List.getElem?_append_left (by show 0 * 3 + q < 3; omega)]
      simp [List.getD]
    | succ i =>
      have hl : (trip p).length = 3 := rfl
      rw [List.getElem?_append_right (by rw [hl]; omega), hl, show (i + 1) * 3 + q - 3 = i * 3 + q by omega, trips_at L i q (by simpa using hi) hq]
      simp [List.getD]
theorem keepOwn {w w' : World} {B n sz : Nat} {e : TypeId} {v : Value} {xs : List Value} (h : w.ownsRow B e sz v n xs) (hk : ∀ b, B ≤ b → b < w.heap.size → w'.heap[b]? = w.heap[b]?) : w'.ownsRow B e sz v n xs := by
  obtain ⟨hl, h | ⟨g, cap, cur, rfl, hb', hg, h1, h2, h3, h4⟩⟩ := h
  · exact ⟨hl, .inl h⟩
  · exact ⟨hl, .inr ⟨g, cap, cur, rfl, hb', (hk g hb' (Array.getElem?_eq_some_iff.1 hg).1).trans hg, h1, h2, h3, h4⟩⟩
theorem keepOwnAt {w w' : World} {B n sz g c : Nat} {e : TypeId} {xs : List Value} (h : w.ownsRow B e sz (.slice (some ⟨g, 0, none⟩) n c) n xs) (hk : w'.heap[g]? = w.heap[g]?) : w'.ownsRow B e sz (.slice (some ⟨g, 0, none⟩) n c) n xs := by
  obtain ⟨hl, ⟨h, _⟩ | ⟨g2, cap, cur, h, hb', hg, h1, h2, h3, h4⟩⟩ := h
  · cases h
  · cases h
    exact ⟨hl, .inr ⟨g, c, cur, rfl, hb', hk.trans hg, h1, h2, h3, h4⟩⟩
/-- The edits lie in the row, which is the call's own. -/
structure ER (w : World) (B0 g c : Nat) (L : List Ed) : Prop where
  own : w.ownsRow B0 30 3 (.slice (some ⟨g, 0, none⟩) L.length c) L.length (trips L)
  sm : ∀ x ∈ L, x.i.size ≤ 16
theorem ER.low {w : World} {B0 g c : Nat} {L : List Ed} (h : ER w B0 g c L) : B0 ≤ g ∧ g < w.heap.size := h.own.lt g rfl
theorem ER.cap {w : World} {B0 g c : Nat} {L : List Ed} (h : ER w B0 g c L) : L.length ≤ c ∧ c ≤ maxLen := by
  obtain ⟨_, ⟨h, _⟩ | ⟨g2, cap, cur, h, _, _, h1, h2, _⟩⟩ := h.own
  · cases h
  · cases h
    exact ⟨h1, h2⟩
theorem ER.at {w : World} {B0 g c : Nat} {L : List Ed} (h : ER w B0 g c L) (hl : L.length ≤ 1000000) : EsAt w L (.slice (some ⟨g, 0, none⟩) L.length c) := by
  refine .row L g 0 c h.low.2 (by omega) (fun i hi => ?_)
  have hc : ∀ q, q < 3 → w.cell? ⟨g, i * 3 + q, none⟩ = (trip (L.getD i Ed.dummy))[q]? := fun q hq => (h.own.cellAt _ (by omega)).trans (trips_at L i q hi hq)
  rw [Nat.zero_add]
  exact ⟨hc 0 (by omega), hc 1 (by omega), hc 2 (by omega)⟩
/-- Where the draw of such a list stands. -/
structure QE (w : World) (B : Nat) (a : Option Addr) (len cap : Nat) (zs : List Int) (p : Nat) (B0 g c : Nat) (L : List Ed) (W : World) : Prop where
  rd : Rd W B a len cap zs p
  dw : Dw B w W
  er : ER W B0 g c L
  h1 : B < w.heap.size
  h2 : w.heap.size ≤ B0
  h3 : B0 ≤ W.heap.size
theorem QE.step {w : World} {B : Nat} {a : Option Addr} {len cap : Nat} {zs : List Int} {p p' B0 g c : Nat} {L : List Ed} {W W' : World} (h : QE w B a len cap zs p B0 g c L W) (hd : Dw B W W') (hr : Rd W' B a len cap zs p') : QE w B a len cap zs p' B0 g c L W' := by
  have h1 := h.h1; have h2 := h.h2
  exact ⟨hr, h.dw.trans hd, ⟨keepOwn h.er.own (fun b h3 h4 => hd.block b h4 (by simp; omega)), h.er.sm⟩, h1, h2, Nat.le_trans h.h3 hd.size⟩
theorem QE.pick {w : World} {B : Nat} {a : Option Addr} {len cap : Nat} {zs : List Int} {p B0 g c : Nat} {L : List Ed} {W W' : World} (h : QE w B a len cap zs p B0 g c L W) {k : Nat} (hk : W' = (W.setCell ⟨B, 1, none⟩ (.int .i64 ((p : Int) + 1))).drewN k) : QE w B a len cap zs (p + 1) B0 g c L W' :=
  h.step (Dw.pick hk) (h.rd.picked hk)
theorem QE.alloc {w : World} {B : Nat} {a : Option Addr} {len cap : Nat} {zs : List Int} {p B0 g c : Nat} {L : List Ed} {W : World} (h : QE w B a len cap zs p B0 g c L W) (o : Obj) : QE w B a len cap zs p B0 g c L (W.alloc o) :=
  h.step ((Dw.refl B W).alloc o) (h.rd.alloc o)
theorem QE.set3 {w : World} {B : Nat} {a : Option Addr} {len cap : Nat} {zs : List Int} {p B0 g c : Nat} {L : List Ed} {W : World} (h : QE w B a len cap zs p B0 g c L W) {E : Nat} (hE : g < E) (x y z : Value) (hEB : B < E) (hB0 : w.heap.size ≤ E) :
    QE w B a len cap zs p B0 g c L (((W.setCell ⟨E, 0, none⟩ x).setCell ⟨E, 1, none⟩ y).setCell ⟨E, 2, none⟩ z) := by
  have hl := h.er.low
  refine ⟨((h.rd.setNew hEB 0 x).setNew hEB 1 y).setNew hEB 2 z, ((h.dw.setNew hB0 0 x).setNew hB0 1 y).setNew hB0 2 z, ⟨?_, h.er.sm⟩, h.h1, h.h2, by simp; exact h.h3⟩
  refine keepOwnAt h.er.own ?_
  rw [Below.heap_setCell _ _ _ _ (show g ≠ E by omega), Below.heap_setCell _ _ _ _ (show g ≠ E by omega), Below.heap_setCell _ _ _ _ (show g ≠ E by omega)]
theorem grow_oldE {w2 w3 : World} {o : Obj} {row : Option Nat} (hg : (w2.alloc o).grownBy w3 row) {q : Nat} (h1 : q < w2.heap.size) (h2 : ∀ g, row = some g → q ≠ g) : w3.heap[q]? = w2.heap[q]? :=
  (hg.block q (by simp; omega) (fun e => h2 q e.symm rfl)).trans (((Below.refl w2.heap.size w2).alloc (Nat.le_refl _) o).block q h1)
theorem QE.push {w : World} {B : Nat} {a : Option Addr} {len cap : Nat} {zs : List Int} {p B0 g c : Nat} {L : List Ed} {W W6 : World} (h : QE w B a len cap zs p B0 g c L W) {o : Obj} {x : Ed} {g6 c6 : Nat} (hs : x.i.size ≤ 16)
    (hown : W6.ownsRow B0 30 3 (.slice (some ⟨g6, 0, none⟩) (L.length + 1) c6) (L.length + 1) (trips L ++ trip x)) (hg : (W.alloc o).grownBy W6 (some g)) : QE w B a len cap zs p B0 g6 c6 (L ++ [x]) W6 := by
  have h1 := h.h1; have h2 := h.h2
  have hb := h.rd.big
  have hlow := h.er.low
  have hsz : W.heap.size ≤ W6.heap.size := by have := hg.size; simp at this; omega
  have hold : ∀ q, q ≠ g → q < W.heap.size → W6.heap[q]? = W.heap[q]? := fun q h1 h2 => grow_oldE hg h2 (fun x e => by injection e with e; omega)
  have hA := (Below.refl W.heap.size W).alloc (Nat.le_refl _) o
  have hbl : Below w.heap.size W W6 := ⟨hg.os.trans hA.os, hg.tape.trans hA.tape, hg.output.trans hA.output, hsz, fun q hq => hold q (by omega) (by omega)⟩
  refine ⟨h.rd.kept (hbl.mono (by omega)), ?_, ⟨?_, fun y hy => ?_⟩, h1, h2, Nat.le_trans h.h3 hsz⟩
  · have hd := h.dw
    exact ⟨hbl.os.trans hd.os, hbl.tape.trans hd.tape, hbl.output.trans hd.output, Nat.le_trans hd.size hsz, fun q hq hne => (hold q (by omega) (by have := hd.size; omega)).trans (hd.block q hq hne)⟩
  · rw [List.length_append, trips_snoc]; exact hown
  · rcases List.mem_append.1 hy with hy | hy
    · exact h.er.sm y hy
    · rw [List.mem_singleton.1 hy]; exact hs
theorem edAt_put2 {w : World} {E : Nat} {f t : Int} {i : ByteArray} (h : EdAt w E f t i) (v : ByteArray) : EdAt (w.setCell ⟨E, 2, none⟩ (.string v)) E f t v := by
  obtain ⟨a0, a1, a2, b0, b1, b2, sz⟩ := h
  exact ⟨by go_simp, by go_simp, by go_simp, by go_simp, by go_simp, by go_simp, by simpa using sz⟩
theorem infoEd : (Try.prog.info? 30).map (fun i => (i.zero, i.size, i.bytes)) = some (some (.agg #[.int .i64 0, .int .i64 0, .string ⟨#[]⟩]), 3, 32) := by kernel_rfl
/-- What the draw of a text and of edits leaves. -/
def DsPost (w : World) (e : Ending) (w' : World) : Prop :=
  ∃ (s : ByteArray) (L : List Ed) (g c : Nat), s.size ≤ 2010 ∧ L.length ≤ 4 ∧ (∀ x ∈ L, x.i.size ≤ 16) ∧ e = .returned (.tuple #[.string s, .slice (some ⟨g, 0, none⟩) L.length c]) ∧ EsAt w' L (.slice (some ⟨g, 0, none⟩) L.length c) ∧ Below w.heap.size w w' ∧ L.length ≤ c ∧ c ≤ maxLen
theorem sz_small {L : List Ed} (h : ∀ x ∈ L, x.i.size ≤ 16) : EdSz L := by
  intro i hi
  have := h (L.getD i Ed.dummy) (by simp [List.getD, hi])
  unfold maxLen
  omega

set_option maxRecDepth 100000 in
set_option maxHeartbeats 8000000 in
theorem drawEditsInOrder_any (a : Option Addr) (len cap : Nat) (zs : List Int) (w : World) (h : IsRow w a len cap zs) :
    Calls Try.prog 11 #[.slice a len cap] w (DsPost w) := by
  have H := Lib.hid h
  clear h
  go_enter Try.func11, Try.ntmps11
  go_wp2_with fail
  go_at_call 26
  refine (l16Open_any a len cap zs _ H.out).mono ?_
  rintro e w1 ⟨ln, cp, rfl, hr, hb⟩
  obtain ⟨B, hB⟩ : ∃ B, w.heap.size = B := ⟨_, rfl⟩
  rw [hB] at hr ⊢
  have HRD1 := Lib.hid hr
  have HB1 : Hid (Below B w w1) := Lib.hid (by rw [← hB]; exact hb)
  have HBB := Lib.hid hB
  have hBw : B < w1.heap.size := hr.big
  clear hr hb hB
  go_wp2_with fail
  go_at_call 27
  refine (l1Text_any B a ln cp zs 0 w1 HRD1.out (by omega)).mono ?_
  rintro e w2 ⟨s, hs, rfl, hd2, hr2⟩
  have HSZ := Lib.hid hs
  have HD2 := Lib.hid hd2
  have HR2 := Lib.hid hr2
  have hBw2 : w1.heap.size ≤ w2.heap.size := hd2.size
  clear hs hd2 hr2
  obtain ⟨S, hS⟩ : ∃ S, w2.heap.size = S := ⟨_, rfl⟩
  obtain ⟨W4, hW4⟩ : ∃ W, (w2.alloc (.cells #[] 30)).alloc (.cells #[.int .i64 2, .int .i64 3, .int .i64 1, .int .i64 0, .int .i64 4] 3) = W := ⟨_, rfl⟩
  have HQ4 : Hid (QE w1 B a ln cp zs (0 + 2) S S 0 [] W4) := Lib.hid (by
    refine ⟨by rw [← hW4]; exact (HR2.out.alloc _).alloc _, by rw [← hW4]; exact (HD2.out.alloc _).alloc _, ⟨?_, fun x hx => (by cases hx)⟩, hBw, by omega, by rw [← hW4, ← hS]; simp; omega⟩
    rw [← hW4, ← hS]
    have hown := World.ownsRow_lit (e := 30) (size := 3) (base := w2.heap.size) w2 #[] 0 (Nat.le_refl _) (by decide) rfl
    exact keepOwn hown (fun b _ h4 => ((Below.refl _ _).alloc (Nat.le_refl _) _).block b h4))
  have HIR : Hid (IntRow W4 (S + 1) 5 0 4) := Lib.hid (by
    have h := intRow_new (w2.alloc (.cells #[] 30)) #[.int .i64 2, .int .i64 3, .int .i64 1, .int .i64 0, .int .i64 4] 3 5 0 4 rfl (by decide +kernel)
    rw [hW4, size_alloc1, hS] at h
    exact h)
  have HW4 := Lib.hid hW4
  have HS := Lib.hid hS
  have hSB : w1.heap.size ≤ S := by omega
  obtain ⟨i0, hi0, hz0, hz1, hz2⟩ := info_parts infoEd
  clear hW4
  go_wp2_with fail
  rw [HW4.out]
  try rw [hS]
  clear hS
  go_at_call 28
  refine (num_any B a ln cp zs _ _ HQ4.out.rd (by omega) _ 5 5 0 4 (by omega) (by omega) (by omega) HIR.out).mono ?_
  rintro e w5 ⟨n0, hn0, rfl, k5, hk5⟩
  have HQ5 := Lib.hid (HQ4.out.pick hk5)
  obtain ⟨hn1, hn2⟩ := hn0
  clear hk5
  go_wp2_with fail
  go_loopw [6, 7, 8] (fun cv ta i wr => ∃ (L : List Ed) (g c r : Nat) (n t : Int), cv = .slice (some ⟨g, 0, none⟩) L.length c ∧ i = .int .i64 n ∧ ta = .int .i64 t ∧ 0 ≤ n ∧ 0 ≤ t ∧ t + 10 * n ≤ 40 ∧ n + L.length ≤ 4 ∧ r + 10 * n.toNat ≤ 40 ∧ Hid (QE w1 B a ln cp zs (3 + r) S g c L wr)) (fun _ _ i _ => (intOf i).toNat)
  case atStart => exact ⟨[], S, 0, 0, n0, 0, rfl, rfl, rfl, hn1, Int.le_refl 0, by omega, by simp; omega, by omega, HQ5⟩
  case round =>
    obtain ⟨L, g, c, r, n, t, rfl, rfl, rfl, hn0, ht0, htn, hn5, hr, hq⟩ := hrel
    obtain ⟨jl, hjl⟩ : ∃ j, L.length = j := ⟨_, rfl⟩
    have HJL := Lib.hid hjl
    rw [hjl] at hn5 ⊢
    clear hjl
    by_cases hlt : 0 < n
    · obtain ⟨n', rfl⟩ : ∃ n' : Nat, n = (n' : Int) + 1 := ⟨(n - 1).toNat, by omega⟩
      have hr2 : r + 10 * n' + 10 ≤ 40 := by omega
      go_wp2_with fail
      go_at_call 29
      refine (pick_any B a ln cp zs (3 + r) 6 _ hq.out.rd (by omega) (by omega) (by omega)).mono ?_
      rintro e w6 ⟨x, hx, rfl, k6, hk6⟩
      have HQ6 := Lib.hid (hq.out.pick hk6)
      clear hk6
      obtain ⟨f, hf⟩ : ∃ f : Int, t + (x : Int) = f := ⟨_, rfl⟩
      have s1 : IntKind.i64.wrap (t + (x : Int)) = f := by rw [hf]; exact IntWalk.i64_in _ (by omega)
      have hf0 : 0 ≤ f := by omega
      have hf1 : f ≤ t + 5 := by omega
      clear hf
      go_wp2_with fail
      go_at_call 28
      refine (num_any B a ln cp zs (3 + r + 1) _ (HQ6.out.rd.alloc _) (by omega) _ 3 3 0 3 (by omega) (by omega) HQ6.out.rd.ne (intRow_new _ _ _ 3 0 3 rfl (by decide +kernel))).mono ?_
      rintro e w7 ⟨m, ⟨hm0, hm3⟩, rfl, k7, hk7⟩
      have HQ7 := Lib.hid ((HQ6.out.alloc _).pick hk7)
      clear hk7
      obtain ⟨u, hu⟩ : ∃ u : Int, f + m = u := ⟨_, rfl⟩
      have s2 : IntKind.i64.wrap (f + m) = u := by rw [hu]; exact IntWalk.i64_in _ (by omega)
      have hu0 : 0 ≤ u := by omega
      have hu1 : u ≤ t + 8 := by omega
      clear hu
      go_wp2_with fail
      go_at_call 30
      refine (l1Insert_any B a ln cp zs _ w7 HQ7.out.rd (by omega)).mono ?_
      rintro e w8 ⟨i, hi, rfl, hd8, hr8⟩
      have HQ8 := Lib.hid (HQ7.out.step hd8 hr8)
      have HI := Lib.hid hi
      clear hd8 hr8 hi
      obtain ⟨W9, hW9⟩ : ∃ W, w8.alloc (.cells #[.int .i64 f, .int .i64 u, .string i] 30) = W := ⟨_, rfl⟩
      obtain ⟨E, hE⟩ : ∃ E, w8.heap.size = E := ⟨_, rfl⟩
      have HE9 : Hid (EdAt W9 E f u i) := Lib.hid (by rw [← hW9, ← hE]; exact edAt_new w8 f u i 30)
      have HQ9 := Lib.hid (HQ8.out.alloc (.cells #[.int .i64 f, .int .i64 u, .string i] 30))
      rw [hW9] at HQ9
      have hgE : g < E := by rw [← hE]; exact HQ8.out.er.low.2
      have hSE : S ≤ E := by rw [← hE]; exact HQ8.out.h3
      have HW9 := Lib.hid hW9
      obtain ⟨e0, e1, e2, e3, e4, e5, e6⟩ := HE9.out
      clear hW9
      go_wp2_with fail
      rw [HW9.out]
      try rw [hE]
      clear hE
      go_at_call 29
      refine (pick_any B a ln cp zs _ 16 W9 HQ9.out.rd (by omega) (by omega) (by omega)).mono ?_
      rintro e w10 ⟨y, hy, rfl, k10, hk10⟩
      have HQ10 := Lib.hid (HQ9.out.pick hk10)
      have HE10 := Lib.hid (HE9.out.kept (Dw.pick hk10) (show ¬ E = B by omega))
      clear hk10 hy e0 e1 e2 e3 e4 e5 e6
      by_cases y0 : y = 0
      case pos =>
        have c0 : ((y : Int) == 0) = true := by rw [beq_iff_eq]; omega
        clear y0
        obtain ⟨e0, e1, e2, e3, e4, e5, e6⟩ := HE10.out
        go_wp2_with fail
        go_at_call 31
        refine (l1Edit_any B a ln cp zs _ s w10 HQ10.out.rd (by omega) (by have := HSZ.out; omega)).mono ?_
        rintro e w11 ⟨f2, u2, i2, r11, hi2, hr11, rfl, hd11, hrd11⟩
        have HI2 := Lib.hid hi2
        have HQ11 := Lib.hid (HQ10.out.step hd11 hrd11)
        have HE11 := Lib.hid (HE10.out.kept hd11 (show ¬ E = B by omega))
        clear hd11 hrd11 hi2 e0 e1 e2 e3 e4 e5 e6
        obtain ⟨W12, hW12⟩ : ∃ W, ((w11.setCell ⟨E, 0, none⟩ (.int .i64 f2)).setCell ⟨E, 1, none⟩ (.int .i64 u2)).setCell ⟨E, 2, none⟩ (.string i2) = W := ⟨_, rfl⟩
        have HE12 : Hid (EdAt W12 E f2 u2 i2) := Lib.hid (by rw [← hW12]; exact edAt_put2 ((HE11.out.set0 f2).set1 u2) i2)
        have HQ12 := Lib.hid (HQ11.out.set3 hgE (.int .i64 f2) (.int .i64 u2) (.string i2) (by omega) (by omega))
        rw [hW12] at HQ12
        have HW12 := Lib.hid hW12
        obtain ⟨e0, e1, e2, e3, e4, e5, e6⟩ := HE11.out
        clear hW12
        have HO12 : Hid (W12.ownsRow S 30 3 (.slice (some ⟨g, 0, none⟩) jl c) jl (trips L)) := Lib.hid (by rw [← HJL.out]; exact HQ12.out.er.own)
        have hz12 : S ≤ W12.heap.size := HQ12.out.h3
        go_wp2_with (at_builtin; suffices hgoal : _ ∧ True from hgoal.1)
        rw [HW12.out]
        have hsz12 : w11.heap.size = W12.heap.size := by rw [← HW12.out]; simp
        rw [hsz12]
        clear hsz12
        refine ⟨?_, trivial⟩
        refine wpList_append_lies _ rfl _ _ 23 rfl S 30 i0 _ 3 32 Try.underlying23 hi0 hz0 hz1 hz2 rfl (by omega) (.slice (some ⟨g, 0, none⟩) jl c) jl (trips L) rfl (HO12.out.alloc _) ⟨W12.heap.size, 0, none⟩ 1 1 [.int .i64 f2, .int .i64 u2, .string i2] rfl rfl (World.news_of_block (cs := #[.int .i64 f2, .int .i64 u2, .string i2]) (t := 30) (fr := (0, 0)) (heap_alloc_new W12 _)) (by simp [Value.oneCell']) (by omega) (by unfold maxLen; omega) (by omega) (by simp; omega) (W12.heap.size + 1) (by simp) ?_
        intro g6 cap6 w13 hown6 hgrow6 hat6 hlt6
        have HQ13 := Lib.hid (HQ12.out.push (x := ⟨f2, u2, i2⟩) (g6 := g6) (c6 := cap6) HI2.out (by rw [HJL.out]; exact hown6) hgrow6)
        clear hown6 hgrow6 hat6 hlt6 e0 e1 e2 e3 e4 e5 e6
        go_wp2_with fail
        go_roundw
        case rel => exact ⟨L ++ [⟨f2, u2, i2⟩], g6, cap6, r + 4 + r11, n', u, by rw [List.length_append, HJL.out]; rfl, by go_num, rfl, by omega, by omega, by omega, by rw [List.length_append, HJL.out]; simp; omega, by omega, by have h := HQ13; rw [show 3 + r + 1 + 1 + 1 + 1 + r11 = 3 + (r + 4 + r11) by omega] at h; exact h⟩
        case measure => simp [intOf] <;> omega
      case neg =>
        have c0 : ((y : Int) == 0) = false := by rw [beq_eq_false_iff_ne]; omega
        clear y0
        obtain ⟨e0, e1, e2, e3, e4, e5, e6⟩ := HE10.out
        have HO10 : Hid (w10.ownsRow S 30 3 (.slice (some ⟨g, 0, none⟩) jl c) jl (trips L)) := Lib.hid (by rw [← HJL.out]; exact HQ10.out.er.own)
        have hz10 : S ≤ w10.heap.size := HQ10.out.h3
        go_wp2_with (at_builtin; suffices hgoal : _ ∧ True from hgoal.1)
        refine ⟨?_, trivial⟩
        refine wpList_append_lies _ rfl _ _ 23 rfl S 30 i0 _ 3 32 Try.underlying23 hi0 hz0 hz1 hz2 rfl (by omega) (.slice (some ⟨g, 0, none⟩) jl c) jl (trips L) rfl (HO10.out.alloc _) ⟨w10.heap.size, 0, none⟩ 1 1 [.int .i64 f, .int .i64 u, .string i] rfl rfl (World.news_of_block (cs := #[.int .i64 f, .int .i64 u, .string i]) (t := 30) (fr := (0, 0)) (heap_alloc_new w10 _)) (by simp [Value.oneCell']) (by omega) (by unfold maxLen; omega) (by omega) (by simp; omega) (w10.heap.size + 1) (by simp) ?_
        intro g6 cap6 w13 hown6 hgrow6 hat6 hlt6
        have HQ13 := Lib.hid (HQ10.out.push (x := ⟨f, u, i⟩) (g6 := g6) (c6 := cap6) HI.out (by rw [HJL.out]; exact hown6) hgrow6)
        clear hown6 hgrow6 hat6 hlt6 e0 e1 e2 e3 e4 e5 e6
        go_wp2_with fail
        go_roundw
        case rel => exact ⟨L ++ [⟨f, u, i⟩], g6, cap6, r + 4, n', u, by rw [List.length_append, HJL.out]; rfl, by go_num, rfl, by omega, by omega, by omega, by rw [List.length_append, HJL.out]; simp; omega, by omega, by have h := HQ13; rw [show 3 + r + 1 + 1 + 1 + 1 = 3 + (r + 4) by omega] at h; exact h⟩
        case measure => simp [intOf] <;> omega
    · obtain rfl : n = 0 := by omega
      go_wp2_with fail
      go_ret2
      exact ⟨s, L, g, c, HSZ.out, by rw [HJL.out]; omega, hq.out.er.sm, by rw [HJL.out]; rfl, by have := hq.out.er.at (by rw [HJL.out]; omega); exact this, by rw [HBB.out]; exact HB1.out.trans (hq.out.dw.below (Nat.le_refl _) (by omega)), by rw [HJL.out]; have := hq.out.er.cap; rw [HJL.out] at this; exact this⟩

set_option maxRecDepth 100000 in
theorem drawApplyAll_any (a : Option Addr) (len cap : Nat) (zs : List Int) (w : World) (h : IsRow w a len cap zs) :
    Calls Try.prog 7 #[.slice a len cap] w (DsPost w) := by
  have H := Lib.hid h
  clear h
  go_enter Try.func7, Try.ntmps7
  go_wp2_with fail
  go_at_call 11
  refine (drawEditsInOrder_any a len cap zs _ H.out).mono ?_
  rintro e w1 ⟨s, L, g, c, h1, h2, h3, rfl, h4, h5, h6⟩
  go_wp2_with fail
  go_ret2
  exact ⟨s, L, g, c, h1, h2, h3, rfl, h4, h5, h6⟩

end Go.Proofs.Ytnnjnkeabljlaaa
