/-
  What the draws of files begin with: lists of files with some texts, in rows of the call's own. Nothing that was in memory changes.
  Conditions: the texts can be read and are not longer than 2000 bytes.
  Files out of a row of texts, in a row of the call's own. Nothing that was in memory changes.
  Conditions: the texts can be read.
  What the draw of files leaves: files in a row of the call's own, with names and texts that are not long. Nothing that was in memory changes but the reader.
  Conditions: the bytes that are drawn from can be read.
  What the change of drawn files leaves: files in a row of the call's own. Nothing that was in memory changes but the reader.
  Conditions: the bytes that are drawn from can be read; the files that come in can be read and are not long.
-/
import Derived.Test.YtpihopmgckdigaaDoorJa
import Derived.Test.YtpihopmgckdigaaDoorUd
import Derived.LoopN
import Derived.OwnWalk
import Derived.Laws.OwnMore
import Derived.Deep.AppendLies
import Derived.Deep.RegionLaw
import Derived.Test.YtpihopmgckdigaaDoorTd
import Derived.Test.YtpihopmgckdigaaDoorLc
import Derived.Deep.DeepCutAuto
import Derived.Deep.RegionHeld3
namespace Go.Proofs.YtpihopmgckdigaaDoor
open Go.RowKit
set_option linter.unusedVariables false
set_option linter.unusedSimpArgs false

theorem StrRow.later {w : World} {N m M : Nat} (h : StrRow w N m M) (hN : N < w.heap.size) (o : Obj) : StrRow (w.alloc o) N m M := fun i hi => by
  obtain ⟨s, hs, hc⟩ := h i hi
  exact ⟨s, hs, (((Below.refl w.heap.size w).alloc (Nat.le_refl _) o).cell (p := ⟨N, i, none⟩) hN).trans hc⟩
theorem StrRow.old {w w' : World} {N m M B : Nat} (h : StrRow w N m M) (hN : N < B) (hb : Below B w w') : StrRow w' N m M := fun i hi => by
  obtain ⟨s, hs, hc⟩ := h i hi
  exact ⟨s, hs, (hb.cell (p := ⟨N, i, none⟩) hN).trans hc⟩
theorem strRow_at (w : World) (cs : Array Value) (T : TypeId) (m M N : Nat) (hN : w.heap.size = N) (hm : cs.size = m) (h : cs.all (strOk M) = true) : StrRow (w.alloc (.cells cs T)) N m M := by
  subst hN; exact strRow_new w cs T m M hm h
/-- A row of texts that were made anew. -/
def SetsPost (w : World) (e : Ending) (w' : World) : Prop :=
  ∃ N m : Nat, m ≤ 16 ∧ e = .returned (.slice (some ⟨N, 0, none⟩) m m) ∧ N < w'.heap.size ∧ StrRow w' N m 200 ∧ Below w.heap.size w w'
theorem allocs9 (w : World) (a b c d e f g h i : Obj) : Below w.heap.size w (((((((((w.alloc a).alloc b).alloc c).alloc d).alloc e).alloc f).alloc g).alloc h).alloc i) :=
  (((((((((Below.refl w.heap.size w).alloc (Nat.le_refl _) a).alloc (by simp) b).alloc (by simp; omega) c).alloc (by simp; omega) d).alloc (by simp; omega) e).alloc (by simp; omega) f).alloc (by simp; omega) g).alloc (by simp; omega) h).alloc (by simp; omega) i
set_option maxRecDepth 100000 in
set_option maxHeartbeats 8000000 in
theorem l5Sets_any (k : Nat) (hk : k < 8) (w : World) : Calls Tryd.prog 41 #[.int .i64 (k : Int)] w (SetsPost w) := by
  have hk8 : k = 0 ∨ k = 1 ∨ k = 2 ∨ k = 3 ∨ k = 4 ∨ k = 5 ∨ k = 6 ∨ k = 7 := by omega
  clear hk
  go_enter Tryd.func41, Tryd.ntmps41
  rcases hk8 with rfl | rfl | rfl | rfl | rfl | rfl | rfl | rfl
  all_goals go_wp2
  all_goals go_ret
  · exact ⟨_, _, by omega, rfl, by simp only [size_alloc1]; omega, ((((((((strRow_at _ _ _ _ _ _ (by first | rfl | simp only [size_alloc1]) rfl (by kernel_rfl)).later (by simp only [size_alloc1]; omega) _).later (by simp only [size_alloc1]; omega) _).later (by simp only [size_alloc1]; omega) _).later (by simp only [size_alloc1]; omega) _).later (by simp only [size_alloc1]; omega) _).later (by simp only [size_alloc1]; omega) _).later (by simp only [size_alloc1]; omega) _).later (by simp only [size_alloc1]; omega) _, allocs9 w _ _ _ _ _ _ _ _ _⟩
  · exact ⟨_, _, by omega, rfl, by simp only [size_alloc1]; omega, (((((((strRow_at _ _ _ _ _ _ (by first | rfl | simp only [size_alloc1]) rfl (by kernel_rfl)).later (by simp only [size_alloc1]; omega) _).later (by simp only [size_alloc1]; omega) _).later (by simp only [size_alloc1]; omega) _).later (by simp only [size_alloc1]; omega) _).later (by simp only [size_alloc1]; omega) _).later (by simp only [size_alloc1]; omega) _).later (by simp only [size_alloc1]; omega) _, allocs9 w _ _ _ _ _ _ _ _ _⟩
  · exact ⟨_, _, by omega, rfl, by simp only [size_alloc1]; omega, ((((((strRow_at _ _ _ _ _ _ (by first | rfl | simp only [size_alloc1]) rfl (by kernel_rfl)).later (by simp only [size_alloc1]; omega) _).later (by simp only [size_alloc1]; omega) _).later (by simp only [size_alloc1]; omega) _).later (by simp only [size_alloc1]; omega) _).later (by simp only [size_alloc1]; omega) _).later (by simp only [size_alloc1]; omega) _, allocs9 w _ _ _ _ _ _ _ _ _⟩
  · exact ⟨_, _, by omega, rfl, by simp only [size_alloc1]; omega, (((((strRow_at _ _ _ _ _ _ (by first | rfl | simp only [size_alloc1]) rfl (by kernel_rfl)).later (by simp only [size_alloc1]; omega) _).later (by simp only [size_alloc1]; omega) _).later (by simp only [size_alloc1]; omega) _).later (by simp only [size_alloc1]; omega) _).later (by simp only [size_alloc1]; omega) _, allocs9 w _ _ _ _ _ _ _ _ _⟩
  · exact ⟨_, _, by omega, rfl, by simp only [size_alloc1]; omega, ((((strRow_at _ _ _ _ _ _ (by first | rfl | simp only [size_alloc1]) rfl (by kernel_rfl)).later (by simp only [size_alloc1]; omega) _).later (by simp only [size_alloc1]; omega) _).later (by simp only [size_alloc1]; omega) _).later (by simp only [size_alloc1]; omega) _, allocs9 w _ _ _ _ _ _ _ _ _⟩
  · exact ⟨_, _, by omega, rfl, by simp only [size_alloc1]; omega, (((strRow_at _ _ _ _ _ _ (by first | rfl | simp only [size_alloc1]) rfl (by kernel_rfl)).later (by simp only [size_alloc1]; omega) _).later (by simp only [size_alloc1]; omega) _).later (by simp only [size_alloc1]; omega) _, allocs9 w _ _ _ _ _ _ _ _ _⟩
  · exact ⟨_, _, by omega, rfl, by simp only [size_alloc1]; omega, ((strRow_at _ _ _ _ _ _ (by first | rfl | simp only [size_alloc1]) rfl (by kernel_rfl)).later (by simp only [size_alloc1]; omega) _).later (by simp only [size_alloc1]; omega) _, allocs9 w _ _ _ _ _ _ _ _ _⟩
  · exact ⟨_, _, by omega, rfl, by simp only [size_alloc1]; omega, (strRow_at _ _ _ _ _ _ (by first | rfl | simp only [size_alloc1]) rfl (by kernel_rfl)).later (by simp only [size_alloc1]; omega) _, allocs9 w _ _ _ _ _ _ _ _ _⟩

end Go.Proofs.YtpihopmgckdigaaDoor

namespace Go.Proofs.YtpihopmgckdigaaDoor
open Go.RowKit
set_option linter.unusedVariables false
set_option linter.unusedSimpArgs false

/-- Files of the call's own. -/
def FilesPost (w : World) (n M : Nat) (e : Ending) (w' : World) : Prop :=
  ∃ (ls : List Fl) (g c : Nat), ls.length ≤ n ∧ (∀ x ∈ ls, x.n.size ≤ M ∧ x.t.size ≤ M) ∧ e = .returned (.slice (some ⟨g, 0, none⟩) ls.length c) ∧ w'.ownsRow w.heap.size 66 2 (.slice (some ⟨g, 0, none⟩) ls.length c) ls.length (cellsF ls) ∧ Below w.heap.size w w'
theorem sz_snoc {ls : List Fl} {M : Nat} {n t : ByteArray} (h : ∀ x ∈ ls, x.n.size ≤ M ∧ x.t.size ≤ M) (hn : n.size ≤ M) (ht : t.size ≤ M) : ∀ x ∈ ls ++ [⟨n, t⟩], x.n.size ≤ M ∧ x.t.size ≤ M := by
  intro x hx
  rcases List.mem_append.1 hx with hx | hx
  · exact h x hx
  · rw [List.mem_singleton.1 hx]; exact ⟨hn, ht⟩
theorem cellsF_snoc (ls : List Fl) (x : Fl) : cellsF (ls ++ [x]) = cellsF ls ++ [.string x.n, .string x.t] := by simp [cellsF]
theorem infoFl : (Tryd.prog.info? 66).map (fun i => (i.zero, i.size, i.bytes)) = some (some (.agg #[.string ⟨#[]⟩, .string ⟨#[]⟩]), 2, 32) := by kernel_rfl
/-- A row of the call's own that grew: what was there before the call stays. -/
theorem below_grown {w W W6 : World} {S g : Nat} {o : Obj} (hb : Below S w W) (hS : S ≤ W.heap.size) (hg : (W.alloc o).grownBy W6 (some g)) (hgS : S ≤ g) : Below S w W6 := by
  have hA := (Below.refl W.heap.size W).alloc (Nat.le_refl _) o
  have hsz : W.heap.size ≤ W6.heap.size := by have := hg.size; simp at this; omega
  refine hb.trans ⟨hg.os.trans hA.os, hg.tape.trans hA.tape, hg.output.trans hA.output, hsz, fun q hq => ?_⟩
  exact (hg.block q (by simp; omega) (fun e => by injection e with e; omega)).trans (hA.block q (by omega))

set_option maxRecDepth 100000 in
set_option maxHeartbeats 8000000 in
theorem l5Files_any (N m c M : Nat) (hm : m ≤ 16) (w : World) (hN : N < w.heap.size) (hx : StrRow w N m M) :
    Calls Tryd.prog 40 #[.slice (some ⟨N, 0, none⟩) m c] w (FilesPost w 8 M) := by
  obtain ⟨S, hS⟩ : ∃ S, w.heap.size = S := ⟨_, rfl⟩
  have HX := Lib.hid hx
  have hNS : N < S := by omega
  obtain ⟨W1, hW1⟩ : ∃ W, w.alloc (.cells #[] 66) = W := ⟨_, rfl⟩
  have HO1 : Hid (W1.ownsRow S 66 2 (.slice (some ⟨S, 0, none⟩) 0 0) 0 (cellsF [])) := Lib.hid (by
    rw [← hW1, ← hS]
    exact World.ownsRow_lit (e := 66) (size := 2) (base := w.heap.size) w #[] 0 (Nat.le_refl _) (by decide) rfl)
  have HB1 : Hid (Below S w W1) := Lib.hid (by rw [← hW1, ← hS]; exact (Below.refl w.heap.size w).alloc (Nat.le_refl _) _)
  have hS1 : S ≤ W1.heap.size := by rw [← hW1]; simp; omega
  have HW1 := Lib.hid hW1
  have HS := Lib.hid hS
  obtain ⟨i0, hi0, hz0, hz1, hz2⟩ := info_parts infoFl
  clear hx hW1
  go_enter Tryd.func40, Tryd.ntmps40
  go_wp2_with fail
  rw [HW1.out]
  try rw [hS]
  clear hS
  go_loopw [3, 4] (fun cv i wr => ∃ (L : List Fl) (g c k : Nat), cv = .slice (some ⟨g, 0, none⟩) L.length c ∧ i = .int .i64 (k : Int) ∧ k = 2 * L.length ∧ k ≤ m + 1 ∧ (∀ x ∈ L, x.n.size ≤ M ∧ x.t.size ≤ M) ∧ S ≤ wr.heap.size ∧ Hid (wr.ownsRow S 66 2 (.slice (some ⟨g, 0, none⟩) L.length c) L.length (cellsF L)) ∧ Hid (Below S w wr)) (fun _ i _ => m + 2 - (intOf i).toNat)
  case atStart => exact ⟨[], S, 0, 0, rfl, rfl, rfl, by omega, fun x hx => (by cases hx), hS1, HO1, HB1⟩
  case round =>
    obtain ⟨L, g, c, k, rfl, rfl, hk, hkm, hsz, hSw, HO, HB⟩ := hrel
    obtain ⟨jl, hjl⟩ : ∃ j, L.length = j := ⟨_, rfl⟩
    have HJL := Lib.hid hjl
    have HSZ := Lib.hid hsz
    rw [hjl] at hk HO ⊢
    have HK := Lib.hid hk
    have hj8 : jl ≤ 8 := by omega
    clear hk
    have hgS : S ≤ g := (HO.out.lt g rfl).1
    clear hjl hsz
    by_cases hlt : k + 1 < m
    · obtain ⟨sn, hn1, hn2⟩ := HX.out k (by omega)
      obtain ⟨st, ht1, ht2⟩ := HX.out (k + 1) hlt
      have HN1 := Lib.hid hn1
      have HT1 := Lib.hid ht1
      have c1 : wr.cell? ⟨N, k, none⟩ = some (.string sn) := (HB.out.cell (p := ⟨N, k, none⟩) hNS).trans hn2
      have c2 : wr.cell? ⟨N, k + 1, none⟩ = some (.string st) := (HB.out.cell (p := ⟨N, k + 1, none⟩) hNS).trans ht2
      have hlti : (k : Int) + 1 < (m : Int) := by omega
      have hlti2 : (k : Int) < (m : Int) := by omega
      have hlti3 : 0 ≤ (k : Int) + 1 := by omega
      have s2 : IntKind.i64.wrap ((k : Int) + 2) = (k : Int) + 2 := IntWalk.i64_in _ (by omega)
      have s1 : IntKind.i64.wrap ((k : Int) + 1) = (k : Int) + 1 := IntWalk.i64_in _ (by omega)
      clear hn1 ht1 hn2 ht2 hlt
      go_wp2_with fail
      go_region_law (first
        | (refine step_append_lies _ (by rfl) _ _ _ (by rfl) S 66 i0 _ 2 32 Tryd.underlying23 hi0 hz0 hz1 hz2 rfl (by omega) (.slice (some ⟨g, 0, none⟩) jl c) jl (cellsF L) (by rfl) (by first | exact HO.out.alloc _ | exact (HO.out.alloc _).drew | exact HO.out.drew.alloc _) ⟨wr.heap.size, 0, none⟩ 1 1 [.string sn, .string st] (by rfl) (by rfl) (World.news_of_block (cs := #[.string sn, .string st]) (t := 66) (fr := (0, 0)) (by exact heap_alloc_new _ _)) (by simp [Value.oneCell']) (by omega) (by unfold maxLen; omega) (by omega) (by simp; omega) (wr.heap.size + 1) (by simp; first | done | omega) ?_; intro g6 cap6 w6 hown6 hgrow6 hat6 hlt6; have HO6 := Lib.hid hown6; have hgr6 : (wr.alloc (.cells #[.string sn, .string st] 66)).grownBy w6 (some g) := ⟨hgrow6.os, hgrow6.tape, hgrow6.output, hgrow6.size, hgrow6.block⟩; have HB6 : Hid (Below S w w6) := Lib.hid (below_grown HB.out hSw hgr6 hgS); have hS6 : S ≤ w6.heap.size := (by have := hgrow6.size; simp at this; omega); clear hown6 hgrow6 hat6 hlt6 hgr6)
        | fail)
      all_goals go_wp2_with fail
      all_goals go_roundw
      all_goals first
        | exact ⟨L ++ [⟨sn, st⟩], g6, cap6, k + 2, by rw [List.length_append, HJL.out]; rfl, by go_num, by rw [List.length_append, HJL.out, HK.out]; simp; omega, by omega, sz_snoc HSZ.out HN1.out HT1.out, hS6, by rw [List.length_append, HJL.out, cellsF_snoc]; exact HO6, HB6⟩
        | (simp [intOf] <;> omega)
    · have hlti : ¬ (k : Int) + 1 < (m : Int) := by omega
      have s1 : IntKind.i64.wrap ((k : Int) + 1) = (k : Int) + 1 := IntWalk.i64_in _ (by omega)
      clear hlt
      go_wp2_with fail
      go_ret
      exact ⟨L, g, c, by rw [HJL.out]; have := HK.out; omega, HSZ.out, by rw [HJL.out]; rfl, by rw [HS.out, HJL.out]; exact HO.out, by rw [HS.out]; exact HB.out⟩

end Go.Proofs.YtpihopmgckdigaaDoor

namespace Go.Proofs.YtpihopmgckdigaaDoor
open Go.RowKit
set_option linter.unusedVariables false
set_option linter.unusedSimpArgs false

theorem ownStay {w w' : World} {B n sz : Nat} {e : TypeId} {v : Value} {xs : List Value} (h : w.ownsRow B e sz v n xs) (hk : ∀ b, B ≤ b → b < w.heap.size → w'.heap[b]? = w.heap[b]?) : w'.ownsRow B e sz v n xs := by
  obtain ⟨hl, h | ⟨g, cap, cur, rfl, hb', hg, h1, h2, h3, h4⟩⟩ := h
  · exact ⟨hl, .inl h⟩
  · exact ⟨hl, .inr ⟨g, cap, cur, rfl, hb', (hk g hb' (Array.getElem?_eq_some_iff.1 hg).1).trans hg, h1, h2, h3, h4⟩⟩
theorem ownLower {w : World} {B B' n sz : Nat} {e : TypeId} {v : Value} {xs : List Value} (h : w.ownsRow B e sz v n xs) (hB : B' ≤ B) : w.ownsRow B' e sz v n xs := by
  obtain ⟨hl, h | ⟨g, cap, cur, rfl, hb', hg, h1, h2, h3, h4⟩⟩ := h
  · exact ⟨hl, .inl h⟩
  · exact ⟨hl, .inr ⟨g, cap, cur, rfl, Nat.le_trans hB hb', hg, h1, h2, h3, h4⟩⟩
/-- Where the draw of files stands. -/
structure QF (w : World) (B : Nat) (a : Option Addr) (len cap : Nat) (zs : List Int) (p g c : Nat) (L : List Fl) (W : World) : Prop where
  rd : Rd W B a len cap zs p
  dw : Dw B w W
  own : W.ownsRow w.heap.size 66 2 (.slice (some ⟨g, 0, none⟩) L.length c) L.length (cellsF L)
  sz : ∀ x ∈ L, x.n.size ≤ 200 ∧ x.t.size ≤ 2000
  h1 : B < w.heap.size
theorem QF.step {w : World} {B : Nat} {a : Option Addr} {len cap : Nat} {zs : List Int} {p p' g c : Nat} {L : List Fl} {W W' : World} (h : QF w B a len cap zs p g c L W) (hd : Dw B W W') (hr : Rd W' B a len cap zs p') : QF w B a len cap zs p' g c L W' := by
  have h1 := h.h1
  exact ⟨hr, h.dw.trans hd, ownStay h.own (fun b h3 h4 => hd.block b h4 (by simp; omega)), h.sz, h1⟩
theorem QF.pick {w : World} {B : Nat} {a : Option Addr} {len cap : Nat} {zs : List Int} {p g c : Nat} {L : List Fl} {W W' : World} (h : QF w B a len cap zs p g c L W) {k : Nat} (hk : W' = (W.setCell ⟨B, 1, none⟩ (.int .i64 ((p : Int) + 1))).drewN k) : QF w B a len cap zs (p + 1) g c L W' :=
  h.step (Dw.pick hk) (h.rd.picked hk)
theorem QF.below {w : World} {B : Nat} {a : Option Addr} {len cap : Nat} {zs : List Int} {p g c : Nat} {L : List Fl} {W W' : World} (h : QF w B a len cap zs p g c L W) (hb : Below W.heap.size W W') : QF w B a len cap zs p g c L W' :=
  h.step (Dw.ofBelow hb) (h.rd.kept (hb.mono (by have := h.rd.big; omega)))
theorem QF.low {w : World} {B : Nat} {a : Option Addr} {len cap : Nat} {zs : List Int} {p g c : Nat} {L : List Fl} {W : World} (h : QF w B a len cap zs p g c L W) : w.heap.size ≤ g ∧ g < W.heap.size := h.own.lt g rfl
theorem cellsF_put (L : List Fl) (j : Nat) (hj : j < L.length) (u : ByteArray) : (cellsF L).set (j * 2 + 1) (.string u) = cellsF (L.set j ⟨(L.getD j Fl.dummy).n, u⟩) := by
  refine cellsF_of (by rw [List.length_set, cellsF_len, List.length_set]) (fun i hi => ?_) (fun i hi => ?_)
  · rw [List.length_set] at hi
    rw [List.getElem?_set_ne (by omega), (cellsF_at L i hi).1]
    by_cases hij : i = j
    · subst hij; simp [List.getD, hi]
    · simp [List.getD, List.getElem?_set_ne (Ne.symm hij)]
  · rw [List.length_set] at hi
    by_cases hij : i = j
    · subst hij
      rw [List.getElem?_set_self (by rw [cellsF_len]; omega)]; simp [List.getD, hi]
    · rw [List.getElem?_set_ne (by omega), (cellsF_at L i hi).2]
      simp [List.getD, List.getElem?_set_ne (Ne.symm hij)]
theorem QF.put {w : World} {B : Nat} {a : Option Addr} {len cap : Nat} {zs : List Int} {p g c : Nat} {L : List Fl} {W : World} (h : QF w B a len cap zs p g c L W) {j : Nat} (hj : j < L.length) {u : ByteArray} (hu : u.size ≤ 2000) :
    QF w B a len cap zs p g c (L.set j ⟨(L.getD j Fl.dummy).n, u⟩) (W.setCell ⟨g, j * 2 + 1, none⟩ (.string u)) := by
  have hl := h.low; have h1 := h.h1
  refine ⟨h.rd.setNew (by omega) _ _, h.dw.setNew hl.1 _ _, ?_, fun x hx => ?_, h1⟩
  · rw [List.length_set, ← cellsF_put L j hj u]
    exact (h.own.stored _ _).1
  · rcases List.mem_or_eq_of_mem_set hx with hx | rfl
    · exact h.sz x hx
    · exact ⟨(h.sz (L.getD j Fl.dummy) (by simp [List.getD, hj])).1, hu⟩
theorem QF.cell {w : World} {B : Nat} {a : Option Addr} {len cap : Nat} {zs : List Int} {p g c : Nat} {L : List Fl} {W : World} (h : QF w B a len cap zs p g c L W) {j : Nat} (hj : j < L.length) :
    W.cell? ⟨g, j * 2, none⟩ = some (.string (L.getD j Fl.dummy).n) ∧ W.cell? ⟨g, j * 2 + 1, none⟩ = some (.string (L.getD j Fl.dummy).t) ∧ W.frozen? ⟨g, j * 2 + 1, none⟩ = false :=
  ⟨(h.own.cellAt _ (by omega)).trans (cellsF_at L j hj).1, (h.own.cellAt _ (by omega)).trans (cellsF_at L j hj).2, h.own.frozenAt _⟩
/-- ApplyEdit of the model, whatever the edit is. -/
theorem applyEdit_spec_all (s : ByteArray) (f t : Int) (i : ByteArray) (hs : s.size ≤ 2000) (hi : i.size ≤ 2000) (w : World) :
    Calls Tryd.prog 42 #[.string s, .agg #[.int .i64 f, .int .i64 t, .string i]] w fun e w' => ∃ (u : ByteArray) (b : Bool), u.size ≤ 6000 ∧ e = .returned (.tuple #[.string u, .bool b]) ∧ Below w.heap.size w w' := by
  cases hb : fitsB s f t i with
  | false =>
    refine (applyEdit_spec_no s f t i hb (by unfold maxLen; omega) (by unfold maxLen; omega) w).mono ?_
    rintro e w' ⟨rfl, h⟩
    exact ⟨_, _, by decide, rfl, h⟩
  | true =>
    refine (applyEdit_spec_yes s f t i hb w).mono ?_
    rintro e w' ⟨rfl, h⟩
    refine ⟨_, _, ?_, rfl, h⟩
    unfold ap
    simp
    omega
/-- What the draw of files leaves. -/
def DrPost (w : World) (B : Nat) (a : Option Addr) (len cap : Nat) (zs : List Int) (p : Nat) (e : Ending) (w' : World) : Prop :=
  ∃ (L : List Fl) (g c r : Nat), L.length ≤ 8 ∧ r ≤ 30 ∧ e = .returned (.slice (some ⟨g, 0, none⟩) L.length c) ∧ QF w B a len cap zs (p + r) g c L w'

set_option maxRecDepth 100000 in
set_option maxHeartbeats 8000000 in
theorem l5Draw_any (B : Nat) (a : Option Addr) (len cap : Nat) (zs : List Int) (p : Nat) (w : World) (hr : Rd w B a len cap zs p) (hp : p ≤ 100000) :
    Calls Tryd.prog 20 #[.pointer (some ⟨B, 0, none⟩)] w (DrPost w B a len cap zs p) := by
  have HR := Lib.hid hr
  have hBw : B < w.heap.size := hr.big
  clear hr
  go_enter Tryd.func20, Tryd.ntmps20
  go_wp2_with fail
  go_at_call 21
  refine (num_any B a len cap zs p _ (HR.out.alloc _) (by omega) _ 10 10 0 7 (by omega) (by omega) HR.out.ne (intRow_new _ _ _ 10 0 7 rfl (by decide +kernel))).mono ?_
  rintro e w1 ⟨n0, hn0, rfl, k1, hk1⟩
  obtain ⟨hn1, hn2⟩ := hn0
  obtain ⟨k0, rfl⟩ : ∃ k : Nat, n0 = (k : Int) := ⟨n0.toNat, by omega⟩
  have HD1 : Hid (Dw B w w1) := Lib.hid (((Dw.refl B w).alloc _).trans (Dw.pick hk1))
  have HR1 := Lib.hid (Rd.picked (HR.out.alloc _) hk1)
  clear hk1
  go_wp2_with fail
  go_at_call 41
  refine (l5Sets_any k0 (by omega) w1).mono ?_
  rintro e w2 ⟨N, m, hm, rfl, hN, hx, hb2⟩
  have HX := Lib.hid hx
  have HD2 : Hid (Dw B w w2) := Lib.hid (HD1.out.trans (Dw.ofBelow hb2))
  have HR2 := Lib.hid (HR1.out.kept (hb2.mono (by have := HR1.out.big; omega)))
  clear hx hb2
  go_wp2_with fail
  go_at_call 40
  refine (l5Files_any N m m 200 hm w2 hN HX.out).mono ?_
  rintro e w3 ⟨L0, g, c, hl0, hsz0, rfl, hown0, hb3⟩
  have HQ3 : Hid (QF w B a len cap zs (p + 1) g c L0 w3) := Lib.hid ⟨HR2.out.kept (hb3.mono (by have := HR2.out.big; omega)), HD2.out.trans (Dw.ofBelow hb3), ownLower hown0 HD2.out.size, fun x hx => ⟨(hsz0 x hx).1, Nat.le_trans (hsz0 x hx).2 (by omega)⟩, hBw⟩
  clear hsz0 hown0 hb3
  obtain ⟨m0, hm0⟩ : ∃ m, L0.length = m := ⟨_, rfl⟩
  have HM0 := Lib.hid hm0
  rw [hm0] at hl0 ⊢
  clear hm0
  go_wp2_with fail
  go_at_call 24
  refine (pick_any B a len cap zs (p + 1) 3 _ HQ3.out.rd (by omega) (by omega) (by omega)).mono ?_
  rintro e w4 ⟨x, hx, rfl, k4, hk4⟩
  have HQ4 := Lib.hid (HQ3.out.pick hk4)
  clear hk4
  go_wp2_with fail
  go_loopw [4] (fun i wr => ∃ (L : List Fl) (r : Nat) (n : Int), i = .int .i64 n ∧ 0 ≤ n ∧ n ≤ 3 ∧ L.length = m0 ∧ r + 7 * n.toNat ≤ 25 ∧ Hid (QF w B a len cap zs (p + r) g c L wr)) (fun i _ => (intOf i).toNat)
  case atStart => exact ⟨L0, 2, x, rfl, by omega, by omega, HM0.out, by omega, HQ4⟩
  case round =>
    obtain ⟨L, r, n, rfl, hn0, hn3, hjl, hr, hq⟩ := hrel
    have HJL := Lib.hid hjl
    clear hjl
    by_cases hlt : 0 < n ∧ 0 < m0
    · obtain ⟨hlt, hm0⟩ := hlt
      have hm0i : (0 : Int) < (m0 : Int) := by omega
      go_wp2_with fail
      go_at_call 24
      refine (pick_any B a len cap zs (p + r) m0 _ hq.out.rd (by omega) (by omega) (by omega)).mono ?_
      rintro e w6 ⟨j, hj, rfl, k6, hk6⟩
      have HQ6 := Lib.hid (hq.out.pick hk6)
      have hjm : j < m0 := by omega
      have hjL : j < L.length := by rw [HJL.out]; exact hjm
      have HJ := Lib.hid hjL
      obtain ⟨s, hs⟩ : ∃ s, (L.getD j Fl.dummy).t = s := ⟨_, rfl⟩
      have HSS := Lib.hid hs
      have HSZ : Hid (s.size ≤ 2000) := Lib.hid (by rw [← hs]; exact (HQ6.out.sz _ (by simp [List.getD, hjL])).2)
      obtain ⟨_, c1, z1⟩ := HQ6.out.cell hjL
      rw [hs] at c1
      have hji : (j : Int) < (m0 : Int) := by omega
      clear hk6 hjL hs
      go_wp2_with fail
      go_cut [6, 7] (fun u b wx => ∃ (s2 : ByteArray) (b2 : Bool) (r2 : Nat), u = .string s2 ∧ b = .bool b2 ∧ s2.size ≤ 6000 ∧ r2 ≤ 6 ∧ Hid (QF w B a len cap zs (p + r + 1 + r2) g c L wx))
      case first =>
        go_region_law (first
          | (go_simp; go_at_call 43; refine (l1Edit_any B a len cap zs (p + r + 1) s _ (by first | exact HQ6.out.rd | exact HQ6.out.rd.drew) (by omega) (by have := HSZ.out; omega)).mono ?_; rintro e w7 ⟨f7, t7, i7, r7, hi7, hr7, rfl, hd7, hrd7⟩; have HI7 := Lib.hid hi7; have HQ7 : Hid (QF w B a len cap zs (p + r + 1 + r7) g c L w7) := Lib.hid (HQ6.out.step (by first | exact hd7 | exact ((Dw.refl B _).drew).trans hd7) hrd7); obtain ⟨_, c7, z7⟩ := HQ7.out.cell HJ.out; rw [HSS.out] at c7; clear hi7 hd7 hrd7)
          | (go_simp; go_at_call 42; refine (applyEdit_spec_all s f7 t7 i7 HSZ.out (by have := HI7.out; omega) _).mono ?_; rintro e w8 ⟨s8, b8, hs8, rfl, hb8⟩; have HQ8 : Hid (QF w B a len cap zs (p + r + 1 + r7) g c L w8) := Lib.hid (HQ7.out.below (by first | exact hb8 | exact Below.trans (Below.refl _ _).drew hb8)); clear hb8)
          | fail)
        all_goals go_wp2_with fail
        all_goals go_meet
        all_goals exact ⟨s8, b8, r7, rfl, rfl, hs8, hr7, HQ8⟩
      case rest =>
        obtain ⟨s2, b2, r2, rfl, rfl, hs2, hr2, HQ9⟩ := hcut
        have HS2 := Lib.hid hs2
        clear hs2 c1 z1
        cases b2 with
        | false =>
          go_wp2_with fail
          go_roundw
          case rel => exact ⟨L, r + 1 + r2, n - 1, by go_num, by omega, by omega, HJL.out, by omega, by have h := HQ9; rw [show p + r + 1 + r2 = p + (r + 1 + r2) by omega] at h; exact h⟩
          case measure => simp [intOf] <;> omega
        | true =>
          go_wp2_with fail
          go_at_call 44
          refine (l5Text_any s2 (by have := HS2.out; unfold maxLen; omega) _).mono ?_
          rintro e w10 ⟨rfl, hb10⟩
          have HQ10 := Lib.hid (HQ9.out.below hb10)
          clear hb10
          obtain ⟨fb, hfb⟩ : ∃ b, ftB s2 = b := ⟨_, rfl⟩
          rw [hfb]
          cases fb with
          | false =>
            clear hfb
            go_wp2_with fail
            go_roundw
            case rel => exact ⟨L, r + 1 + r2, n - 1, by go_num, by omega, by omega, HJL.out, by omega, by have h := HQ10; rw [show p + r + 1 + r2 = p + (r + 1 + r2) by omega] at h; exact h⟩
            case measure => simp [intOf] <;> omega
          | true =>
            have HU : Hid (s2.size ≤ 2000) := Lib.hid (tv_size (by unfold ftB at hfb; simp at hfb; exact hfb.1))
            obtain ⟨_, c2, z2⟩ := HQ10.out.cell HJ.out
            have HQ11 := Lib.hid (HQ10.out.put HJ.out HU.out)
            clear hfb
            go_wp2_with fail
            go_roundw
            case rel => exact ⟨L.set j ⟨(L.getD j Fl.dummy).n, s2⟩, r + 1 + r2, n - 1, by go_num, by omega, by omega, by rw [List.length_set]; exact HJL.out, by omega, by have h := HQ11; rw [show p + r + 1 + r2 = p + (r + 1 + r2) by omega] at h; exact h⟩
            case measure => simp [intOf] <;> omega
    · rcases Int.lt_or_le 0 n with h0 | h0
      · have hm0 : m0 = 0 := by omega
        subst hm0
        clear hlt
        go_wp2_with fail
        go_ret
        exact ⟨L, g, c, r, by rw [HJL.out]; omega, by omega, by rw [HJL.out]; rfl, hq.out⟩
      · obtain rfl : n = 0 := by omega
        clear hlt
        go_wp2_with fail
        go_ret
        exact ⟨L, g, c, r, by rw [HJL.out]; omega, by omega, by rw [HJL.out]; rfl, hq.out⟩

end Go.Proofs.YtpihopmgckdigaaDoor

namespace Go.Proofs.YtpihopmgckdigaaDoor
open Go.RowKit
set_option linter.unusedVariables false
set_option linter.unusedSimpArgs false

theorem cellsF_one : ∀ (L : List Fl), ∀ u ∈ cellsF L, u.oneCell' = true
  | [], u, h => by cases h
  | x :: r, u, h => by
    have e : cellsF (x :: r) = [.string x.n, .string x.t] ++ cellsF r := rfl
    rw [e] at h
    rcases List.mem_append.1 h with h | h
    · simp at h
      rcases h with rfl | rfl <;> rfl
    · exact cellsF_one r u h
def lenSl : Value → Nat | .slice _ n _ => n | _ => 0
theorem QF.push {w : World} {B : Nat} {a : Option Addr} {len cap : Nat} {zs : List Int} {p g c : Nat} {L : List Fl} {W W6 : World} (h : QF w B a len cap zs p g c L W) {o : Obj} {n t : ByteArray} {g6 c6 : Nat} (hn : n.size ≤ 200) (ht : t.size ≤ 2000)
    (hown : W6.ownsRow w.heap.size 66 2 (.slice (some ⟨g6, 0, none⟩) (L.length + 1) c6) (L.length + 1) (cellsF L ++ [.string n, .string t])) (hg : (W.alloc o).grownBy W6 (some g)) : QF w B a len cap zs p g6 c6 (L ++ [⟨n, t⟩]) W6 := by
  have h1 := h.h1
  have hlow := h.low
  have hb := h.rd.big
  have hsz : W.heap.size ≤ W6.heap.size := by have := hg.size; simp at this; omega
  have hbl : Below w.heap.size W W6 := below_grown (Below.refl _ _) (Nat.le_trans hlow.1 (Nat.le_of_lt hlow.2)) hg hlow.1
  have hA := (Below.refl W.heap.size W).alloc (Nat.le_refl _) o
  refine ⟨h.rd.kept (hbl.mono (by omega)), ?_, ?_, fun x hx => ?_, h1⟩
  · have hd := h.dw
    exact ⟨hbl.os.trans hd.os, hbl.tape.trans hd.tape, hbl.output.trans hd.output, Nat.le_trans hd.size hsz, fun q hq hne => (hbl.block q hq).trans (hd.block q hq hne)⟩
  · rw [List.length_append, cellsF_snoc]; exact hown
  · rcases List.mem_append.1 hx with hx | hx
    · exact h.sz x hx
    · rw [List.mem_singleton.1 hx]; exact ⟨hn, ht⟩

/-- What the change of drawn files leaves. -/
def MuPost (w : World) (B : Nat) (a : Option Addr) (len cap : Nat) (zs : List Int) (p : Nat) (e : Ending) (w' : World) : Prop :=
  ∃ (L : List Fl) (g c r : Nat), L.length ≤ 16 ∧ r ≤ 3 ∧ e = .returned (.slice (some ⟨g, 0, none⟩) L.length c) ∧ QF w B a len cap zs (p + r) g c L w'
set_option maxRecDepth 100000 in
set_option maxHeartbeats 8000000 in
theorem l5Mutate_any (B : Nat) (a : Option Addr) (len cap : Nat) (zs : List Int) (p : Nat) (w : World) (hr : Rd w B a len cap zs p) (hp : p ≤ 200000) {b0 g0 c0 : Nat} {L0 : List Fl}
    (hown : w.ownsRow b0 66 2 (.slice (some ⟨g0, 0, none⟩) L0.length c0) L0.length (cellsF L0)) (hsz : ∀ x ∈ L0, x.n.size ≤ 200 ∧ x.t.size ≤ 2000) (hL0 : L0.length ≤ 8) :
    Calls Tryd.prog 19 #[.pointer (some ⟨B, 0, none⟩), .slice (some ⟨g0, 0, none⟩) L0.length c0] w (MuPost w B a len cap zs p) := by
  obtain ⟨S, hS⟩ : ∃ S, w.heap.size = S := ⟨_, rfl⟩
  have hBS : B < S := by rw [← hS]; exact hr.big
  obtain ⟨m0, hm0⟩ : ∃ m, L0.length = m := ⟨_, rfl⟩
  have HM0 := Lib.hid hm0
  have HSZ := Lib.hid hsz
  rw [hm0] at hown hL0 ⊢
  have HOWN := Lib.hid hown
  have hg0 : g0 < S := by rw [← hS]; exact (hown.lt g0 rfl).2
  obtain ⟨W1, hW1⟩ : ∃ W, w.alloc (.cells #[] 66) = W := ⟨_, rfl⟩
  have HO1 : Hid (W1.ownsRow S 66 2 (.slice (some ⟨S, 0, none⟩) 0 0) 0 (cellsF [])) := Lib.hid (by
    rw [← hW1, ← hS]
    exact World.ownsRow_lit (e := 66) (size := 2) (base := w.heap.size) w #[] 0 (Nat.le_refl _) (by decide) rfl)
  have HD1 : Hid (Dw B w W1) := Lib.hid (by rw [← hW1]; exact (Dw.refl B w).alloc _)
  have HR1 : Hid (Rd W1 B a len cap zs p) := Lib.hid (by rw [← hW1]; exact hr.alloc _)
  have HN1 : Hid (∀ j u, (cellsF L0)[j]? = some u → W1.cell? ((⟨g0, 0, none⟩ : Addr).add j) = some u) := Lib.hid (by
    intro j u hu
    have hj : j < m0 * 2 := by
      have := (List.getElem?_eq_some_iff.1 hu).1
      rw [cellsF_len, hm0] at this; exact this
    have hadd : (⟨g0, 0, none⟩ : Addr).add j = ⟨g0, j, none⟩ := by unfold Addr.add; split <;> simp_all
    rw [hadd, ← hW1, ((Below.refl w.heap.size w).alloc (Nat.le_refl _) _).cell (p := ⟨g0, j, none⟩) (by show g0 < w.heap.size; omega), hown.cellAt j hj]
    exact hu)
  have hS1 : W1.heap.size = S + 1 := by rw [← hW1]; simp; omega
  have HS1 := Lib.hid hS1
  have HW1 := Lib.hid hW1
  have HS := Lib.hid hS
  obtain ⟨i0, hi0, hz0, hz1, hz2⟩ := info_parts infoFl
  clear hr hW1 hown hm0 hS1 hsz
  go_enter Tryd.func19, Tryd.ntmps19
  have HE : Hid (m0 = 0 ∨ 0 < m0) := Lib.hid (Nat.eq_zero_or_pos m0)
  rcases HE.out with hm | hm
  · subst hm
    have HL0 : Hid (L0 = []) := Lib.hid (List.length_eq_zero_iff.1 HM0.out)
    go_wp2_with fail
    rw [HW1.out]
    try rw [hS]
    obtain ⟨g, c, m1, HM1, hm1, HQ, hv⟩ : ∃ (g c m : Nat), Hid (L0.length = m) ∧ m ≤ 8 ∧ Hid (QF w B a len cap zs p g c L0 W1) ∧ (Value.slice (some ⟨S, 0, none⟩) 0 0) = .slice (some ⟨g, 0, none⟩) m c := by
      refine ⟨S, 0, 0, HM0, by omega, Lib.hid ⟨HR1.out, HD1.out, ?_, HSZ.out, by omega⟩, rfl⟩
      rw [HL0.out, HS.out]; exact HO1.out
    rw [hv]
    clear hv hS HL0 HM0 hL0
    go_at_call 24
    refine (pick_any B a len cap zs p 30 _ HQ.out.rd (by omega) (by omega) (by omega)).mono ?_
    rintro e w3 ⟨x, hx, rfl, k3, hk3⟩
    have HQ3 := Lib.hid (HQ.out.pick hk3)
    have HO3 : Hid (w3.ownsRow S 66 2 (.slice (some ⟨g, 0, none⟩) m1 c) m1 (cellsF L0)) := Lib.hid (by rw [← HM1.out, ← HS.out]; exact HQ3.out.own)
    have hS3 : S ≤ w3.heap.size := by have := HQ3.out.low; have := HS.out; omega
    clear hk3
    by_cases h0 : x = 0
    · subst h0
      go_wp2_with fail
      go_at_call 32
      refine (of_any B a len cap zs (p + 1) _ (HQ3.out.rd.alloc _) (by omega) _ 4 4 16 (by omega) (by omega) HQ3.out.rd.ne (strRow_new _ _ _ _ _ rfl (by kernel_rfl))).mono ?_
      rintro e w4 ⟨sn, hsn, rfl, k4, hk4⟩
      have HSN := Lib.hid hsn
      have HQ4 := Lib.hid ((HQ3.out.below ((Below.refl _ _).alloc (Nat.le_refl _) _)).pick hk4)
      have HO4 : Hid (w4.ownsRow S 66 2 (.slice (some ⟨g, 0, none⟩) m1 c) m1 (cellsF L0)) := Lib.hid (by rw [← HM1.out, ← HS.out]; exact HQ4.out.own)
      have hS4 : S ≤ w4.heap.size := by have := HQ4.out.low; have := HS.out; omega
      clear hk4 hsn
      go_wp2_with (at_builtin; suffices hgoal : _ ∧ True from hgoal.1)
      refine ⟨?_, trivial⟩
      refine wpList_append_lies _ rfl _ _ 23 rfl S 66 i0 _ 2 32 Tryd.underlying23 hi0 hz0 hz1 hz2 rfl (by omega) (.slice (some ⟨g, 0, none⟩) m1 c) m1 (cellsF L0) rfl (HO4.out.alloc _) ⟨w4.heap.size, 0, none⟩ 1 1 [.string sn, .string ⟨#[120, 32, 61, 32, 49, 10]⟩] rfl rfl (World.news_of_block (cs := #[.string sn, .string ⟨#[120, 32, 61, 32, 49, 10]⟩]) (t := 66) (fr := (0, 0)) (heap_alloc_new w4 _)) (by simp [Value.oneCell']) (by omega) (by unfold maxLen; omega) (by omega) (by simp; omega) (w4.heap.size + 1) (by simp) ?_
      intro g6 cap6 w5 hown6 hgrow6 hat6 hlt6
      have HQ5 := Lib.hid (HQ4.out.push (n := sn) (t := ⟨#[120, 32, 61, 32, 49, 10]⟩) (g6 := g6) (c6 := cap6) (by have := HSN.out; omega) (by decide) (by rw [HM1.out, HS.out]; exact hown6) hgrow6)
      clear hown6 hgrow6 hat6 hlt6
      go_wp2_with fail
      go_ret
      exact ⟨L0 ++ [⟨sn, _⟩], g6, cap6, 2, by rw [List.length_append, HM1.out]; simp; omega, by omega, by rw [List.length_append, HM1.out]; rfl, HQ5.out⟩
    by_cases h1 : x = 1
    · subst h1
      go_wp2_with (at_builtin; suffices hgoal : _ ∧ True from hgoal.1)
      refine ⟨?_, trivial⟩
      refine wpList_append_lies _ rfl _ _ 23 rfl S 66 i0 _ 2 32 Tryd.underlying23 hi0 hz0 hz1 hz2 rfl (by omega) (.slice (some ⟨g, 0, none⟩) m1 c) m1 (cellsF L0) rfl (HO3.out.alloc _) ⟨w3.heap.size, 0, none⟩ 1 1 [.string ⟨#[69]⟩, .string ⟨#[9]⟩] rfl rfl (World.news_of_block (cs := #[.string ⟨#[69]⟩, .string ⟨#[9]⟩]) (t := 66) (fr := (0, 0)) (heap_alloc_new w3 _)) (by simp [Value.oneCell']) (by omega) (by unfold maxLen; omega) (by omega) (by simp; omega) (w3.heap.size + 1) (by simp) ?_
      intro g6 cap6 w5 hown6 hgrow6 hat6 hlt6
      have HQ5 := Lib.hid (HQ3.out.push (n := ⟨#[69]⟩) (t := ⟨#[9]⟩) (g6 := g6) (c6 := cap6) (by decide) (by decide) (by rw [HM1.out, HS.out]; exact hown6) hgrow6)
      clear hown6 hgrow6 hat6 hlt6
      go_wp2_with fail
      go_ret
      exact ⟨L0 ++ [⟨⟨#[69]⟩, ⟨#[9]⟩⟩], g6, cap6, 1, by rw [List.length_append, HM1.out]; simp; omega, by omega, by rw [List.length_append, HM1.out]; rfl, HQ5.out⟩
    by_cases h2 : x = 2
    · subst h2
      go_wp2_with fail
      go_loopw [5] (fun v wr => ∃ (L : List Fl) (g c : Nat), v = .slice (some ⟨g, 0, none⟩) L.length c ∧ L.length ≤ 8 ∧ Hid (QF w B a len cap zs (p + 1) g c L wr)) (fun v _ => 9 - lenSl v)
      case atStart => exact ⟨L0, g, c, by rw [HM1.out], by rw [HM1.out]; exact hm1, HQ3⟩
      case round =>
        obtain ⟨L, g, c, rfl, hl8, hq⟩ := hrel
        clear HQ3 HO3
        obtain ⟨j, hj⟩ : ∃ j, L.length = j := ⟨_, rfl⟩
        have HJ := Lib.hid hj
        rw [hj] at hl8 ⊢
        clear hj
        have HO4 : Hid (wr.ownsRow S 66 2 (.slice (some ⟨g, 0, none⟩) j c) j (cellsF L)) := Lib.hid (by rw [← HJ.out, ← HS.out]; exact hq.out.own)
        have hSw : S ≤ wr.heap.size := by have := hq.out.low; have := HS.out; omega
        by_cases hlt : j ≤ 4
        · have hji : (j : Int) ≤ 4 := by omega
          go_wp2_with fail
          have hc : ((UInt8.ofNat (80 + j)).toNat : Int) = 80 + (j : Int) := by
            have : (UInt8.ofNat (80 + j)).toNat = 80 + j := by simp; omega
            rw [this]; push_cast; rfl
          obtain ⟨ch, hcd⟩ : ∃ c, UInt8.ofNat (80 + j) = c := ⟨_, rfl⟩
          rw [hcd] at hc
          obtain ⟨WB, hWB⟩ : ∃ W, wr.alloc (.cells #[.int .u8 (80 + (j : Int))] 5) = W := ⟨_, rfl⟩
          have E : (convert 22 9 (.slice (some ⟨wr.heap.size, 0, none⟩) 1 1)).run Tryd.prog (wr.alloc (.cells #[.int .u8 (80 + (j : Int))] 5)) = .ok (.string ⟨#[ch]⟩) (wr.alloc (.cells #[.int .u8 (80 + (j : Int))] 5)) :=
            run_convert_bytes_back _ _ _ 5 _ _ [ch] Tryd.underlying22 Tryd.underlying5 Tryd.underlying9 (fun i hi => by
              have hi0 : i = 0 := by simpa using hi
              subst hi0
              have := cell_one_new wr (.int .u8 (80 + (j : Int))) 5
              rw [List.getElem_cons_zero, hc]
              exact this 0 _ rfl)
          rw [E, hWB]
          have HQB : Hid (QF w B a len cap zs (p + 1) g c L WB) := Lib.hid (by rw [← hWB]; exact hq.out.below ((Below.refl _ _).alloc (Nat.le_refl _) _))
          have HOB : Hid (WB.ownsRow S 66 2 (.slice (some ⟨g, 0, none⟩) j c) j (cellsF L)) := Lib.hid (by rw [← HJ.out, ← HS.out]; exact HQB.out.own)
          have hSB : S ≤ WB.heap.size := by have := HQB.out.low; have := HS.out; omega
          clear E hc hcd hWB
          go_wp2_with (at_builtin; suffices hgoal : _ ∧ True from hgoal.1)
          refine ⟨?_, trivial⟩
          refine wpList_append_lies _ rfl _ _ 23 rfl S 66 i0 _ 2 32 Tryd.underlying23 hi0 hz0 hz1 hz2 rfl (by omega) (.slice (some ⟨g, 0, none⟩) j c) j (cellsF L) rfl (HOB.out.alloc _) ⟨WB.heap.size, 0, none⟩ 1 1 [.string ⟨#[ch]⟩, .string ⟨#[]⟩] rfl rfl (World.news_of_block (cs := #[.string ⟨#[ch]⟩, .string ⟨#[]⟩]) (t := 66) (fr := (0, 0)) (heap_alloc_new WB _)) (by simp [Value.oneCell']) (by omega) (by unfold maxLen; omega) (by omega) (by simp; omega) (WB.heap.size + 1) (by simp) ?_
          intro g6 cap6 w5 hown6 hgrow6 hat6 hlt6
          have HQ5 := Lib.hid (HQB.out.push (n := ⟨#[ch]⟩) (t := ⟨#[]⟩) (g6 := g6) (c6 := cap6) (by show 1 ≤ 200; omega) (by decide) (by rw [HJ.out, HS.out]; exact hown6) hgrow6)
          clear hown6 hgrow6 hat6 hlt6
          go_wp2_with fail
          refine ⟨⟨L ++ [⟨⟨#[ch]⟩, ⟨#[]⟩⟩], g6, cap6, by rw [List.length_append, HJ.out]; rfl, by rw [List.length_append, HJ.out]; simp; omega, HQ5⟩, by simp [lenSl]; omega⟩
        · have hji : ¬ (j : Int) ≤ 4 := by omega
          go_wp2_with fail
          go_ret
          exact ⟨L, g, c, 1, by rw [HJ.out]; omega, by omega, by rw [HJ.out]; rfl, hq.out⟩
    by_cases h3 : x = 3
    · subst h3
      go_wp2_with fail
      go_loopw [6, 7] (fun sv i wr => ∃ (s : ByteArray) (n : Nat), sv = .string s ∧ i = .int .i64 n ∧ n ≤ 41 ∧ s.size ≤ n ∧ Hid (QF w B a len cap zs (p + 1) g c L0 wr)) (fun _ i _ => 42 - (intOf i).toNat)
      case atStart => exact ⟨⟨#[]⟩, 0, rfl, rfl, by omega, by decide, HQ3⟩
      case round =>
        obtain ⟨s, n, rfl, rfl, hn, hs, hq⟩ := hrel
        clear HQ3 HO3
        have HSS := Lib.hid hs
        have hs40 : s.size ≤ 41 := by omega
        have HO4 : Hid (wr.ownsRow S 66 2 (.slice (some ⟨g, 0, none⟩) m1 c) m1 (cellsF L0)) := Lib.hid (by rw [← HM1.out, ← HS.out]; exact hq.out.own)
        have hSw : S ≤ wr.heap.size := by have := hq.out.low; have := HS.out; omega
        clear hs
        by_cases hlt : n ≤ 40
        · have hji : (n : Int) ≤ 40 := by omega
          go_wp2_with fail
          refine ⟨⟨s ++ ⟨#[10]⟩, n + 1, rfl, by go_num, by omega, ?_, hq⟩, by simp [intOf]; omega⟩
          rw [ByteArray.size_append]
          have := HSS.out
          show s.size + 1 ≤ n + 1
          omega
        · have hji : ¬ (n : Int) ≤ 40 := by omega
          go_wp2_with (at_builtin; suffices hgoal : _ ∧ True from hgoal.1)
          refine ⟨?_, trivial⟩
          refine wpList_append_lies _ rfl _ _ 23 rfl S 66 i0 _ 2 32 Tryd.underlying23 hi0 hz0 hz1 hz2 rfl (by omega) (.slice (some ⟨g, 0, none⟩) m1 c) m1 (cellsF L0) rfl (HO4.out.alloc _) ⟨wr.heap.size, 0, none⟩ 1 1 [.string ⟨#[70]⟩, .string s] rfl rfl (World.news_of_block (cs := #[.string ⟨#[70]⟩, .string s]) (t := 66) (fr := (0, 0)) (heap_alloc_new wr _)) (by simp [Value.oneCell']) (by omega) (by unfold maxLen; omega) (by omega) (by simp; omega) (wr.heap.size + 1) (by simp) ?_
          intro g6 cap6 w5 hown6 hgrow6 hat6 hlt6
          have HQ5 := Lib.hid (hq.out.push (n := ⟨#[70]⟩) (t := s) (g6 := g6) (c6 := cap6) (by decide) (by have := HSS.out; omega) (by rw [HM1.out, HS.out]; exact hown6) hgrow6)
          clear hown6 hgrow6 hat6 hlt6
          go_wp2_with fail
          go_ret
          exact ⟨L0 ++ [⟨⟨#[70]⟩, s⟩], g6, cap6, 1, by rw [List.length_append, HM1.out]; simp; omega, by omega, by rw [List.length_append, HM1.out]; rfl, HQ5.out⟩
    · have e0 : ((x : Int) == 0) = false := by rw [beq_eq_false_iff_ne]; omega
      have e1 : ((x : Int) == 1) = false := by rw [beq_eq_false_iff_ne]; omega
      have e2 : ((x : Int) == 2) = false := by rw [beq_eq_false_iff_ne]; omega
      have e3 : ((x : Int) == 3) = false := by rw [beq_eq_false_iff_ne]; omega
      clear h0 h1 h2 h3 hx
      go_wp2_with fail
      go_ret
      exact ⟨L0, g, c, 1, by rw [HM1.out]; omega, by omega, by rw [HM1.out]; rfl, HQ3.out⟩
  · go_wp2_with (at_builtin; suffices hgoal : _ ∧ True from hgoal.1)
    rw [HW1.out]
    refine ⟨?_, trivial⟩
    refine wpList_append_lies _ rfl _ _ 23 rfl S 66 i0 _ 2 32 Tryd.underlying23 hi0 hz0 hz1 hz2 rfl (by omega) (.slice (some ⟨S, 0, none⟩) 0 0) 0 (cellsF []) (by rw [← hS]; rfl) HO1.out ⟨g0, 0, none⟩ m0 c0 (cellsF L0) rfl (by rw [cellsF_len, HM0.out]) HN1.out (cellsF_one L0) hm (by unfold maxLen; omega) (by omega) (by rw [HS1.out]; omega) (S + 1) HS1.out ?_
    intro g c w2 hown6 hgrow6 hat6 hlt6
    have hbl : Below S W1 w2 := ⟨hgrow6.os, hgrow6.tape, hgrow6.output, hgrow6.size, fun q hq => hgrow6.block q (by rw [HS1.out]; omega) (fun e => by injection e with e; dsimp only at e; omega)⟩
    have HQ : Hid (QF w B a len cap zs p g c L0 w2) := Lib.hid (by
      refine ⟨HR1.out.kept (hbl.mono (by omega)), ?_, ?_, HSZ.out, by omega⟩
      · have hd := HD1.out
        exact ⟨hbl.os.trans hd.os, hbl.tape.trans hd.tape, hbl.output.trans hd.output, Nat.le_trans hd.size hbl.size, fun q hq hne => (hbl.block q (by omega)).trans (hd.block q hq hne)⟩
      · rw [HS.out, HM0.out]
        have h := hown6
        rw [Nat.zero_add] at h
        exact h)
    clear hown6 hgrow6 hat6 hlt6 hbl
    rw [show 0 + m0 = m0 from Nat.zero_add m0]
    have HM1 := HM0
    have hm1 : m0 ≤ 8 := hL0
    clear hS HM0 hL0
    go_wp2_with fail
    go_at_call 24
    refine (pick_any B a len cap zs p 30 _ HQ.out.rd (by omega) (by omega) (by omega)).mono ?_
    rintro e w3 ⟨x, hx, rfl, k3, hk3⟩
    have HQ3 := Lib.hid (HQ.out.pick hk3)
    have HO3 : Hid (w3.ownsRow S 66 2 (.slice (some ⟨g, 0, none⟩) m0 c) m0 (cellsF L0)) := Lib.hid (by rw [← HM1.out, ← HS.out]; exact HQ3.out.own)
    have hS3 : S ≤ w3.heap.size := by have := HQ3.out.low; have := HS.out; omega
    clear hk3
    by_cases h0 : x = 0
    · subst h0
      go_wp2_with fail
      go_at_call 32
      refine (of_any B a len cap zs (p + 1) _ (HQ3.out.rd.alloc _) (by omega) _ 4 4 16 (by omega) (by omega) HQ3.out.rd.ne (strRow_new _ _ _ _ _ rfl (by kernel_rfl))).mono ?_
      rintro e w4 ⟨sn, hsn, rfl, k4, hk4⟩
      have HSN := Lib.hid hsn
      have HQ4 := Lib.hid ((HQ3.out.below ((Below.refl _ _).alloc (Nat.le_refl _) _)).pick hk4)
      have HO4 : Hid (w4.ownsRow S 66 2 (.slice (some ⟨g, 0, none⟩) m0 c) m0 (cellsF L0)) := Lib.hid (by rw [← HM1.out, ← HS.out]; exact HQ4.out.own)
      have hS4 : S ≤ w4.heap.size := by have := HQ4.out.low; have := HS.out; omega
      clear hk4 hsn
      go_wp2_with (at_builtin; suffices hgoal : _ ∧ True from hgoal.1)
      refine ⟨?_, trivial⟩
      refine wpList_append_lies _ rfl _ _ 23 rfl S 66 i0 _ 2 32 Tryd.underlying23 hi0 hz0 hz1 hz2 rfl (by omega) (.slice (some ⟨g, 0, none⟩) m0 c) m0 (cellsF L0) rfl (HO4.out.alloc _) ⟨w4.heap.size, 0, none⟩ 1 1 [.string sn, .string ⟨#[120, 32, 61, 32, 49, 10]⟩] rfl rfl (World.news_of_block (cs := #[.string sn, .string ⟨#[120, 32, 61, 32, 49, 10]⟩]) (t := 66) (fr := (0, 0)) (heap_alloc_new w4 _)) (by simp [Value.oneCell']) (by omega) (by unfold maxLen; omega) (by omega) (by simp; omega) (w4.heap.size + 1) (by simp) ?_
      intro g6 cap6 w5 hown6 hgrow6 hat6 hlt6
      have HQ5 := Lib.hid (HQ4.out.push (n := sn) (t := ⟨#[120, 32, 61, 32, 49, 10]⟩) (g6 := g6) (c6 := cap6) (by have := HSN.out; omega) (by decide) (by rw [HM1.out, HS.out]; exact hown6) hgrow6)
      clear hown6 hgrow6 hat6 hlt6
      go_wp2_with fail
      go_ret
      exact ⟨L0 ++ [⟨sn, _⟩], g6, cap6, 2, by rw [List.length_append, HM1.out]; simp; omega, by omega, by rw [List.length_append, HM1.out]; rfl, HQ5.out⟩
    by_cases h1 : x = 1
    · subst h1
      go_wp2_with (at_builtin; suffices hgoal : _ ∧ True from hgoal.1)
      refine ⟨?_, trivial⟩
      refine wpList_append_lies _ rfl _ _ 23 rfl S 66 i0 _ 2 32 Tryd.underlying23 hi0 hz0 hz1 hz2 rfl (by omega) (.slice (some ⟨g, 0, none⟩) m0 c) m0 (cellsF L0) rfl (HO3.out.alloc _) ⟨w3.heap.size, 0, none⟩ 1 1 [.string ⟨#[69]⟩, .string ⟨#[9]⟩] rfl rfl (World.news_of_block (cs := #[.string ⟨#[69]⟩, .string ⟨#[9]⟩]) (t := 66) (fr := (0, 0)) (heap_alloc_new w3 _)) (by simp [Value.oneCell']) (by omega) (by unfold maxLen; omega) (by omega) (by simp; omega) (w3.heap.size + 1) (by simp) ?_
      intro g6 cap6 w5 hown6 hgrow6 hat6 hlt6
      have HQ5 := Lib.hid (HQ3.out.push (n := ⟨#[69]⟩) (t := ⟨#[9]⟩) (g6 := g6) (c6 := cap6) (by decide) (by decide) (by rw [HM1.out, HS.out]; exact hown6) hgrow6)
      clear hown6 hgrow6 hat6 hlt6
      go_wp2_with fail
      go_ret
      exact ⟨L0 ++ [⟨⟨#[69]⟩, ⟨#[9]⟩⟩], g6, cap6, 1, by rw [List.length_append, HM1.out]; simp; omega, by omega, by rw [List.length_append, HM1.out]; rfl, HQ5.out⟩
    by_cases h2 : x = 2
    · subst h2
      go_wp2_with fail
      go_loopw [5] (fun v wr => ∃ (L : List Fl) (g c : Nat), v = .slice (some ⟨g, 0, none⟩) L.length c ∧ L.length ≤ 8 ∧ Hid (QF w B a len cap zs (p + 1) g c L wr)) (fun v _ => 9 - lenSl v)
      case atStart => exact ⟨L0, g, c, by rw [HM1.out], by rw [HM1.out]; exact hm1, HQ3⟩
      case round =>
        obtain ⟨L, g, c, rfl, hl8, hq⟩ := hrel
        clear HQ3 HO3
        obtain ⟨j, hj⟩ : ∃ j, L.length = j := ⟨_, rfl⟩
        have HJ := Lib.hid hj
        rw [hj] at hl8 ⊢
        clear hj
        have HO4 : Hid (wr.ownsRow S 66 2 (.slice (some ⟨g, 0, none⟩) j c) j (cellsF L)) := Lib.hid (by rw [← HJ.out, ← HS.out]; exact hq.out.own)
        have hSw : S ≤ wr.heap.size := by have := hq.out.low; have := HS.out; omega
        by_cases hlt : j ≤ 4
        · have hji : (j : Int) ≤ 4 := by omega
          go_wp2_with fail
          have hc : ((UInt8.ofNat (80 + j)).toNat : Int) = 80 + (j : Int) := by
            have : (UInt8.ofNat (80 + j)).toNat = 80 + j := by simp; omega
            rw [this]; push_cast; rfl
          obtain ⟨ch, hcd⟩ : ∃ c, UInt8.ofNat (80 + j) = c := ⟨_, rfl⟩
          rw [hcd] at hc
          obtain ⟨WB, hWB⟩ : ∃ W, wr.alloc (.cells #[.int .u8 (80 + (j : Int))] 5) = W := ⟨_, rfl⟩
          have E : (convert 22 9 (.slice (some ⟨wr.heap.size, 0, none⟩) 1 1)).run Tryd.prog (wr.alloc (.cells #[.int .u8 (80 + (j : Int))] 5)) = .ok (.string ⟨#[ch]⟩) (wr.alloc (.cells #[.int .u8 (80 + (j : Int))] 5)) :=
            run_convert_bytes_back _ _ _ 5 _ _ [ch] Tryd.underlying22 Tryd.underlying5 Tryd.underlying9 (fun i hi => by
              have hi0 : i = 0 := by simpa using hi
              subst hi0
              have := cell_one_new wr (.int .u8 (80 + (j : Int))) 5
              rw [List.getElem_cons_zero, hc]
              exact this 0 _ rfl)
          rw [E, hWB]
          have HQB : Hid (QF w B a len cap zs (p + 1) g c L WB) := Lib.hid (by rw [← hWB]; exact hq.out.below ((Below.refl _ _).alloc (Nat.le_refl _) _))
          have HOB : Hid (WB.ownsRow S 66 2 (.slice (some ⟨g, 0, none⟩) j c) j (cellsF L)) := Lib.hid (by rw [← HJ.out, ← HS.out]; exact HQB.out.own)
          have hSB : S ≤ WB.heap.size := by have := HQB.out.low; have := HS.out; omega
          clear E hc hcd hWB
          go_wp2_with (at_builtin; suffices hgoal : _ ∧ True from hgoal.1)
          refine ⟨?_, trivial⟩
          refine wpList_append_lies _ rfl _ _ 23 rfl S 66 i0 _ 2 32 Tryd.underlying23 hi0 hz0 hz1 hz2 rfl (by omega) (.slice (some ⟨g, 0, none⟩) j c) j (cellsF L) rfl (HOB.out.alloc _) ⟨WB.heap.size, 0, none⟩ 1 1 [.string ⟨#[ch]⟩, .string ⟨#[]⟩] rfl rfl (World.news_of_block (cs := #[.string ⟨#[ch]⟩, .string ⟨#[]⟩]) (t := 66) (fr := (0, 0)) (heap_alloc_new WB _)) (by simp [Value.oneCell']) (by omega) (by unfold maxLen; omega) (by omega) (by simp; omega) (WB.heap.size + 1) (by simp) ?_
          intro g6 cap6 w5 hown6 hgrow6 hat6 hlt6
          have HQ5 := Lib.hid (HQB.out.push (n := ⟨#[ch]⟩) (t := ⟨#[]⟩) (g6 := g6) (c6 := cap6) (by show 1 ≤ 200; omega) (by decide) (by rw [HJ.out, HS.out]; exact hown6) hgrow6)
          clear hown6 hgrow6 hat6 hlt6
          go_wp2_with fail
          refine ⟨⟨L ++ [⟨⟨#[ch]⟩, ⟨#[]⟩⟩], g6, cap6, by rw [List.length_append, HJ.out]; rfl, by rw [List.length_append, HJ.out]; simp; omega, HQ5⟩, by simp [lenSl]; omega⟩
        · have hji : ¬ (j : Int) ≤ 4 := by omega
          go_wp2_with fail
          go_ret
          exact ⟨L, g, c, 1, by rw [HJ.out]; omega, by omega, by rw [HJ.out]; rfl, hq.out⟩
    by_cases h3 : x = 3
    · subst h3
      go_wp2_with fail
      go_loopw [6, 7] (fun sv i wr => ∃ (s : ByteArray) (n : Nat), sv = .string s ∧ i = .int .i64 n ∧ n ≤ 41 ∧ s.size ≤ n ∧ Hid (QF w B a len cap zs (p + 1) g c L0 wr)) (fun _ i _ => 42 - (intOf i).toNat)
      case atStart => exact ⟨⟨#[]⟩, 0, rfl, rfl, by omega, by decide, HQ3⟩
      case round =>
        obtain ⟨s, n, rfl, rfl, hn, hs, hq⟩ := hrel
        clear HQ3 HO3
        have HSS := Lib.hid hs
        have hs40 : s.size ≤ 41 := by omega
        have HO4 : Hid (wr.ownsRow S 66 2 (.slice (some ⟨g, 0, none⟩) m0 c) m0 (cellsF L0)) := Lib.hid (by rw [← HM1.out, ← HS.out]; exact hq.out.own)
        have hSw : S ≤ wr.heap.size := by have := hq.out.low; have := HS.out; omega
        clear hs
        by_cases hlt : n ≤ 40
        · have hji : (n : Int) ≤ 40 := by omega
          go_wp2_with fail
          refine ⟨⟨s ++ ⟨#[10]⟩, n + 1, rfl, by go_num, by omega, ?_, hq⟩, by simp [intOf]; omega⟩
          rw [ByteArray.size_append]
          have := HSS.out
          show s.size + 1 ≤ n + 1
          omega
        · have hji : ¬ (n : Int) ≤ 40 := by omega
          go_wp2_with (at_builtin; suffices hgoal : _ ∧ True from hgoal.1)
          refine ⟨?_, trivial⟩
          refine wpList_append_lies _ rfl _ _ 23 rfl S 66 i0 _ 2 32 Tryd.underlying23 hi0 hz0 hz1 hz2 rfl (by omega) (.slice (some ⟨g, 0, none⟩) m0 c) m0 (cellsF L0) rfl (HO4.out.alloc _) ⟨wr.heap.size, 0, none⟩ 1 1 [.string ⟨#[70]⟩, .string s] rfl rfl (World.news_of_block (cs := #[.string ⟨#[70]⟩, .string s]) (t := 66) (fr := (0, 0)) (heap_alloc_new wr _)) (by simp [Value.oneCell']) (by omega) (by unfold maxLen; omega) (by omega) (by simp; omega) (wr.heap.size + 1) (by simp) ?_
          intro g6 cap6 w5 hown6 hgrow6 hat6 hlt6
          have HQ5 := Lib.hid (hq.out.push (n := ⟨#[70]⟩) (t := s) (g6 := g6) (c6 := cap6) (by decide) (by have := HSS.out; omega) (by rw [HM1.out, HS.out]; exact hown6) hgrow6)
          clear hown6 hgrow6 hat6 hlt6
          go_wp2_with fail
          go_ret
          exact ⟨L0 ++ [⟨⟨#[70]⟩, s⟩], g6, cap6, 1, by rw [List.length_append, HM1.out]; simp; omega, by omega, by rw [List.length_append, HM1.out]; rfl, HQ5.out⟩
    · have e0 : ((x : Int) == 0) = false := by rw [beq_eq_false_iff_ne]; omega
      have e1 : ((x : Int) == 1) = false := by rw [beq_eq_false_iff_ne]; omega
      have e2 : ((x : Int) == 2) = false := by rw [beq_eq_false_iff_ne]; omega
      have e3 : ((x : Int) == 3) = false := by rw [beq_eq_false_iff_ne]; omega
      clear h0 h1 h2 h3 hx
      go_wp2_with fail
      go_ret
      exact ⟨L0, g, c, 1, by rw [HM1.out]; omega, by omega, by rw [HM1.out]; rfl, HQ3.out⟩

end Go.Proofs.YtpihopmgckdigaaDoor

