/-
  strings.splitSeq$1 of the library at a separator of one byte '\n': the contract.
-/
import Derived.Test.YtpihopmgckdigaaDoorVc
namespace Go.Proofs.YtpihopmgckdigaaDoor
open Go.RowKit Go.Shelf
attribute [local go_sem] Oper.semAt_some

theorem cutN_prefix (s : ByteArray) (c : Int) (a : Nat) : ∀ d : Nat, (cutN s c a).1 <+: (cutN s c (a + d)).1
  | 0 => List.prefix_refl _
  | d + 1 => by
    refine (cutN_prefix s c a d).trans ?_
    by_cases h : a + d = s.size ∨ ((s.data[a + d]!).toNat : Int) = c
    · rw [show a + (d + 1) = (a + d) + 1 from rfl, cutN_hit s c (a + d) h]; exact List.prefix_append _ _
    · rw [show a + (d + 1) = (a + d) + 1 from rfl, cutN_miss s c (a + d) h]; exact List.prefix_refl _
theorem cutN_prefix_cut (s : ByteArray) (c : Int) (k : Nat) (h : k ≤ s.size + 1) : (cutN s c k).1 <+: cut s c := by
  have := cutN_prefix s c k (s.size + 1 - k)
  rwa [show k + (s.size + 1 - k) = s.size + 1 by omega] at this

/-- How many bytes the box at A still holds. -/
def restLen (A : Nat) (w : World) : Nat := match w.cell? ⟨A, 0, none⟩ with
  | some (.string r) => r.size
  | _ => 0
theorem restLen_eq {A : Nat} {w : World} {r : ByteArray} (h : w.cell? ⟨A, 0, none⟩ = some (.string r)) : restLen A w = r.size := by unfold restLen; rw [h]
theorem Boxes3.store {W : World} {A : Nat} {r : ByteArray} (h : Boxes3 W A r) (q : ByteArray) : Boxes3 (W.setCell ⟨A, 0, none⟩ (.string q)) A q :=
  have l := h.lt
  have hg := grownBy_setCell' W A (.string q)
  ⟨Nat.lt_of_lt_of_le h.lt hg.size, World.cell?_setCell_same' _ _ _ (by rw [h.s]; rfl), by rw [World.frozen?_setCell]; exact h.sf,
    (cell_same (hg.block (A + 1) (by omega) (by simp))).trans h.sep, (cell_same (hg.block (A + 2) (by omega) (by simp))).trans h.save⟩

set_option maxRecDepth 100000 in
set_option maxHeartbeats 2000000 in
theorem splitSeq1_in (hIx : ∀ (s : ByteArray) (w : World), Calls Tryd.prog 150 #[.string s, .string ⟨#[10]⟩] w fun e w' => e = .returned (.int .i64 (Lib.indexByte s.data.toList 10)) ∧ w' = w)
    (n l A : Nat) (s : ByteArray) (hs : s.size ≤ 1000000) (J Jx : List ByteArray → World → Prop) (W : World)
    (hJ : AbidesD (Own3 A) W.heap.size J)
    (hY : ∀ pre x W1, J pre W1 → (pre ++ [x]) <+: cut s 10 → YieldAt Fence.wide (n - 1) Tryd.prog l #[.string x] W1 fun e W' =>
      (e = .returned (.bool true) ∧ J (pre ++ [x]) W' ∧ KeepsAt (Own3 A) W1 W') ∨ (e = .returned (.bool false) ∧ Jx (pre ++ [x]) W' ∧ KeepsAt (Own3 A) W1 W'))
    (hbx : Boxes3 W A s) (h0 : J [] W) :
    CallsIn Fence.wide n Tryd.prog 149 #[.func (.yield l) #[] #[], .pointer (some ⟨A + 1, 0, none⟩), .pointer (some ⟨A, 0, none⟩), .pointer (some ⟨A + 2, 0, none⟩)] W fun e W' =>
      (∃ v, e = .returned v) ∧ ((∃ xs, xs = cut s 10 ∧ J xs W') ∨ (∃ pre : List ByteArray, pre <+: cut s 10 ∧ Jx pre W')) := by
  refine callsIn_of_wp Tryd.func149 rfl trivial ?_ rfl
  simp only [Tryd.ntmps149, List.size_toArray, List.length_cons, List.length_nil, Nat.reduceAdd, Nat.reduceSub, Array.replicate_succ, Array.replicate_zero, List.push_toArray, List.append_toArray, List.nil_append, List.cons_append]
  obtain ⟨hlt, hc, hf, hp, hv⟩ := hbx
  gi_wp2
  gi_loopw [7] (fun i wr => ∃ k : Nat, k ≤ s.size ∧ (cutN s 10 k).2 = k ∧ Boxes3 wr A (s.extract k s.size) ∧ J (cutN s 10 k).1 wr)
    (fun _ wr => restLen A wr)
  case atStart =>
    exact ⟨0, Nat.zero_le _, rfl, ⟨hlt, by rw [show s.extract 0 s.size = s from by simp]; exact hc, hf, hp, hv⟩, h0⟩
  case round =>
    obtain ⟨k, hk, hk2, hbx, hJs⟩ := hrel
    have hpl := (cutN_le s 10 k).2
    obtain ⟨r, hr⟩ : ∃ r, s.extract k s.size = r := ⟨_, rfl⟩
    rcases Lib.indexByte_piece s k s.size 10 with hix | ⟨i, hix, hilt⟩
    · have hlast := cut_last hk2 hk hix
      rw [hr] at hix hbx hlast
      have HL := Lib.hid hlast
      clear hlast
      obtain ⟨hlt, hc, hf, hp, hv⟩ := hbx
      obtain ⟨fn, tmps, assign, body, hy, hR⟩ := hY _ r wr hJs (by rw [HL.out]; exact List.prefix_refl _)
      have HK := Lib.hid hk2
      clear hk2 hr
      gi_wp2_with (refine ⟨trivial, fun h => Bool.noConfusion h, ?_⟩; gi_at_call 150; refine (callsIn_wide.2 (hIx _ _)).mono ?_; rintro e w' ⟨rfl, rfl⟩; rw [hix])
      refine ⟨fun h => Bool.noConfusion h, ?_⟩
      refine hR.mono ?_
      rintro e W3 (⟨rfl, hJ3, hk3⟩ | ⟨rfl, hJx3, _⟩)
      · gi_wp2
        go_end0
        exact ⟨⟨_, rfl⟩, .inl ⟨_, by rw [HL.out], hJ3⟩⟩
      · gi_wp2
        go_end0
        exact ⟨⟨_, rfl⟩, .inr ⟨_, by rw [HL.out]; exact List.prefix_refl _, hJx3⟩⟩
    · have hst := cut_step hk2 hk hix
      rw [hr] at hix hbx
      obtain ⟨hlt, hc, hf, hp, hv⟩ := hbx
      have hsz : i < r.size := by rw [← hr]; simp; omega
      have hx : r.extract 0 i = s.extract k (k + i) := by
        rw [← hr, ByteArray.extract_extract]; congr 1 <;> omega
      have hrest : r.extract (i + 1) r.size = s.extract (k + i + 1) s.size := by
        rw [← hr, ByteArray.extract_extract]; congr 1 <;> simp <;> omega
      obtain ⟨fn, tmps, assign, body, hy, hR⟩ := hY _ (r.extract 0 i) wr hJs (by have := cutN_prefix_cut s 10 (k + i + 1) (by omega); rw [hst.2] at this; rw [hx]; exact this)
      have HK := Lib.hid hk2
      have HX := Lib.hid hx
      have HR := Lib.hid hrest
      have HS := Lib.hid hst
      clear hk2 hr hx hrest hst
      gi_wp2_with (refine ⟨trivial, fun h => Bool.noConfusion h, ?_⟩; gi_at_call 150; refine (callsIn_wide.2 (hIx _ _)).mono ?_; rintro e w' ⟨rfl, rfl⟩; rw [hix])
      refine ⟨fun h => Bool.noConfusion h, ?_⟩
      refine hR.mono ?_
      rintro e W3 (⟨rfl, hJ3, hk3⟩ | ⟨rfl, hJx3, _⟩)
      · have hb3 := Boxes3.keep ⟨hlt, hc, hf, hp, hv⟩ hk3
        have hbs := hb3.store (r.extract (i + 1) r.size)
        obtain ⟨hlt3, hc3, hf3, hp3, hv3⟩ := hb3
        have hJs3 := hJ _ _ _ (some A) hJ3 (grownBy_setCell' W3 A (.string (r.extract (i + 1) r.size))) (fun q e => .inl (by cases e; exact ⟨by omega, by omega⟩))
        gi_wp2
        go_roundw
        case rel =>
          refine ⟨k + i + 1, by omega, by rw [HS.out.2], by rw [← HR.out]; exact hbs, ?_⟩
          rw [HS.out.2, ← HX.out]; exact hJs3
        case measure =>
          rw [restLen_eq hbs.s, restLen_eq hc]; simp; omega
      · gi_wp2
        refine bodyPost_ret (results_none rfl _ _ _) rfl ?_
        exact ⟨⟨_, rfl⟩, .inr ⟨_, by have := cutN_prefix_cut s 10 (k + i + 1) (by omega); rw [HS.out.2] at this; rw [HX.out]; exact this, hJx3⟩⟩
theorem splitSeq1_stops (hIx : ∀ (s : ByteArray) (w : World), Calls Tryd.prog 150 #[.string s, .string ⟨#[10]⟩] w fun e w' => e = .returned (.int .i64 (Lib.indexByte s.data.toList 10)) ∧ w' = w)
    (n A : Nat) (s : ByteArray) (hs : s.size ≤ 1000000) (w : World) (hbx : Boxes3 w A s) :
    SeqStopsD Fence.wide n Tryd.prog 149 #[.pointer (some ⟨A + 1, 0, none⟩), .pointer (some ⟨A, 0, none⟩), .pointer (some ⟨A + 2, 0, none⟩)] (fun x : ByteArray => #[Value.string x]) (fun _ => Own3 A) (fun xs => xs = cut s 10) (fun pre => pre <+: cut s 10) (fun pre => pre <+: cut s 10) (fun _ _ => True) w :=
  fun l J Jx W _ hk hJ _ hY h0 => splitSeq1_in hIx n l A s hs J Jx W hJ (fun pre x W1 h1 h2 => hY pre x W1 h1 h2 trivial) (hbx.keep hk) h0

set_option maxRecDepth 100000 in
set_option maxHeartbeats 2000000 in
/-- strings.SplitSeq(s, "\n"): three boxes, and a function value that captures them. -/
theorem SplitSeq_any (s : ByteArray) (w : World) :
    Calls Tryd.prog 111 #[.string s, .string ⟨#[10]⟩] w fun e w' => e = .returned (.func (.func 149) #[] #[.pointer (some ⟨w.heap.size + 1, 0, none⟩), .pointer (some ⟨w.heap.size, 0, none⟩), .pointer (some ⟨w.heap.size + 2, 0, none⟩)]) ∧
      w' = ((w.alloc (.cells #[.string s] 9)).alloc (.cells #[.string ⟨#[10]⟩] 9)).alloc (.cells #[.int .i64 0] 3) := by
  have hin : Calls Tryd.prog 133 #[.string s, .string ⟨#[10]⟩, .int .i64 0] w fun e w' => e = .returned (.func (.func 149) #[] #[.pointer (some ⟨w.heap.size + 1, 0, none⟩), .pointer (some ⟨w.heap.size, 0, none⟩), .pointer (some ⟨w.heap.size + 2, 0, none⟩)]) ∧
      w' = ((w.alloc (.cells #[.string s] 9)).alloc (.cells #[.string ⟨#[10]⟩] 9)).alloc (.cells #[.int .i64 0] 3) := by
    go_enter Tryd.func133, Tryd.ntmps133
    go_wp2
    go_ret
    exact ⟨rfl, rfl⟩
  go_enter Tryd.func111, Tryd.ntmps111
  go_wp2_with (go_at_call 133; refine hin.mono ?_; rintro e w' ⟨rfl, rfl⟩)
  go_ret
  exact ⟨rfl, rfl⟩

theorem boxes3_new (s : ByteArray) (w : World) : Boxes3 (((w.alloc (.cells #[.string s] 9)).alloc (.cells #[.string ⟨#[10]⟩] 9)).alloc (.cells #[.int .i64 0] 3)) w.heap.size s := by
  have e1 := World.alloc_heap_new w (.cells #[.string s] 9)
  have e2 := World.alloc_heap_new (w.alloc (.cells #[.string s] 9)) (.cells #[.string ⟨#[10]⟩] 9)
  have e3 := World.alloc_heap_new ((w.alloc (.cells #[.string s] 9)).alloc (.cells #[.string ⟨#[10]⟩] 9)) (.cells #[.int .i64 0] 3)
  have g2 := World.grownBy_alloc (w.alloc (.cells #[.string s] 9)) (.cells #[.string ⟨#[10]⟩] 9) none
  have g3 := World.grownBy_alloc ((w.alloc (.cells #[.string s] 9)).alloc (.cells #[.string ⟨#[10]⟩] 9)) (.cells #[.int .i64 0] 3) none
  have a2 := (g2.block w.heap.size (by simp) (by simp)).trans e1
  have a3 := (g3.block w.heap.size (by simp; omega) (by simp)).trans a2
  rw [World.size_alloc] at e2
  have b3 := (g3.block (w.heap.size + 1) (by simp) (by simp)).trans e2
  rw [World.size_alloc, World.size_alloc] at e3
  refine ⟨by simp, ?_, ?_, ?_, ?_⟩
  · simp only [World.cell?, a3]; rfl
  · simp only [World.frozen?, a3]; rfl
  · simp only [World.cell?, b3]; rfl
  · simp only [World.cell?, e3]; rfl

set_option maxRecDepth 100000 in
set_option maxHeartbeats 2000000 in
/-- linesIn(s): one box, and a function value that captures it. -/
theorem linesIn_any (s : ByteArray) (w : World) :
    Calls Tryd.prog 95 #[.string s] w fun e w' => e = .returned (.func (.func 110) #[] #[.pointer (some ⟨w.heap.size, 0, none⟩)]) ∧ w' = w.alloc (.cells #[.string s] 9) := by
  go_enter Tryd.func95, Tryd.ntmps95
  go_wp2
  go_ret
  exact ⟨rfl, rfl⟩

end Go.Proofs.YtpihopmgckdigaaDoor
