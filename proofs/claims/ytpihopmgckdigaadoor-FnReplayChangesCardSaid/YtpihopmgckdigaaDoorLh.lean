/-
  workspaceOf and FilesValid of the program.
-/
import Derived.Test.YtpihopmgckdigaaDoorLg
import Derived.Maps.OwnIn
namespace Go.Proofs.YtpihopmgckdigaaDoor
open Go.RowKit Go.Maps Go.Sort Go.Shelf Go.WideMaps
attribute [local go_sem] Oper.semAt_some
set_option linter.unusedVariables false
set_option linter.unusedSimpArgs false

/-- What workspaceOf returns. -/
def WsPost (ls : List Fl) (w : World) (e : Ending) (w' : World) : Prop := ∃ mv b, e = .returned (.tuple #[mv, .bool b]) ∧ b = filesB ls ∧ Below w.heap.size w w' ∧ (b = false → mv = .map none) ∧ (b = true → ∃ bm n, mv = .map (some bm) ∧ w.heap.size ≤ bm ∧ n ≤ 4 ∧ IsWs w' bm n (flD ls))
theorem keepsAt_bel {D : Nat → Prop} {W W' : World} (h : Below W.heap.size W W') : KeepsAt D W W' := ⟨h.size, fun r _ hs => h.block r hs⟩
set_option maxRecDepth 100000 in
set_option maxHeartbeats 4000000 in
theorem workspaceOf_long (ls : List Fl) (a : Option Addr) (cap : Nat) (w : World) (hl : 4 < ls.length) (hl2 : ls.length ≤ 2000000) :
    Calls Tryd.prog 28 #[.slice a ls.length cap] w (WsPost ls w) := by
  obtain ⟨L, hL⟩ : ∃ L, ls.length = L := ⟨_, rfl⟩
  have HR : Hid (filesB ls = false) := Lib.hid (filesB_long hl)
  rw [hL] at hl hl2 ⊢
  have h4 : (L : Int) > 4 := by omega
  clear hL
  refine (callsIn_wide (n := 10)).1 ?_
  refine callsIn_of_wp_marks Tryd.func28 rfl trivial ?_ rfl
  simp only [Tryd.ntmps28, List.size_toArray, List.length_cons, List.length_nil, Nat.reduceAdd, Nat.reduceSub, Array.replicate_succ, Array.replicate_zero, List.push_toArray, List.append_toArray, List.nil_append, List.cons_append]
  gi_wp2
  refine ⟨.tuple #[.map none, .bool false], by simp [results, Tryd.results28, go_sem], _, _, rfl, HR.out.symm, ?_, fun _ => rfl, fun h => Bool.noConfusion h⟩
  exact ((Below.refl _ _).alloc (Nat.le_refl _) _).alloc (by simp) _
set_option maxRecDepth 100000 in
set_option maxHeartbeats 4000000 in
theorem workspaceOf_short (ls : List Fl) (a : Option Addr) (cap : Nat) (w : World) (hl : ls.length ≤ 4) (hz : FlSz ls) (h : FsAt w ls (.slice a ls.length cap)) :
    Calls Tryd.prog 28 #[.slice a ls.length cap] w (WsPost ls w) := by
  obtain ⟨L, hL⟩ : ∃ L, ls.length = L := ⟨_, rfl⟩
  have H := Lib.hid h
  have HZ : Hid (FlSz ls) := Lib.hid hz
  have HL := Lib.hid hL
  rw [hL] at hl H ⊢
  have h4 : ¬ (L : Int) > 4 := by omega
  have hmm := @run_makeMap Tryd.prog
  clear hL h hz
  refine (callsIn_wide (n := 10)).1 ?_
  refine callsIn_of_wp_marks Tryd.func28 rfl trivial ?_ rfl
  simp only [Tryd.ntmps28, List.size_toArray, List.length_cons, List.length_nil, Nat.reduceAdd, Nat.reduceSub, Array.replicate_succ, Array.replicate_zero, List.push_toArray, List.append_toArray, List.nil_append, List.cons_append]
  gi_wp2_with fail
  obtain ⟨A, hA⟩ : ∃ A, w.heap.size = A := ⟨_, rfl⟩
  obtain ⟨W1, hW1⟩ : ∃ W, (w.alloc (.cells #[.map none] 68)).alloc (.cells #[.bool false] 4) = W := ⟨_, rfl⟩
  have hz1 : W1.heap.size = A + 2 := by rw [← hW1, ← hA]; simp
  have hb1 : Below A w W1 := by rw [← hW1, ← hA]; exact ((Below.refl _ _).alloc (Nat.le_refl _) _).alloc (by simp) _
  have e1 : W1.heap[A]? = some (.cells #[.map none] 68) := by
    rw [← hW1, ← hA]; exact (Below.heap_alloc _ _ _ (by simp)).trans (World.alloc_heap_new w _)
  have e2 : W1.heap[A + 1]? = some (.cells #[.bool false] 4) := by
    rw [← hW1, ← hA]; have := World.alloc_heap_new (w.alloc (.cells #[.map none] 68)) (.cells #[.bool false] 4); rwa [World.size_alloc] at this
  obtain ⟨W2, hW2⟩ : ∃ W, W1.alloc (.map #[] 0) = W := ⟨_, rfl⟩
  have hz2 : W2.heap.size = A + 3 := by rw [← hW2]; simp [hz1]
  have hb2 : Below A w W2 := by rw [← hW2]; exact hb1.alloc (by omega) _
  have d1 : W2.heap[A]? = some (.cells #[.map none] 68) := by rw [← hW2]; exact (Below.heap_alloc _ _ _ (by omega)).trans e1
  have d2 : W2.heap[A + 1]? = some (.cells #[.bool false] 4) := by rw [← hW2]; exact (Below.heap_alloc _ _ _ (by omega)).trans e2
  have hm2 : IsWs W2 (A + 2) 0 (flD []) := by rw [← hW2, ← hz1]; exact World.ownsMap_made _ _ _ _
  rw [hW1, hW2, hA]
  simp only [Nat.add_assoc, Nat.reduceAdd]
  clear e1 e2 hb1 hW1 hW2
  gi_loopw [15] (fun i wr => ∃ k : Nat, k ≤ L ∧ i = .int .i64 k ∧ Hid (IsWs wr (A + 2) k (flD (ls.take k))) ∧ Hid (Below A w wr) ∧ Hid (wr.heap[A]? = some (.cells #[.map none] 68)) ∧ Hid (wr.heap[A + 1]? = some (.cells #[.bool false] 4)) ∧ A + 3 ≤ wr.heap.size) (fun i _ => L - (intOf i).toNat)
  case atStart => exact ⟨0, Nat.zero_le _, rfl, Lib.hid (by rw [List.take_zero]; exact hm2), Lib.hid hb2, Lib.hid d1, Lib.hid d2, by omega⟩
  case round =>
    obtain ⟨k, hk, rfl, HM, HB, HD1, HD2, hzr⟩ := hrel
    by_cases hlt : k < L
    · have hki : (k : Int) < (L : Int) := by omega
      obtain ⟨b1, o1, c1, ex, l1, ⟨x0, x1⟩⟩ := (H.out.kept (by rw [hA]; exact HB.out)).kid k (by rw [HL.out]; exact hlt)
      have ex1 : a = some ⟨b1, o1, none⟩ := by injection ex
      subst ex1
      obtain ⟨y, hy⟩ : ∃ y, ls.getD k Fl.dummy = y := ⟨_, rfl⟩
      have HT : Hid (flD (ls.take (k + 1)) = stpF (flD (ls.take k)) y) := Lib.hid (by rw [← hy]; exact flD_take (by rw [HL.out]; exact hlt))
      have HSZ := Lib.hid (HZ.out k (by rw [HL.out]; exact hlt))
      rw [hy] at x0 x1 HSZ
      clear ex hy d1 d2 hm2 hb2 hz2 hz1
      have hown : wr.ownsMap Tryd.prog 9 (plainElem Tryd.prog 9) (A + 2) k (flD (ls.take k)) := HM.out
      have hkey : keyOf Tryd.prog 9 (.string y.n) = some (.string (nmF y)) := keyOf_string_mk Tryd.underlying9 HSZ.out.1
      have hval : plainElem (H := Unit) Tryd.prog 9 (.string y.t) = some (.lit (.string y.t.data.toList), []) := plainElem_string Tryd.underlying9 HSZ.out.2
      gi_wp2_with (first | (gi_at_mapUpdate; refine wpListIn_mapUpdate_own _ rfl _ _ _ 68 rfl 9 9 wsLaw Tryd.underlying68 _ (A + 2) k (flD (ls.take k)) rfl (by first | exact hown.alloc _ | exact hown) (by unfold maxLen; omega) _ _ (.string (nmF y)) rfl rfl hkey _ [] hval ?_; intro w1 hown1 hgrow1))
      have hga := World.grownBy_alloc wr (.cells #[.string y.n, .string y.t] 66) none
      have hs1 := hgrow1.size
      have hsa := hga.size
      go_roundw
      case rel => exact ⟨k + 1, by omega, by go_num, Lib.hid (by rw [HT.out]; exact hown1), Lib.hid ((HB.out.alloc (by omega) _).grown hgrow1 (by omega) (fun q hq => by cases hq; omega)),
        Lib.hid ((hgrow1.block A (by omega) (by simp)).trans ((hga.block A (by omega) (by simp)).trans HD1.out)), Lib.hid ((hgrow1.block (A + 1) (by omega) (by simp)).trans ((hga.block (A + 1) (by omega) (by simp)).trans HD2.out)), by omega⟩
      case measure => simp [intOf]; omega
    · have hki : ¬ (k : Int) < (L : Int) := by omega
      have hkL : k = L := by omega
      subst hkL
      have htk : ls.take k = ls := List.take_of_length_le (by rw [HL.out]; exact Nat.le_refl _)
      rw [htk] at HM
      have hln := World.ownsMap.len HM.out Tryd.underlying68 3
      obtain ⟨hs1, hs2⟩ := flD_size ls
      rw [HL.out] at hs1 hs2
      have cA : wr.cell? ⟨A, 0, none⟩ = some (.map none) := by simp only [World.cell?, HD1.out]; rfl
      have cA1 : wr.cell? ⟨A + 1, 0, none⟩ = some (.bool false) := by simp only [World.cell?, HD2.out]; rfl
      have fA : wr.frozen? ⟨A, 0, none⟩ = false := by simp only [World.frozen?, HD1.out]; rfl
      have fA1 : wr.frozen? ⟨A + 1, 0, none⟩ = false := by simp only [World.frozen?, HD2.out]; rfl
      clear d1 d2 hm2 hb2 hz2 hz1 htk hlt
      by_cases hap : Apart ls
      case neg =>
        have HR : Hid (filesB ls = false) := Lib.hid (filesB_twice hap)
        have hlt : (size (flD ls) : Int) < (k : Int) := by have : size (flD ls) ≠ k := fun e => hap (hs2.1 e); omega
        clear hs1 hs2 hap
        gi_wp2
        have hg1 := grownBy_setCell' wr A (.map none)
        have hg2 := grownBy_setCell' (wr.setCell ⟨A, 0, none⟩ (.map none)) (A + 1) (.bool false)
        have q1 : ((wr.setCell ⟨A, 0, none⟩ (.map none)).setCell ⟨A + 1, 0, none⟩ (.bool false)).cell? ⟨A, 0, none⟩ = some (.map none) :=
          (cell_same (hg2.block A (by simp; omega) (by simp))).trans (World.cell?_setCell_same' _ _ _ (by rw [cA]; rfl))
        have q2 : ((wr.setCell ⟨A, 0, none⟩ (.map none)).setCell ⟨A + 1, 0, none⟩ (.bool false)).cell? ⟨A + 1, 0, none⟩ = some (.bool false) :=
          World.cell?_setCell_same' _ _ _ (by rw [cell_same (hg1.block (A + 1) (by omega) (by simp)), cA1]; rfl)
        refine ⟨.tuple #[.map none, .bool false], by simp [results, Tryd.results28, go_sem, q1, q2], _, _, rfl, HR.out.symm, ?_, fun _ => rfl, fun h => Bool.noConfusion h⟩
        rw [hA]
        exact (HB.out.setCell (p := ⟨A, 0, none⟩) (Nat.le_refl _) _).setCell (p := ⟨A + 1, 0, none⟩) (by show A ≤ A + 1; omega) _
      have hnl : ¬ (size (flD ls) : Int) < (k : Int) := by have := hs2.2 hap; omega
      clear hs1 hs2
      gi_wp2_with (first | (refine ⟨trivial, ?_⟩; gi_at_call 51; refine (callsIn_wide.2 (inOrder_any _ _)).mono ?_; rintro e w' ⟨rfl, rfl⟩))
      have HAP := Lib.hid hap
      obtain ⟨W5, hW5⟩ : ∃ W, wr.alloc (.cells #[.map (some (A + 2))] 68) = W := ⟨_, rfl⟩
      have hz5 : W5.heap.size = wr.heap.size + 1 := by rw [← hW5]; simp
      have hg5 := World.grownBy_alloc wr (.cells #[.map (some (A + 2))] 68) none
      have a5 : W5.heap[wr.heap.size]? = some (.cells #[.map (some (A + 2))] 68) := by rw [← hW5]; exact World.alloc_heap_new wr _
      rw [hW5] at hg5
      have hb5 : Below A w W5 := HB.out.grown hg5 (by omega) (fun q hq => by cases hq)
      have p1 := (hg5.block A (by omega) (by simp)).trans HD1.out
      have p2 := (hg5.block (A + 1) (by omega) (by simp)).trans HD2.out
      have pm : IsWs W5 (A + 2) k (flD ls) := HM.out.kept (hg5.block (A + 2) (by omega) (by simp))
      have HKLE := Lib.hid (keys_le pm)
      have HPM := Lib.hid pm
      rw [hW5]
      clear hln hnl cA cA1 fA fA1 HM HB HD1 HD2 hmm hap hW5 hg5
      have hwide : ∀ {X X' : World} {row : Option Nat}, X.grownBy X' row → A + 3 ≤ X.heap.size → (∀ r, row = some r → LoopBlk NoW W5.heap.size r ∨ (W5.heap.size ≤ r ∧ ∃ o : Obj, X.heap[r]? = some o ∧ o.isWalk = true)) →
          (∀ b, b < A + 3 → X'.heap[b]? = X.heap[b]?) ∧ (Below A w X → Below A w X') := by
        intro X X' row hg hz h
        have key : ∀ r, row = some r → A + 3 ≤ r := by
          intro r e
          rcases h r e with (h | h | h) | ⟨h, ho⟩
          · exact h.elim
          all_goals omega
        exact ⟨fun b hb => hg.block b (by omega) (fun e => by have := key b e.symm; omega), fun hbl => hbl.grown hg (by omega) (fun q hq => by have := key q hq; omega)⟩
      refine wpIn_rangeFunc_ownE (encs := fun x : List UInt8 => #[Value.string ⟨x.toArray⟩, Value.string (txtD (flD ls) x)]) rfl (by omega) (gf := 75) (lb := #[.pointer (some ⟨wr.heap.size, 0, none⟩)]) rfl trivial (enters_of Tryd.func75 (by kernel_rfl) rfl)
        (inOrder1_stops (10 - 1) wr.heap.size (A + 2) k (flD ls) W5 (by omega) (by omega) (by simp only [World.cell?, a5]; rfl) pm (by omega)) ?hD ?hE (fun _ => rfl)
        (fun pre X => (∀ q ∈ pre, rgW (flD ls) q = true) ∧ Below A w X ∧ X.heap[A]? = some (.cells #[.map none] 68) ∧ X.heap[A + 1]? = some (.cells #[.bool false] 4) ∧ IsWs X (A + 2) k (flD ls) ∧ A + 3 ≤ X.heap.size)
        (fun c _ X => c = .ret ∧ filesB ls = false ∧ Below A w X ∧ X.cell? ⟨A, 0, none⟩ = some (.map none) ∧ X.cell? ⟨A + 1, 0, none⟩ = some (.bool false) ∧ A + 3 ≤ X.heap.size) ?hI ?hIx ?h0
        (fun x => { tmps := #[.slice a k cap, undef, .pointer (some ⟨A, 0, none⟩), .pointer (some ⟨A + 1, 0, none⟩), .map (some (A + 2)), undef, u6, .string ⟨x.toArray⟩, .string (txtD (flD ls) x), .slice a k cap, .int .i64 k, .bool false, .map (some (A + 2)), .slice a k cap, .int .i64 k, .int .i64 k, .bool false, u17, u18, u19, u20, u21, u22, u23, u24, .map (some (A + 2)), .int .i64 (size (flD ls)), .slice a k cap, .int .i64 k, .bool false, .map (some (A + 2)), .func (.func 75) #[] #[.pointer (some ⟨wr.heap.size, 0, none⟩)], .string ⟨x.toArray⟩, .string (txtD (flD ls) x), undef, undef, undef, undef, undef, undef, undef, undef, undef], defers := [] }) ?assign ?body ?done ?stop
      case hD => intro r hr; exact hr.elim
      case hE => intro r hr; rw [hz5] at hr ⊢; rcases hr with h | h | h <;> omega
      case assign =>
        intro l x W K hK
        gi_wp2
        exact hK
      case h0 => exact ⟨fun q hq => absurd hq List.not_mem_nil, hb5, p1, p2, pm, by omega⟩
      case hI =>
        rintro pre X X' row ⟨hn, hbl, q1, q2, qm, hz⟩ hg hr
        obtain ⟨h1, h2⟩ := hwide hg hz hr
        exact ⟨hn, h2 hbl, (h1 A (by omega)).trans q1, (h1 (A + 1) (by omega)).trans q2, qm.kept (h1 (A + 2) (by omega)), Nat.le_trans hz hg.size⟩
      case hIx =>
        rintro c pre X X' row ⟨hc, hf, hbl, q1, q2, hz⟩ hg hr
        obtain ⟨h1, h2⟩ := hwide hg hz hr
        exact ⟨hc, hf, h2 hbl, (cell_same (h1 A (by omega))).trans q1, (cell_same (h1 (A + 1) (by omega))).trans q2, Nat.le_trans hz hg.size⟩
      case body =>
        rintro l pre x X hX2 ⟨hn, hbl, q1, q2, qm, hz⟩ hG _
        have hxm : x ∈ keysD (flD ls) := hG.subset (by simp)
        have hxl := HKLE.out x hxm
        have HTS := Lib.hid (txt_size HPM.out hxl).2
        have HBL := Lib.hid hbl
        have HN := Lib.hid hn
        have HQM := Lib.hid qm
        have HQ1 := Lib.hid q1
        have HQ2 := Lib.hid q2
        have cA : X.cell? ⟨A, 0, none⟩ = some (.map none) := by simp only [World.cell?, q1]; rfl
        have cA1 : X.cell? ⟨A + 1, 0, none⟩ = some (.bool false) := by simp only [World.cell?, q2]; rfl
        have fA : X.frozen? ⟨A, 0, none⟩ = false := by simp only [World.frozen?, q1]; rfl
        have fA1 : X.frozen? ⟨A + 1, 0, none⟩ = false := by simp only [World.frozen?, q2]; rfl
        have HXM := Lib.hid hxm
        have hstored : ∀ {Y : World}, Below X.heap.size X Y → filesB ls = false → ownPostD (LoopBlk (RdW wr.heap.size (A + 2)) W5.heap.size) (fun pre X => (∀ q ∈ pre, rgW (flD ls) q = true) ∧ Below A w X ∧ X.heap[A]? = some (.cells #[.map none] 68) ∧ X.heap[A + 1]? = some (.cells #[.bool false] 4) ∧ IsWs X (A + 2) k (flD ls) ∧ A + 3 ≤ X.heap.size)
            (fun c _ X => c = .ret ∧ filesB ls = false ∧ Below A w X ∧ X.cell? ⟨A, 0, none⟩ = some (.map none) ∧ X.cell? ⟨A + 1, 0, none⟩ = some (.bool false) ∧ A + 3 ≤ X.heap.size) (pre ++ [x]) X .ret { tmps := #[], defers := [] } ((Y.setCell ⟨A, 0, none⟩ (.map none)).setCell ⟨A + 1, 0, none⟩ (.bool false)) := by
          intro Y hy hf
          have hsy := hy.size
          have hg1 := grownBy_setCell' Y A (.map none)
          have hg2 := grownBy_setCell' (Y.setCell ⟨A, 0, none⟩ (.map none)) (A + 1) (.bool false)
          have y1 : Y.cell? ⟨A, 0, none⟩ = some (.map none) := (cell_same (hy.block A (by omega))).trans cA
          have y2 : Y.cell? ⟨A + 1, 0, none⟩ = some (.bool false) := (cell_same (hy.block (A + 1) (by omega))).trans cA1
          refine ⟨((keepsAt_bel hy).trans (KeepsAt.grown hg1 (fun r e h => ?_))).trans (KeepsAt.grown hg2 (fun r e h => ?_)), rfl, hf, ?_, ?_, ?_, by have := hg1.size; have := hg2.size; omega⟩
          · cases e; rcases h with (h | h | h) | h | h <;> omega
          · cases e; rcases h with (h | h | h) | h | h <;> omega
          · exact ((HBL.out.trans (hy.mono (by omega))).setCell (p := ⟨A, 0, none⟩) (Nat.le_refl _) _).setCell (p := ⟨A + 1, 0, none⟩) (by show A ≤ A + 1; omega) _
          · exact (cell_same (hg2.block A (by simp; omega) (by simp))).trans (World.cell?_setCell_same' _ _ _ (by rw [y1]; rfl))
          · exact World.cell?_setCell_same' _ _ _ (by rw [cell_same (hg1.block (A + 1) (by omega) (by simp)), y2]; rfl)
        clear hbl hn qm hxm hG hxl hwide pm p1 p2 a5 hb5 q1 q2
        rcases hb1 : Ox.oneB 65 90 (strB x) with _ | _
        · have HF : Hid (filesB ls = false) := Lib.hid (filesB_bad HPM.out HAP.out HXM.out (by unfold rgW; rw [hb1]; rfl))
          gi_wp2_with (first | (refine ⟨trivial, ?_⟩; gi_at_call 52; refine (CallsIn.inRound l (callsIn_wide.2 (Ox.isFileName_any (strB x) _))).mono ?_; rintro e w1 ⟨rfl, rfl⟩; rw [hb1]) | (refine ⟨trivial, ?_⟩))
          exact hstored (Below.refl _ _) HF.out
        rcases hb2 : ftB (txtD (flD ls) x) with _ | _
        · have HF : Hid (filesB ls = false) := Lib.hid (filesB_bad HPM.out HAP.out HXM.out (by unfold rgW; rw [hb1, hb2]; rfl))
          gi_wp2_with (first
            | (refine ⟨trivial, ?_⟩; gi_at_call 52; refine (CallsIn.inRound l (callsIn_wide.2 (Ox.isFileName_any (strB x) _))).mono ?_; rintro e w1 ⟨rfl, rfl⟩; rw [hb1])
            | (refine ⟨trivial, ?_⟩; gi_at_call 53; refine (CallsIn.inRound l (callsIn_wide.2 (isFileText_any (txtD (flD ls) x) HTS.out _))).mono ?_; rintro e w2 ⟨rfl, hbt⟩; rw [hb2]; have t1 := (hbt.cell (p := ⟨A, 0, none⟩) (by show A < _; omega)).trans cA; have t2 := (hbt.cell (p := ⟨A + 1, 0, none⟩) (by show A + 1 < _; omega)).trans cA1; have u1 := (hbt.frozen (p := ⟨A, 0, none⟩) (by show A < _; omega)).trans fA; have u2 := (hbt.frozen (p := ⟨A + 1, 0, none⟩) (by show A + 1 < _; omega)).trans fA1))
          exact hstored hbt HF.out
        · gi_wp2_with (first
            | (refine ⟨trivial, ?_⟩; gi_at_call 52; refine (CallsIn.inRound l (callsIn_wide.2 (Ox.isFileName_any (strB x) _))).mono ?_; rintro e w1 ⟨rfl, rfl⟩; rw [hb1])
            | (refine ⟨trivial, ?_⟩; gi_at_call 53; refine (CallsIn.inRound l (callsIn_wide.2 (isFileText_any (txtD (flD ls) x) HTS.out _))).mono ?_; rintro e w2 ⟨rfl, hbt⟩; rw [hb2]))
          have hst := hbt.size
          refine ⟨keepsAt_bel hbt, fun q hq => ?_, HBL.out.trans (hbt.mono (by omega)), (hbt.block A (by omega)).trans HQ1.out, (hbt.block (A + 1) (by omega)).trans HQ2.out, HQM.out.kept (hbt.block (A + 2) (by omega)), by omega⟩
          rcases List.mem_append.1 hq with h | h
          · exact HN.out q h
          · have := List.mem_singleton.1 h
            subst this
            unfold rgW; rw [hb1, hb2]; rfl
      case done =>
        rintro xs X rfl ⟨hn, hbl, q1, q2, qm, hz⟩ hd
        have HF : Hid (filesB ls = true) := Lib.hid (filesB_good HPM.out HAP.out (by rw [HL.out]; exact hl) hn)
        have HQM := Lib.hid qm
        have HBL := Lib.hid hbl
        have cA : X.cell? ⟨A, 0, none⟩ = some (.map none) := by simp only [World.cell?, q1]; rfl
        have cA1 : X.cell? ⟨A + 1, 0, none⟩ = some (.bool false) := by simp only [World.cell?, q2]; rfl
        have fA : X.frozen? ⟨A, 0, none⟩ = false := by simp only [World.frozen?, q1]; rfl
        have fA1 : X.frozen? ⟨A + 1, 0, none⟩ = false := by simp only [World.frozen?, q2]; rfl
        clear hn hbl q1 q2 qm hwide pm p1 p2 a5 hb5
        gi_wp2
        have hga := grownBy_setCell' X A (Value.map (some (A + 2)))
        have hgb := grownBy_setCell' (X.setCell ⟨A, 0, none⟩ (Value.map (some (A + 2)))) (A + 1) (Value.bool true)
        have x1 : ((X.setCell ⟨A, 0, none⟩ (Value.map (some (A + 2)))).setCell ⟨A + 1, 0, none⟩ (Value.bool true)).cell? ⟨A, 0, none⟩ = some (.map (some (A + 2))) :=
          (cell_same (hgb.block A (by simp; omega) (by simp))).trans (World.cell?_setCell_same' _ _ _ (by rw [cA]; rfl))
        have x2 : ((X.setCell ⟨A, 0, none⟩ (Value.map (some (A + 2)))).setCell ⟨A + 1, 0, none⟩ (Value.bool true)).cell? ⟨A + 1, 0, none⟩ = some (.bool true) :=
          World.cell?_setCell_same' _ _ _ (by rw [cell_same (hga.block (A + 1) (by omega) (by simp)), cA1]; rfl)
        have x3 : ((X.setCell ⟨A, 0, none⟩ (Value.map (some (A + 2)))).setCell ⟨A + 1, 0, none⟩ (Value.bool true)).heap[W5.heap.size]? = some (.deferred (some [])) :=
          (hgb.block W5.heap.size (by have := (Array.getElem?_eq_some_iff.1 hd).1; simp; omega) (by simp; omega)).trans ((hga.block W5.heap.size (Array.getElem?_eq_some_iff.1 hd).1 (by simp; omega)).trans hd)
        have x4 : Below A w ((X.setCell ⟨A, 0, none⟩ (Value.map (some (A + 2)))).setCell ⟨A + 1, 0, none⟩ (Value.bool true)) :=
          (HBL.out.setCell (p := ⟨A, 0, none⟩) (Nat.le_refl _) _).setCell (p := ⟨A + 1, 0, none⟩) (by show A ≤ A + 1; omega) _
        have x5 : A + 3 ≤ ((X.setCell ⟨A, 0, none⟩ (Value.map (some (A + 2)))).setCell ⟨A + 1, 0, none⟩ (Value.bool true)).heap.size := by have := hga.size; have := hgb.size; omega
        have x6 : IsWs ((X.setCell ⟨A, 0, none⟩ (Value.map (some (A + 2)))).setCell ⟨A + 1, 0, none⟩ (Value.bool true)) (A + 2) k (flD ls) :=
          HQM.out.kept ((hgb.block (A + 2) (by simp; omega) (by simp)).trans (hga.block (A + 2) (by omega) (by simp)))
        clear hga hgb
        generalize ((X.setCell ⟨A, 0, none⟩ (Value.map (some (A + 2)))).setCell ⟨A + 1, 0, none⟩ (Value.bool true)) = X2 at x1 x2 x3 x4 x5 x6 ⊢
        refine ⟨by simp, .inl ⟨_, _, rfl, run_takeDeferred x3, ?_⟩⟩
        have hgp := grownBy_putObj' X2 W5.heap.size (Obj.deferred none)
        have r1 := (cell_same (i := 0) (hgp.block A (by omega) (by simp; omega))).trans x1
        have r2 := (cell_same (i := 0) (hgp.block (A + 1) (by omega) (by simp; omega))).trans x2
        refine ⟨.tuple #[.map (some (A + 2)), .bool true], by simp [results, Tryd.results28, go_sem, r1, r2], _, _, rfl, HF.out.symm, ?_, fun h => Bool.noConfusion h, fun _ => ⟨A + 2, k, rfl, by omega, hl, x6.kept (hgp.block (A + 2) (by omega) (by simp; omega))⟩⟩
        rw [hA]
        exact x4.grown hgp (by omega) (fun q hq => by cases hq; omega)
      case stop =>
        rintro c pre X _ ⟨rfl, hf, hbl, q1, q2, hz⟩ hd
        gi_wp2
        refine ⟨by simp, .inl ⟨_, _, rfl, run_takeDeferred hd, ?_⟩⟩
        have hgp := grownBy_putObj' X W5.heap.size (Obj.deferred none)
        have r1 := (cell_same (i := 0) (hgp.block A (by omega) (by simp; omega))).trans q1
        have r2 := (cell_same (i := 0) (hgp.block (A + 1) (by omega) (by simp; omega))).trans q2
        refine ⟨.tuple #[.map none, .bool false], by simp [results, Tryd.results28, go_sem, r1, r2], _, _, rfl, hf.symm, ?_, fun _ => rfl, fun h => Bool.noConfusion h⟩
        rw [hA]
        exact hbl.grown hgp (by omega) (fun q hq => by cases hq; omega)
theorem workspaceOf_any (ls : List Fl) (a : Option Addr) (cap : Nat) (w : World) (hl2 : ls.length ≤ 2000000) (hz : FlSz ls) (h : FsAt w ls (.slice a ls.length cap)) :
    Calls Tryd.prog 28 #[.slice a ls.length cap] w (WsPost ls w) := by
  by_cases hl : ls.length ≤ 4
  · exact workspaceOf_short ls a cap w hl hz h
  · exact workspaceOf_long ls a cap w (by omega) hl2
set_option maxRecDepth 100000 in
set_option maxHeartbeats 1000000 in
theorem filesValid_impl (ls : List Fl) (a : Option Addr) (cap : Nat) (w : World) (hl : ls.length ≤ 2000000) (hz : FlSz ls) (h : FsAt w ls (.slice a ls.length cap)) :
    Calls Tryd.prog 10 #[.slice a ls.length cap] w fun e w' => e = .returned (.bool (filesB ls)) ∧ Below w.heap.size w w' := by
  have HW := Lib.hid (workspaceOf_any ls a cap w hl hz h)
  clear h hz
  go_enter Tryd.func10, Tryd.ntmps10
  go_wp2_with fail
  go_at_call 28
  refine HW.out.mono ?_
  rintro e w1 ⟨mv, b, rfl, hb, hb1, _⟩
  have HB := Lib.hid hb
  have HB1 := Lib.hid hb1
  clear hb hb1
  go_wp2_with fail
  go_ret
  exact ⟨ret_bl HB.out, HB1.out⟩
end Go.Proofs.YtpihopmgckdigaaDoor
