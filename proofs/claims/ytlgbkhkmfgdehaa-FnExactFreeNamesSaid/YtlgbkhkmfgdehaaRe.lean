/-
  The names that an expression uses and does not bind, and l3Free of the model.
-/
import Derived.Test.YtlgbkhkmfgdehaaRd
import Derived.Deep.AppendLies
import Derived.Deep.RegionLaw
import Derived.Laws.OwnMore
namespace Go.Proofs.Ytlgbkhkmfgdehaa.Ox
open Go.Proofs.Ytlgbkhkmfgdehaa
open Go.RowKit
set_option linter.unusedVariables false
set_option linter.unusedSimpArgs false

/-- The names that an expression uses and does not bind, behind those of a list. -/
def fnX : Nat → List ByteArray → Ex → List ByteArray → List ByteArray
  | 0, _, _, out => out
  | d + 1, b, x, out =>
    if x.k = 2 then (if ((x.m.toList.isEmpty && hasB b x.s) || hasB out (pathB x.m x.s)) = true then out else out ++ [pathB x.m x.s])
    else (List.range x.ks.length).foldl (fun o i => fnX d (if bindB x.k i = true then b ++ [x.s] else b) (x.ks.getD i Ex.dummy) o) out
def fnK (d : Nat) (b : List ByteArray) (x : Ex) (out : List ByteArray) (j : Nat) : List ByteArray := (List.range j).foldl (fun o i => fnX d (if bindB x.k i = true then b ++ [x.s] else b) (x.ks.getD i Ex.dummy) o) out
theorem fnK_zero (d : Nat) (b : List ByteArray) (x : Ex) (out : List ByteArray) : fnK d b x out 0 = out := rfl
theorem fnK_succ (d : Nat) (b : List ByteArray) (x : Ex) (out : List ByteArray) (j : Nat) : fnK d b x out (j + 1) = fnX d (if bindB x.k j = true then b ++ [x.s] else b) (x.ks.getD j Ex.dummy) (fnK d b x out j) := by
  unfold fnK; rw [List.range_succ, List.foldl_append]; rfl
theorem fnX_kids {d : Nat} {b : List ByteArray} {x : Ex} {out : List ByteArray} (h : x.k ≠ 2) : fnX (d + 1) b x out = fnK d b x out x.ks.length := by
  rw [fnX, if_neg h]; rfl
theorem fnX_old {d : Nat} {b : List ByteArray} {x : Ex} {out : List ByteArray} (h : x.k = 2) (h2 : ((x.m.toList.isEmpty && hasB b x.s) || hasB out (pathB x.m x.s)) = true) : fnX (d + 1) b x out = out := by
  rw [fnX, if_pos h, if_pos h2]
theorem fnX_new {d : Nat} {b : List ByteArray} {x : Ex} {out : List ByteArray} (h : x.k = 2) (h2 : ((x.m.toList.isEmpty && hasB b x.s) || hasB out (pathB x.m x.s)) = false) : fnX (d + 1) b x out = out ++ [pathB x.m x.s] := by
  rw [fnX, if_pos h, if_neg (by rw [h2]; decide)]
theorem fnX_len : ∀ (d : Nat) (b : List ByteArray) (x : Ex) (out : List ByteArray), (fnX d b x out).length ≤ out.length + ndX d x := by
  intro d
  induction d with
  | zero => intro b x out; simp [fnX]
  | succ d ih =>
    intro b x out
    by_cases h2 : x.k = 2
    · rcases e : ((x.m.toList.isEmpty && hasB b x.s) || hasB out (pathB x.m x.s)) with _ | _
      · rw [fnX_new h2 e, ndX_succ, List.length_append]; show out.length + 1 ≤ _; omega
      · rw [fnX_old h2 e]; omega
    · have key : ∀ j, (fnK d b x out j).length ≤ out.length + ndkX d x j := by
        intro j
        induction j with
        | zero => rw [fnK_zero, ndkX_zero]; omega
        | succ j ihj =>
          rw [fnK_succ, ndkX_succ]
          have := ih (if bindB x.k j = true then b ++ [x.s] else b) (x.ks.getD j Ex.dummy) (fnK d b x out j)
          omega
      rw [fnX_kids h2, ndX_succ]
      have := key x.ks.length
      omega
theorem fnK_len (d : Nat) (b : List ByteArray) (x : Ex) (out : List ByteArray) : ∀ j, (fnK d b x out j).length ≤ out.length + ndkX d x j := by
  intro j
  induction j with
  | zero => rw [fnK_zero, ndkX_zero]; omega
  | succ j ihj =>
    rw [fnK_succ, ndkX_succ]
    have := fnX_len d (if bindB x.k j = true then b ++ [x.s] else b) (x.ks.getD j Ex.dummy) (fnK d b x out j)
    omega
/-- What the names' collection leaves: a row of them; only the row that was there before has changed. -/
def FrPost (B0 : Nat) (ov : Value) (out : List ByteArray) (w : World) (e : Ending) (w' : World) : Prop :=
  ∃ ov', e = .returned ov' ∧ SR w' B0 ov' out ∧ w.grownBy w' ov.ownBlock ∧ ∀ g, ov'.ownBlock = some g → ov.ownBlock = some g ∨ w.heap.size ≤ g
theorem infoStr : (Try.prog.info? 9).map (fun i => (i.zero, i.size, i.bytes)) = some (some (.string ⟨#[]⟩), 1, 16) := by kernel_rfl
theorem name_fits {n : Int} {m s : ByteArray} {l : Nat} (h : fieldsX 2 n m s l = true) : m.size ≤ 1 ∧ oneB 97 122 s = true ∧ l = 0 := by
  have h' : fit2 n m s l = true := h
  unfold fit2 at h'
  simp only [Bool.and_eq_true, decide_eq_true_eq, Bool.or_eq_true] at h'
  refine ⟨?_, h'.2.2.1, h'.2.2.2⟩
  rcases h'.2.1 with h1 | h1
  · have h2 := empty_is h1
    rw [ByteArray.toList_eq] at h2
    have h3 : m.data.toList.length = 0 := by rw [h2]; rfl
    have e : m.size = m.data.toList.length := rfl
    omega
  · have := one_size h1
    omega
/-- append OF NIL, as one step of a region that draws. -/
theorem step_append_none {P : Program} {ops : Array Oper} {o : Oper} {a : Act} {w : World} {K : Act → World → Prop} {Q : Exit → Act → World → Prop} {E : Prop}
    (hg : o.guard = none) (s x : Operand) (t : TypeId) (hop : o.op = Op.call { callee := Callee.builtin Builtin.append, args := #[s, x], argTypes := #[t, t] })
    (base : Nat) (e : TypeId) (i : TypeInfo) (size : Nat) (ht : P.underlying t = some (.slice e)) (hi : P.info? e = some i)
    (v : Value) (n : Nat) (xs : List Value) (hs : a.eval s = v) (hown : w.ownsRow base e size v n xs) (hx : a.eval x = .slice none 0 0)
    (hK : K (a.put o.dst v) w) : if Region.wanted o (yielded ops a.tmps) = true then Oper.wp P o a w K Q else E := by
  have hw : Region.wanted o (yielded ops a.tmps) = true := by simp [Region.wanted, hg]
  rw [if_pos hw]
  have hrun := run_append_owned_none (P := P) w base t o.type e i size ht hi v n xs hown
  unfold Oper.wp
  simp [execOp, hop, resolve, invoke, builtin, hs, hx, hrun, Result.andThen]
  exact hK
theorem lit_row {W : World} {n0 B : Nat} (h : W.heap[B]? = some (.cells #[] 9)) (hB : n0 ≤ B) : W.ownsRow n0 9 1 (.slice (some ⟨B, 0, none⟩) 0 0) 0 [] := ⟨rfl, .inr ⟨B, 0, #[], rfl, hB, h, Nat.le_refl _, by unfold maxLen; omega, rfl, rfl⟩⟩
theorem old_lit {W : World} {B : Nat} {x o : Obj} (h : W.heap[B]? = some x) : (W.alloc o).heap[B]? = some x := by
  have hB : B < W.heap.size := (Array.getElem?_eq_some_iff.1 h).1
  rw [Go.heap_alloc_old W o hB]; exact h
theorem heap_at {W : World} {B : Nat} {o : Obj} (h : W.heap.size = B) : (W.alloc o).heap[B]? = some o := by subst h; exact Go.heap_alloc_new W o
theorem grow_below {w0 W w' : World} {r : Option Nat} {n0 : Nat} (h : W.grownBy w' r) (hb : Below n0 w0 W) (hn : n0 ≤ W.heap.size) (hv : ∀ g, r = some g → n0 ≤ g) : Below n0 w0 w' :=
  ⟨h.os.trans hb.os, h.tape.trans hb.tape, h.output.trans hb.output, Nat.le_trans hb.size h.size, fun k hk => (h.block k (by omega) (fun e => by have := hv k e.symm; omega)).trans (hb.block k hk)⟩
theorem sr_cells {W : World} {n0 : Nat} {bb : Nat} {bc : Nat} {l : List ByteArray} (h : SR W n0 (.slice (some ⟨bb, 0, none⟩) l.length bc) l) : ∀ j u, (l.map Value.string)[j]? = some u → W.cell? ((⟨bb, 0, none⟩ : Addr).add j) = some u := fun j u hu => by
  have hadd : (⟨bb, 0, none⟩ : Addr).add j = ⟨bb, j, none⟩ := by unfold Addr.add; split <;> simp_all
  have hj : j < l.length := by
    have := (List.getElem?_eq_some_iff.1 hu).1
    simpa using this
  rw [hadd]
  have h2 := h.cellAt j (by omega)
  rw [h2]; exact hu
theorem cells_kept {w W : World} {bb : Nat} {l : List Value} (h : ∀ j u, l[j]? = some u → w.cell? ((⟨bb, 0, none⟩ : Addr).add j) = some u) (hb : Below w.heap.size w W) (hl : bb < w.heap.size) : ∀ j u, l[j]? = some u → W.cell? ((⟨bb, 0, none⟩ : Addr).add j) = some u := fun j u hu => by
  have hadd : (⟨bb, 0, none⟩ : Addr).add j = ⟨bb, j, none⟩ := by unfold Addr.add; split <;> simp_all
  have h1 := h j u hu
  rw [hadd] at h1 ⊢
  exact (hb.cell (p := ⟨bb, j, none⟩) hl).trans h1
theorem one_str {l : List ByteArray} : ∀ u ∈ l.map Value.string, u.oneCell' = true := fun u hu => by
  obtain ⟨y, _, rfl⟩ := List.mem_map.1 hu
  rfl
theorem owns_keep {w w' : World} {n0 sz n : Nat} {e : TypeId} {v : Value} {xs : List Value} (h : w.ownsRow n0 e sz v n xs) (hk : ∀ g, v.ownBlock = some g → g < w.heap.size → w'.heap[g]? = w.heap[g]?) : w'.ownsRow n0 e sz v n xs := by
  obtain ⟨hl, h | ⟨g, cap, cur, rfl, hb', ho, h1, h2, h3, h4⟩⟩ := h
  · exact ⟨hl, .inl h⟩
  · exact ⟨hl, .inr ⟨g, cap, cur, rfl, hb', (hk g rfl (Array.getElem?_eq_some_iff.1 ho).1).trans ho, h1, h2, h3, h4⟩⟩
theorem owns_lt {w : World} {n0 sz n : Nat} {e : TypeId} {v : Value} {xs : List Value} (h : w.ownsRow n0 e sz v n xs) : ∀ g, v.ownBlock = some g → n0 ≤ g ∧ g < w.heap.size := fun g e => World.ownsRow.lt h g e
theorem sr_own {w : World} {n0 : Nat} {v : Value} {l : List ByteArray} (h : SR w n0 v l) {g : Nat} (e : v.ownBlock = some g) : n0 ≤ g ∧ g < w.heap.size := World.ownsRow.lt h g e
/-- Where the collection of names stands: ov0 is the row at the beginning, ovr the row now. -/
structure FS (w0 w : World) (S : Nat) (x : Ex) (v : Value) (ov0 : Value) (b : List ByteArray) (bv : Value) (nb : Nat) (wr : World) (ovr : Value) (o : List ByteArray) : Prop where
  sr : SR wr w0.heap.size ovr o
  gr : w.grownBy wr ov0.ownBlock
  fr : ∀ g, ovr.ownBlock = some g → ov0.ownBlock = some g ∨ S + 1 ≤ g
  bx : EBox wr S (.int .i64 x.k) (.int .i64 x.n) (.string x.m) (.string x.s) v
  b0 : Below w0.heap.size w0 wr
  bd : SR wr nb bv b
  eq : w.heap.size = S
  lo : ∀ g, ov0.ownBlock = some g → g < S
  lb : ∀ g, bv.ownBlock = some g → g < S
  ds : ∀ g, ov0.ownBlock = some g → bv.ownBlock ≠ some g
theorem FS.below {w0 w : World} {S : Nat} {x : Ex} {v ov0 : Value} {b : List ByteArray} {bv : Value} {nb : Nat} {wr wq : World} {ovr : Value} {o : List ByteArray} (h : FS w0 w S x v ov0 b bv nb wr ovr o) (hb : Below wr.heap.size wr wq) : FS w0 w S x v ov0 b bv nb wq ovr o :=
  ⟨h.sr.below hb, ⟨hb.os.trans h.gr.os, hb.tape.trans h.gr.tape, hb.output.trans h.gr.output, Nat.le_trans h.gr.size hb.size, fun k hk hne => (hb.block k (Nat.lt_of_lt_of_le hk h.gr.size)).trans (h.gr.block k hk hne)⟩, h.fr, h.bx.kept hb, h.b0.trans (hb.mono h.b0.size), h.bd.below hb, h.eq, h.lo, h.lb, h.ds⟩
theorem FS.step {w0 w : World} {S : Nat} {x : Ex} {v ov0 : Value} {b : List ByteArray} {bv : Value} {nb : Nat} {wr w' : World} {ovr ov' : Value} {o o' : List ByteArray} (h : FS w0 w S x v ov0 b bv nb wr ovr o) (h1 : SR w' w0.heap.size ov' o') (h2 : wr.grownBy w' ovr.ownBlock) (h3 : ∀ g, ov'.ownBlock = some g → ovr.ownBlock = some g ∨ wr.heap.size ≤ g) : FS w0 w S x v ov0 b bv nb w' ov' o' := by
  have hS := h.eq
  have hz := h.gr.size
  have hx := h.bx.sz
  have hne : ∀ q, q < S → ov0.ownBlock ≠ some q → some q ≠ ovr.ownBlock := fun q h1 h2 e => by
    rcases h.fr q e.symm with h | h
    · exact h2 h
    · omega
  have hS1 : some S ≠ ovr.ownBlock := fun e => by
    rcases h.fr S e.symm with h' | h'
    · have := h.lo S h'; omega
    · omega
  have hlow : ∀ q, q < w0.heap.size → some q ≠ ovr.ownBlock := fun q h1 e => by have := (sr_own h.sr e.symm).1; omega
  have hb0 := h.b0.size
  refine ⟨h1, ⟨h2.os.trans h.gr.os, h2.tape.trans h.gr.tape, h2.output.trans h.gr.output, Nat.le_trans hz h2.size, fun k hk hk2 => (h2.block k (by omega) (hne k (by omega) (fun e => hk2 e.symm))).trans (h.gr.block k hk hk2)⟩, fun g e => ?_, h.bx.aside h2.size (h2.block S hx hS1), ?_, ?_, hS, h.lo, h.lb, h.ds⟩
  · rcases h3 g e with h4 | h4
    · exact h.fr g h4
    · exact .inr (by omega)
  · exact ⟨h2.os.trans h.b0.os, h2.tape.trans h.b0.tape, h2.output.trans h.b0.output, Nat.le_trans hb0 h2.size, fun k hk => (h2.block k (by omega) (hlow k hk)).trans (h.b0.block k hk)⟩
  · exact owns_keep h.bd (fun g e hg => h2.block g hg (hne g (h.lb g e) (fun e2 => h.ds g e2 e)))
theorem FS.post {w0 w : World} {S : Nat} {x : Ex} {v ov0 : Value} {b : List ByteArray} {bv : Value} {nb : Nat} {wr : World} {ovr : Value} {o : List ByteArray} (h : FS w0 w S x v ov0 b bv nb wr ovr o) : FrPost w0.heap.size ov0 o w (.returned ovr) wr :=
  ⟨ovr, rfl, h.sr, h.gr, fun g e => (h.fr g e).imp id (fun h2 => by have := h.eq; omega)⟩
theorem FS.start {w0 w : World} {x : Ex} {v ov : Value} {b : List ByteArray} {bv : Value} {nb : Nat} {o : List ByteArray} {T : TypeId} (h1 : SR w w0.heap.size ov o) (h2 : Below w0.heap.size w0 w) (h3 : SR w nb bv b) (h4 : ∀ g, ov.ownBlock = some g → bv.ownBlock ≠ some g) : FS w0 w w.heap.size x v ov b bv nb (w.alloc (.cells #[.int .i64 x.k, .int .i64 x.n, .string x.m, .string x.s, v] T)) ov o :=
  ⟨h1.below ((Below.refl _ _).alloc (Nat.le_refl _) _), World.grownBy_alloc w _ _, fun g e => .inl e, ebox_new w _ _ _ _ _ _, h2.alloc h2.size _, h3.below ((Below.refl _ _).alloc (Nat.le_refl _) _), rfl, fun g e => (sr_own h1 e).2, fun g e => (sr_own h3 e).2, h4⟩

set_option maxHeartbeats 8000000 in
theorem l3Free_any (w0 : World) : ∀ (d : Nat) (x : Ex) (v : Value) (b : List ByteArray) (bv : Value) (nb : Nat) (out : List ByteArray) (ov : Value) (w : World), shpX d x = true → d ≤ 12 → ExAt w0 x v → Below w0.heap.size w0 w → SR w w0.heap.size ov out → SR w nb bv b → (∀ g, ov.ownBlock = some g → bv.ownBlock ≠ some g) → b.length + d ≤ 100 → out.length + ndX d x ≤ 100000 → (b = [] → bv = .slice none 0 0) →
    Calls Try.prog 46 #[ov, .agg #[.int .i64 x.k, .int .i64 x.n, .string x.m, .string x.s, v], bv] w (FrPost w0.heap.size ov (fnX d b x out) w) := by
  intro d
  induction d with
  | zero => intro x v b bv nb out ov w h; cases h
  | succ d ih =>
    intro x v b bv nb out ov w hsh hd hx hb0 hout hbd hdis hbl hol hnl
    have HNL := Lib.hid hnl
    have HSH := Lib.hid hsh
    have HIH := Lib.hid ih
    have HB0 := Lib.hid hb0
    have HOUT := Lib.hid hout
    have HBD := Lib.hid hbd
    have HDIS := Lib.hid hdis
    have hf := (shpX_iff.1 hsh).1
    obtain ⟨oa, oc, rfl⟩ := owns_slice hout
    obtain ⟨ba, bc, rfl⟩ := owns_slice hbd
    clear ih hsh hb0 hout hbd hdis hnl
    by_cases h2 : x.k = 2
    · rw [h2] at hf
      obtain ⟨hm1, hso, hl0⟩ := name_fits hf
      have HK2 := Lib.hid h2
      have HX := Lib.hid hx
      obtain ⟨a, cap, rfl, hlen⟩ := hx.slice
      obtain ⟨k, hk⟩ : ∃ k, x.k = k := ⟨_, rfl⟩
      obtain ⟨n, hn⟩ : ∃ n, x.n = n := ⟨_, rfl⟩
      obtain ⟨m, hm⟩ : ∃ m, x.m = m := ⟨_, rfl⟩
      obtain ⟨s, hs⟩ : ∃ s, x.s = s := ⟨_, rfl⟩
      obtain ⟨L, hL⟩ : ∃ L, x.ks.length = L := ⟨_, rfl⟩
      have HK := Lib.hid hk
      have HN := Lib.hid hn
      have HM := Lib.hid hm
      have HSS := Lib.hid hs
      have HL := Lib.hid hL
      rw [hk, hn, hm, hs, hL]
      rw [hL] at hlen
      clear hx hk hn hm hs hL
      rw [HM.out] at hm1
      rw [HSS.out] at hso
      obtain rfl : k = 2 := by rw [← HK.out]; exact h2
      have hs1 : s.size ≤ 1 := by have := one_size hso; omega
      have hol1 : out.length ≤ 100000 := by omega
      have hbl1 : b.length ≤ 1000000 := by omega
      clear h2 hso hl0 hf hlen
      have HFS : Hid (FS w0 w w.heap.size x (.slice a L cap) (.slice oa out.length oc) b (.slice ba b.length bc) nb (w.alloc (.cells #[.int .i64 2, .int .i64 n, .string m, .string s, .slice a L cap] 38)) (.slice oa out.length oc) out) := Lib.hid (by
        have h := FS.start (x := x) (v := .slice a L cap) (T := 38) HOUT.out HB0.out HBD.out HDIS.out
        rw [HK.out, HN.out, HM.out, HSS.out] at h
        exact h)
      obtain ⟨S, hS⟩ : ∃ S, w.heap.size = S := ⟨_, rfl⟩
      obtain ⟨W1, hW1⟩ : ∃ W, (w.alloc (.cells #[.int .i64 2, .int .i64 n, .string m, .string s, .slice a L cap] 38)) = W := ⟨_, rfl⟩
      rw [hS, hW1] at HFS
      have HW1 := Lib.hid hW1
      have HS := Lib.hid hS
      have HSO : Hid (W1.ownsRow w0.heap.size 9 1 (.slice oa out.length oc) out.length (out.map Value.string)) := Lib.hid HFS.out.sr
      have hzb : w0.heap.size ≤ W1.heap.size := HFS.out.b0.size
      obtain ⟨P, hP⟩ : ∃ P, pathB m s = P := ⟨_, rfl⟩
      have HP := Lib.hid hP
      obtain ⟨x0, x1, x2, x3, x4, xz⟩ := HFS.out.bx
      rw [HK.out] at x0
      rw [HN.out] at x1
      rw [HM.out] at x2
      rw [HSS.out] at x3
      obtain ⟨i0, hi0, hz0, hz1, hz2⟩ := info_parts infoStr
      clear hW1 hP
      have HOLD : Hid (((m.toList.isEmpty && hasB b s) || hasB out P) = true → fnX (d + 1) b x out = out) := Lib.hid (fun h => fnX_old HK.out (by rw [HM.out, HSS.out, HP.out]; exact h))
      have HNEW : Hid (((m.toList.isEmpty && hasB b s) || hasB out P) = false → fnX (d + 1) b x out = out ++ [P]) := Lib.hid (fun h => by rw [fnX_new HK.out (by rw [HM.out, HSS.out, HP.out]; exact h), HM.out, HSS.out, HP.out])
      rcases he : m.toList.isEmpty with _ | _
      · have h1 := empty_not he
        rcases ho : hasB out P with _ | _
        · have HO := Lib.hid ho
          have HR : Hid (fnX (d + 1) b x out = out ++ [P]) := Lib.hid (HNEW.out (by rw [he, ho]; rfl))
          clear he ho
          go_enter Try.func46, Try.ntmps46
          go_wp2_with fail
          rw [HW1.out]
          clear hS
          go_at_call 82
          refine (l3Path_any m s hm1 hs1 _).mono ?_
          rintro e w1 ⟨rfl, hw⟩
          rw [HP.out, hw]
          clear hw
          go_wp2_with fail
          go_at_call 83
          refine (l3Has_any w0.heap.size out (by omega) _ P _ HFS.out.sr).mono ?_
          rintro e w2 ⟨rfl, hw⟩
          rw [HO.out, hw]
          clear hw
          go_wp2_with (first | (at_builtin; refine wpList_append_lies _ rfl _ _ 48 rfl w0.heap.size 9 i0 _ 1 16 Try.underlying48 hi0 hz0 hz1 hz2 rfl (by omega) (.slice oa out.length oc) out.length (out.map Value.string) rfl (HSO.out.alloc _) ⟨W1.heap.size, 0, none⟩ 1 1 [.string P] rfl rfl (World.news_of_block (cs := #[.string P]) (t := 9) (fr := (0, 0)) (heap_alloc_new W1 _)) (by simp [Value.oneCell']) (by omega) (by unfold maxLen; omega) (by omega) (by simp; omega) (W1.heap.size + 1) (by simp) ?_; intro g6 cap6 w6 hown6 hgrow6 hat6 hlt6))
          go_ret
          rw [HR.out]
          have hF1 := HFS.out.below ((Below.refl W1.heap.size W1).alloc (Nat.le_refl _) (.cells #[.string P] 9))
          have hF2 := hF1.step (ov' := .slice (some ⟨g6, 0, none⟩) (out.length + 1) cap6) (o' := out ++ [P]) (by unfold SR; simp only [List.length_append, List.length_cons, List.length_nil, List.map_append, List.map_cons, List.map_nil]; exact hown6) hgrow6 (fun g e => (by injection e : g6 = g) ▸ hat6.imp id (fun h => by simp; omega))
          exact hF2.post
        · have HO := Lib.hid ho
          have HR : Hid (fnX (d + 1) b x out = out) := Lib.hid (HOLD.out (by rw [he, ho]; rfl))
          clear he ho
          go_enter Try.func46, Try.ntmps46
          go_wp2_with fail
          rw [HW1.out]
          clear hS
          go_at_call 82
          refine (l3Path_any m s hm1 hs1 _).mono ?_
          rintro e w1 ⟨rfl, hw⟩
          rw [HP.out, hw]
          clear hw
          go_wp2_with fail
          go_at_call 83
          refine (l3Has_any w0.heap.size out (by omega) _ P _ HFS.out.sr).mono ?_
          rintro e w2 ⟨rfl, hw⟩
          rw [HO.out, hw]
          clear hw
          go_wp2_with fail
          go_ret
          rw [HR.out]
          exact HFS.out.post
      · have h1 := empty_is he
        rcases hv : hasB b s with _ | _
        · have HV := Lib.hid hv
          rcases ho : hasB out P with _ | _
          · have HO := Lib.hid ho
            have HR : Hid (fnX (d + 1) b x out = out ++ [P]) := Lib.hid (HNEW.out (by rw [he, hv, ho]; rfl))
            clear he ho hv
            go_enter Try.func46, Try.ntmps46
            go_wp2_with fail
            rw [HW1.out]
            clear hS
            go_at_call 82
            refine (l3Path_any m s hm1 hs1 _).mono ?_
            rintro e w1 ⟨rfl, hw⟩
            rw [HP.out, hw]
            clear hw
            go_wp2_with fail
            go_at_call 83
            refine (l3Has_any nb b hbl1 _ s _ HFS.out.bd).mono ?_
            rintro e w2 ⟨rfl, hw⟩
            rw [HV.out, hw]
            clear hw
            go_wp2_with fail
            go_at_call 83
            refine (l3Has_any w0.heap.size out (by omega) _ P _ HFS.out.sr).mono ?_
            rintro e w3 ⟨rfl, hw⟩
            rw [HO.out, hw]
            clear hw
            go_wp2_with (first | (at_builtin; refine wpList_append_lies _ rfl _ _ 48 rfl w0.heap.size 9 i0 _ 1 16 Try.underlying48 hi0 hz0 hz1 hz2 rfl (by omega) (.slice oa out.length oc) out.length (out.map Value.string) rfl (HSO.out.alloc _) ⟨W1.heap.size, 0, none⟩ 1 1 [.string P] rfl rfl (World.news_of_block (cs := #[.string P]) (t := 9) (fr := (0, 0)) (heap_alloc_new W1 _)) (by simp [Value.oneCell']) (by omega) (by unfold maxLen; omega) (by omega) (by simp; omega) (W1.heap.size + 1) (by simp) ?_; intro g6 cap6 w6 hown6 hgrow6 hat6 hlt6))
            go_ret
            rw [HR.out]
            have hF1 := HFS.out.below ((Below.refl W1.heap.size W1).alloc (Nat.le_refl _) (.cells #[.string P] 9))
            have hF2 := hF1.step (ov' := .slice (some ⟨g6, 0, none⟩) (out.length + 1) cap6) (o' := out ++ [P]) (by unfold SR; simp only [List.length_append, List.length_cons, List.length_nil, List.map_append, List.map_cons, List.map_nil]; exact hown6) hgrow6 (fun g e => (by injection e : g6 = g) ▸ hat6.imp id (fun h => by simp; omega))
            exact hF2.post
          · have HO := Lib.hid ho
            have HR : Hid (fnX (d + 1) b x out = out) := Lib.hid (HOLD.out (by rw [he, hv, ho]; rfl))
            clear he ho hv
            go_enter Try.func46, Try.ntmps46
            go_wp2_with fail
            rw [HW1.out]
            clear hS
            go_at_call 82
            refine (l3Path_any m s hm1 hs1 _).mono ?_
            rintro e w1 ⟨rfl, hw⟩
            rw [HP.out, hw]
            clear hw
            go_wp2_with fail
            go_at_call 83
            refine (l3Has_any nb b hbl1 _ s _ HFS.out.bd).mono ?_
            rintro e w2 ⟨rfl, hw⟩
            rw [HV.out, hw]
            clear hw
            go_wp2_with fail
            go_at_call 83
            refine (l3Has_any w0.heap.size out (by omega) _ P _ HFS.out.sr).mono ?_
            rintro e w3 ⟨rfl, hw⟩
            rw [HO.out, hw]
            clear hw
            go_wp2_with fail
            go_ret
            rw [HR.out]
            exact HFS.out.post
        · have HV := Lib.hid hv
          have HR : Hid (fnX (d + 1) b x out = out) := Lib.hid (HOLD.out (by rw [he, hv]; rfl))
          clear he hv
          go_enter Try.func46, Try.ntmps46
          go_wp2_with fail
          rw [HW1.out]
          clear hS
          go_at_call 82
          refine (l3Path_any m s hm1 hs1 _).mono ?_
          rintro e w1 ⟨rfl, hw⟩
          rw [HP.out, hw]
          clear hw
          go_wp2_with fail
          go_at_call 83
          refine (l3Has_any nb b hbl1 _ s _ HFS.out.bd).mono ?_
          rintro e w2 ⟨rfl, hw⟩
          rw [HV.out, hw]
          clear hw
          go_wp2_with fail
          go_wp2_with fail
          go_ret
          rw [HR.out]
          exact HFS.out.post
    · have HK2 := Lib.hid h2
      have HX := Lib.hid hx
      obtain ⟨a, cap, rfl, hlen⟩ := hx.slice
      obtain ⟨k, hk⟩ : ∃ k, x.k = k := ⟨_, rfl⟩
      obtain ⟨n, hn⟩ : ∃ n, x.n = n := ⟨_, rfl⟩
      obtain ⟨m, hm⟩ : ∃ m, x.m = m := ⟨_, rfl⟩
      obtain ⟨s, hs⟩ : ∃ s, x.s = s := ⟨_, rfl⟩
      obtain ⟨L, hL⟩ : ∃ L, x.ks.length = L := ⟨_, rfl⟩
      have HK := Lib.hid hk
      have HN := Lib.hid hn
      have HM := Lib.hid hm
      have HSS := Lib.hid hs
      have HL := Lib.hid hL
      rw [hk, hn, hm, hs, hL]
      rw [hL] at hlen
      clear hx hk hn hm hs hL
      have HF := Lib.hid hf
      have k2 : (k == 2) = false := by rw [← HK.out]; simpa using h2
      clear h2 hf
      have HFS : Hid (FS w0 w w.heap.size x (.slice a L cap) (.slice oa out.length oc) b (.slice ba b.length bc) nb (w.alloc (.cells #[.int .i64 k, .int .i64 n, .string m, .string s, .slice a L cap] 38)) (.slice oa out.length oc) out) := Lib.hid (by
        have h := FS.start (x := x) (v := .slice a L cap) (T := 38) HOUT.out HB0.out HBD.out HDIS.out
        rw [HK.out, HN.out, HM.out, HSS.out] at h
        exact h)
      obtain ⟨S, hS⟩ : ∃ S, w.heap.size = S := ⟨_, rfl⟩
      obtain ⟨W1, hW1⟩ : ∃ W, (w.alloc (.cells #[.int .i64 k, .int .i64 n, .string m, .string s, .slice a L cap] 38)) = W := ⟨_, rfl⟩
      rw [hS, hW1] at HFS
      have HW1 := Lib.hid hW1
      have HS := Lib.hid hS
      clear hW1
      go_enter Try.func46, Try.ntmps46
      go_wp2_with fail
      rw [HW1.out]
      clear hS
      go_loopw [0, 8] (fun ovr i wr => ∃ (j : Nat) (a' : Option Addr) (c' : Nat), j ≤ L ∧ i = .int .i64 j ∧ ovr = .slice a' (fnK d b x out j).length c' ∧ Hid (FS w0 w S x (.slice a L cap) (.slice oa out.length oc) b (.slice ba b.length bc) nb wr (.slice a' (fnK d b x out j).length c') (fnK d b x out j))) (fun _ i _ => L - (intOf i).toNat)
      case atStart => exact ⟨0, oa, oc, Nat.zero_le _, rfl, rfl, HFS⟩
      case round =>
        obtain ⟨j, a', c', hj, rfl, rfl, hfs⟩ := hrel
        obtain ⟨x0, x1, x2, x3, x4, xz⟩ := hfs.out.bx
        rw [HK.out] at x0
        rw [HN.out] at x1
        rw [HM.out] at x2
        rw [HSS.out] at x3
        obtain ⟨o, ho⟩ : ∃ o, fnK d b x out j = o := ⟨_, rfl⟩
        have HO := Lib.hid ho
        rw [ho] at hfs ⊢
        clear ho
        by_cases hlt : j < L
        · have hji : (j : Int) < (L : Int) := by omega
          obtain ⟨rb, ro, cap2, vi, ex, bl, ⟨y0, y1, y2, y3, y4⟩, hkid⟩ := HX.out.kid j (by rw [HL.out]; exact hlt)
          have ex1 : a = some ⟨rb, ro, none⟩ := by injection ex
          subst ex1
          replace y0 := (hfs.out.b0.cell (p := ⟨rb, ro + j * 5, none⟩) bl).trans y0
          replace y1 := (hfs.out.b0.cell (p := ⟨rb, ro + j * 5 + 1, none⟩) bl).trans y1
          replace y2 := (hfs.out.b0.cell (p := ⟨rb, ro + j * 5 + 2, none⟩) bl).trans y2
          replace y3 := (hfs.out.b0.cell (p := ⟨rb, ro + j * 5 + 3, none⟩) bl).trans y3
          replace y4 := (hfs.out.b0.cell (p := ⟨rb, ro + j * 5 + 4, none⟩) bl).trans y4
          have hsk := (shpX_iff.1 HSH.out).2 j (by rw [HL.out]; exact hlt)
          have HN1 : Hid (o.length + ndX d (x.ks.getD j Ex.dummy) ≤ 100000) := Lib.hid (by
            have g1 := fnK_len d b x out j
            have g2 := ndkX_mono d x (show j + 1 ≤ x.ks.length by rw [HL.out]; exact hlt)
            have g3 := ndkX_succ d x j
            have g4 := ndX_succ d x
            rw [HO.out] at g1
            omega)
          obtain ⟨y, hy⟩ : ∃ y, x.ks.getD j Ex.dummy = y := ⟨_, rfl⟩
          rw [hy] at y0 y1 y2 y3 hkid hsk HN1
          obtain ⟨ai, ci, rfl, hli⟩ := hkid.slice
          have HXK := Lib.hid hy
          have HKID := Lib.hid hkid
          have HSK := Lib.hid hsk
          clear hy hkid ex hsk
          rcases hbj : bindB k j with _ | _
          · have HBJ := Lib.hid hbj
            have e3 : (k == 3) = false := by
              rcases e : (k == 3) with _ | _
              · rfl
              · unfold bindB at hbj; rw [decide_eq_true (beq_iff_eq.1 e)] at hbj; cases hbj
            have e61 : (k == 6) = false ∨ ((k == 6) = true ∧ ((j : Int) == 1) = false) := by
              rcases e : (k == 6) with _ | _
              · exact .inl rfl
              · refine .inr ⟨rfl, ?_⟩
                rcases e1 : ((j : Int) == 1) with _ | _
                · rfl
                · unfold bindB at hbj
                  have h1 : j = 1 := by have := beq_iff_eq.1 e1; omega
                  rw [decide_eq_true (beq_iff_eq.1 e), decide_eq_true h1] at hbj
                  simp at hbj
            clear hbj
            have HNX : Hid (fnK d b x out (j + 1) = fnX d b y o) := Lib.hid (by rw [fnK_succ, HK.out, HBJ.out, HXK.out, HO.out]; rfl)
            rcases e61 with e6 | ⟨e6, e7⟩
            all_goals
              go_wp2_with fail
              go_at_call 46
              refine (HIH.out y _ b _ nb o _ wr HSK.out (by omega) HKID.out hfs.out.b0 hfs.out.sr hfs.out.bd (fun g e1 e2 => ?_) (by omega) HN1.out HNL.out).mono ?_
              · rcases hfs.out.fr g e1 with h | h
                · exact hfs.out.ds g h e2
                · have := hfs.out.lb g e2; omega
              rintro e w2 ⟨ov2, rfl, h1, h2, h3⟩
              have HF2 := Lib.hid (hfs.out.step h1 h2 h3)
              obtain ⟨a2, c2, rfl⟩ := owns_slice h1
              clear h1 h2 h3
              go_wp2_with fail
              exact ⟨⟨j + 1, a2, c2, by omega, by go_num, by rw [HNX.out], by rw [HNX.out]; exact HF2⟩, by simp [intOf]; omega⟩
          · have HBJ := Lib.hid hbj
            have et : (k == 3) = true ∨ ((k == 3) = false ∧ (k == 6) = true ∧ ((j : Int) == 1) = true) := by
              rcases e : (k == 3) with _ | _
              · refine .inr ⟨rfl, ?_⟩
                unfold bindB at hbj
                rw [decide_eq_false (by simpa using e)] at hbj
                simp at hbj
                exact ⟨by rw [beq_iff_eq]; exact hbj.1, by rw [beq_iff_eq]; omega⟩
              · exact .inl rfl
            clear hbj
            have HNX : Hid (fnK d b x out (j + 1) = fnX d (b ++ [s]) y o) := Lib.hid (by rw [fnK_succ, HK.out, HBJ.out, HXK.out, HO.out, if_pos rfl, HSS.out])
            obtain ⟨i0, hi0, hz0, hz1, hz2⟩ := info_parts infoStr
            have hbl1 : b.length ≤ 100 := by omega
            rcases et with e3 | ⟨e3, e6, e7⟩
            all_goals
              go_wp2_with fail
              go_cut [9] (fun p wx => ∃ (pa : Option Addr) (pc : Nat), p = .slice pa (b.length + 1) pc ∧ Hid (SR wx wr.heap.size (.slice pa (b.length + 1) pc) (b ++ [s])) ∧ Hid (Below wr.heap.size wr wx))
              case first =>
                rcases Nat.eq_zero_or_pos b.length with hb0 | hb0
                · have HBV : Hid ((.slice ba b.length bc : Value) = .slice none 0 0) := Lib.hid (HNL.out (List.length_eq_zero_iff.1 hb0))
                  have HBN : Hid (b = []) := Lib.hid (List.length_eq_zero_iff.1 hb0)
                  clear hb0
                  go_region_law (first
                    | (refine step_append_lies _ (by rfl) _ _ _ (by rfl) wr.heap.size 9 i0 _ 1 16 Try.underlying48 hi0 hz0 hz1 hz2 rfl (by omega) (.slice (some ⟨wr.heap.size, 0, none⟩) 0 0) 0 [] (by rfl) (lit_row (by first | exact Go.heap_alloc_new _ _ | exact old_lit (Go.heap_alloc_new _ _) | exact heap_at (by simp; first | done | omega)) (by omega)) ⟨wr.heap.size + 1, 0, none⟩ 1 1 [.string s] (by rfl) (by rfl) (World.news_of_block (cs := #[.string s]) (t := 9) (fr := (0, 0)) (by first | exact Go.heap_alloc_new _ _ | exact old_lit (Go.heap_alloc_new _ _) | exact heap_at (by simp; first | done | omega))) (by simp [Value.oneCell']) (by omega) (by unfold maxLen; omega) (by omega) (by first | exact Nat.le_refl _ | (simp; done) | (simp; omega)) (wr.heap.size + 1 + 1) (by simp; first | done | omega) ?_; intro g8 cap8 w8 hown8 hgrow8 hat8 hlt8; have HB8 : Hid (Below wr.heap.size wr w8) := Lib.hid (grow_below hgrow8 (by with_reducible (repeat (first | exact Below.refl _ _ | refine Below.drew ?_ | refine Below.alloc ?_ (by first | exact Nat.le_refl _ | (simp; done) | (simp; omega)) _))) (by first | exact Nat.le_refl _ | (simp; done) | (simp; omega)) (fun g e => by have e2 : wr.heap.size = g := (by simpa [Value.ownBlock] using e); omega)); have HO8 := Lib.hid hown8; clear hown8 hgrow8 hat8 hlt8)
                    | (refine step_append_lies _ (by rfl) _ _ _ (by rfl) wr.heap.size 9 i0 _ 1 16 Try.underlying48 hi0 hz0 hz1 hz2 rfl (by omega) (.slice (some ⟨wr.heap.size + 1, 0, none⟩) 0 0) 0 [] (by rfl) (lit_row (by first | exact Go.heap_alloc_new _ _ | exact old_lit (Go.heap_alloc_new _ _) | exact heap_at (by simp; first | done | omega)) (by omega)) ⟨wr.heap.size, 0, none⟩ 1 1 [.string s] (by rfl) (by rfl) (World.news_of_block (cs := #[.string s]) (t := 9) (fr := (0, 0)) (by first | exact Go.heap_alloc_new _ _ | exact old_lit (Go.heap_alloc_new _ _) | exact heap_at (by simp; first | done | omega))) (by simp [Value.oneCell']) (by omega) (by unfold maxLen; omega) (by omega) (by first | exact Nat.le_refl _ | (simp; done) | (simp; omega)) (wr.heap.size + 1 + 1) (by simp; first | done | omega) ?_; intro g8 cap8 w8 hown8 hgrow8 hat8 hlt8; have HB8 : Hid (Below wr.heap.size wr w8) := Lib.hid (grow_below hgrow8 (by with_reducible (repeat (first | exact Below.refl _ _ | refine Below.drew ?_ | refine Below.alloc ?_ (by first | exact Nat.le_refl _ | (simp; done) | (simp; omega)) _))) (by first | exact Nat.le_refl _ | (simp; done) | (simp; omega)) (fun g e => by have e2 : wr.heap.size + 1 = g := (by simpa [Value.ownBlock] using e); omega)); have HO8 := Lib.hid hown8; clear hown8 hgrow8 hat8 hlt8)
                    | (refine step_append_none (by rfl) _ _ _ (by rfl) wr.heap.size 9 i0 1 Try.underlying48 hi0 (.slice (some ⟨wr.heap.size, 0, none⟩) 0 0) 0 [] (by rfl) (lit_row (by first | exact Go.heap_alloc_new _ _ | exact old_lit (Go.heap_alloc_new _ _) | exact heap_at (by simp; first | done | omega)) (by omega)) (by exact HBV.out) ?_)
                    | (refine step_append_none (by rfl) _ _ _ (by rfl) wr.heap.size 9 i0 1 Try.underlying48 hi0 (.slice (some ⟨wr.heap.size + 1, 0, none⟩) 0 0) 0 [] (by rfl) (lit_row (by first | exact Go.heap_alloc_new _ _ | exact old_lit (Go.heap_alloc_new _ _) | exact heap_at (by simp; first | done | omega)) (by omega)) (by exact HBV.out) ?_)
                    | fail)
                  all_goals go_wp2_with fail
                  all_goals go_meet
                  all_goals exact ⟨some ⟨g8, 0, none⟩, cap8, by rw [HBN.out]; rfl, Lib.hid (by have h := HO8.out; unfold SR; rw [HBN.out]; simpa using h), HB8⟩
                · obtain ⟨bb, bcap, hbe, _, hbw, _⟩ := row_str hfs.out.bd 0 hb0
                  have ebb : ba = some ⟨bb, 0, none⟩ := by injection hbe
                  subst ebb
                  have HCB := Lib.hid (sr_cells hfs.out.bd)
                  clear hbe
                  go_region_law (first
                    | (refine step_append_lies _ (by rfl) _ _ _ (by rfl) wr.heap.size 9 i0 _ 1 16 Try.underlying48 hi0 hz0 hz1 hz2 rfl (by omega) (.slice (some ⟨g7, 0, none⟩) b.length cap7) b.length (b.map Value.string) (by rfl) (by first | exact HO7.out | exact HO7.out.alloc _ | exact HO7.out.drew | exact HO7.out.drew.alloc _ | exact (HO7.out.alloc _).drew) ⟨w7.heap.size, 0, none⟩ 1 1 [.string s] (by rfl) (by rfl) (World.news_of_block (cs := #[.string s]) (t := 9) (fr := (0, 0)) (by first | exact Go.heap_alloc_new _ _)) (by simp [Value.oneCell']) (by omega) (by unfold maxLen; omega) (by omega) (by have := HB7.out.size; first | exact this | (simp; omega)) (w7.heap.size + 1) (by simp; first | done | omega) ?_; intro g8 cap8 w8 hown8 hgrow8 hat8 hlt8; have HB8 : Hid (Below wr.heap.size wr w8) := Lib.hid (grow_below hgrow8 (by with_reducible (repeat (first | exact Below.refl _ _ | exact HB7.out | refine Below.drew ?_ | refine Below.alloc ?_ (by first | exact Nat.le_refl _ | exact HB7.out.size | (simp; done) | (have := HB7.out.size; simp; omega)) _))) (by have := HB7.out.size; first | exact this | (simp; omega)) (fun g e => by have := (owns_lt HO7.out) g e; omega)); have HO8 := Lib.hid hown8; clear hown8 hgrow8 hat8 hlt8)
                    | (refine step_append_lies _ (by rfl) _ _ _ (by rfl) wr.heap.size 9 i0 _ 1 16 Try.underlying48 hi0 hz0 hz1 hz2 rfl (by omega) (.slice (some ⟨g7, 0, none⟩) b.length cap7) b.length (b.map Value.string) (by rfl) (by first | exact HO7.out | exact HO7.out.alloc _ | exact HO7.out.drew | exact HO7.out.drew.alloc _ | exact (HO7.out.alloc _).drew) ⟨wr.heap.size, 0, none⟩ 1 1 [.string s] (by rfl) (by rfl) (World.news_of_block (cs := #[.string s]) (t := 9) (fr := (0, 0)) HN7.out) (by simp [Value.oneCell']) (by omega) (by unfold maxLen; omega) (by omega) (by have := HB7.out.size; first | exact this | (simp; omega)) (w7.heap.size) (by simp; first | done | omega) ?_; intro g8 cap8 w8 hown8 hgrow8 hat8 hlt8; have HB8 : Hid (Below wr.heap.size wr w8) := Lib.hid (grow_below hgrow8 (by with_reducible (repeat (first | exact Below.refl _ _ | exact HB7.out | refine Below.drew ?_ | refine Below.alloc ?_ (by first | exact Nat.le_refl _ | exact HB7.out.size | (simp; done) | (have := HB7.out.size; simp; omega)) _))) (by have := HB7.out.size; first | exact this | (simp; omega)) (fun g e => by have := (owns_lt HO7.out) g e; omega)); have HO8 := Lib.hid hown8; clear hown8 hgrow8 hat8 hlt8)
                    | (refine step_append_lies _ (by rfl) _ _ _ (by rfl) wr.heap.size 9 i0 _ 1 16 Try.underlying48 hi0 hz0 hz1 hz2 rfl (by omega) (.slice (some ⟨g7, 0, none⟩) b.length cap7) b.length (b.map Value.string) (by rfl) (by first | exact HO7.out | exact HO7.out.alloc _ | exact HO7.out.drew | exact HO7.out.drew.alloc _ | exact (HO7.out.alloc _).drew) ⟨wr.heap.size + 1, 0, none⟩ 1 1 [.string s] (by rfl) (by rfl) (World.news_of_block (cs := #[.string s]) (t := 9) (fr := (0, 0)) HN7.out) (by simp [Value.oneCell']) (by omega) (by unfold maxLen; omega) (by omega) (by have := HB7.out.size; first | exact this | (simp; omega)) (w7.heap.size) (by simp; first | done | omega) ?_; intro g8 cap8 w8 hown8 hgrow8 hat8 hlt8; have HB8 : Hid (Below wr.heap.size wr w8) := Lib.hid (grow_below hgrow8 (by with_reducible (repeat (first | exact Below.refl _ _ | exact HB7.out | refine Below.drew ?_ | refine Below.alloc ?_ (by first | exact Nat.le_refl _ | exact HB7.out.size | (simp; done) | (have := HB7.out.size; simp; omega)) _))) (by have := HB7.out.size; first | exact this | (simp; omega)) (fun g e => by have := (owns_lt HO7.out) g e; omega)); have HO8 := Lib.hid hown8; clear hown8 hgrow8 hat8 hlt8)
                    | (refine step_append_lies _ (by rfl) _ _ _ (by rfl) wr.heap.size 9 i0 _ 1 16 Try.underlying48 hi0 hz0 hz1 hz2 rfl (by omega) (.slice (some ⟨wr.heap.size, 0, none⟩) 0 0) 0 [] (by rfl) (lit_row (by first | exact Go.heap_alloc_new _ _ | exact old_lit (Go.heap_alloc_new _ _) | exact heap_at (by simp; first | done | omega)) (by omega)) ⟨bb, 0, none⟩ b.length bc (b.map Value.string) (by rfl) (by simp; first | done | omega) (cells_kept HCB.out (by with_reducible (repeat (first | exact Below.refl _ _ | refine Below.drew ?_ | refine Below.alloc ?_ (by first | exact Nat.le_refl _ | (simp; done) | (simp; omega)) _))) hbw) one_str hb0 (by unfold maxLen; omega) (by omega) (by first | exact Nat.le_refl _ | (simp; done) | (simp; omega)) (wr.heap.size + 1) (by simp; first | done | omega) ?_; intro g7 cap7 w7 hown7 hgrow7 hat7 hlt7; have HB7 : Hid (Below wr.heap.size wr w7) := Lib.hid (grow_below hgrow7 (by with_reducible (repeat (first | exact Below.refl _ _ | refine Below.drew ?_ | refine Below.alloc ?_ (by first | exact Nat.le_refl _ | (simp; done) | (simp; omega)) _))) (by first | exact Nat.le_refl _ | (simp; done) | (simp; omega)) (fun g e => by have e2 : wr.heap.size = g := (by simpa [Value.ownBlock] using e); omega)); have HO7 : Hid (w7.ownsRow wr.heap.size 9 1 (.slice (some ⟨g7, 0, none⟩) b.length cap7) b.length (b.map Value.string)) := Lib.hid (by have h := hown7; rw [Nat.zero_add] at h; exact h); have x37 : w7.cell? ⟨S, 3, none⟩ = some (.string s) := (HB7.out.cell (p := ⟨S, 3, none⟩) xz).trans x3; clear hown7 hgrow7 hat7 hlt7)
                    | (refine step_append_lies _ (by rfl) _ _ _ (by rfl) wr.heap.size 9 i0 _ 1 16 Try.underlying48 hi0 hz0 hz1 hz2 rfl (by omega) (.slice (some ⟨wr.heap.size, 0, none⟩) 0 0) 0 [] (by rfl) (lit_row (by first | exact Go.heap_alloc_new _ _ | exact old_lit (Go.heap_alloc_new _ _) | exact heap_at (by simp; first | done | omega)) (by omega)) ⟨bb, 0, none⟩ b.length bc (b.map Value.string) (by rfl) (by simp; first | done | omega) (cells_kept HCB.out (by with_reducible (repeat (first | exact Below.refl _ _ | refine Below.drew ?_ | refine Below.alloc ?_ (by first | exact Nat.le_refl _ | (simp; done) | (simp; omega)) _))) hbw) one_str hb0 (by unfold maxLen; omega) (by omega) (by first | exact Nat.le_refl _ | (simp; done) | (simp; omega)) (wr.heap.size + 1 + 1) (by simp; first | done | omega) ?_; intro g7 cap7 w7 hown7 hgrow7 hat7 hlt7; have HB7 : Hid (Below wr.heap.size wr w7) := Lib.hid (grow_below hgrow7 (by with_reducible (repeat (first | exact Below.refl _ _ | refine Below.drew ?_ | refine Below.alloc ?_ (by first | exact Nat.le_refl _ | (simp; done) | (simp; omega)) _))) (by first | exact Nat.le_refl _ | (simp; done) | (simp; omega)) (fun g e => by have e2 : wr.heap.size = g := (by simpa [Value.ownBlock] using e); omega)); have HO7 : Hid (w7.ownsRow wr.heap.size 9 1 (.slice (some ⟨g7, 0, none⟩) b.length cap7) b.length (b.map Value.string)) := Lib.hid (by have h := hown7; rw [Nat.zero_add] at h; exact h); have x37 : w7.cell? ⟨S, 3, none⟩ = some (.string s) := (HB7.out.cell (p := ⟨S, 3, none⟩) xz).trans x3; have HN7 : Hid (w7.heap[wr.heap.size + 1]? = some (.cells #[.string s] 9)) := Lib.hid ((hgrow7.block (wr.heap.size + 1) (by simp; first | done | omega) (by simp [Value.ownBlock]; first | done | omega)).trans (by first | exact Go.heap_alloc_new _ _ | exact old_lit (Go.heap_alloc_new _ _) | exact heap_at (by simp; first | done | omega))); clear hown7 hgrow7 hat7 hlt7)
                    | (refine step_append_lies _ (by rfl) _ _ _ (by rfl) wr.heap.size 9 i0 _ 1 16 Try.underlying48 hi0 hz0 hz1 hz2 rfl (by omega) (.slice (some ⟨wr.heap.size + 1, 0, none⟩) 0 0) 0 [] (by rfl) (lit_row (by first | exact Go.heap_alloc_new _ _ | exact old_lit (Go.heap_alloc_new _ _) | exact heap_at (by simp; first | done | omega)) (by omega)) ⟨bb, 0, none⟩ b.length bc (b.map Value.string) (by rfl) (by simp; first | done | omega) (cells_kept HCB.out (by with_reducible (repeat (first | exact Below.refl _ _ | refine Below.drew ?_ | refine Below.alloc ?_ (by first | exact Nat.le_refl _ | (simp; done) | (simp; omega)) _))) hbw) one_str hb0 (by unfold maxLen; omega) (by omega) (by first | exact Nat.le_refl _ | (simp; done) | (simp; omega)) (wr.heap.size + 1 + 1) (by simp; first | done | omega) ?_; intro g7 cap7 w7 hown7 hgrow7 hat7 hlt7; have HB7 : Hid (Below wr.heap.size wr w7) := Lib.hid (grow_below hgrow7 (by with_reducible (repeat (first | exact Below.refl _ _ | refine Below.drew ?_ | refine Below.alloc ?_ (by first | exact Nat.le_refl _ | (simp; done) | (simp; omega)) _))) (by first | exact Nat.le_refl _ | (simp; done) | (simp; omega)) (fun g e => by have e2 : wr.heap.size + 1 = g := (by simpa [Value.ownBlock] using e); omega)); have HO7 : Hid (w7.ownsRow wr.heap.size 9 1 (.slice (some ⟨g7, 0, none⟩) b.length cap7) b.length (b.map Value.string)) := Lib.hid (by have h := hown7; rw [Nat.zero_add] at h; exact h); have x37 : w7.cell? ⟨S, 3, none⟩ = some (.string s) := (HB7.out.cell (p := ⟨S, 3, none⟩) xz).trans x3; have HN7 : Hid (w7.heap[wr.heap.size]? = some (.cells #[.string s] 9)) := Lib.hid ((hgrow7.block (wr.heap.size) (by simp; first | done | omega) (by simp [Value.ownBlock]; first | done | omega)).trans (by first | exact Go.heap_alloc_new _ _ | exact old_lit (Go.heap_alloc_new _ _) | exact heap_at (by simp; first | done | omega))); clear hown7 hgrow7 hat7 hlt7)
                    | fail)
                  all_goals go_wp2_with fail
                  all_goals go_meet
                  all_goals exact ⟨some ⟨g8, 0, none⟩, cap8, rfl, Lib.hid (by have h := HO8.out; unfold SR; simpa using h), HB8⟩
              case rest =>
                obtain ⟨pa, pc, rfl, HSR, HBX⟩ := hcut
                have HFX := Lib.hid (hfs.out.below HBX.out)
                have hrbw : rb < wr.heap.size := Nat.lt_of_lt_of_le bl hfs.out.b0.size
                replace y0 := (HBX.out.cell (p := ⟨rb, ro + j * 5, none⟩) hrbw).trans y0
                replace y1 := (HBX.out.cell (p := ⟨rb, ro + j * 5 + 1, none⟩) hrbw).trans y1
                replace y2 := (HBX.out.cell (p := ⟨rb, ro + j * 5 + 2, none⟩) hrbw).trans y2
                replace y3 := (HBX.out.cell (p := ⟨rb, ro + j * 5 + 3, none⟩) hrbw).trans y3
                replace y4 := (HBX.out.cell (p := ⟨rb, ro + j * 5 + 4, none⟩) hrbw).trans y4
                clear x0 x1 x2 x3 x4 xz
                obtain ⟨x0, x1, x2, x3, x4, xz⟩ := HFX.out.bx
                rw [HK.out] at x0
                rw [HN.out] at x1
                rw [HM.out] at x2
                rw [HSS.out] at x3
                go_wp2_with fail
                go_at_call 46
                refine (HIH.out y _ (b ++ [s]) _ wr.heap.size o _ wc HSK.out (by omega) HKID.out HFX.out.b0 HFX.out.sr HSR.out (fun g e1 e2 => ?_) (by simp; omega) HN1.out (fun e => by simp at e)).mono ?_
                · have h1 := (sr_own hfs.out.sr e1).2
                  have h2 := (sr_own HSR.out e2).1
                  omega
                rintro e w2 ⟨ov2, rfl, h1, h2, h3⟩
                have HF2 := Lib.hid (HFX.out.step h1 h2 h3)
                obtain ⟨a2, c2, rfl⟩ := owns_slice h1
                clear h1 h2 h3
                go_wp2_with fail
                exact ⟨⟨j + 1, a2, c2, by omega, by go_num, by rw [HNX.out], by rw [HNX.out]; exact HF2⟩, by simp [intOf]; omega⟩
        · have hji : ¬ (j : Int) < (L : Int) := by omega
          have hjl : j = L := by omega
          have HR : Hid (fnX (d + 1) b x out = o) := Lib.hid (by rw [fnX_kids HK2.out, HL.out, ← hjl]; exact HO.out)
          clear hlt hjl
          go_wp2_with fail
          go_ret
          rw [HR.out]
          exact hfs.out.post

end Go.Proofs.Ytlgbkhkmfgdehaa.Ox
