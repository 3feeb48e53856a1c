/-
  The reader of drawn bytes, without draws of texts: what 'num' returns; the opening of a reader. Only the reader's counter changes.
-/
import Derived.Test.YtndpoejohpmifaaProg
import Derived.Test.YtndpoejohpmifaaUa
import Derived.Deep.RegionHeld3
import Derived.Deep.RegionWith
import Derived.OpenShut
namespace Go.Proofs.Ytndpoejohpmifaa
open Go.RowKit

/-- The world has grown, and of what was there only block B may have changed. -/
def Dw (B : Nat) (w w' : World) : Prop := w.grownBy w' (some B)
theorem Dw.refl (B : Nat) (w : World) : Dw B w w := ⟨rfl, rfl, rfl, Nat.le_refl _, fun _ _ _ => rfl⟩
theorem Dw.size {B : Nat} {w w' : World} (h : Dw B w w') : w.heap.size ≤ w'.heap.size := World.grownBy.size h
theorem Dw.trans {B : Nat} {a b c : World} (h : Dw B a b) (k : Dw B b c) : Dw B a c :=
  ⟨k.os.trans h.os, k.tape.trans h.tape, k.output.trans h.output, Nat.le_trans h.size k.size, fun i hi hne => (k.block i (Nat.lt_of_lt_of_le hi h.size) hne).trans (h.block i hi hne)⟩
theorem Dw.alloc {B : Nat} {a w : World} (h : Dw B a w) (o : Obj) : Dw B a (w.alloc o) := h.trans (World.grownBy_alloc w o (some B))
theorem Dw.drewN {B : Nat} {a w : World} (h : Dw B a w) (n : Nat) : Dw B a (w.drewN n) := h.trans ⟨rfl, rfl, rfl, Nat.le_refl _, fun _ _ _ => rfl⟩
theorem Dw.drew {B : Nat} {a w : World} (h : Dw B a w) : Dw B a w.drew := h.trans ⟨rfl, rfl, rfl, Nat.le_refl _, fun _ _ _ => rfl⟩
theorem Dw.setB {B : Nat} {a w : World} (h : Dw B a w) (o : Nat) (v : Value) : Dw B a (w.setCell ⟨B, o, none⟩ v) :=
  h.trans ⟨rfl, rfl, rfl, by simp [World.setCell], fun k _ hne => Below.heap_setCell _ _ _ _ (by intro e; exact hne (by rw [e]))⟩
theorem Dw.setNew {B : Nat} {a w : World} (h : Dw B a w) {b : Nat} (hb : a.heap.size ≤ b) (o : Nat) (v : Value) : Dw B a (w.setCell ⟨b, o, none⟩ v) :=
  ⟨h.os, h.tape, h.output, by have := h.size; simpa [World.setCell] using this, fun k hk hne => (Below.heap_setCell _ _ _ _ (by show k ≠ b; omega)).trans (h.block k hk hne)⟩
theorem Dw.pick {B : Nat} {w w' : World} {v : Value} {k : Nat} (hw : w' = (w.setCell ⟨B, 1, none⟩ v).drewN k) : Dw B w w' := by
  subst hw; exact ((Dw.refl B w).setB 1 v).drewN k
theorem Dw.ofBelow {B : Nat} {a w : World} (h : Below a.heap.size a w) : Dw B a w := ⟨h.os, h.tape, h.output, h.size, fun k hk _ => h.block k hk⟩
theorem Dw.below {B base : Nat} {w w' : World} (h : Dw B w w') (hB : base ≤ B) (hs : base ≤ w.heap.size) : Below base w w' :=
  ⟨h.os, h.tape, h.output, h.size, fun k hk => h.block k (by omega) (by simp; omega)⟩
theorem Dw.cells {B : Nat} {w w' : World} (h : Dw B w w') : (∀ b o, b < w.heap.size → ¬ b = B → w'.cell? ⟨b, o, none⟩ = w.cell? ⟨b, o, none⟩) ∧ (∀ b o, b < w.heap.size → ¬ b = B → w'.frozen? ⟨b, o, none⟩ = w.frozen? ⟨b, o, none⟩) :=
  ⟨fun b o hb hne => World.cell?_of_block (a := ⟨b, o, none⟩) (h.block b hb (by simp [hne])), fun b o hb hne => World.frozen?_of_block (a := ⟨b, o, none⟩) (h.block b hb (by simp [hne]))⟩
/-- A reader is kept by what leaves its block and its bytes alone. -/
theorem Rd.kept {w w' : World} {B : Nat} {a : Option Addr} {len cap : Nat} {zs : List Int} {p : Nat} (hr : Rd w B a len cap zs p) (h : Below (B + 1) w w') : Rd w' B a len cap zs p := by
  obtain ⟨c0, c1, fz, row, small, short, big⟩ := hr
  have e := fun o => h.cell (p := ⟨B, o, none⟩) (Nat.lt_succ_self B)
  have f := fun o => h.frozen (p := ⟨B, o, none⟩) (Nat.lt_succ_self B)
  refine ⟨by rw [e]; exact c0, by rw [e]; exact c1, by rw [f]; exact fz, ?_, small, short, Nat.lt_of_lt_of_le big h.size⟩
  rcases row with h0 | ⟨cb, co, rfl, h1, h2⟩
  · exact .inl h0
  · exact .inr ⟨cb, co, rfl, h1, fun i hi => by rw [h.cell (p := ⟨cb, co + i, none⟩) (by show cb < B + 1; omega)]; exact h2 i hi⟩

/-! the lists that are drawn from -/
def strOk (M : Nat) : Value → Bool | .string s => decide (s.size ≤ M) | _ => false
def intOk (lo hi : Int) : Value → Bool | .int .i64 n => decide (lo ≤ n ∧ n ≤ hi) | _ => false
def StrRow (w : World) (L m M : Nat) : Prop := ∀ i, i < m → ∃ s : ByteArray, s.size ≤ M ∧ w.cell? ⟨L, i, none⟩ = some (.string s)
def IntRow (w : World) (L m : Nat) (lo hi : Int) : Prop := ∀ i, i < m → ∃ n : Int, (lo ≤ n ∧ n ≤ hi) ∧ w.cell? ⟨L, i, none⟩ = some (.int .i64 n)
theorem strRow_new (w : World) (cs : Array Value) (T : TypeId) (m M : Nat) (hm : cs.size = m) (h : cs.all (strOk M) = true) : StrRow (w.alloc (.cells cs T)) w.heap.size m M := by
  intro i hi
  rw [World.cell?_alloc_new]
  have h2 := Array.all_eq_true.mp h i (by omega)
  rw [Array.getElem?_eq_getElem (by omega)]
  have h3 : ∀ v : Value, strOk M v = true → ∃ s : ByteArray, s.size ≤ M ∧ some v = some (.string s) := by
    intro v hv
    unfold strOk at hv
    split at hv
    · exact ⟨_, of_decide_eq_true hv, rfl⟩
    · cases hv
  exact h3 _ h2
theorem intRow_new (w : World) (cs : Array Value) (T : TypeId) (m : Nat) (lo up : Int) (hm : cs.size = m) (h : cs.all (intOk lo up) = true) : IntRow (w.alloc (.cells cs T)) w.heap.size m lo up := by
  intro i hi
  rw [World.cell?_alloc_new]
  have h2 := Array.all_eq_true.mp h i (by omega)
  rw [Array.getElem?_eq_getElem (by omega)]
  have h3 : ∀ v : Value, intOk lo up v = true → ∃ n : Int, (lo ≤ n ∧ n ≤ up) ∧ some v = some (.int .i64 n) := by
    intro v hv
    unfold intOk at hv
    split at hv
    · exact ⟨_, of_decide_eq_true hv, rfl⟩
    · cases hv
  exact h3 _ h2

/-- What 'num' leaves: one of the list's numbers. -/
def NumPost (w : World) (B p : Nat) (lo hi : Int) (e : Ending) (w' : World) : Prop :=
  ∃ n : Int, (lo ≤ n ∧ n ≤ hi) ∧ e = .returned (.int .i64 n) ∧ ∃ k, w' = (w.setCell ⟨B, 1, none⟩ (.int .i64 ((p : Int) + 1))).drewN k
set_option maxRecDepth 100000 in
set_option maxHeartbeats 1000000 in
theorem num_any (B : Nat) (a : Option Addr) (len cap : Nat) (zs : List Int) (p : Nat) (w : World) (hr : Rd w B a len cap zs p) (hp : p ≤ 1000000) (L m c : Nat) (lo hi : Int) (h1 : 1 ≤ m) (h2 : m ≤ 1000) (hL : ¬ L = B) (hx : IntRow w L m lo hi) :
    Calls Try.prog 83 #[.pointer (some ⟨B, 0, none⟩), .slice (some ⟨L, 0, none⟩) m c] w (NumPost w B p lo hi) := by
  have hL' : ¬ B = L := fun e => hL e.symm
  have HR := Lib.hid hr
  have HX := Lib.hid hx
  clear hr hx
  go_enter Try.func83, Try.ntmps83
  go_wp2_with fail
  go_at_call 80
  refine (pick_any B a len cap zs p m _ HR.out hp (by omega) (by omega)).mono ?_
  rintro e w1 ⟨x, hxm, rfl, k, rfl⟩
  have hxn : x < m := by omega
  obtain ⟨n, hn, hc⟩ := HX.out x hxn
  have HN := Lib.hid hn
  clear hn
  go_wp2_with fail
  go_ret
  exact ⟨n, HN.out, rfl, k, rfl⟩

/-- A slice of bytes that came in: nil, or a row of 'cap' bytes. -/
def IsRow (w : World) (a : Option Addr) (len cap : Nat) (zs : List Int) : Prop :=
  (a = none ∧ len = 0 ∧ cap = 0 ∧ zs = []) ∨
  ∃ x, a = some x ∧ len ≤ cap ∧ cap ≤ maxLen ∧ zs.length = cap ∧ (∀ i, i < zs.length → w.cell? (x.add i) = some (.int .u8 (zs.getD i 0))) ∧ ∀ n ∈ zs, (Lit.int .u8 n).wf = true
theorem IsRow.len {w : World} {a : Option Addr} {len cap : Nat} {zs : List Int} (h : IsRow w a len cap zs) : len ≤ maxLen := by
  rcases h with ⟨rfl, rfl, rfl, rfl⟩ | ⟨x, rfl, h1, h2, _⟩
  · exact Nat.zero_le _
  · exact Nat.le_trans h1 h2
theorem IsRow.old {w : World} {a : Option Addr} {len cap : Nat} {zs : List Int} (h : IsRow w a len cap zs) : len = 0 ∨ ∃ cb co, a = some ⟨cb, co, none⟩ ∧ len ≤ cap ∧ cap ≤ maxLen ∧ cb < w.heap.size ∧ ∀ i, i < len → w.cell? ⟨cb, co + i, none⟩ = some (.int .u8 (zs.getD i 0)) := by
  rcases h with ⟨rfl, rfl, rfl, rfl⟩ | ⟨x, rfl, h1, hm, h2, h3, _⟩
  · exact .inl rfl
  · by_cases h0 : len = 0
    · exact .inl h0
    · obtain ⟨b, off, spot⟩ := x
      have hc := h3 0 (by omega)
      have hspot : spot = none := by simpa [Addr.add] using World.cell?_spot hc
      subst hspot
      exact .inr ⟨b, off, rfl, h1, hm, World.block_lt_of_cell? w _ hc, fun i hi => by
        have h5 := h3 i (by omega)
        unfold Addr.add at h5
        by_cases hi0 : i = 0
        · subst hi0; simpa using h5
        · simpa [hi0] using h5⟩
theorem IsRow.small {w : World} {a : Option Addr} {len cap : Nat} {zs : List Int} (h : IsRow w a len cap zs) : ∀ i, 0 ≤ zs.getD i 0 ∧ zs.getD i 0 ≤ 255 := by
  intro i
  rcases h with ⟨rfl, rfl, rfl, rfl⟩ | ⟨x, rfl, _, _, _, _, h4⟩
  · simp
  · by_cases hi : i < zs.length
    · have := h4 zs[i] (List.getElem_mem hi)
      have e : zs.getD i 0 = zs[i] := by simp [List.getD, hi]
      rw [e]
      have h5 := bounds_u8 this
      omega
    · have e : zs.getD i 0 = 0 := by simp [List.getD, hi]
      rw [e]; omega
/-- A row is kept by what leaves old memory alone. -/
theorem IsRow.kept {w w' : World} {a : Option Addr} {len cap : Nat} {zs : List Int} (h : IsRow w a len cap zs) (hb : Below w.heap.size w w') : IsRow w' a len cap zs := by
  rcases h with h | ⟨x, rfl, h1, hm, h2, h3, h4⟩
  · exact .inl h
  · refine .inr ⟨x, rfl, h1, hm, h2, fun i hi => ?_, h4⟩
    rw [hb.cell (p := x.add i) (World.block_lt_of_cell? w _ (h3 i hi))]
    exact h3 i hi

theorem size_alloc1 (w : World) (o : Obj) : (w.alloc o).heap.size = w.heap.size + 1 := by simp
/-- What the opening of a reader leaves. -/
def OpenPost (w : World) (a : Option Addr) (zs : List Int) (e : Ending) (w' : World) : Prop :=
  ∃ len cap, e = .returned (.pointer (some ⟨w.heap.size, 0, none⟩)) ∧ Rd w' w.heap.size a len cap zs 0 ∧ Below w.heap.size w w'
theorem rd_new {w : World} {a : Option Addr} {len cap n : Nat} {zs : List Int} (h : IsRow w a len cap zs) (T : TypeId) (hn : n ≤ len) (hn2 : n ≤ 2000) :
    Rd (w.alloc (.cells #[.slice a n cap, .int .i64 0] T)) w.heap.size a n cap zs 0 := by
  refine ⟨by go_simp, by go_simp, by go_simp, ?_, h.small, hn2, by simp⟩
  rcases h.old with h0 | ⟨cb, co, ha, _, _, h1, h2⟩
  · exact .inl (by omega)
  · refine .inr ⟨cb, co, ha, h1, fun i hi => ?_⟩
    rw [((Below.refl _ w).alloc (Nat.le_refl _) _).cell (p := ⟨cb, co + i, none⟩) h1]
    exact h2 i (by omega)
set_option maxRecDepth 100000 in
set_option maxHeartbeats 400000 in
theorem l16Open_any (a : Option Addr) (len cap : Nat) (zs : List Int) (w : World) (h : IsRow w a len cap zs) :
    Calls Try.prog 48 #[.slice a len cap] w (OpenPost w a zs) := by
  have HR := Lib.hid h
  have hm := h.len
  unfold maxLen at hm
  by_cases hl : 2000 < len
  · obtain ⟨cb, co, rfl, hlc, hcm, _, _⟩ : ∃ cb co, a = some ⟨cb, co, none⟩ ∧ len ≤ cap ∧ cap ≤ maxLen ∧ cb < w.heap.size ∧ ∀ i, i < len → w.cell? ⟨cb, co + i, none⟩ = some (.int .u8 (zs.getD i 0)) := by
      rcases h.old with h0 | h0
      · omega
      · exact h0
    unfold maxLen at hcm
    have h2k : 2000 ≤ cap := by omega
    clear h
    go_enter Try.func48, Try.ntmps48
    go_wp2
    go_ret
    exact ⟨2000, cap, rfl, rd_new HR.out _ (by omega) (by omega), (Below.refl _ _).alloc (Nat.le_refl _) _⟩
  · clear h
    go_enter Try.func48, Try.ntmps48
    go_wp2
    go_ret
    exact ⟨len, cap, rfl, rd_new HR.out _ (Nat.le_refl _) (by omega), (Below.refl _ _).alloc (Nat.le_refl _) _⟩

theorem Rd.setNew {w : World} {B : Nat} {a : Option Addr} {len cap : Nat} {zs : List Int} {p : Nat} (hr : Rd w B a len cap zs p) {E : Nat} (hE : B < E) (o : Nat) (v : Value) : Rd (w.setCell ⟨E, o, none⟩ v) B a len cap zs p :=
  hr.kept ((Below.refl _ _).setCell (p := ⟨E, o, none⟩) hE v)
theorem Rd.drew {w : World} {B : Nat} {a : Option Addr} {len cap : Nat} {zs : List Int} {p : Nat} (hr : Rd w B a len cap zs p) : Rd w.drew B a len cap zs p := hr.kept (Below.refl _ _).drew
theorem Rd.alloc {w : World} {B : Nat} {a : Option Addr} {len cap : Nat} {zs : List Int} {p : Nat} (hr : Rd w B a len cap zs p) (o : Obj) : Rd (w.alloc o) B a len cap zs p :=
  hr.kept ((Below.refl _ _).alloc (by have := hr.big; omega) o)
end Go.Proofs.Ytndpoejohpmifaa
