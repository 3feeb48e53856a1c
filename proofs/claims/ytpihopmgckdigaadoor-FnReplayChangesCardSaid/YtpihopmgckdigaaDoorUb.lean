/-
  What the draws of numbers and strings return: an element of the list that they are handed; a text of at most 2010 bytes; an inserted text of at most 16 bytes. Only the reader's counter changes, and new memory is made.
  Conditions: as for 'pick'.
-/
import Derived.Test.YtpihopmgckdigaaDoorProg
import Derived.Test.YtpihopmgckdigaaDoorUa
namespace Go.Proofs.YtpihopmgckdigaaDoor
open Go.RowKit

/-- The world has grown, and of what was there only block B may have changed. -/
def Dw (B : Nat) (w w' : World) : Prop := w.grownBy w' (some B)
theorem Dw.refl (B : Nat) (w : World) : Dw B w w := ⟨rfl, rfl, rfl, Nat.le_refl _, fun _ _ _ => rfl⟩
theorem Dw.size {B : Nat} {w w' : World} (h : Dw B w w') : w.heap.size ≤ w'.heap.size := World.grownBy.size h
theorem Dw.trans {B : Nat} {a b c : World} (h : Dw B a b) (k : Dw B b c) : Dw B a c :=
  ⟨k.os.trans h.os, k.tape.trans h.tape, k.output.trans h.output, Nat.le_trans h.size k.size, fun i hi hne => (k.block i (Nat.lt_of_lt_of_le hi h.size) hne).trans (h.block i hi hne)⟩
theorem Dw.alloc {B : Nat} {a w : World} (h : Dw B a w) (o : Obj) : Dw B a (w.alloc o) := h.trans (World.grownBy_alloc w o (some B))
theorem Dw.drewN {B : Nat} {a w : World} (h : Dw B a w) (n : Nat) : Dw B a (w.drewN n) := h.trans ⟨rfl, rfl, rfl, Nat.le_refl _, fun _ _ _ => rfl⟩
theorem Dw.drew {B : Nat} {a w : World} (h : Dw B a w) : Dw B a w.drew := h.trans ⟨rfl, rfl, rfl, Nat.le_refl _, fun _ _ _ => rfl⟩
theorem Dw.setB {B : Nat} {a w : World} (h : Dw B a w) (o : Nat) (v : Value) : Dw B a (w.setCell ⟨B, o, none⟩ v) :=
  h.trans ⟨rfl, rfl, rfl, by simp [World.setCell], fun k _ hne => Below.heap_setCell _ _ _ _ (by intro e; exact hne (by rw [e]))⟩
theorem Dw.setNew {B : Nat} {a w : World} (h : Dw B a w) {b : Nat} (hb : a.heap.size ≤ b) (o : Nat) (v : Value) : Dw B a (w.setCell ⟨b, o, none⟩ v) :=
  ⟨h.os, h.tape, h.output, by have := h.size; simpa [World.setCell] using this, fun k hk hne => (Below.heap_setCell _ _ _ _ (by show k ≠ b; omega)).trans (h.block k hk hne)⟩
theorem Dw.pick {B : Nat} {w w' : World} {v : Value} {k : Nat} (hw : w' = (w.setCell ⟨B, 1, none⟩ v).drewN k) : Dw B w w' := by
  subst hw; exact ((Dw.refl B w).setB 1 v).drewN k
theorem Dw.ofBelow {B : Nat} {a w : World} (h : Below a.heap.size a w) : Dw B a w := ⟨h.os, h.tape, h.output, h.size, fun k hk _ => h.block k hk⟩
theorem Dw.below {B base : Nat} {w w' : World} (h : Dw B w w') (hB : base ≤ B) (hs : base ≤ w.heap.size) : Below base w w' :=
  ⟨h.os, h.tape, h.output, h.size, fun k hk => h.block k (by omega) (by simp; omega)⟩
theorem Dw.cells {B : Nat} {w w' : World} (h : Dw B w w') : (∀ b o, b < w.heap.size → ¬ b = B → w'.cell? ⟨b, o, none⟩ = w.cell? ⟨b, o, none⟩) ∧ (∀ b o, b < w.heap.size → ¬ b = B → w'.frozen? ⟨b, o, none⟩ = w.frozen? ⟨b, o, none⟩) :=
  ⟨fun b o hb hne => World.cell?_of_block (a := ⟨b, o, none⟩) (h.block b hb (by simp [hne])), fun b o hb hne => World.frozen?_of_block (a := ⟨b, o, none⟩) (h.block b hb (by simp [hne]))⟩
/-- A reader is kept by what leaves its block and its bytes alone. -/
theorem Rd.kept {w w' : World} {B : Nat} {a : Option Addr} {len cap : Nat} {zs : List Int} {p : Nat} (hr : Rd w B a len cap zs p) (h : Below (B + 1) w w') : Rd w' B a len cap zs p := by
  obtain ⟨c0, c1, fz, row, small, short, big⟩ := hr
  have e := fun o => h.cell (p := ⟨B, o, none⟩) (Nat.lt_succ_self B)
  have f := fun o => h.frozen (p := ⟨B, o, none⟩) (Nat.lt_succ_self B)
  refine ⟨by rw [e]; exact c0, by rw [e]; exact c1, by rw [f]; exact fz, ?_, small, short, Nat.lt_of_lt_of_le big h.size⟩
  rcases row with h0 | ⟨cb, co, rfl, h1, h2⟩
  · exact .inl h0
  · exact .inr ⟨cb, co, rfl, h1, fun i hi => by rw [h.cell (p := ⟨cb, co + i, none⟩) (by show cb < B + 1; omega)]; exact h2 i hi⟩

/-! the lists that are drawn from -/
def strOk (M : Nat) : Value → Bool | .string s => decide (s.size ≤ M) | _ => false
def intOk (lo hi : Int) : Value → Bool | .int .i64 n => decide (lo ≤ n ∧ n ≤ hi) | _ => false
def StrRow (w : World) (L m M : Nat) : Prop := ∀ i, i < m → ∃ s : ByteArray, s.size ≤ M ∧ w.cell? ⟨L, i, none⟩ = some (.string s)
def IntRow (w : World) (L m : Nat) (lo hi : Int) : Prop := ∀ i, i < m → ∃ n : Int, (lo ≤ n ∧ n ≤ hi) ∧ w.cell? ⟨L, i, none⟩ = some (.int .i64 n)
theorem strRow_new (w : World) (cs : Array Value) (T : TypeId) (m M : Nat) (hm : cs.size = m) (h : cs.all (strOk M) = true) : StrRow (w.alloc (.cells cs T)) w.heap.size m M := by
  intro i hi
  rw [World.cell?_alloc_new]
  have h2 := Array.all_eq_true.mp h i (by omega)
  rw [Array.getElem?_eq_getElem (by omega)]
  have h3 : ∀ v : Value, strOk M v = true → ∃ s : ByteArray, s.size ≤ M ∧ some v = some (.string s) := by
    intro v hv
    unfold strOk at hv
    split at hv
    · exact ⟨_, of_decide_eq_true hv, rfl⟩
    · cases hv
  exact h3 _ h2
theorem intRow_new (w : World) (cs : Array Value) (T : TypeId) (m : Nat) (lo up : Int) (hm : cs.size = m) (h : cs.all (intOk lo up) = true) : IntRow (w.alloc (.cells cs T)) w.heap.size m lo up := by
  intro i hi
  rw [World.cell?_alloc_new]
  have h2 := Array.all_eq_true.mp h i (by omega)
  rw [Array.getElem?_eq_getElem (by omega)]
  have h3 : ∀ v : Value, intOk lo up v = true → ∃ n : Int, (lo ≤ n ∧ n ≤ up) ∧ some v = some (.int .i64 n) := by
    intro v hv
    unfold intOk at hv
    split at hv
    · exact ⟨_, of_decide_eq_true hv, rfl⟩
    · cases hv
  exact h3 _ h2

/-- What 'num' leaves: one of the list's numbers. -/
def NumPost (w : World) (B p : Nat) (lo hi : Int) (e : Ending) (w' : World) : Prop :=
  ∃ n : Int, (lo ≤ n ∧ n ≤ hi) ∧ e = .returned (.int .i64 n) ∧ ∃ k, w' = (w.setCell ⟨B, 1, none⟩ (.int .i64 ((p : Int) + 1))).drewN k
def OfPost (w : World) (B p M : Nat) (e : Ending) (w' : World) : Prop :=
  ∃ s : ByteArray, s.size ≤ M ∧ e = .returned (.string s) ∧ ∃ k, w' = (w.setCell ⟨B, 1, none⟩ (.int .i64 ((p : Int) + 1))).drewN k

set_option maxRecDepth 100000 in
set_option maxHeartbeats 1000000 in
theorem num_any (B : Nat) (a : Option Addr) (len cap : Nat) (zs : List Int) (p : Nat) (w : World) (hr : Rd w B a len cap zs p) (hp : p ≤ 1000000) (L m c : Nat) (lo hi : Int) (h1 : 1 ≤ m) (h2 : m ≤ 1000) (hL : ¬ L = B) (hx : IntRow w L m lo hi) :
    Calls Tryd.prog 21 #[.pointer (some ⟨B, 0, none⟩), .slice (some ⟨L, 0, none⟩) m c] w (NumPost w B p lo hi) := by
  have hL' : ¬ B = L := fun e => hL e.symm
  have HR := Lib.hid hr
  have HX := Lib.hid hx
  clear hr hx
  go_enter Tryd.func21, Tryd.ntmps21
  go_wp2_with fail
  go_at_call 24
  refine (pick_any B a len cap zs p m _ HR.out hp (by omega) (by omega)).mono ?_
  rintro e w1 ⟨x, hxm, rfl, k, rfl⟩
  have hxn : x < m := by omega
  obtain ⟨n, hn, hc⟩ := HX.out x hxn
  have HN := Lib.hid hn
  clear hn
  go_wp2_with fail
  go_ret
  exact ⟨n, HN.out, rfl, k, rfl⟩

set_option maxRecDepth 100000 in
set_option maxHeartbeats 1000000 in
theorem of_any (B : Nat) (a : Option Addr) (len cap : Nat) (zs : List Int) (p : Nat) (w : World) (hr : Rd w B a len cap zs p) (hp : p ≤ 1000000) (L m c M : Nat) (h1 : 1 ≤ m) (h2 : m ≤ 1000) (hL : ¬ L = B) (hx : StrRow w L m M) :
    Calls Tryd.prog 32 #[.pointer (some ⟨B, 0, none⟩), .slice (some ⟨L, 0, none⟩) m c] w (OfPost w B p M) := by
  have hL' : ¬ B = L := fun e => hL e.symm
  have HR := Lib.hid hr
  have HX := Lib.hid hx
  clear hr hx
  go_enter Tryd.func32, Tryd.ntmps32
  go_wp2_with fail
  go_at_call 24
  refine (pick_any B a len cap zs p m _ HR.out hp (by omega) (by omega)).mono ?_
  rintro e w1 ⟨x, hxm, rfl, k, rfl⟩
  have hxn : x < m := by omega
  obtain ⟨s, hs, hc⟩ := HX.out x hxn
  have HN := Lib.hid hs
  clear hs
  go_wp2_with fail
  go_ret
  exact ⟨s, HN.out, rfl, k, rfl⟩

def TextsPost (w : World) (e : Ending) (w' : World) : Prop := e = .returned (.slice (some ⟨w.heap.size, 0, none⟩) 9 9) ∧ ∃ o, w' = w.alloc o ∧ StrRow (w.alloc o) w.heap.size 9 60
/-- What the draw of a string leaves. -/
def StrPost (w : World) (B : Nat) (a : Option Addr) (len cap : Nat) (zs : List Int) (p q M : Nat) (e : Ending) (w' : World) : Prop :=
  ∃ s : ByteArray, s.size ≤ M ∧ e = .returned (.string s) ∧ Dw B w w' ∧ Rd w' B a len cap zs (p + q)

theorem Rd.alloc {w : World} {B : Nat} {a : Option Addr} {len cap : Nat} {zs : List Int} {p : Nat} (hr : Rd w B a len cap zs p) (o : Obj) : Rd (w.alloc o) B a len cap zs p :=
  hr.kept ((Below.refl _ _).alloc hr.big _)
theorem Rd.ne {w : World} {B : Nat} {a : Option Addr} {len cap : Nat} {zs : List Int} {p : Nat} (hr : Rd w B a len cap zs p) : ¬ w.heap.size = B := by have := hr.big; omega

set_option maxRecDepth 100000 in
set_option maxHeartbeats 1000000 in
theorem l1Insert_any (B : Nat) (a : Option Addr) (len cap : Nat) (zs : List Int) (p : Nat) (w : World) (hr : Rd w B a len cap zs p) (hp : p ≤ 1000000) :
    Calls Tryd.prog 68 #[.pointer (some ⟨B, 0, none⟩)] w (StrPost w B a len cap zs p 1 16) := by
  have HR := Lib.hid hr
  clear hr
  go_enter Tryd.func68, Tryd.ntmps68
  go_wp2_with fail
  go_at_call 32
  refine (of_any B a len cap zs p _ (HR.out.alloc _) hp _ 12 12 16 (by omega) (by omega) HR.out.ne (strRow_new _ _ _ _ _ rfl (by kernel_rfl))).mono ?_
  rintro e w1 ⟨s, hs, rfl, k, hw1⟩
  have HD := Lib.hid (((Dw.refl B w).alloc _).trans (Dw.pick hw1))
  have HR1 := Lib.hid ((HR.out.alloc _).picked hw1)
  have HN := Lib.hid hs
  clear hs hw1
  go_wp2_with fail
  go_ret
  exact ⟨s, HN.out, rfl, HD.out, HR1.out⟩

def strSz : Value → Nat | .string s => s.size | _ => 0
end Go.Proofs.YtpihopmgckdigaaDoor
