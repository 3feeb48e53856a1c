/-
  FindFile of the program and of the model.
-/
import Derived.Test.YtkekghdkbbjhpaaDoorLh
import Derived.Maps.OwnSet
namespace Go.Proofs.YtkekghdkbbjhpaaDoor
open Go.RowKit Go.Maps Go.Sort Go.Shelf Go.WideMaps
attribute [local go_sem] Oper.semAt_some
set_option linter.unusedVariables false
set_option linter.unusedSimpArgs false

/-- The text of a file, and whether there is one: r is where the name is first found. -/
def fdT (ls : List Fl) (r : Int) : ByteArray := if filesB ls && decide (0 ≤ r) then (ls.getD r.toNat Fl.dummy).t else ⟨#[]⟩
def fdB (ls : List Fl) (r : Int) : Bool := filesB ls && decide (0 ≤ r)
theorem fd_no {ls : List Fl} {r : Int} (h : filesB ls = false) : fdT ls r = ⟨#[]⟩ ∧ fdB ls r = false := by
  unfold fdT fdB; rw [h]; exact ⟨rfl, rfl⟩
theorem fd_neg (ls : List Fl) : fdT ls (-1) = ⟨#[]⟩ ∧ fdB ls (-1) = false := by
  unfold fdT fdB; rw [show decide ((0 : Int) ≤ -1) = false from rfl, Bool.and_false]; exact ⟨rfl, rfl⟩
theorem fd_yes {ls : List Fl} {k : Nat} (h : filesB ls = true) : fdT ls k = (ls.getD k Fl.dummy).t ∧ fdB ls k = true := by
  unfold fdT fdB; rw [h, decide_eq_true (by omega : (0 : Int) ≤ (k : Int))]; exact ⟨rfl, rfl⟩
theorem filesB_apart {ls : List Fl} (h : filesB ls = true) : Apart ls := by
  by_cases ha : Apart ls
  · exact ha
  · rw [filesB_twice ha] at h; cases h
theorem fd_look {ls : List Fl} {s : ByteArray} {r : Int} (h : filesB ls = true) (hr : FdR ls s r) : has (flD ls) (.string s.data.toList) = fdB ls r ∧ (flD ls).atKey (.string s.data.toList) (.lit (.string [])) = .lit (.string (fdT ls r).data.toList) := by
  rcases hr with ⟨rfl, hn⟩ | ⟨k, hk, rfl, he, _⟩
  · have hno : ∀ y ∈ ls, nmF y ≠ s.data.toList := by
      intro y hy e
      obtain ⟨i, hi, rfl⟩ := List.getElem_of_mem hy
      refine hn i hi (nm_eq.2 ?_)
      have e2 : ls.getD i Fl.dummy = ls[i] := by simp [List.getD, hi]
      rw [e2]; exact e
    obtain ⟨h1, h2⟩ := fd_neg ls
    rw [h1, h2, flD_has]
    refine ⟨?_, ?_⟩
    · rw [List.any_eq_false]; intro y hy; simpa using hno y hy
    · unfold flD; rw [ws_other ls _ _ _ hno]; rfl
  · obtain ⟨h1, h2⟩ := fd_yes (k := k) h
    rw [h1, h2]
    have e : nmF (ls.getD k Fl.dummy) = s.data.toList := nm_eq.1 he
    refine ⟨?_, ?_⟩
    · rw [flD_has, List.any_eq_true]; exact ⟨_, mem_getD hk, decide_eq_true e⟩
    · rw [← e]; unfold flD; exact ws_at ls _ _ isMap_empty (filesB_apart h) _ (mem_getD hk)
set_option maxRecDepth 100000 in
theorem look_ws {ls : List Fl} {s : ByteArray} {r : Int} {w : World} {bm n : Nat} (h : filesB ls = true) (hr : FdR ls s r) (hs : s.size ≤ maxLen) (hm : IsWs w bm n (flD ls)) :
    (Instr.lookup 63 (.map (some bm)) (.string s) true).run Tryd.prog w = .ok (.tuple #[.string (fdT ls r), .bool (fdB ls r)]) w := by
  have hz : plainElem (H := Unit) Tryd.prog 9 (.string ⟨#[]⟩) = some (.lit (.string []), []) := plainElem_string Tryd.underlying9 (Nat.zero_le _)
  have hkey : keyOf Tryd.prog 9 (.string s) = some (.string s.data.toList) := keyOf_string_mk Tryd.underlying9 hs
  obtain ⟨v, ps, hrun, hv⟩ := World.ownsMap.look_ok hm wsLaw Tryd.underlying63 (zeroS w) hz hkey
  obtain ⟨h1, h2⟩ := fd_look h hr
  rw [h2] at hv
  obtain ⟨t, rfl, he, _⟩ := plainElem_string_inv Tryd.underlying9 hv
  have he1 : (fdT ls r).data.toList = t.data.toList := by injection he with he; injection he with he; injection he
  have ht : t = fdT ls r := by
    have := nm_eq.2 he1
    rw [Lib.toList_data, Lib.toList_data] at this
    cases t; rename_i d; cases hd : fdT ls r; rename_i d2
    rw [hd] at he1
    congr 1
    exact (Array.toList_inj.1 he1).symm
  rw [ht, h1] at hrun
  exact hrun
set_option maxRecDepth 100000 in
theorem look_none (s : ByteArray) (hs : s.size ≤ maxLen) (w : World) :
    (Instr.lookup 63 (.map none) (.string s) true).run Tryd.prog w = .ok (.tuple #[.string ⟨#[]⟩, .bool false]) w := by
  have hkey : keyOf Tryd.prog 9 (.string s) = some (.string s.data.toList) := keyOf_string_mk Tryd.underlying9 hs
  exact Maps.look_nil true wsLaw Tryd.underlying63 (zeroS w) hkey
theorem ret_sb {a a' : ByteArray} {b b' : Bool} (h : a = a') (g : b = b') : Ending.returned (.tuple #[.string a, .bool b]) = .returned (.tuple #[.string a', .bool b']) := by rw [h, g]
set_option maxHeartbeats 1000000 in
theorem findFile_impl (ls : List Fl) (a : Option Addr) (cap : Nat) (s : ByteArray) (r : Int) (w : World) (hl : ls.length ≤ 2000000) (hz : FlSz ls) (hs : s.size ≤ maxLen) (hr : FdR ls s r) (h : FsAt w ls (.slice a ls.length cap)) :
    Calls Tryd.prog 10 #[.slice a ls.length cap, .string s] w fun e w' => e = .returned (.tuple #[.string (fdT ls r), .bool (fdB ls r)]) ∧ Below w.heap.size w w' := by
  have HW := Lib.hid (workspaceOf_any ls a cap w hl hz h)
  have HR := Lib.hid hr
  have HS := Lib.hid hs
  clear h hz hr hs
  go_enter Tryd.func10, Tryd.ntmps10
  go_wp2_with fail
  go_at_call 31
  refine HW.out.mono ?_
  rintro e w1 ⟨mv, b, rfl, hb, hb1, hno, hyes⟩
  have HB1 := Lib.hid hb1
  cases b with
  | false =>
    obtain rfl := hno rfl
    have HF : Hid (fdT ls r = ⟨#[]⟩ ∧ fdB ls r = false) := Lib.hid (fd_no hb.symm)
    have hrun := look_none s HS.out
    clear hb hb1 hno hyes
    go_wp2_with fail
    exact bodyPost_ret (v := .tuple #[.string _, .bool _]) (by simp [results, Tryd.results10, go_sem]; try rfl) rfl ⟨ret_sb HF.out.1.symm HF.out.2.symm, HB1.out⟩
  | true =>
    obtain ⟨bm, n, rfl, _, _, hm⟩ := hyes rfl
    have hrun := look_ws hb.symm HR.out HS.out hm
    clear hb hb1 hno hyes hm
    go_wp2_with fail
    exact bodyPost_ret (v := .tuple #[.string _, .bool _]) (by simp [results, Tryd.results10, go_sem]; try rfl) rfl ⟨rfl, HB1.out⟩
theorem filesValid_spec' (ls : List Fl) (a : Option Addr) (cap L : Nat) (w : World) (hL : ls.length = L) (hl : ls.length ≤ 2000000) (hcap : ls.length ≤ cap) (hcm : cap ≤ 2000000) (hz : FlSz ls) (h : FsAt w ls (.slice a L cap)) :
    Calls Tryd.prog 29 #[.slice a L cap] w fun e w' => e = .returned (.bool (filesB ls)) ∧ Below w.heap.size w w' := by
  subst hL; exact filesValid_spec ls a cap w hl hcap hcm hz h
theorem FsAt.kid' {w : World} {ls : List Fl} {v : Value} (h : FsAt w ls v) (k L : Nat) (hL : ls.length = L) (hk : k < L) :
    ∃ b o cap, v = .slice (some ⟨b, o, none⟩) L cap ∧ b < w.heap.size ∧ w.cell? ⟨b, o + k * 2, none⟩ = some (.string (ls.getD k Fl.dummy).n) ∧ w.cell? ⟨b, o + k * 2 + 1, none⟩ = some (.string (ls.getD k Fl.dummy).t) := by
  subst hL
  obtain ⟨b, o, cap, e, l, ⟨x0, x1⟩⟩ := h.kid k hk
  exact ⟨b, o, cap, e, l, x0, x1⟩
set_option maxRecDepth 100000 in
set_option maxHeartbeats 4000000 in
theorem findFile_spec (ls : List Fl) (a : Option Addr) (cap : Nat) (s : ByteArray) (r : Int) (w : World) (hl : ls.length ≤ 2000000) (hcap : ls.length ≤ cap) (hcm : cap ≤ 2000000) (hz : FlSz ls) (hr : FdR ls s r) (h : FsAt w ls (.slice a ls.length cap)) :
    Calls Tryd.prog 8 #[.slice a ls.length cap, .string s] w fun e w' => e = .returned (.tuple #[.string (fdT ls r), .bool (fdB ls r)]) ∧ Below w.heap.size w w' := by
  have H := Lib.hid h
  have HZ : Hid (FlSz ls) := Lib.hid hz
  have HR := Lib.hid hr
  obtain ⟨L, hL⟩ : ∃ L, ls.length = L := ⟨_, rfl⟩
  have HL := Lib.hid hL
  have HLB : Hid (ls.length ≤ 2000000) := Lib.hid hl
  have HCB : Hid (ls.length ≤ cap) := Lib.hid hcap
  obtain ⟨b, hb⟩ : ∃ b, filesB ls = b := ⟨_, rfl⟩
  have HB := Lib.hid hb
  rw [hL] at hl hcap H ⊢
  clear hL h hz hr hb
  go_enter Tryd.func8, Tryd.ntmps8
  go_wp2_with fail
  go_at_call 28
  refine (l5Find_at ls HLB.out _ s r HR.out _ H.out).mono ?_
  rintro e w1 ⟨rfl, rfl⟩
  cases b with
  | false =>
    have HF : Hid (fdT ls r = ⟨#[]⟩ ∧ fdB ls r = false) := Lib.hid (fd_no HB.out)
    go_wp2_with fail
    go_at_call 29
    refine (filesValid_spec' ls a cap L w1 HL.out HLB.out HCB.out hcm HZ.out H.out).mono ?_
    rintro e w2 ⟨rfl, hb2⟩
    rw [HB.out]
    have HB2 := Lib.hid hb2
    clear hb2
    go_wp2_with fail
    exact bodyPost_ret (v := .tuple #[.string _, .bool _]) (by simp [results, Tryd.results8, go_sem]; try rfl) rfl ⟨ret_sb HF.out.1.symm HF.out.2.symm, HB2.out⟩
  | true =>
    rcases HR.out with ⟨rfl, _⟩ | ⟨k, hk, rfl, _, _⟩
    · have HF : Hid (fdT ls (-1) = ⟨#[]⟩ ∧ fdB ls (-1) = false) := Lib.hid (fd_neg ls)
      go_wp2_with fail
      go_at_call 29
      refine (filesValid_spec' ls a cap L w1 HL.out HLB.out HCB.out hcm HZ.out H.out).mono ?_
      rintro e w2 ⟨rfl, hb2⟩
      rw [HB.out]
      have HB2 := Lib.hid hb2
      clear hb2
      go_wp2_with fail
      exact bodyPost_ret (v := .tuple #[.string _, .bool _]) (by simp [results, Tryd.results8, go_sem]; try rfl) rfl ⟨ret_sb HF.out.1.symm HF.out.2.symm, HB2.out⟩
    · have HF : Hid (fdT ls k = (ls.getD k Fl.dummy).t ∧ fdB ls k = true) := Lib.hid (fd_yes HB.out)
      have HK : Hid (k < ls.length) := Lib.hid hk
      have hkL : k < L := by rw [HL.out] at hk; exact hk
      clear hk
      go_wp2_with fail
      go_at_call 29
      refine (filesValid_spec' ls a cap L w1 HL.out HLB.out HCB.out hcm HZ.out H.out).mono ?_
      rintro e w2 ⟨rfl, hb2⟩
      rw [HB.out]
      have HB2 := Lib.hid hb2
      obtain ⟨b1, o1, d1, e1, l1, ⟨x0, x1⟩⟩ := (FsAt.kept H.out hb2).kid' k L HL.out hkL
      have f1 : a = some ⟨b1, o1, none⟩ := by injection e1
      subst f1
      clear e1 hb2 x0
      have hki : (k : Int) < (L : Int) := by omega
      have hkn : ¬ (k : Int) < 0 := by omega
      go_wp2_with fail
      exact bodyPost_ret (v := .tuple #[.string _, .bool _]) (by simp [results, Tryd.results8, go_sem]; try rfl) rfl ⟨ret_sb HF.out.1.symm HF.out.2.symm, HB2.out⟩
end Go.Proofs.YtkekghdkbbjhpaaDoor
