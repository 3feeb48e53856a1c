/-
  Plain: the workspace that a list of files makes: its size, its names, its texts; when the list is valid.
-/
import Derived.Test.YtpihopmgckdigaaDoorLc
import Derived.Test.YtpihopmgckdigaaDoorLf
namespace Go.Proofs.YtpihopmgckdigaaDoor
open Go.RowKit Go.Maps Go.Sort
set_option linter.unusedVariables false
set_option linter.unusedSimpArgs false

/-- The bytes of a name. -/
def nmF (x : Fl) : List UInt8 := x.n.data.toList
def stpF (m : DataW Unit) (x : Fl) : DataW Unit := m.put (.string (nmF x)) (.lit (.string x.t.data.toList))
/-- The workspace of a list of files. -/
def flD (ls : List Fl) : DataW Unit := ls.foldl stpF (.map [])
theorem keyS (s : List UInt8) : WideAt.IsKeyLit (.string s) := by first | trivial | exact ⟨⟩ | simp [WideAt.IsKeyLit]
theorem flD_take {ls : List Fl} {k : Nat} (h : k < ls.length) : flD (ls.take (k + 1)) = stpF (flD (ls.take k)) (ls.getD k Fl.dummy) := by
  have e : ls.getD k Fl.dummy = ls[k] := by simp [List.getD, h]
  rw [e]; unfold flD; rw [take_sn h, List.foldl_append]; rfl
theorem nm_eq {a b : ByteArray} : a.toList = b.toList ↔ a.data.toList = b.data.toList := by rw [Lib.toList_data, Lib.toList_data]
theorem ws_has : ∀ (ls : List Fl) (m : DataW Unit) (s : List UInt8), IsMap m → has (ls.foldl stpF m) (.string s) = (has m (.string s) || ls.any (fun x => decide (nmF x = s)))
  | [], m, s, _ => by simp
  | x :: ls, m, s, h => by
    rw [List.foldl_cons, ws_has ls (stpF m x) s (h.put _ _)]
    by_cases e : nmF x = s
    · subst e
      unfold stpF
      rw [has_put_same h (keyS _)]
      simp
    · unfold stpF
      rw [has_put_other (fun h => by injection h with h; exact e h.symm)]
      simp [e]
theorem ws_other : ∀ (ls : List Fl) (m : DataW Unit) (s : List UInt8) (z : DataW Unit), (∀ y ∈ ls, nmF y ≠ s) → (ls.foldl stpF m).atKey (.string s) z = m.atKey (.string s) z
  | [], _, _, _, _ => rfl
  | x :: ls, m, s, z, h => by
    rw [List.foldl_cons, ws_other ls _ s z (fun y hy => h y (List.mem_cons_of_mem _ hy))]
    unfold stpF
    exact atKey_put_other (fun e => by injection e with e; exact h x (List.mem_cons_self ..) e.symm) _ _
theorem ws_at : ∀ (ls : List Fl) (m : DataW Unit) (z : DataW Unit), IsMap m → ls.Pairwise (fun x y => nmF x ≠ nmF y) → ∀ x ∈ ls, (ls.foldl stpF m).atKey (.string (nmF x)) z = .lit (.string x.t.data.toList)
  | [], _, _, _, _, x, hx => by cases hx
  | y :: ls, m, z, h, hp, x, hx => by
    rw [List.foldl_cons]
    rcases List.mem_cons.1 hx with rfl | hx
    · rw [ws_other ls _ _ z (fun q hq e => (List.pairwise_cons.1 hp).1 q hq e.symm)]
      unfold stpF
      exact atKey_put_same h (keyS _) _ _
    · exact ws_at ls _ z (h.put _ _) (List.pairwise_cons.1 hp).2 x hx
theorem ws_size : ∀ (ls : List Fl) (m : DataW Unit), Tidy m → size (ls.foldl stpF m) ≤ size m + ls.length ∧ (size (ls.foldl stpF m) = size m + ls.length ↔ ls.Pairwise (fun x y => nmF x ≠ nmF y) ∧ ∀ x ∈ ls, has m (.string (nmF x)) = false)
  | [], m, _ => by simp
  | x :: ls, m, h => by
    obtain ⟨h1, h2⟩ := ws_size ls (stpF m x) (h.put (keyS _) _)
    rw [List.foldl_cons]
    have hs : size (stpF m x) = if has m (.string (nmF x)) then size m else size m + 1 := size_put h _
    rcases hh : has m (.string (nmF x)) with _ | _
    · rw [hh] at hs
      simp only [Bool.false_eq_true, if_false] at hs
      rw [hs] at h1 h2
      refine ⟨by simp only [List.length_cons]; omega, ?_⟩
      have e : size m + (x :: ls).length = size m + 1 + ls.length := by simp only [List.length_cons]; omega
      rw [e, h2, List.pairwise_cons]
      constructor
      · rintro ⟨hp, hn⟩
        refine ⟨⟨fun y hy e => ?_, hp⟩, fun y hy => ?_⟩
        · have := hn y hy
          rw [← e] at this
          unfold stpF at this
          rw [has_put_same h.isMap (keyS _)] at this; cases this
        · rcases List.mem_cons.1 hy with rfl | hy
          · exact hh
          · have := hn y hy
            by_cases e : nmF y = nmF x
            · rw [e]; exact hh
            · unfold stpF at this
              rw [has_put_other (fun h => by injection h with h; exact e h)] at this
              exact this
      · rintro ⟨⟨hd, hp⟩, hn⟩
        refine ⟨hp, fun y hy => ?_⟩
        unfold stpF
        rw [has_put_other (fun h => by injection h with h; exact hd y hy h.symm)]
        exact hn y (List.mem_cons_of_mem _ hy)
    · rw [hh] at hs
      simp only [if_true] at hs
      rw [hs] at h1
      refine ⟨by simp only [List.length_cons]; omega, ?_⟩
      constructor
      · intro e; simp only [List.length_cons] at e; omega
      · rintro ⟨_, hn⟩
        have := hn x (List.mem_cons_self ..)
        rw [hh] at this; cases this
/-- No two files have one name. -/
def Apart (ls : List Fl) : Prop := ls.Pairwise (fun x y => nmF x ≠ nmF y)
theorem flD_size (ls : List Fl) : size (flD ls) ≤ ls.length ∧ (size (flD ls) = ls.length ↔ Apart ls) := by
  obtain ⟨h1, h2⟩ := ws_size ls (.map []) tidy_empty
  have e : size (.map [] : DataW Unit) + ls.length = ls.length := by simp [size]
  rw [e] at h1 h2
  refine ⟨h1, h2.trans ⟨fun h => h.1, fun h => ⟨h, fun x _ => rfl⟩⟩⟩
theorem flD_has (ls : List Fl) (s : List UInt8) : has (flD ls) (.string s) = ls.any (fun x => decide (nmF x = s)) := by
  unfold flD
  rw [ws_has ls (.map []) s isMap_empty]
  have : has (.map [] : DataW Unit) (.string s) = false := rfl
  rw [this, Bool.false_or]
theorem flD_txt {ls : List Fl} (h : Apart ls) {x : Fl} (hx : x ∈ ls) : txtD (flD ls) (nmF x) = x.t := by
  have := ws_at ls (.map []) (.lit (.string [])) isMap_empty h x hx
  unfold txtD flD
  rw [this]
theorem keys_mem {D : DataW Unit} {w : World} {bm n : Nat} (h : IsWs w bm n D) (k : List UInt8) : k ∈ keysD D ↔ has D (.string k) = true := by
  unfold keysD
  rw [List.mem_mergeSort]
  obtain ⟨es, rfl, hko⟩ := World.ownsMap.keysOf h
  have key : ∀ p ∈ es, ∃ x, p.1 = .string x := by
    intro p hp
    obtain ⟨v, hv⟩ := hko p hp
    obtain ⟨y, _, hy, _⟩ := Maps.keyOf_str Tryd.underlying9 hv
    exact ⟨y, hy⟩
  rw [has_eq, List.any_eq_true]
  show k ∈ es.map (fun p => strOf p.1) ↔ _
  rw [List.mem_map]
  constructor
  · rintro ⟨p, hp, rfl⟩
    obtain ⟨x, hx⟩ := key p hp
    refine ⟨p, hp, ?_⟩
    rw [hx]; show (x == x) = true; exact beq_self_eq_true x
  · rintro ⟨p, hp, hs⟩
    have := WideAt.sameKey_eq hs
    exact ⟨p, hp, by rw [this]; rfl⟩
/-- A name and its text are right. -/
def rgW (D : DataW Unit) (k : List UInt8) : Bool := Ox.oneB 65 90 (strB k) && ftB (txtD D k)
theorem strB_nm (x : Fl) : strB (nmF x) = x.n := rfl
theorem mem_getD {ls : List Fl} {i : Nat} (h : i < ls.length) : ls.getD i Fl.dummy ∈ ls := by
  have e : ls.getD i Fl.dummy = ls[i] := by simp [List.getD, h]
  rw [e]; exact List.getElem_mem h
theorem apart_at {ls : List Fl} (h : Apart ls) {i j : Nat} (hij : i < j) (hj : j < ls.length) : nmF (ls.getD i Fl.dummy) ≠ nmF (ls.getD j Fl.dummy) := by
  have h1 := List.pairwise_iff_getElem.1 h i j (by omega) hj hij
  have e1 : ls.getD i Fl.dummy = ls[i] := by simp [List.getD, show i < ls.length by omega]
  have e2 : ls.getD j Fl.dummy = ls[j] := by simp [List.getD, hj]
  rw [e1, e2]; exact h1
theorem filesB_twice {ls : List Fl} (h : ¬ Apart ls) : filesB ls = false := by
  rcases hc : filesB ls with _ | _
  · rfl
  · exfalso
    apply h
    unfold filesB at hc
    simp only [Bool.and_eq_true, List.all_eq_true, List.mem_range] at hc
    refine List.pairwise_iff_getElem.2 (fun i j hi hj hij e => ?_)
    have h1 := hc.2 j hj
    have ei : ls.getD i Fl.dummy = ls[i] := by simp [List.getD, hi]
    have ej : ls.getD j Fl.dummy = ls[j] := by simp [List.getD, hj]
    have e2 : (ls.getD i Fl.dummy).n.toList = ls[j].n.toList := nm_eq.2 (by rw [ei]; exact e)
    rw [okF_no2 ej hij e2] at h1
    cases h1
theorem filesB_bad {ls : List Fl} {w : World} {bm n : Nat} (h : IsWs w bm n (flD ls)) (ha : Apart ls) {k : List UInt8} (hk : k ∈ keysD (flD ls)) (hr : rgW (flD ls) k = false) : filesB ls = false := by
  rw [keys_mem h, flD_has, List.any_eq_true] at hk
  obtain ⟨x, hx, he⟩ := hk
  have he := of_decide_eq_true he
  subst he
  unfold rgW at hr
  rw [strB_nm, flD_txt ha hx] at hr
  obtain ⟨i, hi, rfl⟩ := List.getElem_of_mem hx
  refine filesB_no hi ?_
  have e : ls.getD i Fl.dummy = ls[i] := by simp [List.getD, hi]
  rcases hb : Ox.oneB 65 90 ls[i].n with _ | _
  · exact okF_no1 e hb
  · rw [hb, Bool.true_and] at hr
    rw [okF_is e hb (fun j hj e2 => apart_at ha hj hi (by rw [e]; exact nm_eq.1 e2))]
    exact hr
theorem filesB_good {ls : List Fl} {w : World} {bm n : Nat} (h : IsWs w bm n (flD ls)) (ha : Apart ls) (hl : ls.length ≤ 4) (hr : ∀ k ∈ keysD (flD ls), rgW (flD ls) k = true) : filesB ls = true := by
  rw [filesB_is (fun i hi => ?_)]
  · exact decide_eq_true hl
  · have hm := mem_getD hi
    obtain ⟨x, hx⟩ : ∃ x, ls.getD i Fl.dummy = x := ⟨_, rfl⟩
    rw [hx] at hm
    have h1 := hr (nmF x) ((keys_mem h _).2 (by rw [flD_has, List.any_eq_true]; exact ⟨x, hm, decide_eq_true rfl⟩))
    unfold rgW at h1
    rw [strB_nm, flD_txt ha hm, Bool.and_eq_true] at h1
    rw [okF_is hx h1.1 (fun j hj e2 => apart_at ha hj hi (by rw [hx]; exact nm_eq.1 e2))]
    exact h1.2
end Go.Proofs.YtpihopmgckdigaaDoor
