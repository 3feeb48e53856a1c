/-
  The plain parser of expressions by forms: every form read one byte after the other is what the plain parser reads.
-/
import Derived.Test.YtpaefcdchaemfaaWt
namespace Go.Proofs.Ytpaefcdchaemfaa
open Go.RowKit Go.Proofs.Ytpaefcdchaemfaa.Ox
set_option linter.unusedVariables false
set_option linter.unusedSimpArgs false

theorem fk_begin (c : Int) : fk ⟨#[]⟩ c = (if 92 = c then 3 else (if 40 = c then 4 else (if 40 = c then 5 else (if 123 = c then 6 else (if 63 = c then 7 else (if 40 = c then 8 else (if 94 = c then 9 else (if 95 = c then 10 else 0)))))))) := by
  have h1 : fkB ⟨#[]⟩ c 1 = false := rfl
  have h2 : fkB ⟨#[]⟩ c 2 = false := rfl
  have h3 : fkB ⟨#[]⟩ c 3 = decide (92 = c) := rfl
  have h4 : fkB ⟨#[]⟩ c 4 = decide (40 = c) := rfl
  have h5 : fkB ⟨#[]⟩ c 5 = decide (40 = c) := rfl
  have h6 : fkB ⟨#[]⟩ c 6 = decide (123 = c) := rfl
  have h7 : fkB ⟨#[]⟩ c 7 = decide (63 = c) := rfl
  have h8 : fkB ⟨#[]⟩ c 8 = decide (40 = c) := rfl
  have h9 : fkB ⟨#[]⟩ c 9 = decide (94 = c) := rfl
  have h10 : fkB ⟨#[]⟩ c 10 = decide (95 = c) := rfl
  simp only [fk, fkF, Int.reduceAdd, h1, h2, h3, h4, h5, h6, h7, h8, h9, h10, Bool.false_eq_true, if_false, decide_eq_true_eq]
theorem fk_at0 (c : Int) : fk ⟨#[92, 120]⟩ c = (if 46 = c then 3 else 0) := by
  have h1 : fkB ⟨#[92, 120]⟩ c 1 = false := rfl
  have h2 : fkB ⟨#[92, 120]⟩ c 2 = false := rfl
  have h3 : fkB ⟨#[92, 120]⟩ c 3 = decide (46 = c) := rfl
  have h4 : fkB ⟨#[92, 120]⟩ c 4 = false := rfl
  have h5 : fkB ⟨#[92, 120]⟩ c 5 = false := rfl
  have h6 : fkB ⟨#[92, 120]⟩ c 6 = false := rfl
  have h7 : fkB ⟨#[92, 120]⟩ c 7 = false := rfl
  have h8 : fkB ⟨#[92, 120]⟩ c 8 = false := rfl
  have h9 : fkB ⟨#[92, 120]⟩ c 9 = false := rfl
  have h10 : fkB ⟨#[92, 120]⟩ c 10 = false := rfl
  simp only [fk, fkF, Int.reduceAdd, h1, h2, h3, h4, h5, h6, h7, h8, h9, h10, Bool.false_eq_true, if_false, decide_eq_true_eq]
theorem fk_at1 (c : Int) : fk ⟨#[40, 69]⟩ c = (if 32 = c then 4 else (if 43 = c then 5 else (if 44 = c then 8 else 0))) := by
  have h1 : fkB ⟨#[40, 69]⟩ c 1 = false := rfl
  have h2 : fkB ⟨#[40, 69]⟩ c 2 = false := rfl
  have h3 : fkB ⟨#[40, 69]⟩ c 3 = false := rfl
  have h4 : fkB ⟨#[40, 69]⟩ c 4 = decide (32 = c) := rfl
  have h5 : fkB ⟨#[40, 69]⟩ c 5 = decide (43 = c) := rfl
  have h6 : fkB ⟨#[40, 69]⟩ c 6 = false := rfl
  have h7 : fkB ⟨#[40, 69]⟩ c 7 = false := rfl
  have h8 : fkB ⟨#[40, 69]⟩ c 8 = decide (44 = c) := rfl
  have h9 : fkB ⟨#[40, 69]⟩ c 9 = false := rfl
  have h10 : fkB ⟨#[40, 69]⟩ c 10 = false := rfl
  simp only [fk, fkF, Int.reduceAdd, h1, h2, h3, h4, h5, h6, h7, h8, h9, h10, Bool.false_eq_true, if_false, decide_eq_true_eq]
theorem fk_at2 (c : Int) : fk ⟨#[40, 69, 32, 69]⟩ c = (if 41 = c then 4 else 0) := by
  have h1 : fkB ⟨#[40, 69, 32, 69]⟩ c 1 = false := rfl
  have h2 : fkB ⟨#[40, 69, 32, 69]⟩ c 2 = false := rfl
  have h3 : fkB ⟨#[40, 69, 32, 69]⟩ c 3 = false := rfl
  have h4 : fkB ⟨#[40, 69, 32, 69]⟩ c 4 = decide (41 = c) := rfl
  have h5 : fkB ⟨#[40, 69, 32, 69]⟩ c 5 = false := rfl
  have h6 : fkB ⟨#[40, 69, 32, 69]⟩ c 6 = false := rfl
  have h7 : fkB ⟨#[40, 69, 32, 69]⟩ c 7 = false := rfl
  have h8 : fkB ⟨#[40, 69, 32, 69]⟩ c 8 = false := rfl
  have h9 : fkB ⟨#[40, 69, 32, 69]⟩ c 9 = false := rfl
  have h10 : fkB ⟨#[40, 69, 32, 69]⟩ c 10 = false := rfl
  simp only [fk, fkF, Int.reduceAdd, h1, h2, h3, h4, h5, h6, h7, h8, h9, h10, Bool.false_eq_true, if_false, decide_eq_true_eq]
theorem fk_at3 (c : Int) : fk ⟨#[40, 69, 43, 69]⟩ c = (if 41 = c then 5 else 0) := by
  have h1 : fkB ⟨#[40, 69, 43, 69]⟩ c 1 = false := rfl
  have h2 : fkB ⟨#[40, 69, 43, 69]⟩ c 2 = false := rfl
  have h3 : fkB ⟨#[40, 69, 43, 69]⟩ c 3 = false := rfl
  have h4 : fkB ⟨#[40, 69, 43, 69]⟩ c 4 = false := rfl
  have h5 : fkB ⟨#[40, 69, 43, 69]⟩ c 5 = decide (41 = c) := rfl
  have h6 : fkB ⟨#[40, 69, 43, 69]⟩ c 6 = false := rfl
  have h7 : fkB ⟨#[40, 69, 43, 69]⟩ c 7 = false := rfl
  have h8 : fkB ⟨#[40, 69, 43, 69]⟩ c 8 = false := rfl
  have h9 : fkB ⟨#[40, 69, 43, 69]⟩ c 9 = false := rfl
  have h10 : fkB ⟨#[40, 69, 43, 69]⟩ c 10 = false := rfl
  simp only [fk, fkF, Int.reduceAdd, h1, h2, h3, h4, h5, h6, h7, h8, h9, h10, Bool.false_eq_true, if_false, decide_eq_true_eq]
theorem fk_at4 (c : Int) : fk ⟨#[123, 120]⟩ c = (if 61 = c then 6 else 0) := by
  have h1 : fkB ⟨#[123, 120]⟩ c 1 = false := rfl
  have h2 : fkB ⟨#[123, 120]⟩ c 2 = false := rfl
  have h3 : fkB ⟨#[123, 120]⟩ c 3 = false := rfl
  have h4 : fkB ⟨#[123, 120]⟩ c 4 = false := rfl
  have h5 : fkB ⟨#[123, 120]⟩ c 5 = false := rfl
  have h6 : fkB ⟨#[123, 120]⟩ c 6 = decide (61 = c) := rfl
  have h7 : fkB ⟨#[123, 120]⟩ c 7 = false := rfl
  have h8 : fkB ⟨#[123, 120]⟩ c 8 = false := rfl
  have h9 : fkB ⟨#[123, 120]⟩ c 9 = false := rfl
  have h10 : fkB ⟨#[123, 120]⟩ c 10 = false := rfl
  simp only [fk, fkF, Int.reduceAdd, h1, h2, h3, h4, h5, h6, h7, h8, h9, h10, Bool.false_eq_true, if_false, decide_eq_true_eq]
theorem fk_at5 (c : Int) : fk ⟨#[123, 120, 61, 69]⟩ c = (if 59 = c then 6 else 0) := by
  have h1 : fkB ⟨#[123, 120, 61, 69]⟩ c 1 = false := rfl
  have h2 : fkB ⟨#[123, 120, 61, 69]⟩ c 2 = false := rfl
  have h3 : fkB ⟨#[123, 120, 61, 69]⟩ c 3 = false := rfl
  have h4 : fkB ⟨#[123, 120, 61, 69]⟩ c 4 = false := rfl
  have h5 : fkB ⟨#[123, 120, 61, 69]⟩ c 5 = false := rfl
  have h6 : fkB ⟨#[123, 120, 61, 69]⟩ c 6 = decide (59 = c) := rfl
  have h7 : fkB ⟨#[123, 120, 61, 69]⟩ c 7 = false := rfl
  have h8 : fkB ⟨#[123, 120, 61, 69]⟩ c 8 = false := rfl
  have h9 : fkB ⟨#[123, 120, 61, 69]⟩ c 9 = false := rfl
  have h10 : fkB ⟨#[123, 120, 61, 69]⟩ c 10 = false := rfl
  simp only [fk, fkF, Int.reduceAdd, h1, h2, h3, h4, h5, h6, h7, h8, h9, h10, Bool.false_eq_true, if_false, decide_eq_true_eq]
theorem fk_at6 (c : Int) : fk ⟨#[123, 120, 61, 69, 59, 69]⟩ c = (if 125 = c then 6 else 0) := by
  have h1 : fkB ⟨#[123, 120, 61, 69, 59, 69]⟩ c 1 = false := rfl
  have h2 : fkB ⟨#[123, 120, 61, 69, 59, 69]⟩ c 2 = false := rfl
  have h3 : fkB ⟨#[123, 120, 61, 69, 59, 69]⟩ c 3 = false := rfl
  have h4 : fkB ⟨#[123, 120, 61, 69, 59, 69]⟩ c 4 = false := rfl
  have h5 : fkB ⟨#[123, 120, 61, 69, 59, 69]⟩ c 5 = false := rfl
  have h6 : fkB ⟨#[123, 120, 61, 69, 59, 69]⟩ c 6 = decide (125 = c) := rfl
  have h7 : fkB ⟨#[123, 120, 61, 69, 59, 69]⟩ c 7 = false := rfl
  have h8 : fkB ⟨#[123, 120, 61, 69, 59, 69]⟩ c 8 = false := rfl
  have h9 : fkB ⟨#[123, 120, 61, 69, 59, 69]⟩ c 9 = false := rfl
  have h10 : fkB ⟨#[123, 120, 61, 69, 59, 69]⟩ c 10 = false := rfl
  simp only [fk, fkF, Int.reduceAdd, h1, h2, h3, h4, h5, h6, h7, h8, h9, h10, Bool.false_eq_true, if_false, decide_eq_true_eq]
theorem fk_at7 (c : Int) : fk ⟨#[63]⟩ c = (if 60 = c then 7 else 0) := by
  have h1 : fkB ⟨#[63]⟩ c 1 = false := rfl
  have h2 : fkB ⟨#[63]⟩ c 2 = false := rfl
  have h3 : fkB ⟨#[63]⟩ c 3 = false := rfl
  have h4 : fkB ⟨#[63]⟩ c 4 = false := rfl
  have h5 : fkB ⟨#[63]⟩ c 5 = false := rfl
  have h6 : fkB ⟨#[63]⟩ c 6 = false := rfl
  have h7 : fkB ⟨#[63]⟩ c 7 = decide (60 = c) := rfl
  have h8 : fkB ⟨#[63]⟩ c 8 = false := rfl
  have h9 : fkB ⟨#[63]⟩ c 9 = false := rfl
  have h10 : fkB ⟨#[63]⟩ c 10 = false := rfl
  simp only [fk, fkF, Int.reduceAdd, h1, h2, h3, h4, h5, h6, h7, h8, h9, h10, Bool.false_eq_true, if_false, decide_eq_true_eq]
theorem fk_at8 (c : Int) : fk ⟨#[63, 60, 69]⟩ c = (if 44 = c then 7 else 0) := by
  have h1 : fkB ⟨#[63, 60, 69]⟩ c 1 = false := rfl
  have h2 : fkB ⟨#[63, 60, 69]⟩ c 2 = false := rfl
  have h3 : fkB ⟨#[63, 60, 69]⟩ c 3 = false := rfl
  have h4 : fkB ⟨#[63, 60, 69]⟩ c 4 = false := rfl
  have h5 : fkB ⟨#[63, 60, 69]⟩ c 5 = false := rfl
  have h6 : fkB ⟨#[63, 60, 69]⟩ c 6 = false := rfl
  have h7 : fkB ⟨#[63, 60, 69]⟩ c 7 = decide (44 = c) := rfl
  have h8 : fkB ⟨#[63, 60, 69]⟩ c 8 = false := rfl
  have h9 : fkB ⟨#[63, 60, 69]⟩ c 9 = false := rfl
  have h10 : fkB ⟨#[63, 60, 69]⟩ c 10 = false := rfl
  simp only [fk, fkF, Int.reduceAdd, h1, h2, h3, h4, h5, h6, h7, h8, h9, h10, Bool.false_eq_true, if_false, decide_eq_true_eq]
theorem fk_at9 (c : Int) : fk ⟨#[63, 60, 69, 44, 69]⟩ c = (if 44 = c then 7 else 0) := by
  have h1 : fkB ⟨#[63, 60, 69, 44, 69]⟩ c 1 = false := rfl
  have h2 : fkB ⟨#[63, 60, 69, 44, 69]⟩ c 2 = false := rfl
  have h3 : fkB ⟨#[63, 60, 69, 44, 69]⟩ c 3 = false := rfl
  have h4 : fkB ⟨#[63, 60, 69, 44, 69]⟩ c 4 = false := rfl
  have h5 : fkB ⟨#[63, 60, 69, 44, 69]⟩ c 5 = false := rfl
  have h6 : fkB ⟨#[63, 60, 69, 44, 69]⟩ c 6 = false := rfl
  have h7 : fkB ⟨#[63, 60, 69, 44, 69]⟩ c 7 = decide (44 = c) := rfl
  have h8 : fkB ⟨#[63, 60, 69, 44, 69]⟩ c 8 = false := rfl
  have h9 : fkB ⟨#[63, 60, 69, 44, 69]⟩ c 9 = false := rfl
  have h10 : fkB ⟨#[63, 60, 69, 44, 69]⟩ c 10 = false := rfl
  simp only [fk, fkF, Int.reduceAdd, h1, h2, h3, h4, h5, h6, h7, h8, h9, h10, Bool.false_eq_true, if_false, decide_eq_true_eq]
theorem fk_at10 (c : Int) : fk ⟨#[63, 60, 69, 44, 69, 44, 69]⟩ c = (if 62 = c then 7 else 0) := by
  have h1 : fkB ⟨#[63, 60, 69, 44, 69, 44, 69]⟩ c 1 = false := rfl
  have h2 : fkB ⟨#[63, 60, 69, 44, 69, 44, 69]⟩ c 2 = false := rfl
  have h3 : fkB ⟨#[63, 60, 69, 44, 69, 44, 69]⟩ c 3 = false := rfl
  have h4 : fkB ⟨#[63, 60, 69, 44, 69, 44, 69]⟩ c 4 = false := rfl
  have h5 : fkB ⟨#[63, 60, 69, 44, 69, 44, 69]⟩ c 5 = false := rfl
  have h6 : fkB ⟨#[63, 60, 69, 44, 69, 44, 69]⟩ c 6 = false := rfl
  have h7 : fkB ⟨#[63, 60, 69, 44, 69, 44, 69]⟩ c 7 = decide (62 = c) := rfl
  have h8 : fkB ⟨#[63, 60, 69, 44, 69, 44, 69]⟩ c 8 = false := rfl
  have h9 : fkB ⟨#[63, 60, 69, 44, 69, 44, 69]⟩ c 9 = false := rfl
  have h10 : fkB ⟨#[63, 60, 69, 44, 69, 44, 69]⟩ c 10 = false := rfl
  simp only [fk, fkF, Int.reduceAdd, h1, h2, h3, h4, h5, h6, h7, h8, h9, h10, Bool.false_eq_true, if_false, decide_eq_true_eq]
theorem fk_at11 (c : Int) : fk ⟨#[40, 69, 44, 69]⟩ c = (if 41 = c then 8 else 0) := by
  have h1 : fkB ⟨#[40, 69, 44, 69]⟩ c 1 = false := rfl
  have h2 : fkB ⟨#[40, 69, 44, 69]⟩ c 2 = false := rfl
  have h3 : fkB ⟨#[40, 69, 44, 69]⟩ c 3 = false := rfl
  have h4 : fkB ⟨#[40, 69, 44, 69]⟩ c 4 = false := rfl
  have h5 : fkB ⟨#[40, 69, 44, 69]⟩ c 5 = false := rfl
  have h6 : fkB ⟨#[40, 69, 44, 69]⟩ c 6 = false := rfl
  have h7 : fkB ⟨#[40, 69, 44, 69]⟩ c 7 = false := rfl
  have h8 : fkB ⟨#[40, 69, 44, 69]⟩ c 8 = decide (41 = c) := rfl
  have h9 : fkB ⟨#[40, 69, 44, 69]⟩ c 9 = false := rfl
  have h10 : fkB ⟨#[40, 69, 44, 69]⟩ c 10 = false := rfl
  simp only [fk, fkF, Int.reduceAdd, h1, h2, h3, h4, h5, h6, h7, h8, h9, h10, Bool.false_eq_true, if_false, decide_eq_true_eq]
theorem sg_3_2 {f : Nat → Rs} {s : ByteArray} {r : Nat} {m : ByteArray} {xs : List Ex} {n : Nat} : rf0 f s (r + 1) 3 2 m xs n = if by8 s n = 46 then rf0 f s r 3 3 m xs (n + 1) else none :=
  rf0_s 46 (by decide) (by decide) (by decide) (fun c => (show fk ((formX 3).extract 0 2) c = fk ⟨#[92, 120]⟩ c from rfl).trans ((fk_at0 c).trans (by simp only [eq_comm])))
theorem sg_4_4 {f : Nat → Rs} {s : ByteArray} {r : Nat} {m : ByteArray} {xs : List Ex} {n : Nat} : rf0 f s (r + 1) 4 4 m xs n = if by8 s n = 41 then rf0 f s r 4 5 m xs (n + 1) else none :=
  rf0_s 41 (by decide) (by decide) (by decide) (fun c => (show fk ((formX 4).extract 0 4) c = fk ⟨#[40, 69, 32, 69]⟩ c from rfl).trans ((fk_at2 c).trans (by simp only [eq_comm])))
theorem sg_5_4 {f : Nat → Rs} {s : ByteArray} {r : Nat} {m : ByteArray} {xs : List Ex} {n : Nat} : rf0 f s (r + 1) 5 4 m xs n = if by8 s n = 41 then rf0 f s r 5 5 m xs (n + 1) else none :=
  rf0_s 41 (by decide) (by decide) (by decide) (fun c => (show fk ((formX 5).extract 0 4) c = fk ⟨#[40, 69, 43, 69]⟩ c from rfl).trans ((fk_at3 c).trans (by simp only [eq_comm])))
theorem sg_6_2 {f : Nat → Rs} {s : ByteArray} {r : Nat} {m : ByteArray} {xs : List Ex} {n : Nat} : rf0 f s (r + 1) 6 2 m xs n = if by8 s n = 61 then rf0 f s r 6 3 m xs (n + 1) else none :=
  rf0_s 61 (by decide) (by decide) (by decide) (fun c => (show fk ((formX 6).extract 0 2) c = fk ⟨#[123, 120]⟩ c from rfl).trans ((fk_at4 c).trans (by simp only [eq_comm])))
theorem sg_6_4 {f : Nat → Rs} {s : ByteArray} {r : Nat} {m : ByteArray} {xs : List Ex} {n : Nat} : rf0 f s (r + 1) 6 4 m xs n = if by8 s n = 59 then rf0 f s r 6 5 m xs (n + 1) else none :=
  rf0_s 59 (by decide) (by decide) (by decide) (fun c => (show fk ((formX 6).extract 0 4) c = fk ⟨#[123, 120, 61, 69]⟩ c from rfl).trans ((fk_at5 c).trans (by simp only [eq_comm])))
theorem sg_6_6 {f : Nat → Rs} {s : ByteArray} {r : Nat} {m : ByteArray} {xs : List Ex} {n : Nat} : rf0 f s (r + 1) 6 6 m xs n = if by8 s n = 125 then rf0 f s r 6 7 m xs (n + 1) else none :=
  rf0_s 125 (by decide) (by decide) (by decide) (fun c => (show fk ((formX 6).extract 0 6) c = fk ⟨#[123, 120, 61, 69, 59, 69]⟩ c from rfl).trans ((fk_at6 c).trans (by simp only [eq_comm])))
theorem sg_7_1 {f : Nat → Rs} {s : ByteArray} {r : Nat} {m : ByteArray} {xs : List Ex} {n : Nat} : rf0 f s (r + 1) 7 1 m xs n = if by8 s n = 60 then rf0 f s r 7 2 m xs (n + 1) else none :=
  rf0_s 60 (by decide) (by decide) (by decide) (fun c => (show fk ((formX 7).extract 0 1) c = fk ⟨#[63]⟩ c from rfl).trans ((fk_at7 c).trans (by simp only [eq_comm])))
theorem sg_7_3 {f : Nat → Rs} {s : ByteArray} {r : Nat} {m : ByteArray} {xs : List Ex} {n : Nat} : rf0 f s (r + 1) 7 3 m xs n = if by8 s n = 44 then rf0 f s r 7 4 m xs (n + 1) else none :=
  rf0_s 44 (by decide) (by decide) (by decide) (fun c => (show fk ((formX 7).extract 0 3) c = fk ⟨#[63, 60, 69]⟩ c from rfl).trans ((fk_at8 c).trans (by simp only [eq_comm])))
theorem sg_7_5 {f : Nat → Rs} {s : ByteArray} {r : Nat} {m : ByteArray} {xs : List Ex} {n : Nat} : rf0 f s (r + 1) 7 5 m xs n = if by8 s n = 44 then rf0 f s r 7 6 m xs (n + 1) else none :=
  rf0_s 44 (by decide) (by decide) (by decide) (fun c => (show fk ((formX 7).extract 0 5) c = fk ⟨#[63, 60, 69, 44, 69]⟩ c from rfl).trans ((fk_at9 c).trans (by simp only [eq_comm])))
theorem sg_7_7 {f : Nat → Rs} {s : ByteArray} {r : Nat} {m : ByteArray} {xs : List Ex} {n : Nat} : rf0 f s (r + 1) 7 7 m xs n = if by8 s n = 62 then rf0 f s r 7 8 m xs (n + 1) else none :=
  rf0_s 62 (by decide) (by decide) (by decide) (fun c => (show fk ((formX 7).extract 0 7) c = fk ⟨#[63, 60, 69, 44, 69, 44, 69]⟩ c from rfl).trans ((fk_at10 c).trans (by simp only [eq_comm])))
theorem sg_8_4 {f : Nat → Rs} {s : ByteArray} {r : Nat} {m : ByteArray} {xs : List Ex} {n : Nat} : rf0 f s (r + 1) 8 4 m xs n = if by8 s n = 41 then rf0 f s r 8 5 m xs (n + 1) else none :=
  rf0_s 41 (by decide) (by decide) (by decide) (fun c => (show fk ((formX 8).extract 0 4) c = fk ⟨#[40, 69, 44, 69]⟩ c from rfl).trans ((fk_at11 c).trans (by simp only [eq_comm])))
theorem sg_3_1 {f : Nat → Rs} {s : ByteArray} {r : Nat} {m : ByteArray} {xs : List Ex} {n : Nat} : rf0 f s (r + 1) 3 1 m xs n = if sml (by8 s n) = true then rf0 f s r 3 2 (s.extract n (n + 1)) xs (n + 1) else none := rf0_x (by decide)
theorem sg_3_3 {f : Nat → Rs} {s : ByteArray} {r : Nat} {m : ByteArray} {xs : List Ex} {n : Nat} : rf0 f s (r + 1) 3 3 m xs n = match f n with
      | .no _ => none
      | .ok x n' => rf0 f s r 3 4 m (xs ++ [x]) n' := rf0_E (by decide)
theorem sg_4_1 {f : Nat → Rs} {s : ByteArray} {r : Nat} {m : ByteArray} {xs : List Ex} {n : Nat} : rf0 f s (r + 1) 4 1 m xs n = match f n with
      | .no _ => none
      | .ok x n' => rf0 f s r 4 2 m (xs ++ [x]) n' := rf0_E (by decide)
theorem sg_4_3 {f : Nat → Rs} {s : ByteArray} {r : Nat} {m : ByteArray} {xs : List Ex} {n : Nat} : rf0 f s (r + 1) 4 3 m xs n = match f n with
      | .no _ => none
      | .ok x n' => rf0 f s r 4 4 m (xs ++ [x]) n' := rf0_E (by decide)
theorem sg_5_1 {f : Nat → Rs} {s : ByteArray} {r : Nat} {m : ByteArray} {xs : List Ex} {n : Nat} : rf0 f s (r + 1) 5 1 m xs n = match f n with
      | .no _ => none
      | .ok x n' => rf0 f s r 5 2 m (xs ++ [x]) n' := rf0_E (by decide)
theorem sg_5_3 {f : Nat → Rs} {s : ByteArray} {r : Nat} {m : ByteArray} {xs : List Ex} {n : Nat} : rf0 f s (r + 1) 5 3 m xs n = match f n with
      | .no _ => none
      | .ok x n' => rf0 f s r 5 4 m (xs ++ [x]) n' := rf0_E (by decide)
theorem sg_6_1 {f : Nat → Rs} {s : ByteArray} {r : Nat} {m : ByteArray} {xs : List Ex} {n : Nat} : rf0 f s (r + 1) 6 1 m xs n = if sml (by8 s n) = true then rf0 f s r 6 2 (s.extract n (n + 1)) xs (n + 1) else none := rf0_x (by decide)
theorem sg_6_3 {f : Nat → Rs} {s : ByteArray} {r : Nat} {m : ByteArray} {xs : List Ex} {n : Nat} : rf0 f s (r + 1) 6 3 m xs n = match f n with
      | .no _ => none
      | .ok x n' => rf0 f s r 6 4 m (xs ++ [x]) n' := rf0_E (by decide)
theorem sg_6_5 {f : Nat → Rs} {s : ByteArray} {r : Nat} {m : ByteArray} {xs : List Ex} {n : Nat} : rf0 f s (r + 1) 6 5 m xs n = match f n with
      | .no _ => none
      | .ok x n' => rf0 f s r 6 6 m (xs ++ [x]) n' := rf0_E (by decide)
theorem sg_7_2 {f : Nat → Rs} {s : ByteArray} {r : Nat} {m : ByteArray} {xs : List Ex} {n : Nat} : rf0 f s (r + 1) 7 2 m xs n = match f n with
      | .no _ => none
      | .ok x n' => rf0 f s r 7 3 m (xs ++ [x]) n' := rf0_E (by decide)
theorem sg_7_4 {f : Nat → Rs} {s : ByteArray} {r : Nat} {m : ByteArray} {xs : List Ex} {n : Nat} : rf0 f s (r + 1) 7 4 m xs n = match f n with
      | .no _ => none
      | .ok x n' => rf0 f s r 7 5 m (xs ++ [x]) n' := rf0_E (by decide)
theorem sg_7_6 {f : Nat → Rs} {s : ByteArray} {r : Nat} {m : ByteArray} {xs : List Ex} {n : Nat} : rf0 f s (r + 1) 7 6 m xs n = match f n with
      | .no _ => none
      | .ok x n' => rf0 f s r 7 7 m (xs ++ [x]) n' := rf0_E (by decide)
theorem sg_8_1 {f : Nat → Rs} {s : ByteArray} {r : Nat} {m : ByteArray} {xs : List Ex} {n : Nat} : rf0 f s (r + 1) 8 1 m xs n = match f n with
      | .no _ => none
      | .ok x n' => rf0 f s r 8 2 m (xs ++ [x]) n' := rf0_E (by decide)
theorem sg_8_3 {f : Nat → Rs} {s : ByteArray} {r : Nat} {m : ByteArray} {xs : List Ex} {n : Nat} : rf0 f s (r + 1) 8 3 m xs n = match f n with
      | .no _ => none
      | .ok x n' => rf0 f s r 8 4 m (xs ++ [x]) n' := rf0_E (by decide)
theorem sg_9_1 {f : Nat → Rs} {s : ByteArray} {r : Nat} {m : ByteArray} {xs : List Ex} {n : Nat} : rf0 f s (r + 1) 9 1 m xs n = match f n with
      | .no _ => none
      | .ok x n' => rf0 f s r 9 2 m (xs ++ [x]) n' := rf0_E (by decide)
theorem sg_10_1 {f : Nat → Rs} {s : ByteArray} {r : Nat} {m : ByteArray} {xs : List Ex} {n : Nat} : rf0 f s (r + 1) 10 1 m xs n = match f n with
      | .no _ => none
      | .ok x n' => rf0 f s r 10 2 m (xs ++ [x]) n' := rf0_E (by decide)
theorem sg_par {f : Nat → Rs} {s : ByteArray} {r : Nat} {m : ByteArray} {xs : List Ex} {n : Nat} : rf0 f s (r + 1) 4 2 m xs n = if knd (by8 s n) ≠ 0 then rf0 f s r (knd (by8 s n)) 3 m xs (n + 1) else none := by
  rw [rf0_c (by decide) (by decide)]
  have e : ∀ c, fk ((formX 4).extract 0 2) c = knd c := fun c => (show fk ((formX 4).extract 0 2) c = fk ⟨#[40, 69]⟩ c from rfl).trans ((fk_at1 c).trans (by unfold knd; simp only [eq_comm]))
  rw [e]
/-- The tree of a form. -/
def frm (q : Int × ByteArray × List Ex × Nat) : Ex × Nat := (.node q.1 0 e0 q.2.1 q.2.2.1, q.2.2.2)
def Rs.opt : Rs → Option (Ex × Nat)
  | .ok x n => some (x, n)
  | .no _ => none
theorem Rs.opt_ok {x : Ex} {n : Nat} : (Rs.ok x n).opt = some (x, n) := rfl
theorem Rs.opt_no {n : Nat} : (Rs.no n).opt = none := rfl
theorem rf0_0 {f : Nat → Rs} {s : ByteArray} {k : Int} {j : Nat} {m : ByteArray} {xs : List Ex} {n : Nat} : rf0 f s 0 k j m xs n = some (k, m, xs, n) := rfl
theorem ser_nilx {f : Nat → Rs} {s : ByteArray} {i : Nat} : ser f s [] i = .ok [] i := rfl
theorem fo_par {f : Nat → Rs} {s : ByteArray} {n : Nat} : (pxR f s n).opt = (rf0 f s 4 4 1 e0 [] n).map frm := by
  unfold pxR
  rw [sg_4_1]
  cases h : f n with
  | no k => rfl
  | ok a n1 =>
    simp only
    rw [sg_par]
    by_cases hk : knd (by8 s n1) = 0
    · rw [if_pos hk, if_neg (by simp [hk])]; rfl
    rw [if_neg hk, if_pos hk]
    have e : knd (by8 s n1) = 4 ∨ knd (by8 s n1) = 5 ∨ knd (by8 s n1) = 8 := by
      unfold knd at hk ⊢
      by_cases h1 : by8 s n1 = 32
      · left; rw [if_pos h1]
      by_cases h2 : by8 s n1 = 43
      · right; left; rw [if_neg h1, if_pos h2]
      by_cases h3 : by8 s n1 = 44
      · right; right; rw [if_neg h1, if_neg h2, if_pos h3]
      rw [if_neg h1, if_neg h2, if_neg h3] at hk; exact absurd rfl hk
    have key : ∀ k : Int, (k = 4 ∨ k = 5 ∨ k = 8) → (match ser f s [41] (n1 + 1) with
      | .no k => Rs.no k
      | .ok xs m => .ok (.node k 0 e0 e0 (a :: xs)) m).opt = (rf0 f s 2 k 3 e0 ([] ++ [a]) (n1 + 1)).map frm := by
      intro k hk
      unfold ser
      rcases hk with rfl | rfl | rfl
      · rw [sg_4_3]; cases h2 : f (n1 + 1) with
        | no k => rfl
        | ok b n2 => simp only; rw [sg_4_4]; by_cases h3 : by8 s n2 = 41; · rw [if_pos h3, if_pos h3]; rfl
                     rw [if_neg h3, if_neg h3]; rfl
      · rw [sg_5_3]; cases h2 : f (n1 + 1) with
        | no k => rfl
        | ok b n2 => simp only; rw [sg_5_4]; by_cases h3 : by8 s n2 = 41; · rw [if_pos h3, if_pos h3]; rfl
                     rw [if_neg h3, if_neg h3]; rfl
      · rw [sg_8_3]; cases h2 : f (n1 + 1) with
        | no k => rfl
        | ok b n2 => simp only; rw [sg_8_4]; by_cases h3 : by8 s n2 = 41; · rw [if_pos h3, if_pos h3]; rfl
                     rw [if_neg h3, if_neg h3]; rfl
    exact key _ e
theorem fo_fun {f : Nat → Rs} {s : ByteArray} {n : Nat} : (pxF f s n).opt = (rf0 f s 3 3 1 e0 [] n).map frm := by
  unfold pxF
  rw [sg_3_1]
  by_cases h1 : sml (by8 s n) = true
  case neg => rw [if_neg h1, if_neg h1]; rfl
  rw [if_pos h1, if_pos h1, sg_3_2]
  by_cases h2 : by8 s (n + 1) = 46
  case neg => rw [if_neg h2, if_neg h2]; rfl
  rw [if_pos h2, if_pos h2, sg_3_3]
  cases h3 : f (n + 2) with
  | no k => simp only [show n + 1 + 1 = n + 2 from rfl, h3]; rfl
  | ok x n1 => simp only [show n + 1 + 1 = n + 2 from rfl, h3]; rfl
theorem fo_one (k : Int) (hk : k = 9 ∨ k = 10) {f : Nat → Rs} {s : ByteArray} {n : Nat} : (pxP f k n).opt = (rf0 f s 1 k 1 e0 [] n).map frm := by
  unfold pxP
  rcases hk with rfl | rfl
  · rw [sg_9_1]; cases f n <;> rfl
  · rw [sg_10_1]; cases f n <;> rfl
theorem fo_let {f : Nat → Rs} {s : ByteArray} {n : Nat} : (pxL f s n).opt = (rf0 f s 6 6 1 e0 [] n).map frm := by
  unfold pxL
  rw [sg_6_1]
  by_cases h1 : sml (by8 s n) = true
  case neg => rw [if_neg h1, if_neg h1]; rfl
  rw [if_pos h1, if_pos h1, sg_6_2]
  by_cases h2 : by8 s (n + 1) = 61
  case neg => rw [if_neg h2, if_neg h2]; rfl
  rw [if_pos h2, if_pos h2, sg_6_3]
  unfold ser
  cases h3 : f (n + 2) with
  | no k => simp only [show n + 1 + 1 = n + 2 from rfl, h3]; rfl
  | ok x n1 =>
    simp only [show n + 1 + 1 = n + 2 from rfl, h3]
    rw [sg_6_4]
    by_cases h4 : by8 s n1 = 59
    case neg => rw [if_neg h4, if_neg h4]; rfl
    rw [if_pos h4, if_pos h4, sg_6_5]
    unfold ser
    cases h5 : f (n1 + 1) with
    | no k => rfl
    | ok y n2 =>
      simp only
      rw [sg_6_6]
      by_cases h6 : by8 s n2 = 125
      case neg => rw [if_neg h6, if_neg h6]; rfl
      rw [if_pos h6, if_pos h6]; rfl
theorem fo_if {f : Nat → Rs} {s : ByteArray} {n : Nat} : (pxI f s n).opt = (rf0 f s 7 7 1 e0 [] (n + 1)).map frm := by
  unfold pxI
  rw [sg_7_1]
  by_cases h1 : by8 s (n + 1) = 60
  case neg => rw [if_neg h1, if_neg h1]; rfl
  rw [if_pos h1, if_pos h1, sg_7_2]
  unfold ser
  cases h3 : f (n + 2) with
  | no k => simp only [show n + 1 + 1 = n + 2 from rfl, h3]; rfl
  | ok x n1 =>
    simp only [show n + 1 + 1 = n + 2 from rfl, h3]
    rw [sg_7_3]
    by_cases h4 : by8 s n1 = 44
    case neg => rw [if_neg h4, if_neg h4]; rfl
    rw [if_pos h4, if_pos h4, sg_7_4]
    unfold ser
    cases h5 : f (n1 + 1) with
    | no k => rfl
    | ok y n2 =>
      simp only
      rw [sg_7_5]
      by_cases h6 : by8 s n2 = 44
      case neg => rw [if_neg h6, if_neg h6]; rfl
      rw [if_pos h6, if_pos h6, sg_7_6]
      unfold ser
      cases h7 : f (n2 + 1) with
      | no k => rfl
      | ok z n3 =>
        simp only
        rw [sg_7_7]
        by_cases h8 : by8 s n3 = 62
        case neg => rw [if_neg h8, if_neg h8]; rfl
        rw [if_pos h8, if_pos h8]; rfl
/-- An expression that begins with a form. -/
theorem px_form (s : ByteArray) (d i : Nat) (hi : i < s.size) (h1 : dig (by8 s i) = false) (h2 : sml (by8 s i) = false) (h3 : bigL (by8 s i) = false) :
    (px s (d + 1) i).opt = if fk ⟨#[]⟩ (by8 s i) ≠ 0 then (rf0 (px s d) s ((formX (fk ⟨#[]⟩ (by8 s i))).size - 1) (fk ⟨#[]⟩ (by8 s i)) 1 e0 [] (i + 1)).map frm else none := by
  rw [px, if_pos hi, if_neg (by rw [h1]; exact Bool.false_ne_true), if_neg (by rw [h2]; exact Bool.false_ne_true), if_neg (by rw [h3]; exact Bool.false_ne_true)]
  rw [fk_begin]
  obtain ⟨c, hc⟩ : ∃ c, by8 s i = c := ⟨_, rfl⟩
  rw [hc]
  by_cases g : c = 40; · subst g; exact fo_par
  by_cases g : c = 92; · subst g; exact fo_fun
  by_cases g : c = 123; · subst g; exact fo_let
  by_cases g : c = 63; · subst g; exact fo_if
  by_cases g : c = 94; · subst g; exact fo_one 9 (.inl rfl)
  by_cases g : c = 95; · subst g; exact fo_one 10 (.inr rfl)
  have e : ∀ k : Int, c ≠ k → ¬ k = c := fun k h e => h e.symm
  simp only [*, eq_comm (b := c), if_false]
  rfl
/-- The same, with the bytes that are owed. -/
theorem lim_form (s : ByteArray) (d i : Nat) (O : Int) (hi : i < s.size) (h1 : dig (by8 s i) = false) (h2 : sml (by8 s i) = false) (h3 : bigL (by8 s i) = false) (F : ByteArray) (hF : formX (fk ⟨#[]⟩ (by8 s i)) = F) (hz : fk ⟨#[]⟩ (by8 s i) ≠ 0 → 1 ≤ F.size - 1) :
    lim O (px s (d + 1) i) = if fk ⟨#[]⟩ (by8 s i) ≠ 0 ∧ (i : Int) + O + (F.size - 1 : Nat) ≤ 2000 then (rf (fun n O => lim O (px s d n)) s (F.size - 1) (fk ⟨#[]⟩ (by8 s i)) 1 e0 [] (i + 1) (O - 1 + (F.size - 1 : Nat))).map frm else none := by
  have hopt : lim O (px s (d + 1) i) = match (px s (d + 1) i).opt with
      | none => none
      | some (x, n) => if (n : Int) + O ≤ 2001 then some (x, n) else none := by
    cases px s (d + 1) i <;> rfl
  rw [hopt, px_form s d i hi h1 h2 h3, hF]
  by_cases hk : fk ⟨#[]⟩ (by8 s i) ≠ 0
  case neg => rw [if_neg hk, if_neg (fun h => hk h.1)]
  rw [if_pos hk]
  have hz1 := hz hk
  obtain ⟨r, hr⟩ : ∃ r, F.size - 1 = r := ⟨_, rfl⟩
  rw [hr] at hz1 ⊢
  rw [rf_lim (fun i hi => px_in s d i hi) r _ _ _ _ _ _ hi (fun h => by omega)]
  cases hq : rf0 (px s d) s r (fk ⟨#[]⟩ (by8 s i)) 1 e0 [] (i + 1) with
  | none => by_cases h : (fk ⟨#[]⟩ (by8 s i) ≠ 0 ∧ (i : Int) + O + (r : Nat) ≤ 2000); · rw [if_pos h]; rfl
            rw [if_neg h]; rfl
  | some q =>
    obtain ⟨a, b, c, N⟩ := q
    have hge := rf0_ge (fun i hi => px_in s d i hi) r _ _ _ _ _ hi _ hq
    simp only at hge
    show (if (N : Int) + O ≤ 2001 then _ else _) = _
    by_cases hl : (N : Int) + O ≤ 2001
    · rw [if_pos hl, if_pos ⟨hk, by omega⟩]
      show _ = Option.map frm (if (N : Int) + _ ≤ _ then _ else _)
      rw [if_pos (by omega)]; rfl
    · rw [if_neg hl]
      by_cases h : (fk ⟨#[]⟩ (by8 s i) ≠ 0 ∧ (i : Int) + O + (r : Nat) ≤ 2000)
      · rw [if_pos h]
        show _ = Option.map frm (if (N : Int) + _ ≤ _ then _ else _)
        rw [if_neg (by omega)]; rfl
      · rw [if_neg h]

end Go.Proofs.Ytpaefcdchaemfaa
