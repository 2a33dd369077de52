/-
  Journals as data: which ones are right; nothing of the program stands here.
-/
import Derived.Test.YtjkgjnpifdafaaaPlainLog
namespace Go.Proofs.Ytjkgjnpifdafaaa

/-- a journal: a number, a term, a vote, a log's start and its term, its entries -/
abbrev jourV (n tm vt s t : Int) (v : Value) : Value := .agg #[.int .i64 n, .int .i64 tm, .int .i64 vt, .int .i64 s, .int .i64 t, v]
/-- a right journal -/
def jourOk (n tm vt s t : Int) (l : List EntD) : Bool := within n 0 999 && (within tm 0 100000 && within vt 0 4) && logOk s t l
theorem jourOk_iff {n tm vt s t : Int} {l : List EntD} : jourOk n tm vt s t l = true ↔ (0 ≤ n ∧ n ≤ 999) ∧ ((0 ≤ tm ∧ tm ≤ 100000) ∧ (0 ≤ vt ∧ vt ≤ 4)) ∧ logOk s t l = true := by
  simp only [jourOk, Bool.and_eq_true, within_iff, and_assoc]
end Go.Proofs.Ytjkgjnpifdafaaa
