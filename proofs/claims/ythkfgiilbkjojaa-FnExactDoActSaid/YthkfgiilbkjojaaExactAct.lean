/-
  Acts in the exact laws, in one form.
-/
import Derived.Test.YthkfgiilbkjojaaExactKit
import Derived.Test.YthkfgiilbkjojaaOpenAct
namespace Go.Proofs.Ythkfgiilbkjojaa
open Go.RowKit

theorem szAct_o (a : ActD) (n : Int) (h0 : 0 ≤ n) (h1 : n ≤ 1048576) (hf : a.Fits) (w : World) :
    Calls Try.prog 29 #[.agg #[.int .i64 a.kind, .string a.name, .string a.text, .string a.to], .int .i64 n] w fun e w' => ((n - a.bulk < 0 ∧ e = .returned (.int .i64 (-1))) ∨ (0 ≤ n - a.bulk ∧ e = .returned (.int .i64 (n - a.bulk)))) ∧ Below w.heap.size w w' := szAct_any a n h0 h1 hf w
theorem toAct_o (a : ActD) (w : World) :
    Calls Try.prog 31 #[.agg #[.int .i64 a.kind, .string a.name, .string a.text, .string a.to]] w fun e w' => e = .returned (.agg #[.int .i64 a.kind, .string a.name, .string a.text, .string a.to]) ∧ Below w.heap.size w w' := toAct_any a w
theorem actSmall {l : List FileD} {a : ActD} (h : 0 ≤ (1048576 : Int) - l.length - fileBulk l) (h2 : 0 ≤ (1048576 : Int) - l.length - fileBulk l - a.bulk) : a.name.size ≤ 1048576 ∧ a.text.size ≤ 1048576 ∧ a.to.size ≤ 1048576 := by
  have := fileBulk_nonneg l
  unfold ActD.bulk at h2
  omega
end Go.Proofs.Ythkfgiilbkjojaa
