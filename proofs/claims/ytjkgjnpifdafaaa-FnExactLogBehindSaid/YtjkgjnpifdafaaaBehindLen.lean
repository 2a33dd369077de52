/-
  The log behind an index is no longer than the log.
-/
import Derived.Test.YtjkgjnpifdafaaaPlainLog
namespace Go.Proofs.Ytjkgjnpifdafaaa
theorem behindAns_len (s t : Int) (l : List EntD) (b tm : Int) : (behindAns s t l b tm).length ≤ l.length := by
  unfold behindAns
  split
  · simp
  · simp
end Go.Proofs.Ytjkgjnpifdafaaa
