/-
  Numbers that go round at 65536; nothing of the program stands here.
-/
import Derived.WalkKit
namespace Go.Proofs.Ythkkhmmcgjcedaa
open Go.RowKit

def addNum (a n : Int) : Int := (a + n) % 65536
def gapNum (a b : Int) : Int := (b - a) % 65536
theorem addNum_bd (a n : Int) : 0 ≤ addNum a n ∧ addNum a n ≤ 65535 := by unfold addNum; omega
theorem gapNum_bd (a n : Int) : 0 ≤ gapNum a n ∧ gapNum a n ≤ 65535 := by unfold gapNum; omega
theorem gap_back {a b : Int} (h : 0 ≤ b) (h2 : b ≤ 65535) : addNum a (gapNum a b) = b := by unfold addNum gapNum; omega
theorem gap_self (a : Int) : gapNum a a = 0 := by unfold gapNum; omega
theorem gap_both {a b : Int} (h : 0 ≤ a) (h2 : a ≤ 65535) (h3 : 0 ≤ b) (h4 : b ≤ 65535) (h5 : a ≠ b) : gapNum a b + gapNum b a = 65536 := by unfold gapNum; omega
theorem add_off {a n : Int} (h : 0 ≤ a) (h2 : a ≤ 65535) : addNum (addNum a n) (-n) = a := by unfold addNum; omega
end Go.Proofs.Ythkkhmmcgjcedaa
