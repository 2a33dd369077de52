/-
  The walk of impl.numberedReply.
-/
import Derived.Test.YtohpkegbmhmjeaaGreatDoorJoint28
import Derived.Test.YtohpkegbmhmjeaaGreatDoorJoint1
import Derived.WalkKit
namespace Go.Proofs.YtohpkegbmhmjeaaGreatDoor
open Go.RowKit

set_option maxRecDepth 1000000 in
set_option maxHeartbeats 1000000 in
theorem numberedReply_any (word : ByteArray) (n : Int) (hw : word.size ≤ 10) (h0 : 0 ≤ n) (h1 : n ≤ 1000000000) (w : World) (ht : Lib.TabIs Tryz.prog w "internal/strconv.uint64pow10" .u64 Lib.pow10Tab) :
    Calls Tryz.prog 70 #[.string word, .int .i64 n] w fun e w' => e = .returned (.string (word ++ ⟨#[32]⟩ ++ decT n)) ∧ Below w.heap.size w w' := by
  have HD := hid (decT_len h0 h1)
  have C : Hid (Calls Tryz.prog 88 #[.int .i64 n] w fun e w' => e = .returned (.string (decT n)) ∧ Below w.heap.size w w') := implDecimal_any n (by omega) (by omega) w ht
  have hs1 : word.size + 1 ≤ 9223372036854775807 := by omega
  have hs2 : word.size + 1 + (decT n).size ≤ 9223372036854775807 := by have := HD.out; omega
  clear ht
  go_enter Tryz.func70, Tryz.ntmps70
  go_wp2_with fail
  refine Calls.mono C.out ?_
  rintro e w' ⟨rfl, hb⟩
  have HB := hid hb
  clear hb
  go_wp2
  go_ret
  exact ⟨rfl, HB.out⟩
end Go.Proofs.YtohpkegbmhmjeaaGreatDoor
