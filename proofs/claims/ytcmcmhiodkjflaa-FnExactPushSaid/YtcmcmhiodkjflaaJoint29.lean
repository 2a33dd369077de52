/-
  The walk of impl.endpointOf: an endpoint over a copy.
-/
import Derived.Test.YtcmcmhiodkjflaaJoint1
import Derived.Test.YtcmcmhiodkjflaaJoint28
namespace Go.Proofs.Ytcmcmhiodkjflaa
open Go.RowKit

set_option maxRecDepth 1000000 in
set_option maxHeartbeats 2000000 in
theorem endpointOf_any (d : StrD) (ao : Option Addr) (cap : Nat) (hs : d.Small) (now : Int) (w : World) (ha : LatesAt w ao d.late) :
    Calls Try.prog 26 #[.agg #[.int .i64 d.st, .int .i64 d.iss, .int .i64 d.una, .int .i64 d.rcv, .string d.wait, .int .i64 d.sent, .int .i64 d.fin, .bool d.pf, .string d.inn, .slice ao d.late.length cap, .bool d.owe, .int .i64 d.due, .int .i64 d.times], .int .i64 now] w fun e w' => ∃ g, e = .returned (.pointer (some ⟨g, 0, none⟩)) ∧ EpIs w' w.heap.size g d now [] ∧ Below w.heap.size w w' := by
  have hb0 := below_more (Below.refl w.heap.size w) (.cells #[.int .i64 d.st, .int .i64 d.iss, .int .i64 d.una, .int .i64 d.rcv, .string d.wait, .int .i64 d.sent, .int .i64 d.fin, .bool d.pf, .string d.inn, .slice ao d.late.length cap, .bool d.owe, .int .i64 d.due, .int .i64 d.times] 28)
  have hx0 : BlockIs (w.alloc (.cells #[.int .i64 d.st, .int .i64 d.iss, .int .i64 d.una, .int .i64 d.rcv, .string d.wait, .int .i64 d.sent, .int .i64 d.fin, .bool d.pf, .string d.inn, .slice ao d.late.length cap, .bool d.owe, .int .i64 d.due, .int .i64 d.times] 28)) w.heap.size 28 [.int .i64 d.st, .int .i64 d.iss, .int .i64 d.una, .int .i64 d.rcv, .string d.wait, .int .i64 d.sent, .int .i64 d.fin, .bool d.pf, .string d.inn, .slice ao d.late.length cap, .bool d.owe, .int .i64 d.due, .int .i64 d.times] := heap_alloc_new w _
  obtain ⟨W0, hW0⟩ : ∃ W0, w.alloc (.cells #[.int .i64 d.st, .int .i64 d.iss, .int .i64 d.una, .int .i64 d.rcv, .string d.wait, .int .i64 d.sent, .int .i64 d.fin, .bool d.pf, .string d.inn, .slice ao d.late.length cap, .bool d.owe, .int .i64 d.due, .int .i64 d.times] 28) = W0 := ⟨_, rfl⟩
  rw [hW0] at hb0 hx0
  have C := hid (copiedStream_any d ao cap hs W0 (ha.on hb0))
  unfold CopyDid at C
  have X0 := hid hx0
  have B0 := hid hb0
  clear hb0 hx0 ha hs
  go_enter Try.func26, Try.ntmps26
  go_wp2_with (first | (refine wpList_load_str X0.out rfl rfl _ rfl rfl ?_) | fail)
  refine Calls.mono C.out ?_
  rintro e w1 ⟨va, vc, rfl, hr1, b1⟩
  have B1 := hid (below_via B0.out b1)
  have R1 := hid (hr1.down B0.out.size)
  clear hr1 b1 C X0 B0
  have hr2 := segR_nil w1 w.heap.size B1.out.size
  have hb2 := below_more (Below.refl w1.heap.size w1) (.cells #[] 42)
  obtain ⟨W2, hW2⟩ : ∃ W2, w1.alloc (.cells #[] 42) = W2 := ⟨_, rfl⟩
  rw [hW2] at hr2 hb2
  have hb3 := below_more (Below.refl W2.heap.size W2) (.cells #[.int .i64 d.st, .int .i64 d.iss, .int .i64 d.una, .int .i64 d.rcv, .string d.wait, .int .i64 d.sent, .int .i64 d.fin, .bool d.pf, .string d.inn, .slice va d.late.length vc, .bool d.owe, .int .i64 d.due, .int .i64 d.times, .int .i64 now, .slice (some ⟨w1.heap.size, 0, none⟩) 0 0] 56)
  have hx3 : BlockIs (W2.alloc (.cells #[.int .i64 d.st, .int .i64 d.iss, .int .i64 d.una, .int .i64 d.rcv, .string d.wait, .int .i64 d.sent, .int .i64 d.fin, .bool d.pf, .string d.inn, .slice va d.late.length vc, .bool d.owe, .int .i64 d.due, .int .i64 d.times, .int .i64 now, .slice (some ⟨w1.heap.size, 0, none⟩) 0 0] 56)) W2.heap.size 56 [.int .i64 d.st, .int .i64 d.iss, .int .i64 d.una, .int .i64 d.rcv, .string d.wait, .int .i64 d.sent, .int .i64 d.fin, .bool d.pf, .string d.inn, .slice va d.late.length vc, .bool d.owe, .int .i64 d.due, .int .i64 d.times, .int .i64 now, .slice (some ⟨w1.heap.size, 0, none⟩) 0 0] := heap_alloc_new W2 _
  have HE := hid (show EpIs (W2.alloc (.cells #[.int .i64 d.st, .int .i64 d.iss, .int .i64 d.una, .int .i64 d.rcv, .string d.wait, .int .i64 d.sent, .int .i64 d.fin, .bool d.pf, .string d.inn, .slice va d.late.length vc, .bool d.owe, .int .i64 d.due, .int .i64 d.times, .int .i64 now, .slice (some ⟨w1.heap.size, 0, none⟩) 0 0] 56)) w.heap.size W2.heap.size d now [] from ⟨Nat.le_trans B1.out.size hb2.size, va, vc, _, _, hx3, (R1.out.on hb2).on hb3, segR_below hr2 hb3⟩)
  have HB := hid (below_via (below_via B1.out hb2) hb3)
  clear hr2 hb2 hb3 hx3 B1 R1
  go_wp2
  go_ret
  exact ⟨_, rfl, HE.out, HB.out⟩
end Go.Proofs.Ytcmcmhiodkjflaa
