/-
  The walk of impl.RingOk: what a right ring is.
-/
import Derived.Test.YtbajffpkfjkolaaWheelOfI
namespace Go.Proofs.Ytbajffpkfjkolaa
open Go.RowKit

set_option maxRecDepth 1000000 in
set_option maxHeartbeats 1000000 in
theorem implRingOk_any (s t : Int) (ao : Option Addr) (l : List SlotD) (cap : Nat) (hl : l.length ≤ 1048576) (hsm : ∀ f ∈ l, slotOne f ≤ 1048576) (w : World) (ha : SlotsAt w ao l) :
    Calls Try.prog 10 #[.agg #[.slice ao l.length cap, .int .i64 s, .int .i64 t]] w fun e w' => e = .returned (.bool (ringOk l s t)) ∧ Below w.heap.size w w' := by
  have C := hid (fun w ha => wheelOf_any s t ao l cap hl hsm w ha)
  have HB := hid (below_more (Below.refl w.heap.size w) (.cells #[.slice ao l.length cap, .int .i64 s, .int .i64 t] 26))
  have HA := hid (ha.on HB.out)
  clear ha hsm
  go_enter Try.func10, Try.ntmps10
  go_wp2_with fail
  refine (C.out _ HA.out).mono ?_
  rintro e w1 ⟨A, rfl, hA, h1, _, b1⟩
  have K : Hid (BlockIs (w1.alloc (.cells #[.int .i64 0, .string ⟨#[]⟩, .int .i64 0, .string ⟨#[]⟩, .int .i64 0, .string ⟨#[]⟩, .int .i64 0, .string ⟨#[]⟩, .int .i64 0, .string ⟨#[]⟩, .int .i64 0, .string ⟨#[]⟩, .int .i64 0, .string ⟨#[]⟩, .int .i64 0, .string ⟨#[]⟩, .int .i64 0, .int .i64 0, .int .i64 0] 45)) w1.heap.size 45 [.int .i64 0, .string ⟨#[]⟩, .int .i64 0, .string ⟨#[]⟩, .int .i64 0, .string ⟨#[]⟩, .int .i64 0, .string ⟨#[]⟩, .int .i64 0, .string ⟨#[]⟩, .int .i64 0, .string ⟨#[]⟩, .int .i64 0, .string ⟨#[]⟩, .int .i64 0, .string ⟨#[]⟩, .int .i64 0, .int .i64 0, .int .i64 0]) := heap_alloc_new w1 _
  have OV := hid (wheel_over w1 #[.int .i64 0, .string ⟨#[]⟩, .int .i64 0, .string ⟨#[]⟩, .int .i64 0, .string ⟨#[]⟩, .int .i64 0, .string ⟨#[]⟩, .int .i64 0, .string ⟨#[]⟩, .int .i64 0, .string ⟨#[]⟩, .int .i64 0, .string ⟨#[]⟩, .int .i64 0, .string ⟨#[]⟩, .int .i64 0, .int .i64 0, .int .i64 0] A 45)
  have BL := hid (below_more (below_via HB.out b1) (.cells A 45))
  have HL := hid hA
  have HO := hid h1
  clear hA h1 b1
  go_wp2_with (refine wpList_store_wheel rfl (.tmp 3) (.tmp 8) rfl w1.heap.size A rfl rfl [.int .i64 0, .string ⟨#[]⟩, .int .i64 0, .string ⟨#[]⟩, .int .i64 0, .string ⟨#[]⟩, .int .i64 0, .string ⟨#[]⟩, .int .i64 0, .string ⟨#[]⟩, .int .i64 0, .string ⟨#[]⟩, .int .i64 0, .string ⟨#[]⟩, .int .i64 0, .string ⟨#[]⟩, .int .i64 0, .int .i64 0, .int .i64 0] K.out rfl HL.out HO.out ?_; rw [OV.out])
  go_ret
  exact ⟨rfl, BL.out⟩
end Go.Proofs.Ytbajffpkfjkolaa
