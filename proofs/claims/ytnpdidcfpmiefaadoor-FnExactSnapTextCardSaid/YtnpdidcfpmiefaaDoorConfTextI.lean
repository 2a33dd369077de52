/-
  The walk of impl.ConfText: what it answers.
-/
import Derived.Test.YtnpdidcfpmiefaaDoorConfI
import Derived.Test.YtnpdidcfpmiefaaDoorConfBytesI
namespace Go.Proofs.YtnpdidcfpmiefaaDoor
open Go.RowKit

set_option maxRecDepth 1000000 in
set_option maxHeartbeats 1000000 in
theorem implConfText_any (ao : Option Addr) (zs : List Int) (cap : Nat) (hl : zs.length ≤ 1048576) (w : World) (hz : IntsAt w ao zs) :
    Calls Tryd.prog 26 #[.slice ao zs.length cap] w fun e w' => e = .returned (.tuple #[.string (confText zs).1, .bool (confText zs).2]) ∧ Below w.heap.size w w' := by
  have HZ := hid hz
  have cO' := implConfOk_any ao zs cap hl w hz
  clear hz
  cases hA : confOk zs with
  | false =>
    rw [hA] at cO'
    have cO := hid cO'
    have HT := hid (confText_no hA)
    clear cO' hA
    go_enter Tryd.func26, Tryd.ntmps26
    go_wp2_with fail
    refine Calls.mono cO.out ?_
    rintro e w1 ⟨rfl, b1⟩
    go_wp2
    go_ret2
    exact ⟨by rw [HT.out]; rfl, b1⟩
  | true =>
    rw [hA] at cO'
    have cO := hid cO'
    have HT := hid (confText_yes hA)
    have HA := hid hA
    clear cO' hA
    go_enter Tryd.func26, Tryd.ntmps26
    go_wp2_with fail
    refine Calls.mono cO.out ?_
    rintro e w1 ⟨rfl, b1⟩
    have B1 := hid b1
    clear b1 cO
    go_wp2_with fail
    refine Calls.mono (confBytes_any ao zs cap HA.out w1 (HZ.out.on B1.out)) ?_
    rintro e w2 ⟨rfl, b2⟩
    have B2 := hid (below_via B1.out b2)
    clear b2 B1
    go_wp2
    go_ret2
    exact ⟨by rw [HT.out]; rfl, B2.out⟩
end Go.Proofs.YtnpdidcfpmiefaaDoor
