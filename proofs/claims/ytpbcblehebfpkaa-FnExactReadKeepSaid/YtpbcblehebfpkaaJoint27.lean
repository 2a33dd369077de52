/-
  The walk of impl.KeepOk: a keep that is right.
-/
import Derived.Test.YtpbcblehebfpkaaJoint26
namespace Go.Proofs.Ytpbcblehebfpkaa
open Go.RowKit

set_option maxRecDepth 1000000 in
set_option maxHeartbeats 1000000 in
theorem implKeepOk_any (ao bo : Option Addr) (ls : List SessionD) (li : List ItemD) (ac bc : Nat) (hl : ls.length ≤ 1048576) (hl' : li.length ≤ 1048576) (w : World) (ha : SessionsAt w ao ls) (hi : ItemsAt w bo li) :
    Calls Try.prog 41 #[.agg #[.slice ao ls.length ac, .slice bo li.length bc]] w fun e w' => e = .returned (.bool (keepOk ls li)) ∧ Below w.heap.size w w' := by
  have HI := hid hi
  have HB := hid (below_more (Below.refl w.heap.size w) (.cells #[.slice ao ls.length ac, .slice bo li.length bc] 25))
  have HX := hid (show BlockIs (w.alloc (.cells #[.slice ao ls.length ac, .slice bo li.length bc] 25)) w.heap.size 25 [.slice ao ls.length ac, .slice bo li.length bc] from heap_alloc_new w _)
  have C := hid (fun w ha => sessionsOk_any ao ls ac hl w ha)
  have D := hid (fun w hi => itemsOk_any bo li bc hl' w hi)
  have HA := hid ha
  clear ha hi
  go_enter Try.func41, Try.ntmps41
  go_wp2_with fail
  refine (C.out _ (HA.out.on HB.out)).mono ?_
  rintro e w1 ⟨rfl, b1⟩
  have B1 := hid (below_via HB.out b1)
  have c1 := (HX.out.on b1 HX.out.lt).cell (j := 1) rfl
  clear b1
  cases hs : sessionsRight ls with
  | false =>
    have HR : Hid (keepOk ls li = false) := by show _ = _; rw [keepOk, hs]; rfl
    clear hs
    go_wp2
    go_ret
    exact ⟨by rw [HR.out]; rfl, B1.out⟩
  | true =>
    have HR : Hid (keepOk ls li = itemsRight li) := by show _ = _; rw [keepOk, hs]; rfl
    clear hs
    go_wp2_with fail
    refine (D.out _ (HI.out.on B1.out)).mono ?_
    rintro e w2 ⟨rfl, b2⟩
    have B2 := hid (below_via B1.out b2)
    clear b2
    go_wp2
    go_ret
    exact ⟨by rw [HR.out]; rfl, B2.out⟩
end Go.Proofs.Ytpbcblehebfpkaa
