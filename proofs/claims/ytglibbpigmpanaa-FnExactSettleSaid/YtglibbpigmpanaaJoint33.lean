/-
  The walk of laws.markLog: a log of the call's own is written over with marks.
  The walk of laws.heldLog: a log that holds marks is found to hold them.
-/
import Derived.Test.YtglibbpigmpanaaJoint32
namespace Go.Proofs.Ytglibbpigmpanaa
open Go.RowKit

set_option maxRecDepth 1000000 in
theorem markLog_any (s t : Int) (g : Nat) (l : List EntD) (cap m : Nat) (r : List Value) (hm : m ≤ 10000000) (hl : l.length ≤ 1048576) (w : World) (hb : BlockIs w g 69 (entCells l ++ r)) :
    Calls Try.prog 32 #[.agg #[.int .i64 s, .int .i64 t, .slice (some ⟨g, 0, none⟩) l.length cap], .int .i64 m] w fun e w' => e = .returned (.int .i64 ((m + 3 * l.length : Nat) : Int)) ∧ BlockIs w' g 69 (entCells (marksE m l.length) ++ r) ∧ w.grownBy w' (some g) := by
  have C := hid (fun w hb => markEntryS_any g l cap m r hm hl w hb)
  have HD := hid (World.grownBy_alloc w (.cells #[.int .i64 s, .int .i64 t, .slice (some ⟨g, 0, none⟩) l.length cap] 32) (some g))
  have HD2 := hid (hb.on (below_more (Below.refl w.heap.size w) (.cells #[.int .i64 s, .int .i64 t, .slice (some ⟨g, 0, none⟩) l.length cap] 32)) hb.lt)
  clear hb
  go_enter Try.func32, Try.ntmps32
  go_wp2_with fail
  refine (C.out _ HD2.out).mono ?_
  rintro e w1 ⟨rfl, k1, g1⟩
  have K1 := hid k1
  have G1 := hid (HD.out.trans g1)
  clear k1 g1 C HD HD2
  go_wp2
  go_ret
  exact ⟨rfl, K1.out, G1.out⟩
end Go.Proofs.Ytglibbpigmpanaa

namespace Go.Proofs.Ytglibbpigmpanaa
open Go.RowKit Go.Sort

set_option maxRecDepth 1000000 in
theorem heldLog_any (s t : Int) (ao : Option Addr) (n cap m : Nat) (hm : m ≤ 10000000) (hl : n ≤ 1048576) (w : World) (ha : EntsAt w ao (marksE m n)) :
    Calls Try.prog 35 #[.agg #[.int .i64 s, .int .i64 t, .slice ao n cap], .int .i64 m] w fun e w' => e = .returned (.int .i64 ((m + 3 * n : Nat) : Int)) ∧ Below w.heap.size w w' := by
  have C := hid (fun w ha => heldEntryS_any ao n cap m hm hl w ha)
  have HB := hid (below_more (Below.refl w.heap.size w) (.cells #[.int .i64 s, .int .i64 t, .slice ao n cap] 32))
  have HA := hid ha
  clear ha
  obtain ⟨K, hK⟩ : ∃ K, m + 3 * n = K := ⟨_, rfl⟩
  rw [hK] at C ⊢
  clear hK
  go_enter Try.func35, Try.ntmps35
  go_wp2_with fail
  refine (C.out _ (HA.out.on HB.out)).mono ?_
  rintro e w1 ⟨rfl, b1⟩
  have B1 := hid (below_via HB.out b1)
  have hK0 : ¬ (K : Int) < 0 := by omega
  clear b1 C HB
  go_wp2
  go_ret
  exact ⟨rfl, B1.out⟩
end Go.Proofs.Ytglibbpigmpanaa
