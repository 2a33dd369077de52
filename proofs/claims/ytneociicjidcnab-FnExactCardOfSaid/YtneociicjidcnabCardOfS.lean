/-
  The walk of spec.CardOf: the card of the first one with this address.
-/
import Derived.Test.YtneociicjidcnabPlainKnown
import Derived.Test.YtneociicjidcnabRows
namespace Go.Proofs.Ytneociicjidcnab
open Go.RowKit

set_option maxRecDepth 1000000 in
set_option maxHeartbeats 1000000 in
theorem specCardOf_any (ao : Option Addr) (l : List KnownD) (cap : Nat) (a : Int) (hl : l.length ≤ 1048576) (w : World) (ha : KnownsAt w ao l) :
    Calls Try.prog 5 #[.slice ao l.length cap, .int .i64 a] w fun e w' => e = .returned (.int .i64 (cardOf l a)) ∧ Below w.heap.size w w' := by
  have HA := hid ha
  clear ha
  go_enter Try.func5, Try.ntmps5
  go_wp2
  go_loopg [5, 6] l.length (fun g y i wr => g ≤ l.length ∧ i = .int .i64 ((g : Int) - 1) ∧ y = .int .i64 (cardOf (l.drop g) a) ∧ Hid (Below w.heap.size w wr))
  case atStart => exact ⟨by omega, rfl, by rw [List.drop_length]; rfl, (show Below _ _ _ from Below.refl _ _)⟩
  case round =>
    obtain ⟨hg, rfl, rfl, BR⟩ := hrel
    cases gk with
    | zero =>
      go_wp2
      go_ret
      exact ⟨rfl, BR.out⟩
    | succ g =>
      have hlt : g < l.length := by omega
      obtain ⟨b, off, rfl, hc⟩ := HA.out.on BR.out (by intro e; rw [e] at hlt; simp at hlt)
      obtain ⟨y0, y1⟩ := hc g hlt
      clear hc
      have hstep := cardOf_drop l a g hlt
      rw [show ((g + 1 : Nat) : Int) - 1 = (g : Int) by omega]
      have hg0 : (0 : Int) ≤ (g : Int) := by omega
      by_cases ho : l[g].addr = a
      · rw [if_pos ho] at hstep
        have HS := hid hstep
        clear hstep
        go_wp2
        go_roundg g
        case measure => omega
        case rel => exact ⟨by omega, by go_num, by rw [HS.out], BR⟩
      · rw [if_neg ho] at hstep
        have HS := hid hstep
        clear hstep
        go_wp2
        go_roundg g
        case measure => omega
        case rel => exact ⟨by omega, by go_num, by rw [HS.out], BR⟩
end Go.Proofs.Ytneociicjidcnab
