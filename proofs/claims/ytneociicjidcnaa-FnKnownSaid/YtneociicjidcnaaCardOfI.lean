/-
  The walk of impl.CardOf: the card of the first one with this address.
-/
import Derived.Test.YtneociicjidcnaaPlainKnown
import Derived.Test.YtneociicjidcnaaRows
namespace Go.Proofs.Ytneociicjidcnaa
open Go.RowKit

set_option maxRecDepth 1000000 in
set_option maxHeartbeats 1000000 in
theorem implCardOf_any (ao : Option Addr) (l : List KnownD) (cap : Nat) (a : Int) (hl : l.length ≤ 1048576) (w : World) (ha : KnownsAt w ao l) :
    Calls Try.prog 9 #[.slice ao l.length cap, .int .i64 a] w fun e w' => e = .returned (.int .i64 (cardOf l a)) ∧ Below w.heap.size w w' := by
  have HA := hid ha
  clear ha
  go_enter Try.func9, Try.ntmps9
  go_wp2
  go_loopg [9] l.length (fun g i wr => ∃ (k : Nat), k + g = l.length ∧ i = .int .i64 k ∧ Hid (∀ j, (hj : j < k) → (hl : j < l.length) → l[j].addr ≠ a) ∧ Hid (Below w.heap.size w wr))
  case atStart => exact ⟨0, by omega, rfl, (show ∀ j, (hj : j < 0) → (hl : j < l.length) → l[j].addr ≠ a from fun j hj => absurd hj (by omega)), (show Below _ _ _ from Below.refl _ _)⟩
  case round =>
    obtain ⟨k, hkg, rfl, HN, BR⟩ := hrel
    cases gk with
    | zero =>
      have hlt : ¬ (k : Int) < (l.length : Int) := by omega
      have HS := hid (cardOf_none l a (fun j hj => HN.out j (by omega) hj))
      go_wp2
      go_ret
      exact ⟨by rw [HS.out]; rfl, BR.out⟩
    | succ g =>
      have hlt : k < l.length := by omega
      have hlt' : (k : Int) < (l.length : Int) := by omega
      obtain ⟨b, off, rfl, hc⟩ := HA.out.on BR.out (by intro e; rw [e] at hlt; simp at hlt)
      obtain ⟨y0, y1⟩ := hc k hlt
      clear hc
      have B1 := hid (fun o => below_more BR.out o)
      by_cases ho : l[k].addr = a
      · have HS := hid (cardOf_here l a k hlt (fun j hj => HN.out j hj (by omega)) ho)
        go_wp2
        go_ret
        exact ⟨by rw [HS.out]; rfl, B1.out _⟩
      · go_wp2
        go_roundg g
        case measure => omega
        case rel => exact ⟨k + 1, by omega, by go_num, (fun j hj hl => by
          rcases Nat.lt_or_ge j k with h | h
          · exact HN.out j h hl
          · obtain rfl : j = k := by omega
            exact ho), B1.out _⟩
end Go.Proofs.Ytneociicjidcnaa
