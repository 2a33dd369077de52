/-
  The walk of impl.HeldBy: the card's slots are counted.
-/
import Derived.Test.YtbajffpkfjkolaaPlainRing
import Derived.Test.YtbajffpkfjkolaaRows
namespace Go.Proofs.Ytbajffpkfjkolaa
open Go.RowKit

set_option maxRecDepth 1000000 in
set_option maxHeartbeats 1000000 in
theorem implHeldBy_any (s t : Int) (ao : Option Addr) (l : List SlotD) (cap : Nat) (hl : l.length ≤ 1048576) (w : World) (ha : SlotsAt w ao l) :
    Calls Try.prog 7 #[.agg #[.slice ao l.length cap, .int .i64 s, .int .i64 t]] w fun e w' => e = .returned (.int .i64 ((heldBy l : Nat) : Int)) ∧ Below w.heap.size w w' := by
  have HB := hid (below_more (Below.refl w.heap.size w) (.cells #[.slice ao l.length cap, .int .i64 s, .int .i64 t] 26))
  have HA := hid ha
  clear ha
  go_enter Try.func7, Try.ntmps7
  go_wp2
  go_loopg [3, 9] l.length (fun g y i wr => ∃ (k : Nat), k + g = l.length ∧ i = .int .i64 k ∧ y = .int .i64 ((heldBy (l.take k) : Nat) : Int) ∧ Hid (Below w.heap.size w wr))
  case atStart => exact ⟨0, by omega, rfl, by simp [heldBy], HB⟩
  case round =>
    obtain ⟨k, hkg, rfl, rfl, BR⟩ := hrel
    clear HB
    cases gk with
    | zero =>
      have hlt : ¬ (k : Int) < (l.length : Int) := by omega
      rw [List.take_of_length_le (by omega)]
      go_wp2
      go_ret
      exact ⟨rfl, BR.out⟩
    | succ g =>
      have hlt : k < l.length := by omega
      have hlt' : (k : Int) < (l.length : Int) := by omega
      obtain ⟨b, off, rfl, hc⟩ := HA.out.on BR.out (by intro e; rw [e] at hlt; simp at hlt)
      obtain ⟨y0, y1⟩ := hc k hlt
      clear hc
      have hstep := heldBy_take l k hlt
      have hsz := heldBy_le (l.take k)
      rw [List.length_take] at hsz
      have B1 := hid (fun o => below_more BR.out o)
      by_cases ho : l[k].own = 1
      · rw [if_pos ho] at hstep
        have HS := hid hstep
        clear hstep
        go_wp2
        go_roundg g
        case measure => omega
        case rel => exact ⟨k + 1, by omega, by go_num, by rw [HS.out]; go_num, B1.out _⟩
      · rw [if_neg ho] at hstep
        have HS := hid hstep
        clear hstep
        go_wp2
        go_roundg g
        case measure => omega
        case rel => exact ⟨k + 1, by omega, by go_num, by rw [HS.out]; rfl, B1.out _⟩
end Go.Proofs.Ytbajffpkfjkolaa
