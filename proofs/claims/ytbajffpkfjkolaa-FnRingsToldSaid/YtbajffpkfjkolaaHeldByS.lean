/-
  The walk of spec.HeldBy: the card's slots are counted.
-/
import Derived.Test.YtbajffpkfjkolaaPlainRing
import Derived.Test.YtbajffpkfjkolaaRows
namespace Go.Proofs.Ytbajffpkfjkolaa
open Go.RowKit

set_option maxRecDepth 1000000 in
set_option maxHeartbeats 1000000 in
theorem specHeldBy_any (s t : Int) (ao : Option Addr) (l : List SlotD) (cap : Nat) (hl : l.length ≤ 1048576) (w : World) (ha : SlotsAt w ao l) :
    Calls Try.prog 17 #[.agg #[.slice ao l.length cap, .int .i64 s, .int .i64 t]] w fun e w' => e = .returned (.int .i64 ((heldBy l : Nat) : Int)) ∧ Below w.heap.size w w' := by
  have HB := hid (below_more (Below.refl w.heap.size w) (.cells #[.slice ao l.length cap, .int .i64 s, .int .i64 t] 26))
  have HX := hid (show BlockIs (w.alloc (.cells #[.slice ao l.length cap, .int .i64 s, .int .i64 t] 26)) w.heap.size 26 [.slice ao l.length cap, .int .i64 s, .int .i64 t] from heap_alloc_new w _)
  have HA := hid (ha.on HB.out)
  obtain ⟨W0, hW0⟩ : ∃ W0, w.alloc (.cells #[.slice ao l.length cap, .int .i64 s, .int .i64 t] 26) = W0 := ⟨_, rfl⟩
  rw [hW0] at HB HX HA
  have x0 := HX.out.cell (j := 0) rfl
  clear ha
  go_enter Try.func17, Try.ntmps17
  go_wp2
  go_loopg [3, 4] l.length (fun g y i wr => ∃ (k : Nat), k + g = l.length ∧ i = .int .i64 k ∧ y = .int .i64 ((heldBy (l.take k) : Nat) : Int) ∧ wr = W0)
  case atStart => exact ⟨0, by omega, rfl, by simp [heldBy], rfl⟩
  case round =>
    obtain ⟨k, hkg, rfl, rfl, rfl⟩ := hrel
    cases gk with
    | zero =>
      have hlt : ¬ (k : Int) < (l.length : Int) := by omega
      rw [List.take_of_length_le (by omega)]
      go_wp2
      go_ret
      exact ⟨rfl, HB.out⟩
    | succ g =>
      have hlt : k < l.length := by omega
      have hlt' : (k : Int) < (l.length : Int) := by omega
      obtain ⟨b, off, rfl, hc⟩ := HA.out (by intro e; rw [e] at hlt; simp at hlt)
      obtain ⟨y0, y1⟩ := hc k hlt
      clear hc
      have hstep := heldBy_take l k hlt
      have hsz := heldBy_le (l.take k)
      rw [List.length_take] at hsz
      by_cases ho : l[k].own = 1
      · rw [if_pos ho] at hstep
        have HS := hid hstep
        clear hstep
        go_wp2
        go_roundg g
        case measure => omega
        case rel => exact ⟨k + 1, by omega, by go_num, by rw [HS.out]; go_num, rfl⟩
      · rw [if_neg ho] at hstep
        have HS := hid hstep
        clear hstep
        go_wp2
        go_roundg g
        case measure => omega
        case rel => exact ⟨k + 1, by omega, by go_num, by rw [HS.out]; rfl, rfl⟩
end Go.Proofs.Ytbajffpkfjkolaa
