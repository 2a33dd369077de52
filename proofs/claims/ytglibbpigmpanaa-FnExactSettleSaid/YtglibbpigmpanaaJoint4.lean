/-
  Entries as data, in memory, one behind the other; the walks of laws.szEntryS, szLog: a log's letters are counted.
-/
import Derived.Test.YtglibbpigmpanaaJoint3
import Derived.BigQuiet
import Derived.Deep.LoopGhost
import Derived.WalkSmall
import Derived.WalkKit
namespace Go.Proofs.Ytglibbpigmpanaa
open Go.RowKit

theorem szLog_any (s t : Int) (ao : Option Addr) (l : List EntD) (cap : Nat) (n : Int) (h0 : 0 ≤ n) (h1 : n ≤ 1048576) (hl : l.length ≤ 9223372036854775807) (hf : EntsFit l) (w : World) (ha : EntsAt w ao l) :
    Calls Try.prog 12 #[.agg #[.int .i64 s, .int .i64 t, .slice ao l.length cap], .int .i64 n] w fun e w' => ((n - l.length - entBulk l < 0 ∧ e = .returned (.int .i64 (-1))) ∨ (0 ≤ n - l.length - entBulk l ∧ e = .returned (.int .i64 (n - l.length - entBulk l)))) ∧ Below w.heap.size w w' := by
  have C := hid (fun w ha => szEntryS_any ao l cap n h0 h1 hl hf w ha)
  have HA := hid ha
  have HB := hid (below_more (Below.refl w.heap.size w) (.cells #[.int .i64 s, .int .i64 t, .slice ao l.length cap] 25))
  clear ha hf
  go_enter Try.func12, Try.ntmps12
  go_wp2_with fail
  refine (C.out _ (HA.out.on HB.out)).mono ?_
  rintro e w1 ⟨(⟨hneg, rfl⟩ | ⟨hnn, rfl⟩), b1⟩
  · have B1 := hid (below_via HB.out b1)
    clear b1 C
    go_wp2
    go_ret
    exact ⟨Or.inl ⟨hneg, rfl⟩, B1.out⟩
  · have B1 := hid (below_via HB.out b1)
    clear b1 C
    go_wp2
    go_ret
    exact ⟨Or.inr ⟨hnn, rfl⟩, B1.out⟩
end Go.Proofs.Ytglibbpigmpanaa
