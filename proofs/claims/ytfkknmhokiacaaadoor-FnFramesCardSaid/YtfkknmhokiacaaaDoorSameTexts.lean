/-
  The walk of laws.sameTexts: two rows that hold the same texts.
-/
import Derived.Test.YtfkknmhokiacaaaDoorRows
import Derived.Test.YtfkknmhokiacaaaDoorPlainRows
import Derived.BigQuiet
import Derived.Lib.QuietBelow
import Derived.WalkSmall
import Derived.WalkKit
namespace Go.Proofs.YtfkknmhokiacaaaDoor
open Go.RowKit Go.Sort

set_option maxRecDepth 1000000 in
set_option maxHeartbeats 1000000 in
/-- two rows that hold the same texts are told to be alike -/
theorem sameTexts_same {base base' : Nat} {v v' : Value} {ts : List ByteArray} {w : World} (hl : ts.length ≤ 1000000) (h1 : w.ownsRow base 9 1 v ts.length (st ts)) (h2 : w.ownsRow base' 9 1 v' ts.length (st ts)) :
    Calls Tryd.prog 10 #[v, v'] w fun e w' => e = .returned (.bool true) ∧ Below w.heap.size w w' := by
  obtain ⟨_, a1, c1, rfl, f1⟩ := row_lie h1
  obtain ⟨_, a2, c2, rfl, f2⟩ := row_lie h2
  have F1 := (show Hid _ from f1)
  have F2 := (show Hid _ from f2)
  clear f1 f2 h1 h2
  go_enter Tryd.func10, Tryd.ntmps10
  go_wp2
  go_loopw [5] (fun i wr => ∃ (k nq : Nat), k ≤ ts.length ∧ i = .int .i64 k ∧ wr = w.drewN nq) (fun i _ => ts.length - (intOf i).toNat)
  case atStart => exact ⟨0, 0, Nat.zero_le _, rfl, rfl⟩
  case round =>
    obtain ⟨k, nq, hk, rfl, rfl⟩ := hrel
    by_cases hlt : k < ts.length
    · obtain ⟨g1, rfl, _, _, _, _, d1, _⟩ := F1.out (by omega)
      obtain ⟨g2, rfl, _, _, _, _, d2, _⟩ := F2.out (by omega)
      have e1 := d1 k _ (st_at ts k hlt)
      have e2 := d2 k _ (st_at ts k hlt)
      clear d1 d2
      go_wp2
      go_quiet (fail)
      go_wp2
      go_roundw
      case rel => exact ⟨k + 1, _, by omega, by go_num, rfl⟩
      case measure => simp [intOf]; omega
    · go_wp2
      go_ret
      exact ⟨rfl, below_drewN (Below.refl _ _) _⟩
end Go.Proofs.YtfkknmhokiacaaaDoor
