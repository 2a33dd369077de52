/-
  The walk of spec.l01Once: one way or the other.
-/
import Derived.Test.YtihgkocfgjihhaaDoorJoint2
namespace Go.Proofs.YtihgkocfgjihhaaDoor
open Go.RowKit

theorem l01Once_any (C : Nat) (n : Int) (hn : 0 < n) (hn2 : n ≤ 1000000000000) (w : World) (hc : CurAt w C) :
    Calls Tryd.prog 81 #[.pointer (some ⟨C, 0, none⟩), .int .i64 n] w fun e w' => ∃ b : Bool, e = .returned (.bool b) ∧ CurAt w' C ∧ w.grownBy w' (some C) := by
  have HC := (show Hid (CurAt w C) from hc)
  clear hc
  go_enter Tryd.func81, Tryd.ntmps81
  go_wp2_with (go_at_call 44; refine (l01Below_any C n hn hn2 _ HC.out).mono ?_; rintro e w1 ⟨x, rfl, x0, x1, k1, q1⟩; have K1 := (show Hid (CurAt w1 C) from k1); have Q1 := (show Hid _ from q1); clear k1 q1)
  go_ret
  exact ⟨_, rfl, K1.out, Q1.out⟩
end Go.Proofs.YtihgkocfgjihhaaDoor
