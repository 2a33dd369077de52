/-
  The walk of spec.l01Place: some number.
-/
import Derived.Test.YtjkgjnpifdafaaaJoint5
import Derived.Test.YtjkgjnpifdafaaaJoint4
namespace Go.Proofs.Ytjkgjnpifdafaaa
open Go.RowKit

/-- five places around a list of n -/
def fivePlaces (n : Int) : List Int := [-1, n, n + 1, 9223372036854775807, -9223372036854775808]
theorem fivePlaces_at (w : World) (t : TypeId) (n : Int) : Ints (w.alloc (.cells #[.int .i64 (-1), .int .i64 n, .int .i64 (n + 1), .int .i64 9223372036854775807, .int .i64 (-9223372036854775808)] t)) w.heap.size (fivePlaces n) := by
  intro j hj
  rw [World.cell?_alloc_mark]
  match j, hj with
  | 0, _ => rfl
  | 1, _ => rfl
  | 2, _ => rfl
  | 3, _ => rfl
  | 4, _ => rfl

set_option maxRecDepth 1000000 in
set_option maxHeartbeats 1000000 in
theorem l01Place_any (C : Nat) (n : Int) (hn : 0 < n) (hn2 : n ≤ 1000000) (w : World) (hc : CurAt w C) :
    Calls Try.prog 56 #[.pointer (some ⟨C, 0, none⟩), .int .i64 n] w fun e w' => ∃ x : Int, e = .returned (.int .i64 x) ∧ CurAt w' C ∧ w.grownBy w' (some C) := by
  have HC := (show Hid (CurAt w C) from hc)
  clear hc
  go_enter Try.func56, Try.ntmps56
  go_wp2_with fail
  refine (l01Once_any C 15 (by omega) (by omega) _ HC.out).mono ?_
  rintro e w1 ⟨b, rfl, k1, q1⟩
  have K1 := (show Hid (CurAt w1 C) from k1)
  have Q1 := (show Hid (w.grownBy w1 (some C)) from q1)
  have hCl := k1.lt
  clear k1 q1
  cases b
  · go_wp2_with fail
    refine (l01Below_any C n hn (by omega) _ K1.out).mono ?_
    rintro e w2 ⟨x, rfl, x0, x1, k2, q2⟩
    have K2 := (show Hid (CurAt w2 C) from k2)
    have Q2 := (show Hid (w.grownBy w2 (some C)) from Q1.out.trans q2)
    clear k2 q2
    go_wp2
    go_ret
    exact ⟨x, rfl, K2.out, Q2.out⟩
  · have K0 : Hid (CurAt (w1.alloc (.cells #[.int .i64 (-1), .int .i64 n, .int .i64 (n + 1), .int .i64 9223372036854775807, .int .i64 (-9223372036854775808)] 3)) C) := K1.out.kept (World.grownBy_alloc w1 _ none) (fun k h => by cases h)
    have E0 := (show Hid _ from fivePlaces_at w1 3 n)
    go_wp2_with fail
    refine (l01PickInt_any C w1.heap.size (fivePlaces n) _ (by simp [fivePlaces]) (by simp [fivePlaces]) hCl _ K0.out E0.out).mono ?_
    rintro e w2 ⟨j, hj, rfl, k2, q2⟩
    obtain ⟨x, hx⟩ : ∃ x, (fivePlaces n)[j] = x := ⟨_, rfl⟩
    rw [hx]
    have K2 := (show Hid (CurAt w2 C) from k2)
    have Q2 := (show Hid (w.grownBy w2 (some C)) from Q1.out.trans ((World.grownBy_alloc w1 _ (some C)).trans q2))
    clear k2 q2 hx K0 E0
    go_wp2
    go_ret
    exact ⟨x, rfl, K2.out, Q2.out⟩
end Go.Proofs.Ytjkgjnpifdafaaa
