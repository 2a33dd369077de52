/-
  The walk of spec.VarText: what it answers.
-/
import Derived.Test.YtkdpecjjalddbaaLVarS
namespace Go.Proofs.Ytkdpecjjalddbaa
open Go.RowKit

theorem specVarText_yes (n : Nat) (hn : n ≤ 1000000000) (w : World) :
    Calls Try.prog 7 #[.int .i64 n] w fun e w' => e = .returned (.tuple #[.string ⟨(vb n).toArray⟩, .bool true]) ∧ Below w.heap.size w w' := by
  have h0 : (0 : Int) ≤ n := by omega
  have h1 : (n : Int) ≤ 1000000000 := by omega
  go_enter Try.func7, Try.ntmps7
  go_wp2_with (first | (go_at_call 16; refine (l01Var_any n (by omega) _).mono ?_; rintro e w' ⟨rfl, hb⟩) | go_in)
  go_ret2
  exact ⟨rfl, hb⟩

theorem specVarText_no (n : Int) (hn : n < 0 ∨ 1000000000 < n) (w : World) :
    Calls Try.prog 7 #[.int .i64 n] w fun e w' => e = .returned (.tuple #[.string ByteArray.empty, .bool false]) ∧ Below w.heap.size w w' := by
  by_cases h0 : n < 0
  · have h0' : ¬ 0 ≤ n := by omega
    go_enter Try.func7, Try.ntmps7
    go_wp2
    go_ret2
    exact ⟨rfl, Below.refl _ _⟩
  · have h0' : 0 ≤ n := by omega
    have h1 : ¬ n ≤ 1000000000 := by omega
    go_enter Try.func7, Try.ntmps7
    go_wp2
    go_ret2
    exact ⟨rfl, Below.refl _ _⟩
end Go.Proofs.Ytkdpecjjalddbaa
