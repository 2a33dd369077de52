/-
  The walks of laws.szAct, toAct.
-/
import Derived.Test.YtbbohfagnnobgaaJoint1
namespace Go.Proofs.Ytbbohfagnnobgaa
open Go.RowKit

set_option maxRecDepth 1000000 in
theorem szAct_any (a : ActD) (n : Int) (h0 : 0 ≤ n) (h1 : n ≤ 1048576) (hf : a.Fits) (w : World) :
    Calls Try.prog 24 #[a.value, .int .i64 n] w fun e w' => ((n - a.bulk < 0 ∧ e = .returned (.int .i64 (-1))) ∨ (0 ≤ n - a.bulk ∧ e = .returned (.int .i64 (n - a.bulk)))) ∧ Below w.heap.size w w' := by
  obtain ⟨f1, f2, f3⟩ := hf
  unfold ActD.value ActD.bulk
  go_enter Try.func24, Try.ntmps24
  go_wp2
  · go_ret
    exact ⟨Or.inl ⟨by omega, rfl⟩, below_more (Below.refl _ _) _⟩
  · go_ret
    exact ⟨Or.inl ⟨by omega, rfl⟩, below_more (Below.refl _ _) _⟩
  · go_ret
    exact ⟨Or.inl ⟨by omega, rfl⟩, below_more (Below.refl _ _) _⟩
  · go_ret
    refine ⟨Or.inr ⟨by omega, ?_⟩, below_more (Below.refl _ _) _⟩
    have e : n - a.name.size - a.text.size - a.to.size = n - (a.name.size + a.text.size + a.to.size) := by omega
    rw [← e]
    rfl

set_option maxRecDepth 1000000 in
theorem toAct_any (a : ActD) (w : World) :
    Calls Try.prog 26 #[a.value] w fun e w' => e = .returned a.value ∧ Below w.heap.size w w' := by
  unfold ActD.value
  go_enter Try.func26, Try.ntmps26
  go_wp2
  refine bodyPost_ret (v := .agg #[.int .i64 a.kind, .string a.name, .string a.text, .string a.to]) (by simp [results, Try.results26, go_sem]) rfl ⟨rfl, below_more (below_more (below_more (Below.refl _ w) _) _) _⟩
end Go.Proofs.Ytbbohfagnnobgaa
