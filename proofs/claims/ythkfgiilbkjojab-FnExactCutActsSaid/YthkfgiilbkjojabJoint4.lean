/-
  Acts as data; the walks of laws.szAct, toAct.
-/
import Derived.Test.YthkfgiilbkjojabRows
import Derived.Test.YthkfgiilbkjojabJoint1
import Derived.BigQuiet
import Derived.Deep.LoopGhost
import Derived.WalkSmall
import Derived.WalkKit
namespace Go.Proofs.Ythkfgiilbkjojab
open Go.RowKit

/-- an act as data -/
structure ActD where
  kind : Int
  name : ByteArray
  text : ByteArray
  to : ByteArray
def ActD.value (a : ActD) : Value := .agg #[.int .i64 a.kind, .string a.name, .string a.text, .string a.to]
def actEnc (a : ActD) : List Value := [.int .i64 a.kind, .string a.name, .string a.text, .string a.to]
def ActD.bulk (a : ActD) : Int := a.name.size + a.text.size + a.to.size
def ActD.Fits (a : ActD) : Prop := a.name.size ≤ 9223372036854775807 ∧ a.text.size ≤ 9223372036854775807 ∧ a.to.size ≤ 9223372036854775807

set_option maxRecDepth 1000000 in
theorem szAct_any (a : ActD) (n : Int) (h0 : 0 ≤ n) (h1 : n ≤ 1048576) (hf : a.Fits) (w : World) :
    Calls Try.prog 22 #[a.value, .int .i64 n] w fun e w' => ((n - a.bulk < 0 ∧ e = .returned (.int .i64 (-1))) ∨ (0 ≤ n - a.bulk ∧ e = .returned (.int .i64 (n - a.bulk)))) ∧ Below w.heap.size w w' := by
  obtain ⟨f1, f2, f3⟩ := hf
  unfold ActD.value ActD.bulk
  go_enter Try.func22, Try.ntmps22
  go_wp2
  · go_ret
    exact ⟨Or.inl ⟨by omega, rfl⟩, below_more (Below.refl _ _) _⟩
  · go_ret
    exact ⟨Or.inl ⟨by omega, rfl⟩, below_more (Below.refl _ _) _⟩
  · go_ret
    exact ⟨Or.inl ⟨by omega, rfl⟩, below_more (Below.refl _ _) _⟩
  · go_ret
    refine ⟨Or.inr ⟨by omega, ?_⟩, below_more (Below.refl _ _) _⟩
    have e : n - a.name.size - a.text.size - a.to.size = n - (a.name.size + a.text.size + a.to.size) := by omega
    rw [← e]
    rfl

set_option maxRecDepth 1000000 in
theorem toAct_any (a : ActD) (w : World) :
    Calls Try.prog 27 #[a.value] w fun e w' => e = .returned a.value ∧ Below w.heap.size w w' := by
  unfold ActD.value
  go_enter Try.func27, Try.ntmps27
  go_wp2
  refine bodyPost_ret (v := .agg #[.int .i64 a.kind, .string a.name, .string a.text, .string a.to]) (by simp [results, Try.results27, go_sem]) rfl ⟨rfl, below_more (below_more (below_more (Below.refl _ w) _) _) _⟩
end Go.Proofs.Ythkfgiilbkjojab
