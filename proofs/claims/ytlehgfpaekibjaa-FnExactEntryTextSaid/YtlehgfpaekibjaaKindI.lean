/-
  The walks of impl.kindOf, impl.indexOk and of the kinds' data: what they answer.
-/
import Derived.Test.YtlehgfpaekibjaaBodyI
import Derived.Test.YtlehgfpaekibjaaConfBytesI
namespace Go.Proofs.Ytlehgfpaekibjaa
open Go.RowKit

theorem as_none_conf (v : Value) (w : World) : (Instr.typeAssert (.iface 78 v) 54 80 true).run Try.prog w = .ok (.tuple #[.agg #[.slice none 0 0], .bool false]) w := by kernel_rfl
theorem as_none_command (v : Value) (w : World) : (Instr.typeAssert (.iface 78 v) 54 82 true).run Try.prog w = .ok (.tuple #[.agg #[.string ByteArray.empty], .bool false]) w := by kernel_rfl
theorem as_conf_conf (v : Value) (w : World) : (Instr.typeAssert (.iface 80 v) 54 80 true).run Try.prog w = .ok (.tuple #[v, .bool true]) w := by kernel_rfl
theorem as_command_conf (v : Value) (w : World) : (Instr.typeAssert (.iface 82 v) 54 80 true).run Try.prog w = .ok (.tuple #[.agg #[.slice none 0 0], .bool false]) w := by kernel_rfl
theorem as_command_command (v : Value) (w : World) : (Instr.typeAssert (.iface 82 v) 54 82 true).run Try.prog w = .ok (.tuple #[v, .bool true]) w := by kernel_rfl

set_option maxRecDepth 1000000 in
theorem kindOf_none (w : World) : Calls Try.prog 37 #[.iface 78 (.agg #[])] w fun e w' => e = .returned (.int .u8 1) ∧ w' = w := by
  have h1 := as_none_conf (.agg #[])
  have h2 := as_none_command (.agg #[])
  go_enter Try.func37, Try.ntmps37
  go_wp2
  go_ret
  exact ⟨rfl, rfl⟩
set_option maxRecDepth 1000000 in
theorem kindOf_conf (u : Value) (w : World) : Calls Try.prog 37 #[.iface 80 (.agg #[u])] w fun e w' => e = .returned (.int .u8 2) ∧ w' = w := by
  have h1 := as_conf_conf (.agg #[u])
  go_enter Try.func37, Try.ntmps37
  go_wp2
  go_ret
  exact ⟨rfl, rfl⟩
set_option maxRecDepth 1000000 in
theorem kindOf_command (u : Value) (w : World) : Calls Try.prog 37 #[.iface 82 (.agg #[u])] w fun e w' => e = .returned (.int .u8 3) ∧ w' = w := by
  have h1 := as_command_conf (.agg #[u])
  have h2 := as_command_command (.agg #[u])
  go_enter Try.func37, Try.ntmps37
  go_wp2
  go_ret
  exact ⟨rfl, rfl⟩

set_option maxRecDepth 1000000 in
theorem indexOk_any (x : Int) (w : World) : Calls Try.prog 34 #[.int .i64 x] w fun e w' => e = .returned (.bool (within x 1 1000000)) ∧ w' = w := by
  unfold within
  by_cases h1 : 1 ≤ x
  · by_cases h2 : x ≤ 1000000
    · go_enter Try.func34, Try.ntmps34
      go_wp2
      go_ret
      exact ⟨by simp [h1, h2], rfl⟩
    · go_enter Try.func34, Try.ntmps34
      go_wp2
      go_ret
      exact ⟨by simp; omega, rfl⟩
  · go_enter Try.func34, Try.ntmps34
    go_wp2
    go_ret
    exact ⟨by simp; omega, rfl⟩

set_option maxRecDepth 1000000 in
theorem dataNone_any (w : World) : Calls Try.prog 81 #[.agg #[]] w fun e w' => e = .returned (.string ByteArray.empty) ∧ Below w.heap.size w w' := by
  go_enter Try.func81, Try.ntmps81
  go_wp2
  go_ret
  exact ⟨rfl, below_more (Below.refl _ _) _⟩
set_option maxRecDepth 1000000 in
theorem dataCommand_any (s : ByteArray) (w : World) : Calls Try.prog 83 #[.agg #[.string s]] w fun e w' => e = .returned (.string s) ∧ Below w.heap.size w w' := by
  go_enter Try.func83, Try.ntmps83
  go_wp2
  go_ret
  exact ⟨rfl, below_more (Below.refl _ _) _⟩
set_option maxRecDepth 1000000 in
theorem dataConf_any (ao : Option Addr) (zs : List Int) (cap : Nat) (hA : confOk zs = true) (w : World) (hz : IntsAt w ao zs) :
    Calls Try.prog 82 #[.agg #[.slice ao zs.length cap]] w fun e w' => e = .returned (.string ⟨(confBytes zs).toArray⟩) ∧ Below w.heap.size w w' := by
  have HB := hid (below_more (Below.refl w.heap.size w) (.cells #[.slice ao zs.length cap] 80))
  have cB := hid (confBytes_any ao zs cap hA _ (hz.on HB.out))
  clear hz
  go_enter Try.func82, Try.ntmps82
  go_wp2_with (go_at_call 44; refine Calls.mono cB.out ?_; rintro e w2 ⟨rfl, b2⟩)
  go_ret
  exact ⟨rfl, below_via HB.out b2⟩
end Go.Proofs.Ytlehgfpaekibjaa
