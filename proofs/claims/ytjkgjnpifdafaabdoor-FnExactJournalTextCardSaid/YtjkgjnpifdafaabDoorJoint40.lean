/-
  The walks of impl.kindOf and of the kinds' data: what they answer.
-/
import Derived.Test.YtjkgjnpifdafaabDoorJoint36
import Derived.Test.YtjkgjnpifdafaabDoorJoint38
import Derived.Test.YtjkgjnpifdafaabDoorJoint39
namespace Go.Proofs.YtjkgjnpifdafaabDoor
open Go.RowKit

theorem as_none_conf (v : Value) (w : World) : (Instr.typeAssert (.iface 144 v) 117 146 true).run Tryd.prog w = .ok (.tuple #[.agg #[.slice none 0 0], .bool false]) w := by kernel_rfl
theorem as_none_command (v : Value) (w : World) : (Instr.typeAssert (.iface 144 v) 117 148 true).run Tryd.prog w = .ok (.tuple #[.agg #[.string ByteArray.empty], .bool false]) w := by kernel_rfl
theorem as_conf_conf (v : Value) (w : World) : (Instr.typeAssert (.iface 146 v) 117 146 true).run Tryd.prog w = .ok (.tuple #[v, .bool true]) w := by kernel_rfl
theorem as_command_conf (v : Value) (w : World) : (Instr.typeAssert (.iface 148 v) 117 146 true).run Tryd.prog w = .ok (.tuple #[.agg #[.slice none 0 0], .bool false]) w := by kernel_rfl
theorem as_command_command (v : Value) (w : World) : (Instr.typeAssert (.iface 148 v) 117 148 true).run Tryd.prog w = .ok (.tuple #[v, .bool true]) w := by kernel_rfl

set_option maxRecDepth 1000000 in
theorem kindOf_none (w : World) : Calls Tryd.prog 72 #[.iface 144 (.agg #[])] w fun e w' => e = .returned (.int .u8 1) ∧ w' = w := by
  have h1 := as_none_conf (.agg #[])
  have h2 := as_none_command (.agg #[])
  go_enter Tryd.func72, Tryd.ntmps72
  go_wp2
  go_ret
  exact ⟨rfl, rfl⟩
set_option maxRecDepth 1000000 in
theorem kindOf_conf (u : Value) (w : World) : Calls Tryd.prog 72 #[.iface 146 (.agg #[u])] w fun e w' => e = .returned (.int .u8 2) ∧ w' = w := by
  have h1 := as_conf_conf (.agg #[u])
  go_enter Tryd.func72, Tryd.ntmps72
  go_wp2
  go_ret
  exact ⟨rfl, rfl⟩
set_option maxRecDepth 1000000 in
theorem kindOf_command (u : Value) (w : World) : Calls Tryd.prog 72 #[.iface 148 (.agg #[u])] w fun e w' => e = .returned (.int .u8 3) ∧ w' = w := by
  have h1 := as_command_conf (.agg #[u])
  have h2 := as_command_command (.agg #[u])
  go_enter Tryd.func72, Tryd.ntmps72
  go_wp2
  go_ret
  exact ⟨rfl, rfl⟩

set_option maxRecDepth 1000000 in
theorem dataNone_any (w : World) : Calls Tryd.prog 127 #[.agg #[]] w fun e w' => e = .returned (.string ByteArray.empty) ∧ Below w.heap.size w w' := by
  go_enter Tryd.func127, Tryd.ntmps127
  go_wp2
  go_ret
  exact ⟨rfl, below_more (Below.refl _ _) _⟩
set_option maxRecDepth 1000000 in
theorem dataCommand_any (s : ByteArray) (w : World) : Calls Tryd.prog 130 #[.agg #[.string s]] w fun e w' => e = .returned (.string s) ∧ Below w.heap.size w w' := by
  go_enter Tryd.func130, Tryd.ntmps130
  go_wp2
  go_ret
  exact ⟨rfl, below_more (Below.refl _ _) _⟩
set_option maxRecDepth 1000000 in
theorem dataConf_any (ao : Option Addr) (zs : List Int) (cap : Nat) (hA : confOk zs = true) (w : World) (hz : IntsAt w ao zs) :
    Calls Tryd.prog 128 #[.agg #[.slice ao zs.length cap]] w fun e w' => e = .returned (.string ⟨(confBytes zs).toArray⟩) ∧ Below w.heap.size w w' := by
  have HB := hid (below_more (Below.refl w.heap.size w) (.cells #[.slice ao zs.length cap] 146))
  have cB := hid (confBytes_any ao zs cap hA _ (hz.on HB.out))
  clear hz
  go_enter Tryd.func128, Tryd.ntmps128
  go_wp2_with (go_at_call 129; refine Calls.mono cB.out ?_; rintro e w2 ⟨rfl, b2⟩)
  go_ret
  exact ⟨rfl, below_via HB.out b2⟩
end Go.Proofs.YtjkgjnpifdafaabDoor
