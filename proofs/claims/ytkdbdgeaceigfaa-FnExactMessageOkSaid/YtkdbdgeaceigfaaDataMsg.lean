/-
  A message in memory: its cells, read and written whole.
-/
import Derived.Test.YtkdbdgeaceigfaaPlainMsg
import Derived.Test.YtkdbdgeaceigfaaEntData
import Derived.Test.YtkdbdgeaceigfaaPlainInts
import Derived.Test.YtkdbdgeaceigfaaRows
import Derived.Test.YtkdbdgeaceigfaaStructMem
namespace Go.Proofs.Ytkdbdgeaceigfaa
open Go.RowKit

/-- a message's cells, its lists at these places -/
def msgCells (d : MsgD) (ao : Option Addr) (ac : Nat) (bo : Option Addr) (bc : Nat) : List Value := [.int .i64 d.kind, .int .i64 d.src, .int .i64 d.dst, .int .i64 d.term, .int .i64 d.index, .int .i64 d.logTerm, .int .i64 d.commit, .bool d.ok, .slice ao d.ents.length ac, .slice bo d.conf.length bc, .string d.data, .bool d.last]
theorem msgCells_all (d : MsgD) (ao : Option Addr) (ac : Nat) (bo : Option Addr) (bc : Nat) : (msgCells d ao ac bo bc).toArray.all (·.oneCell') = true := by simp [msgCells, Value.oneCell']
/-- numbers that are numbers, a text that is a text -/
structure MsgD.Fits (d : MsgD) : Prop where
  kind : -9223372036854775808 ≤ d.kind ∧ d.kind ≤ 9223372036854775807
  src : -9223372036854775808 ≤ d.src ∧ d.src ≤ 9223372036854775807
  dst : -9223372036854775808 ≤ d.dst ∧ d.dst ≤ 9223372036854775807
  term : -9223372036854775808 ≤ d.term ∧ d.term ≤ 9223372036854775807
  index : -9223372036854775808 ≤ d.index ∧ d.index ≤ 9223372036854775807
  logTerm : -9223372036854775808 ≤ d.logTerm ∧ d.logTerm ≤ 9223372036854775807
  commit : -9223372036854775808 ≤ d.commit ∧ d.commit ≤ 9223372036854775807
  data : d.data.size ≤ maxLen
/-- its lists and its text are small -/
structure MsgD.Small (d : MsgD) : Prop where
  ents : d.ents.length ≤ 1048576
  each : ∀ f ∈ d.ents, f.data.size ≤ 1048576
  conf : d.conf.length ≤ 1048576
  data : d.data.size ≤ 1048576
set_option maxRecDepth 1000000 in
theorem msg_size : (Try.prog.info? 30).map (·.size) = some 12 := by kernel_rfl
end Go.Proofs.Ytkdbdgeaceigfaa
