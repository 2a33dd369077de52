/-
  spec.SnapActs, impl.SnapActs, laws.toSnap in the form of the exact laws.
-/
import Derived.Test.YtggogiepebnckaaDoorJoint16
import Derived.Test.YtggogiepebnckaaDoorJoint7
import Derived.Test.YtggogiepebnckaaDoorJoint20
import Derived.Test.YtggogiepebnckaaDoorJoint47
import Derived.Test.YtggogiepebnckaaDoorJoint46
namespace Go.Proofs.YtggogiepebnckaaDoor
open Go.RowKit

theorem toSnap_o (ix tm : Int) (ao : Option Addr) (zs : List Int) (cap : Nat) (bd : ByteArray) (hl : zs.length ≤ 1048576) (w : World) (ha : IntsAt w ao zs) :
    Calls Tryd.prog 25 #[.agg #[.int .i64 ix, .int .i64 tm, .slice ao zs.length cap, .string bd]] w fun e w' => ∃ va vc, e = .returned (.agg #[.int .i64 ix, .int .i64 tm, .slice va zs.length vc, .string bd]) ∧ OwnAt w' 3 (intCells zs) zs.length va w.heap.size w'.heap.size ∧ Below w.heap.size w w' := by
  refine (toSnap_any ix tm ao zs cap bd hl w ha).mono ?_
  rintro e w' ⟨g, hg, rfl, hk, hb⟩
  exact ⟨_, _, rfl, Or.inr ⟨g, [], rfl, hg, hk.lt, by rw [List.append_nil]; exact hk⟩, hb⟩
theorem specSActs_o (ao : Option Addr) (l : List FileD) (cap : Nat) (ix tm : Int) (so : Option Addr) (zs : List Int) (scap : Nat) (bd : ByteArray) (hl : l.length ≤ 1048576) (hsn : ∀ f ∈ l, f.name.size ≤ 1048576) (hzl : zs.length ≤ 1048576) (hbd : bd.size ≤ 1048576) (w : World) (ha : FilesAt w ao l) (hz : IntsAt w so zs) :
    Calls Tryd.prog 24 #[.agg #[.slice ao l.length cap], .agg #[.int .i64 ix, .int .i64 tm, .slice so zs.length scap, .string bd]] w fun e w' => ∃ va vc, e = .returned (.tuple #[.slice va (snapActs l ix tm zs bd).1.length vc, .bool (snapActs l ix tm zs bd).2]) ∧ OwnAt w' 82 (actCells (snapActs l ix tm zs bd).1) (snapActs l ix tm zs bd).1.length va w.heap.size w'.heap.size ∧ Below w.heap.size w w' := by
  refine (specSActs_any ao l cap ix tm so zs scap bd hl hsn hzl hbd w ha hz).mono ?_
  rintro e w' ⟨va, vc, he, ho, hb⟩
  exact ⟨va, vc, he, own_acts ho, hb⟩
theorem implSActs_o (ao : Option Addr) (l : List FileD) (cap : Nat) (ix tm : Int) (so : Option Addr) (zs : List Int) (scap : Nat) (bd : ByteArray) (hl : l.length ≤ 1048576) (hsn : ∀ f ∈ l, f.name.size ≤ 1048576) (hzl : zs.length ≤ 1048576) (hbd : bd.size ≤ 1048576) (w : World) (ha : FilesAt w ao l) (hz : IntsAt w so zs) (ht : Steps w) (htab : Lib.TabIs Tryd.prog w "internal/strconv.uint64pow10" .u64 Lib.pow10Tab) :
    Calls Tryd.prog 26 #[.agg #[.slice ao l.length cap], .agg #[.int .i64 ix, .int .i64 tm, .slice so zs.length scap, .string bd]] w fun e w' => ∃ va vc, e = .returned (.tuple #[.slice va (snapActs l ix tm zs bd).1.length vc, .bool (snapActs l ix tm zs bd).2]) ∧ OwnAt w' 82 (actCells (snapActs l ix tm zs bd).1) (snapActs l ix tm zs bd).1.length va w.heap.size w'.heap.size ∧ Below w.heap.size w w' := by
  refine (implSActs_any ao l cap ix tm so zs scap bd hl hsn hzl hbd w ha hz ht htab).mono ?_
  rintro e w' ⟨va, vc, he, ho, hb⟩
  exact ⟨va, vc, he, own_acts ho, hb⟩
end Go.Proofs.YtggogiepebnckaaDoor
