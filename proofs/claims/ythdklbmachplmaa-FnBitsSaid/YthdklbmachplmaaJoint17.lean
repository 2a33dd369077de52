/-
  spec.JoinBits, for lists of at most three bits that are good: the same answer as impl's.
-/
import Derived.Test.YthdklbmachplmaaJoint9
import Derived.Test.YthdklbmachplmaaJoint10
import Derived.Test.YthdklbmachplmaaJoint11
import Derived.Test.YthdklbmachplmaaJoint12
import Derived.Test.YthdklbmachplmaaJoint13
import Derived.Test.YthdklbmachplmaaJoint14
import Derived.Test.YthdklbmachplmaaJoint15
import Derived.Test.YthdklbmachplmaaJoint16
namespace Go.Proofs.Ythdklbmachplmaa
open Go.RowKit

theorem specJoinBits_any (ao : Option Addr) (l : List BitD) (cap : Nat) (d : DgramD) (now : Int) (hl : l.length ≤ 3) (hg : ∀ e ∈ l, GoodB e ∧ e.ats.length ≤ 900) (hds : d.body.size ≤ 1048576) (w : World) (ha : BitsHold w ao l) :
    Calls Try.prog 8 #[.slice ao l.length cap, .agg #[.int .i64 d.src, .int .i64 d.dst, .int .i64 d.ident, .int .i64 d.place, .bool d.more, .string d.body], .int .i64 now] w fun e w' => JoinDidT (joinB l d now) w e w' := by
  cases hj : joinOk d now with
  | false => exact specJoin_E ao l cap d now hl hg hds w ha (Or.inl hj)
  | true =>
    by_cases hn : d.place = 0 ∧ d.more = false
    · exact specJoin_E ao l cap d now hl hg hds w ha (Or.inr hn)
    · cases hh : (firstAt (joinAt l d now).2.1.ats d.place).isSome with
      | true => exact specJoin_Y ao l cap d now hl hg hds w ha hj hn hh
      | false =>
        cases hb : (bodyB (takeD (joinAt l d now).2.1 d)).isSome with
        | false =>
          cases hf : (foundB l d).isSome with
          | true => exact specJoin_N0f ao l cap d now hl hg hds w ha hj hn hh hb hf
          | false =>
            by_cases h2 : l.length ≤ 2
            · exact specJoin_N0n2 ao l cap d now hl hg hds w ha hj hn hh hb hf h2
            · exact specJoin_N0n3 ao l cap d now hl hg hds w ha hj hn hh hb hf (by omega)
        | true =>
          cases hf : (foundB l d).isSome with
          | true => exact specJoin_N1f ao l cap d now hl hg hds w ha hj hn hh hb hf
          | false =>
            by_cases h2 : l.length ≤ 2
            · exact specJoin_N1n2 ao l cap d now hl hg hds w ha hj hn hh hb hf h2
            · exact specJoin_N1n3 ao l cap d now hl hg hds w ha hj hn hh hb hf (by omega)
end Go.Proofs.Ythdklbmachplmaa
