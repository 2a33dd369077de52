/-
  impl.Hear: what comes, of whatever stream and segment.
-/
import Derived.Test.YtngcldjkpcmidaaJoint42
import Derived.Test.YtngcldjkpcmidaaJoint47
import Derived.Test.YtngcldjkpcmidaaJoint1
namespace Go.Proofs.Ytngcldjkpcmidaa
open Go.RowKit

theorem implHear_any (d : StrD) (ao : Option Addr) (cap : Nat) (hs : d.Small) (s : SegD) (hsb : s.body.size ≤ 1048576) (w : World) (ha : LatesAt w ao d.late) :
    Calls Try.prog 10 #[.agg #[.int .i64 d.st, .int .i64 d.iss, .int .i64 d.una, .int .i64 d.rcv, .string d.wait, .int .i64 d.sent, .int .i64 d.fin, .bool d.pf, .string d.inn, .slice ao d.late.length cap, .bool d.owe, .int .i64 d.due, .int .i64 d.times], .agg #[.int .i64 s.num, .int .i64 s.ack, .int .i64 s.flags, .string s.body]] w fun e w' => StrDid1 w (hearD s d) e w' := by
  refine implHear_if d ao cap hs s hsb (fun h1 h2 lo g => ?_) (fun h1 h2 => ?_) w ha
  · have hR := strOk_iff.1 h1
    have h8 := (segOk_iff.1 h2).2.2.2.1
    intro _ x W hl hi _ hx
    exact takeBody_any lo g x 0 [] s.num s.body (by omega) (by rw [hi]; exact hR.inn) (by rw [hl]; exact hR.fewL) W hx
  · have hR := strOk_iff.1 h1
    have h8 := (segOk_iff.1 h2).2.2.2.1
    have := (hear0_few (s := s) hR.fewL (by omega)).2
    have := hR.inn
    omega
end Go.Proofs.Ytngcldjkpcmidaa
