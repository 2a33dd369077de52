/-
  The walk of spec.Hear: what comes; what l13Body does is its premise.
-/
import Derived.Test.YtngcldjkpcmidaaJoint49
import Derived.Test.YtngcldjkpcmidaaJoint27
import Derived.Test.YtngcldjkpcmidaaJoint50
import Derived.Test.YtngcldjkpcmidaaJoint28
import Derived.Test.YtngcldjkpcmidaaJoint51
namespace Go.Proofs.Ytngcldjkpcmidaa
open Go.RowKit

theorem specHear_with (d : StrD) (ao : Option Addr) (cap : Nat) (hs : d.Small) (s : SegD) (hsb : s.body.size ≤ 1048576) (CB : strOk d = true → segOk s = true → ∀ lo g, BodyDoesS lo g s d) (hin : strOk d = true → segOk s = true → (hear0 s d).inn.size ≤ 1048576) (w : World) (ha : LatesAt w ao d.late) :
    Calls Try.prog 7 #[.agg #[.int .i64 d.st, .int .i64 d.iss, .int .i64 d.una, .int .i64 d.rcv, .string d.wait, .int .i64 d.sent, .int .i64 d.fin, .bool d.pf, .string d.inn, .slice ao d.late.length cap, .bool d.owe, .int .i64 d.due, .int .i64 d.times], .agg #[.int .i64 s.num, .int .i64 s.ack, .int .i64 s.flags, .string s.body]] w fun e w' => StrDid1 w (hearD s d) e w' := by
  by_cases h : strOk d = true ∧ segOk s = true
  · have h4 := (strOk_iff.1 h.1).st
    obtain e | e | e | e | e : d.st = 0 ∨ d.st = 1 ∨ d.st = 2 ∨ d.st = 3 ∨ d.st = 4 := by omega
    · exact specHear_st0 d ao cap hs s hsb CB hin (fun _ _ => e) w ha
    · exact specHear_st1 d ao cap hs s hsb CB hin (fun _ _ => e) w ha
    · exact specHear_st2 d ao cap hs s hsb CB hin (fun _ _ => e) w ha
    · exact specHear_st3 d ao cap hs s hsb CB hin (fun _ _ => e) w ha
    · exact specHear_st4 d ao cap hs s hsb CB hin (fun _ _ => e) w ha
  · exact specHear_st0 d ao cap hs s hsb CB hin (fun h1 h2 => absurd ⟨h1, h2⟩ h) w ha
end Go.Proofs.Ytngcldjkpcmidaa
