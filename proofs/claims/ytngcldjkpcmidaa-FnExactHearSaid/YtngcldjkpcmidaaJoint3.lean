/-
  The walk of laws.szStream: a stream's letters are counted.
-/
import Derived.Test.YtngcldjkpcmidaaJoint2
import Derived.Test.YtngcldjkpcmidaaJoint1
namespace Go.Proofs.Ytngcldjkpcmidaa
open Go.RowKit

/-- what is counted -/
def strBulk (d : StrD) : Int := (d.wait.size : Int) + d.inn.size + (d.late.length + lateBulk d.late)
theorem strBulk_nonneg (d : StrD) : 0 ≤ strBulk d := by have := lateBulk_nonneg d.late; unfold strBulk; omega
theorem strSmall {d : StrD} (h : 0 ≤ (1048576 : Int) - strBulk d) : d.Small := by
  have h1 := lateBulk_nonneg d.late
  unfold strBulk at h
  refine ⟨by omega, by omega, by omega, fun f hf => ?_⟩
  have := late_le_bulk hf
  unfold lateOne at this
  omega
set_option maxRecDepth 1000000 in
theorem szStream_any (d : StrD) (ao : Option Addr) (cap : Nat) (hd : d.Fits) (hl : d.late.length ≤ maxLen) (hf : LatesFit d.late) (w : World) (ha : LatesAt w ao d.late) :
    Calls Try.prog 5 #[.agg #[.int .i64 d.st, .int .i64 d.iss, .int .i64 d.una, .int .i64 d.rcv, .string d.wait, .int .i64 d.sent, .int .i64 d.fin, .bool d.pf, .string d.inn, .slice ao d.late.length cap, .bool d.owe, .int .i64 d.due, .int .i64 d.times], .int .i64 1048576] w fun e w' => ((1048576 - strBulk d < 0 ∧ e = .returned (.int .i64 (-1))) ∨ (0 ≤ 1048576 - strBulk d ∧ e = .returned (.int .i64 (1048576 - strBulk d)))) ∧ Below w.heap.size w w' := by
  have hN := lateBulk_nonneg d.late
  have HS : Hid (strBulk d = (d.wait.size : Int) + d.inn.size + (d.late.length + lateBulk d.late)) := rfl
  have hw := hd.wait
  have hi := hd.inn
  unfold maxLen at hw hi hl
  have HA := hid ha
  have HB := hid (below_more (Below.refl w.heap.size w) (.cells #[.int .i64 d.st, .int .i64 d.iss, .int .i64 d.una, .int .i64 d.rcv, .string d.wait, .int .i64 d.sent, .int .i64 d.fin, .bool d.pf, .string d.inn, .slice ao d.late.length cap, .bool d.owe, .int .i64 d.due, .int .i64 d.times] 24))
  clear ha
  by_cases h1 : (1048576 : Int) - d.wait.size < 0
  · go_enter Try.func5, Try.ntmps5
    go_wp2
    go_ret
    exact ⟨Or.inl ⟨by rw [HS.out]; omega, rfl⟩, HB.out⟩
  by_cases h2 : (1048576 : Int) - d.wait.size - d.inn.size < 0
  · go_enter Try.func5, Try.ntmps5
    go_wp2
    go_ret
    exact ⟨Or.inl ⟨by rw [HS.out]; omega, rfl⟩, HB.out⟩
  have C := hid (fun w ha => szLateS_any ao d.late cap (1048576 - d.wait.size - d.inn.size) (by omega) (by omega) hl hf w ha)
  clear hf
  go_enter Try.func5, Try.ntmps5
  go_wp2_with fail
  refine (C.out _ (HA.out.on HB.out)).mono ?_
  rintro e w1 ⟨(⟨hneg, rfl⟩ | ⟨hnn, rfl⟩), b1⟩
  · have B1 := hid (below_via HB.out b1)
    clear b1 C
    go_wp2
    go_ret
    exact ⟨Or.inl ⟨by rw [HS.out]; omega, rfl⟩, B1.out⟩
  · have B1 := hid (below_via HB.out b1)
    clear b1 C
    go_wp2
    go_ret
    exact ⟨Or.inr ⟨by rw [HS.out]; omega, by rw [HS.out]; refine congrArg (fun z => Ending.returned (.int .i64 z)) (?_ : _ = _); omega⟩, B1.out⟩
end Go.Proofs.Ytngcldjkpcmidaa
