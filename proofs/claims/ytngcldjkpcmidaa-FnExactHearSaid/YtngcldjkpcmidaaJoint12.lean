/-
  The walks of laws.szSeg, toSeg: one of them.
-/
import Derived.Test.YtngcldjkpcmidaaJoint1
import Derived.Test.YtngcldjkpcmidaaRows
namespace Go.Proofs.Ytngcldjkpcmidaa
open Go.RowKit

set_option maxRecDepth 1000000 in
theorem szSeg_any (d : SegD) (n : Int) (h0 : 0 ≤ n) (h1 : n ≤ 1048576) (hf : d.Fits) (w : World) :
    Calls Try.prog 6 #[.agg #[.int .i64 d.num, .int .i64 d.ack, .int .i64 d.flags, .string d.body], .int .i64 n] w fun e w' => ((n - segOne d < 0 ∧ e = .returned (.int .i64 (-1))) ∨ (0 ≤ n - segOne d ∧ e = .returned (.int .i64 (n - segOne d)))) ∧ Below w.heap.size w w' := by
  obtain ⟨_, _, _, hm3⟩ := hf
  unfold maxLen at hm3
  have HB := hid (below_more (Below.refl w.heap.size w) (.cells #[.int .i64 d.num, .int .i64 d.ack, .int .i64 d.flags, .string d.body] 26))
  have HO : Hid (segOne d = (d.body.size : Int)) := rfl
  by_cases hbody : n - (d.body.size : Int) < 0
  · go_enter Try.func6, Try.ntmps6
    go_wp2
    go_ret
    exact ⟨Or.inl ⟨by rw [HO.out]; omega, rfl⟩, HB.out⟩
  · go_enter Try.func6, Try.ntmps6
    go_wp2
    go_ret
    exact ⟨Or.inr ⟨by rw [HO.out]; omega, by rw [HO.out]; rfl⟩, HB.out⟩

set_option maxRecDepth 1000000 in
theorem toSeg_any (d : SegD) (w : World) :
    Calls Try.prog 9 #[.agg #[.int .i64 d.num, .int .i64 d.ack, .int .i64 d.flags, .string d.body]] w fun e w' => e = .returned (.agg #[.int .i64 d.num, .int .i64 d.ack, .int .i64 d.flags, .string d.body]) ∧ Below w.heap.size w w' := by
  go_enter Try.func9, Try.ntmps9
  go_wp2
  refine bodyPost_ret (v := .agg #[.int .i64 d.num, .int .i64 d.ack, .int .i64 d.flags, .string d.body]) (by simp [results, Try.results9, go_sem]) rfl ⟨rfl, below_more (below_more (below_more (Below.refl _ w) _) _) _⟩
end Go.Proofs.Ytngcldjkpcmidaa
