/-
  The walks of laws.szCommand, toCommand: one of them.
-/
import Derived.Test.YtdgohbhffjinmaaDoorDataCommand
import Derived.Test.YtdgohbhffjinmaaDoorRows
namespace Go.Proofs.YtdgohbhffjinmaaDoor
open Go.RowKit

set_option maxRecDepth 1000000 in
theorem szCommand_any (d : CommandD) (n : Int) (h0 : 0 ≤ n) (h1 : n ≤ 1048576) (hf : d.Fits) (w : World) :
    Calls Tryd.prog 5 #[.agg #[.int .i64 d.op, .int .i64 d.token, .int .i64 d.seq, .string d.key, .string d.val, .int .i64 d.ver], .int .i64 n] w fun e w' => ((n - commandOne d < 0 ∧ e = .returned (.int .i64 (-1))) ∨ (0 ≤ n - commandOne d ∧ e = .returned (.int .i64 (n - commandOne d)))) ∧ Below w.heap.size w w' := by
  obtain ⟨_, _, _, hm3, hm4, _⟩ := hf
  unfold maxLen at hm3
  unfold maxLen at hm4
  have HB := hid (below_more (Below.refl w.heap.size w) (.cells #[.int .i64 d.op, .int .i64 d.token, .int .i64 d.seq, .string d.key, .string d.val, .int .i64 d.ver] 23))
  have HO : Hid (commandOne d = (d.key.size : Int) + (d.val.size : Int)) := rfl
  by_cases hkey : n - (d.key.size : Int) < 0
  · go_enter Tryd.func5, Tryd.ntmps5
    go_wp2
    go_ret
    exact ⟨Or.inl ⟨by rw [HO.out]; omega, rfl⟩, HB.out⟩
  · skip
    by_cases hval : n - (d.key.size : Int) - (d.val.size : Int) < 0
    · go_enter Tryd.func5, Tryd.ntmps5
      go_wp2
      go_ret
      exact ⟨Or.inl ⟨by rw [HO.out]; omega, rfl⟩, HB.out⟩
    · go_enter Tryd.func5, Tryd.ntmps5
      go_wp2
      go_ret
      exact ⟨Or.inr ⟨by rw [HO.out]; omega, by rw [HO.out]; refine congrArg (fun z => Ending.returned (.int .i64 z)) (?_ : _ = _); omega⟩, HB.out⟩

set_option maxRecDepth 1000000 in
theorem toCommand_any (d : CommandD) (w : World) :
    Calls Tryd.prog 7 #[.agg #[.int .i64 d.op, .int .i64 d.token, .int .i64 d.seq, .string d.key, .string d.val, .int .i64 d.ver]] w fun e w' => e = .returned (.agg #[.int .i64 d.op, .int .i64 d.token, .int .i64 d.seq, .string d.key, .string d.val, .int .i64 d.ver]) ∧ Below w.heap.size w w' := by
  go_enter Tryd.func7, Tryd.ntmps7
  go_wp2
  refine bodyPost_ret (v := .agg #[.int .i64 d.op, .int .i64 d.token, .int .i64 d.seq, .string d.key, .string d.val, .int .i64 d.ver]) (by simp [results, Tryd.results7, go_sem]) rfl ⟨rfl, below_more (below_more (below_more (Below.refl _ w) _) _) _⟩
end Go.Proofs.YtdgohbhffjinmaaDoor
