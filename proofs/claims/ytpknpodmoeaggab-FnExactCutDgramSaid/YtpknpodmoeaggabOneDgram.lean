/-
  The walks of laws.szDgram, toDgram: one of them.
-/
import Derived.Test.YtpknpodmoeaggabDataDgram
import Derived.Test.YtpknpodmoeaggabRows
namespace Go.Proofs.Ytpknpodmoeaggab
open Go.RowKit

set_option maxRecDepth 1000000 in
theorem szDgram_any (d : DgramD) (n : Int) (h0 : 0 ≤ n) (h1 : n ≤ 1048576) (hf : d.Fits) (w : World) :
    Calls Try.prog 10 #[.agg #[.int .i64 d.src, .int .i64 d.dst, .int .i64 d.ident, .int .i64 d.place, .bool d.more, .string d.body], .int .i64 n] w fun e w' => ((n - dgramOne d < 0 ∧ e = .returned (.int .i64 (-1))) ∨ (0 ≤ n - dgramOne d ∧ e = .returned (.int .i64 (n - dgramOne d)))) ∧ Below w.heap.size w w' := by
  obtain ⟨_, _, _, _, _, hm5⟩ := hf
  unfold maxLen at hm5
  have HB := hid (below_more (Below.refl w.heap.size w) (.cells #[.int .i64 d.src, .int .i64 d.dst, .int .i64 d.ident, .int .i64 d.place, .bool d.more, .string d.body] 28))
  have HO : Hid (dgramOne d = (d.body.size : Int)) := rfl
  by_cases hbody : n - (d.body.size : Int) < 0
  · go_enter Try.func10, Try.ntmps10
    go_wp2
    go_ret
    exact ⟨Or.inl ⟨by rw [HO.out]; omega, rfl⟩, HB.out⟩
  · go_enter Try.func10, Try.ntmps10
    go_wp2
    go_ret
    exact ⟨Or.inr ⟨by rw [HO.out]; omega, by rw [HO.out]; rfl⟩, HB.out⟩

set_option maxRecDepth 1000000 in
theorem toDgram_any (d : DgramD) (w : World) :
    Calls Try.prog 12 #[.agg #[.int .i64 d.src, .int .i64 d.dst, .int .i64 d.ident, .int .i64 d.place, .bool d.more, .string d.body]] w fun e w' => e = .returned (.agg #[.int .i64 d.src, .int .i64 d.dst, .int .i64 d.ident, .int .i64 d.place, .bool d.more, .string d.body]) ∧ Below w.heap.size w w' := by
  go_enter Try.func12, Try.ntmps12
  go_wp2
  refine bodyPost_ret (v := .agg #[.int .i64 d.src, .int .i64 d.dst, .int .i64 d.ident, .int .i64 d.place, .bool d.more, .string d.body]) (by simp [results, Try.results12, go_sem]) rfl ⟨rfl, below_more (below_more (below_more (Below.refl _ w) _) _) _⟩
end Go.Proofs.Ytpknpodmoeaggab
