/-
  The walks of laws.szCell, toCell: one of them.
-/
import Derived.Test.YtneociicjidcnaaDoorDataCell
import Derived.Test.YtneociicjidcnaaDoorRows
namespace Go.Proofs.YtneociicjidcnaaDoor
open Go.RowKit

set_option maxRecDepth 1000000 in
theorem szCell_any (d : CellD) (n : Int) (h0 : 0 ≤ n) (h1 : n ≤ 1048576) (hf : d.Fits) (w : World) :
    Calls Tryd.prog 16 #[.agg #[.int .i64 d.dst, .int .i64 d.src, .int .i64 d.kd, .string d.body], .int .i64 n] w fun e w' => ((n - cellOne d < 0 ∧ e = .returned (.int .i64 (-1))) ∨ (0 ≤ n - cellOne d ∧ e = .returned (.int .i64 (n - cellOne d)))) ∧ Below w.heap.size w w' := by
  obtain ⟨_, _, _, hm3⟩ := hf
  unfold maxLen at hm3
  have HB := hid (below_more (Below.refl w.heap.size w) (.cells #[.int .i64 d.dst, .int .i64 d.src, .int .i64 d.kd, .string d.body] 36))
  have HO : Hid (cellOne d = (d.body.size : Int)) := rfl
  by_cases hbody : n - (d.body.size : Int) < 0
  · go_enter Tryd.func16, Tryd.ntmps16
    go_wp2
    go_ret
    exact ⟨Or.inl ⟨by rw [HO.out]; omega, rfl⟩, HB.out⟩
  · go_enter Tryd.func16, Tryd.ntmps16
    go_wp2
    go_ret
    exact ⟨Or.inr ⟨by rw [HO.out]; omega, by rw [HO.out]; rfl⟩, HB.out⟩

set_option maxRecDepth 1000000 in
theorem toCell_any (d : CellD) (w : World) :
    Calls Tryd.prog 18 #[.agg #[.int .i64 d.dst, .int .i64 d.src, .int .i64 d.kd, .string d.body]] w fun e w' => e = .returned (.agg #[.int .i64 d.dst, .int .i64 d.src, .int .i64 d.kd, .string d.body]) ∧ Below w.heap.size w w' := by
  go_enter Tryd.func18, Tryd.ntmps18
  go_wp2
  refine bodyPost_ret (v := .agg #[.int .i64 d.dst, .int .i64 d.src, .int .i64 d.kd, .string d.body]) (by simp [results, Tryd.results18, go_sem]) rfl ⟨rfl, below_more (below_more (below_more (Below.refl _ w) _) _) _⟩
end Go.Proofs.YtneociicjidcnaaDoor
