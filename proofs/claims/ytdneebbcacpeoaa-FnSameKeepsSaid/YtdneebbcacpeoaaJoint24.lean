/-
  The walk of spec.KeepNew: a new keep.
-/
import Derived.Test.YtdneebbcacpeoaaJoint1
import Derived.Test.YtdneebbcacpeoaaRows
import Derived.WalkSmall
import Derived.WalkKit
namespace Go.Proofs.Ytdneebbcacpeoaa
open Go.RowKit

set_option maxRecDepth 1000000 in
set_option maxHeartbeats 1000000 in
theorem specKeepNew_any (w : World) :
    Calls Try.prog 27 #[] w fun e w' => ∃ g, e = .returned (.agg #[.slice none 0 0, .slice (some ⟨g, 0, none⟩) 1 1]) ∧ w.heap.size ≤ g ∧ BlockIs w' g 39 [.string ⟨#[114, 111, 111, 116]⟩, .string ⟨#[]⟩, .int .i64 1] ∧ Below w.heap.size w w' := by
  have hs : (w.alloc (.cells #[.slice none 0 0, .slice (some ⟨w.heap.size + 1, 0, none⟩) 1 1] 27)).heap.size = w.heap.size + 1 := by simp [World.alloc, -World.alloc_eq]
  have h2 := heap_alloc_new (w.alloc (.cells #[.slice none 0 0, .slice (some ⟨w.heap.size + 1, 0, none⟩) 1 1] 27)) (.cells #[.string ⟨#[114, 111, 111, 116]⟩, .string ⟨#[]⟩, .int .i64 1] 39)
  rw [hs] at h2
  have H := hid (And.intro (below_more (below_more (Below.refl _ w) (.cells #[.slice none 0 0, .slice (some ⟨w.heap.size + 1, 0, none⟩) 1 1] 27)) (.cells #[.string ⟨#[114, 111, 111, 116]⟩, .string ⟨#[]⟩, .int .i64 1] 39)) (show BlockIs _ (w.heap.size + 1) 39 [.string ⟨#[114, 111, 111, 116]⟩, .string ⟨#[]⟩, .int .i64 1] from h2))
  clear hs h2
  go_enter Try.func27, Try.ntmps27
  go_wp2
  refine bodyPost_ret (v := .agg #[.slice none 0 0, .slice (some ⟨w.heap.size + 1, 0, none⟩) 1 1]) (by simp [results, Try.results27, go_sem]) rfl ⟨_, rfl, Nat.le_succ _, H.out.2, H.out.1⟩
end Go.Proofs.Ytdneebbcacpeoaa
