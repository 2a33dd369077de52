/-
  '[]byte(s)': a new row that holds the text's bytes.
-/
import Derived.Test.YtneociicjidcnaaDoorPlain
import Derived.Test.YtneociicjidcnaaDoorRows
import Derived.Laws.IdiomStrings
import Derived.WalkSmall
import Derived.WalkKit
namespace Go.Proofs.YtneociicjidcnaaDoor
open Go.RowKit

theorem bytes_of (s : ByteArray) (w : World) : ∃ bcap w', (convert 9 22 (.string s)).run Tryd.prog w = .ok (.slice (some ⟨w.heap.size, 0, none⟩) s.size bcap) w' ∧ s.size ≤ bcap ∧ Below w.heap.size w w' ∧ w'.heap.size = w.heap.size + 1 ∧
    (∀ j (hj : j < s.size), w'.cell? ⟨w.heap.size, j, none⟩ = some (.int .u8 (s[j].toNat : Int))) ∧ ∀ j, j < s.size → w'.frozen? ⟨w.heap.size, j, none⟩ = false := by
  refine ⟨_, _, run_bytes_of_string w 9 22 5 s Tryd.underlying9 Tryd.underlying22 Tryd.underlying5, grownCap_ge _ _ _ _, ?_, ?_, fun j hj => ?_, fun j hj => ?_⟩
  · exact (below_drewN (Below.refl _ w) 1).alloc (Nat.le_refl _) _
  · simp [World.alloc, World.drew, -World.alloc_eq, -World.drew_eq]
  · have h := bytesRow_at s (grownCap w s.size 0 5) j hj
    have hb : (w.drew.alloc (.cells (bytesRow s (grownCap w s.size 0 5)) 5 ((bytesRow s (grownCap w s.size 0 5)).size, (bytesRow s (grownCap w s.size 0 5)).size + 1))).heap[w.heap.size]? = some (.cells (bytesRow s (grownCap w s.size 0 5)) 5 ((bytesRow s (grownCap w s.size 0 5)).size, (bytesRow s (grownCap w s.size 0 5)).size + 1)) := heap_alloc_new w.drew _
    simp only [World.cell?, hb]
    exact h
  · have hb : (w.drew.alloc (.cells (bytesRow s (grownCap w s.size 0 5)) 5 ((bytesRow s (grownCap w s.size 0 5)).size, (bytesRow s (grownCap w s.size 0 5)).size + 1))).heap[w.heap.size]? = some (.cells (bytesRow s (grownCap w s.size 0 5)) 5 ((bytesRow s (grownCap w s.size 0 5)).size, (bytesRow s (grownCap w s.size 0 5)).size + 1)) := heap_alloc_new w.drew _
    have hl : j < (bytesRow s (grownCap w s.size 0 5)).size := by
      have : s.data.size = s.size := rfl
      simp [bytesRow]
      omega
    simp only [World.frozen?, hb]
    simp
    omega
end Go.Proofs.YtneociicjidcnaaDoor
