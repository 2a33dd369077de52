/-
  Blocks that stand where others are written or new ones come; nothing of the program stands here.
-/
import Derived.Test.YtdgohbhffjinmaaBlock
import Derived.Test.YtdgohbhffjinmaaOwnAt
import Derived.Test.YtdgohbhffjinmaaGrownDrew
namespace Go.Proofs.Ytdgohbhffjinmaa
open Go.RowKit

theorem blk_grown {w w' : World} {g r : Nat} {t : TypeId} {cs : List Value} (h : BlockIs w g t cs) (hg : w.grownBy w' (some r)) (hr : g ≠ r) : BlockIs w' g t cs := by
  have hlt := h.lt
  unfold BlockIs at h ⊢
  rw [hg.block g hlt (by simp; omega)]
  exact h
theorem below_grown {n r : Nat} {w w1 w2 : World} (h : Below n w w1) (hg : w1.grownBy w2 (some r)) (hr : n ≤ r) (hs : n ≤ w1.heap.size) : Below n w w2 :=
  h.grown hg hs (fun k e => by simp at e; omega)
theorem grown_none {w w' : World} (h : w.grownBy w' none) (r : Nat) : w.grownBy w' (some r) := by
  obtain ⟨h1, h2, h3, h4, h5⟩ := h
  exact ⟨h1, h2, h3, h4, fun b hb _ => h5 b hb (by simp)⟩
theorem three_blocks (w : World) (o p q : Obj) : Below w.heap.size w (((w.alloc o).alloc p).alloc q) ∧ (((w.alloc o).alloc p).alloc q).heap.size = w.heap.size + 3 ∧ (((w.alloc o).alloc p).alloc q).heap[w.heap.size]? = some o ∧ (((w.alloc o).alloc p).alloc q).heap[w.heap.size + 1]? = some p ∧ (((w.alloc o).alloc p).alloc q).heap[w.heap.size + 1 + 1]? = some q := by
  refine ⟨below_more (below_more (below_more (Below.refl _ w) _) _) _, by simp [World.alloc, -World.alloc_eq], ?_, ?_, ?_⟩
  · show (((w.heap.push o).push p).push q)[w.heap.size]? = some o
    rw [Array.getElem?_push, if_neg (by simp; omega), Array.getElem?_push, if_neg (by simp), Array.getElem?_push, if_pos rfl]
  · show (((w.heap.push o).push p).push q)[w.heap.size + 1]? = some p
    rw [Array.getElem?_push, if_neg (by simp), Array.getElem?_push, if_pos (by simp)]
  · show (((w.heap.push o).push p).push q)[w.heap.size + 1 + 1]? = some q
    rw [Array.getElem?_push, if_pos (by simp)]
theorem two_blocks (w : World) (o p : Obj) : Below w.heap.size w ((w.alloc o).alloc p) ∧ ((w.alloc o).alloc p).heap.size = w.heap.size + 2 ∧ ((w.alloc o).alloc p).heap[w.heap.size]? = some o ∧ ((w.alloc o).alloc p).heap[w.heap.size + 1]? = some p := by
  refine ⟨below_more (below_more (Below.refl _ w) _) _, by simp [World.alloc, -World.alloc_eq], ?_, ?_⟩
  · show ((w.heap.push o).push p)[w.heap.size]? = some o
    rw [Array.getElem?_push, if_neg (by simp), Array.getElem?_push, if_pos rfl]
  · show ((w.heap.push o).push p)[w.heap.size + 1]? = some p
    rw [Array.getElem?_push, if_pos (by simp)]

/-- what hangs on blocks of two types alone -/
def Stays (t1 t2 : TypeId) (Q : World → Prop) : Prop := ∀ x y : World, (∀ g t cs, t = t1 ∨ t = t2 → BlockIs x g t cs → BlockIs y g t cs) → Q x → Q y
theorem Stays.alloc {t1 t2 : TypeId} {Q : World → Prop} (h : Stays t1 t2 Q) {x : World} (q : Q x) (o : Obj) : Q (x.alloc o) :=
  h _ _ (fun _ _ _ _ hb => hb.on (below_more (Below.refl _ _) o) hb.lt) q
theorem Stays.drawn {t1 t2 : TypeId} {Q : World → Prop} (h : Stays t1 t2 Q) {x : World} (q : Q x) (n : Nat) : Q (x.drewN n) := h x (x.drewN n) (fun _ _ _ _ hb => hb) q
theorem Stays.put {t1 t2 tb : TypeId} {Q : World → Prop} {cb : List Value} {b : Nat} (h : Stays t1 t2 Q) {x : World} (q : Q x) (hb : BlockIs x b tb cb) (h1 : tb ≠ t1) (h2 : tb ≠ t2) (j : Nat) (u : Value) : Q (x.setCell ⟨b, j, none⟩ u) :=
  h _ _ (fun _ _ _ ht hg => hg.far (fun e => by subst e; have := (block_one hb hg).1; rcases ht with rfl | rfl; exact h1 this; exact h2 this) u) q
theorem Stays.grown {t1 t2 tb : TypeId} {Q : World → Prop} {cb : List Value} {b : Nat} (h : Stays t1 t2 Q) {x y : World} (q : Q x) (hg : x.grownBy y (some b)) (hb : BlockIs x b tb cb) (h1 : tb ≠ t1) (h2 : tb ≠ t2) : Q y :=
  h _ _ (fun _ _ _ ht hc => blk_grown hc hg (fun e => by subst e; have := (block_one hb hc).1; rcases ht with rfl | rfl; exact h1 this; exact h2 this)) q
end Go.Proofs.Ytdgohbhffjinmaa
