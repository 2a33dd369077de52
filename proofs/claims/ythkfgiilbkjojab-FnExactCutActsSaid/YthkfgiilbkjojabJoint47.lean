/-
  The walks of spec.CutActs and impl.CutActs where whole is out of its bounds.
-/
import Derived.Test.YthkfgiilbkjojabJoint41
import Derived.Test.YthkfgiilbkjojabJoint46
namespace Go.Proofs.Ythkfgiilbkjojab
open Go.RowKit

set_option maxRecDepth 1000000 in
theorem implCut_no (ao : Option Addr) (l : List FileD) (cap : Nat) (bo : Option Addr) (acts : List ActD) (bcap : Nat) (nn : Int) (lo : Option Addr) (zs : List Int) (lcap : Nat) (hal : acts.length ≤ 1048576) (hn : nn < 0 ∨ (acts.length : Int) < nn) (w : World) :
    Calls Try.prog 11 #[.agg #[.slice ao l.length cap], .slice bo acts.length bcap, .int .i64 nn, .slice lo zs.length lcap] w fun e w' => e = .returned (.tuple #[.agg #[.slice none 0 0], .bool false]) ∧ Below w.heap.size w w' := by
  have hxR : BlockIs ((w.alloc (.cells #[.slice ao l.length cap] 31)).alloc (.cells #[.slice none 0 0] 31)) (w.heap.size + 1) 31 [.slice none 0 0] := by
    have := heap_alloc_new (w.alloc (.cells #[.slice ao l.length cap] 31)) (.cells #[.slice none 0 0] 31)
    rw [show (w.alloc (.cells #[.slice ao l.length cap] 31)).heap.size = w.heap.size + 1 by simp [World.alloc, -World.alloc_eq]] at this
    exact this
  obtain ⟨W1, hW1⟩ : ∃ W1, (w.alloc (.cells #[.slice ao l.length cap] 31)).alloc (.cells #[.slice none 0 0] 31) = W1 := ⟨_, rfl⟩
  rw [hW1] at hxR
  have hb1 : Below w.heap.size w W1 := by rw [← hW1]; exact below_more (below_more (Below.refl _ w) _) _
  have r0 := hxR.cell (j := 0) rfl
  have s0 := hxR.thaw 0
  have HB := hid (hb1.setCell (p := ⟨w.heap.size + 1, 0, none⟩) (by show _ ≤ _ + 1; omega) (.slice none 0 0))
  clear hxR hb1
  go_enter Try.func11, Try.ntmps11
  rcases hn with h0 | h1
  · go_wp2
    refine bodyPost_ret (v := .tuple #[.agg #[.slice none 0 0], .bool false]) (by simp [results, Try.results11, go_sem, r0]) rfl ⟨rfl, HB.out⟩
  · have h0 : ¬ nn < 0 := by omega
    go_wp2
    refine bodyPost_ret (v := .tuple #[.agg #[.slice none 0 0], .bool false]) (by simp [results, Try.results11, go_sem, r0]) rfl ⟨rfl, HB.out⟩

set_option maxRecDepth 1000000 in
theorem specCut_no (ao : Option Addr) (l : List FileD) (cap : Nat) (bo : Option Addr) (acts : List ActD) (bcap : Nat) (nn : Int) (lo : Option Addr) (zs : List Int) (lcap : Nat) (_hal : acts.length ≤ 1048576) (hn : nn < 0 ∨ (acts.length : Int) < nn) (w : World) :
    Calls Try.prog 7 #[.agg #[.slice ao l.length cap], .slice bo acts.length bcap, .int .i64 nn, .slice lo zs.length lcap] w fun e w' => e = .returned (.tuple #[.agg #[.slice none 0 0], .bool false]) ∧ Below w.heap.size w w' := by
  have hxR : BlockIs ((w.alloc (.cells #[.slice ao l.length cap] 31)).alloc (.cells #[.slice none 0 0] 31)) (w.heap.size + 1) 31 [.slice none 0 0] := by
    have := heap_alloc_new (w.alloc (.cells #[.slice ao l.length cap] 31)) (.cells #[.slice none 0 0] 31)
    rw [show (w.alloc (.cells #[.slice ao l.length cap] 31)).heap.size = w.heap.size + 1 by simp [World.alloc, -World.alloc_eq]] at this
    exact this
  obtain ⟨W1, hW1⟩ : ∃ W1, (w.alloc (.cells #[.slice ao l.length cap] 31)).alloc (.cells #[.slice none 0 0] 31) = W1 := ⟨_, rfl⟩
  rw [hW1] at hxR
  have hb1 : Below w.heap.size w W1 := by rw [← hW1]; exact below_more (below_more (Below.refl _ w) _) _
  have r0 := hxR.cell (j := 0) rfl
  have s0 := hxR.thaw 0
  have HB := hid (hb1.setCell (p := ⟨w.heap.size + 1, 0, none⟩) (by show _ ≤ _ + 1; omega) (.slice none 0 0))
  clear hxR hb1
  go_enter Try.func7, Try.ntmps7
  have CI := hid (fun w => l01In_any nn 0 acts.length w)
  rw [show within nn 0 acts.length = false by simp [within]; omega] at CI
  go_wp2_with fail
  refine (CI.out _).mono ?_
  rintro e w' ⟨rfl, hw⟩
  rw [hw]
  clear hw w' CI
  go_wp2
  refine bodyPost_ret (v := .tuple #[.agg #[.slice none 0 0], .bool false]) (by simp [results, Try.results7, go_sem, r0]) rfl ⟨rfl, HB.out⟩

/-- what CutActs answers -/
def cutAns (l : List FileD) (acts : List ActD) (nn : Int) (zs : List Int) : List FileD × Bool :=
  if 0 ≤ nn ∧ nn ≤ acts.length then (if ((doAll l (acts.take nn.toNat)).2 : Int) < nn then ([], false) else loseAns (doAll l (acts.take nn.toNat)).1 zs) else ([], false)
end Go.Proofs.Ythkfgiilbkjojab
