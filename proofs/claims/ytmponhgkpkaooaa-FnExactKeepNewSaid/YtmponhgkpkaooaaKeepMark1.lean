/-
  The walks of laws.markKeep, heldKeep, eqKeep over a new keep.
-/
import Derived.Test.YtmponhgkpkaooaaHeldItem
import Derived.Test.YtmponhgkpkaooaaEqKeep
import Derived.Deep.LoopGhost
namespace Go.Proofs.Ytmponhgkpkaooaa
open Go.RowKit

def rootD : ItemD := ⟨⟨#[114, 111, 111, 116]⟩, ⟨#[]⟩, 1⟩
theorem rootCells : [Value.string ⟨#[114, 111, 111, 116]⟩, .string ⟨#[]⟩, .int .i64 1] = itemCells [rootD] := rfl
theorem grown_block {w w' : World} {g j : Nat} {t : TypeId} {cs : List Value} (hg : w.grownBy w' (some g)) (h : BlockIs w j t cs) (hj : j ≠ g) : BlockIs w' j t cs := by
  unfold BlockIs
  rw [hg.block j h.lt (by intro e; simp at e; omega)]
  exact h
theorem grown_below {w0 w w' : World} {g : Nat} (hg : w.grownBy w' (some g)) (hb : Below w0.heap.size w0 w) (h : w0.heap.size ≤ g) : Below w0.heap.size w0 w' :=
  hb.trans ⟨hg.os, hg.tape, hg.output, hg.size, fun k hk' => hg.block k (by have := hb.size; omega) (by intro e; simp at e; omega)⟩
set_option maxRecDepth 1000000 in
theorem markSessionS_nil (a : Option Addr) (c : Nat) (m : Int) (w : World) : Calls Try.prog 25 #[.slice a 0 c, .int .i64 m] w fun e w' => e = .returned (.int .i64 m) ∧ w' = w := by
  go_enter Try.func25, Try.ntmps25
  go_wp2
  go_loopg [1, 5] 0 (fun _ y i wr => wr = w ∧ i = .int .i64 0 ∧ y = .int .i64 m)
  case atStart => exact ⟨rfl, rfl, rfl⟩
  case round =>
    obtain ⟨rfl, rfl, rfl⟩ := hrel
    go_wp2
    go_ret
    exact ⟨rfl, rfl⟩
set_option maxRecDepth 1000000 in
theorem heldSessionS_nil (a : Option Addr) (c : Nat) (m : Int) (w : World) : Calls Try.prog 27 #[.slice a 0 c, .int .i64 m] w fun e w' => e = .returned (.int .i64 m) ∧ w' = w := by
  go_enter Try.func27, Try.ntmps27
  go_wp2
  go_loopg [1, 5] 0 (fun _ y i wr => wr = w ∧ i = .int .i64 0 ∧ y = .int .i64 m)
  case atStart => exact ⟨rfl, rfl, rfl⟩
  case round =>
    obtain ⟨rfl, rfl, rfl⟩ := hrel
    go_wp2
    go_ret
    exact ⟨rfl, rfl⟩

set_option maxRecDepth 1000000 in
theorem markKeep_one (g : Nat) (w : World) (hb : BlockIs w g 46 (itemCells [rootD])) :
    Calls Try.prog 10 #[.agg #[.slice none 0 0, .slice (some ⟨g, 0, none⟩) 1 1], .int .i64 1] w fun e w' => e = .returned (.int .i64 4) ∧ BlockIs w' g 46 (itemCells (marksItem 1 1)) ∧ w.grownBy w' (some g) := by
  have C := hid (fun w => markSessionS_nil none 0 1 w)
  have D := hid (fun w hb => markItemS_any g [rootD] 1 1 [] (by omega) (by decide) w hb)
  have HD := hid (World.grownBy_alloc w (.cells #[.slice none 0 0, .slice (some ⟨g, 0, none⟩) 1 1] 25) (some g))
  have HD2 := hid (hb.on (below_more (Below.refl w.heap.size w) (.cells #[.slice none 0 0, .slice (some ⟨g, 0, none⟩) 1 1] 25)) hb.lt)
  clear hb
  go_enter Try.func10, Try.ntmps10
  go_wp2_with fail
  refine (C.out _).mono ?_
  rintro e w1 ⟨rfl, hw⟩
  rw [hw]
  clear hw w1
  go_wp2_with fail
  refine (D.out _ (by rw [List.append_nil]; exact HD2.out)).mono ?_
  rintro e w1 ⟨rfl, k1, g1⟩
  rw [List.append_nil] at k1
  have K1 := hid k1
  have G1 := hid (HD.out.trans g1)
  clear k1 g1 C D HD HD2
  go_wp2
  go_ret
  exact ⟨rfl, K1.out, G1.out⟩

set_option maxRecDepth 1000000 in
theorem heldKeep_one (g : Nat) (w : World) (ha : ItemsAt w (some ⟨g, 0, none⟩) (marksItem 1 1)) :
    Calls Try.prog 11 #[.agg #[.slice none 0 0, .slice (some ⟨g, 0, none⟩) 1 1], .int .i64 1] w fun e w' => e = .returned (.int .i64 4) ∧ Below w.heap.size w w' := by
  have C := hid (fun w => heldSessionS_nil none 0 1 w)
  have D : Hid (∀ w, ItemsAt w (some ⟨g, 0, none⟩) (marksItem 1 1) → Calls Try.prog 28 #[.slice (some ⟨g, 0, none⟩) 1 1, .int .i64 1] w fun e w' => e = .returned (.int .i64 4) ∧ Below w.heap.size w w') := fun w ha => heldItemS_any (some ⟨g, 0, none⟩) 1 1 1 (by omega) (by omega) w ha
  have HB := hid (below_more (Below.refl w.heap.size w) (.cells #[.slice none 0 0, .slice (some ⟨g, 0, none⟩) 1 1] 25))
  have HA := hid ha
  clear ha
  go_enter Try.func11, Try.ntmps11
  go_wp2_with fail
  refine (C.out _).mono ?_
  rintro e w1 ⟨rfl, hw⟩
  rw [hw]
  clear hw w1
  go_wp2_with fail
  refine (D.out _ (HA.out.on HB.out)).mono ?_
  rintro e w1 ⟨rfl, b1⟩
  have B1 := hid (below_via HB.out b1)
  clear b1 C D HB
  go_wp2
  go_ret
  exact ⟨rfl, B1.out⟩

theorem eqKeep_one (g h : Nat) (w : World) (hg : BlockIs w g 46 (itemCells [rootD])) (hh : BlockIs w h 46 (itemCells [rootD])) :
    Calls Try.prog 9 #[.agg #[.slice none 0 0, .slice (some ⟨g, 0, none⟩) 1 1], .agg #[.slice none 0 0, .slice (some ⟨h, 0, none⟩) 1 1]] w fun e w' => e = .returned (.bool true) ∧ Below w.heap.size w w' :=
  eqKeep_same none none (some ⟨g, 0, none⟩) (some ⟨h, 0, none⟩) [] [rootD] 0 0 1 1 (by decide) (by decide) w (fun e => absurd rfl e) (fun e => absurd rfl e) (itemsAt_of (r := []) (by rw [List.append_nil]; exact hg)) (itemsAt_of (r := []) (by rw [List.append_nil]; exact hh))
end Go.Proofs.Ytmponhgkpkaooaa
