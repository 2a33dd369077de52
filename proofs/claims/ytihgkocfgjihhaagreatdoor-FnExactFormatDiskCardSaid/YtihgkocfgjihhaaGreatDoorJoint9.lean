/-
  Lists of numbers in the exact laws, in one form.
  The walk of impl.KeepNew: a new keep.
-/
import Derived.Test.YtihgkocfgjihhaaGreatDoorJoint7
import Derived.Test.YtihgkocfgjihhaaGreatDoorJoint8
import Derived.Test.YtihgkocfgjihhaaGreatDoorJoint1
import Derived.Test.YtihgkocfgjihhaaGreatDoorRows
import Derived.WalkSmall
import Derived.WalkKit
namespace Go.Proofs.YtihgkocfgjihhaaGreatDoor
open Go.RowKit

theorem toIntS_o (ao : Option Addr) (zs : List Int) (cap : Nat) (hl : zs.length ≤ 1048576) (w : World) (ha : IntsAt w ao zs) :
    Calls Tryz.prog 6 #[.slice ao zs.length cap] w fun e w' => ∃ g, e = .returned (.slice (some ⟨g, 0, none⟩) zs.length zs.length) ∧ w.heap.size ≤ g ∧ g < w'.heap.size ∧ BlockIs w' g 3 (intCells zs) ∧ Below w.heap.size w w' := by
  refine (toIntS_any ao zs cap hl w ha).mono ?_
  rintro e w' ⟨rfl, hk, hb⟩
  exact ⟨_, rfl, Nat.le_refl _, hk.lt, hk, hb⟩
theorem ints_of {w : World} {g : Nat} {t : TypeId} {zs : List Int} (h : BlockIs w g t (intCells zs)) : IntsAt w (some ⟨g, 0, none⟩) zs := intsAt_of (r := []) (by rw [List.append_nil]; exact h)
theorem markIntS_o (g : Nat) (zs : List Int) (cap m : Nat) (hm : m ≤ 10000000) (hl : zs.length ≤ 1048576) (w : World) (hb : BlockIs w g 3 (intCells zs)) :
    Calls Tryz.prog 10 #[.slice (some ⟨g, 0, none⟩) zs.length cap, .int .i64 m] w fun e w' => e = .returned (.int .i64 ((m + zs.length : Nat) : Int)) ∧ KeptBut g (g + 1) w w' ∧ Below g w w' := by
  refine (markIntS_any g zs cap m hm hl w hb).mono ?_
  rintro e w' ⟨rfl, _, hg⟩
  refine ⟨rfl, fun j t cs hj hbl => ?_, ⟨hg.os, hg.tape, hg.output, hg.size, fun k hk => hg.block k (Nat.lt_trans hk hb.lt) (fun e => ?_)⟩⟩
  · unfold BlockIs
    rw [hg.block j hbl.lt (fun e => hj (by simp at e; omega))]
    exact hbl
  · simp at e; omega
end Go.Proofs.YtihgkocfgjihhaaGreatDoor

namespace Go.Proofs.YtihgkocfgjihhaaGreatDoor
open Go.RowKit

set_option maxRecDepth 1000000 in
set_option maxHeartbeats 1000000 in
theorem implKeepNew_any (w : World) :
    Calls Tryz.prog 28 #[] w fun e w' => ∃ g, e = .returned (.agg #[.slice none 0 0, .slice (some ⟨g, 0, none⟩) 1 1]) ∧ w.heap.size ≤ g ∧ BlockIs w' g 124 [.string ⟨#[114, 111, 111, 116]⟩, .string ⟨#[]⟩, .int .i64 1] ∧ Below w.heap.size w w' := by
  have hs : (w.alloc (.cells #[.slice none 0 0, .slice (some ⟨w.heap.size + 1, 0, none⟩) 1 1] 67)).heap.size = w.heap.size + 1 := by simp [World.alloc, -World.alloc_eq]
  have h2 := heap_alloc_new (w.alloc (.cells #[.slice none 0 0, .slice (some ⟨w.heap.size + 1, 0, none⟩) 1 1] 67)) (.cells #[.string ⟨#[114, 111, 111, 116]⟩, .string ⟨#[]⟩, .int .i64 1] 124)
  rw [hs] at h2
  have H := hid (And.intro (below_more (below_more (Below.refl _ w) (.cells #[.slice none 0 0, .slice (some ⟨w.heap.size + 1, 0, none⟩) 1 1] 67)) (.cells #[.string ⟨#[114, 111, 111, 116]⟩, .string ⟨#[]⟩, .int .i64 1] 124)) (show BlockIs _ (w.heap.size + 1) 124 [.string ⟨#[114, 111, 111, 116]⟩, .string ⟨#[]⟩, .int .i64 1] from h2))
  clear hs h2
  go_enter Tryz.func28, Tryz.ntmps28
  go_wp2
  refine bodyPost_ret (v := .agg #[.slice none 0 0, .slice (some ⟨w.heap.size + 1, 0, none⟩) 1 1]) (by simp [results, Tryz.results28, go_sem]) rfl ⟨_, rfl, Nat.le_succ _, H.out.2, H.out.1⟩

end Go.Proofs.YtihgkocfgjihhaaGreatDoor
