/-
  The walks of laws.eqEntry, eqEntryS: two lists of entries that are alike are found alike.
-/
import Derived.Test.YtihgkocfgjihhaaGreatDoorJoint1
import Derived.Test.YtihgkocfgjihhaaGreatDoorRows
import Derived.Lib.QuietBelow
namespace Go.Proofs.YtihgkocfgjihhaaGreatDoor
open Go.RowKit Go.Sort

set_option maxRecDepth 1000000 in
theorem eqEntry_same (f : EntD) (w : World) :
    Calls Tryz.prog 180 #[.agg #[.int .i64 f.term, .int .i64 f.kind, .string f.data], .agg #[.int .i64 f.term, .int .i64 f.kind, .string f.data]] w fun e w' => e = .returned (.bool true) ∧ Below w.heap.size w w' := by
  have hb : Hid (∀ (o p : Obj), Below w.heap.size w ((w.alloc o).alloc p)) := fun o p => ((Below.refl _ w).alloc (Nat.le_refl _) _).alloc (by simp [World.alloc, -World.alloc_eq]) _
  go_enter Tryz.func180, Tryz.ntmps180
  go_wp2
  go_ret
  exact ⟨rfl, hb.out _ _⟩

set_option maxRecDepth 1000000 in
set_option maxHeartbeats 1000000 in
theorem eqEntryS_same (ao bo : Option Addr) (l : List EntD) (cap cap' : Nat) (hl : l.length ≤ 140737488355328) (w : World) (ha : EntsAt w ao l) (hb : EntsAt w bo l) :
    Calls Tryz.prog 151 #[.slice ao l.length cap, .slice bo l.length cap'] w fun e w' => e = .returned (.bool true) ∧ Below w.heap.size w w' := by
  have HA := (show Hid (EntsAt w ao l) from ha)
  have HB := (show Hid (EntsAt w bo l) from hb)
  clear ha hb
  go_enter Tryz.func151, Tryz.ntmps151
  go_wp2
  go_loopg [5] l.length (fun g i wr => ∃ (k : Nat), k + g = l.length ∧ i = .int .i64 k ∧ Hid (Below w.heap.size w wr))
  case atStart => exact ⟨0, by omega, rfl, (show Below _ _ _ from Below.refl _ _)⟩
  case round =>
    obtain ⟨k, hkg, rfl, BR⟩ := hrel
    cases gk with
    | zero =>
      have hlt : ¬ (k : Int) < (l.length : Int) := by omega
      go_wp2
      go_ret
      exact ⟨rfl, BR.out⟩
    | succ g =>
      have hlt : k < l.length := by omega
      have hlt' : (k : Int) < (l.length : Int) := by omega
      have hne : l ≠ [] := by intro e; rw [e] at hlt; simp at hlt
      obtain ⟨b, off, rfl, hc⟩ := HA.out.on BR.out hne
      obtain ⟨x0, x1, x2⟩ := hc k hlt
      obtain ⟨b', off', rfl, hc'⟩ := HB.out.on BR.out hne
      obtain ⟨y0, y1, y2⟩ := hc' k hlt
      have X0 := cell_regrown x0
      have X1 := cell_regrown x1
      have X2 := cell_regrown x2
      have Y0 := cell_regrown y0
      have Y1 := cell_regrown y1
      have Y2 := cell_regrown y2
      clear hc hc' x0 x1 x2 y0 y1 y2
      have C' := fun d os => Calls.regrown_of (w := wr) (d := d) (os := os) (eqEntry_same l[k] _)
      have C := (show Hid _ from C')
      clear C'
      go_wp2
      refine wp_region_quiet_below (by kernel_rfl) (by kernel_rfl) ?_
      repeat (first | go_big_quiet_step (first | (go_at_call 180; exact C.out _ _) | fail) | quiet_step (first | (go_at_call 180; exact C.out _ _) | fail))
      refine wpQuiet_nil ?_
      intro _ hw'
      obtain ⟨⟨dq, osq⟩, hw''⟩ := hw'
      subst hw''
      have BQ : Hid (Below w.heap.size w (grow (redrawn wr dq) osq)) := BR.out.trans ((below_regrown wr dq osq).mono BR.out.size)
      generalize grow (redrawn wr dq) osq = wq at BQ ⊢
      clear X0 X1 X2 Y0 Y1 Y2 C
      go_wp2
      go_roundg g
      case measure => omega
      case rel => exact ⟨k + 1, by omega, by go_num, BQ⟩
end Go.Proofs.YtihgkocfgjihhaaGreatDoor
