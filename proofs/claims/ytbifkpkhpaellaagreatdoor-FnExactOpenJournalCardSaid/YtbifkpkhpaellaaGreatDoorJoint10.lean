/-
  The walks of laws.eqEntry, eqEntryS: two lists of entries that are alike are found alike.
  The walk of laws.eqLog: two logs that are alike are found alike.
  Entries that an answer owns: held against others, written over with marks.
-/
import Derived.Test.YtbifkpkhpaellaaGreatDoorJoint1
import Derived.Test.YtbifkpkhpaellaaGreatDoorRows
import Derived.Lib.QuietBelow
import Derived.Test.YtbifkpkhpaellaaGreatDoorJoint9
namespace Go.Proofs.YtbifkpkhpaellaaGreatDoor
open Go.RowKit Go.Sort

set_option maxRecDepth 1000000 in
theorem eqEntry_same (f : EntD) (w : World) :
    Calls Tryz.prog 82 #[.agg #[.int .i64 f.term, .int .i64 f.kind, .string f.data], .agg #[.int .i64 f.term, .int .i64 f.kind, .string f.data]] w fun e w' => e = .returned (.bool true) ∧ Below w.heap.size w w' := by
  have hb : Hid (∀ (o p : Obj), Below w.heap.size w ((w.alloc o).alloc p)) := fun o p => ((Below.refl _ w).alloc (Nat.le_refl _) _).alloc (by simp [World.alloc, -World.alloc_eq]) _
  go_enter Tryz.func82, Tryz.ntmps82
  go_wp2
  go_ret
  exact ⟨rfl, hb.out _ _⟩

set_option maxRecDepth 1000000 in
set_option maxHeartbeats 1000000 in
theorem eqEntryS_same (ao bo : Option Addr) (l : List EntD) (cap cap' : Nat) (hl : l.length ≤ 140737488355328) (w : World) (ha : EntsAt w ao l) (hb : EntsAt w bo l) :
    Calls Tryz.prog 54 #[.slice ao l.length cap, .slice bo l.length cap'] w fun e w' => e = .returned (.bool true) ∧ Below w.heap.size w w' := by
  have HA := (show Hid (EntsAt w ao l) from ha)
  have HB := (show Hid (EntsAt w bo l) from hb)
  clear ha hb
  go_enter Tryz.func54, Tryz.ntmps54
  go_wp2
  go_loopg [5] l.length (fun g i wr => ∃ (k : Nat), k + g = l.length ∧ i = .int .i64 k ∧ Hid (Below w.heap.size w wr))
  case atStart => exact ⟨0, by omega, rfl, (show Below _ _ _ from Below.refl _ _)⟩
  case round =>
    obtain ⟨k, hkg, rfl, BR⟩ := hrel
    cases gk with
    | zero =>
      have hlt : ¬ (k : Int) < (l.length : Int) := by omega
      go_wp2
      go_ret
      exact ⟨rfl, BR.out⟩
    | succ g =>
      have hlt : k < l.length := by omega
      have hlt' : (k : Int) < (l.length : Int) := by omega
      have hne : l ≠ [] := by intro e; rw [e] at hlt; simp at hlt
      obtain ⟨b, off, rfl, hc⟩ := HA.out.on BR.out hne
      obtain ⟨x0, x1, x2⟩ := hc k hlt
      obtain ⟨b', off', rfl, hc'⟩ := HB.out.on BR.out hne
      obtain ⟨y0, y1, y2⟩ := hc' k hlt
      have X0 := cell_regrown x0
      have X1 := cell_regrown x1
      have X2 := cell_regrown x2
      have Y0 := cell_regrown y0
      have Y1 := cell_regrown y1
      have Y2 := cell_regrown y2
      clear hc hc' x0 x1 x2 y0 y1 y2
      have C' := fun d os => Calls.regrown_of (w := wr) (d := d) (os := os) (eqEntry_same l[k] _)
      have C := (show Hid _ from C')
      clear C'
      go_wp2
      refine wp_region_quiet_below (by kernel_rfl) (by kernel_rfl) ?_
      repeat (first | go_big_quiet_step (first | (go_at_call 82; exact C.out _ _) | fail) | quiet_step (first | (go_at_call 82; exact C.out _ _) | fail))
      refine wpQuiet_nil ?_
      intro _ hw'
      obtain ⟨⟨dq, osq⟩, hw''⟩ := hw'
      subst hw''
      have BQ : Hid (Below w.heap.size w (grow (redrawn wr dq) osq)) := BR.out.trans ((below_regrown wr dq osq).mono BR.out.size)
      generalize grow (redrawn wr dq) osq = wq at BQ ⊢
      clear X0 X1 X2 Y0 Y1 Y2 C
      go_wp2
      go_roundg g
      case measure => omega
      case rel => exact ⟨k + 1, by omega, by go_num, BQ⟩
end Go.Proofs.YtbifkpkhpaellaaGreatDoor

namespace Go.Proofs.YtbifkpkhpaellaaGreatDoor
open Go.RowKit Go.Sort

set_option maxRecDepth 1000000 in
theorem eqLog_same (s t : Int) (ao bo : Option Addr) (l : List EntD) (cap cap' : Nat) (hl : l.length ≤ 140737488355328) (w : World) (ha : EntsAt w ao l) (hb : EntsAt w bo l) :
    Calls Tryz.prog 27 #[.agg #[.int .i64 s, .int .i64 t, .slice ao l.length cap], .agg #[.int .i64 s, .int .i64 t, .slice bo l.length cap']] w fun e w' => e = .returned (.bool true) ∧ Below w.heap.size w w' := by
  have C := hid (fun w ha hb => eqEntryS_same ao bo l cap cap' hl w ha hb)
  have HBB : Hid (∀ (o p : Obj), Below w.heap.size w ((w.alloc o).alloc p)) := fun o p => below_more (below_more (Below.refl _ w) o) p
  have HA := hid ha
  have HB := hid hb
  clear ha hb
  go_enter Tryz.func27, Tryz.ntmps27
  go_wp2_with fail
  refine (C.out _ (HA.out.on (HBB.out _ _)) (HB.out.on (HBB.out _ _))).mono ?_
  rintro e w1 ⟨rfl, b1⟩
  have B1 := hid (below_via (HBB.out _ _) b1)
  clear b1 C
  go_wp2
  go_ret
  exact ⟨rfl, B1.out⟩
end Go.Proofs.YtbifkpkhpaellaaGreatDoor

namespace Go.Proofs.YtbifkpkhpaellaaGreatDoor
open Go.RowKit

theorem eqLog_o (s t : Int) (va vb : Option Addr) (l : List EntD) (c c' : Nat) (hl : l.length ≤ 1048577) (w : World) (ha : EntsAt w va l) (hb : EntsAt w vb l) :
    Calls Tryz.prog 27 #[.agg #[.int .i64 s, .int .i64 t, .slice va l.length c], .agg #[.int .i64 s, .int .i64 t, .slice vb l.length c']] w fun e w' => e = .returned (.bool true) ∧ Below w.heap.size w w' :=
  eqLog_same s t va vb l c c' (by omega) w ha hb

set_option maxRecDepth 1000000 in
/-- a log of the call's own is written over with marks, nil too -/
theorem markLog_o (s t : Int) (m : Nat) (va : Option Addr) (vc : Nat) (l : List EntD) (lo hi : Nat) (hm : m ≤ 10000000) (hl : l.length ≤ 1048576) (w : World) (hw : lo ≤ w.heap.size) (h : OwnAt w 110 (entCells l) l.length va lo hi) :
    Calls Tryz.prog 31 #[.agg #[.int .i64 s, .int .i64 t, .slice va l.length vc], .int .i64 m] w fun e w' => e = .returned (.int .i64 ((m + 3 * l.length : Nat) : Int)) ∧ EntsAt w' va (marksE m l.length) ∧ KeptBut lo hi w w' ∧ Below lo w w' := by
  rcases h with h0 | ⟨g, r, rfl, h1, h2, h3⟩
  · obtain rfl : l = [] := List.length_eq_zero_iff.1 h0
    have HBB := hid (below_more (Below.refl w.heap.size w) (.cells #[.int .i64 s, .int .i64 t, .slice va 0 vc] 28))
    have C : Hid (∀ w, Calls Tryz.prog 56 #[.slice va 0 vc, .int .i64 m] w fun e w' => e = .returned (.int .i64 m) ∧ w' = w) := by
      intro w
      go_enter Tryz.func56, Tryz.ntmps56
      go_wp2
      go_loopg [1, 5] 0 (fun _ y i wr => wr = w ∧ i = .int .i64 0 ∧ y = .int .i64 m)
      case atStart => exact ⟨rfl, rfl, rfl⟩
      case round =>
        obtain ⟨rfl, rfl, rfl⟩ := hrel
        go_wp2
        go_ret
        exact ⟨rfl, rfl⟩
    show Calls Tryz.prog 31 #[.agg #[.int .i64 s, .int .i64 t, .slice va 0 vc], .int .i64 m] w fun e w' => e = .returned (.int .i64 ((m + 3 * 0 : Nat) : Int)) ∧ _
    go_enter Tryz.func31, Tryz.ntmps31
    go_wp2_with fail
    refine (C.out _).mono ?_
    rintro e w1 ⟨rfl, hw1⟩
    rw [hw1]
    clear hw1 w1
    go_wp2
    go_ret
    exact ⟨rfl, fun h => absurd rfl h, fun j t cs _ hb => hb.on HBB.out hb.lt, HBB.out.mono hw⟩
  · refine (markLog_any s t g l vc m r hm hl w h3).mono ?_
    rintro e w' ⟨rfl, hk, hg'⟩
    refine ⟨rfl, entsAt_of hk, fun j t cs hj hbj => ?_, ⟨hg'.os, hg'.tape, hg'.output, hg'.size, fun k hk' => hg'.block k (by omega) (fun e => ?_)⟩⟩
    · unfold BlockIs
      rw [hg'.block j hbj.lt (fun e => hj (by have : j = g := by simpa using e
                                              subst this
                                              exact ⟨h1, h2⟩))]
      exact hbj
    · have : k = g := by simpa using e
      omega
end Go.Proofs.YtbifkpkhpaellaaGreatDoor
