/-
  A disk that an answer owns: read, written over with marks.
  The walks of laws.eqFile, eqFileS, eqDisk: two disks that are alike are found alike.
-/
import Derived.Test.YtihgkocfgjihhaaGreatDoorJoint1
import Derived.Test.YtihgkocfgjihhaaGreatDoorJoint4
import Derived.Test.YtihgkocfgjihhaaGreatDoorJoint2
import Derived.Lib.QuietBelow
namespace Go.Proofs.YtihgkocfgjihhaaGreatDoor
open Go.RowKit

/-- files in a row of the call's own: where they lie -/
theorem own_files {w : World} {base : Nat} {v : Value} {l : List FileD} (h : w.ownsRow base 82 3 v l.length (fileCells l)) :
    ∃ va vc, v = .slice va l.length vc ∧ FilesAt w va l ∧ (l = [] ∨ ∃ g r, va = some ⟨g, 0, none⟩ ∧ base ≤ g ∧ BlockIs w g 82 (fileCells l ++ r)) := by
  obtain ⟨_, (⟨rfl, h0⟩ | ⟨g, cap, cur, rfl, hb, hg, _, _, _, ht⟩)⟩ := h
  · have hl : l = [] := List.length_eq_zero_iff.1 h0
    subst hl
    exact ⟨none, 0, rfl, fun h => absurd rfl h, Or.inl rfl⟩
  · have hcur : cur.toList = fileCells l ++ cur.toList.drop (l.length * 3) := by rw [← ht, List.take_append_drop]
    have hk : BlockIs w g 82 (fileCells l ++ cur.toList.drop (l.length * 3)) := by
      unfold BlockIs
      rw [hg, ← hcur]
    exact ⟨_, _, rfl, filesAt_of hk, Or.inr ⟨g, _, rfl, hb, hk⟩⟩

theorem marksF_nil (m : Nat) : marksF m 0 = [] := rfl

set_option maxRecDepth 1000000 in
/-- a disk of the call's own is written over with marks, nil too -/
theorem markDisk_own (base m : Nat) (va : Option Addr) (vc : Nat) (l : List FileD) (hm : m ≤ 10000000) (hl : l.length ≤ 1048576) (w : World) (hw : base ≤ w.heap.size)
    (h : l = [] ∨ ∃ g r, va = some ⟨g, 0, none⟩ ∧ base ≤ g ∧ BlockIs w g 82 (fileCells l ++ r)) :
    Calls Tryz.prog 11 #[.agg #[.slice va l.length vc], .int .i64 m] w fun e w' => e = .returned (.int .i64 ((m + 3 * l.length : Nat) : Int)) ∧ FilesAt w' va (marksF m l.length) ∧ Below base w w' ∧ (∀ j t cs, (∀ g, va = some ⟨g, 0, none⟩ → l ≠ [] → j ≠ g) → BlockIs w j t cs → BlockIs w' j t cs) := by
  rcases h with rfl | ⟨g, r, rfl, hg, hb⟩
  · have HBB := hid (below_more (Below.refl w.heap.size w) (.cells #[.slice va 0 vc] 25))
    have C : Hid (∀ w, Calls Tryz.prog 35 #[.slice va 0 vc, .int .i64 m] w fun e w' => e = .returned (.int .i64 m) ∧ w' = w) := by
      intro w
      go_enter Tryz.func35, Tryz.ntmps35
      go_wp2
      go_loopg [1, 5] 0 (fun _ y i wr => wr = w ∧ i = .int .i64 0 ∧ y = .int .i64 m)
      case atStart => exact ⟨rfl, rfl, rfl⟩
      case round =>
        obtain ⟨rfl, rfl, rfl⟩ := hrel
        go_wp2
        go_ret
        exact ⟨rfl, rfl⟩
    show Calls Tryz.prog 11 #[.agg #[.slice va 0 vc], .int .i64 m] w fun e w' => e = .returned (.int .i64 ((m + 3 * 0 : Nat) : Int)) ∧ _
    go_enter Tryz.func11, Tryz.ntmps11
    go_wp2_with fail
    refine (C.out _).mono ?_
    rintro e w1 ⟨rfl, hw1⟩
    rw [hw1]
    clear hw1 w1
    go_wp2
    go_ret
    exact ⟨rfl, fun h => absurd rfl h, HBB.out.mono hw, fun j t cs _ hb => hb.on HBB.out hb.lt⟩
  · refine (markDisk_any g l vc m r hm hl w hb).mono ?_
    rintro e w' ⟨rfl, hk, hg'⟩
    refine ⟨rfl, filesAt_of hk, ⟨hg'.os, hg'.tape, hg'.output, hg'.size, fun k hk' => hg'.block k (by omega) (fun e => ?_)⟩, fun j t cs hj hbj => ?_⟩
    · have : k = g := by simpa using e
      omega
    · by_cases hne : l = []
      · subst hne
        by_cases e : j = g
        · subst e
          unfold BlockIs at hbj hb
          rw [hbj] at hb
          cases hb
          have h0 : fileCells (marksF m 0) ++ r = fileCells [] ++ r := rfl
          have hk0 : BlockIs w' j 82 (fileCells [] ++ r) := hk
          simpa using hk0
        · unfold BlockIs
          rw [hg'.block j hbj.lt (by simpa using e)]
          exact hbj
      · unfold BlockIs
        rw [hg'.block j hbj.lt (fun e => hj g rfl hne (by simpa using e))]
        exact hbj
end Go.Proofs.YtihgkocfgjihhaaGreatDoor

namespace Go.Proofs.YtihgkocfgjihhaaGreatDoor
open Go.RowKit Go.Sort

set_option maxRecDepth 1000000 in
theorem eqFile_same (f : FileD) (w : World) :
    Calls Tryz.prog 83 #[f.value, f.value] w fun e w' => e = .returned (.bool true) ∧ Below w.heap.size w w' := by
  have hb : Hid (∀ (o p : Obj), Below w.heap.size w ((w.alloc o).alloc p)) := fun o p => ((Below.refl _ w).alloc (Nat.le_refl _) _).alloc (by simp [World.alloc, -World.alloc_eq]) _
  unfold FileD.value
  go_enter Tryz.func83, Tryz.ntmps83
  go_wp2
  go_ret
  exact ⟨rfl, hb.out _ _⟩

set_option maxRecDepth 1000000 in
set_option maxHeartbeats 1000000 in
theorem eqFileS_same (ao bo : Option Addr) (l : List FileD) (cap cap' : Nat) (hl : l.length ≤ 140737488355328) (w : World) (ha : FilesAt w ao l) (hb : FilesAt w bo l) :
    Calls Tryz.prog 34 #[.slice ao l.length cap, .slice bo l.length cap'] w fun e w' => e = .returned (.bool true) ∧ Below w.heap.size w w' := by
  have HA := (show Hid (FilesAt w ao l) from ha)
  have HB := (show Hid (FilesAt w bo l) from hb)
  clear ha hb
  go_enter Tryz.func34, Tryz.ntmps34
  go_wp2
  go_loopg [5] l.length (fun g i wr => ∃ (k : Nat), k + g = l.length ∧ i = .int .i64 k ∧ Hid (Below w.heap.size w wr))
  case atStart => exact ⟨0, by omega, rfl, (show Below _ _ _ from Below.refl _ _)⟩
  case round =>
    obtain ⟨k, hkg, rfl, BR⟩ := hrel
    cases gk with
    | zero =>
      have hlt : ¬ (k : Int) < (l.length : Int) := by omega
      go_wp2
      go_ret
      exact ⟨rfl, BR.out⟩
    | succ g =>
      have hlt : k < l.length := by omega
      have hlt' : (k : Int) < (l.length : Int) := by omega
      have hne : l ≠ [] := by intro e; rw [e] at hlt; simp at hlt
      obtain ⟨b, off, rfl, hc⟩ := HA.out.on BR.out hne
      obtain ⟨x0, x1, x2⟩ := hc k hlt
      obtain ⟨b', off', rfl, hc'⟩ := HB.out.on BR.out hne
      obtain ⟨y0, y1, y2⟩ := hc' k hlt
      have X0 := cell_regrown x0
      have X1 := cell_regrown x1
      have X2 := cell_regrown x2
      have Y0 := cell_regrown y0
      have Y1 := cell_regrown y1
      have Y2 := cell_regrown y2
      clear hc hc' x0 x1 x2 y0 y1 y2
      have C' := fun d os => Calls.regrown_of (w := wr) (d := d) (os := os) (eqFile_same l[k] _)
      unfold FileD.value at C'
      have C := (show Hid _ from C')
      clear C'
      go_wp2
      refine wp_region_quiet_below (by kernel_rfl) (by kernel_rfl) ?_
      repeat (first | go_big_quiet_step (first | (go_at_call 83; exact C.out _ _) | fail) | quiet_step (first | (go_at_call 83; exact C.out _ _) | fail))
      refine wpQuiet_nil ?_
      intro _ hw'
      obtain ⟨⟨dq, osq⟩, hw''⟩ := hw'
      subst hw''
      have BQ : Hid (Below w.heap.size w (grow (redrawn wr dq) osq)) := BR.out.trans ((below_regrown wr dq osq).mono BR.out.size)
      generalize grow (redrawn wr dq) osq = wq at BQ ⊢
      clear X0 X1 X2 Y0 Y1 Y2 C
      go_wp2
      go_roundg g
      case measure => omega
      case rel => exact ⟨k + 1, by omega, by go_num, BQ⟩

theorem eqDisk_same (ao bo : Option Addr) (l : List FileD) (cap cap' : Nat) (hl : l.length ≤ 140737488355328) (w : World) (ha : FilesAt w ao l) (hb : FilesAt w bo l) :
    Calls Tryz.prog 8 #[.agg #[.slice ao l.length cap], .agg #[.slice bo l.length cap']] w fun e w' => e = .returned (.bool true) ∧ Below w.heap.size w w' := by
  have C := (show Hid _ from fun w ha hb => eqFileS_same ao bo l cap cap' hl w ha hb)
  have hbb : ∀ (o p : Obj), Below w.heap.size w ((w.alloc o).alloc p) := fun o p => ((Below.refl _ w).alloc (Nat.le_refl _) _).alloc (by simp [World.alloc, -World.alloc_eq]) _
  have HBB := (show Hid _ from hbb)
  have HA := (show Hid (FilesAt w ao l) from ha)
  have HB := (show Hid (FilesAt w bo l) from hb)
  clear ha hb hbb
  go_enter Tryz.func8, Tryz.ntmps8
  go_wp2_with fail
  refine (C.out _ (HA.out.on (HBB.out _ _)) (HB.out.on (HBB.out _ _))).mono ?_
  rintro e w1 ⟨rfl, b1⟩
  have B1 := (show Hid (Below w.heap.size w w1) from (HBB.out _ _).trans (b1.mono (HBB.out _ _).size))
  clear b1 C
  go_wp2
  go_ret
  exact ⟨rfl, B1.out⟩
end Go.Proofs.YtihgkocfgjihhaaGreatDoor
