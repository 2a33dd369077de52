/-
  The walks of laws.markFileS, markDisk: a disk of the call's own is written over with marks.
  The walks of laws.eqFile, eqFileS, eqDisk: two disks that are alike are found alike.
-/
import Derived.Test.YtihgkocfgjihhaaGreatDoorJoint7
import Derived.Test.YtihgkocfgjihhaaGreatDoorJoint15
import Derived.Lib.QuietBelow
namespace Go.Proofs.YtihgkocfgjihhaaGreatDoor
open Go.RowKit

/-- the k-th mark from m on -/
def markF (m k : Nat) : FileD := ⟨mtx (m + 3 * k), mtx (m + 3 * k + 1), ((m + 3 * k + 2 : Nat) : Int)⟩
def marksF (m n : Nat) : List FileD := (List.range n).map (markF m)
theorem marksF_length (m n : Nat) : (marksF m n).length = n := by simp [marksF]
theorem marksF_succ (m n : Nat) : marksF m (n + 1) = marksF m n ++ [markF m n] := by simp [marksF, List.range_succ]

/-- the cells with the first k files marked -/
def markedCells (m k : Nat) (l : List FileD) (r : List Value) : List Value := fileCells (marksF m k) ++ (fileCells (l.drop k) ++ r)
theorem markedCells_all (m : Nat) (l : List FileD) (r : List Value) : markedCells m l.length l r = fileCells (marksF m l.length) ++ r := by
  simp [markedCells, fileCells]
theorem markedCells_split (m k : Nat) (l : List FileD) (r : List Value) (hk : k < l.length) :
    markedCells m k l r = fileCells (marksF m k) ++ .string l[k].name :: .string l[k].text :: .int .i64 l[k].kept :: (fileCells (l.drop (k + 1)) ++ r) := by
  rw [markedCells, List.drop_eq_getElem_cons hk]
  rfl
theorem markedCells_step (m k : Nat) (l : List FileD) (r : List Value) (hk : k < l.length) :
    (((markedCells m k l r).set (k * 3) (.string (mtx (m + 3 * k)))).set (k * 3 + 1) (.string (mtx (m + 3 * k + 1)))).set (k * 3 + 2) (.int .i64 ((m + 3 * k + 2 : Nat) : Int)) = markedCells m (k + 1) l r := by
  have e3 := set_three (fileCells (marksF m k)) (.string (mtx (m + 3 * k))) (.string (mtx (m + 3 * k + 1))) (.int .i64 ((m + 3 * k + 2 : Nat) : Int)) (.string l[k].name) (.string l[k].text) (.int .i64 l[k].kept) (fileCells (l.drop (k + 1)) ++ r)
  rw [fileCells_length, marksF_length] at e3
  rw [markedCells_split m k l r hk, e3, markedCells, marksF_succ]
  simp [fileCells, fileEnc, markF]
theorem markedCells_at (m k : Nat) (l : List FileD) (r : List Value) (hk : k < l.length) :
    (markedCells m k l r)[k * 3]? = some (.string l[k].name) ∧ (markedCells m k l r)[k * 3 + 1]? = some (.string l[k].text) ∧ (markedCells m k l r)[k * 3 + 2]? = some (.int .i64 l[k].kept) := by
  have hlen : (fileCells (marksF m k)).length = k * 3 := by rw [fileCells_length, marksF_length]
  rw [markedCells_split m k l r hk]
  refine ⟨?_, ?_, ?_⟩
  · rw [List.getElem?_append_right (by omega), hlen, Nat.sub_self]; rfl
  · rw [List.getElem?_append_right (by omega), hlen, show k * 3 + 1 - k * 3 = 1 by omega]; rfl
  · rw [List.getElem?_append_right (by omega), hlen, show k * 3 + 2 - k * 3 = 2 by omega]; rfl

theorem set_other {cs : List Value} {i j : Nat} {v u : Value} (h : cs[j]? = some u) (hij : i ≠ j) : (cs.set i v)[j]? = some u := by
  rw [List.getElem?_set_ne hij]; exact h

set_option maxRecDepth 1000000 in
set_option maxHeartbeats 1000000 in
theorem markFileS_any (g : Nat) (l : List FileD) (cap m : Nat) (r : List Value) (hm : m ≤ 10000000) (hl : l.length ≤ 1048576) (w : World) (hb : BlockIs w g 82 (fileCells l ++ r)) :
    Calls Tryz.prog 35 #[.slice (some ⟨g, 0, none⟩) l.length cap, .int .i64 m] w fun e w' => e = .returned (.int .i64 ((m + 3 * l.length : Nat) : Int)) ∧ BlockIs w' g 82 (fileCells (marksF m l.length) ++ r) ∧ w.grownBy w' (some g) := by
  have HB := (show Hid (BlockIs w g 82 (markedCells m 0 l r)) from hb)
  clear hb
  go_enter Tryz.func35, Tryz.ntmps35
  go_wp2
  go_loopg [1, 5] l.length (fun q y i wr => ∃ (k : Nat), k + q = l.length ∧ i = .int .i64 k ∧ y = .int .i64 ((m + 3 * k : Nat) : Int) ∧ Hid (BlockIs wr g 82 (markedCells m k l r)) ∧ Hid (w.grownBy wr (some g)))
  case atStart => exact ⟨0, by omega, rfl, rfl, HB, World.grownBy.refl _ _⟩
  case round =>
    obtain ⟨k, hkg, rfl, rfl, FB, GR⟩ := hrel
    clear HB
    cases gk with
    | zero =>
      have hlt : ¬ (k : Int) < (l.length : Int) := by omega
      obtain rfl : k = l.length := by omega
      rw [markedCells_all] at FB
      go_wp2
      go_ret
      exact ⟨rfl, FB.out, GR.out⟩
    | succ q =>
      have hlt : k < l.length := by omega
      have hlt' : (k : Int) < (l.length : Int) := by omega
      have hat := hid (markedCells_at m k l r hlt)
      have hstep := hid (markedCells_step m k l r hlt)
      have C1 := hid (fun w => markText_any (m + 3 * k) (by omega) w)
      have C2 := hid (fun w => markText_any (m + 3 * k + 1) (by omega) w)
      obtain ⟨K, hK⟩ : ∃ K, m + 3 * k = K := ⟨_, rfl⟩
      have hKl : K ≤ 20000000 := by omega
      rw [hK] at C1 C2 hstep ⊢
      go_wp2_with fail
      refine (C1.out _).mono ?_
      rintro e w1 ⟨rfl, b1⟩
      have D1 := FB.out.on b1 FB.out.lt
      have G1 := hid (GR.out.trans (grown_of_below b1 (some g)))
      have x1 := D1.cell hat.out.1
      have f1 := D1.thaw (k * 3)
      have D1' := hid D1
      clear b1 FB GR D1
      go_wp2_with fail
      refine (C2.out _).mono ?_
      rintro e w2 ⟨rfl, b2⟩
      have E1 := D1'.out.set (k * 3) (.string (mtx K))
      have D2 := E1.on b2 E1.lt
      have G2 := hid ((G1.out.trans (grownBy_set _ g (k * 3) _)).trans (grown_of_below b2 (some g)))
      have x2 := D2.cell (set_other (v := .string (mtx K)) hat.out.2.1 (by omega))
      have f2 := D2.thaw (k * 3 + 1)
      have x3 : (w2.setCell ⟨g, k * 3 + 1, none⟩ (.string (mtx (K + 1)))).cell? ⟨g, k * 3 + 2, none⟩ = some (.int .i64 l[k].kept) := (D2.set (k * 3 + 1) (.string (mtx (K + 1)))).cell (set_other (set_other hat.out.2.2 (by omega)) (by omega))
      have f3 : (w2.setCell ⟨g, k * 3 + 1, none⟩ (.string (mtx (K + 1)))).frozen? ⟨g, k * 3 + 2, none⟩ = false := (D2.set (k * 3 + 1) (.string (mtx (K + 1)))).thaw _
      have D3 := hid ((D2.set (k * 3 + 1) (.string (mtx (K + 1)))).set (k * 3 + 2) (.int .i64 ((K + 2 : Nat) : Int)))
      rw [hstep.out] at D3
      have G3 := hid ((G2.out.trans (grownBy_set _ g (k * 3 + 1) (.string (mtx (K + 1))))).trans (grownBy_set _ g (k * 3 + 2) (.int .i64 ((K + 2 : Nat) : Int))))
      clear b2 D1' E1 D2 G1 G2 hat hstep C1 C2 x1 f1
      go_wp2
      go_roundg q
      case measure => omega
      case rel => exact ⟨k + 1, by omega, by go_num, by rw [← show K + 3 = m + 3 * (k + 1) by omega]; go_num, D3, G3⟩

theorem markDisk_any (g : Nat) (l : List FileD) (cap m : Nat) (r : List Value) (hm : m ≤ 10000000) (hl : l.length ≤ 1048576) (w : World) (hb : BlockIs w g 82 (fileCells l ++ r)) :
    Calls Tryz.prog 11 #[.agg #[.slice (some ⟨g, 0, none⟩) l.length cap], .int .i64 m] w fun e w' => e = .returned (.int .i64 ((m + 3 * l.length : Nat) : Int)) ∧ BlockIs w' g 82 (fileCells (marksF m l.length) ++ r) ∧ w.grownBy w' (some g) := by
  have C := hid (fun w hb => markFileS_any g l cap m r hm hl w hb)
  have HB := hid hb
  have HD := hid (World.grownBy_alloc w (.cells #[.slice (some ⟨g, 0, none⟩) l.length cap] 25) (some g))
  have HD2 := hid (hb.on (below_more (Below.refl w.heap.size w) (.cells #[.slice (some ⟨g, 0, none⟩) l.length cap] 25)) hb.lt)
  clear hb
  go_enter Tryz.func11, Tryz.ntmps11
  go_wp2_with fail
  refine (C.out _ HD2.out).mono ?_
  rintro e w1 ⟨rfl, k1, g1⟩
  have K1 := hid k1
  have G1 := hid (HD.out.trans g1)
  clear k1 g1 C HD HD2
  go_wp2
  go_ret
  exact ⟨rfl, K1.out, G1.out⟩
end Go.Proofs.YtihgkocfgjihhaaGreatDoor

namespace Go.Proofs.YtihgkocfgjihhaaGreatDoor
open Go.RowKit Go.Sort

set_option maxRecDepth 1000000 in
theorem eqFile_same (f : FileD) (w : World) :
    Calls Tryz.prog 83 #[f.value, f.value] w fun e w' => e = .returned (.bool true) ∧ Below w.heap.size w w' := by
  have hb : Hid (∀ (o p : Obj), Below w.heap.size w ((w.alloc o).alloc p)) := fun o p => ((Below.refl _ w).alloc (Nat.le_refl _) _).alloc (by simp [World.alloc, -World.alloc_eq]) _
  unfold FileD.value
  go_enter Tryz.func83, Tryz.ntmps83
  go_wp2
  go_ret
  exact ⟨rfl, hb.out _ _⟩

set_option maxRecDepth 1000000 in
set_option maxHeartbeats 1000000 in
theorem eqFileS_same (ao bo : Option Addr) (l : List FileD) (cap cap' : Nat) (hl : l.length ≤ 140737488355328) (w : World) (ha : FilesAt w ao l) (hb : FilesAt w bo l) :
    Calls Tryz.prog 34 #[.slice ao l.length cap, .slice bo l.length cap'] w fun e w' => e = .returned (.bool true) ∧ Below w.heap.size w w' := by
  have HA := (show Hid (FilesAt w ao l) from ha)
  have HB := (show Hid (FilesAt w bo l) from hb)
  clear ha hb
  go_enter Tryz.func34, Tryz.ntmps34
  go_wp2
  go_loopg [5] l.length (fun g i wr => ∃ (k : Nat), k + g = l.length ∧ i = .int .i64 k ∧ Hid (Below w.heap.size w wr))
  case atStart => exact ⟨0, by omega, rfl, (show Below _ _ _ from Below.refl _ _)⟩
  case round =>
    obtain ⟨k, hkg, rfl, BR⟩ := hrel
    cases gk with
    | zero =>
      have hlt : ¬ (k : Int) < (l.length : Int) := by omega
      go_wp2
      go_ret
      exact ⟨rfl, BR.out⟩
    | succ g =>
      have hlt : k < l.length := by omega
      have hlt' : (k : Int) < (l.length : Int) := by omega
      have hne : l ≠ [] := by intro e; rw [e] at hlt; simp at hlt
      obtain ⟨b, off, rfl, hc⟩ := HA.out.on BR.out hne
      obtain ⟨x0, x1, x2⟩ := hc k hlt
      obtain ⟨b', off', rfl, hc'⟩ := HB.out.on BR.out hne
      obtain ⟨y0, y1, y2⟩ := hc' k hlt
      have X0 := cell_regrown x0
      have X1 := cell_regrown x1
      have X2 := cell_regrown x2
      have Y0 := cell_regrown y0
      have Y1 := cell_regrown y1
      have Y2 := cell_regrown y2
      clear hc hc' x0 x1 x2 y0 y1 y2
      have C' := fun d os => Calls.regrown_of (w := wr) (d := d) (os := os) (eqFile_same l[k] _)
      unfold FileD.value at C'
      have C := (show Hid _ from C')
      clear C'
      go_wp2
      refine wp_region_quiet_below (by kernel_rfl) (by kernel_rfl) ?_
      repeat (first | go_big_quiet_step (first | (go_at_call 83; exact C.out _ _) | fail) | quiet_step (first | (go_at_call 83; exact C.out _ _) | fail))
      refine wpQuiet_nil ?_
      intro _ hw'
      obtain ⟨⟨dq, osq⟩, hw''⟩ := hw'
      subst hw''
      have BQ : Hid (Below w.heap.size w (grow (redrawn wr dq) osq)) := BR.out.trans ((below_regrown wr dq osq).mono BR.out.size)
      generalize grow (redrawn wr dq) osq = wq at BQ ⊢
      clear X0 X1 X2 Y0 Y1 Y2 C
      go_wp2
      go_roundg g
      case measure => omega
      case rel => exact ⟨k + 1, by omega, by go_num, BQ⟩

theorem eqDisk_same (ao bo : Option Addr) (l : List FileD) (cap cap' : Nat) (hl : l.length ≤ 140737488355328) (w : World) (ha : FilesAt w ao l) (hb : FilesAt w bo l) :
    Calls Tryz.prog 8 #[.agg #[.slice ao l.length cap], .agg #[.slice bo l.length cap']] w fun e w' => e = .returned (.bool true) ∧ Below w.heap.size w w' := by
  have C := (show Hid _ from fun w ha hb => eqFileS_same ao bo l cap cap' hl w ha hb)
  have hbb : ∀ (o p : Obj), Below w.heap.size w ((w.alloc o).alloc p) := fun o p => ((Below.refl _ w).alloc (Nat.le_refl _) _).alloc (by simp [World.alloc, -World.alloc_eq]) _
  have HBB := (show Hid _ from hbb)
  have HA := (show Hid (FilesAt w ao l) from ha)
  have HB := (show Hid (FilesAt w bo l) from hb)
  clear ha hb hbb
  go_enter Tryz.func8, Tryz.ntmps8
  go_wp2_with fail
  refine (C.out _ (HA.out.on (HBB.out _ _)) (HB.out.on (HBB.out _ _))).mono ?_
  rintro e w1 ⟨rfl, b1⟩
  have B1 := (show Hid (Below w.heap.size w w1) from (HBB.out _ _).trans (b1.mono (HBB.out _ _).size))
  clear b1 C
  go_wp2
  go_ret
  exact ⟨rfl, B1.out⟩
end Go.Proofs.YtihgkocfgjihhaaGreatDoor
