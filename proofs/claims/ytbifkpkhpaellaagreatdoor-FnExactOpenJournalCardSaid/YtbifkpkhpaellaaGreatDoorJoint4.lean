/-
  The walk of laws.markText: the text by which a place is marked.
  The walks of laws.markFileS, markDisk: a disk of the call's own is written over with marks.
  The walks of laws.eqFile, eqFileS, eqDisk: two disks that are alike are found alike.
  The walk of laws.markEntryS: entries of the call's own are written over with marks.
  The walk of laws.heldEntryS: entries that hold marks are found to hold them.
-/
import Derived.Test.YtbifkpkhpaellaaGreatDoorRows
import Derived.Test.YtbifkpkhpaellaaGreatDoorJoint1
import Derived.BigQuiet
import Derived.Lib.QuietBelow
import Derived.WalkSmall
import Derived.WalkKit
import Derived.Test.YtbifkpkhpaellaaGreatDoorJoint2
namespace Go.Proofs.YtbifkpkhpaellaaGreatDoor
open Go.RowKit Go.Sort

/-- the text by which a place is marked -/
def mtx (m : Nat) : ByteArray := if m = 0 then ⟨#[109, 48]⟩ else ⟨#[109]⟩ ++ ⟨(dd m).toArray⟩

/-- the last figure of m -/
def mdig (m : Nat) : UInt8 := UInt8.ofNat (48 + m % 10)

theorem mark_one (m : Nat) (w : World) :
    (convert 100 9 (.slice (some ⟨w.heap.size, 0, none⟩) 1 1)).run Tryz.prog (w.alloc (.cells #[.int .u8 (48 + (m : Int) % 10)] 5)) = .ok (.string ⟨#[mdig m]⟩) (w.alloc (.cells #[.int .u8 (48 + (m : Int) % 10)] 5)) := by
  have := run_convert_bytes_back (P := Tryz.prog) (w.alloc (.cells #[.int .u8 (48 + (m : Int) % 10)] 5)) 100 9 5 ⟨w.heap.size, 0, none⟩ 1 [mdig m] Tryz.underlying100 Tryz.underlying5 Tryz.underlying9
    (by
      intro j hj
      have hj0 : j = 0 := by simpa using hj
      subst hj0
      have e : ((mdig m).toNat : Int) = 48 + (m : Int) % 10 := by unfold mdig; rw [UInt8.toNat_ofNat']; omega
      show (w.alloc (.cells #[.int .u8 (48 + (m : Int) % 10)] 5)).cell? ⟨w.heap.size, 0, none⟩ = some (.int .u8 ((mdig m).toNat : Int))
      rw [e]
      simp)
  exact this

theorem mark_step {n m : Nat} {acc : List UInt8} (hm : 0 < m) (h : dd m ++ acc = dd n) : dd (m / 10) ++ (mdig m :: acc) = dd n := by
  rw [← h, dd_pos hm]
  simp [mdig]

theorem ret_i64 {a b : Int} (h : a = b) : Ending.returned (.int .i64 a) = .returned (.int .i64 b) := by rw [h]

theorem cons_text (x : UInt8) (acc : List UInt8) : (⟨#[x]⟩ : ByteArray) ++ ⟨acc.toArray⟩ = ⟨(x :: acc).toArray⟩ := ByteArray.mk_append_mk [x] acc

theorem ret_mark {a b : List UInt8} (h : a = b) : Ending.returned (.string (⟨#[109]⟩ ++ ⟨a.toArray⟩)) = .returned (.string (⟨#[109]⟩ ++ ⟨b.toArray⟩)) := by rw [h]

set_option maxRecDepth 1000000 in
set_option maxHeartbeats 1000000 in
theorem markText_any (n : Nat) (hn : n < 1000000000000000000) (w : World) :
    Calls Tryz.prog 32 #[.int .i64 n] w fun e w' => e = .returned (.string (mtx n)) ∧ Below w.heap.size w w' := by
  by_cases h0 : n = 0
  · subst h0
    have e : mtx 0 = ⟨#[109, 48]⟩ := rfl
    rw [e]
    clear e
    go_enter Tryz.func32, Tryz.ntmps32
    go_wp2
    go_ret
    exact ⟨rfl, Below.refl _ _⟩
  · have g0 : ¬ (n : Int) ≤ 0 := by omega
    have hdl := dd_len 19 n (by omega)
    have hde : mtx n = ⟨#[109]⟩ ++ ⟨(dd n).toArray⟩ := by unfold mtx; rw [if_neg h0]
    rw [hde]
    clear hde
    go_enter Tryz.func32, Tryz.ntmps32
    go_wp2
    go_loopw [0, 3] (fun x t wr => ∃ (m : Nat) (acc : List UInt8), m ≤ n ∧ x = .int .i64 m ∧ t = .string ⟨acc.toArray⟩ ∧ Hid (dd m ++ acc = dd n) ∧ acc.length ≤ 19 ∧ Below w.heap.size w wr) (fun x _ _ => (intOf x).toNat)
    case atStart => exact ⟨n, [], Nat.le_refl _, rfl, rfl, by simp [Hid], by simp, Below.refl _ _⟩
    case round =>
      obtain ⟨m, acc, hm, rfl, rfl, HA, hal, hb⟩ := hrel
      have hsz := hb.size
      by_cases hm0 : 0 < (m : Int)
      · have ht := mark_one m
        have HS := (show Hid _ from mark_step (by omega) HA.out)
        have HL : Hid ((mdig m :: acc).length ≤ 19) := by
          have := congrArg List.length HS.out
          simp only [List.length_append] at this
          show _ ≤ _
          omega
        go_wp2
        go_roundw
        case rel => exact ⟨m / 10, mdig m :: acc, by omega, by go_num, congrArg Value.string (cons_text _ _), HS, HL.out, hb.alloc hb.size _⟩
        case measure => simp [intOf]; omega
      · have HE : Hid (acc = dd n) := by
          have h := HA.out
          have e : m = 0 := by omega
          rw [e, dd_zero] at h
          exact h
        go_wp2
        go_ret
        exact ⟨ret_mark HE.out, hb⟩
end Go.Proofs.YtbifkpkhpaellaaGreatDoor

namespace Go.Proofs.YtbifkpkhpaellaaGreatDoor
open Go.RowKit

/-- the k-th mark from m on -/
def markF (m k : Nat) : FileD := ⟨mtx (m + 3 * k), mtx (m + 3 * k + 1), ((m + 3 * k + 2 : Nat) : Int)⟩
def marksF (m n : Nat) : List FileD := (List.range n).map (markF m)
theorem marksF_length (m n : Nat) : (marksF m n).length = n := by simp [marksF]
theorem marksF_succ (m n : Nat) : marksF m (n + 1) = marksF m n ++ [markF m n] := by simp [marksF, List.range_succ]

/-- the cells with the first k files marked -/
def markedCells (m k : Nat) (l : List FileD) (r : List Value) : List Value := fileCells (marksF m k) ++ (fileCells (l.drop k) ++ r)
theorem markedCells_all (m : Nat) (l : List FileD) (r : List Value) : markedCells m l.length l r = fileCells (marksF m l.length) ++ r := by
  simp [markedCells, fileCells]
theorem markedCells_split (m k : Nat) (l : List FileD) (r : List Value) (hk : k < l.length) :
    markedCells m k l r = fileCells (marksF m k) ++ .string l[k].name :: .string l[k].text :: .int .i64 l[k].kept :: (fileCells (l.drop (k + 1)) ++ r) := by
  rw [markedCells, List.drop_eq_getElem_cons hk]
  rfl
theorem markedCells_step (m k : Nat) (l : List FileD) (r : List Value) (hk : k < l.length) :
    (((markedCells m k l r).set (k * 3) (.string (mtx (m + 3 * k)))).set (k * 3 + 1) (.string (mtx (m + 3 * k + 1)))).set (k * 3 + 2) (.int .i64 ((m + 3 * k + 2 : Nat) : Int)) = markedCells m (k + 1) l r := by
  have e3 := set_three (fileCells (marksF m k)) (.string (mtx (m + 3 * k))) (.string (mtx (m + 3 * k + 1))) (.int .i64 ((m + 3 * k + 2 : Nat) : Int)) (.string l[k].name) (.string l[k].text) (.int .i64 l[k].kept) (fileCells (l.drop (k + 1)) ++ r)
  rw [fileCells_length, marksF_length] at e3
  rw [markedCells_split m k l r hk, e3, markedCells, marksF_succ]
  simp [fileCells, fileEnc, markF]
theorem markedCells_at (m k : Nat) (l : List FileD) (r : List Value) (hk : k < l.length) :
    (markedCells m k l r)[k * 3]? = some (.string l[k].name) ∧ (markedCells m k l r)[k * 3 + 1]? = some (.string l[k].text) ∧ (markedCells m k l r)[k * 3 + 2]? = some (.int .i64 l[k].kept) := by
  have hlen : (fileCells (marksF m k)).length = k * 3 := by rw [fileCells_length, marksF_length]
  rw [markedCells_split m k l r hk]
  refine ⟨?_, ?_, ?_⟩
  · rw [List.getElem?_append_right (by omega), hlen, Nat.sub_self]; rfl
  · rw [List.getElem?_append_right (by omega), hlen, show k * 3 + 1 - k * 3 = 1 by omega]; rfl
  · rw [List.getElem?_append_right (by omega), hlen, show k * 3 + 2 - k * 3 = 2 by omega]; rfl

theorem set_other {cs : List Value} {i j : Nat} {v u : Value} (h : cs[j]? = some u) (hij : i ≠ j) : (cs.set i v)[j]? = some u := by
  rw [List.getElem?_set_ne hij]; exact h

set_option maxRecDepth 1000000 in
set_option maxHeartbeats 1000000 in
theorem markFileS_any (g : Nat) (l : List FileD) (cap m : Nat) (r : List Value) (hm : m ≤ 10000000) (hl : l.length ≤ 1048576) (w : World) (hb : BlockIs w g 49 (fileCells l ++ r)) :
    Calls Tryz.prog 30 #[.slice (some ⟨g, 0, none⟩) l.length cap, .int .i64 m] w fun e w' => e = .returned (.int .i64 ((m + 3 * l.length : Nat) : Int)) ∧ BlockIs w' g 49 (fileCells (marksF m l.length) ++ r) ∧ w.grownBy w' (some g) := by
  have HB := (show Hid (BlockIs w g 49 (markedCells m 0 l r)) from hb)
  clear hb
  go_enter Tryz.func30, Tryz.ntmps30
  go_wp2
  go_loopg [1, 5] l.length (fun q y i wr => ∃ (k : Nat), k + q = l.length ∧ i = .int .i64 k ∧ y = .int .i64 ((m + 3 * k : Nat) : Int) ∧ Hid (BlockIs wr g 49 (markedCells m k l r)) ∧ Hid (w.grownBy wr (some g)))
  case atStart => exact ⟨0, by omega, rfl, rfl, HB, World.grownBy.refl _ _⟩
  case round =>
    obtain ⟨k, hkg, rfl, rfl, FB, GR⟩ := hrel
    clear HB
    cases gk with
    | zero =>
      have hlt : ¬ (k : Int) < (l.length : Int) := by omega
      obtain rfl : k = l.length := by omega
      rw [markedCells_all] at FB
      go_wp2
      go_ret
      exact ⟨rfl, FB.out, GR.out⟩
    | succ q =>
      have hlt : k < l.length := by omega
      have hlt' : (k : Int) < (l.length : Int) := by omega
      have hat := hid (markedCells_at m k l r hlt)
      have hstep := hid (markedCells_step m k l r hlt)
      have C1 := hid (fun w => markText_any (m + 3 * k) (by omega) w)
      have C2 := hid (fun w => markText_any (m + 3 * k + 1) (by omega) w)
      obtain ⟨K, hK⟩ : ∃ K, m + 3 * k = K := ⟨_, rfl⟩
      have hKl : K ≤ 20000000 := by omega
      rw [hK] at C1 C2 hstep ⊢
      go_wp2_with fail
      refine (C1.out _).mono ?_
      rintro e w1 ⟨rfl, b1⟩
      have D1 := FB.out.on b1 FB.out.lt
      have G1 := hid (GR.out.trans (grown_of_below b1 (some g)))
      have x1 := D1.cell hat.out.1
      have f1 := D1.thaw (k * 3)
      have D1' := hid D1
      clear b1 FB GR D1
      go_wp2_with fail
      refine (C2.out _).mono ?_
      rintro e w2 ⟨rfl, b2⟩
      have E1 := D1'.out.set (k * 3) (.string (mtx K))
      have D2 := E1.on b2 E1.lt
      have G2 := hid ((G1.out.trans (grownBy_set _ g (k * 3) _)).trans (grown_of_below b2 (some g)))
      have x2 := D2.cell (set_other (v := .string (mtx K)) hat.out.2.1 (by omega))
      have f2 := D2.thaw (k * 3 + 1)
      have x3 : (w2.setCell ⟨g, k * 3 + 1, none⟩ (.string (mtx (K + 1)))).cell? ⟨g, k * 3 + 2, none⟩ = some (.int .i64 l[k].kept) := (D2.set (k * 3 + 1) (.string (mtx (K + 1)))).cell (set_other (set_other hat.out.2.2 (by omega)) (by omega))
      have f3 : (w2.setCell ⟨g, k * 3 + 1, none⟩ (.string (mtx (K + 1)))).frozen? ⟨g, k * 3 + 2, none⟩ = false := (D2.set (k * 3 + 1) (.string (mtx (K + 1)))).thaw _
      have D3 := hid ((D2.set (k * 3 + 1) (.string (mtx (K + 1)))).set (k * 3 + 2) (.int .i64 ((K + 2 : Nat) : Int)))
      rw [hstep.out] at D3
      have G3 := hid ((G2.out.trans (grownBy_set _ g (k * 3 + 1) (.string (mtx (K + 1))))).trans (grownBy_set _ g (k * 3 + 2) (.int .i64 ((K + 2 : Nat) : Int))))
      clear b2 D1' E1 D2 G1 G2 hat hstep C1 C2 x1 f1
      go_wp2
      go_roundg q
      case measure => omega
      case rel => exact ⟨k + 1, by omega, by go_num, by rw [← show K + 3 = m + 3 * (k + 1) by omega]; go_num, D3, G3⟩

theorem markDisk_any (g : Nat) (l : List FileD) (cap m : Nat) (r : List Value) (hm : m ≤ 10000000) (hl : l.length ≤ 1048576) (w : World) (hb : BlockIs w g 49 (fileCells l ++ r)) :
    Calls Tryz.prog 11 #[.agg #[.slice (some ⟨g, 0, none⟩) l.length cap], .int .i64 m] w fun e w' => e = .returned (.int .i64 ((m + 3 * l.length : Nat) : Int)) ∧ BlockIs w' g 49 (fileCells (marksF m l.length) ++ r) ∧ w.grownBy w' (some g) := by
  have C := hid (fun w hb => markFileS_any g l cap m r hm hl w hb)
  have HB := hid hb
  have HD := hid (World.grownBy_alloc w (.cells #[.slice (some ⟨g, 0, none⟩) l.length cap] 36) (some g))
  have HD2 := hid (hb.on (below_more (Below.refl w.heap.size w) (.cells #[.slice (some ⟨g, 0, none⟩) l.length cap] 36)) hb.lt)
  clear hb
  go_enter Tryz.func11, Tryz.ntmps11
  go_wp2_with fail
  refine (C.out _ HD2.out).mono ?_
  rintro e w1 ⟨rfl, k1, g1⟩
  have K1 := hid k1
  have G1 := hid (HD.out.trans g1)
  clear k1 g1 C HD HD2
  go_wp2
  go_ret
  exact ⟨rfl, K1.out, G1.out⟩
end Go.Proofs.YtbifkpkhpaellaaGreatDoor

namespace Go.Proofs.YtbifkpkhpaellaaGreatDoor
open Go.RowKit Go.Sort

set_option maxRecDepth 1000000 in
theorem eqFile_same (f : FileD) (w : World) :
    Calls Tryz.prog 55 #[f.value, f.value] w fun e w' => e = .returned (.bool true) ∧ Below w.heap.size w w' := by
  have hb : Hid (∀ (o p : Obj), Below w.heap.size w ((w.alloc o).alloc p)) := fun o p => ((Below.refl _ w).alloc (Nat.le_refl _) _).alloc (by simp [World.alloc, -World.alloc_eq]) _
  unfold FileD.value
  go_enter Tryz.func55, Tryz.ntmps55
  go_wp2
  go_ret
  exact ⟨rfl, hb.out _ _⟩

set_option maxRecDepth 1000000 in
set_option maxHeartbeats 1000000 in
theorem eqFileS_same (ao bo : Option Addr) (l : List FileD) (cap cap' : Nat) (hl : l.length ≤ 140737488355328) (w : World) (ha : FilesAt w ao l) (hb : FilesAt w bo l) :
    Calls Tryz.prog 29 #[.slice ao l.length cap, .slice bo l.length cap'] w fun e w' => e = .returned (.bool true) ∧ Below w.heap.size w w' := by
  have HA := (show Hid (FilesAt w ao l) from ha)
  have HB := (show Hid (FilesAt w bo l) from hb)
  clear ha hb
  go_enter Tryz.func29, Tryz.ntmps29
  go_wp2
  go_loopg [5] l.length (fun g i wr => ∃ (k : Nat), k + g = l.length ∧ i = .int .i64 k ∧ Hid (Below w.heap.size w wr))
  case atStart => exact ⟨0, by omega, rfl, (show Below _ _ _ from Below.refl _ _)⟩
  case round =>
    obtain ⟨k, hkg, rfl, BR⟩ := hrel
    cases gk with
    | zero =>
      have hlt : ¬ (k : Int) < (l.length : Int) := by omega
      go_wp2
      go_ret
      exact ⟨rfl, BR.out⟩
    | succ g =>
      have hlt : k < l.length := by omega
      have hlt' : (k : Int) < (l.length : Int) := by omega
      have hne : l ≠ [] := by intro e; rw [e] at hlt; simp at hlt
      obtain ⟨b, off, rfl, hc⟩ := HA.out.on BR.out hne
      obtain ⟨x0, x1, x2⟩ := hc k hlt
      obtain ⟨b', off', rfl, hc'⟩ := HB.out.on BR.out hne
      obtain ⟨y0, y1, y2⟩ := hc' k hlt
      have X0 := cell_regrown x0
      have X1 := cell_regrown x1
      have X2 := cell_regrown x2
      have Y0 := cell_regrown y0
      have Y1 := cell_regrown y1
      have Y2 := cell_regrown y2
      clear hc hc' x0 x1 x2 y0 y1 y2
      have C' := fun d os => Calls.regrown_of (w := wr) (d := d) (os := os) (eqFile_same l[k] _)
      unfold FileD.value at C'
      have C := (show Hid _ from C')
      clear C'
      go_wp2
      refine wp_region_quiet_below (by kernel_rfl) (by kernel_rfl) ?_
      repeat (first | go_big_quiet_step (first | (go_at_call 55; exact C.out _ _) | fail) | quiet_step (first | (go_at_call 55; exact C.out _ _) | fail))
      refine wpQuiet_nil ?_
      intro _ hw'
      obtain ⟨⟨dq, osq⟩, hw''⟩ := hw'
      subst hw''
      have BQ : Hid (Below w.heap.size w (grow (redrawn wr dq) osq)) := BR.out.trans ((below_regrown wr dq osq).mono BR.out.size)
      generalize grow (redrawn wr dq) osq = wq at BQ ⊢
      clear X0 X1 X2 Y0 Y1 Y2 C
      go_wp2
      go_roundg g
      case measure => omega
      case rel => exact ⟨k + 1, by omega, by go_num, BQ⟩

theorem eqDisk_same (ao bo : Option Addr) (l : List FileD) (cap cap' : Nat) (hl : l.length ≤ 140737488355328) (w : World) (ha : FilesAt w ao l) (hb : FilesAt w bo l) :
    Calls Tryz.prog 10 #[.agg #[.slice ao l.length cap], .agg #[.slice bo l.length cap']] w fun e w' => e = .returned (.bool true) ∧ Below w.heap.size w w' := by
  have C := (show Hid _ from fun w ha hb => eqFileS_same ao bo l cap cap' hl w ha hb)
  have hbb : ∀ (o p : Obj), Below w.heap.size w ((w.alloc o).alloc p) := fun o p => ((Below.refl _ w).alloc (Nat.le_refl _) _).alloc (by simp [World.alloc, -World.alloc_eq]) _
  have HBB := (show Hid _ from hbb)
  have HA := (show Hid (FilesAt w ao l) from ha)
  have HB := (show Hid (FilesAt w bo l) from hb)
  clear ha hb hbb
  go_enter Tryz.func10, Tryz.ntmps10
  go_wp2_with fail
  refine (C.out _ (HA.out.on (HBB.out _ _)) (HB.out.on (HBB.out _ _))).mono ?_
  rintro e w1 ⟨rfl, b1⟩
  have B1 := (show Hid (Below w.heap.size w w1) from (HBB.out _ _).trans (b1.mono (HBB.out _ _).size))
  clear b1 C
  go_wp2
  go_ret
  exact ⟨rfl, B1.out⟩
end Go.Proofs.YtbifkpkhpaellaaGreatDoor

namespace Go.Proofs.YtbifkpkhpaellaaGreatDoor
open Go.RowKit

/-- the k-th mark from m on -/
def markE (m k : Nat) : EntD := ⟨((m + 3 * k : Nat) : Int), ((m + 3 * k + 1 : Nat) : Int), mtx (m + 3 * k + 2)⟩
def marksE (m n : Nat) : List EntD := (List.range n).map (markE m)
theorem marksE_length (m n : Nat) : (marksE m n).length = n := by simp [marksE]
theorem marksE_succ (m n : Nat) : marksE m (n + 1) = marksE m n ++ [markE m n] := by simp [marksE, List.range_succ]

/-- the cells with the first k entries marked -/
def markedEnts (m k : Nat) (l : List EntD) (r : List Value) : List Value := entCells (marksE m k) ++ (entCells (l.drop k) ++ r)
theorem markedEnts_all (m : Nat) (l : List EntD) (r : List Value) : markedEnts m l.length l r = entCells (marksE m l.length) ++ r := by
  simp [markedEnts, entCells]
theorem markedEnts_split (m k : Nat) (l : List EntD) (r : List Value) (hk : k < l.length) :
    markedEnts m k l r = entCells (marksE m k) ++ .int .i64 l[k].term :: .int .i64 l[k].kind :: .string l[k].data :: (entCells (l.drop (k + 1)) ++ r) := by
  rw [markedEnts, List.drop_eq_getElem_cons hk]
  rfl
theorem markedEnts_step (m k : Nat) (l : List EntD) (r : List Value) (hk : k < l.length) :
    (((markedEnts m k l r).set (k * 3) (.int .i64 ((m + 3 * k : Nat) : Int))).set (k * 3 + 1) (.int .i64 ((m + 3 * k + 1 : Nat) : Int))).set (k * 3 + 2) (.string (mtx (m + 3 * k + 2))) = markedEnts m (k + 1) l r := by
  have e3 := set_three (entCells (marksE m k)) (.int .i64 ((m + 3 * k : Nat) : Int)) (.int .i64 ((m + 3 * k + 1 : Nat) : Int)) (.string (mtx (m + 3 * k + 2))) (.int .i64 l[k].term) (.int .i64 l[k].kind) (.string l[k].data) (entCells (l.drop (k + 1)) ++ r)
  rw [entCells_length, marksE_length] at e3
  rw [markedEnts_split m k l r hk, e3, markedEnts, marksE_succ]
  simp [entCells, entEnc, markE]
theorem markedEnts_at (m k : Nat) (l : List EntD) (r : List Value) (hk : k < l.length) :
    (markedEnts m k l r)[k * 3]? = some (.int .i64 l[k].term) ∧ (markedEnts m k l r)[k * 3 + 1]? = some (.int .i64 l[k].kind) ∧ (markedEnts m k l r)[k * 3 + 2]? = some (.string l[k].data) := by
  have hlen : (entCells (marksE m k)).length = k * 3 := by rw [entCells_length, marksE_length]
  rw [markedEnts_split m k l r hk]
  refine ⟨?_, ?_, ?_⟩
  · rw [List.getElem?_append_right (by omega), hlen, Nat.sub_self]; rfl
  · rw [List.getElem?_append_right (by omega), hlen, show k * 3 + 1 - k * 3 = 1 by omega]; rfl
  · rw [List.getElem?_append_right (by omega), hlen, show k * 3 + 2 - k * 3 = 2 by omega]; rfl

theorem set_otherE {cs : List Value} {i j : Nat} {v u : Value} (h : cs[j]? = some u) (hij : i ≠ j) : (cs.set i v)[j]? = some u := by
  rw [List.getElem?_set_ne hij]; exact h

set_option maxRecDepth 1000000 in
set_option maxHeartbeats 1000000 in
theorem markEntryS_any (g : Nat) (l : List EntD) (cap m : Nat) (r : List Value) (hm : m ≤ 10000000) (hl : l.length ≤ 1048576) (w : World) (hb : BlockIs w g 110 (entCells l ++ r)) :
    Calls Tryz.prog 56 #[.slice (some ⟨g, 0, none⟩) l.length cap, .int .i64 m] w fun e w' => e = .returned (.int .i64 ((m + 3 * l.length : Nat) : Int)) ∧ BlockIs w' g 110 (entCells (marksE m l.length) ++ r) ∧ w.grownBy w' (some g) := by
  have HB := (show Hid (BlockIs w g 110 (markedEnts m 0 l r)) from hb)
  clear hb
  go_enter Tryz.func56, Tryz.ntmps56
  go_wp2
  go_loopg [1, 5] l.length (fun q y i wr => ∃ (k : Nat), k + q = l.length ∧ i = .int .i64 k ∧ y = .int .i64 ((m + 3 * k : Nat) : Int) ∧ Hid (BlockIs wr g 110 (markedEnts m k l r)) ∧ Hid (w.grownBy wr (some g)))
  case atStart => exact ⟨0, by omega, rfl, rfl, HB, World.grownBy.refl _ _⟩
  case round =>
    obtain ⟨k, hkg, rfl, rfl, FB, GR⟩ := hrel
    clear HB
    cases gk with
    | zero =>
      have hlt : ¬ (k : Int) < (l.length : Int) := by omega
      obtain rfl : k = l.length := by omega
      rw [markedEnts_all] at FB
      go_wp2
      go_ret
      exact ⟨rfl, FB.out, GR.out⟩
    | succ q =>
      have hlt : k < l.length := by omega
      have hlt' : (k : Int) < (l.length : Int) := by omega
      have hat := hid (markedEnts_at m k l r hlt)
      have hstep := hid (markedEnts_step m k l r hlt)
      have C1 := hid (fun w => markText_any (m + 3 * k + 2) (by omega) w)
      obtain ⟨K, hK⟩ : ∃ K, m + 3 * k = K := ⟨_, rfl⟩
      have hKl : K ≤ 20000000 := by omega
      rw [hK] at C1 hstep ⊢
      have x1 := FB.out.cell hat.out.1
      have f1 := FB.out.thaw (k * 3)
      have x2 : (wr.setCell ⟨g, k * 3, none⟩ (.int .i64 (K : Int))).cell? ⟨g, k * 3 + 1, none⟩ = some (.int .i64 l[k].kind) := (FB.out.set (k * 3) (.int .i64 (K : Int))).cell (set_otherE hat.out.2.1 (by omega))
      have f2 : (wr.setCell ⟨g, k * 3, none⟩ (.int .i64 (K : Int))).frozen? ⟨g, k * 3 + 1, none⟩ = false := (FB.out.set (k * 3) (.int .i64 (K : Int))).thaw _
      have D0 := hid ((FB.out.set (k * 3) (.int .i64 (K : Int))).set (k * 3 + 1) (.int .i64 ((K : Int) + 1)))
      have G0 := hid ((GR.out.trans (grownBy_set _ g (k * 3) (.int .i64 (K : Int)))).trans (grownBy_set _ g (k * 3 + 1) (.int .i64 ((K : Int) + 1))))
      go_wp2_with fail
      refine (C1.out _).mono ?_
      rintro e w1 ⟨rfl, b1⟩
      have D1 := D0.out.on b1 D0.out.lt
      have G1 := hid (G0.out.trans (grown_of_below b1 (some g)))
      have y3 := D1.cell (set_otherE (set_otherE hat.out.2.2 (by omega)) (by omega))
      have f3 := D1.thaw (k * 3 + 2)
      have D2 := hid (D1.set (k * 3 + 2) (.string (mtx (K + 2))))
      rw [show ((K : Int) + 1) = ((K + 1 : Nat) : Int) by omega, hstep.out] at D2
      have G2 := hid (G1.out.trans (grownBy_set _ g (k * 3 + 2) (.string (mtx (K + 2)))))
      clear b1 FB GR D1 D0 G0 G1 x1 f1 x2 f2 C1 hat hstep
      go_wp2
      go_roundg q
      case measure => omega
      case rel => exact ⟨k + 1, by omega, by go_num, by rw [← show K + 3 = m + 3 * (k + 1) by omega]; go_num, D2, G2⟩

end Go.Proofs.YtbifkpkhpaellaaGreatDoor

namespace Go.Proofs.YtbifkpkhpaellaaGreatDoor
open Go.RowKit Go.Sort

set_option maxRecDepth 1000000 in
set_option maxHeartbeats 1000000 in
theorem heldEntryS_any (ao : Option Addr) (n cap m : Nat) (hm : m ≤ 10000000) (hl : n ≤ 1048576) (w : World) (ha : EntsAt w ao (marksE m n)) :
    Calls Tryz.prog 57 #[.slice ao n cap, .int .i64 m] w fun e w' => e = .returned (.int .i64 ((m + 3 * n : Nat) : Int)) ∧ Below w.heap.size w w' := by
  have HA := hid ha
  clear ha
  go_enter Tryz.func57, Tryz.ntmps57
  go_wp2
  go_loopg [1, 5] n (fun q y i wr => ∃ (k : Nat), k + q = n ∧ i = .int .i64 k ∧ y = .int .i64 ((m + 3 * k : Nat) : Int) ∧ Hid (Below w.heap.size w wr))
  case atStart => exact ⟨0, by omega, rfl, rfl, (show Below _ _ _ from Below.refl _ _)⟩
  case round =>
    obtain ⟨k, hkg, rfl, rfl, BR⟩ := hrel
    cases gk with
    | zero =>
      have hlt : ¬ (k : Int) < (n : Int) := by omega
      obtain rfl : k = n := by omega
      go_wp2
      go_ret
      exact ⟨rfl, BR.out⟩
    | succ q =>
      have hlt : k < n := by omega
      have hlt' : (k : Int) < (n : Int) := by omega
      have hkm : k < (marksE m n).length := by rw [marksE_length]; exact hlt
      have hne : marksE m n ≠ [] := by intro e; rw [e] at hkm; simp at hkm
      have hmk : (marksE m n)[k] = markE m k := by simp [marksE]
      obtain ⟨b, off, rfl, hc⟩ := HA.out.on BR.out hne
      obtain ⟨x0, x1, x2⟩ := hc k hkm
      rw [hmk] at x0 x1 x2
      simp only [markE] at x0 x1 x2
      clear hmk hne hkm hc
      obtain ⟨K, hK⟩ : ∃ K, m + 3 * k = K := ⟨_, rfl⟩
      have hKl : K ≤ 20000000 := by omega
      rw [hK] at x0 x1 x2 ⊢
      rw [show ((K + 1 : Nat) : Int) = (K : Int) + 1 by omega] at x1
      go_wp2
      have X2 := cell_regrown x2
      have C1 := hid (fun d os => Calls.regrown_of (w := wr) (d := d) (os := os) (markText_any (K + 2) (by omega) _))
      clear x0 x1 x2
      refine wp_region_quiet_below (by kernel_rfl) (by kernel_rfl) ?_
      repeat (first | go_big_quiet_step (first | (go_at_call 32; exact C1.out _ _) | fail) | quiet_step (first | (go_at_call 32; exact C1.out _ _) | fail))
      refine wpQuiet_nil ?_
      intro _ hw'
      obtain ⟨⟨dq, osq⟩, hw''⟩ := hw'
      subst hw''
      have b1 := below_regrown wr dq osq
      generalize grow (redrawn wr dq) osq = w1 at b1 ⊢
      have B1 := hid (below_via BR.out b1)
      clear X2 C1 b1 BR
      go_wp2
      go_roundg q
      case measure => omega
      case rel => exact ⟨k + 1, by omega, by go_num, by rw [← show K + 3 = m + 3 * (k + 1) by omega]; go_num, B1⟩

end Go.Proofs.YtbifkpkhpaellaaGreatDoor
