/-
  The walks of laws.szFile, szFileS, szDisk: a disk's letters are counted.
-/
import Derived.Test.YtihgkocfgjihhaaGreatDoorJoint1
namespace Go.Proofs.YtihgkocfgjihhaaGreatDoor
open Go.RowKit

set_option maxRecDepth 1000000 in
theorem szFile_any (f : FileD) (n : Int) (h0 : 0 ≤ n) (h1 : n ≤ 1048576) (hs : f.name.size ≤ 9223372036854775807) (ht : f.text.size ≤ 9223372036854775807) (w : World) :
    Calls Tryz.prog 134 #[f.value, .int .i64 n] w fun e w' => ((n - f.name.size - f.text.size < 0 ∧ e = .returned (.int .i64 (-1))) ∨ (0 ≤ n - f.name.size - f.text.size ∧ e = .returned (.int .i64 (n - f.name.size - f.text.size)))) ∧ Below w.heap.size w w' := by
  unfold FileD.value
  go_enter Tryz.func134, Tryz.ntmps134
  go_wp2
  · go_ret
    exact ⟨Or.inl ⟨by omega, rfl⟩, (Below.refl _ _).alloc (Nat.le_refl _) _⟩
  · go_ret
    exact ⟨Or.inl ⟨by omega, rfl⟩, (Below.refl _ _).alloc (Nat.le_refl _) _⟩
  · go_ret
    exact ⟨Or.inr ⟨by omega, rfl⟩, (Below.refl _ _).alloc (Nat.le_refl _) _⟩

set_option maxRecDepth 1000000 in
set_option maxHeartbeats 1000000 in
theorem szFileS_any (ao : Option Addr) (l : List FileD) (cap : Nat) (n : Int) (h0 : 0 ≤ n) (h1 : n ≤ 1048576) (hl : l.length ≤ 9223372036854775807) (hf : FilesFit l) (w : World) (ha : FilesAt w ao l) :
    Calls Tryz.prog 88 #[.slice ao l.length cap, .int .i64 n] w fun e w' => ((n - l.length - fileBulk l < 0 ∧ e = .returned (.int .i64 (-1))) ∨ (0 ≤ n - l.length - fileBulk l ∧ e = .returned (.int .i64 (n - l.length - fileBulk l)))) ∧ Below w.heap.size w w' := by
  have HA := (show Hid (FilesAt w ao l) from ha)
  have HF := (show Hid (FilesFit l) from hf)
  have HN := fileBulk_nonneg l
  clear ha hf
  by_cases hn : n - (l.length : Int) < 0
  · go_enter Tryz.func88, Tryz.ntmps88
    go_wp2
    go_ret
    exact ⟨Or.inl ⟨by omega, rfl⟩, Below.refl _ _⟩
  · go_enter Tryz.func88, Tryz.ntmps88
    go_wp2
    go_loopg [1, 5] l.length (fun g y i wr => ∃ (k : Nat), k + g = l.length ∧ i = .int .i64 k ∧ y = .int .i64 (n - l.length - fileBulk (l.take k)) ∧ 0 ≤ n - l.length - fileBulk (l.take k) ∧ Hid (Below w.heap.size w wr))
    case atStart => exact ⟨0, by omega, rfl, by simp [fileBulk], by simp [fileBulk]; omega, (show Below _ _ _ from Below.refl _ _)⟩
    case round =>
      obtain ⟨k, hkg, rfl, rfl, hpos, BR⟩ := hrel
      cases gk with
      | zero =>
        have hlt : ¬ (k : Int) < (l.length : Int) := by omega
        rw [List.take_of_length_le (by omega)] at hpos ⊢
        go_wp2
        go_ret
        exact ⟨Or.inr ⟨by omega, rfl⟩, BR.out⟩
      | succ g =>
        have hlt : k < l.length := by omega
        have hlt' : (k : Int) < (l.length : Int) := by omega
        obtain ⟨b, off, rfl, hc⟩ := HA.out.on BR.out (by intro e; rw [e] at hlt; simp at hlt)
        obtain ⟨x0, x1, x2⟩ := hc k hlt
        clear hc
        have hfit := HF.out k hlt
        have C := (show Hid _ from szFile_any l[k] (n - l.length - fileBulk (l.take k)) hpos (by have := fileBulk_nonneg (l.take k); omega) hfit.1 hfit.2)
        have hstep := fileBulk_take l k hlt
        have hmore := fileBulk_le l (k + 1)
        unfold FileD.value at C
        rw [show n - (l.length : Int) - fileBulk (l.take k) - l[k].name.size - l[k].text.size = n - l.length - fileBulk (l.take (k + 1)) by omega] at C
        have HS : Hid (fileBulk (l.take (k + 1)) ≤ fileBulk l) := hmore
        clear hfit hstep hmore
        go_wp2_with fail
        refine (C.out _).mono ?_
        rintro e w1 ⟨(⟨hneg, rfl⟩ | ⟨hnn, rfl⟩), b1⟩
        · have B1 := (show Hid (Below w.heap.size w w1) from BR.out.trans (b1.mono BR.out.size))
          have hL : n - (l.length : Int) - fileBulk l < 0 := by have := HS.out; omega
          clear b1 C
          go_wp2
          go_ret
          exact ⟨Or.inl ⟨hL, rfl⟩, B1.out⟩
        · have B1 := (show Hid (Below w.heap.size w w1) from BR.out.trans (b1.mono BR.out.size))
          clear b1 C
          go_wp2
          go_roundg g
          case measure => omega
          case rel => exact ⟨k + 1, by omega, by go_num, rfl, hnn, B1⟩

theorem szDisk_any (ao : Option Addr) (l : List FileD) (cap : Nat) (n : Int) (h0 : 0 ≤ n) (h1 : n ≤ 1048576) (hl : l.length ≤ 9223372036854775807) (hf : FilesFit l) (w : World) (ha : FilesAt w ao l) :
    Calls Tryz.prog 38 #[.agg #[.slice ao l.length cap], .int .i64 n] w fun e w' => ((n - l.length - fileBulk l < 0 ∧ e = .returned (.int .i64 (-1))) ∨ (0 ≤ n - l.length - fileBulk l ∧ e = .returned (.int .i64 (n - l.length - fileBulk l)))) ∧ Below w.heap.size w w' := by
  have C := (show Hid _ from fun w ha => szFileS_any ao l cap n h0 h1 hl hf w ha)
  have HA := (show Hid (FilesAt w ao l) from ha)
  clear ha hf
  go_enter Tryz.func38, Tryz.ntmps38
  go_wp2_with fail
  refine (C.out _ (HA.out.on ((Below.refl _ _).alloc (Nat.le_refl _) _))).mono ?_
  rintro e w1 ⟨(⟨hneg, rfl⟩ | ⟨hnn, rfl⟩), b1⟩
  · have B1 := (show Hid (Below w.heap.size w w1) from ((Below.refl _ w).alloc (Nat.le_refl _) _).trans (b1.mono (by simp [World.alloc, -World.alloc_eq])))
    clear b1 C
    go_wp2
    go_ret
    exact ⟨Or.inl ⟨hneg, rfl⟩, B1.out⟩
  · have B1 := (show Hid (Below w.heap.size w w1) from ((Below.refl _ w).alloc (Nat.le_refl _) _).trans (b1.mono (by simp [World.alloc, -World.alloc_eq])))
    clear b1 C
    go_wp2
    go_ret
    exact ⟨Or.inr ⟨hnn, rfl⟩, B1.out⟩
end Go.Proofs.YtihgkocfgjihhaaGreatDoor
