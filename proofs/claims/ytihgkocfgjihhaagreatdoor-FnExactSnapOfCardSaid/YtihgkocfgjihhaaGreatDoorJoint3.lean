/-
  Entries as data, in memory, one behind the other; the walk of laws.szEntryS.
  Entries as data, in memory, one behind the other; the walks of laws.szEntryS, szLog: a log's letters are counted.
-/
import Derived.Test.YtihgkocfgjihhaaGreatDoorJoint2
import Derived.BigQuiet
import Derived.Deep.LoopGhost
import Derived.WalkSmall
import Derived.WalkKit
namespace Go.Proofs.YtihgkocfgjihhaaGreatDoor
open Go.RowKit

set_option maxRecDepth 1000000 in
set_option maxHeartbeats 1000000 in
theorem szEntryS_any (ao : Option Addr) (l : List EntD) (cap : Nat) (n : Int) (h0 : 0 ≤ n) (h1 : n ≤ 1048576) (hl : l.length ≤ 9223372036854775807) (hf : EntsFit l) (w : World) (ha : EntsAt w ao l) :
    Calls Tryz.prog 133 #[.slice ao l.length cap, .int .i64 n] w fun e w' => ((n - l.length - entBulk l < 0 ∧ e = .returned (.int .i64 (-1))) ∨ (0 ≤ n - l.length - entBulk l ∧ e = .returned (.int .i64 (n - l.length - entBulk l)))) ∧ Below w.heap.size w w' := by
  have HA := hid ha
  have HF := hid hf
  have HN := entBulk_nonneg l
  clear ha hf
  by_cases hn : n - (l.length : Int) < 0
  · go_enter Tryz.func133, Tryz.ntmps133
    go_wp2
    go_ret
    exact ⟨Or.inl ⟨by omega, rfl⟩, Below.refl _ _⟩
  · go_enter Tryz.func133, Tryz.ntmps133
    go_wp2
    go_loopg [1, 5] l.length (fun g y i wr => ∃ (k : Nat), k + g = l.length ∧ i = .int .i64 k ∧ y = .int .i64 (n - l.length - entBulk (l.take k)) ∧ 0 ≤ n - l.length - entBulk (l.take k) ∧ Hid (Below w.heap.size w wr))
    case atStart => exact ⟨0, by omega, rfl, by simp [entBulk], by simp [entBulk]; omega, (show Below _ _ _ from Below.refl _ _)⟩
    case round =>
      obtain ⟨k, hkg, rfl, rfl, hpos, BR⟩ := hrel
      cases gk with
      | zero =>
        have hlt : ¬ (k : Int) < (l.length : Int) := by omega
        rw [List.take_of_length_le (by omega)] at hpos ⊢
        go_wp2
        go_ret
        exact ⟨Or.inr ⟨by omega, rfl⟩, BR.out⟩
      | succ g =>
        have hlt : k < l.length := by omega
        have hlt' : (k : Int) < (l.length : Int) := by omega
        obtain ⟨b, off, rfl, hc⟩ := HA.out.on BR.out (by intro e; rw [e] at hlt; simp at hlt)
        obtain ⟨x0, x1, x2⟩ := hc k hlt
        clear hc
        have C := hid (szEntry_any l[k] (n - l.length - entBulk (l.take k)) hpos (by have := entBulk_nonneg (l.take k); omega) (HF.out k hlt))
        have hstep := entBulk_take l k hlt
        have hmore := entBulk_le l (k + 1)
        rw [show n - (l.length : Int) - entBulk (l.take k) - l[k].data.size = n - l.length - entBulk (l.take (k + 1)) by omega] at C
        have HS : Hid (entBulk (l.take (k + 1)) ≤ entBulk l) := hmore
        have HS2 : Hid (entBulk (l.take (k + 1)) = entBulk (l.take k) + l[k].data.size) := hstep
        clear hstep hmore
        go_wp2_with fail
        refine (C.out _).mono ?_
        rintro e w1 ⟨(⟨hneg, rfl⟩ | ⟨hnn, rfl⟩), b1⟩
        · have B1 := hid (below_via BR.out b1)
          have hL : n - (l.length : Int) - entBulk l < 0 := by have := HS.out; have := HS2.out; omega
          clear b1 C
          go_wp2
          go_ret
          exact ⟨Or.inl ⟨hL, rfl⟩, B1.out⟩
        · have B1 := hid (below_via BR.out b1)
          have hnn' : 0 ≤ n - (l.length : Int) - entBulk (l.take (k + 1)) := by have := HS2.out; omega
          clear b1 C hnn
          go_wp2
          go_roundg g
          case measure => omega
          case rel => exact ⟨k + 1, by omega, by go_num, rfl, hnn', B1⟩
end Go.Proofs.YtihgkocfgjihhaaGreatDoor

namespace Go.Proofs.YtihgkocfgjihhaaGreatDoor
open Go.RowKit

theorem szLog_any (s t : Int) (ao : Option Addr) (l : List EntD) (cap : Nat) (n : Int) (h0 : 0 ≤ n) (h1 : n ≤ 1048576) (hl : l.length ≤ 9223372036854775807) (hf : EntsFit l) (w : World) (ha : EntsAt w ao l) :
    Calls Tryz.prog 86 #[.agg #[.int .i64 s, .int .i64 t, .slice ao l.length cap], .int .i64 n] w fun e w' => ((n - l.length - entBulk l < 0 ∧ e = .returned (.int .i64 (-1))) ∨ (0 ≤ n - l.length - entBulk l ∧ e = .returned (.int .i64 (n - l.length - entBulk l)))) ∧ Below w.heap.size w w' := by
  have C := hid (fun w ha => szEntryS_any ao l cap n h0 h1 hl hf w ha)
  have HA := hid ha
  have HB := hid (below_more (Below.refl w.heap.size w) (.cells #[.int .i64 s, .int .i64 t, .slice ao l.length cap] 36))
  clear ha hf
  go_enter Tryz.func86, Tryz.ntmps86
  go_wp2_with fail
  refine (C.out _ (HA.out.on HB.out)).mono ?_
  rintro e w1 ⟨(⟨hneg, rfl⟩ | ⟨hnn, rfl⟩), b1⟩
  · have B1 := hid (below_via HB.out b1)
    clear b1 C
    go_wp2
    go_ret
    exact ⟨Or.inl ⟨hneg, rfl⟩, B1.out⟩
  · have B1 := hid (below_via HB.out b1)
    clear b1 C
    go_wp2
    go_ret
    exact ⟨Or.inr ⟨hnn, rfl⟩, B1.out⟩
end Go.Proofs.YtihgkocfgjihhaaGreatDoor
