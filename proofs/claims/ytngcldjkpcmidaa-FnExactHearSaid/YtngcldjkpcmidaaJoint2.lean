/-
  The walks of laws.szLate, szLateS: letters are counted.
-/
import Derived.Test.YtngcldjkpcmidaaJoint1
import Derived.Test.YtngcldjkpcmidaaRows
namespace Go.Proofs.Ytngcldjkpcmidaa
open Go.RowKit

set_option maxRecDepth 1000000 in
theorem szLate_any (d : LateD) (n : Int) (h0 : 0 ≤ n) (h1 : n ≤ 1048576) (hf : d.Fits) (w : World) :
    Calls Try.prog 32 #[.agg #[.int .i64 d.num, .string d.text], .int .i64 n] w fun e w' => ((n - lateOne d < 0 ∧ e = .returned (.int .i64 (-1))) ∨ (0 ≤ n - lateOne d ∧ e = .returned (.int .i64 (n - lateOne d)))) ∧ Below w.heap.size w w' := by
  obtain ⟨_, hm1⟩ := hf
  unfold maxLen at hm1
  have HB := hid (below_more (Below.refl w.heap.size w) (.cells #[.int .i64 d.num, .string d.text] 59))
  have HO : Hid (lateOne d = (d.text.size : Int)) := rfl
  by_cases htext : n - (d.text.size : Int) < 0
  · go_enter Try.func32, Try.ntmps32
    go_wp2
    go_ret
    exact ⟨Or.inl ⟨by rw [HO.out]; omega, rfl⟩, HB.out⟩
  · go_enter Try.func32, Try.ntmps32
    go_wp2
    go_ret
    exact ⟨Or.inr ⟨by rw [HO.out]; omega, by rw [HO.out]; rfl⟩, HB.out⟩

set_option maxRecDepth 1000000 in
set_option maxHeartbeats 1000000 in
theorem szLateS_any (ao : Option Addr) (l : List LateD) (cap : Nat) (n : Int) (h0 : 0 ≤ n) (h1 : n ≤ 1048576) (hl : l.length ≤ 9223372036854775807) (hf : LatesFit l) (w : World) (ha : LatesAt w ao l) :
    Calls Try.prog 16 #[.slice ao l.length cap, .int .i64 n] w fun e w' => ((n - l.length - lateBulk l < 0 ∧ e = .returned (.int .i64 (-1))) ∨ (0 ≤ n - l.length - lateBulk l ∧ e = .returned (.int .i64 (n - l.length - lateBulk l)))) ∧ Below w.heap.size w w' := by
  have HA := hid ha
  have HF := hid hf
  have HN := lateBulk_nonneg l
  clear ha hf
  by_cases hn : n - (l.length : Int) < 0
  · go_enter Try.func16, Try.ntmps16
    go_wp2
    go_ret
    exact ⟨Or.inl ⟨by omega, rfl⟩, Below.refl _ _⟩
  · go_enter Try.func16, Try.ntmps16
    go_wp2
    go_loopg [1, 5] l.length (fun g y i wr => ∃ (k : Nat), k + g = l.length ∧ i = .int .i64 k ∧ y = .int .i64 (n - l.length - lateBulk (l.take k)) ∧ 0 ≤ n - l.length - lateBulk (l.take k) ∧ Hid (Below w.heap.size w wr))
    case atStart => exact ⟨0, by omega, rfl, by simp [lateBulk], by simp [lateBulk]; omega, (show Below _ _ _ from Below.refl _ _)⟩
    case round =>
      obtain ⟨k, hkg, rfl, rfl, hpos, BR⟩ := hrel
      cases gk with
      | zero =>
        have hlt : ¬ (k : Int) < (l.length : Int) := by omega
        rw [List.take_of_length_le (by omega)] at hpos ⊢
        go_wp2
        go_ret
        exact ⟨Or.inr ⟨by omega, rfl⟩, BR.out⟩
      | succ g =>
        have hlt : k < l.length := by omega
        have hlt' : (k : Int) < (l.length : Int) := by omega
        obtain ⟨b, off, rfl, hc⟩ := HA.out.on BR.out (by intro e; rw [e] at hlt; simp at hlt)
        obtain ⟨x0, x1⟩ := hc k hlt
        clear hc
        have C := hid (szLate_any l[k] (n - l.length - lateBulk (l.take k)) hpos (by have := lateBulk_nonneg (l.take k); omega) (HF.out k hlt))
        have hstep := lateBulk_take l k hlt
        have hmore := lateBulk_le l (k + 1)
        rw [show n - (l.length : Int) - lateBulk (l.take k) - lateOne l[k] = n - l.length - lateBulk (l.take (k + 1)) by omega] at C
        have HS : Hid (lateBulk (l.take (k + 1)) ≤ lateBulk l) := hmore
        have HS2 : Hid (lateBulk (l.take (k + 1)) = lateBulk (l.take k) + lateOne l[k]) := hstep
        clear hstep hmore
        go_wp2_with fail
        refine (C.out _).mono ?_
        rintro e w1 ⟨(⟨hneg, rfl⟩ | ⟨hnn, rfl⟩), b1⟩
        · have B1 := hid (below_via BR.out b1)
          have hL : n - (l.length : Int) - lateBulk l < 0 := by have := HS.out; have := HS2.out; omega
          clear b1 C
          go_wp2
          go_ret
          exact ⟨Or.inl ⟨hL, rfl⟩, B1.out⟩
        · have B1 := hid (below_via BR.out b1)
          have hnn' : 0 ≤ n - (l.length : Int) - lateBulk (l.take (k + 1)) := by have := HS2.out; omega
          clear b1 C hnn
          go_wp2
          go_roundg g
          case measure => omega
          case rel => exact ⟨k + 1, by omega, by go_num, rfl, hnn', B1⟩
end Go.Proofs.Ytngcldjkpcmidaa
