/-
  The walks of laws.szSession, szSessionS: letters are counted.
  The walks of laws.szItem, szItemS: letters are counted.
-/
import Derived.Test.YtihgkocfgjihhaaGreatDoorJoint1
import Derived.Test.YtihgkocfgjihhaaGreatDoorRows
namespace Go.Proofs.YtihgkocfgjihhaaGreatDoor
open Go.RowKit

set_option maxRecDepth 1000000 in
theorem szSession_any (d : SessionD) (n : Int) (h0 : 0 ≤ n) (h1 : n ≤ 1048576) (hf : d.Fits) (w : World) :
    Calls Tryz.prog 135 #[.agg #[.int .i64 d.token, .int .i64 d.last, .string d.reply], .int .i64 n] w fun e w' => ((n - sessionOne d < 0 ∧ e = .returned (.int .i64 (-1))) ∨ (0 ≤ n - sessionOne d ∧ e = .returned (.int .i64 (n - sessionOne d)))) ∧ Below w.heap.size w w' := by
  obtain ⟨_, _, hm2⟩ := hf
  unfold maxLen at hm2
  have HB := hid (below_more (Below.refl w.heap.size w) (.cells #[.int .i64 d.token, .int .i64 d.last, .string d.reply] 180))
  have HO : Hid (sessionOne d = (d.reply.size : Int)) := rfl
  by_cases hreply : n - (d.reply.size : Int) < 0
  · go_enter Tryz.func135, Tryz.ntmps135
    go_wp2
    go_ret
    exact ⟨Or.inl ⟨by rw [HO.out]; omega, rfl⟩, HB.out⟩
  · go_enter Tryz.func135, Tryz.ntmps135
    go_wp2
    go_ret
    exact ⟨Or.inr ⟨by rw [HO.out]; omega, by rw [HO.out]; rfl⟩, HB.out⟩

set_option maxRecDepth 1000000 in
set_option maxHeartbeats 1000000 in
theorem szSessionS_any (ao : Option Addr) (l : List SessionD) (cap : Nat) (n : Int) (h0 : 0 ≤ n) (h1 : n ≤ 1048576) (hl : l.length ≤ 9223372036854775807) (hf : SessionsFit l) (w : World) (ha : SessionsAt w ao l) :
    Calls Tryz.prog 89 #[.slice ao l.length cap, .int .i64 n] w fun e w' => ((n - l.length - sessionBulk l < 0 ∧ e = .returned (.int .i64 (-1))) ∨ (0 ≤ n - l.length - sessionBulk l ∧ e = .returned (.int .i64 (n - l.length - sessionBulk l)))) ∧ Below w.heap.size w w' := by
  have HA := hid ha
  have HF := hid hf
  have HN := sessionBulk_nonneg l
  clear ha hf
  by_cases hn : n - (l.length : Int) < 0
  · go_enter Tryz.func89, Tryz.ntmps89
    go_wp2
    go_ret
    exact ⟨Or.inl ⟨by omega, rfl⟩, Below.refl _ _⟩
  · go_enter Tryz.func89, Tryz.ntmps89
    go_wp2
    go_loopg [1, 5] l.length (fun g y i wr => ∃ (k : Nat), k + g = l.length ∧ i = .int .i64 k ∧ y = .int .i64 (n - l.length - sessionBulk (l.take k)) ∧ 0 ≤ n - l.length - sessionBulk (l.take k) ∧ Hid (Below w.heap.size w wr))
    case atStart => exact ⟨0, by omega, rfl, by simp [sessionBulk], by simp [sessionBulk]; omega, (show Below _ _ _ from Below.refl _ _)⟩
    case round =>
      obtain ⟨k, hkg, rfl, rfl, hpos, BR⟩ := hrel
      cases gk with
      | zero =>
        have hlt : ¬ (k : Int) < (l.length : Int) := by omega
        rw [List.take_of_length_le (by omega)] at hpos ⊢
        go_wp2
        go_ret
        exact ⟨Or.inr ⟨by omega, rfl⟩, BR.out⟩
      | succ g =>
        have hlt : k < l.length := by omega
        have hlt' : (k : Int) < (l.length : Int) := by omega
        obtain ⟨b, off, rfl, hc⟩ := HA.out.on BR.out (by intro e; rw [e] at hlt; simp at hlt)
        obtain ⟨x0, x1, x2⟩ := hc k hlt
        clear hc
        have C := hid (szSession_any l[k] (n - l.length - sessionBulk (l.take k)) hpos (by have := sessionBulk_nonneg (l.take k); omega) (HF.out k hlt))
        have hstep := sessionBulk_take l k hlt
        have hmore := sessionBulk_le l (k + 1)
        rw [show n - (l.length : Int) - sessionBulk (l.take k) - sessionOne l[k] = n - l.length - sessionBulk (l.take (k + 1)) by omega] at C
        have HS : Hid (sessionBulk (l.take (k + 1)) ≤ sessionBulk l) := hmore
        have HS2 : Hid (sessionBulk (l.take (k + 1)) = sessionBulk (l.take k) + sessionOne l[k]) := hstep
        clear hstep hmore
        go_wp2_with fail
        refine (C.out _).mono ?_
        rintro e w1 ⟨(⟨hneg, rfl⟩ | ⟨hnn, rfl⟩), b1⟩
        · have B1 := hid (below_via BR.out b1)
          have hL : n - (l.length : Int) - sessionBulk l < 0 := by have := HS.out; have := HS2.out; omega
          clear b1 C
          go_wp2
          go_ret
          exact ⟨Or.inl ⟨hL, rfl⟩, B1.out⟩
        · have B1 := hid (below_via BR.out b1)
          have hnn' : 0 ≤ n - (l.length : Int) - sessionBulk (l.take (k + 1)) := by have := HS2.out; omega
          clear b1 C hnn
          go_wp2
          go_roundg g
          case measure => omega
          case rel => exact ⟨k + 1, by omega, by go_num, rfl, hnn', B1⟩
end Go.Proofs.YtihgkocfgjihhaaGreatDoor

namespace Go.Proofs.YtihgkocfgjihhaaGreatDoor
open Go.RowKit

set_option maxRecDepth 1000000 in
theorem szItem_any (d : ItemD) (n : Int) (h0 : 0 ≤ n) (h1 : n ≤ 1048576) (hf : d.Fits) (w : World) :
    Calls Tryz.prog 136 #[.agg #[.string d.key, .string d.val, .int .i64 d.ver], .int .i64 n] w fun e w' => ((n - itemOne d < 0 ∧ e = .returned (.int .i64 (-1))) ∨ (0 ≤ n - itemOne d ∧ e = .returned (.int .i64 (n - itemOne d)))) ∧ Below w.heap.size w w' := by
  obtain ⟨hm0, hm1, _⟩ := hf
  unfold maxLen at hm0
  unfold maxLen at hm1
  have HB := hid (below_more (Below.refl w.heap.size w) (.cells #[.string d.key, .string d.val, .int .i64 d.ver] 182))
  have HO : Hid (itemOne d = (d.key.size : Int) + (d.val.size : Int)) := rfl
  by_cases hkey : n - (d.key.size : Int) < 0
  · go_enter Tryz.func136, Tryz.ntmps136
    go_wp2
    go_ret
    exact ⟨Or.inl ⟨by rw [HO.out]; omega, rfl⟩, HB.out⟩
  · skip
    by_cases hval : n - (d.key.size : Int) - (d.val.size : Int) < 0
    · go_enter Tryz.func136, Tryz.ntmps136
      go_wp2
      go_ret
      exact ⟨Or.inl ⟨by rw [HO.out]; omega, rfl⟩, HB.out⟩
    · go_enter Tryz.func136, Tryz.ntmps136
      go_wp2
      go_ret
      exact ⟨Or.inr ⟨by rw [HO.out]; omega, by rw [HO.out]; refine congrArg (fun z => Ending.returned (.int .i64 z)) (?_ : _ = _); omega⟩, HB.out⟩

set_option maxRecDepth 1000000 in
set_option maxHeartbeats 1000000 in
theorem szItemS_any (ao : Option Addr) (l : List ItemD) (cap : Nat) (n : Int) (h0 : 0 ≤ n) (h1 : n ≤ 1048576) (hl : l.length ≤ 9223372036854775807) (hf : ItemsFit l) (w : World) (ha : ItemsAt w ao l) :
    Calls Tryz.prog 90 #[.slice ao l.length cap, .int .i64 n] w fun e w' => ((n - l.length - itemBulk l < 0 ∧ e = .returned (.int .i64 (-1))) ∨ (0 ≤ n - l.length - itemBulk l ∧ e = .returned (.int .i64 (n - l.length - itemBulk l)))) ∧ Below w.heap.size w w' := by
  have HA := hid ha
  have HF := hid hf
  have HN := itemBulk_nonneg l
  clear ha hf
  by_cases hn : n - (l.length : Int) < 0
  · go_enter Tryz.func90, Tryz.ntmps90
    go_wp2
    go_ret
    exact ⟨Or.inl ⟨by omega, rfl⟩, Below.refl _ _⟩
  · go_enter Tryz.func90, Tryz.ntmps90
    go_wp2
    go_loopg [1, 5] l.length (fun g y i wr => ∃ (k : Nat), k + g = l.length ∧ i = .int .i64 k ∧ y = .int .i64 (n - l.length - itemBulk (l.take k)) ∧ 0 ≤ n - l.length - itemBulk (l.take k) ∧ Hid (Below w.heap.size w wr))
    case atStart => exact ⟨0, by omega, rfl, by simp [itemBulk], by simp [itemBulk]; omega, (show Below _ _ _ from Below.refl _ _)⟩
    case round =>
      obtain ⟨k, hkg, rfl, rfl, hpos, BR⟩ := hrel
      cases gk with
      | zero =>
        have hlt : ¬ (k : Int) < (l.length : Int) := by omega
        rw [List.take_of_length_le (by omega)] at hpos ⊢
        go_wp2
        go_ret
        exact ⟨Or.inr ⟨by omega, rfl⟩, BR.out⟩
      | succ g =>
        have hlt : k < l.length := by omega
        have hlt' : (k : Int) < (l.length : Int) := by omega
        obtain ⟨b, off, rfl, hc⟩ := HA.out.on BR.out (by intro e; rw [e] at hlt; simp at hlt)
        obtain ⟨x0, x1, x2⟩ := hc k hlt
        clear hc
        have C := hid (szItem_any l[k] (n - l.length - itemBulk (l.take k)) hpos (by have := itemBulk_nonneg (l.take k); omega) (HF.out k hlt))
        have hstep := itemBulk_take l k hlt
        have hmore := itemBulk_le l (k + 1)
        rw [show n - (l.length : Int) - itemBulk (l.take k) - itemOne l[k] = n - l.length - itemBulk (l.take (k + 1)) by omega] at C
        have HS : Hid (itemBulk (l.take (k + 1)) ≤ itemBulk l) := hmore
        have HS2 : Hid (itemBulk (l.take (k + 1)) = itemBulk (l.take k) + itemOne l[k]) := hstep
        clear hstep hmore
        go_wp2_with fail
        refine (C.out _).mono ?_
        rintro e w1 ⟨(⟨hneg, rfl⟩ | ⟨hnn, rfl⟩), b1⟩
        · have B1 := hid (below_via BR.out b1)
          have hL : n - (l.length : Int) - itemBulk l < 0 := by have := HS.out; have := HS2.out; omega
          clear b1 C
          go_wp2
          go_ret
          exact ⟨Or.inl ⟨hL, rfl⟩, B1.out⟩
        · have B1 := hid (below_via BR.out b1)
          have hnn' : 0 ≤ n - (l.length : Int) - itemBulk (l.take (k + 1)) := by have := HS2.out; omega
          clear b1 C hnn
          go_wp2
          go_roundg g
          case measure => omega
          case rel => exact ⟨k + 1, by omega, by go_num, rfl, hnn', B1⟩
end Go.Proofs.YtihgkocfgjihhaaGreatDoor
