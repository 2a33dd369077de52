/-
  The walk of strings.Clone: the text itself, in new memory.
  The walk of impl.ReadShort: what it answers.
-/
import Derived.Test.YtihgkocfgjihhaaGreatDoorRows
import Derived.Test.YtihgkocfgjihhaaGreatDoorJoint1
import Derived.Lib.UnsafeStr
import Derived.Lib.BufferWrite
import Derived.Laws.CopyOwn
import Derived.WalkKit
import Derived.Test.YtihgkocfgjihhaaGreatDoorJoint37
namespace Go.Proofs.YtihgkocfgjihhaaGreatDoor
open Go.RowKit

theorem clone_info5 : (Tryz.prog.info? 5).map (fun i => (i.zero, i.size, i.bytes)) = some (some (.int .u8 0), 1, 1) := by kernel_rfl

theorem clone_mem {w w1 : World} {s : ByteArray} (h0 : 0 < s.size) (hm : s.size ≤ 140737488355328) {zs : List Value} (hown : w1.ownsRow w.heap.size 5 1 (.slice (some ⟨w.heap.size, 0, none⟩) s.size s.size) s.size zs) (hg : w.grownBy w1 none) :
    ∃ W2 W3, (∀ ty, (Builtin.copy_ #[112, 9] ty #[.slice (some ⟨w.heap.size, 0, none⟩) s.size s.size, .string s]).run Tryz.prog w1 = .ok (goInt s.size) W2) ∧
      (∀ ty, (Builtin.unsafeString_ #[221, 3] ty #[.pointer (some ⟨w.heap.size, 0, none⟩), .int .i64 s.size]).run Tryz.prog W2 = .ok (.string s) W3) ∧ Below w.heap.size w W3 := by
  obtain ⟨h1, h2⟩ := hown
  rcases h2 with ⟨hv, hn⟩ | ⟨g, cap, cur, hv, hgb, hh, hle, hmx, hsz, hx⟩
  · cases hv
  · simp only [Value.slice.injEq, Option.some.injEq, Addr.mk.injEq, and_true, true_and] at hv
    obtain ⟨rfl, rfl⟩ := hv
    simp only [Nat.mul_one] at hsz
    have hc := fun ty => Lib.run_copy_row_string (P := Tryz.prog) w1 112 9 ty 5 w.heap.size 0 s.size s.size s cur 5 Tryz.underlying112 (by kernel_rfl) hh (Nat.le_refl _) (by omega)
    have ea : (cur.toList.take 0 ++ Lib.byteCells s.data.toList ++ cur.toList.drop (0 + s.size)).toArray = (Lib.byteCells s.data.toList).toArray := by
      rw [List.drop_of_length_le (by simp; omega)]
      simp
    rw [ea] at hc
    have hb2 : Below w.heap.size w (w1.setRow w.heap.size (Lib.byteCells s.data.toList).toArray) := below_setRow ((Below.refl _ _).grown hg (Nat.le_refl _) (fun k h => by cases h)) (Nat.le_refl _) _
    have hh2 : (w1.setRow w.heap.size (Lib.byteCells s.data.toList).toArray).heap[w.heap.size]? = some (.cells (Lib.byteCells s.data.toList).toArray 5 (0, 0)) := by
      simp only [World.setRow]
      rw [Array.getElem?_modify, if_pos rfl, hh]
      rfl
    have hlen : s.data.toList.length = s.size := by simp
    have hbl : (Lib.byteCells s.data.toList).length = s.size := by rw [Lib.byteCells_length, hlen]
    have hown2 : (w1.setRow w.heap.size (Lib.byteCells s.data.toList).toArray).ownsRow w.heap.size 5 1 (.slice (some ⟨w.heap.size, 0, none⟩) s.size s.size) s.size (Lib.byteCells s.data.toList) :=
      ⟨by omega, Or.inr ⟨_, _, _, rfl, Nat.le_refl _, hh2, Nat.le_refl _, hmx, by simp [hbl], by rw [List.take_of_length_le (by simp [hbl])]⟩⟩
    have hu := fun ty => Lib.run_unsafeString_row (P := Tryz.prog) (w1.setRow w.heap.size (Lib.byteCells s.data.toList).toArray) 221 3 ty 5 Tryz.underlying221 (by kernel_rfl) w.heap.size s.size
      (by simp [World.shape?, hh2, Lib.byteCells_length]) s.data.toList (by intro e; rw [e] at hlen; simp at hlen; omega) (by omega) (by omega)
      (fun j x hj => hown2.cells rfl j _ (by simp [Lib.byteCells, hj]))
    rw [hlen] at hu
    exact ⟨_, _, hc, hu, Lib.below_freeze hb2 (Nat.le_refl _) _⟩

set_option maxRecDepth 1000000 in
theorem liteClone_any (s : ByteArray) (hm : s.size ≤ 140737488355328) (w : World) :
    Calls Tryz.prog 219 #[.string s] w fun e w' => e = .returned (.string s) ∧ Below w.heap.size w w' := by
  by_cases h0 : s.size = 0
  · have hs : s = ByteArray.empty := by
      obtain ⟨⟨l⟩⟩ := s
      cases l with | nil => rfl | cons a l => simp [ByteArray.size] at h0
    subst hs
    go_enter Tryz.func219, Tryz.ntmps219
    go_wp2
    go_ret
    exact ⟨rfl, Below.refl _ _⟩
  · obtain ⟨i0, hi, hz0, hz1, hz2⟩ := info_parts clone_info5
    have hp : 0 < s.size := by omega
    have hp' : ((s.size : Int) == 0) = false := by rw [beq_eq_false_iff_ne]; omega
    go_enter Tryz.func219, Tryz.ntmps219
    go_wp2_with (at_make; refine wpList_make_full _ rfl (.tmp 8) (.tmp 8) 112 rfl w.heap.size 5 i0 (.int .u8 0) 1 Tryz.underlying112 hi hz0 hz1 _ _ _ _ s.size rfl rfl rfl rfl ?b2 ?b3 ?b4 ?_)
    case b2 => rw [hz2]; omega
    case b3 => unfold maxLen; omega
    case b4 => exact Nat.le_refl _
    intro w1 hown hgrow
    obtain ⟨W2, W3, hc, hu, hb⟩ := clone_mem hp hm hown hgrow
    clear hown hgrow
    go_wp2
    go_ret
    exact ⟨rfl, hb⟩

theorem clone_any (s : ByteArray) (hm : s.size ≤ 140737488355328) (w : World) :
    Calls Tryz.prog 216 #[.string s] w fun e w' => e = .returned (.string s) ∧ Below w.heap.size w w' := by
  go_enter Tryz.func216, Tryz.ntmps216
  go_wp2_with (go_at_call 219; refine (liteClone_any s hm _).mono ?_; rintro e w' ⟨rfl, hb⟩)
  go_ret
  exact ⟨rfl, hb⟩
end Go.Proofs.YtihgkocfgjihhaaGreatDoor

namespace Go.Proofs.YtihgkocfgjihhaaGreatDoor
open Go.RowKit

set_option maxRecDepth 1000000 in
theorem implReadShort_any (s : ByteArray) (a : Int) (hs : s.size ≤ 140737488355328) (w : World) :
    Calls Tryz.prog 209 #[.string s, .int .i64 a] w fun e w' => e = .returned (rsAns s (rs s a)) ∧ Below w.heap.size w w' := by
  by_cases h : 0 ≤ a ∧ a ≤ s.size
  · obtain ⟨n, rfl⟩ : ∃ n : Nat, a = n := ⟨a.toNat, by omega⟩
    have hn : n ≤ s.size := by omega
    clear h
    have c1 := implReadVar_in s n hn hs
    rcases hr : rv (s.data.toList.drop n) with _ | ⟨x, c⟩
    · rw [hr] at c1
      rw [rs_none hn hr]
      have C1 := (show Hid _ from c1)
      clear hr c1
      go_enter Tryz.func209, Tryz.ntmps209
      go_wp2_with fail
      refine (C1.out _).mono ?_
      rintro e w1 ⟨rfl, rfl⟩
      simp only [rvAns]
      go_wp2
      go_ret3
      exact ⟨rfl, Below.refl _ _⟩
    · have hf := rv_fits hn hr
      obtain ⟨f1, f2, f3⟩ := hf
      rw [hr] at c1
      by_cases hb : x ≤ 20000 ∧ n + c + x ≤ s.size
      · rw [rs_yes hn hr hb]
        obtain ⟨g1, g2⟩ := hb
        have C1 := (show Hid _ from c1)
        clear hr c1
        have hsl := slice_nat (P := Tryz.prog) Tryz.underlying9 s (n + c) (n + c + x) ((n : Int) + c) ((n : Int) + c + x) (by omega) (by omega) (by omega) (by omega)
        have hle : (s.extract (n + c) (n + c + x)).size ≤ 140737488355328 := by rw [ByteArray.size_extract]; omega
        go_enter Tryz.func209, Tryz.ntmps209
        go_wp2_with fail
        refine (C1.out _).mono ?_
        rintro e w1 ⟨rfl, rfl⟩
        simp only [rvAns]
        go_wp2_with fail
        refine (clone_any _ hle _).mono ?_
        rintro e w2 ⟨rfl, hb2⟩
        go_wp2
        go_ret3
        exact ⟨by simp [rsAns], hb2⟩
      · rw [rs_big hn hr hb]
        have C1 := (show Hid _ from c1)
        clear hr c1
        by_cases g1 : 20000 < x
        · clear hb
          go_enter Tryz.func209, Tryz.ntmps209
          go_wp2_with fail
          refine (C1.out _).mono ?_
          rintro e w1 ⟨rfl, rfl⟩
          simp only [rvAns]
          go_wp2
          go_ret3
          exact ⟨rfl, Below.refl _ _⟩
        · have g2 : (s.size : Int) - ((n : Int) + c) < x := by omega
          clear hb
          go_enter Tryz.func209, Tryz.ntmps209
          go_wp2_with fail
          refine (C1.out _).mono ?_
          rintro e w1 ⟨rfl, rfl⟩
          simp only [rvAns]
          go_wp2
          go_ret3
          exact ⟨rfl, Below.refl _ _⟩
  · have h' : a < 0 ∨ (s.size : Int) < a := by omega
    rw [rs_out h']
    have C1 := (show Hid _ from implReadVar_out s a h')
    clear h h'
    go_enter Tryz.func209, Tryz.ntmps209
    go_wp2_with fail
    refine (C1.out _).mono ?_
    rintro e w1 ⟨rfl, rfl⟩
    go_wp2
    go_ret3
    exact ⟨rfl, Below.refl _ _⟩
end Go.Proofs.YtihgkocfgjihhaaGreatDoor
