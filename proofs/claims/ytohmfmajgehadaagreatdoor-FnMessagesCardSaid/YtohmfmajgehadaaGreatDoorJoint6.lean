/-
  The walk of spec.l05Conf: some list of few numbers, in memory of its own.
  The walk of spec.l01In: whether a number is within bounds.
-/
import Derived.Test.YtohmfmajgehadaaGreatDoorJoint3
import Derived.Test.YtohmfmajgehadaaGreatDoorJoint5
import Derived.Test.YtohmfmajgehadaaGreatDoorJoint1
import Derived.Test.YtohmfmajgehadaaGreatDoorRows
import Derived.WalkKit
namespace Go.Proofs.YtohmfmajgehadaaGreatDoor
open Go.RowKit

/-- few numbers, none great -/
def FewInts (zs : List Int) : Prop := zs.length ≤ 6 ∧ ∀ z ∈ zs, -10 ≤ z ∧ z ≤ 10
/-- a list of few numbers, in memory of its own; the cursor -/
def ConfDid (w : World) (C : Nat) (e : Ending) (w' : World) : Prop := ∃ v zs, e = .returned v ∧ FewInts zs ∧ w'.ownsRow w.heap.size 3 1 v zs.length (is zs) ∧ CurAt w' C ∧ w.grownBy w' (some C)
theorem FewInts.more {zs : List Int} {x : Int} (h : FewInts zs) (hl : zs.length ≤ 5) (hx : -10 ≤ x ∧ x ≤ 10) : FewInts (zs ++ [x]) := by
  refine ⟨by simp; omega, fun z hz => ?_⟩
  rcases List.mem_append.1 hz with q | q
  · exact h.2 z q
  · rw [List.mem_singleton.1 q]; exact hx

theorem behindI_front {l r : List Int} {k : Nat} (hk : k ≤ l.length) (x : Int) : behindI (l ++ r) k x = behindI l k x := by
  cases k with
  | zero => rfl
  | succ j => rw [behindI, behindI, List.getElem?_append_left (by omega)]
theorem riseTo_front {l r : List Int} : ∀ k, k ≤ l.length → riseTo (l ++ r) k = riseTo l k
  | 0, _ => rfl
  | k + 1, h => by
    rw [riseTo, riseTo, riseTo_front k (by omega), List.getElem?_append_left (by omega), List.getElem?_eq_getElem (by omega)]
    simp only [behindI_front (l := l) (r := r) (k := k) (by omega)]
/-- numbers that ascend, from 1 to k -/
def Rises (l : List Int) (k : Nat) : Prop := riseTo l l.length = true ∧ ∀ z ∈ l, 1 ≤ z ∧ z ≤ (k : Int)
theorem Rises.up {l : List Int} {k : Nat} (h : Rises l k) : Rises l (k + 1) := ⟨h.1, fun z hz => by have := h.2 z hz; omega⟩
theorem Rises.snoc {l : List Int} {k : Nat} (h : Rises l k) (hk : k < 4) : Rises (l ++ [(k : Int) + 1]) (k + 1) := by
  refine ⟨?_, fun z hz => ?_⟩
  · rw [show (l ++ [(k : Int) + 1]).length = l.length + 1 by simp, riseTo, riseTo_front _ (Nat.le_refl _), h.1, List.getElem?_append_right (Nat.le_refl _)]
    simp only [Nat.sub_self, List.getElem?_cons_zero, Bool.true_and]
    rw [behindI_front (Nat.le_refl _), Bool.and_eq_true]
    refine ⟨within_iff.2 (by omega), ?_⟩
    cases hl : l.length with
    | zero => rfl
    | succ j =>
      rw [behindI, List.getElem?_eq_getElem (show j < l.length by omega)]
      have := h.2 l[j] (List.getElem_mem _)
      simp only [decide_eq_true_eq]
      omega
  · rcases List.mem_append.1 hz with q | q
    · have := h.2 z q; omega
    · rw [List.mem_singleton.1 q]; omega
theorem Rises.ok {l : List Int} {k : Nat} (h : Rises l k) (h0 : 0 < l.length) (h4 : l.length ≤ 4) : confOk l = true := by
  rw [confOk, h.1, Bool.and_true]
  exact within_iff.2 (by omega)

set_option maxRecDepth 1000000 in
set_option maxHeartbeats 1000000 in
theorem l05Conf_any (C : Nat) (w : World) (hc : CurAt w C) :
    Calls Tryz.prog 122 #[.pointer (some ⟨C, 0, none⟩)] w fun e w' => ∃ v zs, e = .returned v ∧ FewInts zs ∧ (zs.length ≤ 5 ∧ confOk zs = true) ∧ w'.ownsRow w.heap.size 3 1 v zs.length (is zs) ∧ CurAt w' C ∧ w.grownBy w' (some C) := by
  obtain ⟨i0, hi, hz0, hz1, hz2⟩ := info_parts places_info3
  have hCl := hc.lt
  have K0 := hid hc
  clear hc
  go_enter Tryz.func122, Tryz.ntmps122
  go_wp2
  go_loopw [3, 4] (fun v i wr => ∃ (k : Nat) (l : List Int), k ≤ 4 ∧ i = .int .i64 (k + 1 : Nat) ∧ l.length ≤ k ∧ Hid (Rises l k) ∧ Hid (FewInts l) ∧ wr.ownsRow w.heap.size 3 1 v l.length (is l) ∧ Hid (CurAt wr C) ∧ Hid (w.grownBy wr (some C))) (fun _ i _ => 5 - (intOf i).toNat)
  case atStart => exact ⟨0, [], by omega, rfl, by simp, ⟨rfl, fun z h => by simp at h⟩, ⟨by simp, fun z h => by simp at h⟩, World.ownsRow_made w #[] 0 (Nat.le_refl _) (Nat.zero_le _) rfl, K0.out.kept (World.grownBy_alloc w _ none) (fun j h => by cases h), World.grownBy_alloc w _ (some C)⟩
  case round =>
    obtain ⟨k, l, hk, rfl, hl, HRI, HZ, hown, KC, GC⟩ := hrel
    have hsz := GC.out.size
    by_cases hlt : k < 4
    · have hle : ((k + 1 : Nat) : Int) ≤ 4 := by omega
      go_wp2_with fail
      refine (l01Once_any C 2 (by omega) (by omega) _ KC.out).mono ?_
      rintro e w2 ⟨b, rfl, k2, q2⟩
      have hown2 := kept_cur3 hown q2 hCl
      have hsz2 := q2.size
      cases b with
      | false =>
        have K2 := hid k2
        have G2 := hid (GC.out.trans q2)
        clear k2 q2 hown
        go_wp2
        go_roundw
        case rel => exact ⟨k + 1, l, by omega, by go_num, by omega, HRI.out.up, HZ, hown2, K2, G2⟩
        case measure => simp [intOf]; omega
      | true =>
        have K2 := hid k2
        have Q2 := hid q2
        have HL := hid hl
        clear k2 q2 hl
        go_wp2_with (at_builtin; refine wpList_append_own _ rfl (.tmp 12) (.tmp 14) 36 rfl w.heap.size 3 i0 (.int .i64 0) 1 8 Tryz.underlying36 hi hz0 hz1 hz2 rfl (by decide) _ _ _ rfl (hown2.alloc _) ⟨w2.heap.size, 0, none⟩ 1 1 [.int .i64 ((k : Int) + 1)] rfl rfl (one_new _ _ _) (by intro u hu; simp at hu; subst hu; rfl) (by have := HL.out; unfold maxLen; omega) (by have := HL.out; omega) (by simp; omega) ?_)
        intro v' w3 hown' hgrow _
        obtain ⟨r2, r3, r4⟩ := places_step hCl (Nat.le_refl _) GC.out K2.out Q2.out hown' hgrow (fun j hj => (hown.lt j hj).1)
        have RI := hid (HRI.out.snoc hlt)
        have RZ := hid (HZ.out.more (x := (k : Int) + 1) (by have := HL.out; omega) (by omega))
        have R1 : Hid ((l ++ [(k : Int) + 1]).length = l.length + 1) := by show _ = _; simp
        have HL2 : Hid ((l ++ [(k : Int) + 1]).length ≤ k + 1) := by show _ ≤ _; have := HL.out; simp; omega
        have r5 : w3.ownsRow w.heap.size 3 1 v' (l ++ [(k : Int) + 1]).length (is (l ++ [(k : Int) + 1])) := by rw [R1.out]; exact r2
        have R3 := hid r3
        have R4 := hid r4
        obtain ⟨L, hL⟩ : ∃ L, l ++ [(k : Int) + 1] = L := ⟨_, rfl⟩
        rw [hL] at r5 RZ HL2 RI
        clear hown' hgrow hown hown2 r3 r4 r2 hL R1
        go_wp2
        go_roundw
        case rel => exact ⟨k + 1, L, by omega, by go_num, HL2.out, RI, RZ, r5, R3, R4⟩
        case measure => simp [intOf]; omega
    · obtain rfl : k = 4 := by omega
      obtain ⟨a1, c1, rfl⟩ := row_shape hown
      by_cases h0 : l.length = 0
      · have h0' : (l.length : Int) = 0 := by omega
        obtain rfl : l = [] := List.length_eq_zero_iff.1 h0
        have hown0 : wr.ownsRow w.heap.size 3 1 (.slice a1 0 c1) 0 (is []) := hown
        clear hown h0
        have hbase : w.heap.size ≤ (wr.alloc (.cells #[.int .i64 1] 3)).heap.size := by simp [World.alloc, -World.alloc_eq]; omega
        go_wp2_with (at_builtin; refine wpList_append_own _ rfl (.tmp 19) (.tmp 20) 36 rfl w.heap.size 3 i0 (.int .i64 0) 1 8 Tryz.underlying36 hi hz0 hz1 hz2 rfl (by decide) _ _ _ rfl (hown0.alloc _) ⟨wr.heap.size, 0, none⟩ 1 1 [.int .i64 1] rfl rfl (one_new _ _ _) (by intro u hu; simp at hu; subst hu; rfl) (by unfold maxLen; omega) (by omega) hbase ?_)
        intro v' w3 hown' hgrow _
        obtain ⟨r2, r3, r4⟩ := places_step hCl (Nat.le_refl _) GC.out KC.out (World.grownBy.refl wr (some C)) hown' hgrow (fun j hj => (hown0.lt j hj).1)
        have R2 := hid r2
        have R3 := hid r3
        have R4 := hid r4
        clear hown' hgrow hown0 r3 r4 r2
        go_wp2
        go_ret
        exact ⟨_, [1], rfl, ⟨by simp, fun z hz => by simp at hz; omega⟩, ⟨by simp, rfl⟩, R2.out, R3.out, R4.out⟩
      · have h0' : ¬ (l.length : Int) = 0 := by omega
        have HO := hid hown
        clear hown
        go_wp2
        go_ret
        exact ⟨_, l, rfl, HZ.out, ⟨by omega, HRI.out.ok (by omega) (by omega)⟩, HO.out, KC.out, GC.out⟩
end Go.Proofs.YtohmfmajgehadaaGreatDoor

namespace Go.Proofs.YtohmfmajgehadaaGreatDoor
open Go.RowKit

set_option maxRecDepth 1000000 in
theorem l01In_any (x a b : Int) (w : World) :
    Calls Tryz.prog 39 #[.int .i64 x, .int .i64 a, .int .i64 b] w fun e w' => e = .returned (.bool (within x a b)) ∧ w' = w := by
  unfold within
  by_cases h1 : a ≤ x
  · by_cases h2 : x ≤ b
    · go_enter Tryz.func39, Tryz.ntmps39
      go_wp2
      go_ret
      exact ⟨by simp [h1, h2], rfl⟩
    · go_enter Tryz.func39, Tryz.ntmps39
      go_wp2
      go_ret
      exact ⟨by simp; omega, rfl⟩
  · go_enter Tryz.func39, Tryz.ntmps39
    go_wp2
    go_ret
    exact ⟨by simp; omega, rfl⟩
end Go.Proofs.YtohmfmajgehadaaGreatDoor
