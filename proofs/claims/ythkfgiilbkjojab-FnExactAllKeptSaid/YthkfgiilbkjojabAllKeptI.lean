/-
  The walk of impl.AllKept: what it answers.
-/
import Derived.Test.YthkfgiilbkjojabDiskOkI
import Derived.Test.YthkfgiilbkjojabPlainKept
import Derived.Test.YthkfgiilbkjojabOwnRow
namespace Go.Proofs.Ythkfgiilbkjojab
open Go.RowKit

theorem diskOk_keptLe {l : List FileD} (h : diskOk l = true) {k : Nat} (hk : k < l.length) : l[k].kept ≤ l[k].text.size := by
  rw [diskOk, Bool.and_eq_true] at h
  have h2 := rightTo_down h.2 (show k + 1 ≤ l.length by omega)
  rw [rightTo_step hk] at h2
  simp only [Bool.and_eq_true, fileOk, within, decide_eq_true_eq] at h2
  omega
theorem keptTo_all {l : List FileD} : ∀ k, k ≤ l.length → (∀ j (hj : j < l.length), j < k → l[j].kept = l[j].text.size) → keptTo l k = true
  | 0, _, _ => rfl
  | k + 1, hk, h => by
    rw [keptTo_step (show k < l.length by omega), keptTo_all k (by omega) (fun j hj hjk => h j hj (by omega)), h k (by omega) (by omega)]
    simp
theorem allKept_ne {l : List FileD} {k : Nat} (hk : k < l.length) (h : l[k].kept ≠ l[k].text.size) : allKept l = false := by
  cases hd : diskOk l with
  | false => rw [allKept, hd]; rfl
  | true =>
    have := diskOk_keptLe hd hk
    exact not_allKept hk (by omega)

set_option maxRecDepth 1000000 in
set_option maxHeartbeats 1000000 in
theorem implAllKept_any (ao : Option Addr) (l : List FileD) (cap : Nat) (hl : l.length ≤ 16777216) (w : World) (ha : FilesAt w ao l) :
    Calls Try.prog 20 #[.agg #[.slice ao l.length cap]] w fun e w' => e = .returned (.bool (allKept l)) ∧ Below w.heap.size w w' := by
  have HA := hid ha
  have HB := hid (below_more (Below.refl w.heap.size w) (.cells #[.slice ao l.length cap] 31))
  have HX := (show Hid (BlockIs (w.alloc (.cells #[.slice ao l.length cap] 31)) w.heap.size 31 [.slice ao l.length cap]) from heap_alloc_new w _)
  have C := hid (fun w ha => implDiskOk_any ao l cap hl w ha)
  clear ha
  go_enter Try.func20, Try.ntmps20
  go_wp2
  go_loopg [4, 8] l.length (fun q _ i wr => ∃ (k : Nat), k + q = l.length ∧ i = .int .i64 k ∧ Hid (Below w.heap.size w wr) ∧ Hid (BlockIs wr w.heap.size 31 [.slice ao l.length cap]) ∧ Hid (∀ j (hj : j < l.length), j < k → l[j].kept = l[j].text.size))
  case atStart => exact ⟨0, by omega, rfl, HB, HX, fun j hj h => by omega⟩
  case round =>
    obtain ⟨k, hkg, rfl, BR, XR, HN⟩ := hrel
    clear HB HX
    have c0 := XR.out.cell (j := 0) rfl
    cases gk with
    | zero =>
      have hlt : ¬ (k : Int) < (l.length : Int) := by omega
      have hr : Hid (allKept l = diskOk l) := by show _ = _; rw [allKept, keptTo_all l.length (Nat.le_refl _) (fun j hj h => HN.out j hj (by omega))]; simp
      go_wp2_with fail
      refine (C.out _ (HA.out.on BR.out)).mono ?_
      rintro e w1 ⟨rfl, b1⟩
      have B1 := hid (below_via BR.out b1)
      clear b1 C XR c0
      go_wp2
      go_ret
      exact ⟨by rw [hr.out]; rfl, B1.out⟩
    | succ q =>
      have hlt : k < l.length := by omega
      have hlt' : (k : Int) < (l.length : Int) := by omega
      have hne : l ≠ [] := by intro e; rw [e] at hlt; simp at hlt
      obtain ⟨b, off, rfl, hc⟩ := HA.out.on BR.out hne
      obtain ⟨x0, x1, x2⟩ := hc k hlt
      clear hc
      have hbA := below_more (Below.refl wr.heap.size wr) (.cells #[.string l[k].name, .string l[k].text, .int .i64 l[k].kept] 63)
      have BA := hid (below_via BR.out hbA)
      have XA := hid (XR.out.on hbA XR.out.lt)
      clear hbA
      by_cases he : l[k].kept = (l[k].text.size : Int)
      · have he' : (l[k].kept == (l[k].text.size : Int)) = true := by rw [he]; simp
        have HE := hid he
        clear he
        go_wp2
        go_roundg q
        case measure => omega
        case rel =>
          refine ⟨k + 1, by omega, by go_num, BA, XA, fun j hj h => ?_⟩
          rcases Nat.lt_or_ge j k with q | q
          · exact HN.out j hj q
          · obtain rfl : j = k := by omega
            exact HE.out
      · have he' : (l[k].kept == (l[k].text.size : Int)) = false := beq_eq_false_iff_ne.2 he
        have hr := hid (allKept_ne hlt he)
        clear he
        go_wp2
        go_ret
        exact ⟨by rw [hr.out]; rfl, BA.out⟩
end Go.Proofs.Ythkfgiilbkjojab
