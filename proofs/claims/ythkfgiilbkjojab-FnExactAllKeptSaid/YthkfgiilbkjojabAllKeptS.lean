/-
  The walk of spec.AllKept: what it answers.
-/
import Derived.Test.YthkfgiilbkjojabDiskOkS
import Derived.Test.YthkfgiilbkjojabPlainKept
import Derived.BigQuiet
namespace Go.Proofs.Ythkfgiilbkjojab
open Go.RowKit

set_option maxRecDepth 1000000 in
set_option maxHeartbeats 1000000 in
theorem specAllKept_any (ao : Option Addr) (l : List FileD) (cap : Nat) (hl : l.length ≤ 16777216) (w : World) (ha : FilesAt w ao l) :
    Calls Try.prog 19 #[.agg #[.slice ao l.length cap]] w fun e w' => e = .returned (.bool (allKept l)) ∧ Below w.heap.size w w' := by
  have HA := hid ha
  have HB := hid (below_more (Below.refl w.heap.size w) (.cells #[.slice ao l.length cap] 31))
  have HX := (show Hid (BlockIs (w.alloc (.cells #[.slice ao l.length cap] 31)) w.heap.size 31 [.slice ao l.length cap]) from heap_alloc_new w _)
  have C := hid (fun w ha => specDiskOk_any ao l cap hl w ha)
  clear ha
  cases hd : diskOk l with
  | false =>
    rw [hd] at C
    have hr : Hid (allKept l = false) := by show _ = _; rw [allKept, hd]; rfl
    go_enter Try.func19, Try.ntmps19
    go_wp2_with fail
    refine (C.out _ (HA.out.on HB.out)).mono ?_
    rintro e w1 ⟨rfl, b1⟩
    have B1 := hid (below_via HB.out b1)
    clear b1 C HB HX
    go_wp2
    go_ret
    exact ⟨by rw [hr.out]; rfl, B1.out⟩
  | true =>
    rw [hd] at C
    have HD := hid hd
    clear hd
    go_enter Try.func19, Try.ntmps19
    go_wp2_with fail
    refine (C.out _ (HA.out.on HB.out)).mono ?_
    rintro e w1 ⟨rfl, b1⟩
    have B1 := hid (below_via HB.out b1)
    have X1 := HX.out.on b1 HX.out.lt
    have c0 := X1.cell (j := 0) rfl
    clear b1 C HB HX X1
    go_wp2
    go_loopg [3] l.length (fun q i wr => ∃ (k nq : Nat), wr = w1.drewN nq ∧ k + q = l.length ∧ i = .int .i64 k ∧ Hid (keptTo l k = true))
    case atStart => exact ⟨0, 0, rfl, by omega, rfl, rfl⟩
    case round =>
      obtain ⟨k, nq, rfl, hkg, rfl, HK⟩ := hrel
      cases gk with
      | zero =>
        have hlt : ¬ (k : Int) < (l.length : Int) := by omega
        have hr : Hid (allKept l = true) := by show _ = _; rw [allKept, HD.out, show l.length = k by omega, HK.out]; rfl
        go_wp2
        go_ret
        exact ⟨by rw [hr.out]; rfl, below_drewN B1.out _⟩
      | succ q =>
        have hlt : k < l.length := by omega
        have hlt' : (k : Int) < (l.length : Int) := by omega
        have hne : l ≠ [] := by intro e; rw [e] at hlt; simp at hlt
        obtain ⟨b, off, rfl, hc⟩ := HA.out.on B1.out hne
        obtain ⟨x0, x1, x2⟩ := hc k hlt
        clear hc x0
        by_cases he : l[k].kept < (l[k].text.size : Int)
        · have hr := hid (not_allKept hlt he)
          go_wp2
          go_quiet (fail)
          go_wp2
          go_ret
          exact ⟨by rw [hr.out]; rfl, below_drewN (below_drewN B1.out _) _⟩
        · have he' : decide (l[k].kept < (l[k].text.size : Int)) = false := by simpa using he
          have HK2 : Hid (keptTo l (k + 1) = true) := by show _ = _; rw [keptTo_step hlt, HK.out, he']; rfl
          go_wp2
          go_quiet (fail)
          go_wp2
          go_roundg q
          case measure => omega
          case rel => exact ⟨k + 1, _, rfl, by omega, by go_num, HK2⟩
end Go.Proofs.Ythkfgiilbkjojab
