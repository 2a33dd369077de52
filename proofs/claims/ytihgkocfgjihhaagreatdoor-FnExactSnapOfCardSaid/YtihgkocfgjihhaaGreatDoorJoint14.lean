/-
  The walk of laws.szKeep: a keep's letters are counted.
  The walk of laws.szKeep where some is spent already.
-/
import Derived.Test.YtihgkocfgjihhaaGreatDoorJoint13
namespace Go.Proofs.YtihgkocfgjihhaaGreatDoor
open Go.RowKit

/-- how much of the measure a keep takes -/
def keepBulk (ls : List SessionD) (li : List ItemD) : Int := ls.length + sessionBulk ls + (li.length + itemBulk li)

set_option maxRecDepth 1000000 in
set_option maxHeartbeats 1000000 in
theorem szKeep_any (ao bo : Option Addr) (ls : List SessionD) (li : List ItemD) (ac bc : Nat) (hl : ls.length ≤ 9223372036854775807) (hl' : li.length ≤ 9223372036854775807) (hf : SessionsFit ls) (hf' : ItemsFit li) (w : World) (ha : SessionsAt w ao ls) (hb : ItemsAt w bo li) :
    Calls Tryz.prog 40 #[.agg #[.slice ao ls.length ac, .slice bo li.length bc], .int .i64 1048576] w fun e w' => ((1048576 - keepBulk ls li < 0 ∧ e = .returned (.int .i64 (-1))) ∨ (0 ≤ 1048576 - keepBulk ls li ∧ e = .returned (.int .i64 (1048576 - keepBulk ls li)))) ∧ Below w.heap.size w w' := by
  have C := hid (fun w ha => szSessionS_any ao ls ac 1048576 (by omega) (by omega) hl hf w ha)
  have D := hid (fun n h0 h1 w hb => szItemS_any bo li bc n h0 h1 hl' hf' w hb)
  have n1 := sessionBulk_nonneg ls
  have n2 := itemBulk_nonneg li
  have HA := hid ha
  have HI := hid hb
  have HB := hid (below_more (Below.refl w.heap.size w) (.cells #[.slice ao ls.length ac, .slice bo li.length bc] 48))
  have HX := hid (show BlockIs (w.alloc (.cells #[.slice ao ls.length ac, .slice bo li.length bc] 48)) w.heap.size 48 [.slice ao ls.length ac, .slice bo li.length bc] from heap_alloc_new w _)
  clear ha hb hf hf'
  go_enter Tryz.func40, Tryz.ntmps40
  go_wp2_with fail
  refine (C.out _ (HA.out.on HB.out)).mono ?_
  rintro e w1 ⟨(⟨hneg, rfl⟩ | ⟨hnn, rfl⟩), b1⟩
  · have B1 := hid (below_via HB.out b1)
    clear b1 C
    go_wp2
    go_ret
    exact ⟨Or.inl ⟨by unfold keepBulk; omega, rfl⟩, B1.out⟩
  · have B1 := hid (below_via HB.out b1)
    have X1 := HX.out.on b1 HX.out.lt
    have x0 := X1.cell (j := 0) rfl
    have x1 := X1.cell (j := 1) rfl
    have HE : Hid ((1048576 : Int) - ls.length - sessionBulk ls - li.length - itemBulk li = 1048576 - keepBulk ls li) := by show _ = _; unfold keepBulk; omega
    have HN := hid hnn
    have hnn' : ¬ (1048576 : Int) - ls.length - sessionBulk ls < 0 := by omega
    clear b1 C X1 hnn
    go_wp2_with fail
    refine (D.out _ HN.out (by omega) _ (HI.out.on B1.out)).mono ?_
    rintro e w2 ⟨hor, b2⟩
    have B2 := hid (below_via B1.out b2)
    rw [HE.out] at hor
    rcases hor with (⟨hneg, rfl⟩ | ⟨hn2, rfl⟩)
    · clear b2 D
      go_wp2
      go_ret
      exact ⟨Or.inl ⟨hneg, rfl⟩, B2.out⟩
    · have hn3 : ¬ (1048576 : Int) - keepBulk ls li < 0 := by omega
      clear b2 D
      go_wp2
      go_ret
      exact ⟨Or.inr ⟨hn2, rfl⟩, B2.out⟩
end Go.Proofs.YtihgkocfgjihhaaGreatDoor

namespace Go.Proofs.YtihgkocfgjihhaaGreatDoor
open Go.RowKit

set_option maxRecDepth 1000000 in
set_option maxHeartbeats 1000000 in
theorem szKeep_at (ao bo : Option Addr) (ls : List SessionD) (li : List ItemD) (ac bc : Nat) (hl : ls.length ≤ 9223372036854775807) (hl' : li.length ≤ 9223372036854775807) (hf : SessionsFit ls) (hf' : ItemsFit li) (n : Int) (h0 : 0 ≤ n) (h1 : n ≤ 1048576) (w : World) (ha : SessionsAt w ao ls) (hb : ItemsAt w bo li) :
    Calls Tryz.prog 40 #[.agg #[.slice ao ls.length ac, .slice bo li.length bc], .int .i64 n] w fun e w' => ((n - keepBulk ls li < 0 ∧ e = .returned (.int .i64 (-1))) ∨ (0 ≤ n - keepBulk ls li ∧ e = .returned (.int .i64 (n - keepBulk ls li)))) ∧ Below w.heap.size w w' := by
  have C := hid (fun w ha => szSessionS_any ao ls ac n h0 h1 hl hf w ha)
  have D := hid (fun q q0 q1 w hb => szItemS_any bo li bc q q0 q1 hl' hf' w hb)
  have n1 := sessionBulk_nonneg ls
  have n2 := itemBulk_nonneg li
  have HA := hid ha
  have HI := hid hb
  have HB := hid (below_more (Below.refl w.heap.size w) (.cells #[.slice ao ls.length ac, .slice bo li.length bc] 48))
  have HX := hid (show BlockIs (w.alloc (.cells #[.slice ao ls.length ac, .slice bo li.length bc] 48)) w.heap.size 48 [.slice ao ls.length ac, .slice bo li.length bc] from heap_alloc_new w _)
  clear ha hb hf hf'
  go_enter Tryz.func40, Tryz.ntmps40
  go_wp2_with fail
  refine (C.out _ (HA.out.on HB.out)).mono ?_
  rintro e w1 ⟨(⟨hneg, rfl⟩ | ⟨hnn, rfl⟩), b1⟩
  · have B1 := hid (below_via HB.out b1)
    clear b1 C
    go_wp2
    go_ret
    exact ⟨Or.inl ⟨by unfold keepBulk; omega, rfl⟩, B1.out⟩
  · have B1 := hid (below_via HB.out b1)
    have X1 := HX.out.on b1 HX.out.lt
    have x0 := X1.cell (j := 0) rfl
    have x1 := X1.cell (j := 1) rfl
    have HE : Hid (n - ls.length - sessionBulk ls - li.length - itemBulk li = n - keepBulk ls li) := by show _ = _; unfold keepBulk; omega
    have HN := hid hnn
    have hnn' : ¬ n - ls.length - sessionBulk ls < 0 := by omega
    clear b1 C X1 hnn
    go_wp2_with fail
    refine (D.out _ HN.out (by omega) _ (HI.out.on B1.out)).mono ?_
    rintro e w2 ⟨hor, b2⟩
    have B2 := hid (below_via B1.out b2)
    rw [HE.out] at hor
    rcases hor with (⟨hneg, rfl⟩ | ⟨hn2, rfl⟩)
    · clear b2 D
      go_wp2
      go_ret
      exact ⟨Or.inl ⟨hneg, rfl⟩, B2.out⟩
    · have hn3 : ¬ n - keepBulk ls li < 0 := by omega
      clear b2 D
      go_wp2
      go_ret
      exact ⟨Or.inr ⟨hn2, rfl⟩, B2.out⟩
end Go.Proofs.YtihgkocfgjihhaaGreatDoor
