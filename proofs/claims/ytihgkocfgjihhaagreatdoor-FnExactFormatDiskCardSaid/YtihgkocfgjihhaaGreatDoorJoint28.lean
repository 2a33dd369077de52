/-
  The walk of impl.LogOk: what it answers.
  The walk of impl.JournalOk.
-/
import Derived.Test.YtihgkocfgjihhaaGreatDoorJoint27
import Derived.Test.YtihgkocfgjihhaaGreatDoorJoint18
import Derived.Test.YtihgkocfgjihhaaGreatDoorJoint1
namespace Go.Proofs.YtihgkocfgjihhaaGreatDoor
open Go.RowKit

set_option maxRecDepth 1000000 in
set_option maxHeartbeats 1000000 in
theorem implLogOk_any (s t : Int) (ao : Option Addr) (l : List EntD) (cap : Nat) (hl : l.length ≤ 1048576) (w : World) (ha : EntsAt w ao l) :
    Calls Tryz.prog 126 #[.agg #[.int .i64 s, .int .i64 t, .slice ao l.length cap]] w fun e w' => e = .returned (.bool (logOk s t l)) ∧ Below w.heap.size w w' := by
  have HA := hid ha
  have HB := hid (below_more (Below.refl w.heap.size w) (.cells #[.int .i64 s, .int .i64 t, .slice ao l.length cap] 58))
  have hx : BlockIs (w.alloc (.cells #[.int .i64 s, .int .i64 t, .slice ao l.length cap] 58)) w.heap.size 58 [.int .i64 s, .int .i64 t, .slice ao l.length cap] := heap_alloc_new w _
  obtain ⟨W, hW⟩ : ∃ W, w.alloc (.cells #[.int .i64 s, .int .i64 t, .slice ao l.length cap] 58) = W := ⟨_, rfl⟩
  rw [hW] at HB hx
  have HX := hid hx
  have c0 := hx.cell (j := 0) rfl
  have c1 := hx.cell (j := 1) rfl
  have c2 := hx.cell (j := 2) rfl
  clear hx ha
  cases hP : (within s 0 1000000 && within t 0 100000) with
  | false =>
    have hr : Hid (logOk s t l = false) := by
      rw [Bool.and_eq_false_iff] at hP
      rcases hP with q | q
      · exact logOk_start (fun h => by rw [within_iff.2 h] at q; cases q)
      · exact logOk_term (fun h => by rw [within_iff.2 h] at q; cases q)
    go_enter Tryz.func126, Tryz.ntmps126
    go_wp2_with fail
    refine (placeOk_any s t _).mono ?_
    rintro e w1 ⟨rfl, hw⟩
    rw [hw, hP]
    clear hw w1 hP
    go_wp2
    go_ret
    exact ⟨by rw [hr.out]; rfl, HB.out⟩
  | true =>
  have hPb := hP
  rw [Bool.and_eq_true, within_iff, within_iff] at hPb
  obtain ⟨⟨hs0, hs1⟩, ht0, ht1⟩ := hPb
  have cP := hid (fun w => placeOk_any s t w)
  rw [hP] at cP
  clear hP
  by_cases h60 : (60 : Int) < (l.length : Int)
  · have hr := hid (logOk_len (s := s) (t := t) (l := l) (by omega))
    go_enter Tryz.func126, Tryz.ntmps126
    go_wp2_with fail
    refine (cP.out _).mono ?_
    rintro e w1 ⟨rfl, hw⟩
    rw [hw]
    clear hw w1
    go_wp2
    go_ret
    exact ⟨by rw [hr.out]; rfl, HB.out⟩
  by_cases hsum : (1000000 : Int) < s + (l.length : Int)
  · have hr := hid (logOk_sum (s := s) (t := t) (l := l) (by omega))
    go_enter Tryz.func126, Tryz.ntmps126
    go_wp2_with fail
    refine (cP.out _).mono ?_
    rintro e w1 ⟨rfl, hw⟩
    rw [hw]
    clear hw w1
    go_wp2
    go_ret
    exact ⟨by rw [hr.out]; rfl, HB.out⟩
  have HQ : Hid (termsOk t l = logOk s t l) := by
    show _ = _
    cases h : termsOk t l with
    | true => exact (logOk_of (by omega) (by omega) (by omega) (by omega) h).symm
    | false => exact (logOk_ents h).symm
  have C := hid (fun w ha => entriesOk_any t ao l cap hl w ha)
  go_enter Tryz.func126, Tryz.ntmps126
  go_wp2_with fail
  refine (cP.out _).mono ?_
  rintro e w1 ⟨rfl, hw⟩
  rw [hw]
  clear hw w1
  go_wp2_with fail
  refine (C.out _ (HA.out.on HB.out)).mono ?_
  rintro e w1 ⟨rfl, b1⟩
  have B1 := hid (below_via HB.out b1)
  rw [HQ.out]
  clear b1 C
  go_wp2
  go_ret
  exact ⟨rfl, B1.out⟩
end Go.Proofs.YtihgkocfgjihhaaGreatDoor

namespace Go.Proofs.YtihgkocfgjihhaaGreatDoor
open Go.RowKit

set_option maxRecDepth 1000000 in
set_option maxHeartbeats 1000000 in
theorem implJournalOk_any (n tm vt s t : Int) (ao : Option Addr) (l : List EntD) (cap : Nat) (hl : l.length ≤ 1048576) (w : World) (ha : EntsAt w ao l) :
    Calls Tryz.prog 76 #[jourV n tm vt s t (.slice ao l.length cap)] w fun e w' => e = .returned (.bool (jourOk n tm vt s t l)) ∧ Below w.heap.size w w' := by
  have HB := hid (below_more (Below.refl w.heap.size w) (.cells #[.int .i64 n, .int .i64 tm, .int .i64 vt, .int .i64 s, .int .i64 t, .slice ao l.length cap] 63))
  have HA := hid ha
  clear ha
  cases h1 : within n 0 999 with
  | false =>
    have HJ : Hid (jourOk n tm vt s t l = false) := (show _ = _ by simp [jourOk, h1])
    go_enter Tryz.func76, Tryz.ntmps76
    go_wp2_with fail
    refine (numberOk_any n _).mono ?_
    rintro e w1 ⟨rfl, hw⟩
    rw [hw, h1]
    clear hw w1 h1
    go_wp2
    go_ret
    exact ⟨by rw [HJ.out]; rfl, HB.out⟩
  | true =>
    cases h2 : (within tm 0 100000 && within vt 0 4) with
    | false =>
      have HJ : Hid (jourOk n tm vt s t l = false) := (show _ = _ by simp only [jourOk, h1, h2, Bool.true_and, Bool.false_and])
      go_enter Tryz.func76, Tryz.ntmps76
      go_wp2_with fail
      refine (numberOk_any n _).mono ?_
      rintro e w1 ⟨rfl, hw⟩
      rw [hw, h1]
      clear hw w1 h1
      go_wp2_with fail
      refine (headOk_any tm vt _).mono ?_
      rintro e w1 ⟨rfl, hw⟩
      rw [hw, h2]
      clear hw w1 h2
      go_wp2
      go_ret
      exact ⟨by rw [HJ.out]; rfl, HB.out⟩
    | true =>
      have HJ : Hid (jourOk n tm vt s t l = logOk s t l) := (show _ = _ by simp only [jourOk, h1, h2, Bool.true_and])
      go_enter Tryz.func76, Tryz.ntmps76
      go_wp2_with fail
      refine (numberOk_any n _).mono ?_
      rintro e w1 ⟨rfl, hw⟩
      rw [hw, h1]
      clear hw w1 h1
      go_wp2_with fail
      refine (headOk_any tm vt _).mono ?_
      rintro e w1 ⟨rfl, hw⟩
      rw [hw, h2]
      clear hw w1 h2
      go_wp2_with fail
      refine (implLogOk_any s t ao l cap hl _ (HA.out.on HB.out)).mono ?_
      rintro e w1 ⟨rfl, b1⟩
      have B1 := hid (below_via HB.out b1)
      clear b1 HB
      obtain ⟨q, hq⟩ : ∃ q, logOk s t l = q := ⟨_, rfl⟩
      rw [hq] at HJ ⊢
      clear hq
      go_wp2
      go_ret
      exact ⟨by rw [HJ.out]; rfl, B1.out⟩
end Go.Proofs.YtihgkocfgjihhaaGreatDoor
