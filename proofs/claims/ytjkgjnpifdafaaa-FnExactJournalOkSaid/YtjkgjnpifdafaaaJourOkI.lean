/-
  The walk of impl.JournalOk.
-/
import Derived.Test.YtjkgjnpifdafaaaPlainJour
import Derived.Test.YtjkgjnpifdafaaaNumI
import Derived.Test.YtjkgjnpifdafaaaLogOkI
namespace Go.Proofs.Ytjkgjnpifdafaaa
open Go.RowKit

set_option maxRecDepth 1000000 in
set_option maxHeartbeats 1000000 in
theorem implJournalOk_any (n tm vt s t : Int) (ao : Option Addr) (l : List EntD) (cap : Nat) (hl : l.length ≤ 1048576) (w : World) (ha : EntsAt w ao l) :
    Calls Try.prog 34 #[jourV n tm vt s t (.slice ao l.length cap)] w fun e w' => e = .returned (.bool (jourOk n tm vt s t l)) ∧ Below w.heap.size w w' := by
  have HB := hid (below_more (Below.refl w.heap.size w) (.cells #[.int .i64 n, .int .i64 tm, .int .i64 vt, .int .i64 s, .int .i64 t, .slice ao l.length cap] 61))
  have HA := hid ha
  clear ha
  cases h1 : within n 0 999 with
  | false =>
    have HJ : Hid (jourOk n tm vt s t l = false) := (show _ = _ by simp [jourOk, h1])
    go_enter Try.func34, Try.ntmps34
    go_wp2_with fail
    refine (numberOk_any n _).mono ?_
    rintro e w1 ⟨rfl, hw⟩
    rw [hw, h1]
    clear hw w1 h1
    go_wp2
    go_ret
    exact ⟨by rw [HJ.out]; rfl, HB.out⟩
  | true =>
    cases h2 : (within tm 0 100000 && within vt 0 4) with
    | false =>
      have HJ : Hid (jourOk n tm vt s t l = false) := (show _ = _ by simp only [jourOk, h1, h2, Bool.true_and, Bool.false_and])
      go_enter Try.func34, Try.ntmps34
      go_wp2_with fail
      refine (numberOk_any n _).mono ?_
      rintro e w1 ⟨rfl, hw⟩
      rw [hw, h1]
      clear hw w1 h1
      go_wp2_with fail
      refine (headOk_any tm vt _).mono ?_
      rintro e w1 ⟨rfl, hw⟩
      rw [hw, h2]
      clear hw w1 h2
      go_wp2
      go_ret
      exact ⟨by rw [HJ.out]; rfl, HB.out⟩
    | true =>
      have HJ : Hid (jourOk n tm vt s t l = logOk s t l) := (show _ = _ by simp only [jourOk, h1, h2, Bool.true_and])
      go_enter Try.func34, Try.ntmps34
      go_wp2_with fail
      refine (numberOk_any n _).mono ?_
      rintro e w1 ⟨rfl, hw⟩
      rw [hw, h1]
      clear hw w1 h1
      go_wp2_with fail
      refine (headOk_any tm vt _).mono ?_
      rintro e w1 ⟨rfl, hw⟩
      rw [hw, h2]
      clear hw w1 h2
      go_wp2_with fail
      refine (implLogOk_any s t ao l cap hl _ (HA.out.on HB.out)).mono ?_
      rintro e w1 ⟨rfl, b1⟩
      have B1 := hid (below_via HB.out b1)
      clear b1 HB
      obtain ⟨q, hq⟩ : ∃ q, logOk s t l = q := ⟨_, rfl⟩
      rw [hq] at HJ ⊢
      clear hq
      go_wp2
      go_ret
      exact ⟨by rw [HJ.out]; rfl, B1.out⟩
end Go.Proofs.Ytjkgjnpifdafaaa
