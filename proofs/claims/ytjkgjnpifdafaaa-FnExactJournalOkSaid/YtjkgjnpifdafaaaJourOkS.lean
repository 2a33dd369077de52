/-
  The walk of spec.JournalOk.
-/
import Derived.Test.YtjkgjnpifdafaaaPlainJour
import Derived.Test.YtjkgjnpifdafaaaLogOkS
namespace Go.Proofs.Ytjkgjnpifdafaaa
open Go.RowKit

set_option maxRecDepth 1000000 in
set_option maxHeartbeats 1000000 in
theorem specJournalOk_any (n tm vt s t : Int) (ao : Option Addr) (l : List EntD) (cap : Nat) (hl : l.length ≤ 1048576) (hsm : ∀ f ∈ l, f.data.size ≤ 1048576) (w : World) (ha : EntsAt w ao l) :
    Calls Try.prog 32 #[jourV n tm vt s t (.slice ao l.length cap)] w fun e w' => e = .returned (.bool (jourOk n tm vt s t l)) ∧ Below w.heap.size w w' := by
  have HB := hid (below_more (Below.refl w.heap.size w) (.cells #[.int .i64 n, .int .i64 tm, .int .i64 vt, .int .i64 s, .int .i64 t, .slice ao l.length cap] 61))
  have HA := hid ha
  have HS := hid hsm
  clear ha hsm
  cases h1 : within n 0 999 with
  | false =>
    have HJ : Hid (jourOk n tm vt s t l = false) := (show _ = _ by simp [jourOk, h1])
    go_enter Try.func32, Try.ntmps32
    go_wp2_with fail
    refine (l01In_any n 0 999 _).mono ?_
    rintro e w1 ⟨rfl, hw⟩
    rw [hw, h1]
    clear hw w1 h1
    go_wp2
    go_ret
    exact ⟨by rw [HJ.out]; rfl, HB.out⟩
  | true =>
    cases h2 : within tm 0 100000 with
    | false =>
      have HJ : Hid (jourOk n tm vt s t l = false) := (show _ = _ by simp [jourOk, h2])
      go_enter Try.func32, Try.ntmps32
      go_wp2_with fail
      refine (l01In_any n 0 999 _).mono ?_
      rintro e w1 ⟨rfl, hw⟩
      rw [hw, h1]
      clear hw w1 h1
      go_wp2_with fail
      refine (l01In_any tm 0 100000 _).mono ?_
      rintro e w1 ⟨rfl, hw⟩
      rw [hw, h2]
      clear hw w1 h2
      go_wp2
      go_ret
      exact ⟨by rw [HJ.out]; rfl, HB.out⟩
    | true =>
      cases h3 : within vt 0 4 with
      | false =>
        have HJ : Hid (jourOk n tm vt s t l = false) := (show _ = _ by simp [jourOk, h3])
        go_enter Try.func32, Try.ntmps32
        go_wp2_with fail
        refine (l01In_any n 0 999 _).mono ?_
        rintro e w1 ⟨rfl, hw⟩
        rw [hw, h1]
        clear hw w1 h1
        go_wp2_with fail
        refine (l01In_any tm 0 100000 _).mono ?_
        rintro e w1 ⟨rfl, hw⟩
        rw [hw, h2]
        clear hw w1 h2
        go_wp2_with fail
        refine (l01In_any vt 0 4 _).mono ?_
        rintro e w1 ⟨rfl, hw⟩
        rw [hw, h3]
        clear hw w1 h3
        go_wp2
        go_ret
        exact ⟨by rw [HJ.out]; rfl, HB.out⟩
      | true =>
        have HJ : Hid (jourOk n tm vt s t l = logOk s t l) := (show _ = _ by simp [jourOk, h1, h2, h3])
        go_enter Try.func32, Try.ntmps32
        go_wp2_with fail
        refine (l01In_any n 0 999 _).mono ?_
        rintro e w1 ⟨rfl, hw⟩
        rw [hw, h1]
        clear hw w1 h1
        go_wp2_with fail
        refine (l01In_any tm 0 100000 _).mono ?_
        rintro e w1 ⟨rfl, hw⟩
        rw [hw, h2]
        clear hw w1 h2
        go_wp2_with fail
        refine (l01In_any vt 0 4 _).mono ?_
        rintro e w1 ⟨rfl, hw⟩
        rw [hw, h3]
        clear hw w1 h3
        go_wp2_with fail
        refine (specLogOk_any s t ao l cap hl HS.out _ (HA.out.on HB.out)).mono ?_
        rintro e w1 ⟨rfl, b1⟩
        have B1 := hid (below_via HB.out b1)
        clear b1 HB
        obtain ⟨q, hq⟩ : ∃ q, logOk s t l = q := ⟨_, rfl⟩
        rw [hq] at HJ ⊢
        clear hq
        go_wp2
        go_ret
        exact ⟨by rw [HJ.out]; rfl, B1.out⟩
end Go.Proofs.Ytjkgjnpifdafaaa
