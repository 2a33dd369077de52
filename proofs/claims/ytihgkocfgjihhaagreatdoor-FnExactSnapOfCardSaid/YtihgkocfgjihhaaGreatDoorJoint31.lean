/-
  The walk of spec.ReadVar: what it answers.
-/
import Derived.Test.YtihgkocfgjihhaaGreatDoorJoint30
import Derived.Test.YtihgkocfgjihhaaGreatDoorJoint1
import Derived.BigQuiet
import Derived.Lib.QuietBelow
import Derived.WalkSmall
import Derived.WalkKit
namespace Go.Proofs.YtihgkocfgjihhaaGreatDoor
open Go.RowKit Go.Sort

set_option maxHeartbeats 1000000 in
set_option maxRecDepth 1000000 in
theorem specReadVar_in (s : ByteArray) (a : Nat) (ha : a ≤ s.size) (hs : s.size ≤ 140737488355328) (w : World) :
    Calls Tryz.prog 173 #[.string s, .int .i64 a] w fun e w' => e = .returned (rvAns a (rv (s.data.toList.drop a))) ∧ Below w.heap.size w w' := by
  have ha0 : (0 : Int) ≤ a := by omega
  have ha1 : (a : Int) ≤ s.size := by omega
  go_enter Tryz.func173, Tryz.ntmps173
  go_wp2
  go_loop [7, 8, 9] (fun n g i => ∃ (k W : Nat) (p : List UInt8), RvAt s a k p ∧ i = .int .i64 k ∧ n = .int .i64 (val p) ∧ g = .int .i64 W ∧ Hid (W = 128 ^ (k - a))) (fun _ _ i => a + 5 - (intOf i).toNat)
  case atStart => exact ⟨a, 1, [], RvAt.start s a ha, rfl, rfl, rfl, by simp [Hid]⟩
  case round =>
    obtain ⟨k, W, p, hR, rfl, rfl, rfl, HW⟩ := hrel
    have k1 := hR.lo
    have k2 := hR.hi
    have k3 := hR.five
    by_cases hk : k < s.size
    · by_cases h5 : k < a + 5
      · have hbd := hR.bounds h5 s[k].toNat
        rw [← HW.out] at hbd
        obtain ⟨b1, b2, b3, b4⟩ := hbd
        have m0 : (0 : Int) ≤ (s[k].toNat : Int) % 128 * (W : Int) := by
          have : ((s[k].toNat % 128 * W : Nat) : Int) = (s[k].toNat : Int) % 128 * (W : Int) := by simp
          omega
        have m1 : (s[k].toNat : Int) % 128 * (W : Int) ≤ 34091302912 := by
          have : ((s[k].toNat % 128 * W : Nat) : Int) = (s[k].toNat : Int) % 128 * (W : Int) := by simp
          omega
        have c0 : (s[k].toNat : Int) ≤ 255 := by have := s[k].toNat_lt; omega
        have HV : Hid (((val (p ++ [s[k]]) : Nat) : Int) = (val p : Int) + (s[k].toNat : Int) % 128 * (W : Int)) := hR.val_step HW.out s[k]
        by_cases hb : (s[k].toNat : Int) < 128
        · by_cases hv : 1000000000 < (val p : Int) + (s[k].toNat : Int) % 128 * (W : Int)
          · go_wp2
            go_quiet (fail)
            go_wp2
            go_ret3
            exact ⟨rvAns_none (hR.no hk h5 (by omega) (Or.inl (by have := HV.out; omega))), below_drewN (Below.refl _ _) _⟩
          · have hv' : decide (1000000000 < (val p : Int) + (s[k].toNat : Int) % 128 * (W : Int)) = false := by simpa using hv
            have cV : ∀ d os, Calls Tryz.prog 56 #[.int .i64 ((val p : Int) + (s[k].toNat : Int) % 128 * (W : Int))] (grow (redrawn w d) os) fun e w'' => e = .returned (.string ⟨(vb (val (p ++ [s[k]]))).toArray⟩) ∧ ∃ p : Regrown, w'' = grow (redrawn w p.d) p.os := by
              intro d os
              have := Calls.regrown_of (l01Var_any (val (p ++ [s[k]])) (by have := HV.out; omega) (grow (redrawn w d) os))
              rw [HV.out] at this
              exact this
            have hsl := slice_nat (P := Tryz.prog) Tryz.underlying9 s a (k + 1) a ((k : Int) + 1) rfl (by omega) (by omega) (by omega)
            have CV := (show Hid _ from cV)
            clear cV
            go_wp2
            refine wp_region_quiet_below (by kernel_rfl) (by kernel_rfl) ?_
            repeat (first | go_big_quiet_step (exact CV.out _ _) | quiet_step (exact CV.out _ _))
            refine wpQuiet_nil ?_
            intro _ hw'
            obtain ⟨⟨dq, osq⟩, hw''⟩ := hw'
            subst hw''
            have hbq := below_regrown w dq osq
            go_wp2
            · have hne : (!vb (val (p ++ [s[k]])) == (s.extract a (k + 1)).toList) = true := by assumption
              go_ret3
              exact ⟨rvAns_none (hR.no hk h5 (by omega) (Or.inr (hR.differs hk (by omega) hne))), hbq⟩
            · have hne : (!vb (val (p ++ [s[k]])) == (s.extract a (k + 1)).toList) = false := by assumption
              go_ret3
              exact ⟨rvAns_some (hR.yes hk h5 (by omega) (by have := HV.out; omega) (hR.meets hk (by omega) hne)) k1 HV.out rfl, hbq⟩
        · go_wp2
          go_round
          case rel => exact ⟨k + 1, W * 128, p ++ [s[k]], hR.step hk h5 (by omega), by go_num, by rw [HV.out], by go_num, hR.W_step HW.out⟩
          case measure => simp [intOf]; omega
      · go_wp2
        go_ret3
        exact ⟨rvAns_none (hR.none_end (Or.inr (by omega))), Below.refl _ _⟩
    · go_wp2
      go_ret3
      exact ⟨rvAns_none (hR.none_end (Or.inl (by omega))), Below.refl _ _⟩

theorem specReadVar_out (s : ByteArray) (a : Int) (ha : a < 0 ∨ (s.size : Int) < a) (w : World) :
    Calls Tryz.prog 173 #[.string s, .int .i64 a] w fun e w' => e = .returned (.tuple #[.int .i64 0, .int .i64 0, .bool false]) ∧ Below w.heap.size w w' := by
  by_cases h0 : a < 0
  · have h0' : ¬ 0 ≤ a := by omega
    go_enter Tryz.func173, Tryz.ntmps173
    go_wp2
    go_ret3
    exact ⟨rfl, Below.refl _ _⟩
  · have h0' : 0 ≤ a := by omega
    have h1 : ¬ a ≤ (s.size : Int) := by omega
    go_enter Tryz.func173, Tryz.ntmps173
    go_wp2
    go_ret3
    exact ⟨rfl, Below.refl _ _⟩
end Go.Proofs.YtihgkocfgjihhaaGreatDoor
