/-
  The walk of spec.Unsealed: what it answers.
  The walk of spec.Sealed: what it answers.
-/
import Derived.Test.YtggogiepebnckaaDoorJoint20
import Derived.BigQuiet
import Derived.Lib.QuietBelow
import Derived.WalkSmall
namespace Go.Proofs.YtggogiepebnckaaDoor
open Go.RowKit Go.Sort

theorem regrown_same {P : Program} {f : FuncId} {args : Array Value} {w : World} {d : Nat} {os : Array Obj} {v : Value}
    (h : Calls P f args (grow (redrawn w d) os) fun e w' => e = .returned v ∧ w' = grow (redrawn w d) os) : Calls P f args (grow (redrawn w d) os) fun e w'' => e = .returned v ∧ ∃ p : Regrown, w'' = grow (redrawn w p.d) p.os :=
  h.mono fun _ _ ⟨he, hw⟩ => ⟨he, ⟨d, os⟩, hw⟩

set_option maxRecDepth 1000000 in
set_option maxHeartbeats 1000000 in
theorem specUnsealed_any (s : ByteArray) (hs : s.size ≤ 140737488355328) (w : World) :
    Calls Tryd.prog 27 #[.string s] w fun e w' =>
      ((Uns s ∧ e = .returned (.tuple #[.string (s.extract 0 (s.size - 4)), .bool true])) ∨ (¬ Uns s ∧ e = .returned (.tuple #[.string ByteArray.empty, .bool false]))) ∧ Below w.heap.size w w' := by
  by_cases h4 : (s.size : Int) - 4 < 0
  · go_enter Tryd.func27, Tryd.ntmps27
    go_wp2
    go_quiet (fail)
    go_wp2
    go_ret2
    exact ⟨Or.inr ⟨fun h => by have := h.1; omega, rfl⟩, below_drewN (Below.refl _ _) _⟩
  · have h4' : decide ((s.size : Int) - 4 < 0) = false := by simpa using h4
    by_cases h2 : (20000 : Int) < (s.size : Int) - 4
    · go_enter Tryd.func27, Tryd.ntmps27
      go_wp2
      go_quiet (fail)
      go_wp2
      go_ret2
      exact ⟨Or.inr ⟨fun h => by have := h.2.1; omega, rfl⟩, below_drewN (Below.refl _ _) _⟩
    · have h2' : decide ((20000 : Int) < (s.size : Int) - 4) = false := by simpa using h2
      have q1 := slice_from (P := Tryd.prog) Tryd.underlying9 s (s.size - 4) ((s.size : Int) - 4) (by omega) (by omega)
      have q2 := slice_upto (P := Tryd.prog) Tryd.underlying9 s (s.size - 4) ((s.size : Int) - 4) (by omega) (by omega)
      have hle : (s.extract 0 (s.size - 4)).size ≤ 140737488355328 := by rw [ByteArray.size_extract]; omega
      have HU := (show Hid _ from uns_same (s := s) (by omega) (by omega))
      obtain ⟨T, hT⟩ : ∃ T, s.extract 0 (s.size - 4) = T := ⟨_, rfl⟩
      obtain ⟨R, hR⟩ : ∃ R, s.extract (s.size - 4) s.size = R := ⟨_, rfl⟩
      rw [hT] at q2 hle HU ⊢
      rw [hR] at q1 HU
      have cS' := fun d os => regrown_same (d := d) (os := os) (w := w) (specSumOf_any T hle _)
      have cF' := fun d os => Calls.regrown_of (w := w) (d := d) (os := os) (l02Four_any (sumOf T.data.toList) (sumOf_lt _) _)
      obtain ⟨N, hN⟩ : ∃ N, sumOf T.data.toList = N := ⟨_, rfl⟩
      rw [hN] at cS' cF' HU
      have cS := (show Hid _ from cS')
      have cF := (show Hid _ from cF')
      clear hle hT hR hN cS' cF'
      go_enter Tryd.func27, Tryd.ntmps27
      go_wp2
      refine wp_region_quiet_below (by kernel_rfl) (by kernel_rfl) ?_
      repeat (first | go_big_quiet_step (first | (go_at_call 60; exact cS.out _ _) | (go_at_call 59; exact cF.out _ _)) | quiet_step (first | (go_at_call 60; exact cS.out _ _) | (go_at_call 59; exact cF.out _ _)))
      refine wpQuiet_nil ?_
      intro _ hw'
      obtain ⟨⟨dq, osq⟩, hw''⟩ := hw'
      subst hw''
      have hbq := below_regrown w dq osq
      go_wp2
      · have hne : (!R.toList == four N) = true := by assumption
        have hno : ¬ Uns s := fun h => by
          have e := HU.out.2 h
          rw [e] at hne
          simp at hne
        go_ret2
        exact ⟨Or.inr ⟨hno, rfl⟩, hbq⟩
      · have hne : (!R.toList == four N) = false := by assumption
        have hyes : Uns s := HU.out.1 (by simpa using hne)
        go_ret2
        exact ⟨Or.inl ⟨hyes, rfl⟩, hbq⟩
end Go.Proofs.YtggogiepebnckaaDoor

namespace Go.Proofs.YtggogiepebnckaaDoor
open Go.RowKit

set_option maxRecDepth 1000000 in
theorem specSealed_yes (s : ByteArray) (hs : s.size ≤ 20000) (w : World) :
    Calls Tryd.prog 68 #[.string s] w fun e w' => e = .returned (.tuple #[.string (s ++ ⟨(four (sumOf s.data.toList)).toArray⟩), .bool true]) ∧ Below w.heap.size w w' := by
  have cS' := specSumOf_any s (by omega)
  have cF' := l02Four_any (sumOf s.data.toList) (sumOf_lt _)
  obtain ⟨N, hN⟩ : ∃ N, sumOf s.data.toList = N := ⟨_, rfl⟩
  rw [hN] at cS' cF' ⊢
  have hf := four_length N
  have cS := (show Hid _ from cS')
  have cF := (show Hid _ from cF')
  clear hN cS' cF'
  go_enter Tryd.func68, Tryd.ntmps68
  go_wp2_with fail
  refine (cS.out _).mono ?_
  rintro e w1 ⟨rfl, hw⟩
  rw [hw]
  clear hw w1
  go_wp2_with fail
  refine (cF.out _).mono ?_
  rintro e w2 ⟨rfl, hb⟩
  go_wp2
  go_ret2
  exact ⟨rfl, hb⟩

theorem specSealed_no (s : ByteArray) (hs : 20000 < s.size) (w : World) :
    Calls Tryd.prog 68 #[.string s] w fun e w' => e = .returned (.tuple #[.string ByteArray.empty, .bool false]) ∧ Below w.heap.size w w' := by
  go_enter Tryd.func68, Tryd.ntmps68
  go_wp2
  go_ret2
  exact ⟨rfl, Below.refl _ _⟩
end Go.Proofs.YtggogiepebnckaaDoor
