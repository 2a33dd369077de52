/-
  The walk of impl.ReadShort: what it answers.
-/
import Derived.Test.YtlplnobfkjhcdaaJoint18
import Derived.Test.YtlplnobfkjhcdaaJoint1
import Derived.Test.YtlplnobfkjhcdaaJoint19
namespace Go.Proofs.Ytlplnobfkjhcdaa
open Go.RowKit

set_option maxRecDepth 1000000 in
theorem implReadShort_any (s : ByteArray) (a : Int) (hs : s.size ≤ 140737488355328) (w : World) :
    Calls Try.prog 48 #[.string s, .int .i64 a] w fun e w' => e = .returned (rsAns s (rs s a)) ∧ Below w.heap.size w w' := by
  by_cases h : 0 ≤ a ∧ a ≤ s.size
  · obtain ⟨n, rfl⟩ : ∃ n : Nat, a = n := ⟨a.toNat, by omega⟩
    have hn : n ≤ s.size := by omega
    clear h
    have c1 := implReadVar_in s n hn hs
    rcases hr : rv (s.data.toList.drop n) with _ | ⟨x, c⟩
    · rw [hr] at c1
      rw [rs_none hn hr]
      have C1 := (show Hid _ from c1)
      clear hr c1
      go_enter Try.func48, Try.ntmps48
      go_wp2_with fail
      refine (C1.out _).mono ?_
      rintro e w1 ⟨rfl, rfl⟩
      simp only [rvAns]
      go_wp2
      go_ret3
      exact ⟨rfl, Below.refl _ _⟩
    · have hf := rv_fits hn hr
      obtain ⟨f1, f2, f3⟩ := hf
      rw [hr] at c1
      by_cases hb : x ≤ 20000 ∧ n + c + x ≤ s.size
      · rw [rs_yes hn hr hb]
        obtain ⟨g1, g2⟩ := hb
        have C1 := (show Hid _ from c1)
        clear hr c1
        have hsl := slice_nat (P := Try.prog) Try.underlying9 s (n + c) (n + c + x) ((n : Int) + c) ((n : Int) + c + x) (by omega) (by omega) (by omega) (by omega)
        have hle : (s.extract (n + c) (n + c + x)).size ≤ 140737488355328 := by rw [ByteArray.size_extract]; omega
        go_enter Try.func48, Try.ntmps48
        go_wp2_with fail
        refine (C1.out _).mono ?_
        rintro e w1 ⟨rfl, rfl⟩
        simp only [rvAns]
        go_wp2_with fail
        refine (clone_any _ hle _).mono ?_
        rintro e w2 ⟨rfl, hb2⟩
        go_wp2
        go_ret3
        exact ⟨by simp [rsAns], hb2⟩
      · rw [rs_big hn hr hb]
        have C1 := (show Hid _ from c1)
        clear hr c1
        by_cases g1 : 20000 < x
        · clear hb
          go_enter Try.func48, Try.ntmps48
          go_wp2_with fail
          refine (C1.out _).mono ?_
          rintro e w1 ⟨rfl, rfl⟩
          simp only [rvAns]
          go_wp2
          go_ret3
          exact ⟨rfl, Below.refl _ _⟩
        · have g2 : (s.size : Int) - ((n : Int) + c) < x := by omega
          clear hb
          go_enter Try.func48, Try.ntmps48
          go_wp2_with fail
          refine (C1.out _).mono ?_
          rintro e w1 ⟨rfl, rfl⟩
          simp only [rvAns]
          go_wp2
          go_ret3
          exact ⟨rfl, Below.refl _ _⟩
  · have h' : a < 0 ∨ (s.size : Int) < a := by omega
    rw [rs_out h']
    have C1 := (show Hid _ from implReadVar_out s a h')
    clear h h'
    go_enter Try.func48, Try.ntmps48
    go_wp2_with fail
    refine (C1.out _).mono ?_
    rintro e w1 ⟨rfl, rfl⟩
    go_wp2
    go_ret3
    exact ⟨rfl, Below.refl _ _⟩
end Go.Proofs.Ytlplnobfkjhcdaa
