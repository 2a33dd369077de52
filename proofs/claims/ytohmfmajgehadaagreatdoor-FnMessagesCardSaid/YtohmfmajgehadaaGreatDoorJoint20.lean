/-
  The walk of spec.l02Spoilt: some text, at most one byte longer.
  The walk of spec.l05Short.
-/
import Derived.Test.YtohmfmajgehadaaGreatDoorJoint3
import Derived.Test.YtohmfmajgehadaaGreatDoorJoint15
import Derived.Test.YtohmfmajgehadaaGreatDoorJoint1
import Derived.Deep.RegionWith
import Derived.Laws.Concat
import Derived.Test.YtohmfmajgehadaaGreatDoorJoint9
namespace Go.Proofs.YtohmfmajgehadaaGreatDoor
open Go.RowKit

set_option maxRecDepth 1000000 in
set_option maxHeartbeats 2000000 in
theorem l02Spoilt_any (C : Nat) (s : ByteArray) (hs : s.size ≤ 100000) (w : World) (hc : CurAt w C) :
    Calls Tryz.prog 49 #[.pointer (some ⟨C, 0, none⟩), .string s] w fun e w' => ∃ T : ByteArray, e = .returned (.string T) ∧ T.size ≤ s.size + 1 ∧ CurAt w' C ∧ w.grownBy w' (some C) := by
  have K0 := hid hc
  clear hc
  go_enter Tryz.func49, Tryz.ntmps49
  go_wp2_with fail
  refine (l01Below_any C 12 (by omega) (by omega) _ K0.out).mono ?_
  rintro e w1 ⟨y, rfl, lo, hi, k1, q1⟩
  have K1 := hid k1
  have G1 := hid q1
  clear k1 q1 K0
  by_cases y0 : y = 0
  · subst y0
    go_wp2_with fail
    refine (l01Text_any C 1 (by omega) _ K1.out).mono ?_
    rintro e w2 ⟨X, rfl, hX, k2, q2⟩
    have K2 := hid k2
    have G2 := hid (G1.out.trans q2)
    obtain ⟨T, hT⟩ : ∃ T, s ++ X = T := ⟨_, rfl⟩
    have hTs : T.size ≤ s.size + 1 := by rw [← hT, ByteArray.size_append]; omega
    have hs1 : ∀ w, (Op.stringOp .add s X).run Tryz.prog w = .ok (.string T) w := fun w => by rw [run_string_add_sum w _ _ (by omega), hT]
    clear k2 q2 hT hX K1 G1
    go_wp2
    go_ret
    exact ⟨T, rfl, hTs, K2.out, G2.out⟩
  have g0 : (y == 0) = false := by simpa using y0
  by_cases y1 : y = 1
  · subst y1
    go_wp2_with fail
    refine (l01Below_any C ((s.size : Int) + 1) (by omega) (by omega) _ K1.out).mono ?_
    rintro e w2 ⟨z, rfl, z0, z1, k2, q2⟩
    obtain ⟨n, rfl⟩ : ∃ n : Nat, z = n := ⟨z.toNat, by omega⟩
    have K2 := hid k2
    have G2 := hid (G1.out.trans q2)
    have hq := slice_upto (P := Tryz.prog) Tryz.underlying9 s n (n : Int) rfl (by omega)
    have hTs : (s.extract 0 n).size ≤ s.size + 1 := by rw [ByteArray.size_extract]; omega
    obtain ⟨T, hT⟩ : ∃ T, s.extract 0 n = T := ⟨_, rfl⟩
    rw [hT] at hq hTs
    clear k2 q2 hT K1 G1
    go_wp2
    go_ret
    exact ⟨T, rfl, hTs, K2.out, G2.out⟩
  have g1 : (y == 1) = false := by simpa using y1
  by_cases y2 : y = 2 ∨ y = 3
  · by_cases hz : 0 < s.size
    · have hz' : (0 : Int) < (s.size : Int) := by omega
      rcases y2 with rfl | rfl
      all_goals
        go_wp2_with fail
        refine (l01Below_any C (s.size : Int) (by omega) (by omega) _ K1.out).mono ?_
        rintro e w2 ⟨z, rfl, z0, z1, k2, q2⟩
        obtain ⟨n, rfl⟩ : ∃ n : Nat, z = n := ⟨z.toNat, by omega⟩
        have G2 := hid (G1.out.trans q2)
        have hnl : n < s.size := by omega
        have hq := slice_upto (P := Tryz.prog) Tryz.underlying9 s n (n : Int) rfl (by omega)
        have hr := slice_from (P := Tryz.prog) Tryz.underlying9 s (n + 1) ((n : Int) + 1) (by omega) (by omega)
        have hA : (s.extract 0 n).size ≤ n := by rw [ByteArray.size_extract]; omega
        have hB : (s.extract (n + 1) s.size).size ≤ s.size - (n + 1) := by rw [ByteArray.size_extract]; omega
        obtain ⟨A, eA⟩ : ∃ T, s.extract 0 n = T := ⟨_, rfl⟩
        obtain ⟨B, eB⟩ : ∃ T, s.extract (n + 1) s.size = T := ⟨_, rfl⟩
        rw [eA] at hq hA
        rw [eB] at hr hB
        have hw1 : IntKind.i64.wrap ((n : Int) + 1) = (n : Int) + 1 := by rw [IntKind.wrap_i64]; omega
        have hd : Below w2.heap.size w2 w2.drew := below_drewN (Below.refl _ _) 1
        have CT : Hid (Calls Tryz.prog 101 #[.pointer (some ⟨C, 0, none⟩), .int .i64 1] w2.drew fun e w3 => ∃ X T : ByteArray, e = .returned (.string X) ∧ X.size = 1 ∧ (∀ w, (Op.stringOp .add A X).run Tryz.prog w = .ok (.string (A ++ X)) w) ∧ (∀ w, (Op.stringOp .add (A ++ X) B).run Tryz.prog w = .ok (.string T) w) ∧ T.size ≤ s.size + 1 ∧ Hid (CurAt w3 C ∧ w.grownBy w3 (some C))) := by
          refine Calls.mono (l01Text_any C 1 (by omega) _ (k2.below hd)) ?_
          rintro e w3 ⟨X, rfl, hX, k3, q3⟩
          have hAX : (A ++ X).size = A.size + X.size := ByteArray.size_append
          refine ⟨X, A ++ X ++ B, rfl, hX, fun w => by rw [run_string_add_sum w _ _ (by omega)], fun w => by rw [run_string_add_sum w _ _ (by omega)], ?_, k3, (grown_below G2.out hd).trans q3⟩
          rw [ByteArray.size_append]
          omega
        clear k2 q2 eA eB K1 G1
        go_wp2
        go_region_with (first | (go_at_call 101; refine Calls.mono CT.out ?_; rintro e w3 ⟨X, T, rfl, hX, hs1, hs2, hTs, H3⟩))
        all_goals
          go_wp2
          go_ret
          exact ⟨T, rfl, hTs, H3.out.1, H3.out.2⟩
    · have hz' : ¬ (0 : Int) < (s.size : Int) := by omega
      rcases y2 with rfl | rfl
      all_goals
        go_wp2
        go_ret
        exact ⟨s, rfl, by omega, K1.out, G1.out⟩
  · have g2 : (y == 2) = false := by simp; omega
    have g3 : (y == 3) = false := by simp; omega
    go_wp2
    go_ret
    exact ⟨s, rfl, by omega, K1.out, G1.out⟩
end Go.Proofs.YtohmfmajgehadaaGreatDoor

namespace Go.Proofs.YtohmfmajgehadaaGreatDoor
open Go.RowKit

set_option maxRecDepth 1000000 in
theorem l05Short_any (s : ByteArray) (hs : s.size ≤ 1048576) (w : World) : Calls Tryz.prog 99 #[.string s] w fun e w' => e = .returned (.string (shortT s)) ∧ Below w.heap.size w w' := by
  have cV := hid (fun w => l01Var_any s.size (by omega) w)
  have hz := vb_le s.size
  obtain ⟨V, hV⟩ : ∃ V : ByteArray, ⟨(vb s.size).toArray⟩ = V := ⟨_, rfl⟩
  have hVs : V.size ≤ 1048577 := by rw [← hV]; show (vb s.size).toArray.size ≤ _; rw [List.size_toArray]; omega
  rw [hV] at cV
  obtain ⟨T, hT⟩ : ∃ T, shortT s = T := ⟨_, rfl⟩
  have hT2 : V ++ s = T := by rw [← hT, shortT, hV]
  rw [hT]
  have hs1 : ∀ w, (Op.stringOp .add V s).run Tryz.prog w = .ok (.string T) w := fun w => by rw [run_string_add_sum w _ _ (by omega), hT2]
  clear hT hT2 hV hz
  go_enter Tryz.func99, Tryz.ntmps99
  go_wp2_with fail
  refine (cV.out _).mono ?_
  rintro e w1 ⟨rfl, b1⟩
  have B1 := hid b1
  clear b1 cV
  go_wp2
  go_ret
  exact ⟨rfl, B1.out⟩
end Go.Proofs.YtohmfmajgehadaaGreatDoor
