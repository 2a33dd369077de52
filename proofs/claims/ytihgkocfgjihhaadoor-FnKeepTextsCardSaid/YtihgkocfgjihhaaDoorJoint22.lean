/-
  The walk of spec.l02Spoilt: some text, at most one byte longer.
  The walk of spec.l01Var: what it answers.
  The walk of spec.l16Short.
-/
import Derived.Test.YtihgkocfgjihhaaDoorJoint3
import Derived.Test.YtihgkocfgjihhaaDoorJoint21
import Derived.Test.YtihgkocfgjihhaaDoorJoint1
import Derived.Deep.RegionWith
import Derived.Laws.Concat
import Derived.Test.YtihgkocfgjihhaaDoorRows
import Derived.WalkKit
namespace Go.Proofs.YtihgkocfgjihhaaDoor
open Go.RowKit

set_option maxRecDepth 1000000 in
set_option maxHeartbeats 2000000 in
theorem l02Spoilt_any (C : Nat) (s : ByteArray) (hs : s.size ≤ 100000) (w : World) (hc : CurAt w C) :
    Calls Tryd.prog 32 #[.pointer (some ⟨C, 0, none⟩), .string s] w fun e w' => ∃ T : ByteArray, e = .returned (.string T) ∧ T.size ≤ s.size + 1 ∧ CurAt w' C ∧ w.grownBy w' (some C) := by
  have K0 := hid hc
  clear hc
  go_enter Tryd.func32, Tryd.ntmps32
  go_wp2_with fail
  refine (l01Below_any C 12 (by omega) (by omega) _ K0.out).mono ?_
  rintro e w1 ⟨y, rfl, lo, hi, k1, q1⟩
  have K1 := hid k1
  have G1 := hid q1
  clear k1 q1 K0
  by_cases y0 : y = 0
  · subst y0
    go_wp2_with fail
    refine (l01Text_any C 1 (by omega) _ K1.out).mono ?_
    rintro e w2 ⟨X, rfl, hX, k2, q2⟩
    have K2 := hid k2
    have G2 := hid (G1.out.trans q2)
    obtain ⟨T, hT⟩ : ∃ T, s ++ X = T := ⟨_, rfl⟩
    have hTs : T.size ≤ s.size + 1 := by rw [← hT, ByteArray.size_append]; omega
    have hs1 : ∀ w, (Op.stringOp .add s X).run Tryd.prog w = .ok (.string T) w := fun w => by rw [run_string_add_sum w _ _ (by omega), hT]
    clear k2 q2 hT hX K1 G1
    go_wp2
    go_ret
    exact ⟨T, rfl, hTs, K2.out, G2.out⟩
  have g0 : (y == 0) = false := by simpa using y0
  by_cases y1 : y = 1
  · subst y1
    go_wp2_with fail
    refine (l01Below_any C ((s.size : Int) + 1) (by omega) (by omega) _ K1.out).mono ?_
    rintro e w2 ⟨z, rfl, z0, z1, k2, q2⟩
    obtain ⟨n, rfl⟩ : ∃ n : Nat, z = n := ⟨z.toNat, by omega⟩
    have K2 := hid k2
    have G2 := hid (G1.out.trans q2)
    have hq := slice_upto (P := Tryd.prog) Tryd.underlying9 s n (n : Int) rfl (by omega)
    have hTs : (s.extract 0 n).size ≤ s.size + 1 := by rw [ByteArray.size_extract]; omega
    obtain ⟨T, hT⟩ : ∃ T, s.extract 0 n = T := ⟨_, rfl⟩
    rw [hT] at hq hTs
    clear k2 q2 hT K1 G1
    go_wp2
    go_ret
    exact ⟨T, rfl, hTs, K2.out, G2.out⟩
  have g1 : (y == 1) = false := by simpa using y1
  by_cases y2 : y = 2 ∨ y = 3
  · by_cases hz : 0 < s.size
    · have hz' : (0 : Int) < (s.size : Int) := by omega
      rcases y2 with rfl | rfl
      all_goals
        go_wp2_with fail
        refine (l01Below_any C (s.size : Int) (by omega) (by omega) _ K1.out).mono ?_
        rintro e w2 ⟨z, rfl, z0, z1, k2, q2⟩
        obtain ⟨n, rfl⟩ : ∃ n : Nat, z = n := ⟨z.toNat, by omega⟩
        have G2 := hid (G1.out.trans q2)
        have hnl : n < s.size := by omega
        have hq := slice_upto (P := Tryd.prog) Tryd.underlying9 s n (n : Int) rfl (by omega)
        have hr := slice_from (P := Tryd.prog) Tryd.underlying9 s (n + 1) ((n : Int) + 1) (by omega) (by omega)
        have hA : (s.extract 0 n).size ≤ n := by rw [ByteArray.size_extract]; omega
        have hB : (s.extract (n + 1) s.size).size ≤ s.size - (n + 1) := by rw [ByteArray.size_extract]; omega
        obtain ⟨A, eA⟩ : ∃ T, s.extract 0 n = T := ⟨_, rfl⟩
        obtain ⟨B, eB⟩ : ∃ T, s.extract (n + 1) s.size = T := ⟨_, rfl⟩
        rw [eA] at hq hA
        rw [eB] at hr hB
        have hw1 : IntKind.i64.wrap ((n : Int) + 1) = (n : Int) + 1 := by rw [IntKind.wrap_i64]; omega
        have hd : Below w2.heap.size w2 w2.drew := below_drewN (Below.refl _ _) 1
        have CT : Hid (Calls Tryd.prog 60 #[.pointer (some ⟨C, 0, none⟩), .int .i64 1] w2.drew fun e w3 => ∃ X T : ByteArray, e = .returned (.string X) ∧ X.size = 1 ∧ (∀ w, (Op.stringOp .add A X).run Tryd.prog w = .ok (.string (A ++ X)) w) ∧ (∀ w, (Op.stringOp .add (A ++ X) B).run Tryd.prog w = .ok (.string T) w) ∧ T.size ≤ s.size + 1 ∧ Hid (CurAt w3 C ∧ w.grownBy w3 (some C))) := by
          refine Calls.mono (l01Text_any C 1 (by omega) _ (k2.below hd)) ?_
          rintro e w3 ⟨X, rfl, hX, k3, q3⟩
          have hAX : (A ++ X).size = A.size + X.size := ByteArray.size_append
          refine ⟨X, A ++ X ++ B, rfl, hX, fun w => by rw [run_string_add_sum w _ _ (by omega)], fun w => by rw [run_string_add_sum w _ _ (by omega)], ?_, k3, (grown_below G2.out hd).trans q3⟩
          rw [ByteArray.size_append]
          omega
        clear k2 q2 eA eB K1 G1
        go_wp2
        go_region_with (first | (go_at_call 60; refine Calls.mono CT.out ?_; rintro e w3 ⟨X, T, rfl, hX, hs1, hs2, hTs, H3⟩))
        all_goals
          go_wp2
          go_ret
          exact ⟨T, rfl, hTs, H3.out.1, H3.out.2⟩
    · have hz' : ¬ (0 : Int) < (s.size : Int) := by omega
      rcases y2 with rfl | rfl
      all_goals
        go_wp2
        go_ret
        exact ⟨s, rfl, by omega, K1.out, G1.out⟩
  · have g2 : (y == 2) = false := by simp; omega
    have g3 : (y == 3) = false := by simp; omega
    go_wp2
    go_ret
    exact ⟨s, rfl, by omega, K1.out, G1.out⟩
end Go.Proofs.YtihgkocfgjihhaaDoor

namespace Go.Proofs.YtihgkocfgjihhaaDoor
open Go.RowKit

theorem varS_info5 : (Tryd.prog.info? 5).map (fun i => (i.zero, i.size, i.bytes)) = some (some (.int .u8 0), 1, 1) := by kernel_rfl

set_option maxHeartbeats 400000 in
set_option maxRecDepth 1000000 in
theorem l01Var_any (n : Nat) (hn : n ≤ 1000000000000) (w : World) :
    Calls Tryd.prog 58 #[.int .i64 n] w fun e w' => e = .returned (.string ⟨(vb n).toArray⟩) ∧ Below w.heap.size w w' := by
  obtain ⟨i0, hi, hz0, hz1, hz2⟩ := info_parts varS_info5
  go_enter Tryd.func58, Tryd.ntmps58
  go_wp2
  go_loopw [0, 3] (fun x v wr => ∃ (m : Nat) (acc : List UInt8), m ≤ n ∧ x = .int .i64 m ∧ acc ++ vb m = vb n ∧ wr.ownsRow w.heap.size 5 1 v acc.length (cs acc) ∧ Below w.heap.size w wr) (fun x _ _ => (intOf x).toNat)
  case atStart => exact ⟨n, [], Nat.le_refl _, rfl, rfl, World.ownsRow_made w #[] 0 (Nat.le_refl _) (Nat.zero_le _) rfl, (Below.refl _ _).alloc (Nat.le_refl _) _⟩
  case round =>
    obtain ⟨m, acc, hm, rfl, hacc, hown, hb⟩ := hrel
    have hlen : acc.length + (vb m).length ≤ n + 1 := by rw [← List.length_append, hacc]; exact vb_le n
    have hp := vb_pos m
    have HA : Hid (acc ++ vb m = vb n) := hacc
    clear hacc
    have hsz := hb.size
    by_cases hlt : 127 < m
    · go_wp2_with (at_builtin; refine wpList_append_own _ rfl (.tmp 7) (.tmp 12) 22 rfl w.heap.size 5 i0 (.int .u8 0) 1 1 Tryd.underlying22 hi hz0 hz1 hz2 rfl (by decide) _ _ _ rfl (hown.alloc _) ⟨wr.heap.size, 0, none⟩ 1 1 [.int .u8 ((m : Int) % 128 + 128)] rfl rfl ?c1 ?c2 ?c3 ?c4 ?c5 ?_)
      case c1 => intro j u hj; match j, hj with | 0, hj => simp at hj; subst hj; simp [Addr.add]
      case c2 => intro u hu; simp at hu; subst hu; rfl
      case c3 => unfold maxLen; omega
      case c4 => omega
      case c5 => simp; omega
      intro v' w1 hown' hgrow _
      have R := var_step hlt HA.out hown hown' hgrow hb
      clear hown' hgrow hown hb
      go_wp2
      go_roundw
      case rel => exact ⟨m / 128, acc ++ [UInt8.ofNat (m % 128 + 128)], by omega, by go_num, R.1, R.2.1, R.2.2⟩
      case measure => simp [intOf]; omega
    · go_wp2_with (at_builtin; refine wpList_append_own _ rfl (.tmp 16) (.tmp 19) 22 rfl w.heap.size 5 i0 (.int .u8 0) 1 1 Tryd.underlying22 hi hz0 hz1 hz2 rfl (by decide) _ _ _ rfl (hown.alloc _) ⟨wr.heap.size, 0, none⟩ 1 1 [.int .u8 (m : Int)] rfl rfl ?d1 ?d2 ?d3 ?d4 ?d5 ?_)
      case d1 => intro j u hj; match j, hj with | 0, hj => simp at hj; subst hj; simp [Addr.add]
      case d2 => intro u hu; simp at hu; subst hu; rfl
      case d3 => unfold maxLen; omega
      case d4 => omega
      case d5 => simp; omega
      intro v' w1 hown' hgrow _
      have R := var_end (by omega) HA.out hown hown' hgrow hb
      have hcv := text_of_row (P := Tryd.prog) Tryd.underlying22 Tryd.underlying5 Tryd.underlying9 R.1
      clear hown' hgrow hown hb
      go_wp2
      go_ret
      exact ⟨rfl, R.2⟩

end Go.Proofs.YtihgkocfgjihhaaDoor

namespace Go.Proofs.YtihgkocfgjihhaaDoor
open Go.RowKit

theorem vbs (n : Nat) (h : n ≤ 1000000000) : (⟨(vb n).toArray⟩ : ByteArray).size ≤ 5 := by
  have := vb_len h
  show (vb n).toArray.size ≤ 5
  simpa using this

set_option maxRecDepth 1000000 in
theorem l16Short_any (s : ByteArray) (hs : s.size ≤ 1000) (w : World) :
    Calls Tryd.prog 59 #[.string s] w fun e w' => e = .returned (.string (⟨(vb s.size).toArray⟩ ++ s)) ∧ Below w.heap.size w w' := by
  have cV := hid (l01Var_any s.size (by omega))
  have hv := vbs s.size (by omega)
  obtain ⟨V, hV⟩ : ∃ V : ByteArray, ⟨(vb s.size).toArray⟩ = V := ⟨_, rfl⟩
  rw [hV] at cV hv ⊢
  clear hV
  go_enter Tryd.func59, Tryd.ntmps59
  go_wp2_with (go_at_call 58; refine (cV.out _).mono ?_; rintro e w1 ⟨rfl, b1⟩)
  go_ret
  exact ⟨rfl, b1⟩
end Go.Proofs.YtihgkocfgjihhaaDoor
