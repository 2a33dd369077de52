/-
  The walks of spec.l05Take with any number, and of spec.l05ReadShort.
-/
import Derived.Test.YtlplnobfkjhcdaaJoint4
import Derived.Test.YtlplnobfkjhcdaaJoint1
namespace Go.Proofs.Ytlplnobfkjhcdaa
open Go.RowKit Go.Sort

theorem varSt_same (s : ByteArray) (o : Option Nat) : varSt s o = varSt' s o := by cases o <;> rfl
theorem varNum_same (s : ByteArray) (o : Option Nat) : varNum s o = varNum' s o := by
  cases o with
  | none => rfl
  | some k => simp only [varNum, varNum']; rfl
theorem varNum_le (s : ByteArray) (o : Option Nat) : varNum' s o ≤ 1000000000 := by
  cases o with
  | none => exact Nat.zero_le _
  | some k =>
    rw [varNum']
    cases h : rv (s.data.toList.drop k) with
    | none => exact Nat.zero_le _
    | some p => obtain ⟨n, c⟩ := p; exact (rv_bd h).1

set_option maxRecDepth 1000000 in
set_option maxHeartbeats 1000000 in
theorem l05TakeN_any (b : Nat) (s : ByteArray) (hs : s.size ≤ 1048576) (n : Nat) (hn : n ≤ 1000000000) (o : Option Nat) (w : World) (hc : CurSt w b s o) :
    Calls Try.prog 9 #[.pointer (some ⟨b, 0, none⟩), .int .i64 (n : Int)] w fun e w' => e = .returned (.string (takeTxtN s n o)) ∧ CurSt w' b s (takeStN s n o) ∧ w.grownBy w' (some b) := by
  obtain ⟨k, hk, hb, hj⟩ := hc
  have HBk := hid hb
  have c0 := hb.cell (j := 0) rfl
  have c1 := hb.cell (j := 1) rfl
  have c2 := hb.cell (j := 2) rfl
  have f1 := hb.thaw 1
  have f2 := hb.thaw 2
  clear hb
  cases o with
  | none =>
    clear hj
    go_enter Try.func9, Try.ntmps9
    go_wp2
    go_quiet (fail)
    go_wp2
    go_ret
    exact ⟨rfl, cur_wrong (cur_drew HBk.out _) hk, (grown_draws _ _ _).trans (grownBy_set _ _ _ _)⟩
  | some j =>
    obtain rfl := hj j rfl
    clear hj
    by_cases hlt : k + n ≤ s.size
    · have hg : ¬ (n : Int) > (s.size : Int) - (k : Int) := by omega
      have hg' : decide ((s.size : Int) - (k : Int) < (n : Int)) = false := by simp; omega
      have e1 : Hid (takeTxtN s n (some k) = s.extract k (k + n)) := by show _ = _; rw [takeTxtN, if_pos hlt]
      have e2 : Hid (takeStN s n (some k) = some (k + n)) := by show _ = _; rw [takeStN, if_pos hlt]
      have hsl := slice_nat (P := Try.prog) Try.underlying9 s k (k + n) (k : Int) ((k : Int) + (n : Int)) rfl (by omega) (by omega) (by omega)
      have hk2 : (k : Int) + (n : Int) - (n : Int) = k := by omega
      obtain ⟨T, hT⟩ : ∃ T, s.extract k (k + n) = T := ⟨_, rfl⟩
      rw [hT] at hsl e1
      clear hT
      go_enter Try.func9, Try.ntmps9
      go_wp2
      go_quiet (fail)
      go_wp2
      go_quiet (fail)
      go_wp2
      go_ret
      exact ⟨by rw [e1.out]; rfl, by rw [e2.out]; exact curSt_drew (cur_moved (j := k + n) (cur_drew HBk.out _) (by omega) _ (by omega)) _, ((grown_draws _ _ _).trans (grownBy_set _ _ _ _)).trans (grown_draws _ _ _)⟩
    · have hg' : decide ((s.size : Int) - (k : Int) < (n : Int)) = true := by simp; omega
      have e1 : Hid (takeTxtN s n (some k) = ByteArray.empty) := by show _ = _; rw [takeTxtN, if_neg hlt]
      have e2 : Hid (takeStN s n (some k) = none) := by show _ = _; rw [takeStN, if_neg hlt]
      go_enter Try.func9, Try.ntmps9
      go_wp2
      go_quiet (fail)
      go_wp2
      go_ret
      exact ⟨by rw [e1.out]; rfl, by rw [e2.out]; exact cur_wrong (cur_drew HBk.out _) hk, (grown_draws _ _ _).trans (grownBy_set _ _ _ _)⟩

set_option maxRecDepth 1000000 in
set_option maxHeartbeats 1000000 in
theorem l05ReadShort_any (b : Nat) (s : ByteArray) (hs : s.size ≤ 1048576) (o : Option Nat) (w : World) (hc : CurSt w b s o) :
    Calls Try.prog 12 #[.pointer (some ⟨b, 0, none⟩)] w fun e w' => e = .returned (.string (shortTxt s o)) ∧ CurSt w' b s (shortSt s o) ∧ w.grownBy w' (some b) := by
  have HC := hid hc
  have cV := hid (fun w hc => l05Var_any b s hs o w hc)
  have cT := hid (fun w hc => l05TakeN_any b s hs (varNum' s o) (varNum_le s o) (varSt' s o) w hc)
  clear hc
  rw [varNum_same, varSt_same] at cV
  have e1 : Hid (shortTxt s o = takeTxtN s (varNum' s o) (varSt' s o)) := rfl
  have e2 : Hid (shortSt s o = takeStN s (varNum' s o) (varSt' s o)) := rfl
  obtain ⟨n, hn⟩ : ∃ n, varNum' s o = n := ⟨_, rfl⟩
  obtain ⟨o1, ho⟩ : ∃ n, varSt' s o = n := ⟨_, rfl⟩
  rw [hn, ho] at cV cT e1 e2
  clear hn ho
  go_enter Try.func12, Try.ntmps12
  go_wp2_with fail
  refine (cV.out _ HC.out).mono ?_
  rintro e w1 ⟨rfl, hc1, hg1⟩
  have C1 := hid hc1
  have G1 := hid hg1
  clear hc1 hg1 cV HC
  go_wp2_with fail
  refine (cT.out _ C1.out).mono ?_
  rintro e w2 ⟨rfl, hc2, hg2⟩
  rw [← e1.out]
  rw [← e2.out] at hc2
  have C2 := hid hc2
  have G2 := hid (G1.out.trans hg2)
  clear hc2 hg2 cT
  obtain ⟨T, hT⟩ : ∃ T, shortTxt s o = T := ⟨_, rfl⟩
  rw [hT]
  have HTT := hid hT
  clear hT e1 e2
  go_wp2
  go_ret
  exact ⟨by rw [HTT.out]; rfl, C2.out, G2.out⟩
end Go.Proofs.Ytlplnobfkjhcdaa
