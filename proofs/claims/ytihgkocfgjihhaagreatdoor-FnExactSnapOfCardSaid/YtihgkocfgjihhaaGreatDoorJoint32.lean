/-
  The walks of spec.l05Take and spec.l05Var: a cursor over a text; what they answer, and what becomes of the cursor.
  The walks of spec.l05Take with any number, and of spec.l05ReadShort.
-/
import Derived.Test.YtihgkocfgjihhaaGreatDoorJoint31
import Derived.Test.YtihgkocfgjihhaaGreatDoorJoint1
import Derived.Deep.QuietTactic
import Derived.BigQuiet
import Derived.Lib.QuietBelow
namespace Go.Proofs.YtihgkocfgjihhaaGreatDoor
open Go.RowKit Go.Sort

/-- a cursor: its text, its place, whether it went wrong -/
def CurIs (W : World) (b : Nat) (s : ByteArray) (k : Nat) (bad : Bool) : Prop := BlockIs W b 188 [.string s, .int .i64 (k : Int), .bool bad]
/-- a cursor's state: none when it went wrong -/
def CurSt (W : World) (b : Nat) (s : ByteArray) (o : Option Nat) : Prop := ∃ k, k ≤ s.size ∧ CurIs W b s k o.isNone ∧ (∀ j, o = some j → k = j)

def takeSt (s : ByteArray) : Option Nat → Option Nat
  | none => none
  | some k => if k < s.size then some (k + 1) else none
def takeTxt (s : ByteArray) : Option Nat → ByteArray
  | none => ByteArray.empty
  | some k => if k < s.size then s.extract k (k + 1) else ByteArray.empty
def varSt (s : ByteArray) : Option Nat → Option Nat
  | none => none
  | some k => (rv (s.data.toList.drop k)).map fun p => k + p.2
def varNum (s : ByteArray) : Option Nat → Nat
  | none => 0
  | some k => match rv (s.data.toList.drop k) with
    | none => 0
    | some p => p.1

theorem cur_drew {W : World} {b : Nat} {t : TypeId} {cs : List Value} (h : BlockIs W b t cs) (n : Nat) : BlockIs (W.drewN n) b t cs := h
theorem cur_wrong {W : World} {b : Nat} {s : ByteArray} {k : Nat} {bad : Bool} (h : BlockIs W b 188 [.string s, .int .i64 (k : Int), .bool bad]) (hk : k ≤ s.size) : CurSt (W.setCell ⟨b, 2, none⟩ (.bool true)) b s none :=
  ⟨k, hk, h.set 2 _, fun _ e => by cases e⟩
theorem cur_moved {W : World} {b : Nat} {s : ByteArray} {k j : Nat} (h : BlockIs W b 188 [.string s, .int .i64 (k : Int), .bool false]) (hj : j ≤ s.size) (x : Int) (hx : x = j) : CurSt (W.setCell ⟨b, 1, none⟩ (.int .i64 x)) b s (some j) := by
  subst hx
  exact ⟨j, hj, h.set 1 _, fun i e => by cases e; rfl⟩

theorem curSt_drew {W : World} {b : Nat} {s : ByteArray} {o : Option Nat} (h : CurSt W b s o) (n : Nat) : CurSt (W.drewN n) b s o := h

set_option maxRecDepth 1000000 in
set_option maxHeartbeats 1000000 in
theorem l05Take_any (b : Nat) (s : ByteArray) (hs : s.size ≤ 1048576) (o : Option Nat) (w : World) (hc : CurSt w b s o) :
    Calls Tryz.prog 174 #[.pointer (some ⟨b, 0, none⟩), .int .i64 1] w fun e w' => e = .returned (.string (takeTxt s o)) ∧ CurSt w' b s (takeSt s o) ∧ w.grownBy w' (some b) := by
  obtain ⟨k, hk, hb, hj⟩ := hc
  have HBk := hid hb
  have c0 := hb.cell (j := 0) rfl
  have c1 := hb.cell (j := 1) rfl
  have c2 := hb.cell (j := 2) rfl
  have f1 := hb.thaw 1
  have f2 := hb.thaw 2
  clear hb
  cases o with
  | none =>
    clear hj
    go_enter Tryz.func174, Tryz.ntmps174
    go_wp2
    go_quiet (fail)
    go_wp2
    go_ret
    exact ⟨rfl, cur_wrong (cur_drew HBk.out _) hk, (grown_draws _ _ _).trans (grownBy_set _ _ _ _)⟩
  | some j =>
    obtain rfl := hj j rfl
    clear hj
    by_cases hlt : k < s.size
    · have hg : ¬ (1 : Int) > (s.size : Int) - (k : Int) := by omega
      have hg' : decide ((s.size : Int) - (k : Int) < 1) = false := by simp; omega
      have e1 : Hid (takeTxt s (some k) = s.extract k (k + 1)) := by show _ = _; rw [takeTxt, if_pos hlt]
      have e2 : Hid (takeSt s (some k) = some (k + 1)) := by show _ = _; rw [takeSt, if_pos hlt]
      have hsl := slice_nat (P := Tryz.prog) Tryz.underlying9 s k (k + 1) (k : Int) ((k : Int) + 1) rfl (by omega) (by omega) (by omega)
      obtain ⟨T, hT⟩ : ∃ T, s.extract k (k + 1) = T := ⟨_, rfl⟩
      rw [hT] at hsl e1
      clear hT
      go_enter Tryz.func174, Tryz.ntmps174
      go_wp2
      go_quiet (fail)
      go_wp2
      go_quiet (fail)
      go_wp2
      go_ret
      exact ⟨by rw [e1.out]; rfl, by rw [e2.out]; exact curSt_drew (cur_moved (j := k + 1) (cur_drew HBk.out _) (by omega) _ (by omega)) _, ((grown_draws _ _ _).trans (grownBy_set _ _ _ _)).trans (grown_draws _ _ _)⟩
    · have hg' : decide ((s.size : Int) - (k : Int) < 1) = true := by simp; omega
      have e1 : Hid (takeTxt s (some k) = ByteArray.empty) := by show _ = _; rw [takeTxt, if_neg hlt]
      have e2 : Hid (takeSt s (some k) = none) := by show _ = _; rw [takeSt, if_neg hlt]
      go_enter Tryz.func174, Tryz.ntmps174
      go_wp2
      go_quiet (fail)
      go_wp2
      go_ret
      exact ⟨by rw [e1.out]; rfl, by rw [e2.out]; exact cur_wrong (cur_drew HBk.out _) hk, (grown_draws _ _ _).trans (grownBy_set _ _ _ _)⟩

set_option maxRecDepth 1000000 in
set_option maxHeartbeats 1000000 in
theorem l05Var_any (b : Nat) (s : ByteArray) (hs : s.size ≤ 1048576) (o : Option Nat) (w : World) (hc : CurSt w b s o) :
    Calls Tryz.prog 140 #[.pointer (some ⟨b, 0, none⟩)] w fun e w' => e = .returned (.int .i64 (varNum s o : Int)) ∧ CurSt w' b s (varSt s o) ∧ w.grownBy w' (some b) := by
  obtain ⟨k, hk, hb, hj⟩ := hc
  have HBk := hid hb
  have c0 := hb.cell (j := 0) rfl
  have c1 := hb.cell (j := 1) rfl
  have cV : ∀ d os, Calls Tryz.prog 173 #[.string s, .int .i64 (k : Int)] (grow (redrawn w d) os) fun e w'' => e = .returned (rvAns k (rv (s.data.toList.drop k))) ∧ ∃ p : Regrown, w'' = grow (redrawn w p.d) p.os := fun d os => Calls.regrown_of (specReadVar_in s k hk (by omega) _)
  have q0 := cell_regrown c0
  have q1 := cell_regrown c1
  have hrv : ∃ A, rv (s.data.toList.drop k) = A := ⟨_, rfl⟩
  obtain ⟨A, hA⟩ := hrv
  rw [hA] at cV
  have hAb : ∀ n c, A = some (n, c) → n ≤ 1000000000 ∧ k + c ≤ s.size := by
    intro n c e
    rw [e] at hA
    have := rv_bd hA
    have h2 : (s.data.toList.drop k).length = s.size - k := by simp
    omega
  have HA := hid hA
  clear hb hA
  cases A with
  | none =>
    simp only [rvAns] at cV
    have CV := hid cV
    clear cV hAb
    have e1 : Hid (varNum s o = 0) := by
      show _ = _
      cases o with
      | none => rfl
      | some j => obtain rfl := hj j rfl; rw [varNum, HA.out]
    have e2 : Hid (varSt s o = none) := by
      show _ = _
      cases o with
      | none => rfl
      | some j => obtain rfl := hj j rfl; rw [varSt, HA.out]; rfl
    go_enter Tryz.func140, Tryz.ntmps140
    go_wp2
    refine wp_region_quiet_below (by kernel_rfl) (by kernel_rfl) ?_
    repeat (first | go_big_quiet_step (exact CV.out _ _) | quiet_step (exact CV.out _ _))
    refine wpQuiet_nil ?_
    intro _ hw'
    obtain ⟨⟨dq, osq⟩, hw''⟩ := hw'
    subst hw''
    have hbq := below_regrown w dq osq
    obtain ⟨W2, hW2⟩ : ∃ W2, grow (redrawn w dq) osq = W2 := ⟨_, rfl⟩
    rw [hW2] at hbq ⊢
    have X2 := hid (HBk.out.on hbq HBk.out.lt)
    have G2 := hid (grown_of_below hbq (some b))
    have x2 := X2.out.cell (j := 2) rfl
    have y1 := X2.out.cell (j := 1) rfl
    have f1 := X2.out.thaw 1
    have f2 := X2.out.thaw 2
    clear hbq hW2 q0 q1 c0 c1
    cases o with
    | none =>
      go_wp2
      go_ret
      exact ⟨by rw [e1.out]; rfl, by rw [e2.out]; exact cur_wrong X2.out hk, G2.out.trans (grownBy_set _ _ _ _)⟩
    | some j =>
      go_wp2
      go_ret
      exact ⟨by rw [e1.out]; rfl, by rw [e2.out]; exact cur_wrong X2.out hk, G2.out.trans (grownBy_set _ _ _ _)⟩
  | some p =>
    obtain ⟨n, c⟩ := p
    simp only [rvAns] at cV
    have hb := hAb n c rfl
    obtain ⟨a2, ha2⟩ : ∃ a2, k + c = a2 := ⟨_, rfl⟩
    rw [ha2] at cV hb
    have CV := hid cV
    clear cV hAb
    go_enter Tryz.func140, Tryz.ntmps140
    go_wp2
    refine wp_region_quiet_below (by kernel_rfl) (by kernel_rfl) ?_
    repeat (first | go_big_quiet_step (exact CV.out _ _) | quiet_step (exact CV.out _ _))
    refine wpQuiet_nil ?_
    intro _ hw'
    obtain ⟨⟨dq, osq⟩, hw''⟩ := hw'
    subst hw''
    have hbq := below_regrown w dq osq
    obtain ⟨W2, hW2⟩ : ∃ W2, grow (redrawn w dq) osq = W2 := ⟨_, rfl⟩
    rw [hW2] at hbq ⊢
    have X2 := hid (HBk.out.on hbq HBk.out.lt)
    have G2 := hid (grown_of_below hbq (some b))
    have x2 := X2.out.cell (j := 2) rfl
    have y1 := X2.out.cell (j := 1) rfl
    have f1 := X2.out.thaw 1
    have f2 := X2.out.thaw 2
    clear hbq hW2 q0 q1 c0 c1
    cases o with
    | none =>
      go_wp2
      go_ret
      exact ⟨rfl, cur_wrong X2.out hk, G2.out.trans (grownBy_set _ _ _ _)⟩
    | some j =>
      obtain rfl := hj j rfl
      have e1 : Hid (varNum s (some k) = n) := by show _ = _; rw [varNum, HA.out]
      have e2 : Hid (varSt s (some k) = some a2) := by show _ = _; rw [varSt, HA.out, ← ha2]; rfl
      clear hj
      go_wp2
      go_ret
      exact ⟨by rw [e1.out]; rfl, by rw [e2.out]; exact cur_moved X2.out hb.2 _ rfl, G2.out.trans (grownBy_set _ _ _ _)⟩
end Go.Proofs.YtihgkocfgjihhaaGreatDoor

namespace Go.Proofs.YtihgkocfgjihhaaGreatDoor
open Go.RowKit Go.Sort

theorem varSt_same (s : ByteArray) (o : Option Nat) : varSt s o = varSt' s o := by cases o <;> rfl
theorem varNum_same (s : ByteArray) (o : Option Nat) : varNum s o = varNum' s o := by
  cases o with
  | none => rfl
  | some k => simp only [varNum, varNum']; rfl
theorem varNum_le (s : ByteArray) (o : Option Nat) : varNum' s o ≤ 1000000000 := by
  cases o with
  | none => exact Nat.zero_le _
  | some k =>
    rw [varNum']
    cases h : rv (s.data.toList.drop k) with
    | none => exact Nat.zero_le _
    | some p => obtain ⟨n, c⟩ := p; exact (rv_bd h).1

set_option maxRecDepth 1000000 in
set_option maxHeartbeats 1000000 in
theorem l05TakeN_any (b : Nat) (s : ByteArray) (hs : s.size ≤ 1048576) (n : Nat) (hn : n ≤ 1000000000) (o : Option Nat) (w : World) (hc : CurSt w b s o) :
    Calls Tryz.prog 174 #[.pointer (some ⟨b, 0, none⟩), .int .i64 (n : Int)] w fun e w' => e = .returned (.string (takeTxtN s n o)) ∧ CurSt w' b s (takeStN s n o) ∧ w.grownBy w' (some b) := by
  obtain ⟨k, hk, hb, hj⟩ := hc
  have HBk := hid hb
  have c0 := hb.cell (j := 0) rfl
  have c1 := hb.cell (j := 1) rfl
  have c2 := hb.cell (j := 2) rfl
  have f1 := hb.thaw 1
  have f2 := hb.thaw 2
  clear hb
  cases o with
  | none =>
    clear hj
    go_enter Tryz.func174, Tryz.ntmps174
    go_wp2
    go_quiet (fail)
    go_wp2
    go_ret
    exact ⟨rfl, cur_wrong (cur_drew HBk.out _) hk, (grown_draws _ _ _).trans (grownBy_set _ _ _ _)⟩
  | some j =>
    obtain rfl := hj j rfl
    clear hj
    by_cases hlt : k + n ≤ s.size
    · have hg : ¬ (n : Int) > (s.size : Int) - (k : Int) := by omega
      have hg' : decide ((s.size : Int) - (k : Int) < (n : Int)) = false := by simp; omega
      have e1 : Hid (takeTxtN s n (some k) = s.extract k (k + n)) := by show _ = _; rw [takeTxtN, if_pos hlt]
      have e2 : Hid (takeStN s n (some k) = some (k + n)) := by show _ = _; rw [takeStN, if_pos hlt]
      have hsl := slice_nat (P := Tryz.prog) Tryz.underlying9 s k (k + n) (k : Int) ((k : Int) + (n : Int)) rfl (by omega) (by omega) (by omega)
      have hk2 : (k : Int) + (n : Int) - (n : Int) = k := by omega
      obtain ⟨T, hT⟩ : ∃ T, s.extract k (k + n) = T := ⟨_, rfl⟩
      rw [hT] at hsl e1
      clear hT
      go_enter Tryz.func174, Tryz.ntmps174
      go_wp2
      go_quiet (fail)
      go_wp2
      go_quiet (fail)
      go_wp2
      go_ret
      exact ⟨by rw [e1.out]; rfl, by rw [e2.out]; exact curSt_drew (cur_moved (j := k + n) (cur_drew HBk.out _) (by omega) _ (by omega)) _, ((grown_draws _ _ _).trans (grownBy_set _ _ _ _)).trans (grown_draws _ _ _)⟩
    · have hg' : decide ((s.size : Int) - (k : Int) < (n : Int)) = true := by simp; omega
      have e1 : Hid (takeTxtN s n (some k) = ByteArray.empty) := by show _ = _; rw [takeTxtN, if_neg hlt]
      have e2 : Hid (takeStN s n (some k) = none) := by show _ = _; rw [takeStN, if_neg hlt]
      go_enter Tryz.func174, Tryz.ntmps174
      go_wp2
      go_quiet (fail)
      go_wp2
      go_ret
      exact ⟨by rw [e1.out]; rfl, by rw [e2.out]; exact cur_wrong (cur_drew HBk.out _) hk, (grown_draws _ _ _).trans (grownBy_set _ _ _ _)⟩

set_option maxRecDepth 1000000 in
set_option maxHeartbeats 1000000 in
theorem l05ReadShort_any (b : Nat) (s : ByteArray) (hs : s.size ≤ 1048576) (o : Option Nat) (w : World) (hc : CurSt w b s o) :
    Calls Tryz.prog 142 #[.pointer (some ⟨b, 0, none⟩)] w fun e w' => e = .returned (.string (shortTxt s o)) ∧ CurSt w' b s (shortSt s o) ∧ w.grownBy w' (some b) := by
  have HC := hid hc
  have cV := hid (fun w hc => l05Var_any b s hs o w hc)
  have cT := hid (fun w hc => l05TakeN_any b s hs (varNum' s o) (varNum_le s o) (varSt' s o) w hc)
  clear hc
  rw [varNum_same, varSt_same] at cV
  have e1 : Hid (shortTxt s o = takeTxtN s (varNum' s o) (varSt' s o)) := rfl
  have e2 : Hid (shortSt s o = takeStN s (varNum' s o) (varSt' s o)) := rfl
  obtain ⟨n, hn⟩ : ∃ n, varNum' s o = n := ⟨_, rfl⟩
  obtain ⟨o1, ho⟩ : ∃ n, varSt' s o = n := ⟨_, rfl⟩
  rw [hn, ho] at cV cT e1 e2
  clear hn ho
  go_enter Tryz.func142, Tryz.ntmps142
  go_wp2_with fail
  refine (cV.out _ HC.out).mono ?_
  rintro e w1 ⟨rfl, hc1, hg1⟩
  have C1 := hid hc1
  have G1 := hid hg1
  clear hc1 hg1 cV HC
  go_wp2_with fail
  refine (cT.out _ C1.out).mono ?_
  rintro e w2 ⟨rfl, hc2, hg2⟩
  rw [← e1.out]
  rw [← e2.out] at hc2
  have C2 := hid hc2
  have G2 := hid (G1.out.trans hg2)
  clear hc2 hg2 cT
  obtain ⟨T, hT⟩ : ∃ T, shortTxt s o = T := ⟨_, rfl⟩
  rw [hT]
  have HTT := hid hT
  clear hT e1 e2
  go_wp2
  go_ret
  exact ⟨by rw [HTT.out]; rfl, C2.out, G2.out⟩
end Go.Proofs.YtihgkocfgjihhaaGreatDoor
