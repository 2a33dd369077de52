/-
  The walks of spec.l16Var and spec.l16ReadShort: a cursor over a text; what they answer, and what becomes of the cursor.
-/
import Derived.Test.YtihgkocfgjihhaaDoorJoint41
import Derived.Test.YtihgkocfgjihhaaDoorJoint1
import Derived.Deep.QuietTactic
import Derived.BigQuiet
import Derived.Lib.QuietBelow
namespace Go.Proofs.YtihgkocfgjihhaaDoor
open Go.RowKit Go.Sort

/-- a cursor: its text, its place, whether it went wrong -/
def Cur16 (W : World) (b : Nat) (s : ByteArray) (k : Nat) (bad : Bool) : Prop := BlockIs W b 72 [.string s, .int .i64 (k : Int), .bool bad]
/-- a cursor's state: none when it went wrong -/
def St16 (W : World) (b : Nat) (s : ByteArray) (o : Option Nat) : Prop := ∃ k, k ≤ s.size ∧ Cur16 W b s k o.isNone ∧ (∀ j, o = some j → k = j)

def st16 (s : ByteArray) : Option Nat → Option Nat
  | none => none
  | some k => (rv (s.data.toList.drop k)).map fun p => k + p.2
def nu16 (s : ByteArray) : Option Nat → Nat
  | none => 0
  | some k => match rv (s.data.toList.drop k) with
    | none => 0
    | some p => p.1
def ss16 (s : ByteArray) : Option Nat → Option Nat
  | none => none
  | some k => (rs s (k : Int)).map fun p => p.2
def sx16 (s : ByteArray) : Option Nat → ByteArray
  | none => ByteArray.empty
  | some k => match rs s (k : Int) with
    | none => ByteArray.empty
    | some p => s.extract p.1 p.2
theorem wrong16 {W : World} {b : Nat} {s : ByteArray} {k : Nat} {bad : Bool} (h : BlockIs W b 72 [.string s, .int .i64 (k : Int), .bool bad]) (hk : k ≤ s.size) : St16 (W.setCell ⟨b, 2, none⟩ (.bool true)) b s none :=
  ⟨k, hk, h.set 2 _, fun _ e => by cases e⟩
theorem moved16 {W : World} {b : Nat} {s : ByteArray} {k j : Nat} (h : BlockIs W b 72 [.string s, .int .i64 (k : Int), .bool false]) (hj : j ≤ s.size) (x : Int) (hx : x = j) : St16 (W.setCell ⟨b, 1, none⟩ (.int .i64 x)) b s (some j) := by
  subst hx
  exact ⟨j, hj, h.set 1 _, fun i e => by cases e; rfl⟩


set_option maxRecDepth 1000000 in
set_option maxHeartbeats 1000000 in
theorem l16Var_any (b : Nat) (s : ByteArray) (hs : s.size ≤ 1048576) (o : Option Nat) (w : World) (hc : St16 w b s o) :
    Calls Tryd.prog 33 #[.pointer (some ⟨b, 0, none⟩)] w fun e w' => e = .returned (.int .i64 (nu16 s o : Int)) ∧ St16 w' b s (st16 s o) ∧ w.grownBy w' (some b) := by
  obtain ⟨k, hk, hb, hj⟩ := hc
  have HBk := hid hb
  have c0 := hb.cell (j := 0) rfl
  have c1 := hb.cell (j := 1) rfl
  have cV : ∀ d os, Calls Tryd.prog 61 #[.string s, .int .i64 (k : Int)] (grow (redrawn w d) os) fun e w'' => e = .returned (rvAns k (rv (s.data.toList.drop k))) ∧ ∃ p : Regrown, w'' = grow (redrawn w p.d) p.os := fun d os => Calls.regrown_of (specReadVar_in s k hk (by omega) _)
  have q0 := cell_regrown c0
  have q1 := cell_regrown c1
  have hrv : ∃ A, rv (s.data.toList.drop k) = A := ⟨_, rfl⟩
  obtain ⟨A, hA⟩ := hrv
  rw [hA] at cV
  have hAb : ∀ n c, A = some (n, c) → n ≤ 1000000000 ∧ k + c ≤ s.size := by
    intro n c e
    rw [e] at hA
    have := rv_bd hA
    have h2 : (s.data.toList.drop k).length = s.size - k := by simp
    omega
  have HA := hid hA
  clear hb hA
  cases A with
  | none =>
    simp only [rvAns] at cV
    have CV := hid cV
    clear cV hAb
    have e1 : Hid (nu16 s o = 0) := by
      show _ = _
      cases o with
      | none => rfl
      | some j => obtain rfl := hj j rfl; rw [nu16, HA.out]
    have e2 : Hid (st16 s o = none) := by
      show _ = _
      cases o with
      | none => rfl
      | some j => obtain rfl := hj j rfl; rw [st16, HA.out]; rfl
    go_enter Tryd.func33, Tryd.ntmps33
    go_wp2
    refine wp_region_quiet_below (by kernel_rfl) (by kernel_rfl) ?_
    repeat (first | go_big_quiet_step (exact CV.out _ _) | quiet_step (exact CV.out _ _))
    refine wpQuiet_nil ?_
    intro _ hw'
    obtain ⟨⟨dq, osq⟩, hw''⟩ := hw'
    subst hw''
    have hbq := below_regrown w dq osq
    obtain ⟨W2, hW2⟩ : ∃ W2, grow (redrawn w dq) osq = W2 := ⟨_, rfl⟩
    rw [hW2] at hbq ⊢
    have X2 := hid (HBk.out.on hbq HBk.out.lt)
    have G2 := hid (grown_of_below hbq (some b))
    have x2 := X2.out.cell (j := 2) rfl
    have y1 := X2.out.cell (j := 1) rfl
    have f1 := X2.out.thaw 1
    have f2 := X2.out.thaw 2
    clear hbq hW2 q0 q1 c0 c1
    cases o with
    | none =>
      go_wp2
      go_ret
      exact ⟨by rw [e1.out]; rfl, by rw [e2.out]; exact wrong16 X2.out hk, G2.out.trans (grownBy_set _ _ _ _)⟩
    | some j =>
      go_wp2
      go_ret
      exact ⟨by rw [e1.out]; rfl, by rw [e2.out]; exact wrong16 X2.out hk, G2.out.trans (grownBy_set _ _ _ _)⟩
  | some p =>
    obtain ⟨n, c⟩ := p
    simp only [rvAns] at cV
    have hb := hAb n c rfl
    obtain ⟨a2, ha2⟩ : ∃ a2, k + c = a2 := ⟨_, rfl⟩
    rw [ha2] at cV hb
    have CV := hid cV
    clear cV hAb
    go_enter Tryd.func33, Tryd.ntmps33
    go_wp2
    refine wp_region_quiet_below (by kernel_rfl) (by kernel_rfl) ?_
    repeat (first | go_big_quiet_step (exact CV.out _ _) | quiet_step (exact CV.out _ _))
    refine wpQuiet_nil ?_
    intro _ hw'
    obtain ⟨⟨dq, osq⟩, hw''⟩ := hw'
    subst hw''
    have hbq := below_regrown w dq osq
    obtain ⟨W2, hW2⟩ : ∃ W2, grow (redrawn w dq) osq = W2 := ⟨_, rfl⟩
    rw [hW2] at hbq ⊢
    have X2 := hid (HBk.out.on hbq HBk.out.lt)
    have G2 := hid (grown_of_below hbq (some b))
    have x2 := X2.out.cell (j := 2) rfl
    have y1 := X2.out.cell (j := 1) rfl
    have f1 := X2.out.thaw 1
    have f2 := X2.out.thaw 2
    clear hbq hW2 q0 q1 c0 c1
    cases o with
    | none =>
      go_wp2
      go_ret
      exact ⟨rfl, wrong16 X2.out hk, G2.out.trans (grownBy_set _ _ _ _)⟩
    | some j =>
      obtain rfl := hj j rfl
      have e1 : Hid (nu16 s (some k) = n) := by show _ = _; rw [nu16, HA.out]
      have e2 : Hid (st16 s (some k) = some a2) := by show _ = _; rw [st16, HA.out, ← ha2]; rfl
      clear hj
      go_wp2
      go_ret
      exact ⟨by rw [e1.out]; rfl, by rw [e2.out]; exact moved16 X2.out hb.2 _ rfl, G2.out.trans (grownBy_set _ _ _ _)⟩

set_option maxRecDepth 1000000 in
set_option maxHeartbeats 1000000 in
theorem l16ReadShort_any (b : Nat) (s : ByteArray) (hs : s.size ≤ 1048576) (o : Option Nat) (w : World) (hc : St16 w b s o) :
    Calls Tryd.prog 34 #[.pointer (some ⟨b, 0, none⟩)] w fun e w' => e = .returned (.string (sx16 s o)) ∧ St16 w' b s (ss16 s o) ∧ w.grownBy w' (some b) := by
  obtain ⟨k, hk, hb, hj⟩ := hc
  have HBk := hid hb
  have c0 := hb.cell (j := 0) rfl
  have c1 := hb.cell (j := 1) rfl
  have cV : ∀ d os, Calls Tryd.prog 62 #[.string s, .int .i64 (k : Int)] (grow (redrawn w d) os) fun e w'' => e = .returned (rsAns s (rs s (k : Int))) ∧ ∃ p : Regrown, w'' = grow (redrawn w p.d) p.os := fun d os => Calls.regrown_of (specReadShort_any s k (by omega) _)
  have q0 := cell_regrown c0
  have q1 := cell_regrown c1
  have hrv : ∃ A, rs s (k : Int) = A := ⟨_, rfl⟩
  obtain ⟨A, hA⟩ := hrv
  rw [hA] at cV
  have hAb : ∀ n c, A = some (n, c) → c ≤ s.size := by
    intro n c e
    rw [e] at hA
    have : txtAt s k = some (s.extract n c, c) := by rw [txtAt, hA]
    exact (txtAt_fits hk this).2.2.1
  have HA := hid hA
  clear hb hA
  cases A with
  | none =>
    simp only [rsAns] at cV
    have CV := hid cV
    clear cV hAb
    have e1 : Hid (sx16 s o = ByteArray.empty) := by
      show _ = _
      cases o with
      | none => rfl
      | some j => obtain rfl := hj j rfl; rw [sx16, HA.out]
    have e2 : Hid (ss16 s o = none) := by
      show _ = _
      cases o with
      | none => rfl
      | some j => obtain rfl := hj j rfl; rw [ss16, HA.out]; rfl
    go_enter Tryd.func34, Tryd.ntmps34
    go_wp2
    refine wp_region_quiet_below (by kernel_rfl) (by kernel_rfl) ?_
    repeat (first | go_big_quiet_step (exact CV.out _ _) | quiet_step (exact CV.out _ _))
    refine wpQuiet_nil ?_
    intro _ hw'
    obtain ⟨⟨dq, osq⟩, hw''⟩ := hw'
    subst hw''
    have hbq := below_regrown w dq osq
    obtain ⟨W2, hW2⟩ : ∃ W2, grow (redrawn w dq) osq = W2 := ⟨_, rfl⟩
    rw [hW2] at hbq ⊢
    have X2 := hid (HBk.out.on hbq HBk.out.lt)
    have G2 := hid (grown_of_below hbq (some b))
    have x2 := X2.out.cell (j := 2) rfl
    have y1 := X2.out.cell (j := 1) rfl
    have f1 := X2.out.thaw 1
    have f2 := X2.out.thaw 2
    clear hbq hW2 q0 q1 c0 c1
    cases o with
    | none =>
      go_wp2
      go_ret
      exact ⟨by rw [e1.out]; rfl, by rw [e2.out]; exact wrong16 X2.out hk, G2.out.trans (grownBy_set _ _ _ _)⟩
    | some j =>
      go_wp2
      go_ret
      exact ⟨by rw [e1.out]; rfl, by rw [e2.out]; exact wrong16 X2.out hk, G2.out.trans (grownBy_set _ _ _ _)⟩
  | some p =>
    obtain ⟨n, c⟩ := p
    simp only [rsAns] at cV
    have hb := hAb n c rfl
    obtain ⟨TT, hTT⟩ : ∃ T, s.extract n c = T := ⟨_, rfl⟩
    rw [hTT] at cV
    have CV := hid cV
    clear cV hAb
    go_enter Tryd.func34, Tryd.ntmps34
    go_wp2
    refine wp_region_quiet_below (by kernel_rfl) (by kernel_rfl) ?_
    repeat (first | go_big_quiet_step (exact CV.out _ _) | quiet_step (exact CV.out _ _))
    refine wpQuiet_nil ?_
    intro _ hw'
    obtain ⟨⟨dq, osq⟩, hw''⟩ := hw'
    subst hw''
    have hbq := below_regrown w dq osq
    obtain ⟨W2, hW2⟩ : ∃ W2, grow (redrawn w dq) osq = W2 := ⟨_, rfl⟩
    rw [hW2] at hbq ⊢
    have X2 := hid (HBk.out.on hbq HBk.out.lt)
    have G2 := hid (grown_of_below hbq (some b))
    have x2 := X2.out.cell (j := 2) rfl
    have y1 := X2.out.cell (j := 1) rfl
    have f1 := X2.out.thaw 1
    have f2 := X2.out.thaw 2
    clear hbq hW2 q0 q1 c0 c1
    cases o with
    | none =>
      go_wp2
      go_ret
      exact ⟨rfl, wrong16 X2.out hk, G2.out.trans (grownBy_set _ _ _ _)⟩
    | some j =>
      obtain rfl := hj j rfl
      have e1 : Hid (sx16 s (some k) = TT) := by show _ = _; rw [sx16, HA.out, ← hTT]
      have e2 : Hid (ss16 s (some k) = some c) := by show _ = _; rw [ss16, HA.out]; rfl
      clear hj
      go_wp2
      go_ret
      exact ⟨by rw [e1.out]; rfl, by rw [e2.out]; exact moved16 X2.out hb _ rfl, G2.out.trans (grownBy_set _ _ _ _)⟩
end Go.Proofs.YtihgkocfgjihhaaDoor
