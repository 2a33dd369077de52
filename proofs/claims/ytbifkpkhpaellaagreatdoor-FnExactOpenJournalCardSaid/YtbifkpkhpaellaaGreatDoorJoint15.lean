/-
  The walks of spec.l05Take and spec.l05Var: a cursor over a text; what they answer, and what becomes of the cursor.
  The walk of spec.l07Two: a letter and two numbers, read by a cursor.
  The walk of spec.l01In: whether a number is within bounds.
-/
import Derived.Test.YtbifkpkhpaellaaGreatDoorJoint14
import Derived.Test.YtbifkpkhpaellaaGreatDoorJoint1
import Derived.Deep.QuietTactic
import Derived.BigQuiet
import Derived.Lib.QuietBelow
import Derived.Laws.Concat
import Derived.Test.YtbifkpkhpaellaaGreatDoorRows
import Derived.WalkKit
namespace Go.Proofs.YtbifkpkhpaellaaGreatDoor
open Go.RowKit Go.Sort

/-- a cursor: its text, its place, whether it went wrong -/
def CurIs (W : World) (b : Nat) (s : ByteArray) (k : Nat) (bad : Bool) : Prop := BlockIs W b 105 [.string s, .int .i64 (k : Int), .bool bad]
/-- a cursor's state: none when it went wrong -/
def CurSt (W : World) (b : Nat) (s : ByteArray) (o : Option Nat) : Prop := ∃ k, k ≤ s.size ∧ CurIs W b s k o.isNone ∧ (∀ j, o = some j → k = j)

def takeSt (s : ByteArray) : Option Nat → Option Nat
  | none => none
  | some k => if k < s.size then some (k + 1) else none
def takeTxt (s : ByteArray) : Option Nat → ByteArray
  | none => ByteArray.empty
  | some k => if k < s.size then s.extract k (k + 1) else ByteArray.empty
def varSt (s : ByteArray) : Option Nat → Option Nat
  | none => none
  | some k => (rv (s.data.toList.drop k)).map fun p => k + p.2
def varNum (s : ByteArray) : Option Nat → Nat
  | none => 0
  | some k => match rv (s.data.toList.drop k) with
    | none => 0
    | some p => p.1

theorem cur_drew {W : World} {b : Nat} {t : TypeId} {cs : List Value} (h : BlockIs W b t cs) (n : Nat) : BlockIs (W.drewN n) b t cs := h
theorem cur_wrong {W : World} {b : Nat} {s : ByteArray} {k : Nat} {bad : Bool} (h : BlockIs W b 105 [.string s, .int .i64 (k : Int), .bool bad]) (hk : k ≤ s.size) : CurSt (W.setCell ⟨b, 2, none⟩ (.bool true)) b s none :=
  ⟨k, hk, h.set 2 _, fun _ e => by cases e⟩
theorem cur_moved {W : World} {b : Nat} {s : ByteArray} {k j : Nat} (h : BlockIs W b 105 [.string s, .int .i64 (k : Int), .bool false]) (hj : j ≤ s.size) (x : Int) (hx : x = j) : CurSt (W.setCell ⟨b, 1, none⟩ (.int .i64 x)) b s (some j) := by
  subst hx
  exact ⟨j, hj, h.set 1 _, fun i e => by cases e; rfl⟩

theorem curSt_drew {W : World} {b : Nat} {s : ByteArray} {o : Option Nat} (h : CurSt W b s o) (n : Nat) : CurSt (W.drewN n) b s o := h

set_option maxRecDepth 1000000 in
set_option maxHeartbeats 1000000 in
theorem l05Take_any (b : Nat) (s : ByteArray) (hs : s.size ≤ 1048576) (o : Option Nat) (w : World) (hc : CurSt w b s o) :
    Calls Tryz.prog 60 #[.pointer (some ⟨b, 0, none⟩), .int .i64 1] w fun e w' => e = .returned (.string (takeTxt s o)) ∧ CurSt w' b s (takeSt s o) ∧ w.grownBy w' (some b) := by
  obtain ⟨k, hk, hb, hj⟩ := hc
  have HBk := hid hb
  have c0 := hb.cell (j := 0) rfl
  have c1 := hb.cell (j := 1) rfl
  have c2 := hb.cell (j := 2) rfl
  have f1 := hb.thaw 1
  have f2 := hb.thaw 2
  clear hb
  cases o with
  | none =>
    clear hj
    go_enter Tryz.func60, Tryz.ntmps60
    go_wp2
    go_quiet (fail)
    go_wp2
    go_ret
    exact ⟨rfl, cur_wrong (cur_drew HBk.out _) hk, (grown_draws _ _ _).trans (grownBy_set _ _ _ _)⟩
  | some j =>
    obtain rfl := hj j rfl
    clear hj
    by_cases hlt : k < s.size
    · have hg : ¬ (1 : Int) > (s.size : Int) - (k : Int) := by omega
      have hg' : decide ((s.size : Int) - (k : Int) < 1) = false := by simp; omega
      have e1 : Hid (takeTxt s (some k) = s.extract k (k + 1)) := by show _ = _; rw [takeTxt, if_pos hlt]
      have e2 : Hid (takeSt s (some k) = some (k + 1)) := by show _ = _; rw [takeSt, if_pos hlt]
      have hsl := slice_nat (P := Tryz.prog) Tryz.underlying9 s k (k + 1) (k : Int) ((k : Int) + 1) rfl (by omega) (by omega) (by omega)
      obtain ⟨T, hT⟩ : ∃ T, s.extract k (k + 1) = T := ⟨_, rfl⟩
      rw [hT] at hsl e1
      clear hT
      go_enter Tryz.func60, Tryz.ntmps60
      go_wp2
      go_quiet (fail)
      go_wp2
      go_quiet (fail)
      go_wp2
      go_ret
      exact ⟨by rw [e1.out]; rfl, by rw [e2.out]; exact curSt_drew (cur_moved (j := k + 1) (cur_drew HBk.out _) (by omega) _ (by omega)) _, ((grown_draws _ _ _).trans (grownBy_set _ _ _ _)).trans (grown_draws _ _ _)⟩
    · have hg' : decide ((s.size : Int) - (k : Int) < 1) = true := by simp; omega
      have e1 : Hid (takeTxt s (some k) = ByteArray.empty) := by show _ = _; rw [takeTxt, if_neg hlt]
      have e2 : Hid (takeSt s (some k) = none) := by show _ = _; rw [takeSt, if_neg hlt]
      go_enter Tryz.func60, Tryz.ntmps60
      go_wp2
      go_quiet (fail)
      go_wp2
      go_ret
      exact ⟨by rw [e1.out]; rfl, by rw [e2.out]; exact cur_wrong (cur_drew HBk.out _) hk, (grown_draws _ _ _).trans (grownBy_set _ _ _ _)⟩

set_option maxRecDepth 1000000 in
set_option maxHeartbeats 1000000 in
theorem l05Var_any (b : Nat) (s : ByteArray) (hs : s.size ≤ 1048576) (o : Option Nat) (w : World) (hc : CurSt w b s o) :
    Calls Tryz.prog 61 #[.pointer (some ⟨b, 0, none⟩)] w fun e w' => e = .returned (.int .i64 (varNum s o : Int)) ∧ CurSt w' b s (varSt s o) ∧ w.grownBy w' (some b) := by
  obtain ⟨k, hk, hb, hj⟩ := hc
  have HBk := hid hb
  have c0 := hb.cell (j := 0) rfl
  have c1 := hb.cell (j := 1) rfl
  have cV : ∀ d os, Calls Tryz.prog 59 #[.string s, .int .i64 (k : Int)] (grow (redrawn w d) os) fun e w'' => e = .returned (rvAns k (rv (s.data.toList.drop k))) ∧ ∃ p : Regrown, w'' = grow (redrawn w p.d) p.os := fun d os => Calls.regrown_of (specReadVar_in s k hk (by omega) _)
  have q0 := cell_regrown c0
  have q1 := cell_regrown c1
  have hrv : ∃ A, rv (s.data.toList.drop k) = A := ⟨_, rfl⟩
  obtain ⟨A, hA⟩ := hrv
  rw [hA] at cV
  have hAb : ∀ n c, A = some (n, c) → n ≤ 1000000000 ∧ k + c ≤ s.size := by
    intro n c e
    rw [e] at hA
    have := rv_bd hA
    have h2 : (s.data.toList.drop k).length = s.size - k := by simp
    omega
  have HA := hid hA
  clear hb hA
  cases A with
  | none =>
    simp only [rvAns] at cV
    have CV := hid cV
    clear cV hAb
    have e1 : Hid (varNum s o = 0) := by
      show _ = _
      cases o with
      | none => rfl
      | some j => obtain rfl := hj j rfl; rw [varNum, HA.out]
    have e2 : Hid (varSt s o = none) := by
      show _ = _
      cases o with
      | none => rfl
      | some j => obtain rfl := hj j rfl; rw [varSt, HA.out]; rfl
    go_enter Tryz.func61, Tryz.ntmps61
    go_wp2
    refine wp_region_quiet_below (by kernel_rfl) (by kernel_rfl) ?_
    repeat (first | go_big_quiet_step (exact CV.out _ _) | quiet_step (exact CV.out _ _))
    refine wpQuiet_nil ?_
    intro _ hw'
    obtain ⟨⟨dq, osq⟩, hw''⟩ := hw'
    subst hw''
    have hbq := below_regrown w dq osq
    obtain ⟨W2, hW2⟩ : ∃ W2, grow (redrawn w dq) osq = W2 := ⟨_, rfl⟩
    rw [hW2] at hbq ⊢
    have X2 := hid (HBk.out.on hbq HBk.out.lt)
    have G2 := hid (grown_of_below hbq (some b))
    have x2 := X2.out.cell (j := 2) rfl
    have y1 := X2.out.cell (j := 1) rfl
    have f1 := X2.out.thaw 1
    have f2 := X2.out.thaw 2
    clear hbq hW2 q0 q1 c0 c1
    cases o with
    | none =>
      go_wp2
      go_ret
      exact ⟨by rw [e1.out]; rfl, by rw [e2.out]; exact cur_wrong X2.out hk, G2.out.trans (grownBy_set _ _ _ _)⟩
    | some j =>
      go_wp2
      go_ret
      exact ⟨by rw [e1.out]; rfl, by rw [e2.out]; exact cur_wrong X2.out hk, G2.out.trans (grownBy_set _ _ _ _)⟩
  | some p =>
    obtain ⟨n, c⟩ := p
    simp only [rvAns] at cV
    have hb := hAb n c rfl
    obtain ⟨a2, ha2⟩ : ∃ a2, k + c = a2 := ⟨_, rfl⟩
    rw [ha2] at cV hb
    have CV := hid cV
    clear cV hAb
    go_enter Tryz.func61, Tryz.ntmps61
    go_wp2
    refine wp_region_quiet_below (by kernel_rfl) (by kernel_rfl) ?_
    repeat (first | go_big_quiet_step (exact CV.out _ _) | quiet_step (exact CV.out _ _))
    refine wpQuiet_nil ?_
    intro _ hw'
    obtain ⟨⟨dq, osq⟩, hw''⟩ := hw'
    subst hw''
    have hbq := below_regrown w dq osq
    obtain ⟨W2, hW2⟩ : ∃ W2, grow (redrawn w dq) osq = W2 := ⟨_, rfl⟩
    rw [hW2] at hbq ⊢
    have X2 := hid (HBk.out.on hbq HBk.out.lt)
    have G2 := hid (grown_of_below hbq (some b))
    have x2 := X2.out.cell (j := 2) rfl
    have y1 := X2.out.cell (j := 1) rfl
    have f1 := X2.out.thaw 1
    have f2 := X2.out.thaw 2
    clear hbq hW2 q0 q1 c0 c1
    cases o with
    | none =>
      go_wp2
      go_ret
      exact ⟨rfl, cur_wrong X2.out hk, G2.out.trans (grownBy_set _ _ _ _)⟩
    | some j =>
      obtain rfl := hj j rfl
      have e1 : Hid (varNum s (some k) = n) := by show _ = _; rw [varNum, HA.out]
      have e2 : Hid (varSt s (some k) = some a2) := by show _ = _; rw [varSt, HA.out, ← ha2]; rfl
      clear hj
      go_wp2
      go_ret
      exact ⟨by rw [e1.out]; rfl, by rw [e2.out]; exact cur_moved X2.out hb.2 _ rfl, G2.out.trans (grownBy_set _ _ _ _)⟩
end Go.Proofs.YtbifkpkhpaellaaGreatDoor

namespace Go.Proofs.YtbifkpkhpaellaaGreatDoor
open Go.RowKit

theorem same_text {a b : ByteArray} (h : a.toList = b.toList) : a = b := by
  rw [ByteArray.toList_eq, ByteArray.toList_eq] at h
  apply ByteArray.ext
  exact Array.toList_inj.1 h
theorem two_none {c : UInt8} {s : ByteArray} (h : varSt s (varSt s (takeSt s (some 0))) = none) : readTwo c s = none := by
  rcases Nat.eq_zero_or_pos s.size with h0 | h0
  · exact readTwo_empty h0
  · rw [takeSt, if_pos h0] at h
    cases h1 : rv (s.data.toList.drop 1) with
    | none => exact readTwo_one h1
    | some p =>
      obtain ⟨a, m⟩ := p
      have e1 : varSt s (some (0 + 1)) = some (1 + m) := by rw [varSt, Nat.zero_add, h1]; rfl
      rw [e1] at h
      cases h2 : rv (s.data.toList.drop (1 + m)) with
      | none => exact readTwo_two h1 h2
      | some q => rw [varSt, h2] at h; cases h
theorem two_some {s : ByteArray} {K : Nat} (h : varSt s (varSt s (takeSt s (some 0))) = some K) : ∃ (_ : 0 < s.size) (a m b k : Nat), rv (s.data.toList.drop 1) = some (a, m) ∧ rv (s.data.toList.drop (1 + m)) = some (b, k) ∧ varNum s (takeSt s (some 0)) = a ∧ varNum s (varSt s (takeSt s (some 0))) = b := by
  rcases Nat.eq_zero_or_pos s.size with h0 | h0
  · rw [takeSt, if_neg (by omega)] at h; cases h
  · rw [takeSt, if_pos h0] at h ⊢
    cases h1 : rv (s.data.toList.drop 1) with
    | none =>
      have e1 : varSt s (some (0 + 1)) = none := by rw [varSt, Nat.zero_add, h1]; rfl
      rw [e1] at h; cases h
    | some p =>
      obtain ⟨a, m⟩ := p
      have e1 : varSt s (some (0 + 1)) = some (1 + m) := by rw [varSt, Nat.zero_add, h1]; rfl
      rw [e1] at h ⊢
      cases h2 : rv (s.data.toList.drop (1 + m)) with
      | none => rw [varSt, h2] at h; cases h
      | some q =>
        obtain ⟨b, k⟩ := q
        exact ⟨h0, a, m, b, k, rfl, h2, by rw [varNum, Nat.zero_add, h1], by rw [varNum, h2]⟩

set_option maxRecDepth 1000000 in
set_option maxHeartbeats 1000000 in
theorem l07Two_any (c : UInt8) (s : ByteArray) (hs : s.size ≤ 1048576) (w : World) :
    Calls Tryz.prog 40 #[.string s, .string ⟨#[c]⟩] w fun e w' => e = .returned (twoAns (readTwo c s)) ∧ Below w.heap.size w w' := by
  have hc1 : (⟨#[c]⟩ : ByteArray).size = 1 := rfl
  obtain ⟨Lt, hLt⟩ : ∃ L : ByteArray, ⟨#[c]⟩ = L := ⟨_, rfl⟩
  rw [hLt] at hc1 ⊢
  have bx := below_more (Below.refl w.heap.size w) (.cells #[.string s, .int .i64 0, .bool false] 105)
  have K0 : Hid (CurSt (w.alloc (.cells #[.string s, .int .i64 0, .bool false] 105)) w.heap.size s (some 0)) := ⟨0, Nat.zero_le _, heap_alloc_new w _, fun j e => by cases e; rfl⟩
  have B0 := hid bx
  clear bx
  go_enter Tryz.func40, Tryz.ntmps40
  go_wp2_with fail
  refine (l05Take_any w.heap.size s hs (some 0) _ K0.out).mono ?_
  rintro e w1 ⟨rfl, k1, q1⟩
  have K1 := hid k1
  have B1 := hid (B0.out.grown q1 B0.out.size (fun j hj => by cases hj; exact Nat.le_refl _))
  clear k1 q1 K0 B0
  go_wp2_with fail
  refine (l05Var_any w.heap.size s hs _ _ K1.out).mono ?_
  rintro e w2 ⟨rfl, k2, q2⟩
  have K2 := hid k2
  have B2 := hid (B1.out.grown q2 B1.out.size (fun j hj => by cases hj; exact Nat.le_refl _))
  clear k2 q2 K1 B1
  go_wp2_with fail
  refine (l05Var_any w.heap.size s hs _ _ K2.out).mono ?_
  rintro e w3 ⟨rfl, k3, q3⟩
  have B3 := hid (B2.out.grown q3 B2.out.size (fun j hj => by cases hj; exact Nat.le_refl _))
  obtain ⟨K, hK, hcur, _⟩ := k3
  have cb := hcur.cell (j := 2) rfl
  clear q3 K2 B2 hcur
  cases ho : varSt s (varSt s (takeSt s (some 0))) with
  | none =>
    have HR := hid (two_none (c := c) ho)
    rw [ho] at cb
    simp only [Option.isNone_none] at cb
    clear ho
    go_wp2
    go_ret3
    exact ⟨by rw [HR.out]; rfl, B3.out⟩
  | some K' =>
    obtain ⟨h0, a, m, b, k, h1, h2, ea, eb⟩ := two_some ho
    rw [ho] at cb
    simp only [Option.isNone_some] at cb
    rw [ea, eb]
    have ha := (rv_bd h1).1
    have hb := (rv_bd h2).1
    have hT := two_text (c := c) h0 h1 h2
    have HG : Hid (rec2 c a b = s → readTwo c s = some (a, b)) := fun e => by
      obtain ⟨x, y⟩ := hT.1 e
      rw [readTwo_go h0 x h1 h2, if_pos y]
    have HN : Hid (rec2 c a b ≠ s → readTwo c s = none) := fun e => by
      by_cases x : s[0] = c
      · rw [readTwo_go h0 x h1 h2, if_neg (fun y => e (hT.2 ⟨x, y⟩))]
      · exact readTwo_head h0 x
    have hr : rec2 c a b = Lt ++ ⟨(vb a).toArray⟩ ++ ⟨(vb b).toArray⟩ := by rw [← hLt]; rfl
    have cV1' := l01Var_any a (by omega)
    have cV2' := l01Var_any b (by omega)
    have s1 : (⟨(vb a).toArray⟩ : ByteArray).size ≤ 5 := by show (vb a).toArray.size ≤ 5; rw [List.size_toArray]; exact vb_len ha
    have s2 : (⟨(vb b).toArray⟩ : ByteArray).size ≤ 5 := by show (vb b).toArray.size ≤ 5; rw [List.size_toArray]; exact vb_len hb
    obtain ⟨V1, e1⟩ : ∃ V : ByteArray, ⟨(vb a).toArray⟩ = V := ⟨_, rfl⟩
    obtain ⟨V2, e2⟩ : ∃ V : ByteArray, ⟨(vb b).toArray⟩ = V := ⟨_, rfl⟩
    rw [e1] at cV1' hr s1
    rw [e2] at cV2' hr s2
    obtain ⟨A1, q1⟩ : ∃ A : ByteArray, Lt ++ V1 = A := ⟨_, rfl⟩
    have z1 : A1.size = 1 + V1.size := by rw [← q1, ByteArray.size_append, hc1]
    rw [q1] at hr
    obtain ⟨A2, q2⟩ : ∃ A, rec2 c a b = A := ⟨_, rfl⟩
    rw [q2] at hr HG HN
    have hs1 : ∀ w, (Op.stringOp .add Lt V1).run Tryz.prog w = .ok (.string A1) w := fun w => by rw [run_string_add_sum w _ _ (by omega), q1]
    have hs2 : ∀ w, (Op.stringOp .add A1 V2).run Tryz.prog w = .ok (.string A2) w := fun w => by rw [run_string_add_sum w _ _ (by omega), hr]
    have cV1 := hid cV1'
    have cV2 := hid cV2'
    clear cV1' cV2' e1 e2 q1 q2 hr z1 hT h1 h2 ea eb ho hLt hc1
    go_wp2_with fail
    refine (cV1.out _).mono ?_
    rintro e w4 ⟨rfl, b4⟩
    have B4 := hid (below_via B3.out b4)
    clear b4 B3 cV1 cb
    go_wp2_with fail
    refine (cV2.out _).mono ?_
    rintro e w5 ⟨rfl, b5⟩
    have B5 := hid (below_via B4.out b5)
    clear b5 B4 cV2
    by_cases hq : A2 = s
    · subst hq
      have HR := hid (HG.out rfl)
      clear HG HN
      go_wp2
      go_ret3
      exact ⟨by rw [HR.out]; rfl, B5.out⟩
    · have HR := hid (HN.out hq)
      have hq2 : (A2.toList == s.toList) = false := beq_eq_false_iff_ne.2 fun e => hq (same_text e)
      clear HG HN
      go_wp2
      go_ret3
      exact ⟨by rw [HR.out]; rfl, B5.out⟩
end Go.Proofs.YtbifkpkhpaellaaGreatDoor

namespace Go.Proofs.YtbifkpkhpaellaaGreatDoor
open Go.RowKit

set_option maxRecDepth 1000000 in
theorem l01In_any (x a b : Int) (w : World) :
    Calls Tryz.prog 36 #[.int .i64 x, .int .i64 a, .int .i64 b] w fun e w' => e = .returned (.bool (within x a b)) ∧ w' = w := by
  unfold within
  by_cases h1 : a ≤ x
  · by_cases h2 : x ≤ b
    · go_enter Tryz.func36, Tryz.ntmps36
      go_wp2
      go_ret
      exact ⟨by simp [h1, h2], rfl⟩
    · go_enter Tryz.func36, Tryz.ntmps36
      go_wp2
      go_ret
      exact ⟨by simp; omega, rfl⟩
  · go_enter Tryz.func36, Tryz.ntmps36
    go_wp2
    go_ret
    exact ⟨by simp; omega, rfl⟩
end Go.Proofs.YtbifkpkhpaellaaGreatDoor
