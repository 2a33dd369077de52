/-
  The walk of spec.l07Two: a letter and two numbers, read by a cursor.
-/
import Derived.Test.YtjkgjnpifdafaabDoorJoint1
import Derived.Test.YtjkgjnpifdafaabDoorJoint13
import Derived.Test.YtjkgjnpifdafaabDoorJoint11
import Derived.Laws.Concat
namespace Go.Proofs.YtjkgjnpifdafaabDoor
open Go.RowKit

theorem same_text {a b : ByteArray} (h : a.toList = b.toList) : a = b := by
  rw [ByteArray.toList_eq, ByteArray.toList_eq] at h
  apply ByteArray.ext
  exact Array.toList_inj.1 h
theorem two_none {c : UInt8} {s : ByteArray} (h : varSt s (varSt s (takeSt s (some 0))) = none) : readTwo c s = none := by
  rcases Nat.eq_zero_or_pos s.size with h0 | h0
  · exact readTwo_empty h0
  · rw [takeSt, if_pos h0] at h
    cases h1 : rv (s.data.toList.drop 1) with
    | none => exact readTwo_one h1
    | some p =>
      obtain ⟨a, m⟩ := p
      have e1 : varSt s (some (0 + 1)) = some (1 + m) := by rw [varSt, Nat.zero_add, h1]; rfl
      rw [e1] at h
      cases h2 : rv (s.data.toList.drop (1 + m)) with
      | none => exact readTwo_two h1 h2
      | some q => rw [varSt, h2] at h; cases h
theorem two_some {s : ByteArray} {K : Nat} (h : varSt s (varSt s (takeSt s (some 0))) = some K) : ∃ (_ : 0 < s.size) (a m b k : Nat), rv (s.data.toList.drop 1) = some (a, m) ∧ rv (s.data.toList.drop (1 + m)) = some (b, k) ∧ varNum s (takeSt s (some 0)) = a ∧ varNum s (varSt s (takeSt s (some 0))) = b := by
  rcases Nat.eq_zero_or_pos s.size with h0 | h0
  · rw [takeSt, if_neg (by omega)] at h; cases h
  · rw [takeSt, if_pos h0] at h ⊢
    cases h1 : rv (s.data.toList.drop 1) with
    | none =>
      have e1 : varSt s (some (0 + 1)) = none := by rw [varSt, Nat.zero_add, h1]; rfl
      rw [e1] at h; cases h
    | some p =>
      obtain ⟨a, m⟩ := p
      have e1 : varSt s (some (0 + 1)) = some (1 + m) := by rw [varSt, Nat.zero_add, h1]; rfl
      rw [e1] at h ⊢
      cases h2 : rv (s.data.toList.drop (1 + m)) with
      | none => rw [varSt, h2] at h; cases h
      | some q =>
        obtain ⟨b, k⟩ := q
        exact ⟨h0, a, m, b, k, rfl, h2, by rw [varNum, Nat.zero_add, h1], by rw [varNum, h2]⟩

set_option maxRecDepth 1000000 in
set_option maxHeartbeats 1000000 in
theorem l07Two_any (c : UInt8) (s : ByteArray) (hs : s.size ≤ 1048576) (w : World) :
    Calls Tryd.prog 29 #[.string s, .string ⟨#[c]⟩] w fun e w' => e = .returned (twoAns (readTwo c s)) ∧ Below w.heap.size w w' := by
  have hc1 : (⟨#[c]⟩ : ByteArray).size = 1 := rfl
  obtain ⟨Lt, hLt⟩ : ∃ L : ByteArray, ⟨#[c]⟩ = L := ⟨_, rfl⟩
  rw [hLt] at hc1 ⊢
  have bx := below_more (Below.refl w.heap.size w) (.cells #[.string s, .int .i64 0, .bool false] 91)
  have K0 : Hid (CurSt (w.alloc (.cells #[.string s, .int .i64 0, .bool false] 91)) w.heap.size s (some 0)) := ⟨0, Nat.zero_le _, heap_alloc_new w _, fun j e => by cases e; rfl⟩
  have B0 := hid bx
  clear bx
  go_enter Tryd.func29, Tryd.ntmps29
  go_wp2_with fail
  refine (l05Take_any w.heap.size s hs (some 0) _ K0.out).mono ?_
  rintro e w1 ⟨rfl, k1, q1⟩
  have K1 := hid k1
  have B1 := hid (B0.out.grown q1 B0.out.size (fun j hj => by cases hj; exact Nat.le_refl _))
  clear k1 q1 K0 B0
  go_wp2_with fail
  refine (l05Var_any w.heap.size s hs _ _ K1.out).mono ?_
  rintro e w2 ⟨rfl, k2, q2⟩
  have K2 := hid k2
  have B2 := hid (B1.out.grown q2 B1.out.size (fun j hj => by cases hj; exact Nat.le_refl _))
  clear k2 q2 K1 B1
  go_wp2_with fail
  refine (l05Var_any w.heap.size s hs _ _ K2.out).mono ?_
  rintro e w3 ⟨rfl, k3, q3⟩
  have B3 := hid (B2.out.grown q3 B2.out.size (fun j hj => by cases hj; exact Nat.le_refl _))
  obtain ⟨K, hK, hcur, _⟩ := k3
  have cb := hcur.cell (j := 2) rfl
  clear q3 K2 B2 hcur
  cases ho : varSt s (varSt s (takeSt s (some 0))) with
  | none =>
    have HR := hid (two_none (c := c) ho)
    rw [ho] at cb
    simp only [Option.isNone_none] at cb
    clear ho
    go_wp2
    go_ret3
    exact ⟨by rw [HR.out]; rfl, B3.out⟩
  | some K' =>
    obtain ⟨h0, a, m, b, k, h1, h2, ea, eb⟩ := two_some ho
    rw [ho] at cb
    simp only [Option.isNone_some] at cb
    rw [ea, eb]
    have ha := (rv_bd h1).1
    have hb := (rv_bd h2).1
    have hT := two_text (c := c) h0 h1 h2
    have HG : Hid (rec2 c a b = s → readTwo c s = some (a, b)) := fun e => by
      obtain ⟨x, y⟩ := hT.1 e
      rw [readTwo_go h0 x h1 h2, if_pos y]
    have HN : Hid (rec2 c a b ≠ s → readTwo c s = none) := fun e => by
      by_cases x : s[0] = c
      · rw [readTwo_go h0 x h1 h2, if_neg (fun y => e (hT.2 ⟨x, y⟩))]
      · exact readTwo_head h0 x
    have hr : rec2 c a b = Lt ++ ⟨(vb a).toArray⟩ ++ ⟨(vb b).toArray⟩ := by rw [← hLt]; rfl
    have cV1' := l01Var_any a (by omega)
    have cV2' := l01Var_any b (by omega)
    have s1 : (⟨(vb a).toArray⟩ : ByteArray).size ≤ 5 := by show (vb a).toArray.size ≤ 5; rw [List.size_toArray]; exact vb_len ha
    have s2 : (⟨(vb b).toArray⟩ : ByteArray).size ≤ 5 := by show (vb b).toArray.size ≤ 5; rw [List.size_toArray]; exact vb_len hb
    obtain ⟨V1, e1⟩ : ∃ V : ByteArray, ⟨(vb a).toArray⟩ = V := ⟨_, rfl⟩
    obtain ⟨V2, e2⟩ : ∃ V : ByteArray, ⟨(vb b).toArray⟩ = V := ⟨_, rfl⟩
    rw [e1] at cV1' hr s1
    rw [e2] at cV2' hr s2
    obtain ⟨A1, q1⟩ : ∃ A : ByteArray, Lt ++ V1 = A := ⟨_, rfl⟩
    have z1 : A1.size = 1 + V1.size := by rw [← q1, ByteArray.size_append, hc1]
    rw [q1] at hr
    obtain ⟨A2, q2⟩ : ∃ A, rec2 c a b = A := ⟨_, rfl⟩
    rw [q2] at hr HG HN
    have hs1 : ∀ w, (Op.stringOp .add Lt V1).run Tryd.prog w = .ok (.string A1) w := fun w => by rw [run_string_add_sum w _ _ (by omega), q1]
    have hs2 : ∀ w, (Op.stringOp .add A1 V2).run Tryd.prog w = .ok (.string A2) w := fun w => by rw [run_string_add_sum w _ _ (by omega), hr]
    have cV1 := hid cV1'
    have cV2 := hid cV2'
    clear cV1' cV2' e1 e2 q1 q2 hr z1 hT h1 h2 ea eb ho hLt hc1
    go_wp2_with fail
    refine (cV1.out _).mono ?_
    rintro e w4 ⟨rfl, b4⟩
    have B4 := hid (below_via B3.out b4)
    clear b4 B3 cV1 cb
    go_wp2_with fail
    refine (cV2.out _).mono ?_
    rintro e w5 ⟨rfl, b5⟩
    have B5 := hid (below_via B4.out b5)
    clear b5 B4 cV2
    by_cases hq : A2 = s
    · subst hq
      have HR := hid (HG.out rfl)
      clear HG HN
      go_wp2
      go_ret3
      exact ⟨by rw [HR.out]; rfl, B5.out⟩
    · have HR := hid (HN.out hq)
      have hq2 : (A2.toList == s.toList) = false := beq_eq_false_iff_ne.2 fun e => hq (same_text e)
      clear HG HN
      go_wp2
      go_ret3
      exact ⟨by rw [HR.out]; rfl, B5.out⟩
end Go.Proofs.YtjkgjnpifdafaabDoor
