/-
  Plain facts on reading a number in sevens; nothing of the program stands here.
-/
import Derived.Test.YtdgohbhffjinmaaDoorPlain
namespace Go.Proofs.YtdgohbhffjinmaaDoor
open Go.RowKit

/-- what the low seven bits of the bytes make, the least first -/
def val : List UInt8 → Nat
  | [] => 0
  | b :: r => b.toNat % 128 + 128 * val r

theorem val_snoc (p : List UInt8) (b : UInt8) : val (p ++ [b]) = val p + b.toNat % 128 * 128 ^ p.length := by
  induction p with
  | nil => simp [val]
  | cons x p ih =>
    simp only [List.cons_append, val, ih, List.length_cons, Nat.pow_succ, Nat.mul_add]
    rw [show b.toNat % 128 * (128 ^ p.length * 128) = 128 * (b.toNat % 128 * 128 ^ p.length) from by rw [Nat.mul_comm (128 ^ p.length) 128, Nat.mul_left_comm]]
    omega

theorem val_lt (p : List UInt8) : val p < 128 ^ p.length := by
  induction p with
  | nil => simp [val]
  | cons x p ih =>
    simp only [val, List.length_cons, Nat.pow_succ]
    omega

theorem val_zero_last (p : List UInt8) (b : UInt8) (hb : b.toNat < 128) (h : val (p ++ [b]) = 0) : b = 0 := by
  rw [val_snoc] at h
  have h1 : b.toNat % 128 * 128 ^ p.length = 0 := by omega
  have h2 : 0 < 128 ^ p.length := Nat.pow_pos (by omega)
  rcases Nat.mul_eq_zero.1 h1 with h | h
  · apply UInt8.toNat_inj.1
    rw [Nat.mod_eq_of_lt hb] at h
    simpa using h
  · omega

/-- bytes that go on, then one that ends: they are just what would be written, unless the last is a needless nought -/
theorem vb_val (p : List UInt8) (b : UInt8) (hp : ∀ x ∈ p, 128 ≤ x.toNat) (hb : b.toNat < 128) : (vb (val (p ++ [b])) = p ++ [b]) ↔ ¬ (b = 0 ∧ p ≠ []) := by
  induction p with
  | nil =>
    have : vb (val [b]) = [b] := by
      have e : val [b] = b.toNat := by simp [val]; omega
      rw [e, vb_small (by omega)]; simp
    simp [this]
  | cons x p ih =>
    have hx := hp x (by simp)
    have hx2 := x.toNat_lt
    have ih' := ih fun y hy => hp y (by simp [hy])
    simp only [List.cons_append, val]
    by_cases hv : val (p ++ [b]) = 0
    · have hb0 := val_zero_last p b hb hv
      rw [hv, vb_small (by omega)]
      constructor
      · intro h
        have := congrArg List.length h
        simp at this
      · intro h
        exact absurd ⟨hb0, by simp⟩ h
    · rw [vb_big (by omega)]
      have e1 : (x.toNat % 128 + 128 * val (p ++ [b])) % 128 + 128 = x.toNat := by omega
      have e2 : (x.toNat % 128 + 128 * val (p ++ [b])) / 128 = val (p ++ [b]) := by omega
      rw [e1, e2]
      simp only [UInt8.ofNat_toNat, List.cons.injEq, true_and]
      rw [ih']
      constructor
      · rintro h ⟨h1, _⟩
        apply h
        refine ⟨h1, ?_⟩
        rintro rfl
        apply hv
        simp [val, h1]
      · rintro h ⟨h1, _⟩
        exact h ⟨h1, by simp⟩

/-- reading on: p has been read, l is what is left -/
def rvFrom (p : List UInt8) : List UInt8 → Option (Nat × Nat)
  | [] => none
  | b :: r => if 5 ≤ p.length then none else if b.toNat < 128 then (if 1000000000 < val (p ++ [b]) ∨ (b = 0 ∧ p ≠ []) then none else some (val (p ++ [b]), p.length + 1)) else rvFrom (p ++ [b]) r

def rv (l : List UInt8) : Option (Nat × Nat) := rvFrom [] l

theorem rvFrom_full (p l : List UInt8) (h : 5 ≤ p.length) : rvFrom p l = none := by cases l <;> simp [rvFrom, h]
theorem rvFrom_on (p r : List UInt8) (b : UInt8) (h : p.length < 5) (hb : 128 ≤ b.toNat) : rvFrom p (b :: r) = rvFrom (p ++ [b]) r := by
  rw [rvFrom, if_neg (by omega), if_neg (by omega)]
theorem rvFrom_no (p r : List UInt8) (b : UInt8) (h : p.length < 5) (hb : b.toNat < 128) (hv : 1000000000 < val (p ++ [b]) ∨ (b = 0 ∧ p ≠ [])) : rvFrom p (b :: r) = none := by
  rw [rvFrom, if_neg (by omega), if_pos hb, if_pos hv]
theorem rvFrom_yes (p r : List UInt8) (b : UInt8) (h : p.length < 5) (hb : b.toNat < 128) (hv : ¬ (1000000000 < val (p ++ [b]) ∨ (b = 0 ∧ p ≠ []))) : rvFrom p (b :: r) = some (val (p ++ [b]), p.length + 1) := by
  rw [rvFrom, if_neg (by omega), if_pos hb, if_neg hv]

theorem rvFrom_some {p l : List UInt8} {n c : Nat} (h : rvFrom p l = some (n, c)) : n ≤ 1000000000 ∧ p.length < c ∧ c ≤ p.length + l.length := by
  induction l generalizing p with
  | nil => simp [rvFrom] at h
  | cons b r ih =>
    rw [rvFrom] at h
    split at h
    · cases h
    · split at h
      · split at h
        · cases h
        · simp only [Option.some.injEq, Prod.mk.injEq] at h
          obtain ⟨rfl, rfl⟩ := h
          simp only [List.length_cons]
          omega
      · have := ih h
        simp only [List.length_append, List.length_cons, List.length_nil] at this ⊢
        omega

/-- what both readers answer -/
def rvAns (a : Nat) : Option (Nat × Nat) → Value
  | none => .tuple #[.int .i64 0, .int .i64 0, .bool false]
  | some (n, c) => .tuple #[.int .i64 n, .int .i64 ((a + c : Nat) : Int), .bool true]

/-- the round's state: k bytes of the text from a on have been read, all of them go on -/
structure RvAt (s : ByteArray) (a k : Nat) (p : List UInt8) : Prop where
  lo : a ≤ k
  hi : k ≤ s.size
  five : k ≤ a + 5
  len : p.length = k - a
  on : ∀ x ∈ p, 128 ≤ x.toNat
  left : p = (s.data.toList.drop a).take (k - a)
  rv : rv (s.data.toList.drop a) = rvFrom p (s.data.toList.drop k)

theorem RvAt.start (s : ByteArray) (a : Nat) (h : a ≤ s.size) : RvAt s a a [] :=
  ⟨Nat.le_refl _, h, by omega, by simp, by simp, by simp, rfl⟩

theorem drop_cons (s : ByteArray) (k : Nat) (h : k < s.size) : s.data.toList.drop k = s[k] :: s.data.toList.drop (k + 1) := by
  rw [List.drop_eq_getElem_cons (by simpa using h)]; rfl

theorem RvAt.take {s : ByteArray} {a k : Nat} {p : List UInt8} (h : RvAt s a k p) (hk : k < s.size) : p ++ [s[k]] = (s.data.toList.drop a).take (k + 1 - a) := by
  have h1 := h.lo
  have e : k + 1 - a = (k - a) + 1 := by omega
  rw [e, List.take_succ_eq_append_getElem (by simp only [List.length_drop, Array.length_toList]; have : s.data.size = s.size := rfl; omega), ← h.left]
  congr 2
  simp only [List.getElem_drop, Array.getElem_toList, show a + (k - a) = k by omega]
  rfl

theorem RvAt.step {s : ByteArray} {a k : Nat} {p : List UInt8} (h : RvAt s a k p) (hk : k < s.size) (h5 : k < a + 5) (hb : 128 ≤ s[k].toNat) : RvAt s a (k + 1) (p ++ [s[k]]) := by
  have h1 := h.lo
  have h2 := h.len
  refine ⟨by omega, by omega, by omega, by simp; omega, ?_, h.take hk, ?_⟩
  · intro x hx
    rcases List.mem_append.1 hx with hx | hx
    · exact h.on x hx
    · simp at hx; subst hx; exact hb
  · rw [h.rv, drop_cons s k hk, rvFrom_on _ _ _ (by omega) hb]

theorem RvAt.none_end {s : ByteArray} {a k : Nat} {p : List UInt8} (h : RvAt s a k p) (he : s.size ≤ k ∨ a + 5 ≤ k) : Go.Proofs.YtdgohbhffjinmaaDoor.rv (s.data.toList.drop a) = none := by
  rw [h.rv]
  rcases he with he | he
  · have : s.data.toList.drop k = [] := List.drop_eq_nil_of_le (by simpa using he)
    rw [this]; rfl
  · exact rvFrom_full _ _ (by have := h.len; omega)

theorem RvAt.no {s : ByteArray} {a k : Nat} {p : List UInt8} (h : RvAt s a k p) (hk : k < s.size) (h5 : k < a + 5) (hb : s[k].toNat < 128) (hv : 1000000000 < val (p ++ [s[k]]) ∨ (s[k] = 0 ∧ a < k)) :
    Go.Proofs.YtdgohbhffjinmaaDoor.rv (s.data.toList.drop a) = none := by
  have h1 := h.lo
  have h2 := h.len
  rw [h.rv, drop_cons s k hk]
  refine rvFrom_no _ _ _ (by omega) hb ?_
  rcases hv with hv | ⟨hv, hk'⟩
  · exact Or.inl hv
  · exact Or.inr ⟨hv, by rintro rfl; simp at h2; omega⟩

theorem RvAt.yes {s : ByteArray} {a k : Nat} {p : List UInt8} (h : RvAt s a k p) (hk : k < s.size) (h5 : k < a + 5) (hb : s[k].toNat < 128) (hv : val (p ++ [s[k]]) ≤ 1000000000) (hz : ¬ (s[k] = 0 ∧ a < k)) :
    Go.Proofs.YtdgohbhffjinmaaDoor.rv (s.data.toList.drop a) = some (val (p ++ [s[k]]), k + 1 - a) := by
  have h1 := h.lo
  have h2 := h.len
  rw [h.rv, drop_cons s k hk, rvFrom_yes _ _ _ (by omega) hb, show k + 1 - a = p.length + 1 by omega]
  rintro (h | ⟨h, h'⟩)
  · omega
  · exact hz ⟨h, by rcases Nat.lt_or_ge a k with q | q; exact q; exact absurd (List.eq_nil_of_length_eq_zero (by omega)) h'⟩

/-- the bounds of a round -/
theorem RvAt.bounds {s : ByteArray} {a k : Nat} {p : List UInt8} (h : RvAt s a k p) (h5 : k < a + 5) (b : Nat) : val p < 268435456 ∧ 1 ≤ 128 ^ (k - a) ∧ 128 ^ (k - a) ≤ 268435456 ∧ b % 128 * 128 ^ (k - a) ≤ 34091302912 := by
  have h1 := h.lo
  have h2 : 128 ^ (k - a) ≤ 128 ^ 4 := Nat.pow_le_pow_right (by omega) (by omega)
  have h3 : 0 < 128 ^ (k - a) := Nat.pow_pos (by omega)
  have h4 := val_lt p
  rw [h.len] at h4
  have h6 : b % 128 * 128 ^ (k - a) ≤ 127 * 128 ^ 4 := Nat.mul_le_mul (by omega) h2
  simp only [show (128 : Nat) ^ 4 = 268435456 from rfl] at h2 h6
  omega

theorem RvAt.val_step {s : ByteArray} {a k W : Nat} {p : List UInt8} (h : RvAt s a k p) (hW : W = 128 ^ (k - a)) (b : UInt8) : ((val (p ++ [b]) : Nat) : Int) = (val p : Int) + (b.toNat : Int) % 128 * (W : Int) := by
  rw [val_snoc, h.len, ← hW]
  simp

theorem RvAt.W_step {s : ByteArray} {a k W : Nat} {p : List UInt8} (h : RvAt s a k p) (hW : W = 128 ^ (k - a)) : W * 128 = 128 ^ (k + 1 - a) := by
  have := h.lo
  rw [hW, show k + 1 - a = (k - a) + 1 by omega, Nat.pow_succ]

theorem RvAt.same {s : ByteArray} {a k : Nat} {p : List UInt8} (h : RvAt s a k p) (hk : k < s.size) (hb : s[k].toNat < 128) : (vb (val (p ++ [s[k]])) = (s.extract a (k + 1)).toList) ↔ ¬ (s[k] = 0 ∧ a < k) := by
  rw [ByteArray.toList_eq, extract_eq, ← h.take hk, vb_val _ _ h.on hb]
  have h1 := h.lo
  have h2 := h.len
  constructor
  · rintro h3 ⟨h4, h5⟩
    exact h3 ⟨h4, by rintro rfl; simp at h2; omega⟩
  · rintro h3 ⟨h4, h5⟩
    exact h3 ⟨h4, by rcases Nat.lt_or_ge a k with q | q; exact q; exact absurd (List.eq_nil_of_length_eq_zero (by omega)) h5⟩
theorem RvAt.differs {s : ByteArray} {a k : Nat} {p : List UInt8} (h : RvAt s a k p) (hk : k < s.size) (hb : s[k].toNat < 128) (hn : (!vb (val (p ++ [s[k]])) == (s.extract a (k + 1)).toList) = true) : s[k] = 0 ∧ a < k := by
  simp only [Bool.not_eq_true', beq_eq_false_iff_ne, ne_eq] at hn
  exact Decidable.byContradiction fun h3 => hn ((h.same hk hb).2 h3)
theorem RvAt.meets {s : ByteArray} {a k : Nat} {p : List UInt8} (h : RvAt s a k p) (hk : k < s.size) (hb : s[k].toNat < 128) (hn : (!vb (val (p ++ [s[k]])) == (s.extract a (k + 1)).toList) = false) : ¬ (s[k] = 0 ∧ a < k) := by
  simp only [Bool.not_eq_false', beq_iff_eq] at hn
  exact (h.same hk hb).1 hn

theorem rvAns_none {a : Nat} {o : Option (Nat × Nat)} (h : o = none) : Ending.returned (.tuple #[.int .i64 0, .int .i64 0, .bool false]) = .returned (rvAns a o) := by subst h; rfl
theorem rvAns_some {a k n : Nat} {x y : Int} {o : Option (Nat × Nat)} (h : o = some (n, k + 1 - a)) (hk : a ≤ k) (hx : (n : Int) = x) (hy : (k : Int) + 1 = y) : Ending.returned (.tuple #[.int .i64 x, .int .i64 y, .bool true]) = .returned (rvAns a o) := by
  subst h hx hy
  simp only [rvAns]
  rw [show ((a + (k + 1 - a) : Nat) : Int) = (k : Int) + 1 by omega]
theorem zero_of_toNat {b : UInt8} (h : (b.toNat : Int) ≤ 0) : b = 0 := by
  apply UInt8.toNat_inj.1
  simp
  omega
theorem not_zero {b : UInt8} (h : ¬ (b.toNat : Int) ≤ 0) : b ≠ 0 := by
  rintro rfl
  simp at h
end Go.Proofs.YtdgohbhffjinmaaDoor
