/-
  Plain facts on frames (a length, a sum and a text) and on the frames that a text begins with; nothing of the program stands here.
-/
import Derived.Test.YtfkknmhokiacaaaDoorPlainRead
import Derived.Test.YtfkknmhokiacaaaDoorPlainCrc
namespace Go.Proofs.YtfkknmhokiacaaaDoor
open Go.RowKit

/-- a fact under its own name, out of the walk's sight -/
theorem hid0 {p : Prop} (h : p) : Hid p := h

/-- the frame of a text -/
def frm (t : ByteArray) : ByteArray := ⟨(vb t.size).toArray⟩ ++ ⟨(four (sumOf t.data.toList)).toArray⟩ ++ t

theorem frm_list (t : ByteArray) : (frm t).data.toList = vb t.size ++ four (sumOf t.data.toList) ++ t.data.toList := by
  simp [frm, ByteArray.data_append]

/-- the frame that a text has at a place: where its record begins and where it ends -/
def rf (s : ByteArray) (a : Nat) : Option (Nat × Nat) :=
  match rv (s.data.toList.drop a) with
  | none => none
  | some (n, c) => if a + c + 4 + n ≤ s.size ∧ 1 ≤ n ∧ n ≤ 9000 ∧ frm (s.extract (a + c + 4) (a + c + 4 + n)) = s.extract a (a + c + 4 + n) then some (a + c + 4, a + c + 4 + n) else none

theorem rf_no {s : ByteArray} {a : Nat} (h : rv (s.data.toList.drop a) = none) : rf s a = none := by simp [rf, h]
theorem rf_not {s : ByteArray} {a n c : Nat} (h : rv (s.data.toList.drop a) = some (n, c)) (h2 : ¬ (a + c + 4 + n ≤ s.size ∧ 1 ≤ n ∧ n ≤ 9000 ∧ frm (s.extract (a + c + 4) (a + c + 4 + n)) = s.extract a (a + c + 4 + n))) : rf s a = none := by simp only [rf, h]; rw [if_neg h2]
theorem rf_yes {s : ByteArray} {a n c : Nat} (h : rv (s.data.toList.drop a) = some (n, c)) (h1 : a + c + 4 + n ≤ s.size) (h2 : 1 ≤ n) (h3 : n ≤ 9000) (h4 : frm (s.extract (a + c + 4) (a + c + 4 + n)) = s.extract a (a + c + 4 + n)) : rf s a = some (a + c + 4, a + c + 4 + n) := by simp only [rf, h]; rw [if_pos ⟨h1, h2, h3, h4⟩]

theorem rf_bd {s : ByteArray} {a st en : Nat} (h : rf s a = some (st, en)) : a < st ∧ st < en ∧ en ≤ s.size := by
  cases hr : rv (s.data.toList.drop a) with
  | none => rw [rf_no hr] at h; cases h
  | some p =>
    obtain ⟨n, c⟩ := p
    by_cases h2 : a + c + 4 + n ≤ s.size ∧ 1 ≤ n ∧ n ≤ 9000 ∧ frm (s.extract (a + c + 4) (a + c + 4 + n)) = s.extract a (a + c + 4 + n)
    · obtain ⟨h3, h4, h5, h6⟩ := h2
      rw [rf_yes hr h3 h4 h5 h6] at h
      simp only [Option.some.injEq, Prod.mk.injEq] at h
      omega
    · rw [rf_not hr h2] at h; cases h

/-- the frames from a place on, up to the first that is torn (so many at the most) -/
def ufsF (s : ByteArray) : Nat → Nat → List (Nat × Nat)
  | 0, _ => []
  | f + 1, a => match rf s a with
    | none => []
    | some p => p :: ufsF s f p.2
/-- the frames from a place on, up to the first that is torn -/
def ufs (s : ByteArray) (a : Nat) : List (Nat × Nat) := ufsF s (s.size - a + 1) a

theorem ufsF_eq {s : ByteArray} : ∀ (f g a : Nat), s.size - a < f → s.size - a < g → ufsF s f a = ufsF s g a
  | 0, _, _, h, _ => by omega
  | _ + 1, 0, _, _, h => by omega
  | f + 1, g + 1, a, h1, h2 => by
    rw [ufsF, ufsF]
    cases hr : rf s a with
    | none => rfl
    | some p =>
      have hb := rf_bd (st := p.1) (en := p.2) hr
      show p :: ufsF s f p.2 = p :: ufsF s g p.2
      rw [ufsF_eq f g p.2 (by omega) (by omega)]
theorem ufs_none {s : ByteArray} {a : Nat} (h : rf s a = none) : ufs s a = [] := by rw [ufs, ufsF, h]
theorem ufs_some {s : ByteArray} {a st en : Nat} (h : rf s a = some (st, en)) : ufs s a = (st, en) :: ufs s en := by
  have hb := rf_bd h
  rw [ufs, ufsF, h]
  show (st, en) :: ufsF s (s.size - a) en = (st, en) :: ufsF s (s.size - en + 1) en
  rw [ufsF_eq (s.size - a) (s.size - en + 1) en (by omega) (by omega)]

/-- behind the last frame -/
def endOf (l : List (Nat × Nat)) : Nat := match l.getLast? with | none => 0 | some p => p.2
theorem endOf_snoc (l : List (Nat × Nat)) (p : Nat × Nat) : endOf (l ++ [p]) = p.2 := by simp [endOf]

/-- the records of frames -/
def recs (s : ByteArray) (l : List (Nat × Nat)) : List ByteArray := l.map fun p => s.extract p.1 p.2
theorem recs_snoc (s : ByteArray) (l : List (Nat × Nat)) (p : Nat × Nat) : recs s (l ++ [p]) = recs s l ++ [s.extract p.1 p.2] := by simp [recs]
theorem recs_length (s : ByteArray) (l : List (Nat × Nat)) : (recs s l).length = l.length := by simp [recs]

/-- reading goes on: pre have come, the next begins at a -/
structure UfAt (s : ByteArray) (a : Nat) (pre : List (Nat × Nat)) : Prop where
  all : ufs s 0 = pre ++ ufs s a
  at_ : a = endOf pre
  hi : a ≤ s.size
  len : pre.length ≤ a

theorem UfAt.start (s : ByteArray) : UfAt s 0 [] := ⟨rfl, rfl, Nat.zero_le _, Nat.le_refl _⟩
theorem UfAt.step {s : ByteArray} {a st en : Nat} {pre : List (Nat × Nat)} (h : UfAt s a pre) (hr : rf s a = some (st, en)) : UfAt s en (pre ++ [(st, en)]) := by
  have hb := rf_bd hr
  have hl := h.len
  refine ⟨by rw [h.all, ufs_some hr]; simp, by rw [endOf_snoc], hb.2.2, by simp; omega⟩
theorem UfAt.stop {s : ByteArray} {a : Nat} {pre : List (Nat × Nat)} (h : UfAt s a pre) (hr : rf s a = none) : ufs s 0 = pre := by
  rw [h.all, ufs_none hr]; simp
theorem UfAt.full {s : ByteArray} {a : Nat} {pre : List (Nat × Nat)} (h : UfAt s a pre) (ha : s.size ≤ a) : ufs s 0 = pre := by
  refine h.stop (rf_no ?_)
  have : s.data.toList.drop a = [] := List.drop_eq_nil_of_le (by simpa using ha)
  rw [this]; rfl

/-- what is read of a whole file -/
def ufT (s : ByteArray) : List ByteArray := if 20000 < s.size then [] else recs s (ufs s 0)
def ufE (s : ByteArray) : Nat := if 20000 < s.size then 0 else endOf (ufs s 0)

/-- what both readers of one frame answer -/
def rfAns (s : ByteArray) : Option (Nat × Nat) → Value
  | none => .tuple #[.string ByteArray.empty, .int .i64 0, .bool false]
  | some (st, en) => .tuple #[.string (s.extract st en), .int .i64 en, .bool true]
theorem ufs_len (s : ByteArray) : ∀ a, (ufs s a).length ≤ s.size - a := by
  intro a
  induction hm : s.size - a using Nat.strongRecOn generalizing a with
  | _ m ih =>
    cases hr : rf s a with
    | none => rw [ufs_none hr]; simp
    | some p =>
      obtain ⟨st, en⟩ := p
      have hb := rf_bd hr
      rw [ufs_some hr]
      have := ih (s.size - en) (by omega) en rfl
      simp only [List.length_cons]
      omega
theorem ufT_len (s : ByteArray) : (ufT s).length ≤ 20000 := by
  unfold ufT
  split
  · simp
  · rw [recs_length]; have := ufs_len s 0; omega
end Go.Proofs.YtfkknmhokiacaaaDoor
