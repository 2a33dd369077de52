/-
  A journal, told by one more record; nothing of the program stands here.
  What is read of a journal's text; nothing of the program stands here.
  A journal told by the records of a text, one after the other; nothing of the program stands here.
-/
import Derived.Test.YtjkgjnpifdafaabDoorJoint1
import Derived.Test.YtjkgjnpifdafaabDoorJoint9
namespace Go.Proofs.YtjkgjnpifdafaabDoor

/-- a journal as data -/
structure JouD where
  n : Int
  tm : Int
  vt : Int
  s : Int
  t : Int
  l : List EntD
/-- what one more record tells; none: it is none -/
def tellMore (j : JouD) (r : ByteArray) : Option JouD := match readTwo 72 r with
  | some (a, b) => if (within a 0 100000 && within b 0 4) = true then some { j with tm := a, vt := b } else none
  | none => match readEntry r with
    | none => none
    | some (i, e) => if (putAns j.s j.t j.l i e).2 = true then some { j with s := (putAns j.s j.t j.l i e).1.1, t := (putAns j.s j.t j.l i e).1.2.1, l := (putAns j.s j.t j.l i e).1.2.2 } else none
theorem tell_head {j : JouD} {r : ByteArray} {a b : Nat} (h : readTwo 72 r = some (a, b)) (h2 : (within a 0 100000 && within b 0 4) = true) : tellMore j r = some { j with tm := a, vt := b } := by
  rw [tellMore, h]; simp only [h2, if_true]
theorem tell_bad {j : JouD} {r : ByteArray} {a b : Nat} (h : readTwo 72 r = some (a, b)) (h2 : (within a 0 100000 && within b 0 4) = false) : tellMore j r = none := by
  rw [tellMore, h]; simp only [h2, Bool.false_eq_true, if_false]
theorem tell_no {j : JouD} {r : ByteArray} (h : readTwo 72 r = none) (h2 : readEntry r = none) : tellMore j r = none := by
  rw [tellMore, h]; simp only [h2]
theorem tell_put {j : JouD} {r : ByteArray} {i : Nat} {e : EntD} (h : readTwo 72 r = none) (h2 : readEntry r = some (i, e)) : tellMore j r = if (putAns j.s j.t j.l i e).2 = true then some { j with s := (putAns j.s j.t j.l i e).1.1, t := (putAns j.s j.t j.l i e).1.2.1, l := (putAns j.s j.t j.l i e).1.2.2 } else none := by
  rw [tellMore, h]; simp only [h2]
/-- a record that begins with another letter is no entry -/
theorem two_entry {c : UInt8} {r : ByteArray} {a b : Nat} (hc : c ≠ 69) (h : readTwo c r = some (a, b)) : readEntry r = none := by
  rcases Nat.eq_zero_or_pos r.size with h0 | h0
  · exact readE_empty h0
  · by_cases h1 : r[0] = c
    · exact readE_head h0 (by rw [h1]; exact hc)
    · rw [readTwo_head h0 h1] at h; cases h
theorem readE_len {l : List UInt8} {i : Nat} {d : EntD} (h : readE l = some (i, d)) : d.data.size ≤ l.length := by
  unfold readE at h
  repeat' split at h
  all_goals first
    | contradiction
    | (rename_i hk _
       have hn := congrArg List.length hk
       simp only [List.length_drop, List.length_cons] at hn
       simp only [Option.some.injEq, Prod.mk.injEq] at h
       rw [← h.2]
       simp only [ByteArray.size, List.size_toArray, List.length_cons]
       omega)
theorem readE_small {s : ByteArray} {i : Nat} {d : EntD} (h : readEntry s = some (i, d)) (hs : s.size ≤ 1048576) : d.data.size ≤ 1048576 := by
  have h1 := readE_len h
  have h2 : s.data.toList.length = s.size := Array.length_toList
  omega
end Go.Proofs.YtjkgjnpifdafaabDoor

namespace Go.Proofs.YtjkgjnpifdafaabDoor

/-- a journal, told by the records that follow, as far as they tell; and where that ends -/
def tellAll (j : JouD) (e : Nat) : List ByteArray → JouD × Nat
  | [] => (j, e)
  | r :: rs => match tellMore j r with
    | none => (j, e)
    | some k => tellAll k (e + (frm r).size) rs
def readJ (n : Int) (s : ByteArray) : Option (JouD × Nat) :=
  if within n 0 999 = true then match ufT s with
    | [] => none
    | r :: rs => match readTwo 66 r with
      | none => none
      | some (a, b) => if logOk a b [] = true then some (tellAll ⟨n, 0, 0, a, b, []⟩ (frm r).size rs) else none
  else none
theorem readJ_n {n : Int} {s : ByteArray} (h : within n 0 999 = false) : readJ n s = none := by rw [readJ, h]; rfl
theorem readJ_nil {n : Int} {s : ByteArray} (h : ufT s = []) : readJ n s = none := by rw [readJ, h]; split <;> rfl
theorem readJ_two {n : Int} {s r : ByteArray} {rs : List ByteArray} (h : ufT s = r :: rs) (h2 : readTwo 66 r = none) : readJ n s = none := by
  rw [readJ, h]; simp only [h2]; split <;> rfl
theorem readJ_log {n : Int} {s r : ByteArray} {rs : List ByteArray} {a b : Nat} (h : ufT s = r :: rs) (h2 : readTwo 66 r = some (a, b)) (h3 : logOk a b [] = false) : readJ n s = none := by
  rw [readJ, h]; simp only [h2, h3]; split <;> rfl
theorem readJ_yes {n : Int} {s r : ByteArray} {rs : List ByteArray} {a b : Nat} (h0 : within n 0 999 = true) (h : ufT s = r :: rs) (h2 : readTwo 66 r = some (a, b)) (h3 : logOk a b [] = true) : readJ n s = some (tellAll ⟨n, 0, 0, a, b, []⟩ (frm r).size rs) := by
  rw [readJ, h]; simp only [h2, h3, h0, if_true]
theorem tellAll_no {j : JouD} {e : Nat} {r : ByteArray} {rs : List ByteArray} (h : tellMore j r = none) : tellAll j e (r :: rs) = (j, e) := by rw [tellAll, h]
theorem tellAll_more {j k : JouD} {e : Nat} {r : ByteArray} {rs : List ByteArray} (h : tellMore j r = some k) : tellAll j e (r :: rs) = tellAll k (e + (frm r).size) rs := by rw [tellAll, h]

theorem rf_size {s : ByteArray} {a st en : Nat} (h : rf s a = some (st, en)) : st + 1 ≤ en ∧ en ≤ st + 9000 := by
  unfold rf at h
  repeat' split at h
  all_goals first
    | contradiction
    | (simp only [Option.some.injEq, Prod.mk.injEq] at h; omega)
theorem ufsF_size {s : ByteArray} : ∀ (f a : Nat), ∀ p ∈ ufsF s f a, p.1 + 1 ≤ p.2 ∧ p.2 ≤ p.1 + 9000 ∧ p.2 ≤ s.size
  | 0, _, p, h => by simp [ufsF] at h
  | f + 1, a, p, h => by
    rw [ufsF] at h
    cases hr : rf s a with
    | none => rw [hr] at h; simp at h
    | some q =>
      obtain ⟨st, en⟩ := q
      rw [hr] at h
      rcases List.mem_cons.1 h with rfl | h
      · have h1 := rf_size hr
        have h2 := rf_bd hr
        exact ⟨h1.1, h1.2, h2.2.2⟩
      · exact ufsF_size f en p h
/-- a record's size -/
theorem ufT_size {s r : ByteArray} (h : r ∈ ufT s) : 1 ≤ r.size ∧ r.size ≤ 9000 := by
  unfold ufT at h
  split at h
  · simp at h
  · simp only [recs, List.mem_map] at h
    obtain ⟨p, hp, rfl⟩ := h
    have := ufsF_size _ _ p hp
    rw [ByteArray.size_extract]
    omega
/-- a journal grows by one entry at most, a small one -/
theorem tell_grows {j k : JouD} {r : ByteArray} (hr : r.size ≤ 1048576) (hs : ∀ f ∈ j.l, f.data.size ≤ 1048576) (h : tellMore j r = some k) : k.l.length ≤ j.l.length + 1 ∧ ∀ f ∈ k.l, f.data.size ≤ 1048576 := by
  cases h2 : readTwo 72 r with
  | some p =>
    obtain ⟨a, b⟩ := p
    by_cases h3 : (within a 0 100000 && within b 0 4) = true
    · rw [tell_head h2 h3] at h
      cases h
      exact ⟨by simp, hs⟩
    · rw [tell_bad h2 (by simpa using h3)] at h; cases h
  | none =>
    cases h3 : readEntry r with
    | none => rw [tell_no h2 h3] at h; cases h
    | some p =>
      obtain ⟨i, e⟩ := p
      have he := readE_small h3 hr
      rw [tell_put h2 h3] at h
      split at h
      · rename_i hq
        cases h
        unfold putAns at hq ⊢
        split at hq
        · rename_i hc
          simp only [hc, and_self, if_true]
          refine ⟨by simp; omega, fun f hf => ?_⟩
          rcases List.mem_append.1 hf with hf | hf
          · exact hs f (List.mem_of_mem_take hf)
          · simp at hf; subst hf; exact he
        · simp at hq
      · cases h
end Go.Proofs.YtjkgjnpifdafaabDoor

namespace Go.Proofs.YtjkgjnpifdafaabDoor

/-- what the first record tells -/
def tellFirst (j : JouD) (r : ByteArray) : Option JouD := match readTwo 66 r with
  | none => none
  | some (a, b) => if logOk a b [] = true then some ⟨j.n, j.tm, j.vt, a, b, []⟩ else none
/-- what a record tells, the first one or another -/
def tellOne (b : Bool) (j : JouD) (r : ByteArray) : Option JouD := if b = true then tellFirst j r else tellMore j r

theorem tellFirst_parts {j k : JouD} {r : ByteArray} (h : tellFirst j r = some k) : ∃ a b : Nat, readTwo 66 r = some (a, b) ∧ logOk a b [] = true ∧ k = ⟨j.n, j.tm, j.vt, a, b, []⟩ := by
  unfold tellFirst at h
  cases h2 : readTwo 66 r with
  | none => rw [h2] at h; cases h
  | some p =>
    obtain ⟨a, b⟩ := p
    rw [h2] at h
    by_cases h3 : logOk a b [] = true
    · simp only [h3, if_true, Option.some.injEq] at h
      exact ⟨a, b, rfl, h3, h.symm⟩
    · simp only [h3] at h; cases h
theorem rf_frm {s : ByteArray} {a st en : Nat} (h : rf s a = some (st, en)) : a + (frm (s.extract st en)).size = en ∧ a < en := by
  have hb := rf_bd h
  cases hr : rv (s.data.toList.drop a) with
  | none => rw [rf_no hr] at h; cases h
  | some p =>
    obtain ⟨n, c⟩ := p
    by_cases h2 : a + c + 4 + n ≤ s.size ∧ 1 ≤ n ∧ n ≤ 9000 ∧ frm (s.extract (a + c + 4) (a + c + 4 + n)) = s.extract a (a + c + 4 + n)
    · obtain ⟨h3, h4, h5, h6⟩ := h2
      rw [rf_yes hr h3 h4 h5 h6] at h
      simp only [Option.some.injEq, Prod.mk.injEq] at h
      obtain ⟨rfl, rfl⟩ := h
      rw [h6, ByteArray.size_extract]
      omega
    · rw [rf_not hr h2] at h; cases h
theorem ufs_next {s : ByteArray} : ∀ (pre : List (Nat × Nat)) (a : Nat) (x : Nat × Nat) (rest : List (Nat × Nat)), ufs s a = pre ++ x :: rest → rf s (match pre.getLast? with | none => a | some p => p.2) = some x
  | [], a, x, rest, h => by
    cases hr : rf s a with
    | none => rw [ufs_none hr] at h; cases h
    | some p =>
      rw [ufs_some (st := p.1) (en := p.2) hr] at h
      simp only [List.nil_append, List.cons.injEq] at h
      show rf s a = some x
      rw [hr, ← h.1]
  | p :: ps, a, x, rest, h => by
    cases hr : rf s a with
    | none => rw [ufs_none hr] at h; cases h
    | some q =>
      rw [ufs_some (st := q.1) (en := q.2) hr] at h
      simp only [List.cons_append, List.cons.injEq] at h
      have h2 := ufs_next ps q.2 x rest h.2
      have h1 : q = p := h.1
      subst h1
      cases hl : ps.getLast? with
      | none =>
        have : ps = [] := by simpa using hl
        subst this
        simpa using h2
      | some z =>
        rw [hl] at h2
        have : (q :: ps).getLast? = some z := by rw [List.getLast?_cons, hl]; rfl
        rw [this]
        exact h2
theorem ufs_rf {s : ByteArray} {pre : List (Nat × Nat)} {x : Nat × Nat} {rest : List (Nat × Nat)} (h : ufs s 0 = pre ++ x :: rest) : rf s (endOf pre) = some x := by
  have := ufs_next pre 0 x rest h
  unfold endOf
  exact this
theorem end_pos {s : ByteArray} {pre rest : List (Nat × Nat)} (h : ufs s 0 = pre ++ rest) (h0 : pre ≠ []) : endOf pre ≠ 0 := by
  rcases List.eq_nil_or_concat pre with h1 | ⟨q, x, h1⟩
  · exact absurd h1 h0
  · rw [List.concat_eq_append] at h1
    subst h1
    rw [List.append_assoc] at h
    have h2 := (rf_frm (ufs_rf (rest := rest) h)).2
    rw [endOf_snoc]
    omega

/-- a journal that the first records of a text tell -/
def Tells (n : Int) (s : ByteArray) (pre : List (Nat × Nat)) (jd : JouD) : Prop := ∀ rest, ufs s 0 = pre ++ rest → (pre = [] ∧ jd = ⟨n, 0, 0, 0, 0, []⟩) ∨ (pre ≠ [] ∧ readJ n s = some (tellAll jd (endOf pre) (recs s rest)))
theorem tells_nil (n : Int) (s : ByteArray) : Tells n s [] ⟨n, 0, 0, 0, 0, []⟩ := fun _ _ => Or.inl ⟨rfl, rfl⟩
theorem tells_more {n : Int} {s : ByteArray} {pre : List (Nat × Nat)} {x : Nat × Nat} {jd k : JouD} (hn : within n 0 999 = true) (hs : s.size ≤ 20000) (h : Tells n s pre jd) (hm : tellOne (decide (endOf pre = 0)) jd (s.extract x.1 x.2) = some k) : Tells n s (pre ++ [x]) k := by
  intro rest he
  refine Or.inr ⟨by simp, ?_⟩
  have he : ufs s 0 = pre ++ x :: rest := by rw [he, List.append_assoc]; rfl
  have hx := rf_frm (ufs_rf he)
  rw [endOf_snoc]
  rcases h (x :: rest) he with ⟨rfl, rfl⟩ | ⟨h0, hr⟩
  · have hm : tellFirst _ _ = some k := hm
    obtain ⟨a, b, h2, h3, rfl⟩ := tellFirst_parts hm
    have hu : ufT s = s.extract x.1 x.2 :: recs s rest := by
      rw [ufT, if_neg (by omega), he]; rfl
    rw [readJ_yes hn hu h2 h3]
    have h1 : 0 + (frm (s.extract x.1 x.2)).size = x.2 := hx.1
    rw [Nat.zero_add] at h1
    rw [h1]
  · have hp := end_pos he h0
    have hm : tellMore jd (s.extract x.1 x.2) = some k := by
      unfold tellOne at hm
      rw [if_neg (by simpa using hp)] at hm
      exact hm
    rw [hr]
    show some (tellAll jd (endOf pre) (s.extract x.1 x.2 :: recs s rest)) = _
    rw [tellAll_more hm, hx.1]
/-- what is read, where the telling ended -/
def Read (n : Int) (s : ByteArray) (jd : JouD) (E : Nat) : Prop := (E = 0 ∧ readJ n s = none) ∨ (E ≠ 0 ∧ readJ n s = some (jd, E))
theorem tells_stop {n : Int} {s : ByteArray} {pre : List (Nat × Nat)} {x : Nat × Nat} {jd : JouD} (hs : s.size ≤ 20000) (h : Tells n s pre jd) (hm : tellOne (decide (endOf pre = 0)) jd (s.extract x.1 x.2) = none) (hp : pre ++ [x] <+: ufs s 0) : Read n s jd (endOf pre) := by
  obtain ⟨rest, he⟩ := hp
  have he : ufs s 0 = pre ++ x :: rest := by rw [← he, List.append_assoc]; rfl
  rcases h (x :: rest) he with ⟨rfl, rfl⟩ | ⟨h0, hr⟩
  · refine Or.inl ⟨rfl, ?_⟩
    have hm : tellFirst _ _ = none := hm
    have hu : ufT s = s.extract x.1 x.2 :: recs s rest := by
      rw [ufT, if_neg (by omega), he]; rfl
    cases h2 : readTwo 66 (s.extract x.1 x.2) with
    | none => exact readJ_two hu h2
    | some p =>
      obtain ⟨a, b⟩ := p
      refine readJ_log hu h2 ?_
      cases h3 : logOk a b [] with
      | false => rfl
      | true => unfold tellFirst at hm; rw [h2] at hm; simp only [h3, if_true] at hm; cases hm
  · have hp := end_pos he h0
    have hm : tellMore jd (s.extract x.1 x.2) = none := by
      unfold tellOne at hm
      rw [if_neg (by simpa using hp)] at hm
      exact hm
    refine Or.inr ⟨hp, ?_⟩
    rw [hr]
    show some (tellAll jd (endOf pre) (s.extract x.1 x.2 :: recs s rest)) = _
    rw [tellAll_no hm]
theorem tells_done {n : Int} {s : ByteArray} {jd : JouD} (hs : s.size ≤ 20000) (h : Tells n s (ufs s 0) jd) : Read n s jd (endOf (ufs s 0)) := by
  rcases h [] (by simp) with ⟨h0, rfl⟩ | ⟨h0, hr⟩
  · rw [h0]
    exact Or.inl ⟨rfl, readJ_nil (by rw [ufT, if_neg (by omega), h0]; rfl)⟩
  · exact Or.inr ⟨end_pos (s := s) (rest := []) (by simp) h0, by rw [hr]; rfl⟩

/-- a journal's bounds -/
def JouB (jd : JouD) (m : Nat) : Prop := (-9223372036854775808 ≤ jd.s ∧ jd.s ≤ 9223372036854775807) ∧ jd.l.length ≤ m ∧ ∀ f ∈ jd.l, f.data.size ≤ 1048576
theorem tell_start {j k : JouD} {r : ByteArray} (h : tellMore j r = some k) : k.s = j.s := by
  cases h2 : readTwo 72 r with
  | some p =>
    obtain ⟨a, b⟩ := p
    by_cases h3 : (within a 0 100000 && within b 0 4) = true
    · rw [tell_head h2 h3] at h; cases h; rfl
    · rw [tell_bad h2 (by simpa using h3)] at h; cases h
  | none =>
    cases h3 : readEntry r with
    | none => rw [tell_no h2 h3] at h; cases h
    | some p =>
      obtain ⟨i, e⟩ := p
      rw [tell_put h2 h3] at h
      split at h
      · rename_i hq
        cases h
        unfold putAns at hq ⊢
        split at hq
        · rename_i hc
          simp only [hc, and_self, if_true]
        · simp at hq
      · cases h
theorem bounds_more {jd k : JouD} {m : Nat} {b : Bool} {r : ByteArray} (hr : r.size ≤ 1048576) (h : JouB jd m) (hm : tellOne b jd r = some k) : JouB k (m + 1) := by
  unfold tellOne at hm
  split at hm
  · obtain ⟨a, c, _, h3, rfl⟩ := tellFirst_parts hm
    have h4 := logOk_iff.1 h3
    exact ⟨⟨by show _ ≤ (a : Int); omega, by show (a : Int) ≤ _; omega⟩, Nat.zero_le _, by intro f hf; simp at hf⟩
  · have h1 := tell_grows hr h.2.2 hm
    have h2 := tell_start hm
    exact ⟨by rw [h2]; exact h.1, Nat.le_trans h1.1 (Nat.succ_le_succ h.2.1), h1.2⟩
end Go.Proofs.YtjkgjnpifdafaabDoor
