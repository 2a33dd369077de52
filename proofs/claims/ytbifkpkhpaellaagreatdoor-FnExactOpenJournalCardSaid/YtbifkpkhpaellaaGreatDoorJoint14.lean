/-
  A journal, told by one more record; nothing of the program stands here.
  What is read of a journal's text; nothing of the program stands here.
  A journal told by the records of a text, one after the other; nothing of the program stands here.
  The walk of spec.l06Last: what it answers.
  The walk of spec.l01Var: what it answers.
  The walk of spec.ReadVar: what it answers.
-/
import Derived.Test.YtbifkpkhpaellaaGreatDoorJoint1
import Derived.Test.YtbifkpkhpaellaaGreatDoorJoint13
import Derived.Test.YtbifkpkhpaellaaGreatDoorRows
import Derived.WalkKit
import Derived.BigQuiet
import Derived.Lib.QuietBelow
import Derived.WalkSmall
namespace Go.Proofs.YtbifkpkhpaellaaGreatDoor

/-- a journal as data -/
structure JouD where
  n : Int
  tm : Int
  vt : Int
  s : Int
  t : Int
  l : List EntD
/-- what one more record tells; none: it is none -/
def tellMore (j : JouD) (r : ByteArray) : Option JouD := match readTwo 72 r with
  | some (a, b) => if (within a 0 100000 && within b 0 4) = true then some { j with tm := a, vt := b } else none
  | none => match readEntry r with
    | none => none
    | some (i, e) => if (putAns j.s j.t j.l i e).2 = true then some { j with s := (putAns j.s j.t j.l i e).1.1, t := (putAns j.s j.t j.l i e).1.2.1, l := (putAns j.s j.t j.l i e).1.2.2 } else none
theorem tell_head {j : JouD} {r : ByteArray} {a b : Nat} (h : readTwo 72 r = some (a, b)) (h2 : (within a 0 100000 && within b 0 4) = true) : tellMore j r = some { j with tm := a, vt := b } := by
  rw [tellMore, h]; simp only [h2, if_true]
theorem tell_bad {j : JouD} {r : ByteArray} {a b : Nat} (h : readTwo 72 r = some (a, b)) (h2 : (within a 0 100000 && within b 0 4) = false) : tellMore j r = none := by
  rw [tellMore, h]; simp only [h2, Bool.false_eq_true, if_false]
theorem tell_no {j : JouD} {r : ByteArray} (h : readTwo 72 r = none) (h2 : readEntry r = none) : tellMore j r = none := by
  rw [tellMore, h]; simp only [h2]
theorem tell_put {j : JouD} {r : ByteArray} {i : Nat} {e : EntD} (h : readTwo 72 r = none) (h2 : readEntry r = some (i, e)) : tellMore j r = if (putAns j.s j.t j.l i e).2 = true then some { j with s := (putAns j.s j.t j.l i e).1.1, t := (putAns j.s j.t j.l i e).1.2.1, l := (putAns j.s j.t j.l i e).1.2.2 } else none := by
  rw [tellMore, h]; simp only [h2]
/-- a record that begins with another letter is no entry -/
theorem two_entry {c : UInt8} {r : ByteArray} {a b : Nat} (hc : c ≠ 69) (h : readTwo c r = some (a, b)) : readEntry r = none := by
  rcases Nat.eq_zero_or_pos r.size with h0 | h0
  · exact readE_empty h0
  · by_cases h1 : r[0] = c
    · exact readE_head h0 (by rw [h1]; exact hc)
    · rw [readTwo_head h0 h1] at h; cases h
theorem readE_len {l : List UInt8} {i : Nat} {d : EntD} (h : readE l = some (i, d)) : d.data.size ≤ l.length := by
  unfold readE at h
  repeat' split at h
  all_goals first
    | contradiction
    | (rename_i hk _
       have hn := congrArg List.length hk
       simp only [List.length_drop, List.length_cons] at hn
       simp only [Option.some.injEq, Prod.mk.injEq] at h
       rw [← h.2]
       simp only [ByteArray.size, List.size_toArray, List.length_cons]
       omega)
theorem readE_small {s : ByteArray} {i : Nat} {d : EntD} (h : readEntry s = some (i, d)) (hs : s.size ≤ 1048576) : d.data.size ≤ 1048576 := by
  have h1 := readE_len h
  have h2 : s.data.toList.length = s.size := Array.length_toList
  omega
end Go.Proofs.YtbifkpkhpaellaaGreatDoor

namespace Go.Proofs.YtbifkpkhpaellaaGreatDoor

/-- a journal, told by the records that follow, as far as they tell; and where that ends -/
def tellAll (j : JouD) (e : Nat) : List ByteArray → JouD × Nat
  | [] => (j, e)
  | r :: rs => match tellMore j r with
    | none => (j, e)
    | some k => tellAll k (e + (frm r).size) rs
def readJ (n : Int) (s : ByteArray) : Option (JouD × Nat) :=
  if within n 0 999 = true then match ufT s with
    | [] => none
    | r :: rs => match readTwo 66 r with
      | none => none
      | some (a, b) => if logOk a b [] = true then some (tellAll ⟨n, 0, 0, a, b, []⟩ (frm r).size rs) else none
  else none
theorem readJ_n {n : Int} {s : ByteArray} (h : within n 0 999 = false) : readJ n s = none := by rw [readJ, h]; rfl
theorem readJ_nil {n : Int} {s : ByteArray} (h : ufT s = []) : readJ n s = none := by rw [readJ, h]; split <;> rfl
theorem readJ_two {n : Int} {s r : ByteArray} {rs : List ByteArray} (h : ufT s = r :: rs) (h2 : readTwo 66 r = none) : readJ n s = none := by
  rw [readJ, h]; simp only [h2]; split <;> rfl
theorem readJ_log {n : Int} {s r : ByteArray} {rs : List ByteArray} {a b : Nat} (h : ufT s = r :: rs) (h2 : readTwo 66 r = some (a, b)) (h3 : logOk a b [] = false) : readJ n s = none := by
  rw [readJ, h]; simp only [h2, h3]; split <;> rfl
theorem readJ_yes {n : Int} {s r : ByteArray} {rs : List ByteArray} {a b : Nat} (h0 : within n 0 999 = true) (h : ufT s = r :: rs) (h2 : readTwo 66 r = some (a, b)) (h3 : logOk a b [] = true) : readJ n s = some (tellAll ⟨n, 0, 0, a, b, []⟩ (frm r).size rs) := by
  rw [readJ, h]; simp only [h2, h3, h0, if_true]
theorem tellAll_no {j : JouD} {e : Nat} {r : ByteArray} {rs : List ByteArray} (h : tellMore j r = none) : tellAll j e (r :: rs) = (j, e) := by rw [tellAll, h]
theorem tellAll_more {j k : JouD} {e : Nat} {r : ByteArray} {rs : List ByteArray} (h : tellMore j r = some k) : tellAll j e (r :: rs) = tellAll k (e + (frm r).size) rs := by rw [tellAll, h]

theorem rf_size {s : ByteArray} {a st en : Nat} (h : rf s a = some (st, en)) : st + 1 ≤ en ∧ en ≤ st + 9000 := by
  unfold rf at h
  repeat' split at h
  all_goals first
    | contradiction
    | (simp only [Option.some.injEq, Prod.mk.injEq] at h; omega)
theorem ufsF_size {s : ByteArray} : ∀ (f a : Nat), ∀ p ∈ ufsF s f a, p.1 + 1 ≤ p.2 ∧ p.2 ≤ p.1 + 9000 ∧ p.2 ≤ s.size
  | 0, _, p, h => by simp [ufsF] at h
  | f + 1, a, p, h => by
    rw [ufsF] at h
    cases hr : rf s a with
    | none => rw [hr] at h; simp at h
    | some q =>
      obtain ⟨st, en⟩ := q
      rw [hr] at h
      rcases List.mem_cons.1 h with rfl | h
      · have h1 := rf_size hr
        have h2 := rf_bd hr
        exact ⟨h1.1, h1.2, h2.2.2⟩
      · exact ufsF_size f en p h
/-- a record's size -/
theorem ufT_size {s r : ByteArray} (h : r ∈ ufT s) : 1 ≤ r.size ∧ r.size ≤ 9000 := by
  unfold ufT at h
  split at h
  · simp at h
  · simp only [recs, List.mem_map] at h
    obtain ⟨p, hp, rfl⟩ := h
    have := ufsF_size _ _ p hp
    rw [ByteArray.size_extract]
    omega
/-- a journal grows by one entry at most, a small one -/
theorem tell_grows {j k : JouD} {r : ByteArray} (hr : r.size ≤ 1048576) (hs : ∀ f ∈ j.l, f.data.size ≤ 1048576) (h : tellMore j r = some k) : k.l.length ≤ j.l.length + 1 ∧ ∀ f ∈ k.l, f.data.size ≤ 1048576 := by
  cases h2 : readTwo 72 r with
  | some p =>
    obtain ⟨a, b⟩ := p
    by_cases h3 : (within a 0 100000 && within b 0 4) = true
    · rw [tell_head h2 h3] at h
      cases h
      exact ⟨by simp, hs⟩
    · rw [tell_bad h2 (by simpa using h3)] at h; cases h
  | none =>
    cases h3 : readEntry r with
    | none => rw [tell_no h2 h3] at h; cases h
    | some p =>
      obtain ⟨i, e⟩ := p
      have he := readE_small h3 hr
      rw [tell_put h2 h3] at h
      split at h
      · rename_i hq
        cases h
        unfold putAns at hq ⊢
        split at hq
        · rename_i hc
          simp only [hc, and_self, if_true]
          refine ⟨by simp; omega, fun f hf => ?_⟩
          rcases List.mem_append.1 hf with hf | hf
          · exact hs f (List.mem_of_mem_take hf)
          · simp at hf; subst hf; exact he
        · simp at hq
      · cases h
end Go.Proofs.YtbifkpkhpaellaaGreatDoor

namespace Go.Proofs.YtbifkpkhpaellaaGreatDoor

/-- what the first record tells -/
def tellFirst (j : JouD) (r : ByteArray) : Option JouD := match readTwo 66 r with
  | none => none
  | some (a, b) => if logOk a b [] = true then some ⟨j.n, j.tm, j.vt, a, b, []⟩ else none
/-- what a record tells, the first one or another -/
def tellOne (b : Bool) (j : JouD) (r : ByteArray) : Option JouD := if b = true then tellFirst j r else tellMore j r

theorem tellFirst_parts {j k : JouD} {r : ByteArray} (h : tellFirst j r = some k) : ∃ a b : Nat, readTwo 66 r = some (a, b) ∧ logOk a b [] = true ∧ k = ⟨j.n, j.tm, j.vt, a, b, []⟩ := by
  unfold tellFirst at h
  cases h2 : readTwo 66 r with
  | none => rw [h2] at h; cases h
  | some p =>
    obtain ⟨a, b⟩ := p
    rw [h2] at h
    by_cases h3 : logOk a b [] = true
    · simp only [h3, if_true, Option.some.injEq] at h
      exact ⟨a, b, rfl, h3, h.symm⟩
    · simp only [h3] at h; cases h
theorem rf_frm {s : ByteArray} {a st en : Nat} (h : rf s a = some (st, en)) : a + (frm (s.extract st en)).size = en ∧ a < en := by
  have hb := rf_bd h
  cases hr : rv (s.data.toList.drop a) with
  | none => rw [rf_no hr] at h; cases h
  | some p =>
    obtain ⟨n, c⟩ := p
    by_cases h2 : a + c + 4 + n ≤ s.size ∧ 1 ≤ n ∧ n ≤ 9000 ∧ frm (s.extract (a + c + 4) (a + c + 4 + n)) = s.extract a (a + c + 4 + n)
    · obtain ⟨h3, h4, h5, h6⟩ := h2
      rw [rf_yes hr h3 h4 h5 h6] at h
      simp only [Option.some.injEq, Prod.mk.injEq] at h
      obtain ⟨rfl, rfl⟩ := h
      rw [h6, ByteArray.size_extract]
      omega
    · rw [rf_not hr h2] at h; cases h
theorem ufs_next {s : ByteArray} : ∀ (pre : List (Nat × Nat)) (a : Nat) (x : Nat × Nat) (rest : List (Nat × Nat)), ufs s a = pre ++ x :: rest → rf s (match pre.getLast? with | none => a | some p => p.2) = some x
  | [], a, x, rest, h => by
    cases hr : rf s a with
    | none => rw [ufs_none hr] at h; cases h
    | some p =>
      rw [ufs_some (st := p.1) (en := p.2) hr] at h
      simp only [List.nil_append, List.cons.injEq] at h
      show rf s a = some x
      rw [hr, ← h.1]
  | p :: ps, a, x, rest, h => by
    cases hr : rf s a with
    | none => rw [ufs_none hr] at h; cases h
    | some q =>
      rw [ufs_some (st := q.1) (en := q.2) hr] at h
      simp only [List.cons_append, List.cons.injEq] at h
      have h2 := ufs_next ps q.2 x rest h.2
      have h1 : q = p := h.1
      subst h1
      cases hl : ps.getLast? with
      | none =>
        have : ps = [] := by simpa using hl
        subst this
        simpa using h2
      | some z =>
        rw [hl] at h2
        have : (q :: ps).getLast? = some z := by rw [List.getLast?_cons, hl]; rfl
        rw [this]
        exact h2
theorem ufs_rf {s : ByteArray} {pre : List (Nat × Nat)} {x : Nat × Nat} {rest : List (Nat × Nat)} (h : ufs s 0 = pre ++ x :: rest) : rf s (endOf pre) = some x := by
  have := ufs_next pre 0 x rest h
  unfold endOf
  exact this
theorem end_pos {s : ByteArray} {pre rest : List (Nat × Nat)} (h : ufs s 0 = pre ++ rest) (h0 : pre ≠ []) : endOf pre ≠ 0 := by
  rcases List.eq_nil_or_concat pre with h1 | ⟨q, x, h1⟩
  · exact absurd h1 h0
  · rw [List.concat_eq_append] at h1
    subst h1
    rw [List.append_assoc] at h
    have h2 := (rf_frm (ufs_rf (rest := rest) h)).2
    rw [endOf_snoc]
    omega

/-- a journal that the first records of a text tell -/
def Tells (n : Int) (s : ByteArray) (pre : List (Nat × Nat)) (jd : JouD) : Prop := ∀ rest, ufs s 0 = pre ++ rest → (pre = [] ∧ jd = ⟨n, 0, 0, 0, 0, []⟩) ∨ (pre ≠ [] ∧ readJ n s = some (tellAll jd (endOf pre) (recs s rest)))
theorem tells_nil (n : Int) (s : ByteArray) : Tells n s [] ⟨n, 0, 0, 0, 0, []⟩ := fun _ _ => Or.inl ⟨rfl, rfl⟩
theorem tells_more {n : Int} {s : ByteArray} {pre : List (Nat × Nat)} {x : Nat × Nat} {jd k : JouD} (hn : within n 0 999 = true) (hs : s.size ≤ 20000) (h : Tells n s pre jd) (hm : tellOne (decide (endOf pre = 0)) jd (s.extract x.1 x.2) = some k) : Tells n s (pre ++ [x]) k := by
  intro rest he
  refine Or.inr ⟨by simp, ?_⟩
  have he : ufs s 0 = pre ++ x :: rest := by rw [he, List.append_assoc]; rfl
  have hx := rf_frm (ufs_rf he)
  rw [endOf_snoc]
  rcases h (x :: rest) he with ⟨rfl, rfl⟩ | ⟨h0, hr⟩
  · have hm : tellFirst _ _ = some k := hm
    obtain ⟨a, b, h2, h3, rfl⟩ := tellFirst_parts hm
    have hu : ufT s = s.extract x.1 x.2 :: recs s rest := by
      rw [ufT, if_neg (by omega), he]; rfl
    rw [readJ_yes hn hu h2 h3]
    have h1 : 0 + (frm (s.extract x.1 x.2)).size = x.2 := hx.1
    rw [Nat.zero_add] at h1
    rw [h1]
  · have hp := end_pos he h0
    have hm : tellMore jd (s.extract x.1 x.2) = some k := by
      unfold tellOne at hm
      rw [if_neg (by simpa using hp)] at hm
      exact hm
    rw [hr]
    show some (tellAll jd (endOf pre) (s.extract x.1 x.2 :: recs s rest)) = _
    rw [tellAll_more hm, hx.1]
/-- what is read, where the telling ended -/
def Read (n : Int) (s : ByteArray) (jd : JouD) (E : Nat) : Prop := (E = 0 ∧ readJ n s = none) ∨ (E ≠ 0 ∧ readJ n s = some (jd, E))
theorem tells_stop {n : Int} {s : ByteArray} {pre : List (Nat × Nat)} {x : Nat × Nat} {jd : JouD} (hs : s.size ≤ 20000) (h : Tells n s pre jd) (hm : tellOne (decide (endOf pre = 0)) jd (s.extract x.1 x.2) = none) (hp : pre ++ [x] <+: ufs s 0) : Read n s jd (endOf pre) := by
  obtain ⟨rest, he⟩ := hp
  have he : ufs s 0 = pre ++ x :: rest := by rw [← he, List.append_assoc]; rfl
  rcases h (x :: rest) he with ⟨rfl, rfl⟩ | ⟨h0, hr⟩
  · refine Or.inl ⟨rfl, ?_⟩
    have hm : tellFirst _ _ = none := hm
    have hu : ufT s = s.extract x.1 x.2 :: recs s rest := by
      rw [ufT, if_neg (by omega), he]; rfl
    cases h2 : readTwo 66 (s.extract x.1 x.2) with
    | none => exact readJ_two hu h2
    | some p =>
      obtain ⟨a, b⟩ := p
      refine readJ_log hu h2 ?_
      cases h3 : logOk a b [] with
      | false => rfl
      | true => unfold tellFirst at hm; rw [h2] at hm; simp only [h3, if_true] at hm; cases hm
  · have hp := end_pos he h0
    have hm : tellMore jd (s.extract x.1 x.2) = none := by
      unfold tellOne at hm
      rw [if_neg (by simpa using hp)] at hm
      exact hm
    refine Or.inr ⟨hp, ?_⟩
    rw [hr]
    show some (tellAll jd (endOf pre) (s.extract x.1 x.2 :: recs s rest)) = _
    rw [tellAll_no hm]
theorem tells_done {n : Int} {s : ByteArray} {jd : JouD} (hs : s.size ≤ 20000) (h : Tells n s (ufs s 0) jd) : Read n s jd (endOf (ufs s 0)) := by
  rcases h [] (by simp) with ⟨h0, rfl⟩ | ⟨h0, hr⟩
  · rw [h0]
    exact Or.inl ⟨rfl, readJ_nil (by rw [ufT, if_neg (by omega), h0]; rfl)⟩
  · exact Or.inr ⟨end_pos (s := s) (rest := []) (by simp) h0, by rw [hr]; rfl⟩

/-- a journal's bounds -/
def JouB (jd : JouD) (m : Nat) : Prop := (-9223372036854775808 ≤ jd.s ∧ jd.s ≤ 9223372036854775807) ∧ jd.l.length ≤ m ∧ ∀ f ∈ jd.l, f.data.size ≤ 1048576
theorem tell_start {j k : JouD} {r : ByteArray} (h : tellMore j r = some k) : k.s = j.s := by
  cases h2 : readTwo 72 r with
  | some p =>
    obtain ⟨a, b⟩ := p
    by_cases h3 : (within a 0 100000 && within b 0 4) = true
    · rw [tell_head h2 h3] at h; cases h; rfl
    · rw [tell_bad h2 (by simpa using h3)] at h; cases h
  | none =>
    cases h3 : readEntry r with
    | none => rw [tell_no h2 h3] at h; cases h
    | some p =>
      obtain ⟨i, e⟩ := p
      rw [tell_put h2 h3] at h
      split at h
      · rename_i hq
        cases h
        unfold putAns at hq ⊢
        split at hq
        · rename_i hc
          simp only [hc, and_self, if_true]
        · simp at hq
      · cases h
theorem bounds_more {jd k : JouD} {m : Nat} {b : Bool} {r : ByteArray} (hr : r.size ≤ 1048576) (h : JouB jd m) (hm : tellOne b jd r = some k) : JouB k (m + 1) := by
  unfold tellOne at hm
  split at hm
  · obtain ⟨a, c, _, h3, rfl⟩ := tellFirst_parts hm
    have h4 := logOk_iff.1 h3
    exact ⟨⟨by show _ ≤ (a : Int); omega, by show (a : Int) ≤ _; omega⟩, Nat.zero_le _, by intro f hf; simp at hf⟩
  · have h1 := tell_grows hr h.2.2 hm
    have h2 := tell_start hm
    exact ⟨by rw [h2]; exact h.1, Nat.le_trans h1.1 (Nat.succ_le_succ h.2.1), h1.2⟩
end Go.Proofs.YtbifkpkhpaellaaGreatDoor

namespace Go.Proofs.YtbifkpkhpaellaaGreatDoor
open Go.RowKit

set_option maxRecDepth 1000000 in
theorem l06Last_any (s t : Int) (ao : Option Addr) (l : List EntD) (cap : Nat) (hs : 0 ≤ s ∧ s ≤ 2000000) (hl : l.length ≤ 1048576) (w : World) :
    Calls Tryz.prog 85 #[.agg #[.int .i64 s, .int .i64 t, .slice ao l.length cap]] w fun e w' => e = .returned (.int .i64 (s + l.length)) ∧ Below w.heap.size w w' := by
  have HB := hid (below_more (Below.refl w.heap.size w) (.cells #[.int .i64 s, .int .i64 t, .slice ao l.length cap] 28))
  go_enter Tryz.func85, Tryz.ntmps85
  go_wp2
  go_ret
  exact ⟨rfl, HB.out⟩
end Go.Proofs.YtbifkpkhpaellaaGreatDoor

namespace Go.Proofs.YtbifkpkhpaellaaGreatDoor
open Go.RowKit

theorem varS_info5 : (Tryz.prog.info? 5).map (fun i => (i.zero, i.size, i.bytes)) = some (some (.int .u8 0), 1, 1) := by kernel_rfl

set_option maxHeartbeats 400000 in
set_option maxRecDepth 1000000 in
theorem l01Var_any (n : Nat) (hn : n ≤ 1000000000000) (w : World) :
    Calls Tryz.prog 62 #[.int .i64 n] w fun e w' => e = .returned (.string ⟨(vb n).toArray⟩) ∧ Below w.heap.size w w' := by
  obtain ⟨i0, hi, hz0, hz1, hz2⟩ := info_parts varS_info5
  go_enter Tryz.func62, Tryz.ntmps62
  go_wp2
  go_loopw [0, 3] (fun x v wr => ∃ (m : Nat) (acc : List UInt8), m ≤ n ∧ x = .int .i64 m ∧ acc ++ vb m = vb n ∧ wr.ownsRow w.heap.size 5 1 v acc.length (cs acc) ∧ Below w.heap.size w wr) (fun x _ _ => (intOf x).toNat)
  case atStart => exact ⟨n, [], Nat.le_refl _, rfl, rfl, World.ownsRow_made w #[] 0 (Nat.le_refl _) (Nat.zero_le _) rfl, (Below.refl _ _).alloc (Nat.le_refl _) _⟩
  case round =>
    obtain ⟨m, acc, hm, rfl, hacc, hown, hb⟩ := hrel
    have hlen : acc.length + (vb m).length ≤ n + 1 := by rw [← List.length_append, hacc]; exact vb_le n
    have hp := vb_pos m
    have HA : Hid (acc ++ vb m = vb n) := hacc
    clear hacc
    have hsz := hb.size
    by_cases hlt : 127 < m
    · go_wp2_with (at_builtin; refine wpList_append_own _ rfl (.tmp 7) (.tmp 12) 100 rfl w.heap.size 5 i0 (.int .u8 0) 1 1 Tryz.underlying100 hi hz0 hz1 hz2 rfl (by decide) _ _ _ rfl (hown.alloc _) ⟨wr.heap.size, 0, none⟩ 1 1 [.int .u8 ((m : Int) % 128 + 128)] rfl rfl ?c1 ?c2 ?c3 ?c4 ?c5 ?_)
      case c1 => intro j u hj; match j, hj with | 0, hj => simp at hj; subst hj; simp [Addr.add]
      case c2 => intro u hu; simp at hu; subst hu; rfl
      case c3 => unfold maxLen; omega
      case c4 => omega
      case c5 => simp; omega
      intro v' w1 hown' hgrow _
      have R := var_step hlt HA.out hown hown' hgrow hb
      clear hown' hgrow hown hb
      go_wp2
      go_roundw
      case rel => exact ⟨m / 128, acc ++ [UInt8.ofNat (m % 128 + 128)], by omega, by go_num, R.1, R.2.1, R.2.2⟩
      case measure => simp [intOf]; omega
    · go_wp2_with (at_builtin; refine wpList_append_own _ rfl (.tmp 16) (.tmp 19) 100 rfl w.heap.size 5 i0 (.int .u8 0) 1 1 Tryz.underlying100 hi hz0 hz1 hz2 rfl (by decide) _ _ _ rfl (hown.alloc _) ⟨wr.heap.size, 0, none⟩ 1 1 [.int .u8 (m : Int)] rfl rfl ?d1 ?d2 ?d3 ?d4 ?d5 ?_)
      case d1 => intro j u hj; match j, hj with | 0, hj => simp at hj; subst hj; simp [Addr.add]
      case d2 => intro u hu; simp at hu; subst hu; rfl
      case d3 => unfold maxLen; omega
      case d4 => omega
      case d5 => simp; omega
      intro v' w1 hown' hgrow _
      have R := var_end (by omega) HA.out hown hown' hgrow hb
      have hcv := text_of_row (P := Tryz.prog) Tryz.underlying100 Tryz.underlying5 Tryz.underlying9 R.1
      clear hown' hgrow hown hb
      go_wp2
      go_ret
      exact ⟨rfl, R.2⟩

end Go.Proofs.YtbifkpkhpaellaaGreatDoor

namespace Go.Proofs.YtbifkpkhpaellaaGreatDoor
open Go.RowKit Go.Sort

set_option maxHeartbeats 1000000 in
set_option maxRecDepth 1000000 in
theorem specReadVar_in (s : ByteArray) (a : Nat) (ha : a ≤ s.size) (hs : s.size ≤ 140737488355328) (w : World) :
    Calls Tryz.prog 59 #[.string s, .int .i64 a] w fun e w' => e = .returned (rvAns a (rv (s.data.toList.drop a))) ∧ Below w.heap.size w w' := by
  have ha0 : (0 : Int) ≤ a := by omega
  have ha1 : (a : Int) ≤ s.size := by omega
  go_enter Tryz.func59, Tryz.ntmps59
  go_wp2
  go_loop [7, 8, 9] (fun n g i => ∃ (k W : Nat) (p : List UInt8), RvAt s a k p ∧ i = .int .i64 k ∧ n = .int .i64 (val p) ∧ g = .int .i64 W ∧ Hid (W = 128 ^ (k - a))) (fun _ _ i => a + 5 - (intOf i).toNat)
  case atStart => exact ⟨a, 1, [], RvAt.start s a ha, rfl, rfl, rfl, by simp [Hid]⟩
  case round =>
    obtain ⟨k, W, p, hR, rfl, rfl, rfl, HW⟩ := hrel
    have k1 := hR.lo
    have k2 := hR.hi
    have k3 := hR.five
    by_cases hk : k < s.size
    · by_cases h5 : k < a + 5
      · have hbd := hR.bounds h5 s[k].toNat
        rw [← HW.out] at hbd
        obtain ⟨b1, b2, b3, b4⟩ := hbd
        have m0 : (0 : Int) ≤ (s[k].toNat : Int) % 128 * (W : Int) := by
          have : ((s[k].toNat % 128 * W : Nat) : Int) = (s[k].toNat : Int) % 128 * (W : Int) := by simp
          omega
        have m1 : (s[k].toNat : Int) % 128 * (W : Int) ≤ 34091302912 := by
          have : ((s[k].toNat % 128 * W : Nat) : Int) = (s[k].toNat : Int) % 128 * (W : Int) := by simp
          omega
        have c0 : (s[k].toNat : Int) ≤ 255 := by have := s[k].toNat_lt; omega
        have HV : Hid (((val (p ++ [s[k]]) : Nat) : Int) = (val p : Int) + (s[k].toNat : Int) % 128 * (W : Int)) := hR.val_step HW.out s[k]
        by_cases hb : (s[k].toNat : Int) < 128
        · by_cases hv : 1000000000 < (val p : Int) + (s[k].toNat : Int) % 128 * (W : Int)
          · go_wp2
            go_quiet (fail)
            go_wp2
            go_ret3
            exact ⟨rvAns_none (hR.no hk h5 (by omega) (Or.inl (by have := HV.out; omega))), below_drewN (Below.refl _ _) _⟩
          · have hv' : decide (1000000000 < (val p : Int) + (s[k].toNat : Int) % 128 * (W : Int)) = false := by simpa using hv
            have cV : ∀ d os, Calls Tryz.prog 62 #[.int .i64 ((val p : Int) + (s[k].toNat : Int) % 128 * (W : Int))] (grow (redrawn w d) os) fun e w'' => e = .returned (.string ⟨(vb (val (p ++ [s[k]]))).toArray⟩) ∧ ∃ p : Regrown, w'' = grow (redrawn w p.d) p.os := by
              intro d os
              have := Calls.regrown_of (l01Var_any (val (p ++ [s[k]])) (by have := HV.out; omega) (grow (redrawn w d) os))
              rw [HV.out] at this
              exact this
            have hsl := slice_nat (P := Tryz.prog) Tryz.underlying9 s a (k + 1) a ((k : Int) + 1) rfl (by omega) (by omega) (by omega)
            have CV := (show Hid _ from cV)
            clear cV
            go_wp2
            refine wp_region_quiet_below (by kernel_rfl) (by kernel_rfl) ?_
            repeat (first | go_big_quiet_step (exact CV.out _ _) | quiet_step (exact CV.out _ _))
            refine wpQuiet_nil ?_
            intro _ hw'
            obtain ⟨⟨dq, osq⟩, hw''⟩ := hw'
            subst hw''
            have hbq := below_regrown w dq osq
            go_wp2
            · have hne : (!vb (val (p ++ [s[k]])) == (s.extract a (k + 1)).toList) = true := by assumption
              go_ret3
              exact ⟨rvAns_none (hR.no hk h5 (by omega) (Or.inr (hR.differs hk (by omega) hne))), hbq⟩
            · have hne : (!vb (val (p ++ [s[k]])) == (s.extract a (k + 1)).toList) = false := by assumption
              go_ret3
              exact ⟨rvAns_some (hR.yes hk h5 (by omega) (by have := HV.out; omega) (hR.meets hk (by omega) hne)) k1 HV.out rfl, hbq⟩
        · go_wp2
          go_round
          case rel => exact ⟨k + 1, W * 128, p ++ [s[k]], hR.step hk h5 (by omega), by go_num, by rw [HV.out], by go_num, hR.W_step HW.out⟩
          case measure => simp [intOf]; omega
      · go_wp2
        go_ret3
        exact ⟨rvAns_none (hR.none_end (Or.inr (by omega))), Below.refl _ _⟩
    · go_wp2
      go_ret3
      exact ⟨rvAns_none (hR.none_end (Or.inl (by omega))), Below.refl _ _⟩

theorem specReadVar_out (s : ByteArray) (a : Int) (ha : a < 0 ∨ (s.size : Int) < a) (w : World) :
    Calls Tryz.prog 59 #[.string s, .int .i64 a] w fun e w' => e = .returned (.tuple #[.int .i64 0, .int .i64 0, .bool false]) ∧ Below w.heap.size w w' := by
  by_cases h0 : a < 0
  · have h0' : ¬ 0 ≤ a := by omega
    go_enter Tryz.func59, Tryz.ntmps59
    go_wp2
    go_ret3
    exact ⟨rfl, Below.refl _ _⟩
  · have h0' : 0 ≤ a := by omega
    have h1 : ¬ a ≤ (s.size : Int) := by omega
    go_enter Tryz.func59, Tryz.ntmps59
    go_wp2
    go_ret3
    exact ⟨rfl, Below.refl _ _⟩
end Go.Proofs.YtbifkpkhpaellaaGreatDoor
