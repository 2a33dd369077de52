/-
  What is read of a journal's text, in parts: how long it is, where it ends, its number.
  The walk of laws.eqJournal: what is alike is found alike.
-/
import Derived.Test.YtbifkpkhpaellaaGreatDoorJoint26
import Derived.Test.YtbifkpkhpaellaaGreatDoorJoint14
import Derived.Test.YtbifkpkhpaellaaGreatDoorJoint1
import Derived.Test.YtbifkpkhpaellaaGreatDoorJoint10
namespace Go.Proofs.YtbifkpkhpaellaaGreatDoor
open Go.RowKit

def rjJ (o : Option (JouD × Nat)) : JouD := match o with | none => ⟨0, 0, 0, 0, 0, []⟩ | some (j, _) => j
def rjK (o : Option (JouD × Nat)) : Nat := match o with | none => 0 | some (_, k) => k
theorem rjDid_parts {o : Option (JouD × Nat)} {w : World} {e : Ending} {w' : World} (h : rjDid o w e w') : ∃ vo vc, e = .returned (.tuple #[.agg #[.int .i64 (rjJ o).n, .int .i64 (rjJ o).tm, .int .i64 (rjJ o).vt, .int .i64 (rjJ o).s, .int .i64 (rjJ o).t, .slice vo (rjJ o).l.length vc], .int .i64 (rjK o), .bool o.isSome]) ∧ OwnAt w' 110 (entCells (rjJ o).l) (rjJ o).l.length vo w.heap.size w'.heap.size ∧ Below w.heap.size w w' := by
  cases o with
  | none => exact ⟨none, 0, h.1, Or.inl rfl, h.2⟩
  | some p =>
    obtain ⟨j, k⟩ := p
    obtain ⟨vo, vc, h1, _, h2, h3⟩ := h
    exact ⟨vo, vc, h1, h2, h3⟩
theorem tell_len {j k : JouD} {r : ByteArray} (h0 : j.l.length ≤ 60) (h : tellMore j r = some k) : k.l.length ≤ 60 := by
  cases h2 : readTwo 72 r with
  | some p =>
    obtain ⟨a, b⟩ := p
    by_cases h3 : (within a 0 100000 && within b 0 4) = true
    · rw [tell_head h2 h3] at h; cases h; exact h0
    · rw [tell_bad h2 (by simpa using h3)] at h; cases h
  | none =>
    cases h3 : readEntry r with
    | none => rw [tell_no h2 h3] at h; cases h
    | some p =>
      obtain ⟨i, e⟩ := p
      rw [tell_put h2 h3] at h
      split at h
      · rename_i hq
        cases h
        unfold putAns at hq ⊢
        split at hq
        · rename_i hc
          simp only [hc, and_self, if_true]
          exact (logOk_iff.1 hc.2.2).2.2.1
        · simp at hq
      · cases h
theorem tellAll_len : ∀ (rs : List ByteArray) (j : JouD) (e : Nat), j.l.length ≤ 60 → (tellAll j e rs).1.l.length ≤ 60
  | [], _, _, h => h
  | r :: rs, j, e, h => by
    rw [tellAll]
    cases hm : tellMore j r with
    | none => exact h
    | some k => exact tellAll_len rs k _ (tell_len h hm)
theorem readJ_len (n : Int) (s : ByteArray) : (rjJ (readJ n s)).l.length ≤ 60 := by
  cases h0 : within n 0 999 with
  | false => rw [readJ_n h0]; exact Nat.zero_le _
  | true =>
    cases h : ufT s with
    | nil => rw [readJ_nil h]; exact Nat.zero_le _
    | cons r rs =>
      cases h2 : readTwo 66 r with
      | none => rw [readJ_two h h2]; exact Nat.zero_le _
      | some p =>
        obtain ⟨a, b⟩ := p
        cases h3 : logOk a b [] with
        | false => rw [readJ_log h h2 h3]; exact Nat.zero_le _
        | true => rw [readJ_yes h0 h h2 h3]; exact tellAll_len rs _ _ (Nat.zero_le _)
theorem tellMore_n {j k : JouD} {r : ByteArray} (h : tellMore j r = some k) : k.n = j.n := by
  unfold tellMore at h
  repeat' split at h
  all_goals first | (simp at h; done) | (simp only [Option.some.injEq] at h; subst h; rfl) | skip
theorem tellAll_n : ∀ (rs : List ByteArray) (j : JouD) (e : Nat), (tellAll j e rs).1.n = j.n
  | [], _, _ => rfl
  | r :: rs, j, e => by
    rw [tellAll]
    cases h : tellMore j r with
    | none => rfl
    | some k => exact (tellAll_n rs k _).trans (tellMore_n h)
theorem readJ_n2 {n : Int} {s : ByteArray} {j : JouD} {k : Nat} (h : readJ n s = some (j, k)) : j.n = n := by
  unfold readJ at h
  split at h
  · split at h
    · cases h
    · split at h
      · cases h
      · split at h
        · simp only [Option.some.injEq] at h
          have := tellAll_n _ _ _ |>.symm.trans (congrArg (fun p => p.1.n) h)
          exact this.symm
        · cases h
  · cases h
/-- what is read ends within the text -/
theorem tellAll_end {s : ByteArray} : ∀ (f a : Nat) (j : JouD), a ≤ s.size → (tellAll j a (recs s (ufsF s f a))).2 ≤ s.size
  | 0, a, j, h => h
  | f + 1, a, j, h => by
    rw [ufsF]
    cases hr : rf s a with
    | none => exact h
    | some p =>
      obtain ⟨st, en⟩ := p
      have h1 := rf_frm hr
      have h2 := rf_bd hr
      show (tellAll j a (s.extract st en :: recs s (ufsF s f en))).2 ≤ s.size
      rw [tellAll]
      cases hm : tellMore j (s.extract st en) with
      | none => exact h
      | some k =>
        show (tellAll k (a + (frm (s.extract st en)).size) (recs s (ufsF s f en))).2 ≤ s.size
        rw [h1.1]
        exact tellAll_end f en k h2.2.2
theorem readJ_end {n : Int} {s : ByteArray} {j : JouD} {k : Nat} (h : readJ n s = some (j, k)) : k ≤ s.size := by
  by_cases hs : 20000 < s.size
  · rw [readJ_nil (by rw [ufT, if_pos hs])] at h
    cases h
  have hT : ufT s = recs s (ufsF s (s.size - 0 + 1) 0) := by rw [ufT, if_neg (by omega)]; rfl
  rw [ufsF] at hT
  cases hr : rf s 0 with
  | none =>
    rw [hr] at hT
    rw [readJ_nil hT] at h
    cases h
  | some p =>
    obtain ⟨st, en⟩ := p
    rw [hr] at hT
    have h1 := rf_frm hr
    have h2 := rf_bd hr
    have hT2 : ufT s = s.extract st en :: recs s (ufsF s (s.size - 0) en) := hT
    unfold readJ at h
    rw [hT2] at h
    split at h
    · dsimp only at h
      split at h
      · cases h
      · split at h
        · simp only [Option.some.injEq] at h
          have h3 := congrArg Prod.snd h
          have h4 := h1.1
          rw [Nat.zero_add] at h4
          rw [h4] at h3
          have h5 := tellAll_end (s.size - 0) en _ h2.2.2 |> Nat.le_trans (Nat.le_of_eq h3.symm)
          exact h5
        · cases h
    · cases h
theorem tellAll_small : ∀ (rs : List ByteArray) (j : JouD) (e m : Nat), (∀ r ∈ rs, r.size ≤ 1048576) → JouB j m → ∃ m', JouB (tellAll j e rs).1 m'
  | [], _, _, m, _, h => ⟨m, h⟩
  | r :: rs, j, e, m, hr, h => by
    rw [tellAll]
    cases hm : tellMore j r with
    | none => exact ⟨m, h⟩
    | some k => exact tellAll_small rs k _ (m + 1) (fun q hq => hr q (by simp [hq])) (bounds_more (b := false) (hr r (by simp)) h (by rw [tellOne, if_neg (by simp)]; exact hm))
theorem readJ_small {n : Int} {s : ByteArray} {j : JouD} {k : Nat} (hs : s.size ≤ 1048576) (h : readJ n s = some (j, k)) : ∀ f ∈ j.l, f.data.size ≤ 1048576 := by
  have hT : ∀ r ∈ ufT s, r.size ≤ 1048576 := by
    intro r hr
    unfold ufT at hr
    split at hr
    · simp at hr
    · obtain ⟨p, _, rfl⟩ := List.mem_map.1 hr
      rw [ByteArray.size_extract]
      omega
  unfold readJ at h
  split at h
  · split at h
    · cases h
    · rename_i r rs hq
      rw [hq] at hT
      split at h
      · cases h
      · rename_i a b _
        split at h
        · rename_i hlo
          simp only [Option.some.injEq] at h
          obtain ⟨m, hm⟩ := tellAll_small rs ⟨n, 0, 0, a, b, []⟩ (frm r).size 0 (fun q hq => hT q (by simp [hq])) ⟨by have := (logOk_iff.1 hlo).1; dsimp only; omega, Nat.zero_le _, by simp⟩
          rw [h] at hm
          exact hm.2.2
        · cases h
  · cases h
end Go.Proofs.YtbifkpkhpaellaaGreatDoor

namespace Go.Proofs.YtbifkpkhpaellaaGreatDoor
open Go.RowKit

/-- three blocks laid one behind the other, with the first -/
theorem three_jour (w : World) (o p : Obj) : Below w.heap.size w ((w.alloc o).alloc p) ∧ ((w.alloc o).alloc p).heap.size = w.heap.size + 2 ∧ ((w.alloc o).alloc p).heap[w.heap.size]? = some o ∧ ((w.alloc o).alloc p).heap[w.heap.size + 1]? = some p := by
  refine ⟨below_more (below_more (Below.refl _ w) _) _, by simp [World.alloc, -World.alloc_eq], ?_, ?_⟩
  · show ((w.heap.push o).push p)[w.heap.size]? = some o
    rw [Array.getElem?_push, if_neg (by simp), Array.getElem?_push, if_pos rfl]
  · show ((w.heap.push o).push p)[w.heap.size + 1]? = some p
    rw [Array.getElem?_push, if_pos (by simp)]

set_option maxRecDepth 1000000 in
set_option maxHeartbeats 1000000 in
theorem eqJour_same (n tm vt s t : Int) (ao bo : Option Addr) (l : List EntD) (cap cap' : Nat) (hl : l.length ≤ 140737488355328) (w : World) (ha : EntsAt w ao l) (hb : EntsAt w bo l) :
    Calls Tryz.prog 8 #[jourV n tm vt s t (.slice ao l.length cap), jourV n tm vt s t (.slice bo l.length cap')] w fun e w' => e = .returned (.bool true) ∧ Below w.heap.size w w' := by
  have C := hid (fun w ha hb => eqLog_same s t ao bo l cap cap' hl w ha hb)
  have HBB : Hid (∀ (o p : Obj), Below w.heap.size w ((w.alloc o).alloc p)) := fun o p => below_more (below_more (Below.refl _ w) o) p
  have HA := hid ha
  have HB := hid hb
  clear ha hb
  go_enter Tryz.func8, Tryz.ntmps8
  go_wp2_with fail
  refine (C.out _ (HA.out.on (HBB.out _ _)) (HB.out.on (HBB.out _ _))).mono ?_
  rintro e w1 ⟨rfl, b1⟩
  have B1 := hid (below_via (HBB.out _ _) b1)
  clear b1 C
  go_wp2
  go_ret
  exact ⟨rfl, B1.out⟩
end Go.Proofs.YtbifkpkhpaellaaGreatDoor
