/-
  Plain facts for the walk of spec.JoinBits.
-/
import Derived.Test.YthdklbmachplmaaJoint3
import Derived.Test.YthdklbmachplmaaJoint2
namespace Go.Proofs.Ythdklbmachplmaa
open Go.RowKit

theorem joinAt_good {l : List BitD} {d : DgramD} {now : Int} {L1 L2 : List BitD} {e : BitD} (h : joinAt l d now = (L1, e, L2)) (hl : l.length ≤ 3) (hg : ∀ e ∈ l, GoodB e ∧ e.ats.length ≤ 900) : (GoodB e ∧ e.ats.length ≤ 900) ∧ (L1 ++ e :: L2).length ≤ 3 ∧ ∀ x ∈ L1 ++ L2, x ∈ l := by
  cases hf : foundB l d with
  | some k =>
    obtain ⟨hk, hj⟩ := joinAt_some (now := now) hf
    rw [hj] at h
    simp only [Prod.mk.injEq] at h
    obtain ⟨rfl, rfl, rfl⟩ := h
    refine ⟨hg _ (List.getElem_mem hk), by rw [list_parts hk]; exact hl, fun x hx => ?_⟩
    rcases List.mem_append.1 hx with q | q
    · exact List.mem_of_mem_take q
    · exact List.mem_of_mem_drop q
  | none =>
    rw [joinAt, hf] at h
    simp only [Prod.mk.injEq] at h
    obtain ⟨rfl, rfl, rfl⟩ := h
    refine ⟨⟨newB_good d now, Nat.zero_le _⟩, ?_, fun x hx => ?_⟩
    · rw [List.length_append, List.length_drop]
      simp only [List.length_cons, List.length_nil]
      split <;> omega
    · rw [List.append_nil] at hx
      exact List.mem_of_mem_drop hx
theorem copy_at {l : List BitD} {N : Nat} (hN : l.length = N) (ao : Option Addr) (cap : Nat) (hl : N ≤ 3) (hs : ∀ e ∈ l, SmallB e) (w : World) (ha : BitsHold w ao l) :
    Calls Try.prog 31 #[.slice ao N cap] w fun e w' => ∃ va vc rs, e = .returned (.slice va N vc) ∧ w'.ownsRow w.heap.size 35 6 (.slice va N vc) N (bitsCells rs) ∧ NestR w' l rs w.heap.size w'.heap.size ∧ Below w.heap.size w w' := by
  subst hN
  exact l11CopyRow_any ao l cap (by omega) hs w ha
theorem joinAt_full {l : List BitD} {d : DgramD} {now : Int} (h : foundB l d = none) (h3 : l.length = 3) : joinAt l d now = (l.drop 1, newB d now, []) := by
  rw [joinAt, h]
  show (l.drop (if 3 < l.length + 1 then 1 else 0), newB d now, []) = _
  rw [if_pos (by omega)]
theorem small_new {l : List BitD} {d : DgramD} {now : Int} (h : ∀ e ∈ l, GoodB e) : ∀ e ∈ l.drop 1 ++ [newB d now], SmallB e := by
  intro e he
  rcases List.mem_append.1 he with q | q
  · exact (h e (List.mem_of_mem_drop q)).small
  · rw [List.mem_singleton] at q
    subst q
    exact (newB_good d now).small
theorem JoinW.growB {w : World} {d : DgramD} {W W' : World} (h : JoinW w d W) {base n : Nat} {v : Value} {xs : List Value} (hr : W.ownsRow base 35 6 v n xs) (hg : W.grownBy W' v.ownBlock) (hb : w.heap.size ≤ base) : JoinW w d W' :=
  ⟨bitsR_other h.x hr hg (by decide), bitsR_other h.z hr hg (by decide), bitsR_down h.b hr hg hb h.b.size⟩
theorem joinOk_late {d : DgramD} {now : Int} (h : within now 0 999999990 = false) : joinOk d now = false := by
  have h9 : ¬ (0 ≤ now ∧ now ≤ 999999990) := fun q => by
    rw [within_yes q.1 q.2] at h
    cases h
  simp [joinOk]
  intro _ q1
  omega
theorem joinAt_new2 {l : List BitD} {d : DgramD} {now : Int} (h : foundB l d = none) : (firstAt (joinAt l d now).2.1.ats d.place).isSome = false := by
  rw [joinAt, h]
  rfl
theorem joinB_late {l : List BitD} {d : DgramD} {now : Int} (h : within now 0 999999990 = false) : joinB l d now = (l, zeroG, false) := by
  refine joinB_bad ?_
  have h9 : ¬ (0 ≤ now ∧ now ≤ 999999990) := fun q => by
    rw [within_yes q.1 q.2] at h
    cases h
  simp [joinOk]
  intro _ q1
  omega
end Go.Proofs.Ythdklbmachplmaa
