/-
  The walk of impl.Decode: what it answers.
-/
import Derived.Test.YtohmfmajgehadaaGreatDoorJoint45
import Derived.Test.YtohmfmajgehadaaGreatDoorJoint46
import Derived.Test.YtohmfmajgehadaaGreatDoorJoint1
namespace Go.Proofs.YtohmfmajgehadaaGreatDoor
open Go.RowKit Go.Sort

def msgQ (s : ByteArray) (n : Nat) (l : List Value) (w : World) : Prop := ∀ d k, msgAt s = some (d, k) → ∃ va vc vb vd, l = [.int .i64 d.kind, .int .i64 d.src, .int .i64 d.dst, .int .i64 d.term, .int .i64 d.index, .int .i64 d.logTerm, .int .i64 d.commit, .bool d.ok, .slice va d.ents.length vc, .slice vb d.conf.length vd, .string d.data, .bool d.last] ∧ w.ownsRow n 57 3 (.slice va d.ents.length vc) d.ents.length (entCells d.ents) ∧ w.ownsRow n 3 1 (.slice vb d.conf.length vd) d.conf.length (intCells d.conf)
theorem msgQ_stays (s : ByteArray) (n : Nat) (l : List Value) : Stays 57 3 (msgQ s n l) := by
  intro x y hb hq d k h
  obtain ⟨va, vc, vb, vd, e1, e2, e3⟩ := hq d k h
  exact ⟨va, vc, vb, vd, e1, row_ext e2 fun g cs hg => hb g _ cs (Or.inl rfl) hg, row_ext e3 fun g cs hg => hb g _ cs (Or.inr rfl) hg⟩
theorem wholeMsg_read (s : ByteArray) (hs : s.size ≤ 1048576) (w : World) : Calls Tryz.prog 37 #[.string s, .func (.func 38) #[] #[]] w fun e w' => decDid (readMsg s) w e w' := by
  refine (wholeMsg_any s w ((msgAt s).map fun p => (s, p.2)) (msgQ s w.heap.size) 57 3 (msgQ_stays s w.heap.size) (by rintro t (rfl | rfl | rfl) <;> decide) ?_ ?_).mono ?_
  · intro t k h
    cases hq : msgAt s with
    | none => rw [hq] at h; cases h
    | some p => obtain ⟨d, k'⟩ := p; rw [hq] at h; cases h; exact ⟨hs, msgAt_fits hq⟩
  · intro b w1 hb hB hr
    refine (message_at b s hs w1 hr).mono ?_
    intro e w2 hd
    cases hq : msgAt s with
    | none => rw [hq] at hd; exact hd
    | some p =>
      obtain ⟨d, k⟩ := p
      rw [hq] at hd
      obtain ⟨va, vc, vb, vd, e1, e3, e4, e5, e6⟩ := hd
      refine ⟨d.kind, d.src, d.dst, d.term, d.index, d.logTerm, d.commit, d.ok, va, d.ents.length, vc, vb, d.conf.length, vd, d.data, d.last, e1, e3, e4, ?_⟩
      intro d' k' h'
      rw [hq] at h'
      cases h'
      exact ⟨va, vc, vb, vd, rfl, row_down e5 hB.size, row_down e6 hB.size⟩
  · intro e w' h
    rcases h with ⟨t, ho, x0, x1, x2, x3, x4, x5, x6, x7, x8, y8, z8, x9, y9, z9, x10, x11, e1, hq, hB⟩ | ⟨hno, e1, hB⟩
    · cases hs2 : msgAt s with
      | none => rw [hs2] at ho; cases ho
      | some p =>
        obtain ⟨d, k'⟩ := p
        rw [hs2] at ho
        simp only [Option.map_some, Option.some.injEq, Prod.mk.injEq] at ho
        obtain ⟨rfl, rfl⟩ := ho
        obtain ⟨va, vc, vb, vd, q1, q2⟩ := hq _ _ hs2
        have hc : readMsg s = some d := by unfold readMsg; rw [hs2]; exact if_pos rfl
        rw [hc]
        refine ⟨va, vc, vb, vd, ?_, q2, hB⟩
        rw [e1]
        have := congrArg List.toArray q1
        rw [this]
    · have hn : readMsg s = none := by
        unfold readMsg
        cases hs2 : msgAt s with
        | none => rfl
        | some p =>
          obtain ⟨d, k'⟩ := p
          simp only [Option.bind_some]
          refine if_neg fun q => hno s ?_
          rw [hs2]
          rw [Option.map_some, q]
      rw [hn, e1]
      exact ⟨rfl, hB⟩
end Go.Proofs.YtohmfmajgehadaaGreatDoor
