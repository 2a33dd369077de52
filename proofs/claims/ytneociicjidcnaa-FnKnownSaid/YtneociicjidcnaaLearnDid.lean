/-
  What Learn answers: a list of the call's own memory.
-/
import Derived.Test.YtneociicjidcnaaPlainKnown
import Derived.Test.YtneociicjidcnaaRowKnown
import Derived.Test.YtneociicjidcnaaOwnOff
namespace Go.Proofs.Ytneociicjidcnaa
open Go.RowKit

def LearnDid (A : List KnownD) (w : World) (e : Ending) (w' : World) : Prop :=
  ∃ va vc, e = .returned (.slice va A.length vc) ∧ A.length ≤ vc ∧ OwnOff w' 30 (knownCells A) A.length va w.heap.size w'.heap.size ∧ Below w.heap.size w w'
/-- a list that lies within a block -/
theorem knownsAt_off {w : World} {g : Nat} {t : TypeId} {l : List KnownD} {p r : List Value} (h : BlockIs w g t (p ++ (knownCells l ++ r))) : KnownsAt w (some ⟨g, p.length, none⟩) l := by
  intro _
  refine ⟨g, p.length, rfl, fun j hj => ?_⟩
  have k : ∀ c, c < 2 → (p ++ (knownCells l ++ r))[p.length + j * 2 + c]? = (knownEnc l[j])[c]? := fun c hc => by
    rw [List.getElem?_append_right (by omega), show p.length + j * 2 + c - p.length = j * 2 + c by omega]
    exact row_at knownEnc 2 (fun _ => rfl) l r j c hj hc
  exact ⟨h.cell (k 0 (by omega)), h.cell (k 1 (by omega))⟩
theorem OwnOff.knowns {w : World} {l : List KnownD} {va : Option Addr} {lo hi : Nat} (h : OwnOff w 30 (knownCells l) l.length va lo hi) : KnownsAt w va l := by
  rcases h with h | ⟨g, p, r, rfl, _, _, h⟩
  · exact fun h0 => absurd (List.length_eq_zero_iff.1 h) h0
  · exact knownsAt_off h
/-- the rest of a row -/
theorem own_rest {w : World} {base k : Nat} {va : Option Addr} {vc : Nat} {l : List KnownD} (hk : k < l.length) (h : w.ownsRow base 30 2 (.slice va l.length vc) l.length (knownCells l)) :
    ∃ g, va = some ⟨g, 0, none⟩ ∧ l.length ≤ vc ∧ vc ≤ maxLen ∧ OwnOff w 30 (knownCells (l.drop k)) (l.length - k) (some ⟨g, k * 2, none⟩) base w.heap.size := by
  rcases h.2 with ⟨hv, h0⟩ | ⟨g, cp, cur, hv, hb, hh, hle, hmx, _, ht⟩
  · omega
  · simp only [Value.slice.injEq] at hv
    obtain ⟨rfl, _, rfl⟩ := hv
    have hcur : cur.toList = knownCells l ++ cur.toList.drop (l.length * 2) := by rw [← ht, List.take_append_drop]
    have hsp : knownCells l = knownCells (l.take k) ++ knownCells (l.drop k) := by rw [← knownR_append, List.take_append_drop]
    have hlen : (knownCells (l.take k)).length = k * 2 := by rw [knownCells_length, List.length_take]; omega
    have hbk : BlockIs w g 30 (knownCells (l.take k) ++ (knownCells (l.drop k) ++ cur.toList.drop (l.length * 2))) := by
      unfold BlockIs
      rw [hh, ← List.append_assoc, ← hsp, ← hcur]
    refine ⟨g, rfl, hle, hmx, Or.inr ⟨g, _, _, by rw [hlen], hb, hbk.lt, hbk⟩⟩
end Go.Proofs.Ytneociicjidcnaa
