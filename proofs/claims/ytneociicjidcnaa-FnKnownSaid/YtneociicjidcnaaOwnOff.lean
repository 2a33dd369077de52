/-
  Rows of the call's own that may begin within their block.
-/
import Derived.Test.YtneociicjidcnaaOwnAt
namespace Go.Proofs.Ytneociicjidcnaa
open Go.RowKit

/-- a row of the call's own, made between two sizes of memory, somewhere in its block -/
def OwnOff (w : World) (t : TypeId) (cs : List Value) (n : Nat) (va : Option Addr) (lo hi : Nat) : Prop :=
  n = 0 ∨ ∃ g p r, va = some ⟨g, p.length, none⟩ ∧ lo ≤ g ∧ g < hi ∧ BlockIs w g t (p ++ (cs ++ r))
theorem OwnOff.on {w w' : World} {t : TypeId} {cs : List Value} {n : Nat} {va : Option Addr} {lo hi : Nat} (h : OwnOff w t cs n va lo hi) (hb : Below w.heap.size w w') : OwnOff w' t cs n va lo hi :=
  h.imp id fun ⟨g, p, r, a, b, c, d⟩ => ⟨g, p, r, a, b, c, d.on hb d.lt⟩
theorem OwnOff.down {w : World} {t : TypeId} {cs : List Value} {n : Nat} {va : Option Addr} {lo hi lo' hi' : Nat} (h : OwnOff w t cs n va lo hi) (h1 : lo' ≤ lo) (h2 : hi ≤ hi') : OwnOff w t cs n va lo' hi' :=
  h.imp id fun ⟨g, p, r, a, b, c, d⟩ => ⟨g, p, r, a, Nat.le_trans h1 b, Nat.lt_of_lt_of_le c h2, d⟩
theorem OwnOff.kept {w w' : World} {t : TypeId} {cs : List Value} {n : Nat} {va : Option Addr} {lo hi lo2 hi2 : Nat} (h : OwnOff w t cs n va lo hi) (hk : KeptBut lo2 hi2 w w') (ho : hi ≤ lo2 ∨ hi2 ≤ lo) : OwnOff w' t cs n va lo hi :=
  h.imp id fun ⟨g, p, r, a, b, c, d⟩ => ⟨g, p, r, a, b, c, hk _ _ _ (by omega) d⟩
theorem OwnAt.off {w : World} {t : TypeId} {cs : List Value} {n : Nat} {va : Option Addr} {lo hi : Nat} (h : OwnAt w t cs n va lo hi) : OwnOff w t cs n va lo hi :=
  h.imp id fun ⟨g, r, a, b, c, d⟩ => ⟨g, [], r, a, b, c, d⟩
theorem off_of_row {w : World} {base size n : Nat} {t : TypeId} {va : Option Addr} {vc : Nat} {cs : List Value} (h : w.ownsRow base t size (.slice va n vc) n cs) : OwnOff w t cs n va base w.heap.size := by
  rcases h.2 with ⟨hv, h0⟩ | ⟨g, cp, cur, hv, hb, hh, _, _, _, ht⟩
  · exact Or.inl h0
  · simp only [Value.slice.injEq] at hv
    obtain ⟨rfl, _, rfl⟩ := hv
    have hcur : cur.toList = cs ++ cur.toList.drop (n * size) := by rw [← ht, List.take_append_drop]
    have hk : BlockIs w g t ([] ++ (cs ++ cur.toList.drop (n * size))) := by unfold BlockIs; rw [hh, List.nil_append, ← hcur]
    exact Or.inr ⟨g, [], _, rfl, hb, hk.lt, hk⟩
theorem row_cap {w : World} {base size n : Nat} {t : TypeId} {va : Option Addr} {vc : Nat} {cs : List Value} (h : w.ownsRow base t size (.slice va n vc) n cs) : n ≤ vc := by
  rcases h.2 with ⟨hq, hz⟩ | ⟨_, cp, _, hq, _, _, hle, _⟩
  · omega
  · simp only [Value.slice.injEq] at hq
    omega
end Go.Proofs.Ytneociicjidcnaa
