/-
  Bits that wait as data, with their texts and places; how they lie in memory, and which memory is the call's own.
-/
import Derived.Test.YtpknpodmoeaggabVals
import Derived.Test.YtpknpodmoeaggabRowBits
namespace Go.Proofs.Ytpknpodmoeaggab
open Go.RowKit

structure BitD where
  src : Int
  ident : Int
  texts : List ByteArray
  ats : List Int
  total : Int
  lim : Int
/-- two lists alike, one by one -/
def Two {α β : Type} (R : α → β → Prop) : List α → List β → Prop
  | [], [] => True
  | a :: l, b :: m => R a b ∧ Two R l m
  | _, _ => False
theorem Two.length {α β : Type} {R : α → β → Prop} : ∀ {l : List α} {m : List β}, Two R l m → l.length = m.length
  | [], [], _ => rfl
  | _ :: _, _ :: _, h => by simp only [List.length_cons, Two.length h.2]
theorem Two.get {α β : Type} {R : α → β → Prop} : ∀ {l : List α} {m : List β}, Two R l m → ∀ j (h1 : j < l.length) (h2 : j < m.length), R l[j] m[j]
  | [], [], _, j, h1, _ => by simp at h1
  | _ :: _, _ :: _, h, 0, _, _ => h.1
  | _ :: _, _ :: _, h, j + 1, h1, h2 => by
    simp only [List.getElem_cons_succ]
    exact Two.get h.2 j (by simpa using h1) (by simpa using h2)
theorem Two.mono {α β : Type} {R S : α → β → Prop} (hRS : ∀ a b, R a b → S a b) : ∀ {l : List α} {m : List β}, Two R l m → Two S l m
  | [], [], _ => trivial
  | _ :: _, _ :: _, h => ⟨hRS _ _ h.1, Two.mono hRS h.2⟩
theorem Two.snoc {α β : Type} {R : α → β → Prop} {a : α} {b : β} (hab : R a b) : ∀ {l : List α} {m : List β}, Two R l m → Two R (l ++ [a]) (m ++ [b])
  | [], [], _ => ⟨hab, trivial⟩
  | _ :: _, _ :: _, h => ⟨h.1, Two.snoc hab h.2⟩
theorem Two.append {α β : Type} {R : α → β → Prop} {l2 : List α} {m2 : List β} (h2 : Two R l2 m2) : ∀ {l : List α} {m : List β}, Two R l m → Two R (l ++ l2) (m ++ m2)
  | [], [], _ => h2
  | _ :: _, _ :: _, h => ⟨h.1, Two.append h2 h.2⟩
theorem Two.take {α β : Type} {R : α → β → Prop} : ∀ {l : List α} {m : List β} (k : Nat), Two R l m → Two R (l.take k) (m.take k)
  | [], [], k, _ => by simp [Two]
  | _ :: _, _ :: _, 0, _ => trivial
  | _ :: _, _ :: _, k + 1, h => ⟨h.1, Two.take k h.2⟩
theorem Two.drop {α β : Type} {R : α → β → Prop} : ∀ {l : List α} {m : List β} (k : Nat), Two R l m → Two R (l.drop k) (m.drop k)
  | [], [], k, _ => by simp [Two]
  | _ :: _, _ :: _, 0, h => h
  | _ :: _, _ :: _, k + 1, h => Two.drop k h.2
def rawB (e : BitD) (ta : Option Addr) (tc : Nat) (aa : Option Addr) (ac : Nat) : BitsD := ⟨e.src, e.ident, ⟨ta, e.texts.length, tc⟩, ⟨aa, e.ats.length, ac⟩, e.total, e.lim⟩
/-- the cells tell just these bits -/
def HoldsB (w : World) (e : BitD) (r : BitsD) : Prop := ∃ ta tc aa ac, r = rawB e ta tc aa ac ∧ ValsAt w ta (st e.texts) ∧ ValsAt w aa (intCells e.ats)
theorem HoldsB.on {w w' : World} {e : BitD} {r : BitsD} (h : HoldsB w e r) (hb : Below w.heap.size w w') : HoldsB w' e r := by
  obtain ⟨ta, tc, aa, ac, h1, h2, h3⟩ := h
  exact ⟨ta, tc, aa, ac, h1, h2.on hb, h3.on hb⟩
def BitsHold (w : World) (ao : Option Addr) (l : List BitD) : Prop := ∃ rs, BitssAt w ao rs ∧ Two (HoldsB w) l rs
theorem BitsHold.on {w w' : World} {ao : Option Addr} {l : List BitD} (h : BitsHold w ao l) (hb : Below w.heap.size w w') : BitsHold w' ao l := by
  obtain ⟨rs, h1, h2⟩ := h
  exact ⟨rs, h1.on hb, h2.mono fun _ _ h => h.on hb⟩
/-- few and short -/
def SmallB (e : BitD) : Prop := e.texts.length ≤ 1048576 ∧ e.ats.length ≤ 1048576 ∧ ∀ t ∈ e.texts, t.size ≤ 1048576
/-- bits whose lists are the call's own -/
def OwnB (w : World) (e : BitD) (r : BitsD) (lo hi : Nat) : Prop := ∃ ta tc aa ac m, r = rawB e ta tc aa ac ∧ OwnAt w 9 (st e.texts) e.texts.length ta lo m ∧ OwnAt w 3 (intCells e.ats) e.ats.length aa m hi ∧ lo ≤ m ∧ m ≤ hi
theorem OwnB.le {w : World} {e : BitD} {r : BitsD} {lo hi : Nat} (h : OwnB w e r lo hi) : lo ≤ hi := by
  obtain ⟨_, _, _, _, m, _, _, _, h1, h2⟩ := h
  exact Nat.le_trans h1 h2
theorem OwnB.on {w w' : World} {e : BitD} {r : BitsD} {lo hi : Nat} (h : OwnB w e r lo hi) (hb : Below w.heap.size w w') : OwnB w' e r lo hi := by
  obtain ⟨ta, tc, aa, ac, m, h1, h2, h3, h4⟩ := h
  exact ⟨ta, tc, aa, ac, m, h1, h2.on hb, h3.on hb, h4⟩
theorem OwnB.down {w : World} {e : BitD} {r : BitsD} {lo hi lo' hi' : Nat} (h : OwnB w e r lo hi) (h1 : lo' ≤ lo) (h2 : hi ≤ hi') : OwnB w e r lo' hi' := by
  obtain ⟨ta, tc, aa, ac, m, e1, e2, e3, e4, e5⟩ := h
  exact ⟨ta, tc, aa, ac, m, e1, e2.down h1 (Nat.le_refl _), e3.down (Nat.le_refl _) h2, by omega, by omega⟩
theorem OwnB.kept {w w' : World} {e : BitD} {r : BitsD} {lo hi lo2 hi2 : Nat} (h : OwnB w e r lo hi) (hk : KeptBut lo2 hi2 w w') (ho : hi ≤ lo2 ∨ hi2 ≤ lo) : OwnB w' e r lo hi := by
  obtain ⟨ta, tc, aa, ac, m, e1, e2, e3, e4, e5⟩ := h
  exact ⟨ta, tc, aa, ac, m, e1, e2.kept hk (by omega), e3.kept hk (by omega), e4, e5⟩
theorem OwnB.holds {w : World} {e : BitD} {r : BitsD} {lo hi : Nat} (h : OwnB w e r lo hi) : HoldsB w e r := by
  obtain ⟨ta, tc, aa, ac, m, e1, e2, e3, _⟩ := h
  exact ⟨ta, tc, aa, ac, e1, e2.vals (st_length _), e3.vals (intCells_length _)⟩
/-- one behind the other -/
def Nest (w : World) : List BitD → List BitsD → Nat → Nat → Prop
  | [], [], lo, hi => lo ≤ hi
  | e :: l, r :: rs, lo, hi => ∃ m, OwnB w e r lo m ∧ Nest w l rs m hi
  | _, _, _, _ => False
theorem Nest.le {w : World} : ∀ {l : List BitD} {rs : List BitsD} {lo hi : Nat}, Nest w l rs lo hi → lo ≤ hi
  | [], [], _, _, h => h
  | _ :: _, _ :: _, _, _, ⟨_, h1, h2⟩ => Nat.le_trans h1.le h2.le
theorem Nest.length {w : World} : ∀ {l : List BitD} {rs : List BitsD} {lo hi : Nat}, Nest w l rs lo hi → l.length = rs.length
  | [], [], _, _, _ => rfl
  | _ :: _, _ :: _, _, _, ⟨_, _, h2⟩ => by simp only [List.length_cons, h2.length]
theorem Nest.on {w w' : World} (hb : Below w.heap.size w w') : ∀ {l : List BitD} {rs : List BitsD} {lo hi : Nat}, Nest w l rs lo hi → Nest w' l rs lo hi
  | [], [], _, _, h => h
  | _ :: _, _ :: _, _, _, ⟨m, h1, h2⟩ => ⟨m, h1.on hb, h2.on hb⟩
theorem Nest.kept {w w' : World} {lo2 hi2 : Nat} (hk : KeptBut lo2 hi2 w w') : ∀ {l : List BitD} {rs : List BitsD} {lo hi : Nat}, Nest w l rs lo hi → (hi ≤ lo2 ∨ hi2 ≤ lo) → Nest w' l rs lo hi
  | [], [], _, _, h, _ => h
  | _ :: _, _ :: _, _, _, ⟨m, h1, h2⟩, ho => ⟨m, h1.kept hk (by have := h2.le; omega), h2.kept hk (by have := h1.le; omega)⟩
theorem Nest.snoc {w : World} {e : BitD} {r : BitsD} {hi hi' : Nat} (h2 : OwnB w e r hi hi') : ∀ {l : List BitD} {rs : List BitsD} {lo : Nat}, Nest w l rs lo hi → Nest w (l ++ [e]) (rs ++ [r]) lo hi'
  | [], [], _, h => ⟨hi', h2.down h (Nat.le_refl _), Nat.le_refl _⟩
  | _ :: _, _ :: _, _, ⟨m, h1, h3⟩ => ⟨m, h1, Nest.snoc h2 h3⟩
theorem Nest.up {w : World} {hi hi' : Nat} (hh : hi ≤ hi') : ∀ {l : List BitD} {rs : List BitsD} {lo : Nat}, Nest w l rs lo hi → Nest w l rs lo hi'
  | [], [], _, h => Nat.le_trans h hh
  | _ :: _, _ :: _, _, ⟨m, h1, h3⟩ => ⟨m, h1, Nest.up hh h3⟩
theorem Nest.low {w : World} {lo lo' hi : Nat} (hh : lo' ≤ lo) : ∀ {l : List BitD} {rs : List BitsD}, Nest w l rs lo hi → Nest w l rs lo' hi
  | [], [], h => Nat.le_trans hh h
  | _ :: _, _ :: _, ⟨m, h1, h3⟩ => ⟨m, h1.down hh (Nat.le_refl _), h3⟩
theorem Nest.holds {w : World} : ∀ {l : List BitD} {rs : List BitsD} {lo hi : Nat}, Nest w l rs lo hi → Two (HoldsB w) l rs
  | [], [], _, _, _ => trivial
  | _ :: _, _ :: _, _, _, ⟨_, h1, h2⟩ => ⟨h1.holds, h2.holds⟩
/-- a list of bits of the call's own -/
def OwnBits (w : World) (va : Option Addr) (l : List BitD) (lo hi : Nat) : Prop := ∃ rs, OwnAt w 60 (bitsCells rs) rs.length va lo hi ∧ Nest w l rs lo hi
theorem OwnAt.bits {w : World} {rs : List BitsD} {va : Option Addr} {lo hi : Nat} (h : OwnAt w 60 (bitsCells rs) rs.length va lo hi) : BitssAt w va rs := by
  rcases h with h | ⟨g, r, rfl, _, _, h⟩
  · exact fun h0 => absurd (List.length_eq_zero_iff.1 h) h0
  · exact bitssAt_of h
theorem OwnBits.holds {w : World} {va : Option Addr} {l : List BitD} {lo hi : Nat} (h : OwnBits w va l lo hi) : BitsHold w va l := by
  obtain ⟨rs, h1, h2⟩ := h
  exact ⟨rs, h1.bits, h2.holds⟩
theorem OwnBits.on {w w' : World} {va : Option Addr} {l : List BitD} {lo hi : Nat} (h : OwnBits w va l lo hi) (hb : Below w.heap.size w w') : OwnBits w' va l lo hi := by
  obtain ⟨rs, h1, h2⟩ := h
  exact ⟨rs, h1.on hb, h2.on hb⟩
theorem OwnBits.kept {w w' : World} {va : Option Addr} {l : List BitD} {lo hi lo2 hi2 : Nat} (h : OwnBits w va l lo hi) (hk : KeptBut lo2 hi2 w w') (ho : hi ≤ lo2 ∨ hi2 ≤ lo) : OwnBits w' va l lo hi := by
  obtain ⟨rs, h1, h2⟩ := h
  exact ⟨rs, h1.kept hk ho, h2.kept hk ho⟩
end Go.Proofs.Ytpknpodmoeaggab
