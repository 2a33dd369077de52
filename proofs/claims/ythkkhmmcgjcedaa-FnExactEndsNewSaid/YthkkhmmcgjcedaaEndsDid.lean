/-
  What EndsNew answers: two streams, two lists of bits, two numbers, in memory of the call's own.
-/
import Derived.Test.YthkkhmmcgjcedaaPlainStr
import Derived.Test.YthkkhmmcgjcedaaStrMem
import Derived.Test.YthkkhmmcgjcedaaOwnAt
namespace Go.Proofs.Ythkkhmmcgjcedaa
open Go.RowKit

theorem alloc_one (w : World) (o : Obj) : (w.alloc o).heap.size = w.heap.size + 1 := by simp
theorem newD_none (n : Int) (b : Bool) : (newD n b).late.length = 0 := by unfold newD; split <;> rfl
/-- the ends' parts in memory -/
def EndsHold (w : World) (lo hi : Nat) (x y : StrD) (p q r : Nat) : Prop :=
  (lo ≤ p ∧ p < hi ∧ BlockIs w p 42 [.int .i64 x.st, .int .i64 x.iss, .int .i64 x.una, .int .i64 x.rcv, .string x.wait, .int .i64 x.sent, .int .i64 x.fin, .bool x.pf, .string x.inn, .slice none 0 0, .bool x.owe, .int .i64 x.due, .int .i64 x.times, .int .i64 y.st, .int .i64 y.iss, .int .i64 y.una, .int .i64 y.rcv, .string y.wait, .int .i64 y.sent, .int .i64 y.fin, .bool y.pf, .string y.inn, .slice none 0 0, .bool y.owe, .int .i64 y.due, .int .i64 y.times]) ∧ (lo ≤ q ∧ q < hi ∧ ∃ a1 c1 a2 c2, BlockIs w q 45 [.slice a1 0 c1, .slice a2 0 c2]) ∧ (lo ≤ r ∧ r < hi ∧ BlockIs w r 3 [.int .i64 0, .int .i64 0])
theorem EndsHold.on {w w' : World} {lo hi : Nat} {x y : StrD} {p q r : Nat} (h : EndsHold w lo hi x y p q r) (hb : Below w.heap.size w w') : EndsHold w' lo hi x y p q r := by
  obtain ⟨⟨a, b, c⟩, ⟨d, e, a1, c1, a2, c2, f⟩, g, i, j⟩ := h
  exact ⟨⟨a, b, c.on hb c.lt⟩, ⟨d, e, a1, c1, a2, c2, f.on hb f.lt⟩, g, i, j.on hb j.lt⟩
def endsAns (p q r : Nat) : Value := .agg #[.slice (some ⟨p, 0, none⟩) 2 2, .slice (some ⟨q, 0, none⟩) 2 2, .slice (some ⟨r, 0, none⟩) 2 2, .slice none 0 0, .int .i64 0]
def endsNone : Value := .agg #[.slice none 0 0, .slice none 0 0, .slice none 0 0, .slice none 0 0, .int .i64 0]
def EndsDid (ok : Bool) (x y : StrD) (w : World) (e : Ending) (w' : World) : Prop :=
  Below w.heap.size w w' ∧ ((ok = false ∧ e = .returned (.tuple #[endsNone, .bool false])) ∨ (ok = true ∧ ∃ p q r, e = .returned (.tuple #[endsAns p q r, .bool true]) ∧ EndsHold w' w.heap.size w'.heap.size x y p q r))
end Go.Proofs.Ythkkhmmcgjcedaa
