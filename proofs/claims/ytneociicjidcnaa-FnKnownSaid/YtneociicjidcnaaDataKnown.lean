/-
  Known as data; rows of them in memory, one behind the other.
-/
import Derived.Test.YtneociicjidcnaaBlock
import Derived.BigQuiet
import Derived.Deep.LoopGhost
namespace Go.Proofs.Ytneociicjidcnaa
open Go.RowKit

structure KnownD where
  addr : Int
  card : Int
/-- numbers that are numbers, texts that are texts -/
def KnownD.Fits (e : KnownD) : Prop := (-9223372036854775808 ≤ e.addr ∧ e.addr ≤ 9223372036854775807) ∧ (-9223372036854775808 ≤ e.card ∧ e.card ≤ 9223372036854775807)
def knownEnc (e : KnownD) : List Value := [.int .i64 e.addr, .int .i64 e.card]
/-- the cells of a row -/
def knownCells (l : List KnownD) : List Value := l.flatMap knownEnc
theorem knownCells_length (l : List KnownD) : (knownCells l).length = l.length * 2 := row_length knownEnc 2 (fun _ => rfl) l
theorem knownCells_take (l : List KnownD) (k : Nat) (h : k < l.length) : knownCells (l.take (k + 1)) = knownCells (l.take k) ++ knownEnc l[k] := by
  rw [List.take_succ_eq_append_getElem h, knownCells, knownCells, List.flatMap_append]
  simp
/-- how many letters -/
def knownOne (_e : KnownD) : Int := (0 : Int)
theorem knownOne_nonneg (e : KnownD) : 0 ≤ knownOne e := by unfold knownOne; omega
def knownBulk : List KnownD → Int
  | [] => 0
  | f :: l => knownOne f + knownBulk l
theorem knownBulk_nonneg (l : List KnownD) : 0 ≤ knownBulk l := by
  induction l with
  | nil => exact Int.le_refl 0
  | cons f l ih => have := knownOne_nonneg f; simp only [knownBulk]; omega
theorem knownBulk_take (l : List KnownD) (k : Nat) (h : k < l.length) : knownBulk (l.take (k + 1)) = knownBulk (l.take k) + knownOne l[k] := by
  induction l generalizing k with
  | nil => simp at h
  | cons f l ih =>
    cases k with
    | zero => simp [knownBulk]
    | succ k =>
      have := ih k (by simpa using h)
      simp only [List.take_succ_cons, knownBulk, List.getElem_cons_succ] at this ⊢
      omega
theorem knownBulk_le (l : List KnownD) (k : Nat) : knownBulk (l.take k) ≤ knownBulk l := by
  induction l generalizing k with
  | nil => simp [knownBulk]
  | cons f l ih =>
    cases k with
    | zero => have := knownBulk_nonneg (f :: l); simpa [knownBulk] using this
    | succ k => have := ih k; simp only [List.take_succ_cons, knownBulk]; omega
theorem known_le_bulk {l : List KnownD} {f : KnownD} (h : f ∈ l) : knownOne f ≤ knownBulk l := by
  induction l with
  | nil => cases h
  | cons g l ih =>
    simp only [knownBulk]
    have := knownBulk_nonneg l
    have := knownOne_nonneg g
    rcases List.mem_cons.1 h with e | e
    · subst e; omega
    · have := ih e; omega
/-- few and short -/
def KnownsSmall (l : List KnownD) : Prop := l.length ≤ 1048576 ∧ ∀ f ∈ l, knownOne f ≤ 1048576
theorem knownsSmall {l : List KnownD} (h : 0 ≤ (1048576 : Int) - l.length - knownBulk l) : KnownsSmall l := by
  have := knownBulk_nonneg l
  exact ⟨by omega, fun f hf => by have := known_le_bulk hf; omega⟩
/-- they lie at an address, one behind the other -/
def KnownsAt (w : World) (ao : Option Addr) (l : List KnownD) : Prop :=
  l ≠ [] → ∃ b off, ao = some ⟨b, off, none⟩ ∧ ∀ j (hj : j < l.length), w.cell? ⟨b, off + j * 2, none⟩ = some (.int .i64 l[j].addr) ∧ w.cell? ⟨b, off + j * 2 + 1, none⟩ = some (.int .i64 l[j].card)
theorem knownsAt_of {w : World} {g : Nat} {t : TypeId} {l : List KnownD} {r : List Value} (h : BlockIs w g t (knownCells l ++ r)) : KnownsAt w (some ⟨g, 0, none⟩) l := by
  intro _
  refine ⟨g, 0, rfl, fun j hj => ?_⟩
  rw [Nat.zero_add]
  exact ⟨h.cell (row_at knownEnc 2 (fun _ => rfl) l r j 0 hj (by omega)), h.cell (row_at knownEnc 2 (fun _ => rfl) l r j 1 hj (by omega))⟩
def KnownsFit (l : List KnownD) : Prop := ∀ j (hj : j < l.length), l[j].Fits
theorem KnownsAt.on {w w' : World} {ao : Option Addr} {l : List KnownD} (h : KnownsAt w ao l) (hb : Below w.heap.size w w') : KnownsAt w' ao l := by
  intro h0
  obtain ⟨b, off, e1, e2⟩ := h h0
  refine ⟨b, off, e1, fun j hj => ?_⟩
  obtain ⟨x0, x1⟩ := e2 j hj
  exact ⟨(hb.cell (p := ⟨b, off + j * 2, none⟩) (World.block_lt_of_cell? w _ x0)).trans x0, (hb.cell (p := ⟨b, off + j * 2 + 1, none⟩) (World.block_lt_of_cell? w _ x1)).trans x1⟩
/-- cells of a list, written -/
theorem known_sets (p : List Value) (a0 a1 o0 o1 : Value) (r : List Value) : ((p ++ o0 :: o1 :: r).set (p.length) a0).set (p.length + 1) a1 = p ++ a0 :: a1 :: r := by
  rw [List.set_append_right _ _ (Nat.le_refl _), List.set_append_right _ _ (by omega)]
  simp
theorem known_set_other {cs : List Value} {i j : Nat} {v u : Value} (h : cs[j]? = some u) (hij : i ≠ j) : (cs.set i v)[j]? = some u := by
  rw [List.getElem?_set_ne hij]; exact h
end Go.Proofs.Ytneociicjidcnaa
