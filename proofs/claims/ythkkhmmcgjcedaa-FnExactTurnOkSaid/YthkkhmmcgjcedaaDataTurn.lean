/-
  Turn as data; rows of them in memory, one behind the other.
-/
import Derived.Test.YthkkhmmcgjcedaaBlock
import Derived.BigQuiet
import Derived.Deep.LoopGhost
namespace Go.Proofs.Ythkkhmmcgjcedaa
open Go.RowKit

structure TurnD where
  kd : Int
  en : Int
  pl : Int
/-- numbers that are numbers, texts that are texts -/
def TurnD.Fits (e : TurnD) : Prop := (-9223372036854775808 ≤ e.kd ∧ e.kd ≤ 9223372036854775807) ∧ (-9223372036854775808 ≤ e.en ∧ e.en ≤ 9223372036854775807) ∧ (-9223372036854775808 ≤ e.pl ∧ e.pl ≤ 9223372036854775807)
def turnEnc (e : TurnD) : List Value := [.int .i64 e.kd, .int .i64 e.en, .int .i64 e.pl]
/-- the cells of a row -/
def turnCells (l : List TurnD) : List Value := l.flatMap turnEnc
theorem turnCells_length (l : List TurnD) : (turnCells l).length = l.length * 3 := row_length turnEnc 3 (fun _ => rfl) l
theorem turnCells_take (l : List TurnD) (k : Nat) (h : k < l.length) : turnCells (l.take (k + 1)) = turnCells (l.take k) ++ turnEnc l[k] := by
  rw [List.take_succ_eq_append_getElem h, turnCells, turnCells, List.flatMap_append]
  simp
/-- how many letters -/
def turnOne (_e : TurnD) : Int := (0 : Int)
theorem turnOne_nonneg (e : TurnD) : 0 ≤ turnOne e := by unfold turnOne; omega
def turnBulk : List TurnD → Int
  | [] => 0
  | f :: l => turnOne f + turnBulk l
theorem turnBulk_nonneg (l : List TurnD) : 0 ≤ turnBulk l := by
  induction l with
  | nil => exact Int.le_refl 0
  | cons f l ih => have := turnOne_nonneg f; simp only [turnBulk]; omega
theorem turnBulk_take (l : List TurnD) (k : Nat) (h : k < l.length) : turnBulk (l.take (k + 1)) = turnBulk (l.take k) + turnOne l[k] := by
  induction l generalizing k with
  | nil => simp at h
  | cons f l ih =>
    cases k with
    | zero => simp [turnBulk]
    | succ k =>
      have := ih k (by simpa using h)
      simp only [List.take_succ_cons, turnBulk, List.getElem_cons_succ] at this ⊢
      omega
theorem turnBulk_le (l : List TurnD) (k : Nat) : turnBulk (l.take k) ≤ turnBulk l := by
  induction l generalizing k with
  | nil => simp [turnBulk]
  | cons f l ih =>
    cases k with
    | zero => have := turnBulk_nonneg (f :: l); simpa [turnBulk] using this
    | succ k => have := ih k; simp only [List.take_succ_cons, turnBulk]; omega
theorem turn_le_bulk {l : List TurnD} {f : TurnD} (h : f ∈ l) : turnOne f ≤ turnBulk l := by
  induction l with
  | nil => cases h
  | cons g l ih =>
    simp only [turnBulk]
    have := turnBulk_nonneg l
    have := turnOne_nonneg g
    rcases List.mem_cons.1 h with e | e
    · subst e; omega
    · have := ih e; omega
/-- few and short -/
def TurnsSmall (l : List TurnD) : Prop := l.length ≤ 1048576 ∧ ∀ f ∈ l, turnOne f ≤ 1048576
theorem turnsSmall {l : List TurnD} (h : 0 ≤ (1048576 : Int) - l.length - turnBulk l) : TurnsSmall l := by
  have := turnBulk_nonneg l
  exact ⟨by omega, fun f hf => by have := turn_le_bulk hf; omega⟩
/-- they lie at an address, one behind the other -/
def TurnsAt (w : World) (ao : Option Addr) (l : List TurnD) : Prop :=
  l ≠ [] → ∃ b off, ao = some ⟨b, off, none⟩ ∧ ∀ j (hj : j < l.length), w.cell? ⟨b, off + j * 3, none⟩ = some (.int .i64 l[j].kd) ∧ w.cell? ⟨b, off + j * 3 + 1, none⟩ = some (.int .i64 l[j].en) ∧ w.cell? ⟨b, off + j * 3 + 2, none⟩ = some (.int .i64 l[j].pl)
theorem turnsAt_of {w : World} {g : Nat} {t : TypeId} {l : List TurnD} {r : List Value} (h : BlockIs w g t (turnCells l ++ r)) : TurnsAt w (some ⟨g, 0, none⟩) l := by
  intro _
  refine ⟨g, 0, rfl, fun j hj => ?_⟩
  rw [Nat.zero_add]
  exact ⟨h.cell (row_at turnEnc 3 (fun _ => rfl) l r j 0 hj (by omega)), h.cell (row_at turnEnc 3 (fun _ => rfl) l r j 1 hj (by omega)), h.cell (row_at turnEnc 3 (fun _ => rfl) l r j 2 hj (by omega))⟩
def TurnsFit (l : List TurnD) : Prop := ∀ j (hj : j < l.length), l[j].Fits
theorem TurnsAt.on {w w' : World} {ao : Option Addr} {l : List TurnD} (h : TurnsAt w ao l) (hb : Below w.heap.size w w') : TurnsAt w' ao l := by
  intro h0
  obtain ⟨b, off, e1, e2⟩ := h h0
  refine ⟨b, off, e1, fun j hj => ?_⟩
  obtain ⟨x0, x1, x2⟩ := e2 j hj
  exact ⟨(hb.cell (p := ⟨b, off + j * 3, none⟩) (World.block_lt_of_cell? w _ x0)).trans x0, (hb.cell (p := ⟨b, off + j * 3 + 1, none⟩) (World.block_lt_of_cell? w _ x1)).trans x1, (hb.cell (p := ⟨b, off + j * 3 + 2, none⟩) (World.block_lt_of_cell? w _ x2)).trans x2⟩
/-- cells of a list, written -/
theorem turn_sets (p : List Value) (a0 a1 a2 o0 o1 o2 : Value) (r : List Value) : (((p ++ o0 :: o1 :: o2 :: r).set (p.length) a0).set (p.length + 1) a1).set (p.length + 2) a2 = p ++ a0 :: a1 :: a2 :: r := by
  rw [List.set_append_right _ _ (Nat.le_refl _), List.set_append_right _ _ (by omega), List.set_append_right _ _ (by omega)]
  simp
theorem turn_set_other {cs : List Value} {i j : Nat} {v u : Value} (h : cs[j]? = some u) (hij : i ≠ j) : (cs.set i v)[j]? = some u := by
  rw [List.getElem?_set_ne hij]; exact h
end Go.Proofs.Ythkkhmmcgjcedaa
