/-
  Cell as data; rows of them in memory, one behind the other.
-/
import Derived.Test.YtneociicjidcnaaDoorBlock
import Derived.BigQuiet
import Derived.Deep.LoopGhost
namespace Go.Proofs.YtneociicjidcnaaDoor
open Go.RowKit

structure CellD where
  dst : Int
  src : Int
  kd : Int
  body : ByteArray
/-- numbers that are numbers, texts that are texts -/
def CellD.Fits (e : CellD) : Prop := (-9223372036854775808 ≤ e.dst ∧ e.dst ≤ 9223372036854775807) ∧ (-9223372036854775808 ≤ e.src ∧ e.src ≤ 9223372036854775807) ∧ (-9223372036854775808 ≤ e.kd ∧ e.kd ≤ 9223372036854775807) ∧ e.body.size ≤ maxLen
def cellEnc (e : CellD) : List Value := [.int .i64 e.dst, .int .i64 e.src, .int .i64 e.kd, .string e.body]
/-- the cells of a row -/
def cellCells (l : List CellD) : List Value := l.flatMap cellEnc
theorem cellCells_length (l : List CellD) : (cellCells l).length = l.length * 4 := row_length cellEnc 4 (fun _ => rfl) l
theorem cellCells_take (l : List CellD) (k : Nat) (h : k < l.length) : cellCells (l.take (k + 1)) = cellCells (l.take k) ++ cellEnc l[k] := by
  rw [List.take_succ_eq_append_getElem h, cellCells, cellCells, List.flatMap_append]
  simp
/-- how many letters -/
def cellOne (e : CellD) : Int := (e.body.size : Int)
theorem cellOne_nonneg (e : CellD) : 0 ≤ cellOne e := by unfold cellOne; omega
def cellBulk : List CellD → Int
  | [] => 0
  | f :: l => cellOne f + cellBulk l
theorem cellBulk_nonneg (l : List CellD) : 0 ≤ cellBulk l := by
  induction l with
  | nil => exact Int.le_refl 0
  | cons f l ih => have := cellOne_nonneg f; simp only [cellBulk]; omega
theorem cellBulk_take (l : List CellD) (k : Nat) (h : k < l.length) : cellBulk (l.take (k + 1)) = cellBulk (l.take k) + cellOne l[k] := by
  induction l generalizing k with
  | nil => simp at h
  | cons f l ih =>
    cases k with
    | zero => simp [cellBulk]
    | succ k =>
      have := ih k (by simpa using h)
      simp only [List.take_succ_cons, cellBulk, List.getElem_cons_succ] at this ⊢
      omega
theorem cellBulk_le (l : List CellD) (k : Nat) : cellBulk (l.take k) ≤ cellBulk l := by
  induction l generalizing k with
  | nil => simp [cellBulk]
  | cons f l ih =>
    cases k with
    | zero => have := cellBulk_nonneg (f :: l); simpa [cellBulk] using this
    | succ k => have := ih k; simp only [List.take_succ_cons, cellBulk]; omega
theorem cell_le_bulk {l : List CellD} {f : CellD} (h : f ∈ l) : cellOne f ≤ cellBulk l := by
  induction l with
  | nil => cases h
  | cons g l ih =>
    simp only [cellBulk]
    have := cellBulk_nonneg l
    have := cellOne_nonneg g
    rcases List.mem_cons.1 h with e | e
    · subst e; omega
    · have := ih e; omega
/-- few and short -/
def CellsSmall (l : List CellD) : Prop := l.length ≤ 1048576 ∧ ∀ f ∈ l, cellOne f ≤ 1048576
theorem cellsSmall {l : List CellD} (h : 0 ≤ (1048576 : Int) - l.length - cellBulk l) : CellsSmall l := by
  have := cellBulk_nonneg l
  exact ⟨by omega, fun f hf => by have := cell_le_bulk hf; omega⟩
/-- they lie at an address, one behind the other -/
def CellsAt (w : World) (ao : Option Addr) (l : List CellD) : Prop :=
  l ≠ [] → ∃ b off, ao = some ⟨b, off, none⟩ ∧ ∀ j (hj : j < l.length), w.cell? ⟨b, off + j * 4, none⟩ = some (.int .i64 l[j].dst) ∧ w.cell? ⟨b, off + j * 4 + 1, none⟩ = some (.int .i64 l[j].src) ∧ w.cell? ⟨b, off + j * 4 + 2, none⟩ = some (.int .i64 l[j].kd) ∧ w.cell? ⟨b, off + j * 4 + 3, none⟩ = some (.string l[j].body)
theorem cellsAt_of {w : World} {g : Nat} {t : TypeId} {l : List CellD} {r : List Value} (h : BlockIs w g t (cellCells l ++ r)) : CellsAt w (some ⟨g, 0, none⟩) l := by
  intro _
  refine ⟨g, 0, rfl, fun j hj => ?_⟩
  rw [Nat.zero_add]
  exact ⟨h.cell (row_at cellEnc 4 (fun _ => rfl) l r j 0 hj (by omega)), h.cell (row_at cellEnc 4 (fun _ => rfl) l r j 1 hj (by omega)), h.cell (row_at cellEnc 4 (fun _ => rfl) l r j 2 hj (by omega)), h.cell (row_at cellEnc 4 (fun _ => rfl) l r j 3 hj (by omega))⟩
def CellsFit (l : List CellD) : Prop := ∀ j (hj : j < l.length), l[j].Fits
theorem CellsAt.on {w w' : World} {ao : Option Addr} {l : List CellD} (h : CellsAt w ao l) (hb : Below w.heap.size w w') : CellsAt w' ao l := by
  intro h0
  obtain ⟨b, off, e1, e2⟩ := h h0
  refine ⟨b, off, e1, fun j hj => ?_⟩
  obtain ⟨x0, x1, x2, x3⟩ := e2 j hj
  exact ⟨(hb.cell (p := ⟨b, off + j * 4, none⟩) (World.block_lt_of_cell? w _ x0)).trans x0, (hb.cell (p := ⟨b, off + j * 4 + 1, none⟩) (World.block_lt_of_cell? w _ x1)).trans x1, (hb.cell (p := ⟨b, off + j * 4 + 2, none⟩) (World.block_lt_of_cell? w _ x2)).trans x2, (hb.cell (p := ⟨b, off + j * 4 + 3, none⟩) (World.block_lt_of_cell? w _ x3)).trans x3⟩
/-- cells of a list, written -/
theorem cell_sets (p : List Value) (a0 a1 a2 a3 o0 o1 o2 o3 : Value) (r : List Value) : ((((p ++ o0 :: o1 :: o2 :: o3 :: r).set (p.length) a0).set (p.length + 1) a1).set (p.length + 2) a2).set (p.length + 3) a3 = p ++ a0 :: a1 :: a2 :: a3 :: r := by
  rw [List.set_append_right _ _ (Nat.le_refl _), List.set_append_right _ _ (by omega), List.set_append_right _ _ (by omega), List.set_append_right _ _ (by omega)]
  simp
theorem cell_set_other {cs : List Value} {i j : Nat} {v u : Value} (h : cs[j]? = some u) (hij : i ≠ j) : (cs.set i v)[j]? = some u := by
  rw [List.getElem?_set_ne hij]; exact h
end Go.Proofs.YtneociicjidcnaaDoor
