/-
  Command as data; rows of them in memory, one behind the other.
-/
import Derived.Test.YtdgohbhffjinmaaDoorBlock
import Derived.BigQuiet
import Derived.Deep.LoopGhost
namespace Go.Proofs.YtdgohbhffjinmaaDoor
open Go.RowKit

structure CommandD where
  op : Int
  token : Int
  seq : Int
  key : ByteArray
  val : ByteArray
  ver : Int
/-- numbers that are numbers, texts that are texts -/
def CommandD.Fits (e : CommandD) : Prop := (-9223372036854775808 ≤ e.op ∧ e.op ≤ 9223372036854775807) ∧ (-9223372036854775808 ≤ e.token ∧ e.token ≤ 9223372036854775807) ∧ (-9223372036854775808 ≤ e.seq ∧ e.seq ≤ 9223372036854775807) ∧ e.key.size ≤ maxLen ∧ e.val.size ≤ maxLen ∧ (-9223372036854775808 ≤ e.ver ∧ e.ver ≤ 9223372036854775807)
def commandEnc (e : CommandD) : List Value := [.int .i64 e.op, .int .i64 e.token, .int .i64 e.seq, .string e.key, .string e.val, .int .i64 e.ver]
/-- the cells of a row -/
def commandCells (l : List CommandD) : List Value := l.flatMap commandEnc
theorem commandCells_length (l : List CommandD) : (commandCells l).length = l.length * 6 := row_length commandEnc 6 (fun _ => rfl) l
theorem commandCells_take (l : List CommandD) (k : Nat) (h : k < l.length) : commandCells (l.take (k + 1)) = commandCells (l.take k) ++ commandEnc l[k] := by
  rw [List.take_succ_eq_append_getElem h, commandCells, commandCells, List.flatMap_append]
  simp
/-- how many letters -/
def commandOne (e : CommandD) : Int := (e.key.size : Int) + (e.val.size : Int)
theorem commandOne_nonneg (e : CommandD) : 0 ≤ commandOne e := by unfold commandOne; omega
def commandBulk : List CommandD → Int
  | [] => 0
  | f :: l => commandOne f + commandBulk l
theorem commandBulk_nonneg (l : List CommandD) : 0 ≤ commandBulk l := by
  induction l with
  | nil => exact Int.le_refl 0
  | cons f l ih => have := commandOne_nonneg f; simp only [commandBulk]; omega
theorem commandBulk_take (l : List CommandD) (k : Nat) (h : k < l.length) : commandBulk (l.take (k + 1)) = commandBulk (l.take k) + commandOne l[k] := by
  induction l generalizing k with
  | nil => simp at h
  | cons f l ih =>
    cases k with
    | zero => simp [commandBulk]
    | succ k =>
      have := ih k (by simpa using h)
      simp only [List.take_succ_cons, commandBulk, List.getElem_cons_succ] at this ⊢
      omega
theorem commandBulk_le (l : List CommandD) (k : Nat) : commandBulk (l.take k) ≤ commandBulk l := by
  induction l generalizing k with
  | nil => simp [commandBulk]
  | cons f l ih =>
    cases k with
    | zero => have := commandBulk_nonneg (f :: l); simpa [commandBulk] using this
    | succ k => have := ih k; simp only [List.take_succ_cons, commandBulk]; omega
theorem command_le_bulk {l : List CommandD} {f : CommandD} (h : f ∈ l) : commandOne f ≤ commandBulk l := by
  induction l with
  | nil => cases h
  | cons g l ih =>
    simp only [commandBulk]
    have := commandBulk_nonneg l
    have := commandOne_nonneg g
    rcases List.mem_cons.1 h with e | e
    · subst e; omega
    · have := ih e; omega
/-- few and short -/
def CommandsSmall (l : List CommandD) : Prop := l.length ≤ 1048576 ∧ ∀ f ∈ l, commandOne f ≤ 1048576
theorem commandsSmall {l : List CommandD} (h : 0 ≤ (1048576 : Int) - l.length - commandBulk l) : CommandsSmall l := by
  have := commandBulk_nonneg l
  exact ⟨by omega, fun f hf => by have := command_le_bulk hf; omega⟩
/-- they lie at an address, one behind the other -/
def CommandsAt (w : World) (ao : Option Addr) (l : List CommandD) : Prop :=
  l ≠ [] → ∃ b off, ao = some ⟨b, off, none⟩ ∧ ∀ j (hj : j < l.length), w.cell? ⟨b, off + j * 6, none⟩ = some (.int .i64 l[j].op) ∧ w.cell? ⟨b, off + j * 6 + 1, none⟩ = some (.int .i64 l[j].token) ∧ w.cell? ⟨b, off + j * 6 + 2, none⟩ = some (.int .i64 l[j].seq) ∧ w.cell? ⟨b, off + j * 6 + 3, none⟩ = some (.string l[j].key) ∧ w.cell? ⟨b, off + j * 6 + 4, none⟩ = some (.string l[j].val) ∧ w.cell? ⟨b, off + j * 6 + 5, none⟩ = some (.int .i64 l[j].ver)
theorem commandsAt_of {w : World} {g : Nat} {t : TypeId} {l : List CommandD} {r : List Value} (h : BlockIs w g t (commandCells l ++ r)) : CommandsAt w (some ⟨g, 0, none⟩) l := by
  intro _
  refine ⟨g, 0, rfl, fun j hj => ?_⟩
  rw [Nat.zero_add]
  exact ⟨h.cell (row_at commandEnc 6 (fun _ => rfl) l r j 0 hj (by omega)), h.cell (row_at commandEnc 6 (fun _ => rfl) l r j 1 hj (by omega)), h.cell (row_at commandEnc 6 (fun _ => rfl) l r j 2 hj (by omega)), h.cell (row_at commandEnc 6 (fun _ => rfl) l r j 3 hj (by omega)), h.cell (row_at commandEnc 6 (fun _ => rfl) l r j 4 hj (by omega)), h.cell (row_at commandEnc 6 (fun _ => rfl) l r j 5 hj (by omega))⟩
def CommandsFit (l : List CommandD) : Prop := ∀ j (hj : j < l.length), l[j].Fits
theorem CommandsAt.on {w w' : World} {ao : Option Addr} {l : List CommandD} (h : CommandsAt w ao l) (hb : Below w.heap.size w w') : CommandsAt w' ao l := by
  intro h0
  obtain ⟨b, off, e1, e2⟩ := h h0
  refine ⟨b, off, e1, fun j hj => ?_⟩
  obtain ⟨x0, x1, x2, x3, x4, x5⟩ := e2 j hj
  exact ⟨(hb.cell (p := ⟨b, off + j * 6, none⟩) (World.block_lt_of_cell? w _ x0)).trans x0, (hb.cell (p := ⟨b, off + j * 6 + 1, none⟩) (World.block_lt_of_cell? w _ x1)).trans x1, (hb.cell (p := ⟨b, off + j * 6 + 2, none⟩) (World.block_lt_of_cell? w _ x2)).trans x2, (hb.cell (p := ⟨b, off + j * 6 + 3, none⟩) (World.block_lt_of_cell? w _ x3)).trans x3, (hb.cell (p := ⟨b, off + j * 6 + 4, none⟩) (World.block_lt_of_cell? w _ x4)).trans x4, (hb.cell (p := ⟨b, off + j * 6 + 5, none⟩) (World.block_lt_of_cell? w _ x5)).trans x5⟩
/-- cells of a list, written -/
theorem command_sets (p : List Value) (a0 a1 a2 a3 a4 a5 o0 o1 o2 o3 o4 o5 : Value) (r : List Value) : ((((((p ++ o0 :: o1 :: o2 :: o3 :: o4 :: o5 :: r).set (p.length) a0).set (p.length + 1) a1).set (p.length + 2) a2).set (p.length + 3) a3).set (p.length + 4) a4).set (p.length + 5) a5 = p ++ a0 :: a1 :: a2 :: a3 :: a4 :: a5 :: r := by
  rw [List.set_append_right _ _ (Nat.le_refl _), List.set_append_right _ _ (by omega), List.set_append_right _ _ (by omega), List.set_append_right _ _ (by omega), List.set_append_right _ _ (by omega), List.set_append_right _ _ (by omega)]
  simp
theorem command_set_other {cs : List Value} {i j : Nat} {v u : Value} (h : cs[j]? = some u) (hij : i ≠ j) : (cs.set i v)[j]? = some u := by
  rw [List.getElem?_set_ne hij]; exact h
end Go.Proofs.YtdgohbhffjinmaaDoor
