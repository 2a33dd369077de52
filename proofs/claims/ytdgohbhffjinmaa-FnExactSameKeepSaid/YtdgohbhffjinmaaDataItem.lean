/-
  Item as data; rows of them in memory, one behind the other.
-/
import Derived.Test.YtdgohbhffjinmaaBlock
import Derived.BigQuiet
import Derived.Deep.LoopGhost
namespace Go.Proofs.Ytdgohbhffjinmaa
open Go.RowKit

structure ItemD where
  key : ByteArray
  val : ByteArray
  ver : Int
/-- numbers that are numbers, texts that are texts -/
def ItemD.Fits (e : ItemD) : Prop := e.key.size ≤ maxLen ∧ e.val.size ≤ maxLen ∧ (-9223372036854775808 ≤ e.ver ∧ e.ver ≤ 9223372036854775807)
def itemEnc (e : ItemD) : List Value := [.string e.key, .string e.val, .int .i64 e.ver]
/-- the cells of a row -/
def itemCells (l : List ItemD) : List Value := l.flatMap itemEnc
theorem itemCells_length (l : List ItemD) : (itemCells l).length = l.length * 3 := row_length itemEnc 3 (fun _ => rfl) l
theorem itemCells_take (l : List ItemD) (k : Nat) (h : k < l.length) : itemCells (l.take (k + 1)) = itemCells (l.take k) ++ itemEnc l[k] := by
  rw [List.take_succ_eq_append_getElem h, itemCells, itemCells, List.flatMap_append]
  simp
/-- how many letters -/
def itemOne (e : ItemD) : Int := (e.key.size : Int) + (e.val.size : Int)
theorem itemOne_nonneg (e : ItemD) : 0 ≤ itemOne e := by unfold itemOne; omega
def itemBulk : List ItemD → Int
  | [] => 0
  | f :: l => itemOne f + itemBulk l
theorem itemBulk_nonneg (l : List ItemD) : 0 ≤ itemBulk l := by
  induction l with
  | nil => exact Int.le_refl 0
  | cons f l ih => have := itemOne_nonneg f; simp only [itemBulk]; omega
theorem itemBulk_take (l : List ItemD) (k : Nat) (h : k < l.length) : itemBulk (l.take (k + 1)) = itemBulk (l.take k) + itemOne l[k] := by
  induction l generalizing k with
  | nil => simp at h
  | cons f l ih =>
    cases k with
    | zero => simp [itemBulk]
    | succ k =>
      have := ih k (by simpa using h)
      simp only [List.take_succ_cons, itemBulk, List.getElem_cons_succ] at this ⊢
      omega
theorem itemBulk_le (l : List ItemD) (k : Nat) : itemBulk (l.take k) ≤ itemBulk l := by
  induction l generalizing k with
  | nil => simp [itemBulk]
  | cons f l ih =>
    cases k with
    | zero => have := itemBulk_nonneg (f :: l); simpa [itemBulk] using this
    | succ k => have := ih k; simp only [List.take_succ_cons, itemBulk]; omega
theorem item_le_bulk {l : List ItemD} {f : ItemD} (h : f ∈ l) : itemOne f ≤ itemBulk l := by
  induction l with
  | nil => cases h
  | cons g l ih =>
    simp only [itemBulk]
    have := itemBulk_nonneg l
    have := itemOne_nonneg g
    rcases List.mem_cons.1 h with e | e
    · subst e; omega
    · have := ih e; omega
/-- few and short -/
def ItemsSmall (l : List ItemD) : Prop := l.length ≤ 1048576 ∧ ∀ f ∈ l, itemOne f ≤ 1048576
theorem itemsSmall {l : List ItemD} (h : 0 ≤ (1048576 : Int) - l.length - itemBulk l) : ItemsSmall l := by
  have := itemBulk_nonneg l
  exact ⟨by omega, fun f hf => by have := item_le_bulk hf; omega⟩
/-- they lie at an address, one behind the other -/
def ItemsAt (w : World) (ao : Option Addr) (l : List ItemD) : Prop :=
  l ≠ [] → ∃ b off, ao = some ⟨b, off, none⟩ ∧ ∀ j (hj : j < l.length), w.cell? ⟨b, off + j * 3, none⟩ = some (.string l[j].key) ∧ w.cell? ⟨b, off + j * 3 + 1, none⟩ = some (.string l[j].val) ∧ w.cell? ⟨b, off + j * 3 + 2, none⟩ = some (.int .i64 l[j].ver)
theorem itemsAt_of {w : World} {g : Nat} {t : TypeId} {l : List ItemD} {r : List Value} (h : BlockIs w g t (itemCells l ++ r)) : ItemsAt w (some ⟨g, 0, none⟩) l := by
  intro _
  refine ⟨g, 0, rfl, fun j hj => ?_⟩
  rw [Nat.zero_add]
  exact ⟨h.cell (row_at itemEnc 3 (fun _ => rfl) l r j 0 hj (by omega)), h.cell (row_at itemEnc 3 (fun _ => rfl) l r j 1 hj (by omega)), h.cell (row_at itemEnc 3 (fun _ => rfl) l r j 2 hj (by omega))⟩
def ItemsFit (l : List ItemD) : Prop := ∀ j (hj : j < l.length), l[j].Fits
theorem ItemsAt.on {w w' : World} {ao : Option Addr} {l : List ItemD} (h : ItemsAt w ao l) (hb : Below w.heap.size w w') : ItemsAt w' ao l := by
  intro h0
  obtain ⟨b, off, e1, e2⟩ := h h0
  refine ⟨b, off, e1, fun j hj => ?_⟩
  obtain ⟨x0, x1, x2⟩ := e2 j hj
  exact ⟨(hb.cell (p := ⟨b, off + j * 3, none⟩) (World.block_lt_of_cell? w _ x0)).trans x0, (hb.cell (p := ⟨b, off + j * 3 + 1, none⟩) (World.block_lt_of_cell? w _ x1)).trans x1, (hb.cell (p := ⟨b, off + j * 3 + 2, none⟩) (World.block_lt_of_cell? w _ x2)).trans x2⟩
/-- cells of a list, written -/
theorem item_sets (p : List Value) (a0 a1 a2 o0 o1 o2 : Value) (r : List Value) : (((p ++ o0 :: o1 :: o2 :: r).set (p.length) a0).set (p.length + 1) a1).set (p.length + 2) a2 = p ++ a0 :: a1 :: a2 :: r := by
  rw [List.set_append_right _ _ (Nat.le_refl _), List.set_append_right _ _ (by omega), List.set_append_right _ _ (by omega)]
  simp
theorem item_set_other {cs : List Value} {i j : Nat} {v u : Value} (h : cs[j]? = some u) (hij : i ≠ j) : (cs.set i v)[j]? = some u := by
  rw [List.getElem?_set_ne hij]; exact h
end Go.Proofs.Ytdgohbhffjinmaa
