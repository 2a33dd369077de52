/-
  Seg as data; rows of them in memory, one behind the other.
-/
import Derived.Test.YthkkhmmcgjcedaaBlock
import Derived.BigQuiet
import Derived.Deep.LoopGhost
namespace Go.Proofs.Ythkkhmmcgjcedaa
open Go.RowKit

structure SegD where
  num : Int
  ack : Int
  flags : Int
  body : ByteArray
/-- numbers that are numbers, texts that are texts -/
def SegD.Fits (e : SegD) : Prop := (-9223372036854775808 ≤ e.num ∧ e.num ≤ 9223372036854775807) ∧ (-9223372036854775808 ≤ e.ack ∧ e.ack ≤ 9223372036854775807) ∧ (-9223372036854775808 ≤ e.flags ∧ e.flags ≤ 9223372036854775807) ∧ e.body.size ≤ maxLen
def segEnc (e : SegD) : List Value := [.int .i64 e.num, .int .i64 e.ack, .int .i64 e.flags, .string e.body]
/-- the cells of a row -/
def segCells (l : List SegD) : List Value := l.flatMap segEnc
theorem segCells_length (l : List SegD) : (segCells l).length = l.length * 4 := row_length segEnc 4 (fun _ => rfl) l
theorem segCells_take (l : List SegD) (k : Nat) (h : k < l.length) : segCells (l.take (k + 1)) = segCells (l.take k) ++ segEnc l[k] := by
  rw [List.take_succ_eq_append_getElem h, segCells, segCells, List.flatMap_append]
  simp
/-- how many letters -/
def segOne (e : SegD) : Int := (e.body.size : Int)
theorem segOne_nonneg (e : SegD) : 0 ≤ segOne e := by unfold segOne; omega
def segBulk : List SegD → Int
  | [] => 0
  | f :: l => segOne f + segBulk l
theorem segBulk_nonneg (l : List SegD) : 0 ≤ segBulk l := by
  induction l with
  | nil => exact Int.le_refl 0
  | cons f l ih => have := segOne_nonneg f; simp only [segBulk]; omega
theorem segBulk_take (l : List SegD) (k : Nat) (h : k < l.length) : segBulk (l.take (k + 1)) = segBulk (l.take k) + segOne l[k] := by
  induction l generalizing k with
  | nil => simp at h
  | cons f l ih =>
    cases k with
    | zero => simp [segBulk]
    | succ k =>
      have := ih k (by simpa using h)
      simp only [List.take_succ_cons, segBulk, List.getElem_cons_succ] at this ⊢
      omega
theorem segBulk_le (l : List SegD) (k : Nat) : segBulk (l.take k) ≤ segBulk l := by
  induction l generalizing k with
  | nil => simp [segBulk]
  | cons f l ih =>
    cases k with
    | zero => have := segBulk_nonneg (f :: l); simpa [segBulk] using this
    | succ k => have := ih k; simp only [List.take_succ_cons, segBulk]; omega
theorem seg_le_bulk {l : List SegD} {f : SegD} (h : f ∈ l) : segOne f ≤ segBulk l := by
  induction l with
  | nil => cases h
  | cons g l ih =>
    simp only [segBulk]
    have := segBulk_nonneg l
    have := segOne_nonneg g
    rcases List.mem_cons.1 h with e | e
    · subst e; omega
    · have := ih e; omega
/-- few and short -/
def SegsSmall (l : List SegD) : Prop := l.length ≤ 1048576 ∧ ∀ f ∈ l, segOne f ≤ 1048576
theorem segsSmall {l : List SegD} (h : 0 ≤ (1048576 : Int) - l.length - segBulk l) : SegsSmall l := by
  have := segBulk_nonneg l
  exact ⟨by omega, fun f hf => by have := seg_le_bulk hf; omega⟩
/-- they lie at an address, one behind the other -/
def SegsAt (w : World) (ao : Option Addr) (l : List SegD) : Prop :=
  l ≠ [] → ∃ b off, ao = some ⟨b, off, none⟩ ∧ ∀ j (hj : j < l.length), w.cell? ⟨b, off + j * 4, none⟩ = some (.int .i64 l[j].num) ∧ w.cell? ⟨b, off + j * 4 + 1, none⟩ = some (.int .i64 l[j].ack) ∧ w.cell? ⟨b, off + j * 4 + 2, none⟩ = some (.int .i64 l[j].flags) ∧ w.cell? ⟨b, off + j * 4 + 3, none⟩ = some (.string l[j].body)
theorem segsAt_of {w : World} {g : Nat} {t : TypeId} {l : List SegD} {r : List Value} (h : BlockIs w g t (segCells l ++ r)) : SegsAt w (some ⟨g, 0, none⟩) l := by
  intro _
  refine ⟨g, 0, rfl, fun j hj => ?_⟩
  rw [Nat.zero_add]
  exact ⟨h.cell (row_at segEnc 4 (fun _ => rfl) l r j 0 hj (by omega)), h.cell (row_at segEnc 4 (fun _ => rfl) l r j 1 hj (by omega)), h.cell (row_at segEnc 4 (fun _ => rfl) l r j 2 hj (by omega)), h.cell (row_at segEnc 4 (fun _ => rfl) l r j 3 hj (by omega))⟩
def SegsFit (l : List SegD) : Prop := ∀ j (hj : j < l.length), l[j].Fits
theorem SegsAt.on {w w' : World} {ao : Option Addr} {l : List SegD} (h : SegsAt w ao l) (hb : Below w.heap.size w w') : SegsAt w' ao l := by
  intro h0
  obtain ⟨b, off, e1, e2⟩ := h h0
  refine ⟨b, off, e1, fun j hj => ?_⟩
  obtain ⟨x0, x1, x2, x3⟩ := e2 j hj
  exact ⟨(hb.cell (p := ⟨b, off + j * 4, none⟩) (World.block_lt_of_cell? w _ x0)).trans x0, (hb.cell (p := ⟨b, off + j * 4 + 1, none⟩) (World.block_lt_of_cell? w _ x1)).trans x1, (hb.cell (p := ⟨b, off + j * 4 + 2, none⟩) (World.block_lt_of_cell? w _ x2)).trans x2, (hb.cell (p := ⟨b, off + j * 4 + 3, none⟩) (World.block_lt_of_cell? w _ x3)).trans x3⟩
/-- cells of a list, written -/
theorem seg_sets (p : List Value) (a0 a1 a2 a3 o0 o1 o2 o3 : Value) (r : List Value) : ((((p ++ o0 :: o1 :: o2 :: o3 :: r).set (p.length) a0).set (p.length + 1) a1).set (p.length + 2) a2).set (p.length + 3) a3 = p ++ a0 :: a1 :: a2 :: a3 :: r := by
  rw [List.set_append_right _ _ (Nat.le_refl _), List.set_append_right _ _ (by omega), List.set_append_right _ _ (by omega), List.set_append_right _ _ (by omega)]
  simp
theorem seg_set_other {cs : List Value} {i j : Nat} {v u : Value} (h : cs[j]? = some u) (hij : i ≠ j) : (cs.set i v)[j]? = some u := by
  rw [List.getElem?_set_ne hij]; exact h
end Go.Proofs.Ythkkhmmcgjcedaa
