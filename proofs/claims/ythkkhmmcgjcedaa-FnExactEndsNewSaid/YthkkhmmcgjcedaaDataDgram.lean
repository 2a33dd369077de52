/-
  Dgram as data; rows of them in memory, one behind the other.
-/
import Derived.Test.YthkkhmmcgjcedaaBlock
import Derived.BigQuiet
import Derived.Deep.LoopGhost
namespace Go.Proofs.Ythkkhmmcgjcedaa
open Go.RowKit

structure DgramD where
  src : Int
  dst : Int
  ident : Int
  place : Int
  more : Bool
  body : ByteArray
/-- numbers that are numbers, texts that are texts -/
def DgramD.Fits (e : DgramD) : Prop := (-9223372036854775808 ≤ e.src ∧ e.src ≤ 9223372036854775807) ∧ (-9223372036854775808 ≤ e.dst ∧ e.dst ≤ 9223372036854775807) ∧ (-9223372036854775808 ≤ e.ident ∧ e.ident ≤ 9223372036854775807) ∧ (-9223372036854775808 ≤ e.place ∧ e.place ≤ 9223372036854775807) ∧ True ∧ e.body.size ≤ maxLen
def dgramEnc (e : DgramD) : List Value := [.int .i64 e.src, .int .i64 e.dst, .int .i64 e.ident, .int .i64 e.place, .bool e.more, .string e.body]
/-- the cells of a row -/
def dgramCells (l : List DgramD) : List Value := l.flatMap dgramEnc
theorem dgramCells_length (l : List DgramD) : (dgramCells l).length = l.length * 6 := row_length dgramEnc 6 (fun _ => rfl) l
theorem dgramCells_take (l : List DgramD) (k : Nat) (h : k < l.length) : dgramCells (l.take (k + 1)) = dgramCells (l.take k) ++ dgramEnc l[k] := by
  rw [List.take_succ_eq_append_getElem h, dgramCells, dgramCells, List.flatMap_append]
  simp
/-- how many letters -/
def dgramOne (e : DgramD) : Int := (e.body.size : Int)
theorem dgramOne_nonneg (e : DgramD) : 0 ≤ dgramOne e := by unfold dgramOne; omega
def dgramBulk : List DgramD → Int
  | [] => 0
  | f :: l => dgramOne f + dgramBulk l
theorem dgramBulk_nonneg (l : List DgramD) : 0 ≤ dgramBulk l := by
  induction l with
  | nil => exact Int.le_refl 0
  | cons f l ih => have := dgramOne_nonneg f; simp only [dgramBulk]; omega
theorem dgramBulk_take (l : List DgramD) (k : Nat) (h : k < l.length) : dgramBulk (l.take (k + 1)) = dgramBulk (l.take k) + dgramOne l[k] := by
  induction l generalizing k with
  | nil => simp at h
  | cons f l ih =>
    cases k with
    | zero => simp [dgramBulk]
    | succ k =>
      have := ih k (by simpa using h)
      simp only [List.take_succ_cons, dgramBulk, List.getElem_cons_succ] at this ⊢
      omega
theorem dgramBulk_le (l : List DgramD) (k : Nat) : dgramBulk (l.take k) ≤ dgramBulk l := by
  induction l generalizing k with
  | nil => simp [dgramBulk]
  | cons f l ih =>
    cases k with
    | zero => have := dgramBulk_nonneg (f :: l); simpa [dgramBulk] using this
    | succ k => have := ih k; simp only [List.take_succ_cons, dgramBulk]; omega
theorem dgram_le_bulk {l : List DgramD} {f : DgramD} (h : f ∈ l) : dgramOne f ≤ dgramBulk l := by
  induction l with
  | nil => cases h
  | cons g l ih =>
    simp only [dgramBulk]
    have := dgramBulk_nonneg l
    have := dgramOne_nonneg g
    rcases List.mem_cons.1 h with e | e
    · subst e; omega
    · have := ih e; omega
/-- few and short -/
def DgramsSmall (l : List DgramD) : Prop := l.length ≤ 1048576 ∧ ∀ f ∈ l, dgramOne f ≤ 1048576
theorem dgramsSmall {l : List DgramD} (h : 0 ≤ (1048576 : Int) - l.length - dgramBulk l) : DgramsSmall l := by
  have := dgramBulk_nonneg l
  exact ⟨by omega, fun f hf => by have := dgram_le_bulk hf; omega⟩
/-- they lie at an address, one behind the other -/
def DgramsAt (w : World) (ao : Option Addr) (l : List DgramD) : Prop :=
  l ≠ [] → ∃ b off, ao = some ⟨b, off, none⟩ ∧ ∀ j (hj : j < l.length), w.cell? ⟨b, off + j * 6, none⟩ = some (.int .i64 l[j].src) ∧ w.cell? ⟨b, off + j * 6 + 1, none⟩ = some (.int .i64 l[j].dst) ∧ w.cell? ⟨b, off + j * 6 + 2, none⟩ = some (.int .i64 l[j].ident) ∧ w.cell? ⟨b, off + j * 6 + 3, none⟩ = some (.int .i64 l[j].place) ∧ w.cell? ⟨b, off + j * 6 + 4, none⟩ = some (.bool l[j].more) ∧ w.cell? ⟨b, off + j * 6 + 5, none⟩ = some (.string l[j].body)
theorem dgramsAt_of {w : World} {g : Nat} {t : TypeId} {l : List DgramD} {r : List Value} (h : BlockIs w g t (dgramCells l ++ r)) : DgramsAt w (some ⟨g, 0, none⟩) l := by
  intro _
  refine ⟨g, 0, rfl, fun j hj => ?_⟩
  rw [Nat.zero_add]
  exact ⟨h.cell (row_at dgramEnc 6 (fun _ => rfl) l r j 0 hj (by omega)), h.cell (row_at dgramEnc 6 (fun _ => rfl) l r j 1 hj (by omega)), h.cell (row_at dgramEnc 6 (fun _ => rfl) l r j 2 hj (by omega)), h.cell (row_at dgramEnc 6 (fun _ => rfl) l r j 3 hj (by omega)), h.cell (row_at dgramEnc 6 (fun _ => rfl) l r j 4 hj (by omega)), h.cell (row_at dgramEnc 6 (fun _ => rfl) l r j 5 hj (by omega))⟩
def DgramsFit (l : List DgramD) : Prop := ∀ j (hj : j < l.length), l[j].Fits
theorem DgramsAt.on {w w' : World} {ao : Option Addr} {l : List DgramD} (h : DgramsAt w ao l) (hb : Below w.heap.size w w') : DgramsAt w' ao l := by
  intro h0
  obtain ⟨b, off, e1, e2⟩ := h h0
  refine ⟨b, off, e1, fun j hj => ?_⟩
  obtain ⟨x0, x1, x2, x3, x4, x5⟩ := e2 j hj
  exact ⟨(hb.cell (p := ⟨b, off + j * 6, none⟩) (World.block_lt_of_cell? w _ x0)).trans x0, (hb.cell (p := ⟨b, off + j * 6 + 1, none⟩) (World.block_lt_of_cell? w _ x1)).trans x1, (hb.cell (p := ⟨b, off + j * 6 + 2, none⟩) (World.block_lt_of_cell? w _ x2)).trans x2, (hb.cell (p := ⟨b, off + j * 6 + 3, none⟩) (World.block_lt_of_cell? w _ x3)).trans x3, (hb.cell (p := ⟨b, off + j * 6 + 4, none⟩) (World.block_lt_of_cell? w _ x4)).trans x4, (hb.cell (p := ⟨b, off + j * 6 + 5, none⟩) (World.block_lt_of_cell? w _ x5)).trans x5⟩
/-- cells of a list, written -/
theorem dgram_sets (p : List Value) (a0 a1 a2 a3 a4 a5 o0 o1 o2 o3 o4 o5 : Value) (r : List Value) : ((((((p ++ o0 :: o1 :: o2 :: o3 :: o4 :: o5 :: r).set (p.length) a0).set (p.length + 1) a1).set (p.length + 2) a2).set (p.length + 3) a3).set (p.length + 4) a4).set (p.length + 5) a5 = p ++ a0 :: a1 :: a2 :: a3 :: a4 :: a5 :: r := by
  rw [List.set_append_right _ _ (Nat.le_refl _), List.set_append_right _ _ (by omega), List.set_append_right _ _ (by omega), List.set_append_right _ _ (by omega), List.set_append_right _ _ (by omega), List.set_append_right _ _ (by omega)]
  simp
theorem dgram_set_other {cs : List Value} {i j : Nat} {v u : Value} (h : cs[j]? = some u) (hij : i ≠ j) : (cs.set i v)[j]? = some u := by
  rw [List.getElem?_set_ne hij]; exact h
end Go.Proofs.Ythkkhmmcgjcedaa
