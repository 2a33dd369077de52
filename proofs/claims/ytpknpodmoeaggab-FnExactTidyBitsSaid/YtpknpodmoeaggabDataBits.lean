/-
  Bits as data; rows of them in memory, one behind the other.
-/
import Derived.Test.YtpknpodmoeaggabBlock
import Derived.Test.YtpknpodmoeaggabSl
import Derived.BigQuiet
import Derived.Deep.LoopGhost
namespace Go.Proofs.Ytpknpodmoeaggab
open Go.RowKit

structure BitsD where
  src : Int
  ident : Int
  tx : SlD
  ax : SlD
  total : Int
  lim : Int
/-- numbers that are numbers, texts that are texts -/
def BitsD.Fits (e : BitsD) : Prop := (-9223372036854775808 ≤ e.src ∧ e.src ≤ 9223372036854775807) ∧ (-9223372036854775808 ≤ e.ident ∧ e.ident ≤ 9223372036854775807) ∧ True ∧ True ∧ (-9223372036854775808 ≤ e.total ∧ e.total ≤ 9223372036854775807) ∧ (-9223372036854775808 ≤ e.lim ∧ e.lim ≤ 9223372036854775807)
def bitsEnc (e : BitsD) : List Value := [.int .i64 e.src, .int .i64 e.ident, .slice e.tx.ad e.tx.len e.tx.cap, .slice e.ax.ad e.ax.len e.ax.cap, .int .i64 e.total, .int .i64 e.lim]
/-- the cells of a row -/
def bitsCells (l : List BitsD) : List Value := l.flatMap bitsEnc
theorem bitsCells_length (l : List BitsD) : (bitsCells l).length = l.length * 6 := row_length bitsEnc 6 (fun _ => rfl) l
theorem bitsCells_take (l : List BitsD) (k : Nat) (h : k < l.length) : bitsCells (l.take (k + 1)) = bitsCells (l.take k) ++ bitsEnc l[k] := by
  rw [List.take_succ_eq_append_getElem h, bitsCells, bitsCells, List.flatMap_append]
  simp
/-- how many letters -/
def bitsOne (_e : BitsD) : Int := (0 : Int)
theorem bitsOne_nonneg (e : BitsD) : 0 ≤ bitsOne e := by unfold bitsOne; omega
def bitsBulk : List BitsD → Int
  | [] => 0
  | f :: l => bitsOne f + bitsBulk l
theorem bitsBulk_nonneg (l : List BitsD) : 0 ≤ bitsBulk l := by
  induction l with
  | nil => exact Int.le_refl 0
  | cons f l ih => have := bitsOne_nonneg f; simp only [bitsBulk]; omega
theorem bitsBulk_take (l : List BitsD) (k : Nat) (h : k < l.length) : bitsBulk (l.take (k + 1)) = bitsBulk (l.take k) + bitsOne l[k] := by
  induction l generalizing k with
  | nil => simp at h
  | cons f l ih =>
    cases k with
    | zero => simp [bitsBulk]
    | succ k =>
      have := ih k (by simpa using h)
      simp only [List.take_succ_cons, bitsBulk, List.getElem_cons_succ] at this ⊢
      omega
theorem bitsBulk_le (l : List BitsD) (k : Nat) : bitsBulk (l.take k) ≤ bitsBulk l := by
  induction l generalizing k with
  | nil => simp [bitsBulk]
  | cons f l ih =>
    cases k with
    | zero => have := bitsBulk_nonneg (f :: l); simpa [bitsBulk] using this
    | succ k => have := ih k; simp only [List.take_succ_cons, bitsBulk]; omega
theorem bits_le_bulk {l : List BitsD} {f : BitsD} (h : f ∈ l) : bitsOne f ≤ bitsBulk l := by
  induction l with
  | nil => cases h
  | cons g l ih =>
    simp only [bitsBulk]
    have := bitsBulk_nonneg l
    have := bitsOne_nonneg g
    rcases List.mem_cons.1 h with e | e
    · subst e; omega
    · have := ih e; omega
/-- few and short -/
def BitssSmall (l : List BitsD) : Prop := l.length ≤ 1048576 ∧ ∀ f ∈ l, bitsOne f ≤ 1048576
theorem bitssSmall {l : List BitsD} (h : 0 ≤ (1048576 : Int) - l.length - bitsBulk l) : BitssSmall l := by
  have := bitsBulk_nonneg l
  exact ⟨by omega, fun f hf => by have := bits_le_bulk hf; omega⟩
/-- they lie at an address, one behind the other -/
def BitssAt (w : World) (ao : Option Addr) (l : List BitsD) : Prop :=
  l ≠ [] → ∃ b off, ao = some ⟨b, off, none⟩ ∧ ∀ j (hj : j < l.length), w.cell? ⟨b, off + j * 6, none⟩ = some (.int .i64 l[j].src) ∧ w.cell? ⟨b, off + j * 6 + 1, none⟩ = some (.int .i64 l[j].ident) ∧ w.cell? ⟨b, off + j * 6 + 2, none⟩ = some (.slice l[j].tx.ad l[j].tx.len l[j].tx.cap) ∧ w.cell? ⟨b, off + j * 6 + 3, none⟩ = some (.slice l[j].ax.ad l[j].ax.len l[j].ax.cap) ∧ w.cell? ⟨b, off + j * 6 + 4, none⟩ = some (.int .i64 l[j].total) ∧ w.cell? ⟨b, off + j * 6 + 5, none⟩ = some (.int .i64 l[j].lim)
theorem bitssAt_of {w : World} {g : Nat} {t : TypeId} {l : List BitsD} {r : List Value} (h : BlockIs w g t (bitsCells l ++ r)) : BitssAt w (some ⟨g, 0, none⟩) l := by
  intro _
  refine ⟨g, 0, rfl, fun j hj => ?_⟩
  rw [Nat.zero_add]
  exact ⟨h.cell (row_at bitsEnc 6 (fun _ => rfl) l r j 0 hj (by omega)), h.cell (row_at bitsEnc 6 (fun _ => rfl) l r j 1 hj (by omega)), h.cell (row_at bitsEnc 6 (fun _ => rfl) l r j 2 hj (by omega)), h.cell (row_at bitsEnc 6 (fun _ => rfl) l r j 3 hj (by omega)), h.cell (row_at bitsEnc 6 (fun _ => rfl) l r j 4 hj (by omega)), h.cell (row_at bitsEnc 6 (fun _ => rfl) l r j 5 hj (by omega))⟩
def BitssFit (l : List BitsD) : Prop := ∀ j (hj : j < l.length), l[j].Fits
theorem BitssAt.on {w w' : World} {ao : Option Addr} {l : List BitsD} (h : BitssAt w ao l) (hb : Below w.heap.size w w') : BitssAt w' ao l := by
  intro h0
  obtain ⟨b, off, e1, e2⟩ := h h0
  refine ⟨b, off, e1, fun j hj => ?_⟩
  obtain ⟨x0, x1, x2, x3, x4, x5⟩ := e2 j hj
  exact ⟨(hb.cell (p := ⟨b, off + j * 6, none⟩) (World.block_lt_of_cell? w _ x0)).trans x0, (hb.cell (p := ⟨b, off + j * 6 + 1, none⟩) (World.block_lt_of_cell? w _ x1)).trans x1, (hb.cell (p := ⟨b, off + j * 6 + 2, none⟩) (World.block_lt_of_cell? w _ x2)).trans x2, (hb.cell (p := ⟨b, off + j * 6 + 3, none⟩) (World.block_lt_of_cell? w _ x3)).trans x3, (hb.cell (p := ⟨b, off + j * 6 + 4, none⟩) (World.block_lt_of_cell? w _ x4)).trans x4, (hb.cell (p := ⟨b, off + j * 6 + 5, none⟩) (World.block_lt_of_cell? w _ x5)).trans x5⟩
/-- cells of a list, written -/
theorem bits_sets (p : List Value) (a0 a1 a2 a3 a4 a5 o0 o1 o2 o3 o4 o5 : Value) (r : List Value) : ((((((p ++ o0 :: o1 :: o2 :: o3 :: o4 :: o5 :: r).set (p.length) a0).set (p.length + 1) a1).set (p.length + 2) a2).set (p.length + 3) a3).set (p.length + 4) a4).set (p.length + 5) a5 = p ++ a0 :: a1 :: a2 :: a3 :: a4 :: a5 :: r := by
  rw [List.set_append_right _ _ (Nat.le_refl _), List.set_append_right _ _ (by omega), List.set_append_right _ _ (by omega), List.set_append_right _ _ (by omega), List.set_append_right _ _ (by omega), List.set_append_right _ _ (by omega)]
  simp
theorem bits_set_other {cs : List Value} {i j : Nat} {v u : Value} (h : cs[j]? = some u) (hij : i ≠ j) : (cs.set i v)[j]? = some u := by
  rw [List.getElem?_set_ne hij]; exact h
end Go.Proofs.Ytpknpodmoeaggab
