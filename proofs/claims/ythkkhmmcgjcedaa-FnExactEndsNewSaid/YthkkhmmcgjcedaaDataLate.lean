/-
  Late as data; rows of them in memory, one behind the other.
-/
import Derived.Test.YthkkhmmcgjcedaaBlock
import Derived.BigQuiet
import Derived.Deep.LoopGhost
namespace Go.Proofs.Ythkkhmmcgjcedaa
open Go.RowKit

structure LateD where
  num : Int
  text : ByteArray
/-- numbers that are numbers, texts that are texts -/
def LateD.Fits (e : LateD) : Prop := (-9223372036854775808 ≤ e.num ∧ e.num ≤ 9223372036854775807) ∧ e.text.size ≤ maxLen
def lateEnc (e : LateD) : List Value := [.int .i64 e.num, .string e.text]
/-- the cells of a row -/
def lateCells (l : List LateD) : List Value := l.flatMap lateEnc
theorem lateCells_length (l : List LateD) : (lateCells l).length = l.length * 2 := row_length lateEnc 2 (fun _ => rfl) l
theorem lateCells_take (l : List LateD) (k : Nat) (h : k < l.length) : lateCells (l.take (k + 1)) = lateCells (l.take k) ++ lateEnc l[k] := by
  rw [List.take_succ_eq_append_getElem h, lateCells, lateCells, List.flatMap_append]
  simp
/-- how many letters -/
def lateOne (e : LateD) : Int := (e.text.size : Int)
theorem lateOne_nonneg (e : LateD) : 0 ≤ lateOne e := by unfold lateOne; omega
def lateBulk : List LateD → Int
  | [] => 0
  | f :: l => lateOne f + lateBulk l
theorem lateBulk_nonneg (l : List LateD) : 0 ≤ lateBulk l := by
  induction l with
  | nil => exact Int.le_refl 0
  | cons f l ih => have := lateOne_nonneg f; simp only [lateBulk]; omega
theorem lateBulk_take (l : List LateD) (k : Nat) (h : k < l.length) : lateBulk (l.take (k + 1)) = lateBulk (l.take k) + lateOne l[k] := by
  induction l generalizing k with
  | nil => simp at h
  | cons f l ih =>
    cases k with
    | zero => simp [lateBulk]
    | succ k =>
      have := ih k (by simpa using h)
      simp only [List.take_succ_cons, lateBulk, List.getElem_cons_succ] at this ⊢
      omega
theorem lateBulk_le (l : List LateD) (k : Nat) : lateBulk (l.take k) ≤ lateBulk l := by
  induction l generalizing k with
  | nil => simp [lateBulk]
  | cons f l ih =>
    cases k with
    | zero => have := lateBulk_nonneg (f :: l); simpa [lateBulk] using this
    | succ k => have := ih k; simp only [List.take_succ_cons, lateBulk]; omega
theorem late_le_bulk {l : List LateD} {f : LateD} (h : f ∈ l) : lateOne f ≤ lateBulk l := by
  induction l with
  | nil => cases h
  | cons g l ih =>
    simp only [lateBulk]
    have := lateBulk_nonneg l
    have := lateOne_nonneg g
    rcases List.mem_cons.1 h with e | e
    · subst e; omega
    · have := ih e; omega
/-- few and short -/
def LatesSmall (l : List LateD) : Prop := l.length ≤ 1048576 ∧ ∀ f ∈ l, lateOne f ≤ 1048576
theorem latesSmall {l : List LateD} (h : 0 ≤ (1048576 : Int) - l.length - lateBulk l) : LatesSmall l := by
  have := lateBulk_nonneg l
  exact ⟨by omega, fun f hf => by have := late_le_bulk hf; omega⟩
/-- they lie at an address, one behind the other -/
def LatesAt (w : World) (ao : Option Addr) (l : List LateD) : Prop :=
  l ≠ [] → ∃ b off, ao = some ⟨b, off, none⟩ ∧ ∀ j (hj : j < l.length), w.cell? ⟨b, off + j * 2, none⟩ = some (.int .i64 l[j].num) ∧ w.cell? ⟨b, off + j * 2 + 1, none⟩ = some (.string l[j].text)
theorem latesAt_of {w : World} {g : Nat} {t : TypeId} {l : List LateD} {r : List Value} (h : BlockIs w g t (lateCells l ++ r)) : LatesAt w (some ⟨g, 0, none⟩) l := by
  intro _
  refine ⟨g, 0, rfl, fun j hj => ?_⟩
  rw [Nat.zero_add]
  exact ⟨h.cell (row_at lateEnc 2 (fun _ => rfl) l r j 0 hj (by omega)), h.cell (row_at lateEnc 2 (fun _ => rfl) l r j 1 hj (by omega))⟩
def LatesFit (l : List LateD) : Prop := ∀ j (hj : j < l.length), l[j].Fits
theorem LatesAt.on {w w' : World} {ao : Option Addr} {l : List LateD} (h : LatesAt w ao l) (hb : Below w.heap.size w w') : LatesAt w' ao l := by
  intro h0
  obtain ⟨b, off, e1, e2⟩ := h h0
  refine ⟨b, off, e1, fun j hj => ?_⟩
  obtain ⟨x0, x1⟩ := e2 j hj
  exact ⟨(hb.cell (p := ⟨b, off + j * 2, none⟩) (World.block_lt_of_cell? w _ x0)).trans x0, (hb.cell (p := ⟨b, off + j * 2 + 1, none⟩) (World.block_lt_of_cell? w _ x1)).trans x1⟩
/-- cells of a list, written -/
theorem late_sets (p : List Value) (a0 a1 o0 o1 : Value) (r : List Value) : ((p ++ o0 :: o1 :: r).set (p.length) a0).set (p.length + 1) a1 = p ++ a0 :: a1 :: r := by
  rw [List.set_append_right _ _ (Nat.le_refl _), List.set_append_right _ _ (by omega)]
  simp
theorem late_set_other {cs : List Value} {i j : Nat} {v u : Value} (h : cs[j]? = some u) (hij : i ≠ j) : (cs.set i v)[j]? = some u := by
  rw [List.getElem?_set_ne hij]; exact h
end Go.Proofs.Ythkkhmmcgjcedaa
