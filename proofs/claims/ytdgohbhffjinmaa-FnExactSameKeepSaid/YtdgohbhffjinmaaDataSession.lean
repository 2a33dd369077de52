/-
  Session as data; rows of them in memory, one behind the other.
-/
import Derived.Test.YtdgohbhffjinmaaBlock
import Derived.BigQuiet
import Derived.Deep.LoopGhost
namespace Go.Proofs.Ytdgohbhffjinmaa
open Go.RowKit

structure SessionD where
  token : Int
  last : Int
  reply : ByteArray
/-- numbers that are numbers, texts that are texts -/
def SessionD.Fits (e : SessionD) : Prop := (-9223372036854775808 ≤ e.token ∧ e.token ≤ 9223372036854775807) ∧ (-9223372036854775808 ≤ e.last ∧ e.last ≤ 9223372036854775807) ∧ e.reply.size ≤ maxLen
def sessionEnc (e : SessionD) : List Value := [.int .i64 e.token, .int .i64 e.last, .string e.reply]
/-- the cells of a row -/
def sessionCells (l : List SessionD) : List Value := l.flatMap sessionEnc
theorem sessionCells_length (l : List SessionD) : (sessionCells l).length = l.length * 3 := row_length sessionEnc 3 (fun _ => rfl) l
theorem sessionCells_take (l : List SessionD) (k : Nat) (h : k < l.length) : sessionCells (l.take (k + 1)) = sessionCells (l.take k) ++ sessionEnc l[k] := by
  rw [List.take_succ_eq_append_getElem h, sessionCells, sessionCells, List.flatMap_append]
  simp
/-- how many letters -/
def sessionOne (e : SessionD) : Int := (e.reply.size : Int)
theorem sessionOne_nonneg (e : SessionD) : 0 ≤ sessionOne e := by unfold sessionOne; omega
def sessionBulk : List SessionD → Int
  | [] => 0
  | f :: l => sessionOne f + sessionBulk l
theorem sessionBulk_nonneg (l : List SessionD) : 0 ≤ sessionBulk l := by
  induction l with
  | nil => exact Int.le_refl 0
  | cons f l ih => have := sessionOne_nonneg f; simp only [sessionBulk]; omega
theorem sessionBulk_take (l : List SessionD) (k : Nat) (h : k < l.length) : sessionBulk (l.take (k + 1)) = sessionBulk (l.take k) + sessionOne l[k] := by
  induction l generalizing k with
  | nil => simp at h
  | cons f l ih =>
    cases k with
    | zero => simp [sessionBulk]
    | succ k =>
      have := ih k (by simpa using h)
      simp only [List.take_succ_cons, sessionBulk, List.getElem_cons_succ] at this ⊢
      omega
theorem sessionBulk_le (l : List SessionD) (k : Nat) : sessionBulk (l.take k) ≤ sessionBulk l := by
  induction l generalizing k with
  | nil => simp [sessionBulk]
  | cons f l ih =>
    cases k with
    | zero => have := sessionBulk_nonneg (f :: l); simpa [sessionBulk] using this
    | succ k => have := ih k; simp only [List.take_succ_cons, sessionBulk]; omega
theorem session_le_bulk {l : List SessionD} {f : SessionD} (h : f ∈ l) : sessionOne f ≤ sessionBulk l := by
  induction l with
  | nil => cases h
  | cons g l ih =>
    simp only [sessionBulk]
    have := sessionBulk_nonneg l
    have := sessionOne_nonneg g
    rcases List.mem_cons.1 h with e | e
    · subst e; omega
    · have := ih e; omega
/-- few and short -/
def SessionsSmall (l : List SessionD) : Prop := l.length ≤ 1048576 ∧ ∀ f ∈ l, sessionOne f ≤ 1048576
theorem sessionsSmall {l : List SessionD} (h : 0 ≤ (1048576 : Int) - l.length - sessionBulk l) : SessionsSmall l := by
  have := sessionBulk_nonneg l
  exact ⟨by omega, fun f hf => by have := session_le_bulk hf; omega⟩
/-- they lie at an address, one behind the other -/
def SessionsAt (w : World) (ao : Option Addr) (l : List SessionD) : Prop :=
  l ≠ [] → ∃ b off, ao = some ⟨b, off, none⟩ ∧ ∀ j (hj : j < l.length), w.cell? ⟨b, off + j * 3, none⟩ = some (.int .i64 l[j].token) ∧ w.cell? ⟨b, off + j * 3 + 1, none⟩ = some (.int .i64 l[j].last) ∧ w.cell? ⟨b, off + j * 3 + 2, none⟩ = some (.string l[j].reply)
theorem sessionsAt_of {w : World} {g : Nat} {t : TypeId} {l : List SessionD} {r : List Value} (h : BlockIs w g t (sessionCells l ++ r)) : SessionsAt w (some ⟨g, 0, none⟩) l := by
  intro _
  refine ⟨g, 0, rfl, fun j hj => ?_⟩
  rw [Nat.zero_add]
  exact ⟨h.cell (row_at sessionEnc 3 (fun _ => rfl) l r j 0 hj (by omega)), h.cell (row_at sessionEnc 3 (fun _ => rfl) l r j 1 hj (by omega)), h.cell (row_at sessionEnc 3 (fun _ => rfl) l r j 2 hj (by omega))⟩
def SessionsFit (l : List SessionD) : Prop := ∀ j (hj : j < l.length), l[j].Fits
theorem SessionsAt.on {w w' : World} {ao : Option Addr} {l : List SessionD} (h : SessionsAt w ao l) (hb : Below w.heap.size w w') : SessionsAt w' ao l := by
  intro h0
  obtain ⟨b, off, e1, e2⟩ := h h0
  refine ⟨b, off, e1, fun j hj => ?_⟩
  obtain ⟨x0, x1, x2⟩ := e2 j hj
  exact ⟨(hb.cell (p := ⟨b, off + j * 3, none⟩) (World.block_lt_of_cell? w _ x0)).trans x0, (hb.cell (p := ⟨b, off + j * 3 + 1, none⟩) (World.block_lt_of_cell? w _ x1)).trans x1, (hb.cell (p := ⟨b, off + j * 3 + 2, none⟩) (World.block_lt_of_cell? w _ x2)).trans x2⟩
/-- cells of a list, written -/
theorem session_sets (p : List Value) (a0 a1 a2 o0 o1 o2 : Value) (r : List Value) : (((p ++ o0 :: o1 :: o2 :: r).set (p.length) a0).set (p.length + 1) a1).set (p.length + 2) a2 = p ++ a0 :: a1 :: a2 :: r := by
  rw [List.set_append_right _ _ (Nat.le_refl _), List.set_append_right _ _ (by omega), List.set_append_right _ _ (by omega)]
  simp
theorem session_set_other {cs : List Value} {i j : Nat} {v u : Value} (h : cs[j]? = some u) (hij : i ≠ j) : (cs.set i v)[j]? = some u := by
  rw [List.getElem?_set_ne hij]; exact h
end Go.Proofs.Ytdgohbhffjinmaa
