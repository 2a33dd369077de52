/-
  Rows of the call's own beside blocks of another kind; a stream whose early texts are the call's own.
-/
import Derived.Test.YthbdkfdcbglpoaaStrMem
import Derived.Test.YthbdkfdcbglpoaaRowLate
import Derived.Test.YthbdkfdcbglpoaaOwnLate
namespace Go.Proofs.Ythbdkfdcbglpoaa
open Go.RowKit

theorem row_setCell {w : World} {g base size n : Nat} {t t' : TypeId} {v : Value} {xs cs : List Value} (hb : BlockIs w g t' cs) (hr : w.ownsRow base t size v n xs) (ht : t' ≠ t) (j : Nat) (u : Value) : (w.setCell ⟨g, j, none⟩ u).ownsRow base t size v n xs :=
  row_ext hr (fun _ _ h => h.far (fun e => by subst e; exact ht (block_one hb h).1) u)
theorem row_setRow {w : World} {g base size n : Nat} {t t' : TypeId} {v : Value} {xs cs : List Value} (hb : BlockIs w g t' cs) (hr : w.ownsRow base t size v n xs) (ht : t' ≠ t) (A : Array Value) : (w.setRow g A).ownsRow base t size v n xs :=
  row_ext hr (fun _ _ h => block_setRow h (fun e => by subst e; exact ht (block_one hb h).1) A)
/-- early texts of the call's own -/
def OwnsL (w : World) (lo : Nat) (l : List LateD) (va : Option Addr) (vc : Nat) : Prop := w.ownsRow lo 60 2 (.slice va l.length vc) l.length (lateCells l)
theorem OwnsL.at {w : World} {lo : Nat} {l : List LateD} {va : Option Addr} {vc : Nat} (h : OwnsL w lo l va vc) : LatesAt w va l := lateR_at h
theorem OwnsL.on {w w' : World} {lo : Nat} {l : List LateD} {va : Option Addr} {vc : Nat} (h : OwnsL w lo l va vc) (hb : Below w.heap.size w w') : OwnsL w' lo l va vc := lateR_below h hb
theorem OwnsL.down {w : World} {lo lo' : Nat} {l : List LateD} {va : Option Addr} {vc : Nat} (h : OwnsL w lo l va vc) (hl : lo' ≤ lo) : OwnsL w lo' l va vc := row_down h hl
theorem OwnsL.setCell {w : World} {g lo : Nat} {t' : TypeId} {cs : List Value} {l : List LateD} {va : Option Addr} {vc : Nat} (h : OwnsL w lo l va vc) (hb : BlockIs w g t' cs) (ht : t' ≠ 60) (j : Nat) (u : Value) : OwnsL (w.setCell ⟨g, j, none⟩ u) lo l va vc := row_setCell hb h ht j u
theorem OwnsL.setRow {w : World} {g lo : Nat} {t' : TypeId} {cs : List Value} {l : List LateD} {va : Option Addr} {vc : Nat} (h : OwnsL w lo l va vc) (hb : BlockIs w g t' cs) (ht : t' ≠ 60) (A : Array Value) : OwnsL (w.setRow g A) lo l va vc := row_setRow hb h ht A
theorem OwnsL.own {w : World} {lo : Nat} {l : List LateD} {va : Option Addr} {vc : Nat} (h : OwnsL w lo l va vc) : OwnAt w 60 (lateCells l) l.length va lo w.heap.size ∧ l.length ≤ vc := by
  rcases h.2 with ⟨hv, h0⟩ | ⟨g, cp, cur, hv, hb, hh, hle, _, _, ht⟩
  · exact ⟨Or.inl h0, by omega⟩
  · simp only [Value.slice.injEq] at hv
    obtain ⟨rfl, _, rfl⟩ := hv
    have hcur : cur.toList = lateCells l ++ cur.toList.drop (l.length * 2) := by rw [← ht, List.take_append_drop]
    have hk : BlockIs w g 60 (lateCells l ++ cur.toList.drop (l.length * 2)) := by unfold BlockIs; rw [hh, ← hcur]
    exact ⟨Or.inr ⟨g, _, rfl, hb, hk.lt, hk⟩, hle⟩
theorem owns_made {w : World} {lo g : Nat} {l : List LateD} (hg : lo ≤ g) (hl : l.length ≤ 1048576) (h : BlockIs w g 60 (lateCells l)) : OwnsL w lo l (some ⟨g, 0, none⟩) l.length := by
  unfold BlockIs at h
  refine ⟨lateCells_length l, Or.inr ⟨g, l.length, (lateCells l).toArray, rfl, hg, h, Nat.le_refl _, by unfold maxLen; omega, by simp [lateCells_length], ?_⟩⟩
  rw [List.take_of_length_le (by rw [lateCells_length]; exact Nat.le_refl _)]
/-- what a copy is -/
def CopyDid (w : World) (d : StrD) (e : Ending) (w' : World) : Prop := ∃ va vc, e = .returned (.agg #[.int .i64 d.st, .int .i64 d.iss, .int .i64 d.una, .int .i64 d.rcv, .string d.wait, .int .i64 d.sent, .int .i64 d.fin, .bool d.pf, .string d.inn, .slice va d.late.length vc, .bool d.owe, .int .i64 d.due, .int .i64 d.times]) ∧ OwnsL w' w.heap.size d.late va vc ∧ Below w.heap.size w w'
/-- a stream, and whether -/
def StrDid2 (w : World) (d : StrD) (ok : Bool) (e : Ending) (w' : World) : Prop := ∃ va vc, e = .returned (.tuple #[.agg #[.int .i64 d.st, .int .i64 d.iss, .int .i64 d.una, .int .i64 d.rcv, .string d.wait, .int .i64 d.sent, .int .i64 d.fin, .bool d.pf, .string d.inn, .slice va d.late.length vc, .bool d.owe, .int .i64 d.due, .int .i64 d.times], .bool ok]) ∧ d.late.length ≤ vc ∧ OwnAt w' 60 (lateCells d.late) d.late.length va w.heap.size w'.heap.size ∧ Below w.heap.size w w'
/-- a stream alone -/
def StrDid1 (w : World) (d : StrD) (e : Ending) (w' : World) : Prop := ∃ va vc, e = .returned (.agg #[.int .i64 d.st, .int .i64 d.iss, .int .i64 d.una, .int .i64 d.rcv, .string d.wait, .int .i64 d.sent, .int .i64 d.fin, .bool d.pf, .string d.inn, .slice va d.late.length vc, .bool d.owe, .int .i64 d.due, .int .i64 d.times]) ∧ d.late.length ≤ vc ∧ OwnAt w' 60 (lateCells d.late) d.late.length va w.heap.size w'.heap.size ∧ Below w.heap.size w w'
end Go.Proofs.Ythbdkfdcbglpoaa
