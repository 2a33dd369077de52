/-
  Lists of acts acts data, in memory; what they leave, one by one.
-/
import Derived.Test.YthkfgiilbkjojaaPlainAct
namespace Go.Proofs.Ythkfgiilbkjojaa
open Go.RowKit

/-- acts lie at an address, one behind the other -/
def ActsAt (w : World) (ao : Option Addr) (acts : List ActD) : Prop :=
  acts ≠ [] → ∃ b off, ao = some ⟨b, off, none⟩ ∧ ∀ j (hj : j < acts.length), w.cell? ⟨b, off + j * 4, none⟩ = some (.int .i64 acts[j].kind) ∧ w.cell? ⟨b, off + j * 4 + 1, none⟩ = some (.string acts[j].name) ∧ w.cell? ⟨b, off + j * 4 + 2, none⟩ = some (.string acts[j].text) ∧ w.cell? ⟨b, off + j * 4 + 3, none⟩ = some (.string acts[j].to)
theorem ActsAt.on {w w' : World} {ao : Option Addr} {acts : List ActD} (h : ActsAt w ao acts) (hb : Below w.heap.size w w') : ActsAt w' ao acts := by
  intro h0
  obtain ⟨b, off, e1, e2⟩ := h h0
  refine ⟨b, off, e1, fun j hj => ?_⟩
  obtain ⟨x, y, z, u⟩ := e2 j hj
  exact ⟨(hb.cell (p := ⟨b, off + j * 4, none⟩) (World.block_lt_of_cell? w _ x)).trans x, (hb.cell (p := ⟨b, off + j * 4 + 1, none⟩) (World.block_lt_of_cell? w _ y)).trans y, (hb.cell (p := ⟨b, off + j * 4 + 2, none⟩) (World.block_lt_of_cell? w _ z)).trans z, (hb.cell (p := ⟨b, off + j * 4 + 3, none⟩) (World.block_lt_of_cell? w _ u)).trans u⟩
def ActsSmall (acts : List ActD) : Prop := ∀ a ∈ acts, a.name.size ≤ 1048576 ∧ a.text.size ≤ 1048576 ∧ a.to.size ≤ 1048576
/-- what the first k acts leave, if all are true -/
def doTo (l : List FileD) (acts : List ActD) : Nat → Option (List FileD)
  | 0 => some l
  | k + 1 => (doTo l acts k).bind fun o => match acts[k]? with
    | none => none
    | some a => doAct o a
theorem doTo_step {l o : List FileD} {acts : List ActD} {k : Nat} (hk : k < acts.length) (h : doTo l acts k = some o) : doTo l acts (k + 1) = doAct o acts[k] := by
  rw [doTo, h, Option.bind_some, List.getElem?_eq_getElem hk]
theorem doTo_right {l o : List FileD} {acts : List ActD} (hd : diskOk l = true) : ∀ {k : Nat}, doTo l acts k = some o → diskOk o = true
  | 0, h => by cases h; exact hd
  | k + 1, h => by
    rw [doTo] at h
    obtain ⟨o', _, h2⟩ := Option.bind_eq_some_iff.1 h
    split at h2
    · cases h2
    · exact doAct_right h2
theorem doAct_wrong {l : List FileD} {a : ActD} (hd : diskOk l = false) : doAct l a = none := by
  rw [doAct, if_neg (by simp [actOk, hd])]
/-- what DoActs answers -/
def DidActs (w : World) (l : List FileD) (acts : List ActD) (OK : World → List FileD → Option Addr → Prop) (e : Ending) (w' : World) : Prop :=
  ∃ (i : Nat) (o : List FileD) (va : Option Addr) (vc : Nat), e = .returned (.tuple #[.agg #[.slice va o.length vc], .int .i64 i]) ∧ (doTo l acts i = some o ∧ i ≤ acts.length ∧ (i = acts.length ∨ doTo l acts (i + 1) = none)) ∧ OK w' o va ∧ Below w.heap.size w w'
end Go.Proofs.Ythkfgiilbkjojaa
