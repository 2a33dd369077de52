/-
  Rows of the call's own between two sizes of memory, and the helpers of the exact laws in one form.
-/
import Derived.Test.YtbbohfagnnobgaaJoint22
import Derived.Test.YtbbohfagnnobgaaJoint11
import Derived.Test.YtbbohfagnnobgaaJoint28
namespace Go.Proofs.Ytbbohfagnnobgaa
open Go.RowKit

/-- a row of the call's own, made between two sizes of memory -/
def OwnAt (w : World) (t : TypeId) (cs : List Value) (n : Nat) (va : Option Addr) (lo hi : Nat) : Prop :=
  n = 0 ∨ ∃ g r, va = some ⟨g, 0, none⟩ ∧ lo ≤ g ∧ g < hi ∧ BlockIs w g t (cs ++ r)
theorem OwnAt.on {w w' : World} {t : TypeId} {cs : List Value} {n : Nat} {va : Option Addr} {lo hi : Nat} (h : OwnAt w t cs n va lo hi) (hb : Below w.heap.size w w') : OwnAt w' t cs n va lo hi :=
  h.imp id fun ⟨g, r, a, b, c, d⟩ => ⟨g, r, a, b, c, d.on hb d.lt⟩
theorem OwnAt.down {w : World} {t : TypeId} {cs : List Value} {n : Nat} {va : Option Addr} {lo hi lo' hi' : Nat} (h : OwnAt w t cs n va lo hi) (h1 : lo' ≤ lo) (h2 : hi ≤ hi') : OwnAt w t cs n va lo' hi' :=
  h.imp id fun ⟨g, r, a, b, c, d⟩ => ⟨g, r, a, Nat.le_trans h1 b, Nat.lt_of_lt_of_le c h2, d⟩
/-- nothing but blocks between two sizes has turned -/
def KeptBut (lo hi : Nat) (w w' : World) : Prop := ∀ j t cs, ¬ (lo ≤ j ∧ j < hi) → BlockIs w j t cs → BlockIs w' j t cs
theorem OwnAt.kept {w w' : World} {t : TypeId} {cs : List Value} {n : Nat} {va : Option Addr} {lo hi lo2 hi2 : Nat} (h : OwnAt w t cs n va lo hi) (hk : KeptBut lo2 hi2 w w') (ho : hi ≤ lo2 ∨ hi2 ≤ lo) : OwnAt w' t cs n va lo hi :=
  h.imp id fun ⟨g, r, a, b, c, d⟩ => ⟨g, r, a, b, c, hk _ _ _ (by omega) d⟩
theorem BlockIs.kept {w w' : World} {g lo hi : Nat} {t : TypeId} {cs : List Value} (h : BlockIs w g t cs) (hk : KeptBut lo hi w w') (ho : g < lo ∨ hi ≤ g) : BlockIs w' g t cs := hk _ _ _ (by omega) h
theorem OwnAt.files {w : World} {l : List FileD} {va : Option Addr} {lo hi : Nat} (h : OwnAt w 77 (fileCells l) l.length va lo hi) : FilesAt w va l := by
  rcases h with h | ⟨g, r, rfl, _, _, h⟩
  · intro h0
    exact absurd (List.length_eq_zero_iff.1 h) h0
  · exact filesAt_of h
theorem own_of_row {w : World} {base : Nat} {v : Value} {l : List FileD} (h : w.ownsRow base 77 3 v l.length (fileCells l)) : ∃ va vc, v = .slice va l.length vc ∧ OwnAt w 77 (fileCells l) l.length va base w.heap.size := by
  obtain ⟨va, vc, rfl, _, (h0 | ⟨g, r, rfl, hb, hk⟩)⟩ := own_files h
  · exact ⟨va, vc, rfl, Or.inl (by rw [h0]; rfl)⟩
  · exact ⟨_, vc, rfl, Or.inr ⟨g, r, rfl, hb, hk.lt, hk⟩⟩
theorem own_of_block {w : World} {base g : Nat} {l : List FileD} (hb : base ≤ g) (hk : BlockIs w g 77 (fileCells l)) : OwnAt w 77 (fileCells l) l.length (some ⟨g, 0, none⟩) base w.heap.size :=
  Or.inr ⟨g, [], rfl, hb, hk.lt, by rw [List.append_nil]; exact hk⟩

theorem toDisk_o (ao : Option Addr) (l : List FileD) (cap : Nat) (hl : l.length ≤ 1048576) (w : World) (ha : FilesAt w ao l) :
    Calls Try.prog 20 #[.agg #[.slice ao l.length cap]] w fun e w' => ∃ va vc, e = .returned (.agg #[.slice va l.length vc]) ∧ OwnAt w' 77 (fileCells l) l.length va w.heap.size w'.heap.size ∧ Below w.heap.size w w' := by
  refine (toDisk_any ao l cap hl w ha).mono ?_
  rintro e w' ⟨g, hg, rfl, hk, hb⟩
  exact ⟨_, _, rfl, own_of_block hg hk, hb⟩

theorem eqDisk_o (va vb : Option Addr) (l : List FileD) (c c' : Nat) (hl : l.length ≤ 1048576) (w : World) (ha : FilesAt w va l) (hb : FilesAt w vb l) :
    Calls Try.prog 22 #[.agg #[.slice va l.length c], .agg #[.slice vb l.length c']] w fun e w' => e = .returned (.bool true) ∧ Below w.heap.size w w' :=
  eqDisk_same va vb l c c' (by omega) w ha hb

theorem markDisk_o (m : Nat) (va : Option Addr) (vc : Nat) (l : List FileD) (lo hi : Nat) (hm : m ≤ 10000000) (hl : l.length ≤ 1048576) (w : World) (hw : lo ≤ w.heap.size) (h : OwnAt w 77 (fileCells l) l.length va lo hi) :
    Calls Try.prog 27 #[.agg #[.slice va l.length vc], .int .i64 m] w fun e w' => e = .returned (.int .i64 ((m + 3 * l.length : Nat) : Int)) ∧ FilesAt w' va (marksF m l.length) ∧ KeptBut lo hi w w' ∧ Below lo w w' := by
  have h' : l = [] ∨ ∃ g r, va = some ⟨g, 0, none⟩ ∧ lo ≤ g ∧ BlockIs w g 77 (fileCells l ++ r) :=
    h.imp (fun e => List.length_eq_zero_iff.1 e) fun ⟨g, r, a, b, _, d⟩ => ⟨g, r, a, b, d⟩
  refine (markDisk_own lo m va vc l hm hl w hw h').mono ?_
  rintro e w' ⟨rfl, hf, hb, hk⟩
  refine ⟨rfl, hf, fun j t cs hj hbl => hk j t cs (fun g hg hne => ?_) hbl, hb⟩
  rcases h with h0 | ⟨g', r, hv, h1, h2, _⟩
  · exact absurd (List.length_eq_zero_iff.1 h0) hne
  · rw [hg] at hv
    cases hv
    intro e
    exact hj ⟨by omega, by omega⟩
end Go.Proofs.Ytbbohfagnnobgaa
