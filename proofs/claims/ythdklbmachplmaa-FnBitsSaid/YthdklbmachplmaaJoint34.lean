/-
  The pile as data: bits in their order, and a map of maps over their places.
-/
import Derived.Test.YthdklbmachplmaaJoint1
import Derived.Test.YthdklbmachplmaaJoint33
import Derived.Deep.RegionLaw
namespace Go.Proofs.Ythdklbmachplmaa
open Go.RowKit Go.Maps

/-- the outer map -/
def outerM (im : Nat → Option Nat) (x : Int) : Option Value := if 0 ≤ x then (im x.toNat).map fun g => .map (some g) else none
structure PileAt (w : World) (pb : Nat) (l : List BitD) (im : Nat → Option Nat) (lo hi N : Nat) (va : Option Addr) (vc mb : Nat) (rs : List BitsD) : Prop where
  blk : BlockIs w pb 62 [.slice va rs.length vc, .map (some mb)]
  row : w.ownsRow lo 35 6 (.slice va rs.length vc) rs.length (bitsCells rs)
  nest : NestR w l rs lo hi
  top : hi ≤ w.heap.size
  outer : MapIs w mb N (outerM im)
  low : lo ≤ pb ∧ lo ≤ mb
  inner : ∀ k g, im k = some g → lo ≤ g ∧ g ≠ mb ∧ ∃ e, l[k]? = some e ∧ MapIs w g N (firstMap e.ats)
  inj : ∀ j k g, im j = some g → im k = some g → j = k
theorem PileAt.on {w w' : World} {pb : Nat} {l : List BitD} {im : Nat → Option Nat} {lo hi N : Nat} {va : Option Addr} {vc mb : Nat} {rs : List BitsD} (h : PileAt w pb l im lo hi N va vc mb rs) (hb : Below w.heap.size w w') : PileAt w' pb l im lo hi N va vc mb rs :=
  ⟨h.blk.on hb h.blk.lt, rows_below h.row hb, h.nest.on hb, Nat.le_trans h.top hb.size, h.outer.on hb, h.low, fun k g hg => by
    obtain ⟨h1, h2, e, h3, h4⟩ := h.inner k g hg
    exact ⟨h1, h2, e, h3, h4.on hb⟩, h.inj⟩
theorem outerM_wf (k : Nat) (hk : k ≤ 4194304) : (Lit.int .i64 (k : Int)).wf = true := by
  have h1 : IntKind.i64.min = -9223372036854775808 := rfl
  have h2 : IntKind.i64.max = 9223372036854775807 := rfl
  simp [Lit.wf]
  omega
theorem outerM_put (im : Nat → Option Nat) (k g : Nat) (x : Int) : (if x = (k : Int) then some (Value.map (some g)) else outerM im x) = outerM (fun j => if j = k then some g else im j) x := by
  unfold outerM
  by_cases h0 : 0 ≤ x
  · rw [if_pos h0, if_pos h0]
    by_cases e : x = (k : Int)
    · subst e
      simp
    · have hk : x.toNat ≠ k := by omega
      simp [e, hk]
  · rw [if_neg h0, if_neg h0, if_neg (by omega)]
theorem outerM_del (im : Nat → Option Nat) (k : Nat) (x : Int) : (if x = (k : Int) then none else outerM im x) = outerM (fun j => if j = k then none else im j) x := by
  unfold outerM
  by_cases h0 : 0 ≤ x
  · rw [if_pos h0, if_pos h0]
    by_cases e : x = (k : Int)
    · subst e
      simp
    · have hk : x.toNat ≠ k := by omega
      simp [e, hk]
  · rw [if_neg h0, if_neg h0, if_neg (by omega)]
set_option maxRecDepth 1000000 in
theorem zeroM (w : World) : (zeroValue 81).run Try.prog w = .ok (.map none) w := by kernel_rfl
theorem row_notmap {w : World} {base size n b N : Nat} {t : TypeId} {v : Value} {xs : List Value} {f : Int → Option Value} (hr : w.ownsRow base t size v n xs) (hm : MapIs w b N f) : some b ≠ v.ownBlock := by
  intro e
  obtain ⟨cs', h2, _⟩ := row_block hr e.symm
  exact hm.cells h2 rfl
end Go.Proofs.Ythdklbmachplmaa
