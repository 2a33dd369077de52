/-
  What a cursor reads, told by plain readers.
-/
import Derived.Test.YtihgkocfgjihhaaDoorJoint42
import Derived.Test.YtihgkocfgjihhaaDoorJoint1
namespace Go.Proofs.YtihgkocfgjihhaaDoor
open Go.RowKit Go.Sort

theorem nSt_is {s : ByteArray} {o : Option Nat} (h : ∀ k, o = some k → k ≤ s.size) : st16 s o = nSt s o ∧ nu16 s o = nVal s o := by
  cases o with
  | none => exact ⟨rfl, rfl⟩
  | some k =>
    simp only [st16, nSt, nu16, nVal, numAt]
    cases hv : rv (s.data.toList.drop k) with
    | none => simp
    | some p =>
      obtain ⟨n, c⟩ := p
      have := (rv_fits (h k rfl) hv).1
      simp [if_pos this]
theorem tSt_is (s : ByteArray) (o : Option Nat) : ss16 s o = tSt s o ∧ sx16 s o = tVal s o := by
  cases o with
  | none => exact ⟨rfl, rfl⟩
  | some k =>
    simp only [ss16, tSt, sx16, tVal, txtAt]
    cases rs s (k : Int) with
    | none => exact ⟨rfl, rfl⟩
    | some p => exact ⟨rfl, rfl⟩
theorem l16Var_n (b : Nat) (s : ByteArray) (hs : s.size ≤ 1048576) (o : Option Nat) (w : World) (hc : St16 w b s o) :
    Calls Tryd.prog 33 #[.pointer (some ⟨b, 0, none⟩)] w fun e w' => e = .returned (.int .i64 (nVal s o : Int)) ∧ St16 w' b s (nSt s o) ∧ w.grownBy w' (some b) := by
  have h := nSt_is (s := s) (o := o) (fun k e => by obtain ⟨j, hj, _, hk⟩ := hc; rw [← hk k e]; exact hj)
  rw [← h.1, ← h.2]
  exact l16Var_any b s hs o w hc
theorem l16ReadShort_n (b : Nat) (s : ByteArray) (hs : s.size ≤ 1048576) (o : Option Nat) (w : World) (hc : St16 w b s o) :
    Calls Tryd.prog 34 #[.pointer (some ⟨b, 0, none⟩)] w fun e w' => e = .returned (.string (tVal s o)) ∧ St16 w' b s (tSt s o) ∧ w.grownBy w' (some b) := by
  have h := tSt_is s o
  rw [← h.1, ← h.2]
  exact l16ReadShort_any b s hs o w hc
theorem st_grown {w w' : World} {b r : Nat} {s : ByteArray} {o : Option Nat} (h : St16 w b s o) (hg : w.grownBy w' (some r)) (hr : b ≠ r) : St16 w' b s o := by
  obtain ⟨k, e1, e2, e3⟩ := h
  exact ⟨k, e1, blk_grown e2 hg hr, e3⟩
theorem st_far {w : World} {b q j : Nat} {s : ByteArray} {o : Option Nat} (h : St16 w b s o) (hr : q ≠ b) (v : Value) : St16 (w.setCell ⟨q, j, none⟩ v) b s o := by
  obtain ⟨k, e1, e2, e3⟩ := h
  exact ⟨k, e1, BlockIs.far e2 hr v, e3⟩
theorem st_on {w w' : World} {b : Nat} {s : ByteArray} {o : Option Nat} (h : St16 w b s o) (hb : Below w.heap.size w w') : St16 w' b s o := by
  obtain ⟨k, e1, e2, e3⟩ := h
  exact ⟨k, e1, BlockIs.on e2 hb (BlockIs.lt e2), e3⟩
end Go.Proofs.YtihgkocfgjihhaaDoor
