/-
  What impl.textReader's methods number and short read, as one contract each.
-/
import Derived.Test.YtlplnobfkjhcdaaJoint21
import Derived.Test.YtlplnobfkjhcdaaJoint1
namespace Go.Proofs.Ytlplnobfkjhcdaa
open Go.RowKit Go.Sort

def numDid (o : Option (Nat × Nat)) (s : ByteArray) (b : Nat) (w : World) (e : Ending) (w' : World) : Prop := match o with
  | none => e = .panicked [misreadP] ∧ w.grownBy w' (some b)
  | some (n, k) => e = .returned (.int .i64 (n : Int)) ∧ RdIs w' b s k ∧ w.grownBy w' (some b)
def txtDid (o : Option (ByteArray × Nat)) (s : ByteArray) (b : Nat) (w : World) (e : Ending) (w' : World) : Prop := match o with
  | none => e = .panicked [misreadP] ∧ w.grownBy w' (some b)
  | some (t, k) => e = .returned (.string t) ∧ RdIs w' b s k ∧ w.grownBy w' (some b)
theorem number_at (b : Nat) (s : ByteArray) (k lim : Nat) (hs : s.size ≤ 1048576) (hk : k ≤ s.size) (w : World) (hr : RdIs w b s k) (l : Int) (hl : l = (lim : Int)) :
    Calls Try.prog 34 #[.pointer (some ⟨b, 0, none⟩), .int .i64 l] w fun e w' => numDid (numAt s lim k) s b w e w' := by
  subst hl
  unfold numAt
  cases h : rv (s.data.toList.drop k) with
  | none => exact number_no b s k lim hs hk (fun n c e => by rw [h] at e; cases e) w hr
  | some p =>
    obtain ⟨n, c⟩ := p
    dsimp only
    by_cases hn : n ≤ lim
    · rw [if_pos hn]
      exact number_yes b s k n c lim hs hk h (by omega) w hr
    · rw [if_neg hn]
      exact number_no b s k lim hs hk (fun n' c' e => by rw [h] at e; cases e; omega) w hr
theorem short_at (b : Nat) (s : ByteArray) (k : Nat) (hs : s.size ≤ 1048576) (w : World) (hr : RdIs w b s k) :
    Calls Try.prog 38 #[.pointer (some ⟨b, 0, none⟩)] w fun e w' => txtDid (txtAt s k) s b w e w' := by
  unfold txtAt
  cases h : rs s (k : Int) with
  | none => exact short_no b s k hs h w hr
  | some p => exact short_yes b s k p.1 p.2 hs h w hr
theorem grown_new {w x : World} {r : Option Nat} (h : w.grownBy x r) (o : Obj) : w.grownBy (x.alloc o) r := h.trans (grown_of_below (below_more (Below.refl _ _) o) r)
theorem grown_put {w x : World} {r : Option Nat} (h : w.grownBy x r) {p j : Nat} (hp : w.heap.size ≤ p) (u : Value) : w.grownBy (x.setCell ⟨p, j, none⟩ u) r :=
  ⟨h.os, h.tape, h.output, by simpa [World.setCell] using h.size, fun k hk hr => (Below.heap_setCell _ _ _ _ (show k ≠ p by omega)).trans (h.block k hk hr)⟩
end Go.Proofs.Ytlplnobfkjhcdaa
