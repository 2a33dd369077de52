/-
  What TidyBits answers; nested lists stand where a row of bits grows.
-/
import Derived.Test.YtpknpodmoeaggabBitsOwn
namespace Go.Proofs.Ytpknpodmoeaggab
open Go.RowKit

def tidyB (l : List BitD) (now : Int) : List BitD := l.filter fun e => decide (now < e.lim)
theorem tidyB_take (l : List BitD) (now : Int) (k : Nat) (h : k < l.length) : tidyB (l.take (k + 1)) now = tidyB (l.take k) now ++ (if now < l[k].lim then [l[k]] else []) := by
  rw [List.take_succ_eq_append_getElem h, tidyB, tidyB, List.filter_append]
  by_cases hn : now < l[k].lim <;> simp [List.filter, hn]
theorem tidyB_length (l : List BitD) (now : Int) : (tidyB l now).length ≤ l.length := List.length_filter_le _ _
theorem OwnAt.other {w w1 : World} {t : TypeId} {cs : List Value} {n : Nat} {va : Option Addr} {lo hi : Nat} (h : OwnAt w t cs n va lo hi) (hb : ∀ g xs, BlockIs w g t xs → BlockIs w1 g t xs) : OwnAt w1 t cs n va lo hi :=
  h.imp id fun ⟨g, r, a, b, c, d⟩ => ⟨g, r, a, b, c, hb _ _ d⟩
theorem OwnB.other {w w1 : World} {e : BitD} {r : BitsD} {lo hi : Nat} (h : OwnB w e r lo hi) (h9 : ∀ g xs, BlockIs w g 9 xs → BlockIs w1 g 9 xs) (h3 : ∀ g xs, BlockIs w g 3 xs → BlockIs w1 g 3 xs) : OwnB w1 e r lo hi := by
  obtain ⟨ta, tc, aa, ac, m, e1, e2, e3, e4⟩ := h
  exact ⟨ta, tc, aa, ac, m, e1, e2.other h9, e3.other h3, e4⟩
theorem Nest.other {w w1 : World} (h9 : ∀ g xs, BlockIs w g 9 xs → BlockIs w1 g 9 xs) (h3 : ∀ g xs, BlockIs w g 3 xs → BlockIs w1 g 3 xs) : ∀ {l : List BitD} {rs : List BitsD} {lo hi : Nat}, Nest w l rs lo hi → Nest w1 l rs lo hi
  | [], [], _, _, h => h
  | _ :: _, _ :: _, _, _, ⟨m, e1, e2⟩ => ⟨m, e1.other h9 h3, Nest.other h9 h3 e2⟩
/-- nested lists stand where a row of bits grows -/
theorem Nest.row {w w1 : World} {l : List BitD} {rs : List BitsD} {lo hi base n : Nat} {v : Value} {xs : List Value} (h : Nest w l rs lo hi) (hr : w.ownsRow base 60 6 v n xs) (hg : w.grownBy w1 v.ownBlock) : Nest w1 l rs lo hi :=
  h.other (fun _ _ hb => bitsR_other hb hr hg (by decide)) (fun _ _ hb => bitsR_other hb hr hg (by decide))
def BitsDid (A : List BitD) (w : World) (e : Ending) (w' : World) : Prop := ∃ va vc, e = .returned (.slice va A.length vc) ∧ A.length ≤ vc ∧ OwnBits w' va A w.heap.size w'.heap.size ∧ Below w.heap.size w w'
theorem smallB_take {l : List BitD} (h : ∀ e ∈ l, SmallB e) (k : Nat) (hk : k < l.length) : SmallB l[k] := h _ (List.getElem_mem hk)
end Go.Proofs.Ytpknpodmoeaggab
