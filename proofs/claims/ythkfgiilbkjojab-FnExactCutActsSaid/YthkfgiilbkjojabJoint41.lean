/-
  DoActs of spec and of impl in one form.
-/
import Derived.Test.YthkfgiilbkjojabJoint10
import Derived.Test.YthkfgiilbkjojabJoint31
import Derived.Test.YthkfgiilbkjojabJoint40
namespace Go.Proofs.Ythkfgiilbkjojab
open Go.RowKit

theorem specDoActs_o (ao : Option Addr) (l : List FileD) (cap : Nat) (bo : Option Addr) (acts : List ActD) (bcap : Nat) (hl : l.length ≤ 1048576) (hal : acts.length ≤ 1048576) (ham : ActsSmall acts) (w : World) (ha : FilesAt w ao l) (hq : ActsAt w bo acts) :
    Calls Try.prog 24 #[.agg #[.slice ao l.length cap], .slice bo acts.length bcap] w fun e w' => ∃ va vc, e = .returned (.tuple #[.agg #[.slice va (doAll l acts).1.length vc], .int .i64 (doAll l acts).2]) ∧ OwnAt w' 63 (fileCells (doAll l acts).1) (doAll l acts).1.length va w.heap.size w'.heap.size ∧ Below w.heap.size w w' := by
  have h : Calls Try.prog 24 #[.agg #[.slice ao l.length cap], .slice bo acts.length bcap] w fun e w' => DidActs w l acts (fun W o va => OwnAt W 63 (fileCells o) o.length va w.heap.size W.heap.size) e w' := by
    rcases Nat.eq_zero_or_pos l.length with h0 | hpos
    · exact specDoActs_nil ao l cap bo acts bcap hl hal ham (List.length_eq_zero_iff.1 h0) w ha hq
    · exact specDoActs_any ao l cap bo acts bcap hl hal ham hpos w ha hq
  refine h.mono ?_
  rintro e w' ⟨i, o, va, vc, rfl, ⟨h1, h2, h3⟩, ho, hb⟩
  rw [doAll_eq h1 h2 h3]
  exact ⟨va, vc, rfl, ho, hb⟩
theorem implDoActs_o (ao : Option Addr) (l : List FileD) (cap : Nat) (bo : Option Addr) (acts : List ActD) (bcap : Nat) (hl : l.length ≤ 1048576) (hsm : ∀ f ∈ l, f.name.size ≤ 1048576 ∧ f.text.size ≤ 1048576) (hal : acts.length ≤ 1048576) (ham : ActsSmall acts) (w : World) (ha : FilesAt w ao l) (hq : ActsAt w bo acts) :
    Calls Try.prog 28 #[.agg #[.slice ao l.length cap], .slice bo acts.length bcap] w fun e w' => ∃ va vc, e = .returned (.tuple #[.agg #[.slice va (doAll l acts).1.length vc], .int .i64 (doAll l acts).2]) ∧ OwnAt w' 63 (fileCells (doAll l acts).1) (doAll l acts).1.length va w.heap.size w'.heap.size ∧ Below w.heap.size w w' := by
  have h : Calls Try.prog 28 #[.agg #[.slice ao l.length cap], .slice bo acts.length bcap] w fun e w' => DidActs w l acts (DoneAt w.heap.size) e w' := by
    cases hd : diskOk l with
    | true => exact implDoActs_yes ao l cap bo acts bcap hal ham hd w ha hq
    | false => exact implDoActs_no ao l cap bo acts bcap hl hsm hd w ha
  refine h.mono ?_
  rintro e w' ⟨i, o, va, vc, rfl, ⟨h1, h2, h3⟩, ho, hb⟩
  rw [doAll_eq h1 h2 h3]
  exact ⟨va, vc, rfl, ho, hb⟩
end Go.Proofs.Ythkfgiilbkjojab
