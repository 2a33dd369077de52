/-
  CutActs of spec and of impl in one form.
-/
import Derived.Test.YthkfgiilbkjojabJoint49
namespace Go.Proofs.Ythkfgiilbkjojab
open Go.RowKit

theorem cutAns_small {l : List FileD} {acts : List ActD} {nn : Int} {zs : List Int} (hl : l.length ≤ 1048576) : (cutAns l acts nn zs).1.length ≤ 1048576 := by
  unfold cutAns
  split
  · split
    · exact Nat.zero_le _
    · exact loseAns_small (doAll_small hl)
  · exact Nat.zero_le _
theorem cutAns_no {l : List FileD} {acts : List ActD} {nn : Int} {zs : List Int} (h : nn < 0 ∨ (acts.length : Int) < nn) : cutAns l acts nn zs = ([], false) := by
  rw [cutAns, if_neg (by omega)]
theorem specCutActs_o (ao : Option Addr) (l : List FileD) (cap : Nat) (bo : Option Addr) (acts : List ActD) (bcap : Nat) (nn : Int) (lo : Option Addr) (zs : List Int) (lcap : Nat) (hl : l.length ≤ 1048576) (hsm : ∀ f ∈ l, f.name.size ≤ 1048576 ∧ f.text.size ≤ 1048576) (hal : acts.length ≤ 1048576) (ham : ActsSmall acts) (hbc : acts.length ≤ bcap) (hzl : zs.length ≤ 1048576) (w : World) (ha : FilesAt w ao l) (hq : ActsAt w bo acts) (hz : IntsAt w lo zs) :
    Calls Try.prog 7 #[.agg #[.slice ao l.length cap], .slice bo acts.length bcap, .int .i64 nn, .slice lo zs.length lcap] w fun e w' => ∃ va vc, e = .returned (.tuple #[.agg #[.slice va (cutAns l acts nn zs).1.length vc], .bool (cutAns l acts nn zs).2]) ∧ OwnAt w' 63 (fileCells (cutAns l acts nn zs).1) (cutAns l acts nn zs).1.length va w.heap.size w'.heap.size ∧ Below w.heap.size w w' := by
  by_cases h : nn < 0 ∨ (acts.length : Int) < nn
  · refine (specCut_no ao l cap bo acts bcap nn lo zs lcap hal h w).mono ?_
    rintro e w' ⟨rfl, hb⟩
    rw [cutAns_no h]
    exact ⟨none, 0, rfl, Or.inl rfl, hb⟩
  · obtain ⟨K, rfl⟩ : ∃ K : Nat, nn = K := ⟨nn.toNat, by omega⟩
    exact specCut_yes ao l cap bo acts bcap K lo zs lcap hl hsm hal ham hbc hzl (by omega) w ha hq hz
theorem implCutActs_o (ao : Option Addr) (l : List FileD) (cap : Nat) (bo : Option Addr) (acts : List ActD) (bcap : Nat) (nn : Int) (lo : Option Addr) (zs : List Int) (lcap : Nat) (hl : l.length ≤ 1048576) (hsm : ∀ f ∈ l, f.name.size ≤ 1048576 ∧ f.text.size ≤ 1048576) (hal : acts.length ≤ 1048576) (ham : ActsSmall acts) (hbc : acts.length ≤ bcap) (hzl : zs.length ≤ 1048576) (w : World) (ha : FilesAt w ao l) (hq : ActsAt w bo acts) (hz : IntsAt w lo zs) :
    Calls Try.prog 11 #[.agg #[.slice ao l.length cap], .slice bo acts.length bcap, .int .i64 nn, .slice lo zs.length lcap] w fun e w' => ∃ va vc, e = .returned (.tuple #[.agg #[.slice va (cutAns l acts nn zs).1.length vc], .bool (cutAns l acts nn zs).2]) ∧ OwnAt w' 63 (fileCells (cutAns l acts nn zs).1) (cutAns l acts nn zs).1.length va w.heap.size w'.heap.size ∧ Below w.heap.size w w' := by
  by_cases h : nn < 0 ∨ (acts.length : Int) < nn
  · refine (implCut_no ao l cap bo acts bcap nn lo zs lcap hal h w).mono ?_
    rintro e w' ⟨rfl, hb⟩
    rw [cutAns_no h]
    exact ⟨none, 0, rfl, Or.inl rfl, hb⟩
  · obtain ⟨K, rfl⟩ : ∃ K : Nat, nn = K := ⟨nn.toNat, by omega⟩
    exact implCut_yes ao l cap bo acts bcap K lo zs lcap hl hsm hal ham hbc hzl (by omega) w ha hq hz
end Go.Proofs.Ythkfgiilbkjojab
