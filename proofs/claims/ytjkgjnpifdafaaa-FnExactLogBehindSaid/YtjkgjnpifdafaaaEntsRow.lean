/-
  Entries that are appended to an empty list of the call's own.
-/
import Derived.Test.YtjkgjnpifdafaaaEntOwn
import Derived.Test.YtjkgjnpifdafaaaEntsMem
import Derived.Test.YtjkgjnpifdafaaaEntInfo
namespace Go.Proofs.Ytjkgjnpifdafaaa
open Go.RowKit

/-- entries behind an empty list -/
theorem append_ents {W : World} {g0 : Nat} (h0 : BlockIs W g0 35 []) {vo : Option Addr} {L : List EntD} {c : Nat} (hL : L.length ≤ 1048577) (hE : EntsAt W vo L) :
    ∃ v' W', (Builtin.append_ #[29, 29] 29 #[.slice (some ⟨g0, 0, none⟩) 0 0, .slice vo L.length c]).run Try.prog W = .ok v' W' ∧ W'.ownsRow g0 35 3 v' L.length (entCells L) ∧ W.grownBy W' (some g0) := by
  obtain ⟨i0, hi, hz0, hz1, hz2⟩ := info_parts toEnt_info
  have hown : W.ownsRow g0 35 3 (.slice (some ⟨g0, 0, none⟩) 0 0) 0 [] := ⟨by simp, Or.inr ⟨g0, 0, #[], rfl, Nat.le_refl _, h0, by omega, by unfold maxLen; omega, by simp, by simp⟩⟩
  cases vo with
  | some ad =>
    have hnews : ∀ j u, (entCells L)[j]? = some u → W.cell? (ad.add j) = some u := by
      by_cases hne : L = []
      · subst hne
        intro j u hu
        simp [entCells] at hu
      · obtain ⟨b, off, e, hc⟩ := hE hne
        cases e
        exact ents_cells hc
    obtain ⟨v', W', hr, h2, h3, _⟩ := run_append_own (P := Try.prog) W g0 29 29 35 i0 _ 3 32 Try.underlying29 hi hz0 hz1 hz2 rfl (by decide) _ 0 [] hown ad L.length c (entCells L) (entCells_length L) hnews (entCells_one L) (by unfold maxLen; omega) (by omega) (Nat.le_of_lt h0.lt)
    rw [Nat.zero_add, List.nil_append] at h2
    exact ⟨v', W', hr, h2, h3⟩
  | none =>
    have hne : L = [] := by
      by_cases hne : L = []
      · exact hne
      · obtain ⟨b, off, e, _⟩ := hE hne
        cases e
    subst hne
    refine ⟨.slice (some ⟨g0, 0, none⟩) 0 0, W, ?_, hown, World.grownBy.refl _ _⟩
    simp [Builtin.append_, run_underlying Try.underlying29, sizeOf, typeInfo, hi, Builtin.lenOf, Builtin.firstCells, storeCells]
/-- nothing behind an empty list -/
theorem append_nothing {W : World} {g0 : Nat} (vo : Option Addr) (c : Nat) : (Builtin.append_ #[29, 29] 29 #[.slice (some ⟨g0, 0, none⟩) 0 0, .slice vo 0 c]).run Try.prog W = .ok (.slice (some ⟨g0, 0, none⟩) 0 0) W := by
  obtain ⟨i0, hi, hz0, hz1, hz2⟩ := info_parts toEnt_info
  have hl : ∀ (x : Addr), (loadCells x 0).run Try.prog W = .ok #[] W := fun x => by simpa using run_loadCells_list (P := Try.prog) W x [] (by simp)
  cases vo <;> simp [Builtin.append_, run_underlying Try.underlying29, sizeOf, typeInfo, hi, Builtin.lenOf, Builtin.firstCells, storeCells, hl]
theorem wpList_append_zero {w : World} {ops : Array Oper} {rest : List Oper} {o : Oper} {a : Act} {Q : Exit → Act → World → Prop} (hgd : o.guard = none) (s x : Operand)
    (ho : o.op = .call { callee := .builtin .append, args := #[s, x], argTypes := #[29, 29] }) (hty : o.type = 29) (g0 : Nat) (vo : Option Addr) (c : Nat) (hs : a.eval s = .slice (some ⟨g0, 0, none⟩) 0 0) (hx : a.eval x = .slice vo 0 c)
    (h : wpList Try.prog ops Q rest (a.put o.dst (.slice (some ⟨g0, 0, none⟩) 0 0)) w) : wpList Try.prog ops Q (o :: rest) a w := by
  refine wpList_plain hgd fun K hK => ?_
  have hrun := append_nothing (W := w) (g0 := g0) vo c
  rw [← hty] at hrun
  unfold Oper.wp
  rw [hty] at hrun
  simp [execOp, ho, hty, resolve, invoke, builtin, hs, hx, hrun, Result.andThen]
  exact hK _ _ h
/-- one entry behind a row of the call's own -/
theorem append_one {W : World} {v : Value} {k base g : Nat} {L : List EntD} {d : EntD} (hL : k ≤ 1048576) (hbase : base ≤ W.heap.size) (hr : W.ownsRow base 35 3 v k (entCells L)) (hg : BlockIs W g 35 (entEnc d)) :
    ∃ v' W', (Builtin.append_ #[29, 29] 29 #[v, .slice (some ⟨g, 0, none⟩) 1 1]).run Try.prog W = .ok v' W' ∧ W'.ownsRow base 35 3 v' (k + 1) (entCells L ++ entEnc d) ∧ W.grownBy W' v.ownBlock := by
  obtain ⟨i0, hi, hz0, hz1, hz2⟩ := info_parts toEnt_info
  have hnews : ∀ j u, (entEnc d)[j]? = some u → W.cell? ((⟨g, 0, none⟩ : Addr).add j) = some u := by
    intro j u hu
    rw [Addr.add_lit, Nat.zero_add]
    exact hg.cell hu
  have hone : ∀ u ∈ entEnc d, u.oneCell' = true := by
    intro u hu
    simp only [entEnc, List.mem_cons, List.not_mem_nil, or_false] at hu
    rcases hu with rfl | rfl | rfl <;> rfl
  obtain ⟨v', W', h1, h2, h3, _⟩ := run_append_own (P := Try.prog) W base 29 29 35 i0 _ 3 32 Try.underlying29 hi hz0 hz1 hz2 rfl (by decide) v k _ hr ⟨g, 0, none⟩ 1 1 (entEnc d) rfl hnews hone (by unfold maxLen; omega) (by omega) hbase
  exact ⟨v', W', h1, h2, h3⟩
end Go.Proofs.Ytjkgjnpifdafaaa
