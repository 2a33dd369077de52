/-
  A list of acts that came in, read as data.
-/
import Derived.Test.YthkfgiilbkjojabJoint3
import Derived.Test.YthkfgiilbkjojabJoint5
import Derived.Test.YthkfgiilbkjojabJoint11
namespace Go.Proofs.Ythkfgiilbkjojab
open Go.ChangeShapes Go.WideShapes Go.RowKit Go.Deep

set_option maxRecDepth 1000000 in
/-- a list of acts as a parameter -/
theorem open_acts {H : Type} {enc : TypeId × Value → H} {W : World} {r : Reach} {b0 base : Nat} {sp : Nat → Bool} {held : Bool} {v : Value} {d : DataW H} {ps : List MemPlace} (hval : Value.okWide Try.prog W r b0 25 v) (hd : DataW.Trod enc Try.prog W base sp held 25 v d ps) :
    ∃ ao acts cap, v = .slice ao acts.length cap ∧ acts.length ≤ cap ∧ cap ≤ maxLen ∧ ActsAt W ao acts ∧ ActsFit acts := by
  obtain ⟨ao, ln, cp, rfl⟩ := okWide_slice Try.underlying25 hval
  obtain ⟨fuel, h⟩ := hd
  rcases open_slice Try.underlying25 h with ⟨e, _⟩ | ⟨a, len, cap, m, n, D, Pl, e, hb, hl, hm, hmm, _, hx⟩
  · simp [Value.cells] at e
    obtain ⟨rfl, rfl, rfl⟩ := e
    exact ⟨none, [], 0, rfl, Nat.le_refl _, by unfold maxLen; omega, fun h => absurd rfl h, fun j hj => by simp at hj⟩
  · simp [Value.cells] at e
    obtain ⟨rfl, rfl, rfl⟩ := e
    have hlm : ln ≤ m := by rw [hmm]; split <;> omega
    have each : ∀ i, i < ln → ∃ f : ActD, (W.cells? base (a.add (i * 4)) 4 = some (actEnc f)) ∧ f.Fits ∧ f.KindFits := fun i hi => by
      obtain ⟨cs', e1, e2⟩ := hx i (by omega)
      rw [act_cellsA] at e1
      obtain ⟨f, rfl, r⟩ := open_actCells e2
      exact ⟨f, e1, r⟩
    have hin : Inhabited ActD := ⟨⟨0, ByteArray.empty, ByteArray.empty, ByteArray.empty⟩⟩
    obtain ⟨F, hF⟩ := choose_lt each
    have hll : ((List.range ln).map F).length = ln := by simp
    refine ⟨some a, (List.range ln).map F, cp, by rw [hll], by rw [hll]; exact hl, hm, ?_, ?_⟩
    · intro hne
      have hp : 0 < ln := by
        rcases Nat.eq_zero_or_pos ln with e | e
        · subst e; exact absurd rfl hne
        · exact e
      obtain ⟨b, off, spot⟩ := a
      have hc : ∀ i c, i < ln → c < 4 → W.cell? ((Addr.add ⟨b, off, spot⟩ (i * 4)).add c) = (actEnc (F i))[c]? := fun i c hi hc => (World.cells?_some (hF i hi).1).2.2 c hc
      have hspot : spot = none := by
        have := hc 0 0 hp (by omega)
        simpa [Addr.add] using World.cell?_spot this
      subst hspot
      refine ⟨b, off, rfl, fun j hj => ?_⟩
      simp only [List.getElem_map, List.getElem_range]
      have hj' : j < ln := by omega
      have h0 := hc j 0 hj' (by omega)
      have h1 := hc j 1 hj' (by omega)
      have h2 := hc j 2 hj' (by omega)
      have h3 := hc j 3 hj' (by omega)
      rw [add_plain, add_plain] at h0 h1 h2 h3
      exact ⟨h0, h1, h2, h3⟩
    · intro j hj
      simp only [List.getElem_map, List.getElem_range]
      exact (hF j (by omega)).2.1
end Go.Proofs.Ythkfgiilbkjojab
