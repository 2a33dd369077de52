/-
  A list of entries within a struct that came in, read as data.
  A log that came in, read as data: its entries lie one behind the other.
-/
import Derived.Test.YtihgkocfgjihhaaGreatDoorJoint2
import Derived.Deep.Strs
import Derived.ChangeSame
import Derived.OpenShut
import Derived.Test.YtihgkocfgjihhaaGreatDoorJoint3
namespace Go.Proofs.YtihgkocfgjihhaaGreatDoor
open Go.ChangeShapes Go.WideShapes Go.RowKit Go.Deep

set_option maxRecDepth 1000000 in
theorem log_cellsS : Tryz.prog.cellsOf 34 = 1 := by kernel_rfl

set_option maxRecDepth 1000000 in
theorem open_ents {H : Type} {enc : TypeId × Value → H} {W : World} {base : Nat} {sp : Nat → Bool} {held : Bool} {fuel : Nat} {cs : List Value} {x : DataW H × List MemPlace} (h : DataW.trod enc Tryz.prog W base sp held fuel 34 cs = some x) :
    ∃ ao l cap, cs = [.slice ao l.length cap] ∧ l.length ≤ cap ∧ cap ≤ maxLen ∧ EntsAt W ao l ∧ EntsFit l := by
  rcases open_slice Tryz.underlying34 h with ⟨rfl, _⟩ | ⟨a, len, cap, m, n, D, Pl, rfl, hb, hl, hm, hmm, _, hx⟩
  · exact ⟨none, [], 0, rfl, Nat.le_refl _, by unfold maxLen; omega, fun h => absurd rfl h, fun j hj => by simp at hj⟩
  · have hlm : len ≤ m := by rw [hmm]; split <;> omega
    have each : ∀ i, i < len → ∃ f : EntD, (W.cells? base (a.add (i * 3)) 3 = some (entEnc f)) ∧ f.Fits := fun i hi => by
      obtain ⟨cs', e1, e2⟩ := hx i (by omega)
      rw [ent_cellsE] at e1
      obtain ⟨f, rfl, r⟩ := open_entCells e2
      exact ⟨f, e1, r⟩
    have hin : Inhabited EntD := ⟨⟨0, 0, ByteArray.empty⟩⟩
    obtain ⟨F, hF⟩ := choose_lt each
    have hll : ((List.range len).map F).length = len := by simp
    refine ⟨some a, (List.range len).map F, cap, by rw [hll], by rw [hll]; exact hl, hm, ?_, ?_⟩
    · intro hne
      have hp : 0 < len := by
        rcases Nat.eq_zero_or_pos len with e | e
        · subst e; exact absurd rfl hne
        · exact e
      obtain ⟨b, off, spot⟩ := a
      have hc : ∀ i c, i < len → c < 3 → W.cell? ((Addr.add ⟨b, off, spot⟩ (i * 3)).add c) = (entEnc (F i))[c]? := fun i c hi hc => (World.cells?_some (hF i hi).1).2.2 c hc
      have hspot : spot = none := by
        have := hc 0 0 hp (by omega)
        simpa [Addr.add] using World.cell?_spot this
      subst hspot
      refine ⟨b, off, rfl, fun j hj => ?_⟩
      simp only [List.getElem_map, List.getElem_range]
      have hj' : j < len := by omega
      have h0 := hc j 0 hj' (by omega)
      have h1 := hc j 1 hj' (by omega)
      have h2 := hc j 2 hj' (by omega)
      rw [add_plain, add_plain] at h0 h1 h2
      exact ⟨h0, h1, h2⟩
    · intro j hj
      simp only [List.getElem_map, List.getElem_range]
      exact (hF j (by omega)).2
end Go.Proofs.YtihgkocfgjihhaaGreatDoor

namespace Go.Proofs.YtihgkocfgjihhaaGreatDoor
open Go.ChangeShapes Go.WideShapes Go.RowKit Go.Deep

set_option maxRecDepth 1000000 in
theorem log_cells1 : Tryz.prog.cellsOf 36 = 3 := by kernel_rfl
set_option maxRecDepth 1000000 in
/-- a log as a parameter -/
theorem open_log {H : Type} {enc : TypeId × Value → H} {W : World} {r : Reach} {b0 base : Nat} {sp : Nat → Bool} {held : Bool} {v : Value} {d : DataW H} {ps : List MemPlace} (hval : Value.okWide Tryz.prog W r b0 36 v) (hd : DataW.Trod enc Tryz.prog W base sp held 36 v d ps) :
    ∃ s t ao l cap, v = .agg #[.int .i64 s, .int .i64 t, .slice ao l.length cap] ∧ (-9223372036854775808 ≤ s ∧ s ≤ 9223372036854775807) ∧ (-9223372036854775808 ≤ t ∧ t ≤ 9223372036854775807) ∧ l.length ≤ cap ∧ cap ≤ maxLen ∧ EntsAt W ao l ∧ EntsFit l := by
  obtain ⟨cs, rfl, _⟩ := okWide_struct Tryz.underlying36 hval
  obtain ⟨fuel, hf⟩ := hd
  obtain ⟨y0, y1, y2, n, hl, h0, h1, h2⟩ := ent_fields Tryz.underlying36 hf
  rw [log_cells1] at hl
  obtain ⟨c⟩ := cs
  have hl' : c.length = 3 := by simpa [Value.cells] using hl
  match c, hl' with
  | [x0, x1, x2], _ =>
    simp only [Value.cells, ent_cells3, log_cellsS] at h0 h1 h2
    obtain ⟨s, e0, _, s0⟩ := DataW.trod_int Tryz.underlying3 h0
    obtain ⟨t, e1, _, s1⟩ := DataW.trod_int Tryz.underlying3 h1
    obtain ⟨ao, l, cap, e2, r⟩ := open_ents h2
    simp at e0 e1 e2
    subst e0 e1 e2
    exact ⟨s, t, ao, l, cap, rfl, bounds_i64 s0, bounds_i64 s1, r⟩
end Go.Proofs.YtihgkocfgjihhaaGreatDoor
