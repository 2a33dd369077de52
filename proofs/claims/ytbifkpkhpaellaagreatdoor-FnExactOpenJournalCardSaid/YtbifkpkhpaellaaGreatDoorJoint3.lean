/-
  A disk that came in, read as data: its files lie one behind the other.
-/
import Derived.Test.YtbifkpkhpaellaaGreatDoorJoint2
import Derived.Deep.Strs
import Derived.ChangeSame
import Derived.OpenShut
namespace Go.Proofs.YtbifkpkhpaellaaGreatDoor
open Go.ChangeShapes Go.WideShapes Go.RowKit Go.Deep

set_option maxRecDepth 1000000 in
theorem disk_cells1 : Tryz.prog.cellsOf 24 = 1 := by kernel_rfl
set_option maxRecDepth 1000000 in
theorem disk_cellsS : Tryz.prog.cellsOf 22 = 1 := by kernel_rfl
set_option maxRecDepth 1000000 in
theorem disk_cellsF : Tryz.prog.cellsOf 72 = 3 := by kernel_rfl
set_option maxRecDepth 1000000 in
theorem disk_cells9 : Tryz.prog.cellsOf 9 = 1 := by kernel_rfl
set_option maxRecDepth 1000000 in
theorem disk_cells3 : Tryz.prog.cellsOf 3 = 1 := by kernel_rfl

set_option maxRecDepth 1000000 in
/-- three cells that read as a file -/
theorem open_file {H : Type} {enc : TypeId × Value → H} {W : World} {base : Nat} {sp : Nat → Bool} {held : Bool} {fuel : Nat} {cs : List Value} {x : DataW H × List MemPlace} (h : DataW.trod enc Tryz.prog W base sp held fuel 72 cs = some x) :
    ∃ f : FileD, cs = fileEnc f ∧ f.name.size ≤ maxLen ∧ f.text.size ≤ maxLen ∧ -9223372036854775808 ≤ f.kept ∧ f.kept ≤ 9223372036854775807 := by
  obtain ⟨y0, y1, y2, n, _, hl, h0, h1, h2⟩ := trod_struct3 Tryz.underlying72 h
  rw [disk_cellsF] at hl
  match cs, hl with
  | [a, b, c], _ =>
    simp only [disk_cells9, disk_cells3] at h0 h1 h2
    obtain ⟨s, e0, _, s0⟩ := DataW.trod_string Tryz.underlying9 h0
    obtain ⟨t, e1, _, s1⟩ := DataW.trod_string Tryz.underlying9 h1
    obtain ⟨k, e2, _, s2⟩ := DataW.trod_int Tryz.underlying3 h2
    simp at e0 e1 e2
    subst e0 e1 e2
    have hb := bounds_i64 s2
    exact ⟨⟨s, t, k⟩, rfl, s0, s1, hb.1, hb.2⟩

/-- files whose numbers are numbers -/
def KeptFit (l : List FileD) : Prop := ∀ j (hj : j < l.length), -9223372036854775808 ≤ l[j].kept ∧ l[j].kept ≤ 9223372036854775807

set_option maxRecDepth 1000000 in
theorem open_files {H : Type} {enc : TypeId × Value → H} {W : World} {base : Nat} {sp : Nat → Bool} {held : Bool} {fuel : Nat} {cs : List Value} {x : DataW H × List MemPlace} (h : DataW.trod enc Tryz.prog W base sp held fuel 22 cs = some x) :
    ∃ ao l cap, cs = [.slice ao l.length cap] ∧ l.length ≤ cap ∧ cap ≤ maxLen ∧ FilesAt W ao l ∧ FilesFit l ∧ KeptFit l := by
  rcases open_slice Tryz.underlying22 h with ⟨rfl, _⟩ | ⟨a, len, cap, m, n, D, Pl, rfl, hb, hl, hm, hmm, _, hx⟩
  · exact ⟨none, [], 0, rfl, Nat.le_refl _, by unfold maxLen; omega, fun h => absurd rfl h, fun j hj => by simp at hj, fun j hj => by simp at hj⟩
  · have hlm : len ≤ m := by rw [hmm]; split <;> omega
    have each : ∀ i, i < len → ∃ f : FileD, (W.cells? base (a.add (i * 3)) 3 = some (fileEnc f)) ∧ f.name.size ≤ maxLen ∧ f.text.size ≤ maxLen ∧ -9223372036854775808 ≤ f.kept ∧ f.kept ≤ 9223372036854775807 := fun i hi => by
      obtain ⟨cs', e1, e2⟩ := hx i (by omega)
      rw [disk_cellsF] at e1
      obtain ⟨f, rfl, r⟩ := open_file e2
      exact ⟨f, e1, r⟩
    have hin : Inhabited FileD := ⟨⟨ByteArray.empty, ByteArray.empty, 0⟩⟩
    obtain ⟨F, hF⟩ := choose_lt each
    have hll : ((List.range len).map F).length = len := by simp
    refine ⟨some a, (List.range len).map F, cap, by rw [hll], by rw [hll]; exact hl, hm, ?_, ?_, ?_⟩
    · intro hne
      have hp : 0 < len := by
        rcases Nat.eq_zero_or_pos len with e | e
        · subst e; exact absurd rfl hne
        · exact e
      obtain ⟨b, off, spot⟩ := a
      have hc : ∀ i c, i < len → c < 3 → W.cell? ((Addr.add ⟨b, off, spot⟩ (i * 3)).add c) = (fileEnc (F i))[c]? := fun i c hi hc => (World.cells?_some (hF i hi).1).2.2 c hc
      have hspot : spot = none := by
        have := hc 0 0 hp (by omega)
        simpa [Addr.add] using World.cell?_spot this
      subst hspot
      refine ⟨b, off, rfl, fun j hj => ?_⟩
      simp only [List.getElem_map, List.getElem_range]
      have hj' : j < len := by omega
      have h0 := hc j 0 hj' (by omega)
      have h1 := hc j 1 hj' (by omega)
      have h2 := hc j 2 hj' (by omega)
      rw [add_plain, add_plain] at h0 h1 h2
      exact ⟨h0, h1, h2⟩
    · intro j hj
      simp only [List.getElem_map, List.getElem_range]
      have := (hF j (by omega)).2
      exact ⟨Nat.le_trans this.1 (show maxLen ≤ 9223372036854775807 by decide), Nat.le_trans this.2.1 (show maxLen ≤ 9223372036854775807 by decide)⟩
    · intro j hj
      simp only [List.getElem_map, List.getElem_range]
      exact (hF j (by omega)).2.2.2

set_option maxRecDepth 1000000 in
/-- a disk as a parameter -/
theorem open_disk {H : Type} {enc : TypeId × Value → H} {W : World} {r : Reach} {b0 base : Nat} {sp : Nat → Bool} {held : Bool} {v : Value} {d : DataW H} {ps : List MemPlace} (hval : Value.okWide Tryz.prog W r b0 24 v) (hd : DataW.Trod enc Tryz.prog W base sp held 24 v d ps) :
    ∃ ao l cap, v = .agg #[.slice ao l.length cap] ∧ l.length ≤ cap ∧ cap ≤ maxLen ∧ FilesAt W ao l ∧ FilesFit l ∧ KeptFit l := by
  obtain ⟨cs, rfl, _⟩ := okWide_struct Tryz.underlying24 hval
  obtain ⟨fuel, hf⟩ := hd
  obtain ⟨y0, n, _, hl, h0⟩ := trod_struct1 Tryz.underlying24 hf
  rw [disk_cells1] at hl
  simp only [disk_cellsS] at h0
  obtain ⟨ao, l, cap, e, r⟩ := open_files h0
  refine ⟨ao, l, cap, ?_, r⟩
  obtain ⟨c⟩ := cs
  have hl' : c.length = 1 := by simpa [Value.cells] using hl
  match c, hl' with
  | [x], _ =>
    simp [Value.cells] at e
    rw [e]
end Go.Proofs.YtbifkpkhpaellaaGreatDoor
