/-
  A disk that came in, read as data: its files lie one behind the other.
  Disks as plain data: when one is right.
  What the power leaves of a disk, as plain data.
-/
import Derived.Test.YthkfgiilbkjojabJoint2
import Derived.Deep.Strs
import Derived.ChangeSame
import Derived.OpenShut
import Derived.Test.YthkfgiilbkjojabJoint1
namespace Go.Proofs.Ythkfgiilbkjojab
open Go.ChangeShapes Go.WideShapes Go.RowKit Go.Deep

set_option maxRecDepth 1000000 in
theorem disk_cells1 : Try.prog.cellsOf 24 = 1 := by kernel_rfl
set_option maxRecDepth 1000000 in
theorem disk_cellsS : Try.prog.cellsOf 22 = 1 := by kernel_rfl
set_option maxRecDepth 1000000 in
theorem disk_cellsF : Try.prog.cellsOf 65 = 3 := by kernel_rfl
set_option maxRecDepth 1000000 in
theorem disk_cells9 : Try.prog.cellsOf 9 = 1 := by kernel_rfl
set_option maxRecDepth 1000000 in
theorem disk_cells3 : Try.prog.cellsOf 3 = 1 := by kernel_rfl

set_option maxRecDepth 1000000 in
/-- three cells that read as a file -/
theorem open_file {H : Type} {enc : TypeId × Value → H} {W : World} {base : Nat} {sp : Nat → Bool} {held : Bool} {fuel : Nat} {cs : List Value} {x : DataW H × List MemPlace} (h : DataW.trod enc Try.prog W base sp held fuel 65 cs = some x) :
    ∃ f : FileD, cs = fileEnc f ∧ f.name.size ≤ maxLen ∧ f.text.size ≤ maxLen ∧ -9223372036854775808 ≤ f.kept ∧ f.kept ≤ 9223372036854775807 := by
  obtain ⟨y0, y1, y2, n, _, hl, h0, h1, h2⟩ := trod_struct3 Try.underlying65 h
  rw [disk_cellsF] at hl
  match cs, hl with
  | [a, b, c], _ =>
    simp only [disk_cells9, disk_cells3] at h0 h1 h2
    obtain ⟨s, e0, _, s0⟩ := DataW.trod_string Try.underlying9 h0
    obtain ⟨t, e1, _, s1⟩ := DataW.trod_string Try.underlying9 h1
    obtain ⟨k, e2, _, s2⟩ := DataW.trod_int Try.underlying3 h2
    simp at e0 e1 e2
    subst e0 e1 e2
    have hb := bounds_i64 s2
    exact ⟨⟨s, t, k⟩, rfl, s0, s1, hb.1, hb.2⟩

/-- files whose numbers are numbers -/
def KeptFit (l : List FileD) : Prop := ∀ j (hj : j < l.length), -9223372036854775808 ≤ l[j].kept ∧ l[j].kept ≤ 9223372036854775807

set_option maxRecDepth 1000000 in
theorem open_files {H : Type} {enc : TypeId × Value → H} {W : World} {base : Nat} {sp : Nat → Bool} {held : Bool} {fuel : Nat} {cs : List Value} {x : DataW H × List MemPlace} (h : DataW.trod enc Try.prog W base sp held fuel 22 cs = some x) :
    ∃ ao l cap, cs = [.slice ao l.length cap] ∧ l.length ≤ cap ∧ cap ≤ maxLen ∧ FilesAt W ao l ∧ FilesFit l ∧ KeptFit l := by
  rcases open_slice Try.underlying22 h with ⟨rfl, _⟩ | ⟨a, len, cap, m, n, D, Pl, rfl, hb, hl, hm, hmm, _, hx⟩
  · exact ⟨none, [], 0, rfl, Nat.le_refl _, by unfold maxLen; omega, fun h => absurd rfl h, fun j hj => by simp at hj, fun j hj => by simp at hj⟩
  · have hlm : len ≤ m := by rw [hmm]; split <;> omega
    have each : ∀ i, i < len → ∃ f : FileD, (W.cells? base (a.add (i * 3)) 3 = some (fileEnc f)) ∧ f.name.size ≤ maxLen ∧ f.text.size ≤ maxLen ∧ -9223372036854775808 ≤ f.kept ∧ f.kept ≤ 9223372036854775807 := fun i hi => by
      obtain ⟨cs', e1, e2⟩ := hx i (by omega)
      rw [disk_cellsF] at e1
      obtain ⟨f, rfl, r⟩ := open_file e2
      exact ⟨f, e1, r⟩
    have hin : Inhabited FileD := ⟨⟨ByteArray.empty, ByteArray.empty, 0⟩⟩
    obtain ⟨F, hF⟩ := choose_lt each
    have hll : ((List.range len).map F).length = len := by simp
    refine ⟨some a, (List.range len).map F, cap, by rw [hll], by rw [hll]; exact hl, hm, ?_, ?_, ?_⟩
    · intro hne
      have hp : 0 < len := by
        rcases Nat.eq_zero_or_pos len with e | e
        · subst e; exact absurd rfl hne
        · exact e
      obtain ⟨b, off, spot⟩ := a
      have hc : ∀ i c, i < len → c < 3 → W.cell? ((Addr.add ⟨b, off, spot⟩ (i * 3)).add c) = (fileEnc (F i))[c]? := fun i c hi hc => (World.cells?_some (hF i hi).1).2.2 c hc
      have hspot : spot = none := by
        have := hc 0 0 hp (by omega)
        simpa [Addr.add] using World.cell?_spot this
      subst hspot
      refine ⟨b, off, rfl, fun j hj => ?_⟩
      simp only [List.getElem_map, List.getElem_range]
      have hj' : j < len := by omega
      have h0 := hc j 0 hj' (by omega)
      have h1 := hc j 1 hj' (by omega)
      have h2 := hc j 2 hj' (by omega)
      rw [add_plain, add_plain] at h0 h1 h2
      exact ⟨h0, h1, h2⟩
    · intro j hj
      simp only [List.getElem_map, List.getElem_range]
      have := (hF j (by omega)).2
      exact ⟨Nat.le_trans this.1 (show maxLen ≤ 9223372036854775807 by decide), Nat.le_trans this.2.1 (show maxLen ≤ 9223372036854775807 by decide)⟩
    · intro j hj
      simp only [List.getElem_map, List.getElem_range]
      exact (hF j (by omega)).2.2.2

set_option maxRecDepth 1000000 in
/-- a disk as a parameter -/
theorem open_disk {H : Type} {enc : TypeId × Value → H} {W : World} {r : Reach} {b0 base : Nat} {sp : Nat → Bool} {held : Bool} {v : Value} {d : DataW H} {ps : List MemPlace} (hval : Value.okWide Try.prog W r b0 24 v) (hd : DataW.Trod enc Try.prog W base sp held 24 v d ps) :
    ∃ ao l cap, v = .agg #[.slice ao l.length cap] ∧ l.length ≤ cap ∧ cap ≤ maxLen ∧ FilesAt W ao l ∧ FilesFit l ∧ KeptFit l := by
  obtain ⟨cs, rfl, _⟩ := okWide_struct Try.underlying24 hval
  obtain ⟨fuel, hf⟩ := hd
  obtain ⟨y0, n, _, hl, h0⟩ := trod_struct1 Try.underlying24 hf
  rw [disk_cells1] at hl
  simp only [disk_cellsS] at h0
  obtain ⟨ao, l, cap, e, r⟩ := open_files h0
  refine ⟨ao, l, cap, ?_, r⟩
  obtain ⟨c⟩ := cs
  have hl' : c.length = 1 := by simpa [Value.cells] using hl
  match c, hl' with
  | [x], _ =>
    simp [Value.cells] at e
    rw [e]
end Go.Proofs.Ythkfgiilbkjojab

namespace Go.Proofs.Ythkfgiilbkjojab
open Go.RowKit

def nameOk (s : ByteArray) : Bool := within s.size 1 8
def fileOk (f : FileD) : Bool := nameOk f.name && decide (f.text.size ≤ 20000) && within f.kept 0 f.text.size
/-- is a text less than another one -/
def textLt (s t : ByteArray) : Bool := Op.bytesLess s.toList t.toList
/-- a file stands behind the one ahead of it -/
def behind (l : List FileD) (k : Nat) (f : FileD) : Bool := match k with
  | 0 => true
  | j + 1 => match l[j]? with
    | none => true
    | some g => textLt g.name f.name
/-- the first k files are right, and ascend -/
def rightTo (l : List FileD) : Nat → Bool
  | 0 => true
  | k + 1 => rightTo l k && match l[k]? with
    | none => true
    | some f => fileOk f && behind l k f
def diskOk (l : List FileD) : Bool := decide (l.length ≤ 30) && rightTo l l.length

theorem rightTo_step {l : List FileD} {k : Nat} (hk : k < l.length) : rightTo l (k + 1) = (rightTo l k && (fileOk l[k] && behind l k l[k])) := by
  rw [rightTo, List.getElem?_eq_getElem hk]
theorem behind_step {l : List FileD} {j : Nat} (hj : j + 1 < l.length) : behind l (j + 1) l[j + 1] = textLt l[j].name l[j + 1].name := by
  rw [behind, List.getElem?_eq_getElem (show j < l.length by omega)]
theorem rightTo_down {l : List FileD} {n k : Nat} (h : rightTo l n = true) (hk : k ≤ n) : rightTo l k = true := by
  induction n with
  | zero => obtain rfl : k = 0 := by omega
            rfl
  | succ n ih =>
    rcases Nat.lt_or_ge k (n + 1) with q | q
    · rw [rightTo, Bool.and_eq_true] at h
      exact ih h.1 (by omega)
    · obtain rfl : k = n + 1 := by omega
      exact h
theorem diskOk_of {l : List FileD} (h : l.length ≤ 30) (hr : rightTo l l.length = true) : diskOk l = true := by
  rw [diskOk, hr]
  simpa using h
theorem not_diskOk {l : List FileD} {k : Nat} (hk : k < l.length) (h : (fileOk l[k] && behind l k l[k]) = false) : diskOk l = false := by
  cases hd : diskOk l with
  | false => rfl
  | true =>
    rw [diskOk, Bool.and_eq_true] at hd
    have := rightTo_down hd.2 (show k + 1 ≤ l.length by omega)
    rw [rightTo_step hk, h] at this
    simp at this
end Go.Proofs.Ythkfgiilbkjojab

namespace Go.Proofs.Ythkfgiilbkjojab
open Go.RowKit

/-- how much is left of a file -/
def leftOf (f : FileD) (n : Int) : Int := if (if (f.text.size : Int) < n then (f.text.size : Int) else n) < f.kept then f.kept else (if (f.text.size : Int) < n then (f.text.size : Int) else n)
def lostOf (f : FileD) (n : Int) : FileD := ⟨f.name, f.text.extract 0 (leftOf f n).toNat, leftOf f n⟩
def loseTo (l : List FileD) (zs : List Int) : Nat → List FileD
  | 0 => []
  | k + 1 => loseTo l zs k ++ match l[k]? with
    | none => []
    | some f => [lostOf f (zs.getD k 0)]
theorem loseTo_step {l : List FileD} {zs : List Int} {k : Nat} (hk : k < l.length) : loseTo l zs (k + 1) = loseTo l zs k ++ [lostOf l[k] (zs.getD k 0)] := by
  rw [loseTo, List.getElem?_eq_getElem hk]
theorem loseTo_length {l : List FileD} {zs : List Int} {k : Nat} (hk : k ≤ l.length) : (loseTo l zs k).length = k := by
  induction k with
  | zero => rfl
  | succ k ih => rw [loseTo_step (by omega), List.length_append, ih (by omega)]; rfl
theorem diskOk_kept {l : List FileD} (h : diskOk l = true) {k : Nat} (hk : k < l.length) : 0 ≤ l[k].kept ∧ l[k].kept ≤ l[k].text.size ∧ l[k].text.size ≤ 20000 := by
  rw [diskOk, Bool.and_eq_true] at h
  have h2 := rightTo_down h.2 (show k + 1 ≤ l.length by omega)
  rw [rightTo_step hk] at h2
  simp only [Bool.and_eq_true, fileOk, within, decide_eq_true_eq] at h2
  omega
/-- a right disk is small -/
theorem diskOk_small {l : List FileD} (h : diskOk l = true) : ∀ f ∈ l, f.name.size ≤ 1048576 ∧ f.text.size ≤ 1048576 := by
  intro f hf
  obtain ⟨k, hk, rfl⟩ := List.getElem_of_mem hf
  rw [diskOk, Bool.and_eq_true] at h
  have h2 := rightTo_down h.2 (show k + 1 ≤ l.length by omega)
  rw [rightTo_step hk] at h2
  simp only [Bool.and_eq_true, fileOk, nameOk, within, decide_eq_true_eq] at h2
  omega
end Go.Proofs.Ythkfgiilbkjojab
