/-
  An entry that came in, read as data; the law's own helpers over one entry.
-/
import Derived.Test.YtihgkocfgjihhaaGreatDoorJoint1
import Derived.Test.YtihgkocfgjihhaaGreatDoorRows
import Derived.Deep.Strs
import Derived.ChangeSame
import Derived.OpenShut
namespace Go.Proofs.YtihgkocfgjihhaaGreatDoor
open Go.ChangeShapes Go.WideShapes Go.RowKit Go.Deep

set_option maxRecDepth 1000000 in
theorem ent_cellsE : Tryz.prog.cellsOf 223 = 3 := by kernel_rfl
set_option maxRecDepth 1000000 in
theorem ent_cells9 : Tryz.prog.cellsOf 9 = 1 := by kernel_rfl
set_option maxRecDepth 1000000 in
theorem ent_cells3 : Tryz.prog.cellsOf 3 = 1 := by kernel_rfl
set_option maxRecDepth 1000000 in
theorem ent_fields {H : Type} {enc : TypeId × Value → H} {P : Program} {W : World} {base : Nat} {sp : Nat → Bool} {held : Bool} {fuel : Nat} {t : TypeId} {f0 f1 f2 : Field} {cs : List Value} {x : DataW H × List MemPlace} (ht : P.underlying t = some (.struct #[f0, f1, f2])) (h : DataW.trod enc P W base sp held fuel t cs = some x) :
    ∃ y0 y1 y2 n, cs.length = P.cellsOf t ∧ DataW.trod enc P W base sp held n f0.type ((cs.drop f0.offset).take (P.cellsOf f0.type)) = some y0 ∧ DataW.trod enc P W base sp held n f1.type ((cs.drop f1.offset).take (P.cellsOf f1.type)) = some y1 ∧
      DataW.trod enc P W base sp held n f2.type ((cs.drop f2.offset).take (P.cellsOf f2.type)) = some y2 := by
  obtain ⟨xs, n, _, _, hl, hlen, hf⟩ := DataW.trod_struct ht h
  match xs, hlen with
  | [y0, y1, y2], _ => exact ⟨y0, y1, y2, n, hl, by simpa using hf 0 f0 rfl, by simpa using hf 1 f1 rfl, by simpa using hf 2 f2 rfl⟩

set_option maxRecDepth 1000000 in
/-- three cells that read as an entry -/
theorem open_entCells {H : Type} {enc : TypeId × Value → H} {W : World} {base : Nat} {sp : Nat → Bool} {held : Bool} {fuel : Nat} {cs : List Value} {x : DataW H × List MemPlace} (h : DataW.trod enc Tryz.prog W base sp held fuel 223 cs = some x) :
    ∃ e : EntD, cs = entEnc e ∧ e.Fits := by
  obtain ⟨y0, y1, y2, n, hl, h0, h1, h2⟩ := ent_fields Tryz.underlying223 h
  rw [ent_cellsE] at hl
  match cs, hl with
  | [c0, c1, c2], _ =>
    simp only [ent_cells9, ent_cells3] at h0 h1 h2
    obtain ⟨k, e0, _, s0⟩ := DataW.trod_int Tryz.underlying3 h0
    obtain ⟨j, e1, _, s1⟩ := DataW.trod_int Tryz.underlying3 h1
    obtain ⟨t, e2, _, s2⟩ := DataW.trod_string Tryz.underlying9 h2
    simp at e0 e1 e2
    subst e0 e1 e2
    exact ⟨⟨k, j, t⟩, rfl, bounds_i64 s0, bounds_i64 s1, s2⟩

set_option maxRecDepth 1000000 in
/-- an entry as a parameter -/
theorem open_entry {H : Type} {enc : TypeId × Value → H} {W : World} {r : Reach} {b0 base : Nat} {sp : Nat → Bool} {held : Bool} {v : Value} {d : DataW H} {ps : List MemPlace} (hval : Value.okWide Tryz.prog W r b0 223 v) (hd : DataW.Trod enc Tryz.prog W base sp held 223 v d ps) :
    ∃ e : EntD, v = .agg #[.int .i64 e.term, .int .i64 e.kind, .string e.data] ∧ e.Fits := by
  obtain ⟨cs, rfl, _⟩ := okWide_struct Tryz.underlying223 hval
  obtain ⟨fuel, hf⟩ := hd
  obtain ⟨a, e, r⟩ := open_entCells hf
  refine ⟨a, ?_, r⟩
  obtain ⟨c⟩ := cs
  have e' : c = entEnc a := by simpa [Value.cells] using e
  rw [e']
  rfl

set_option maxRecDepth 1000000 in
theorem toEntry_any (d : EntD) (w : World) :
    Calls Tryz.prog 175 #[.agg #[.int .i64 d.term, .int .i64 d.kind, .string d.data]] w fun e w' => e = .returned (.agg #[.int .i64 d.term, .int .i64 d.kind, .string d.data]) ∧ Below w.heap.size w w' := by
  go_enter Tryz.func175, Tryz.ntmps175
  go_wp2
  refine bodyPost_ret (v := .agg #[.int .i64 d.term, .int .i64 d.kind, .string d.data]) (by simp [results, Tryz.results175, go_sem]) rfl ⟨rfl, below_more (below_more (below_more (Below.refl _ w) _) _) _⟩

set_option maxRecDepth 1000000 in
theorem szEntry_any (d : EntD) (n : Int) (h0 : 0 ≤ n) (h1 : n ≤ 1048576) (hf : d.Fits) (w : World) :
    Calls Tryz.prog 172 #[.agg #[.int .i64 d.term, .int .i64 d.kind, .string d.data], .int .i64 n] w fun e w' => ((n < d.data.size ∧ e = .returned (.int .i64 (-1))) ∨ ((d.data.size : Int) ≤ n ∧ e = .returned (.int .i64 (n - d.data.size)))) ∧ Below w.heap.size w w' := by
  have hm := hf.2.2
  unfold maxLen at hm
  have HB := hid (below_more (Below.refl w.heap.size w) (.cells #[.int .i64 d.term, .int .i64 d.kind, .string d.data] 223))
  by_cases h : n < d.data.size
  · go_enter Tryz.func172, Tryz.ntmps172
    go_wp2
    go_ret
    first | exact ⟨Or.inl ⟨h, rfl⟩, HB.out⟩ | exact ⟨rfl, HB.out⟩
  · have h' : (d.data.size : Int) ≤ n := by omega
    go_enter Tryz.func172, Tryz.ntmps172
    go_wp2
    go_ret
    exact ⟨Or.inr rfl, HB.out⟩
end Go.Proofs.YtihgkocfgjihhaaGreatDoor
