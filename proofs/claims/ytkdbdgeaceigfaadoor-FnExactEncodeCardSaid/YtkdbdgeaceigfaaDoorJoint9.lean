/-
  The walk of laws.szMessage: a message's letters are counted.
-/
import Derived.Test.YtkdbdgeaceigfaaDoorJoint8
import Derived.Test.YtkdbdgeaceigfaaDoorJoint6
import Derived.Test.YtkdbdgeaceigfaaDoorJoint1
namespace Go.Proofs.YtkdbdgeaceigfaaDoor
open Go.RowKit

/-- what is counted -/
def msgBulk (d : MsgD) : Int := (d.ents.length : Int) + entBulk d.ents + d.conf.length + d.data.size
theorem msgSmall {d : MsgD} (h : 0 ≤ (1048576 : Int) - msgBulk d) : d.Small := by
  have h1 := entBulk_nonneg d.ents
  unfold msgBulk at h
  exact ⟨by omega, (entsSmall (l := d.ents) (by omega)).2, by omega, by omega⟩
set_option maxRecDepth 1000000 in
set_option maxHeartbeats 1000000 in
theorem szMessage_any (d : MsgD) (ao : Option Addr) (ac : Nat) (bo : Option Addr) (bc : Nat) (hd : d.Fits) (hl : d.ents.length ≤ maxLen) (hf : EntsFit d.ents) (hl' : d.conf.length ≤ maxLen) (w : World) (ha : EntsAt w ao d.ents) :
    Calls Tryd.prog 4 #[.agg #[.int .i64 d.kind, .int .i64 d.src, .int .i64 d.dst, .int .i64 d.term, .int .i64 d.index, .int .i64 d.logTerm, .int .i64 d.commit, .bool d.ok, .slice ao d.ents.length ac, .slice bo d.conf.length bc, .string d.data, .bool d.last], .int .i64 1048576] w fun e w' => ((1048576 - msgBulk d < 0 ∧ e = .returned (.int .i64 (-1))) ∨ (0 ≤ 1048576 - msgBulk d ∧ e = .returned (.int .i64 (1048576 - msgBulk d)))) ∧ Below w.heap.size w w' := by
  have hN := entBulk_nonneg d.ents
  have HS : Hid (msgBulk d = (d.ents.length : Int) + entBulk d.ents + d.conf.length + d.data.size) := rfl
  have hw := hd.data
  unfold maxLen at hw hl hl'
  have C := hid (fun w ha => szEntryS_any ao d.ents ac 1048576 (by omega) (by omega) hl hf w ha)
  have D := hid (fun k h0 h1 w => szIntS_any bo d.conf.length bc k h0 h1 hl' w)
  have HX := hid (show BlockIs (w.alloc (.cells #[.int .i64 d.kind, .int .i64 d.src, .int .i64 d.dst, .int .i64 d.term, .int .i64 d.index, .int .i64 d.logTerm, .int .i64 d.commit, .bool d.ok, .slice ao d.ents.length ac, .slice bo d.conf.length bc, .string d.data, .bool d.last] 25)) w.heap.size 25 [.int .i64 d.kind, .int .i64 d.src, .int .i64 d.dst, .int .i64 d.term, .int .i64 d.index, .int .i64 d.logTerm, .int .i64 d.commit, .bool d.ok, .slice ao d.ents.length ac, .slice bo d.conf.length bc, .string d.data, .bool d.last] from heap_alloc_new w _)
  have HA := hid ha
  have HB := hid (below_more (Below.refl w.heap.size w) (.cells #[.int .i64 d.kind, .int .i64 d.src, .int .i64 d.dst, .int .i64 d.term, .int .i64 d.index, .int .i64 d.logTerm, .int .i64 d.commit, .bool d.ok, .slice ao d.ents.length ac, .slice bo d.conf.length bc, .string d.data, .bool d.last] 25))
  clear ha hf
  go_enter Tryd.func4, Tryd.ntmps4
  go_wp2_with fail
  refine (C.out _ (HA.out.on HB.out)).mono ?_
  rintro e w1 ⟨(⟨hneg, rfl⟩ | ⟨hnn, rfl⟩), b1⟩
  · have B1 := hid (below_via HB.out b1)
    clear b1 C
    go_wp2
    go_ret
    exact ⟨Or.inl ⟨by rw [HS.out]; omega, rfl⟩, B1.out⟩
  · have B1 := hid (below_via HB.out b1)
    have X1 := HX.out.on b1 HX.out.lt
    have x9 := X1.cell (j := 9) rfl
    have x10 := X1.cell (j := 10) rfl
    have HNN := hid hnn
    have hnn' : ¬ (1048576 : Int) - d.ents.length - entBulk d.ents < 0 := by omega
    clear b1 C X1 hnn HX
    go_wp2_with fail
    refine (D.out _ HNN.out (by have := HNN.out; omega) _).mono ?_
    rintro e w2 ⟨(⟨hneg, rfl⟩ | ⟨hn2, rfl⟩), hw2⟩
    · rw [hw2]
      clear hw2 D
      go_wp2
      go_ret
      exact ⟨Or.inl ⟨by rw [HS.out]; omega, rfl⟩, B1.out⟩
    · rw [hw2]
      clear hw2 D
      by_cases h3 : (1048576 : Int) - d.ents.length - entBulk d.ents - d.conf.length - d.data.size < 0
      · go_wp2
        go_ret
        exact ⟨Or.inl ⟨by rw [HS.out]; omega, rfl⟩, B1.out⟩
      · go_wp2
        go_ret
        exact ⟨Or.inr ⟨by rw [HS.out]; omega, by rw [HS.out]; refine congrArg (fun z => Ending.returned (.int .i64 z)) (?_ : _ = _); omega⟩, B1.out⟩
end Go.Proofs.YtkdbdgeaceigfaaDoor
