/-
  The walk of laws.eqMessage: two messages that are alike are found alike.
-/
import Derived.Test.YtkdbdgeaceigfaaDoorJoint12
import Derived.Test.YtkdbdgeaceigfaaDoorJoint4
import Derived.Test.YtkdbdgeaceigfaaDoorJoint1
namespace Go.Proofs.YtkdbdgeaceigfaaDoor
open Go.RowKit Go.Sort

set_option maxRecDepth 1000000 in
set_option maxHeartbeats 1000000 in
theorem eqMessage_same (d : MsgD) (ao : Option Addr) (ac : Nat) (bo : Option Addr) (bc : Nat) (ao' : Option Addr) (ac' : Nat) (bo' : Option Addr) (bc' : Nat) (hl : d.ents.length ≤ 140737488355328) (hl' : d.conf.length ≤ 140737488355328) (w : World) (ha : EntsAt w ao d.ents) (ha' : EntsAt w ao' d.ents) (hb : IntsAt w bo d.conf) (hb' : IntsAt w bo' d.conf) :
    Calls Tryd.prog 8 #[.agg #[.int .i64 d.kind, .int .i64 d.src, .int .i64 d.dst, .int .i64 d.term, .int .i64 d.index, .int .i64 d.logTerm, .int .i64 d.commit, .bool d.ok, .slice ao d.ents.length ac, .slice bo d.conf.length bc, .string d.data, .bool d.last], .agg #[.int .i64 d.kind, .int .i64 d.src, .int .i64 d.dst, .int .i64 d.term, .int .i64 d.index, .int .i64 d.logTerm, .int .i64 d.commit, .bool d.ok, .slice ao' d.ents.length ac', .slice bo' d.conf.length bc', .string d.data, .bool d.last]] w fun e w' => e = .returned (.bool true) ∧ Below w.heap.size w w' := by
  have C := hid (fun w ha hb => eqEntryS_same ao ao' d.ents ac ac' hl w ha hb)
  have D := hid (fun w ha hb => eqIntS_same bo bo' d.conf bc bc' hl' w ha hb)
  obtain ⟨W0, hW0⟩ : ∃ W0, (w.alloc (.cells #[.int .i64 d.kind, .int .i64 d.src, .int .i64 d.dst, .int .i64 d.term, .int .i64 d.index, .int .i64 d.logTerm, .int .i64 d.commit, .bool d.ok, .slice ao d.ents.length ac, .slice bo d.conf.length bc, .string d.data, .bool d.last] 31)).alloc (.cells #[.int .i64 d.kind, .int .i64 d.src, .int .i64 d.dst, .int .i64 d.term, .int .i64 d.index, .int .i64 d.logTerm, .int .i64 d.commit, .bool d.ok, .slice ao' d.ents.length ac', .slice bo' d.conf.length bc', .string d.data, .bool d.last] 31) = W0 := ⟨_, rfl⟩
  have HBB := hid (below_more (below_more (Below.refl w.heap.size w) (.cells #[.int .i64 d.kind, .int .i64 d.src, .int .i64 d.dst, .int .i64 d.term, .int .i64 d.index, .int .i64 d.logTerm, .int .i64 d.commit, .bool d.ok, .slice ao d.ents.length ac, .slice bo d.conf.length bc, .string d.data, .bool d.last] 31)) (.cells #[.int .i64 d.kind, .int .i64 d.src, .int .i64 d.dst, .int .i64 d.term, .int .i64 d.index, .int .i64 d.logTerm, .int .i64 d.commit, .bool d.ok, .slice ao' d.ents.length ac', .slice bo' d.conf.length bc', .string d.data, .bool d.last] 31))
  have K0 : BlockIs W0 w.heap.size 31 [.int .i64 d.kind, .int .i64 d.src, .int .i64 d.dst, .int .i64 d.term, .int .i64 d.index, .int .i64 d.logTerm, .int .i64 d.commit, .bool d.ok, .slice ao d.ents.length ac, .slice bo d.conf.length bc, .string d.data, .bool d.last] := by
    rw [← hW0]
    show ((w.heap.push _).push _)[w.heap.size]? = some _
    rw [Array.getElem?_push, if_neg (by simp), Array.getElem?_push, if_pos rfl]
  have K1 : BlockIs W0 (w.heap.size + 1) 31 [.int .i64 d.kind, .int .i64 d.src, .int .i64 d.dst, .int .i64 d.term, .int .i64 d.index, .int .i64 d.logTerm, .int .i64 d.commit, .bool d.ok, .slice ao' d.ents.length ac', .slice bo' d.conf.length bc', .string d.data, .bool d.last] := by
    rw [← hW0]
    show ((w.heap.push _).push _)[w.heap.size + 1]? = some _
    rw [Array.getElem?_push, if_pos (by simp)]
  rw [hW0] at HBB
  have HA := hid (ha.on HBB.out)
  have HA' := hid (ha'.on HBB.out)
  have HI := hid (hb.on HBB.out)
  have HI' := hid (hb'.on HBB.out)
  clear ha hb ha' hb'
  have HK0 := hid K0
  have HK1 := hid K1
  have c0 := K0.cell (j := 0) rfl
  have d0 := K1.cell (j := 0) rfl
  have c1 := K0.cell (j := 1) rfl
  have d1 := K1.cell (j := 1) rfl
  have c2 := K0.cell (j := 2) rfl
  have d2 := K1.cell (j := 2) rfl
  have c3 := K0.cell (j := 3) rfl
  have d3 := K1.cell (j := 3) rfl
  have c4 := K0.cell (j := 4) rfl
  have d4 := K1.cell (j := 4) rfl
  have c5 := K0.cell (j := 5) rfl
  have d5 := K1.cell (j := 5) rfl
  have c6 := K0.cell (j := 6) rfl
  have d6 := K1.cell (j := 6) rfl
  have c7 := K0.cell (j := 7) rfl
  have d7 := K1.cell (j := 7) rfl
  have c8 := K0.cell (j := 8) rfl
  have d8 := K1.cell (j := 8) rfl
  have c9 := K0.cell (j := 9) rfl
  have d9 := K1.cell (j := 9) rfl
  have c10 := K0.cell (j := 10) rfl
  have d10 := K1.cell (j := 10) rfl
  have c11 := K0.cell (j := 11) rfl
  have d11 := K1.cell (j := 11) rfl
  clear K0 K1
  go_enter Tryd.func8, Tryd.ntmps8
  go_wp2_with fail
  refine (C.out _ HA.out HA'.out).mono ?_
  rintro e w1 ⟨rfl, b1⟩
  have J0 := HK0.out.on b1 HK0.out.lt
  have J1 := HK1.out.on b1 HK1.out.lt
  have g9 := J0.cell (j := 9) rfl
  have h9 := J1.cell (j := 9) rfl
  have g10 := J0.cell (j := 10) rfl
  have h10 := J1.cell (j := 10) rfl
  have g11 := J0.cell (j := 11) rfl
  have h11 := J1.cell (j := 11) rfl
  have L0 := hid J0
  have L1 := hid J1
  have B1 := hid (below_via HBB.out b1)
  have HI1 := hid (HI.out.on b1)
  have HI1' := hid (HI'.out.on b1)
  clear b1 C J0 J1
  go_wp2_with fail
  refine (D.out _ HI1.out HI1'.out).mono ?_
  rintro e w2 ⟨rfl, b2⟩
  have J0 := L0.out.on b2 L0.out.lt
  have J1 := L1.out.on b2 L1.out.lt
  have m10 := J0.cell (j := 10) rfl
  have q10 := J1.cell (j := 10) rfl
  have m11 := J0.cell (j := 11) rfl
  have q11 := J1.cell (j := 11) rfl
  have B2 := hid (below_via B1.out b2)
  clear b2 D J0 J1
  go_wp2
  go_ret
  exact ⟨rfl, B2.out⟩
end Go.Proofs.YtkdbdgeaceigfaaDoor
