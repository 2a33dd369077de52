/-
  The walk of laws.eqStream: two streams that are alike are found alike.
-/
import Derived.Test.YthkkhmmcgjcedaaEqLate
import Derived.Test.YthkkhmmcgjcedaaPlainStr
namespace Go.Proofs.Ythkkhmmcgjcedaa
open Go.RowKit Go.Sort

set_option maxRecDepth 1000000 in
set_option maxHeartbeats 1000000 in
theorem eqStream_same (d : StrD) (ao bo : Option Addr) (cap cap' : Nat) (hl : d.late.length ≤ 140737488355328) (w : World) (ha : LatesAt w ao d.late) (hb : LatesAt w bo d.late) :
    Calls Try.prog 29 #[.agg #[.int .i64 d.st, .int .i64 d.iss, .int .i64 d.una, .int .i64 d.rcv, .string d.wait, .int .i64 d.sent, .int .i64 d.fin, .bool d.pf, .string d.inn, .slice ao d.late.length cap, .bool d.owe, .int .i64 d.due, .int .i64 d.times], .agg #[.int .i64 d.st, .int .i64 d.iss, .int .i64 d.una, .int .i64 d.rcv, .string d.wait, .int .i64 d.sent, .int .i64 d.fin, .bool d.pf, .string d.inn, .slice bo d.late.length cap', .bool d.owe, .int .i64 d.due, .int .i64 d.times]] w fun e w' => e = .returned (.bool true) ∧ Below w.heap.size w w' := by
  have C := hid (fun w ha hb => eqLateS_same ao bo d.late cap cap' hl w ha hb)
  obtain ⟨W0, hW0⟩ : ∃ W0, (w.alloc (.cells #[.int .i64 d.st, .int .i64 d.iss, .int .i64 d.una, .int .i64 d.rcv, .string d.wait, .int .i64 d.sent, .int .i64 d.fin, .bool d.pf, .string d.inn, .slice ao d.late.length cap, .bool d.owe, .int .i64 d.due, .int .i64 d.times] 42)).alloc (.cells #[.int .i64 d.st, .int .i64 d.iss, .int .i64 d.una, .int .i64 d.rcv, .string d.wait, .int .i64 d.sent, .int .i64 d.fin, .bool d.pf, .string d.inn, .slice bo d.late.length cap', .bool d.owe, .int .i64 d.due, .int .i64 d.times] 42) = W0 := ⟨_, rfl⟩
  have HBB := hid (below_more (below_more (Below.refl w.heap.size w) (.cells #[.int .i64 d.st, .int .i64 d.iss, .int .i64 d.una, .int .i64 d.rcv, .string d.wait, .int .i64 d.sent, .int .i64 d.fin, .bool d.pf, .string d.inn, .slice ao d.late.length cap, .bool d.owe, .int .i64 d.due, .int .i64 d.times] 42)) (.cells #[.int .i64 d.st, .int .i64 d.iss, .int .i64 d.una, .int .i64 d.rcv, .string d.wait, .int .i64 d.sent, .int .i64 d.fin, .bool d.pf, .string d.inn, .slice bo d.late.length cap', .bool d.owe, .int .i64 d.due, .int .i64 d.times] 42))
  have K0 : BlockIs W0 w.heap.size 42 [.int .i64 d.st, .int .i64 d.iss, .int .i64 d.una, .int .i64 d.rcv, .string d.wait, .int .i64 d.sent, .int .i64 d.fin, .bool d.pf, .string d.inn, .slice ao d.late.length cap, .bool d.owe, .int .i64 d.due, .int .i64 d.times] := by
    rw [← hW0]
    show ((w.heap.push _).push _)[w.heap.size]? = some _
    rw [Array.getElem?_push, if_neg (by simp), Array.getElem?_push, if_pos rfl]
  have K1 : BlockIs W0 (w.heap.size + 1) 42 [.int .i64 d.st, .int .i64 d.iss, .int .i64 d.una, .int .i64 d.rcv, .string d.wait, .int .i64 d.sent, .int .i64 d.fin, .bool d.pf, .string d.inn, .slice bo d.late.length cap', .bool d.owe, .int .i64 d.due, .int .i64 d.times] := by
    rw [← hW0]
    show ((w.heap.push _).push _)[w.heap.size + 1]? = some _
    rw [Array.getElem?_push, if_pos (by simp)]
  rw [hW0] at HBB
  have HA := hid (ha.on HBB.out)
  have HB := hid (hb.on HBB.out)
  clear ha hb
  have HK0 := hid K0
  have HK1 := hid K1
  have c0 := K0.cell (j := 0) rfl
  have d0 := K1.cell (j := 0) rfl
  have c1 := K0.cell (j := 1) rfl
  have d1 := K1.cell (j := 1) rfl
  have c2 := K0.cell (j := 2) rfl
  have d2 := K1.cell (j := 2) rfl
  have c3 := K0.cell (j := 3) rfl
  have d3 := K1.cell (j := 3) rfl
  have c4 := K0.cell (j := 4) rfl
  have d4 := K1.cell (j := 4) rfl
  have c5 := K0.cell (j := 5) rfl
  have d5 := K1.cell (j := 5) rfl
  have c6 := K0.cell (j := 6) rfl
  have d6 := K1.cell (j := 6) rfl
  have c7 := K0.cell (j := 7) rfl
  have d7 := K1.cell (j := 7) rfl
  have c8 := K0.cell (j := 8) rfl
  have d8 := K1.cell (j := 8) rfl
  have c9 := K0.cell (j := 9) rfl
  have d9 := K1.cell (j := 9) rfl
  have c10 := K0.cell (j := 10) rfl
  have d10 := K1.cell (j := 10) rfl
  have c11 := K0.cell (j := 11) rfl
  have d11 := K1.cell (j := 11) rfl
  have c12 := K0.cell (j := 12) rfl
  have d12 := K1.cell (j := 12) rfl
  clear K0 K1
  go_enter Try.func29, Try.ntmps29
  go_wp2_with fail
  refine (C.out _ HA.out HB.out).mono ?_
  rintro e w1 ⟨rfl, b1⟩
  have J0 := HK0.out.on b1 HK0.out.lt
  have J1 := HK1.out.on b1 HK1.out.lt
  have g10 := J0.cell (j := 10) rfl
  have h10 := J1.cell (j := 10) rfl
  have g11 := J0.cell (j := 11) rfl
  have h11 := J1.cell (j := 11) rfl
  have g12 := J0.cell (j := 12) rfl
  have h12 := J1.cell (j := 12) rfl
  have B1 := hid (below_via HBB.out b1)
  clear b1 C J0 J1
  go_wp2
  go_ret
  exact ⟨rfl, B1.out⟩
end Go.Proofs.Ythkkhmmcgjcedaa
