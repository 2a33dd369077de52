/-
  For every slice of bytes, laws.FnGreets returns true: two streams with drawn numbers greet by three segments, and are open then; nothing that was in memory is written.
-/
import Derived.Test.YteokpbgjkjdjbaaRows
import Derived.Test.YteokpbgjkjdjbaaJoint5
import Derived.Test.YteokpbgjkjdjbaaJoint6
import Derived.Test.YteokpbgjkjdjbaaJoint1
import Derived.Test.YteokpbgjkjdjbaaJoint8
import Derived.Test.YteokpbgjkjdjbaaJoint26
import Derived.Test.YteokpbgjkjdjbaaJoint35
import Derived.Test.YteokpbgjkjdjbaaJoint36
import Derived.Test.YteokpbgjkjdjbaaJoint16
import Derived.Deep.RegionWith
import Derived.Deep.DeepCutAuto
import Derived.WalkSmall
import Derived.WalkKit
import Derived.ProofKit
import Derived.OpenShut
import Derived.OpenVars
import Derived.Deep.DeepHandedRow
import Derived.Lib.LaidTab
import Derived.Stop.LaidErr
namespace Go.Proofs.Yteokpbgjkjdjbaa.fnGreets
open Go.ChangeShapes Go.WideShapes Go.ChangeAt Go.ChangeMaps Go.RowKit

set_option maxRecDepth 1000000 in
set_option maxHeartbeats 8000000 in
theorem walk (ao : Option Addr) (len cap : Nat) (hcap : len ≤ cap) (w : World) (hr : Bytes w ao len) :
    Calls Try.prog 3 #[.slice ao len cap] w fun e w' => e = .returned (.bool true) ∧ Below w.heap.size w w' := by
  have HR := hid hr
  clear hr
  by_cases hbig : 1048576 < len
  · go_enter Try.func3, Try.ntmps3
    go_wp2
    go_ret
    exact ⟨rfl, Below.refl _ _⟩
  have hlen : len ≤ 1048576 := by omega
  clear hbig
  go_enter Try.func3, Try.ntmps3
  go_wp2_with fail
  refine (big_no ao len cap hlen _).mono ?_
  rintro e w0 ⟨rfl, hw0⟩
  rw [hw0]
  clear hw0 w0
  go_wp2_with fail
  refine (drawPlaces_any ao len cap hlen hcap _ HR.out).mono ?_
  rintro e w2 ⟨p, rfl, hp, b2⟩
  have B_0 := hid b2
  obtain ⟨gp, pc, rfl, hpc, hcell⟩ := hp
  obtain ⟨z0, hz0, c0⟩ := hcell 0 (by omega)
  obtain ⟨z1, hz1, c1⟩ := hcell 1 (by omega)
  clear b2 hcell HR
  obtain ⟨x, hx⟩ : ∃ x, ((z0 : Int) * 7).tmod 65536 = x := ⟨_, rfl⟩
  have hx2 : 0 ≤ x ∧ x ≤ 65535 := by rw [← hx, Int.tmod_eq_emod_of_nonneg (by omega)]; omega
  obtain ⟨y, hy⟩ : ∃ y, ((z1 : Int) * 11).tmod 65536 = y := ⟨_, rfl⟩
  have hy2 : 0 ≤ y ∧ y ≤ 65535 := by rw [← hy, Int.tmod_eq_emod_of_nonneg (by omega)]; omega
  have HX := hid hx2
  have HY := hid hy2
  obtain ⟨A0, hA0⟩ : ∃ D, gStr 2 x x 0 false 0 0 = D := ⟨_, rfl⟩
  obtain ⟨B0, hB0⟩ : ∃ D, gStr 1 y y 0 false 0 0 = D := ⟨_, rfl⟩
  obtain ⟨A1, hA1⟩ : ∃ D, gStr 2 x x 0 false 3 1 = D := ⟨_, rfl⟩
  obtain ⟨B1, hB1⟩ : ∃ D, gStr 3 y y (addNum x 1) false 0 0 = D := ⟨_, rfl⟩
  obtain ⟨B2, hB2⟩ : ∃ D, gStr 3 y y (addNum x 1) false 3 1 = D := ⟨_, rfl⟩
  obtain ⟨A2, hA2⟩ : ∃ D, gStr 4 x (addNum x 1) (addNum y 1) true 0 0 = D := ⟨_, rfl⟩
  obtain ⟨A3, hA3⟩ : ∃ D, gStr 4 x (addNum x 1) (addNum y 1) false 0 0 = D := ⟨_, rfl⟩
  obtain ⟨B3, hB3⟩ : ∃ D, gStr 4 y (addNum y 1) (addNum x 1) false 0 0 = D := ⟨_, rfl⟩
  have CNA : Hid (∀ W, Calls Try.prog 9 #[.int .i64 x, .bool true] W fun e w' => e = .returned (.tuple #[.agg #[.int .i64 A0.st, .int .i64 A0.iss, .int .i64 A0.una, .int .i64 A0.rcv, .string A0.wait, .int .i64 A0.sent, .int .i64 A0.fin, .bool A0.pf, .string A0.inn, .slice none A0.late.length 0, .bool A0.owe, .int .i64 A0.due, .int .i64 A0.times], .bool true]) ∧ Below W.heap.size W w') := fun W => by have h9 := implStreamNew_any x true W; rw [gNew true HX.out, within_yes HX.out.1 HX.out.2] at h9; rw [← hA0]; exact h9
  have CNB : Hid (∀ W, Calls Try.prog 9 #[.int .i64 y, .bool false] W fun e w' => e = .returned (.tuple #[.agg #[.int .i64 B0.st, .int .i64 B0.iss, .int .i64 B0.una, .int .i64 B0.rcv, .string B0.wait, .int .i64 B0.sent, .int .i64 B0.fin, .bool B0.pf, .string B0.inn, .slice none B0.late.length 0, .bool B0.owe, .int .i64 B0.due, .int .i64 B0.times], .bool true]) ∧ Below W.heap.size W w') := fun W => by have h9 := implStreamNew_any y false W; rw [gNew false HY.out, within_yes HY.out.1 HY.out.2] at h9; rw [← hB0]; exact h9
  have CPA : Hid (∀ (va : Option Addr) (vc : Nat) W, Calls Try.prog 10 #[.agg #[.int .i64 A0.st, .int .i64 A0.iss, .int .i64 A0.una, .int .i64 A0.rcv, .string A0.wait, .int .i64 A0.sent, .int .i64 A0.fin, .bool A0.pf, .string A0.inn, .slice va A0.late.length vc, .bool A0.owe, .int .i64 A0.due, .int .i64 A0.times], .int .i64 1] W fun e w' => ∃ va' vc' sa sq, e = .returned (.tuple #[.agg #[.int .i64 A1.st, .int .i64 A1.iss, .int .i64 A1.una, .int .i64 A1.rcv, .string A1.wait, .int .i64 A1.sent, .int .i64 A1.fin, .bool A1.pf, .string A1.inn, .slice va' A1.late.length vc', .bool A1.owe, .int .i64 A1.due, .int .i64 A1.times], .slice sa 1 sq]) ∧ OwnAt w' 36 (segCells [⟨x, 0, 1, ByteArray.empty⟩]) 1 sa W.heap.size w'.heap.size ∧ Below W.heap.size W w') := fun va vc W => by
    refine (implPush_any A0 va vc (by rw [← hA0]; exact gStr_small _ _ _ _ _ _ _) 1 W (by rw [← hA0]; exact fun h => absurd rfl h)).mono ?_
    have h9 := gPushA HX.out
    rw [hA0, hA1] at h9
    rw [h9.1, h9.2]
    rintro e w' ⟨va', vc', sa, sq, rfl, _, h2, h3⟩
    exact ⟨va', vc', sa, sq, rfl, h2, h3⟩
  have CPB : Hid (∀ (va : Option Addr) (vc : Nat) W, Calls Try.prog 10 #[.agg #[.int .i64 B0.st, .int .i64 B0.iss, .int .i64 B0.una, .int .i64 B0.rcv, .string B0.wait, .int .i64 B0.sent, .int .i64 B0.fin, .bool B0.pf, .string B0.inn, .slice va B0.late.length vc, .bool B0.owe, .int .i64 B0.due, .int .i64 B0.times], .int .i64 1] W fun e w' => ∃ va' vc' sa sq, e = .returned (.tuple #[.agg #[.int .i64 B0.st, .int .i64 B0.iss, .int .i64 B0.una, .int .i64 B0.rcv, .string B0.wait, .int .i64 B0.sent, .int .i64 B0.fin, .bool B0.pf, .string B0.inn, .slice va' B0.late.length vc', .bool B0.owe, .int .i64 B0.due, .int .i64 B0.times], .slice sa 0 sq]) ∧ OwnAt w' 36 (segCells ([] : List SegD)) 0 sa W.heap.size w'.heap.size ∧ Below W.heap.size W w') := fun va vc W => by
    refine (implPush_any B0 va vc (by rw [← hB0]; exact gStr_small _ _ _ _ _ _ _) 1 W (by rw [← hB0]; exact fun h => absurd rfl h)).mono ?_
    have h9 := gPushB HY.out
    rw [hB0] at h9
    rw [h9.1, h9.2]
    rintro e w' ⟨va', vc', sa, sq, rfl, _, h2, h3⟩
    exact ⟨va', vc', sa, sq, rfl, h2, h3⟩
  have CPB2 : Hid (∀ (va : Option Addr) (vc : Nat) W, Calls Try.prog 10 #[.agg #[.int .i64 B1.st, .int .i64 B1.iss, .int .i64 B1.una, .int .i64 B1.rcv, .string B1.wait, .int .i64 B1.sent, .int .i64 B1.fin, .bool B1.pf, .string B1.inn, .slice va B1.late.length vc, .bool B1.owe, .int .i64 B1.due, .int .i64 B1.times], .int .i64 1] W fun e w' => ∃ va' vc' sa sq, e = .returned (.tuple #[.agg #[.int .i64 B2.st, .int .i64 B2.iss, .int .i64 B2.una, .int .i64 B2.rcv, .string B2.wait, .int .i64 B2.sent, .int .i64 B2.fin, .bool B2.pf, .string B2.inn, .slice va' B2.late.length vc', .bool B2.owe, .int .i64 B2.due, .int .i64 B2.times], .slice sa 1 sq]) ∧ OwnAt w' 36 (segCells [⟨y, addNum x 1, 3, ByteArray.empty⟩]) 1 sa W.heap.size w'.heap.size ∧ Below W.heap.size W w') := fun va vc W => by
    refine (implPush_any B1 va vc (by rw [← hB1]; exact gStr_small _ _ _ _ _ _ _) 1 W (by rw [← hB1]; exact fun h => absurd rfl h)).mono ?_
    have h9 := gPushB2 HY.out (addNum x 1) (addNum_bd x 1)
    rw [hB1, hB2] at h9
    rw [h9.1, h9.2]
    rintro e w' ⟨va', vc', sa, sq, rfl, _, h2, h3⟩
    exact ⟨va', vc', sa, sq, rfl, h2, h3⟩
  have CPA2 : Hid (∀ (va : Option Addr) (vc : Nat) W, Calls Try.prog 10 #[.agg #[.int .i64 A2.st, .int .i64 A2.iss, .int .i64 A2.una, .int .i64 A2.rcv, .string A2.wait, .int .i64 A2.sent, .int .i64 A2.fin, .bool A2.pf, .string A2.inn, .slice va A2.late.length vc, .bool A2.owe, .int .i64 A2.due, .int .i64 A2.times], .int .i64 1] W fun e w' => ∃ va' vc' sa sq, e = .returned (.tuple #[.agg #[.int .i64 A3.st, .int .i64 A3.iss, .int .i64 A3.una, .int .i64 A3.rcv, .string A3.wait, .int .i64 A3.sent, .int .i64 A3.fin, .bool A3.pf, .string A3.inn, .slice va' A3.late.length vc', .bool A3.owe, .int .i64 A3.due, .int .i64 A3.times], .slice sa 1 sq]) ∧ OwnAt w' 36 (segCells [⟨addNum (addNum x 1) 0, addNum y 1, 2, ByteArray.empty⟩]) 1 sa W.heap.size w'.heap.size ∧ Below W.heap.size W w') := fun va vc W => by
    refine (implPush_any A2 va vc (by rw [← hA2]; exact gStr_small _ _ _ _ _ _ _) 1 W (by rw [← hA2]; exact fun h => absurd rfl h)).mono ?_
    have h9 := gPushA2 (addNum x 1) (addNum y 1) HX.out (addNum_bd x 1) (addNum_bd y 1)
    rw [hA2, hA3] at h9
    rw [h9.1, h9.2]
    rintro e w' ⟨va', vc', sa, sq, rfl, _, h2, h3⟩
    exact ⟨va', vc', sa, sq, rfl, h2, h3⟩
  have CHB : Hid (∀ (va : Option Addr) (vc : Nat) W, Calls Try.prog 11 #[.agg #[.int .i64 B0.st, .int .i64 B0.iss, .int .i64 B0.una, .int .i64 B0.rcv, .string B0.wait, .int .i64 B0.sent, .int .i64 B0.fin, .bool B0.pf, .string B0.inn, .slice va B0.late.length vc, .bool B0.owe, .int .i64 B0.due, .int .i64 B0.times], .agg #[(Value.int .i64 (SegD.num ⟨x, 0, 1, ByteArray.empty⟩)), .int .i64 (SegD.ack ⟨x, 0, 1, ByteArray.empty⟩), .int .i64 (SegD.flags ⟨x, 0, 1, ByteArray.empty⟩), .string (SegD.body ⟨x, 0, 1, ByteArray.empty⟩)]] W fun e w' => ∃ va' vc', e = .returned (.agg #[.int .i64 B1.st, .int .i64 B1.iss, .int .i64 B1.una, .int .i64 B1.rcv, .string B1.wait, .int .i64 B1.sent, .int .i64 B1.fin, .bool B1.pf, .string B1.inn, .slice va' B1.late.length vc', .bool B1.owe, .int .i64 B1.due, .int .i64 B1.times]) ∧ Below W.heap.size W w') := fun va vc W => by
    have h9 := gHearB HX.out HY.out
    rw [hB0, hB1] at h9
    refine (implHear_with B0 va vc (by rw [← hB0]; exact gStr_small _ _ _ _ _ _ _) ⟨x, 0, 1, ByteArray.empty⟩ (show (0 : Nat) ≤ 1048576 by decide) (fun _ _ _ _ h => absurd rfl h) (by rw [h9.1, ← hB1]; exact (show (0 : Nat) ≤ 1048576 by decide)) W (by rw [← hB0]; exact fun h => absurd rfl h)).mono ?_
    rw [h9.2.2]
    rintro e w' ⟨va', vc', rfl, _, _, h3⟩
    exact ⟨va', vc', rfl, h3⟩
  have CHA : Hid (∀ (va : Option Addr) (vc : Nat) W, Calls Try.prog 11 #[.agg #[.int .i64 A1.st, .int .i64 A1.iss, .int .i64 A1.una, .int .i64 A1.rcv, .string A1.wait, .int .i64 A1.sent, .int .i64 A1.fin, .bool A1.pf, .string A1.inn, .slice va A1.late.length vc, .bool A1.owe, .int .i64 A1.due, .int .i64 A1.times], .agg #[(Value.int .i64 (SegD.num ⟨y, addNum x 1, 3, ByteArray.empty⟩)), .int .i64 (SegD.ack ⟨y, addNum x 1, 3, ByteArray.empty⟩), .int .i64 (SegD.flags ⟨y, addNum x 1, 3, ByteArray.empty⟩), .string (SegD.body ⟨y, addNum x 1, 3, ByteArray.empty⟩)]] W fun e w' => ∃ va' vc', e = .returned (.agg #[.int .i64 A2.st, .int .i64 A2.iss, .int .i64 A2.una, .int .i64 A2.rcv, .string A2.wait, .int .i64 A2.sent, .int .i64 A2.fin, .bool A2.pf, .string A2.inn, .slice va' A2.late.length vc', .bool A2.owe, .int .i64 A2.due, .int .i64 A2.times]) ∧ Below W.heap.size W w') := fun va vc W => by
    have h9 := gHearA HX.out HY.out
    rw [hA1, hA2] at h9
    refine (implHear_with A1 va vc (by rw [← hA1]; exact gStr_small _ _ _ _ _ _ _) ⟨y, addNum x 1, 3, ByteArray.empty⟩ (show (0 : Nat) ≤ 1048576 by decide) (fun _ _ _ _ h => absurd rfl h) (by rw [h9.1, ← hA2]; exact (show (0 : Nat) ≤ 1048576 by decide)) W (by rw [← hA1]; exact fun h => absurd rfl h)).mono ?_
    rw [h9.2.2]
    rintro e w' ⟨va', vc', rfl, _, _, h3⟩
    exact ⟨va', vc', rfl, h3⟩
  have CHB2 : Hid (∀ (va : Option Addr) (vc : Nat) W, Calls Try.prog 11 #[.agg #[.int .i64 B2.st, .int .i64 B2.iss, .int .i64 B2.una, .int .i64 B2.rcv, .string B2.wait, .int .i64 B2.sent, .int .i64 B2.fin, .bool B2.pf, .string B2.inn, .slice va B2.late.length vc, .bool B2.owe, .int .i64 B2.due, .int .i64 B2.times], .agg #[(Value.int .i64 (SegD.num ⟨addNum (addNum x 1) 0, addNum y 1, 2, ByteArray.empty⟩)), .int .i64 (SegD.ack ⟨addNum (addNum x 1) 0, addNum y 1, 2, ByteArray.empty⟩), .int .i64 (SegD.flags ⟨addNum (addNum x 1) 0, addNum y 1, 2, ByteArray.empty⟩), .string (SegD.body ⟨addNum (addNum x 1) 0, addNum y 1, 2, ByteArray.empty⟩)]] W fun e w' => ∃ va' vc', e = .returned (.agg #[.int .i64 B3.st, .int .i64 B3.iss, .int .i64 B3.una, .int .i64 B3.rcv, .string B3.wait, .int .i64 B3.sent, .int .i64 B3.fin, .bool B3.pf, .string B3.inn, .slice va' B3.late.length vc', .bool B3.owe, .int .i64 B3.due, .int .i64 B3.times]) ∧ Below W.heap.size W w') := fun va vc W => by
    have h9 := gHearB2 HY.out (addNum (addNum x 1) 0) (addNum x 1) (addNum_bd _ _) (addNum_bd x 1)
    rw [hB2, hB3] at h9
    refine (implHear_with B2 va vc (by rw [← hB2]; exact gStr_small _ _ _ _ _ _ _) ⟨addNum (addNum x 1) 0, addNum y 1, 2, ByteArray.empty⟩ (show (0 : Nat) ≤ 1048576 by decide) (fun _ _ _ _ h => absurd rfl h) (by rw [h9.1, ← hB3]; exact (show (0 : Nat) ≤ 1048576 by decide)) W (by rw [← hB2]; exact fun h => absurd rfl h)).mono ?_
    rw [h9.2.2]
    rintro e w' ⟨va', vc', rfl, _, _, h3⟩
    exact ⟨va', vc', rfl, h3⟩
  have hfa : A3.st = 4 ∧ B3.st = 4 ∧ A3.rcv = B3.una ∧ B3.rcv = A3.una ∧ A3.inn = ByteArray.empty ∧ A3.fin = 0 := by rw [← hA3, ← hB3]; exact ⟨rfl, rfl, rfl, rfl, rfl, rfl⟩
  have HFA := hid hfa
  clear hfa
  have CE : Hid (∀ (va : Option Addr) (vc : Nat) W, Calls Try.prog 12 #[.agg #[.int .i64 A3.st, .int .i64 A3.iss, .int .i64 A3.una, .int .i64 A3.rcv, .string A3.wait, .int .i64 A3.sent, .int .i64 A3.fin, .bool A3.pf, .string A3.inn, .slice va A3.late.length vc, .bool A3.owe, .int .i64 A3.due, .int .i64 A3.times]] W fun e w' => e = .returned (.bool false) ∧ Below W.heap.size W w') := fun va vc W => by have h9 := implEnded_any A3 va vc W; rw [show endedD A3 = false by rw [← hA3]; rfl] at h9; exact h9
  clear hA0 hB0 hA1 hB1 hB2 hA2 hA3 hB3
  go_wp2_with fail
  refine Calls.mono (CNA.out _) ?_
  rintro e w3 ⟨rfl, b3⟩
  have d1 := (b3.cell (p := ⟨gp, 1, none⟩) (World.block_lt_of_cell? w2 _ c1)).trans c1
  have HD1 := hid d1
  clear d1 c0 c1
  have B_1 := hid (below_via B_0.out b3)
  clear b3 B_0
  have hbw9 := below_more (Below.refl w3.heap.size w3) (.cells #[.int .i64 A0.st, .int .i64 A0.iss, .int .i64 A0.una, .int .i64 A0.rcv, .string A0.wait, .int .i64 A0.sent, .int .i64 A0.fin, .bool A0.pf, .string A0.inn, .slice none A0.late.length 0, .bool A0.owe, .int .i64 A0.due, .int .i64 A0.times] 28)
  have OV2 := hid (str_over w3 #[.int .i64 0, .int .i64 0, .int .i64 0, .int .i64 0, .string ⟨#[]⟩, .int .i64 0, .int .i64 0, .bool false, .string ⟨#[]⟩, .slice none 0 0, .bool false, .int .i64 0, .int .i64 0] #[.int .i64 A0.st, .int .i64 A0.iss, .int .i64 A0.una, .int .i64 A0.rcv, .string A0.wait, .int .i64 A0.sent, .int .i64 A0.fin, .bool A0.pf, .string A0.inn, .slice none A0.late.length 0, .bool A0.owe, .int .i64 A0.due, .int .i64 A0.times] 28)
  have KZ2 := hid (show BlockIs (w3.alloc (.cells #[.int .i64 0, .int .i64 0, .int .i64 0, .int .i64 0, .string ⟨#[]⟩, .int .i64 0, .int .i64 0, .bool false, .string ⟨#[]⟩, .slice none 0 0, .bool false, .int .i64 0, .int .i64 0] 28)) w3.heap.size 28 [.int .i64 0, .int .i64 0, .int .i64 0, .int .i64 0, .string ⟨#[]⟩, .int .i64 0, .int .i64 0, .bool false, .string ⟨#[]⟩, .slice none 0 0, .bool false, .int .i64 0, .int .i64 0] from heap_alloc_new w3 _)
  have hk : BlockIs (w3.alloc (.cells #[.int .i64 A0.st, .int .i64 A0.iss, .int .i64 A0.una, .int .i64 A0.rcv, .string A0.wait, .int .i64 A0.sent, .int .i64 A0.fin, .bool A0.pf, .string A0.inn, .slice none A0.late.length 0, .bool A0.owe, .int .i64 A0.due, .int .i64 A0.times] 28)) w3.heap.size 28 [.int .i64 A0.st, .int .i64 A0.iss, .int .i64 A0.una, .int .i64 A0.rcv, .string A0.wait, .int .i64 A0.sent, .int .i64 A0.fin, .bool A0.pf, .string A0.inn, .slice none A0.late.length 0, .bool A0.owe, .int .i64 A0.due, .int .i64 A0.times] := heap_alloc_new w3 _
  have hsz_ba := B_1.out.size
  have B_2 := hid (below_via B_1.out hbw9)
  have XA_2 := hid hk
  obtain ⟨V2, hV2⟩ : ∃ V, w3.alloc (.cells #[.int .i64 A0.st, .int .i64 A0.iss, .int .i64 A0.una, .int .i64 A0.rcv, .string A0.wait, .int .i64 A0.sent, .int .i64 A0.fin, .bool A0.pf, .string A0.inn, .slice none A0.late.length 0, .bool A0.owe, .int .i64 A0.due, .int .i64 A0.times] 28) = V := ⟨_, rfl⟩
  rw [hV2] at OV2 B_2 XA_2
  obtain ⟨ba, hba⟩ : ∃ b, w3.heap.size = b := ⟨_, rfl⟩
  rw [hba] at XA_2 hsz_ba
  clear hbw9 hk
  have d1 : V2.cell? ⟨gp, 1, none⟩ = some (.int .i64 (z1 : Int)) := by rw [← hV2]; exact ((below_more (Below.refl w3.heap.size w3) _).cell (p := ⟨gp, 1, none⟩) (World.block_lt_of_cell? w3 _ HD1.out)).trans HD1.out
  clear HD1
  go_wp2_with (first | (refine wpList_store_str KZ2.out rfl rfl _ _ rfl _ rfl rfl rfl (strCells_all A0 _ _) ?_; rw [OV2.out]) | fail)
  refine Calls.mono (CNB.out _) ?_
  rintro e w5 ⟨rfl, b5⟩
  clear d1
  have hab := hba
  have XA_3 := hid (XA_2.out.on b5 XA_2.out.lt)
  have B_3 := hid (below_via B_2.out b5)
  clear b5 XA_2 B_2
  have XAold := XA_3
  clear hab
  have hbw9 := below_more (Below.refl w5.heap.size w5) (.cells #[.int .i64 B0.st, .int .i64 B0.iss, .int .i64 B0.una, .int .i64 B0.rcv, .string B0.wait, .int .i64 B0.sent, .int .i64 B0.fin, .bool B0.pf, .string B0.inn, .slice none B0.late.length 0, .bool B0.owe, .int .i64 B0.due, .int .i64 B0.times] 28)
  have OV4 := hid (str_over w5 #[.int .i64 0, .int .i64 0, .int .i64 0, .int .i64 0, .string ⟨#[]⟩, .int .i64 0, .int .i64 0, .bool false, .string ⟨#[]⟩, .slice none 0 0, .bool false, .int .i64 0, .int .i64 0] #[.int .i64 B0.st, .int .i64 B0.iss, .int .i64 B0.una, .int .i64 B0.rcv, .string B0.wait, .int .i64 B0.sent, .int .i64 B0.fin, .bool B0.pf, .string B0.inn, .slice none B0.late.length 0, .bool B0.owe, .int .i64 B0.due, .int .i64 B0.times] 28)
  have KZ4 := hid (show BlockIs (w5.alloc (.cells #[.int .i64 0, .int .i64 0, .int .i64 0, .int .i64 0, .string ⟨#[]⟩, .int .i64 0, .int .i64 0, .bool false, .string ⟨#[]⟩, .slice none 0 0, .bool false, .int .i64 0, .int .i64 0] 28)) w5.heap.size 28 [.int .i64 0, .int .i64 0, .int .i64 0, .int .i64 0, .string ⟨#[]⟩, .int .i64 0, .int .i64 0, .bool false, .string ⟨#[]⟩, .slice none 0 0, .bool false, .int .i64 0, .int .i64 0] from heap_alloc_new w5 _)
  have hk : BlockIs (w5.alloc (.cells #[.int .i64 B0.st, .int .i64 B0.iss, .int .i64 B0.una, .int .i64 B0.rcv, .string B0.wait, .int .i64 B0.sent, .int .i64 B0.fin, .bool B0.pf, .string B0.inn, .slice none B0.late.length 0, .bool B0.owe, .int .i64 B0.due, .int .i64 B0.times] 28)) w5.heap.size 28 [.int .i64 B0.st, .int .i64 B0.iss, .int .i64 B0.una, .int .i64 B0.rcv, .string B0.wait, .int .i64 B0.sent, .int .i64 B0.fin, .bool B0.pf, .string B0.inn, .slice none B0.late.length 0, .bool B0.owe, .int .i64 B0.due, .int .i64 B0.times] := heap_alloc_new w5 _
  have hsz_bb := B_3.out.size
  have XA_4 := hid (XA_3.out.on hbw9 XA_3.out.lt)
  have B_4 := hid (below_via B_3.out hbw9)
  have XB_4 := hid hk
  obtain ⟨V4, hV4⟩ : ∃ V, w5.alloc (.cells #[.int .i64 B0.st, .int .i64 B0.iss, .int .i64 B0.una, .int .i64 B0.rcv, .string B0.wait, .int .i64 B0.sent, .int .i64 B0.fin, .bool B0.pf, .string B0.inn, .slice none B0.late.length 0, .bool B0.owe, .int .i64 B0.due, .int .i64 B0.times] 28) = V := ⟨_, rfl⟩
  rw [hV4] at OV4 B_4 XA_4 XB_4
  obtain ⟨bb, hbb⟩ : ∃ b, w5.heap.size = b := ⟨_, rfl⟩
  rw [hbb] at XB_4 hsz_bb
  clear hbw9 hk
  have hlt : ba < bb := by rw [← hbb]; exact (BlockIs.lt (show BlockIs w5 ba 28 [.int .i64 A0.st, .int .i64 A0.iss, .int .i64 A0.una, .int .i64 A0.rcv, .string A0.wait, .int .i64 A0.sent, .int .i64 A0.fin, .bool A0.pf, .string A0.inn, .slice none A0.late.length 0, .bool A0.owe, .int .i64 A0.due, .int .i64 A0.times] from XAold.out))
  skip
  go_wp2_with (first | (refine wpList_store_str KZ4.out rfl rfl _ _ rfl _ rfl rfl rfl (strCells_all B0 _ _) ?_; rw [OV4.out]) | (refine wpList_load_str XA_4.out rfl rfl _ rfl rfl ?_) | fail)
  refine Calls.mono (CPA.out _ _ _) ?_
  rintro e w7 ⟨va7, vc7, sa7, sq7, rfl, hs7, b7⟩
  have Q7 := hid hs7
  clear hs7 XAold
  have XA_5 := hid (XA_4.out.on b7 XA_4.out.lt)
  have XB_5 := hid (XB_4.out.on b7 XB_4.out.lt)
  have B_5 := hid (below_via B_4.out b7)
  clear b7 XA_4 XB_4 B_4
  obtain ⟨p1, rp1, ep1, _, _, hkp1⟩ := Q7.out.resolve_left (by decide)
  subst ep1
  have P1_5 := hid hkp1
  clear hkp1 Q7
  obtain ⟨V6, hV6⟩ : ∃ V, w7.setRow ba #[.int .i64 A1.st, .int .i64 A1.iss, .int .i64 A1.una, .int .i64 A1.rcv, .string A1.wait, .int .i64 A1.sent, .int .i64 A1.fin, .bool A1.pf, .string A1.inn, .slice va7 A1.late.length vc7, .bool A1.owe, .int .i64 A1.due, .int .i64 A1.times] = V := ⟨_, rfl⟩
  have XA_6 : Hid (BlockIs V6 ba 28 [.int .i64 A1.st, .int .i64 A1.iss, .int .i64 A1.una, .int .i64 A1.rcv, .string A1.wait, .int .i64 A1.sent, .int .i64 A1.fin, .bool A1.pf, .string A1.inn, .slice va7 A1.late.length vc7, .bool A1.owe, .int .i64 A1.due, .int .i64 A1.times]) := by rw [← hV6]; exact store_block XA_5.out _
  have XB_6 : Hid (BlockIs V6 bb 28 [.int .i64 B0.st, .int .i64 B0.iss, .int .i64 B0.una, .int .i64 B0.rcv, .string B0.wait, .int .i64 B0.sent, .int .i64 B0.fin, .bool B0.pf, .string B0.inn, .slice none B0.late.length 0, .bool B0.owe, .int .i64 B0.due, .int .i64 B0.times]) := by rw [← hV6]; exact block_setRow XB_5.out (by omega) _
  have P1_6 : Hid (BlockIs V6 p1 36 (segCells [⟨x, 0, 1, ByteArray.empty⟩] ++ rp1)) := by rw [← hV6]; exact block_setRow P1_5.out (fun e => by subst e; exact absurd (block_one XA_5.out P1_5.out).1 (by decide)) _
  have B_6 : Hid (Below w.heap.size w V6) := by rw [← hV6]; exact below_setRow B_5.out (by omega) _
  go_wp2_with (first | (refine wpList_store_str XA_5.out rfl rfl _ _ rfl _ rfl rfl rfl (strCells_all A1 _ _) ?_; rw [hV6]) | (refine wpList_load_str XB_6.out rfl rfl _ rfl rfl ?_) | fail)
  refine Calls.mono (CPB.out _ _ _) ?_
  rintro e w9 ⟨va9, vc9, sa9, sq9, rfl, _, b9⟩
  have XA_7 := hid (XA_6.out.on b9 XA_6.out.lt)
  have XB_7 := hid (XB_6.out.on b9 XB_6.out.lt)
  have P1_7 := hid (P1_6.out.on b9 P1_6.out.lt)
  have B_7 := hid (below_via B_6.out b9)
  clear b9 XA_6 XB_6 P1_6 B_6
  have hbw9 := below_more (Below.refl w9.heap.size w9) (.cells #[.int .i64 B0.st, .int .i64 B0.iss, .int .i64 B0.una, .int .i64 B0.rcv, .string B0.wait, .int .i64 B0.sent, .int .i64 B0.fin, .bool B0.pf, .string B0.inn, .slice va9 B0.late.length vc9, .bool B0.owe, .int .i64 B0.due, .int .i64 B0.times] 28)
  have OV8 := hid (str_over w9 #[.int .i64 0, .int .i64 0, .int .i64 0, .int .i64 0, .string ⟨#[]⟩, .int .i64 0, .int .i64 0, .bool false, .string ⟨#[]⟩, .slice none 0 0, .bool false, .int .i64 0, .int .i64 0] #[.int .i64 B0.st, .int .i64 B0.iss, .int .i64 B0.una, .int .i64 B0.rcv, .string B0.wait, .int .i64 B0.sent, .int .i64 B0.fin, .bool B0.pf, .string B0.inn, .slice va9 B0.late.length vc9, .bool B0.owe, .int .i64 B0.due, .int .i64 B0.times] 28)
  have KZ8 := hid (show BlockIs (w9.alloc (.cells #[.int .i64 0, .int .i64 0, .int .i64 0, .int .i64 0, .string ⟨#[]⟩, .int .i64 0, .int .i64 0, .bool false, .string ⟨#[]⟩, .slice none 0 0, .bool false, .int .i64 0, .int .i64 0] 28)) w9.heap.size 28 [.int .i64 0, .int .i64 0, .int .i64 0, .int .i64 0, .string ⟨#[]⟩, .int .i64 0, .int .i64 0, .bool false, .string ⟨#[]⟩, .slice none 0 0, .bool false, .int .i64 0, .int .i64 0] from heap_alloc_new w9 _)
  have hk : BlockIs (w9.alloc (.cells #[.int .i64 B0.st, .int .i64 B0.iss, .int .i64 B0.una, .int .i64 B0.rcv, .string B0.wait, .int .i64 B0.sent, .int .i64 B0.fin, .bool B0.pf, .string B0.inn, .slice va9 B0.late.length vc9, .bool B0.owe, .int .i64 B0.due, .int .i64 B0.times] 28)) w9.heap.size 28 [.int .i64 B0.st, .int .i64 B0.iss, .int .i64 B0.una, .int .i64 B0.rcv, .string B0.wait, .int .i64 B0.sent, .int .i64 B0.fin, .bool B0.pf, .string B0.inn, .slice va9 B0.late.length vc9, .bool B0.owe, .int .i64 B0.due, .int .i64 B0.times] := heap_alloc_new w9 _
  have hsz_bn := B_7.out.size
  have XA_8 := hid (XA_7.out.on hbw9 XA_7.out.lt)
  have XB_8 := hid (XB_7.out.on hbw9 XB_7.out.lt)
  have P1_8 := hid (P1_7.out.on hbw9 P1_7.out.lt)
  have B_8 := hid (below_via B_7.out hbw9)
  have XN_8 := hid hk
  obtain ⟨V8, hV8⟩ : ∃ V, w9.alloc (.cells #[.int .i64 B0.st, .int .i64 B0.iss, .int .i64 B0.una, .int .i64 B0.rcv, .string B0.wait, .int .i64 B0.sent, .int .i64 B0.fin, .bool B0.pf, .string B0.inn, .slice va9 B0.late.length vc9, .bool B0.owe, .int .i64 B0.due, .int .i64 B0.times] 28) = V := ⟨_, rfl⟩
  rw [hV8] at OV8 B_8 XA_8 XB_8 P1_8 XN_8
  obtain ⟨bn, hbn⟩ : ∃ b, w9.heap.size = b := ⟨_, rfl⟩
  rw [hbn] at XN_8 hsz_bn
  clear hbw9 hk
  go_upto_region 10 with (first | (refine wpList_store_str KZ8.out rfl rfl _ _ rfl _ rfl rfl rfl (strCells_all B0 _ _) ?_; rw [OV8.out]) | fail)
  go_cut [65] (fun _ wx => ∃ (va' : Option Addr) (vc' : Nat), Hid (Below w.heap.size w wx ∧ BlockIs wx ba 28 [.int .i64 A1.st, .int .i64 A1.iss, .int .i64 A1.una, .int .i64 A1.rcv, .string A1.wait, .int .i64 A1.sent, .int .i64 A1.fin, .bool A1.pf, .string A1.inn, .slice va7 A1.late.length vc7, .bool A1.owe, .int .i64 A1.due, .int .i64 A1.times] ∧ BlockIs wx bb 28 [.int .i64 B1.st, .int .i64 B1.iss, .int .i64 B1.una, .int .i64 B1.rcv, .string B1.wait, .int .i64 B1.sent, .int .i64 B1.fin, .bool B1.pf, .string B1.inn, .slice va' B1.late.length vc', .bool B1.owe, .int .i64 B1.due, .int .i64 B1.times]))
  case first =>
    refine wp_region_from (N := 124) (by kernel_rfl) (by kernel_rfl) rfl (by kernel_rfl) (fun W => Below w.heap.size w W ∧ BlockIs W ba 28 [.int .i64 A1.st, .int .i64 A1.iss, .int .i64 A1.una, .int .i64 A1.rcv, .string A1.wait, .int .i64 A1.sent, .int .i64 A1.fin, .bool A1.pf, .string A1.inn, .slice va7 A1.late.length vc7, .bool A1.owe, .int .i64 A1.due, .int .i64 A1.times] ∧ BlockIs W p1 36 (segCells [⟨x, 0, 1, ByteArray.empty⟩] ++ rp1)) (fun j v _ W => match j with | 0 => v = .agg #[.int .i64 B0.st, .int .i64 B0.iss, .int .i64 B0.una, .int .i64 B0.rcv, .string B0.wait, .int .i64 B0.sent, .int .i64 B0.fin, .bool B0.pf, .string B0.inn, .slice none B0.late.length 0, .bool B0.owe, .int .i64 B0.due, .int .i64 B0.times] | 1 => v = .slice (some ⟨p1, 0, none⟩) 1 sq7 | 2 => v = .pointer (some ⟨p1, 0, none⟩) | 3 => v = .agg #[(Value.int .i64 (SegD.num ⟨x, 0, 1, ByteArray.empty⟩)), .int .i64 (SegD.ack ⟨x, 0, 1, ByteArray.empty⟩), .int .i64 (SegD.flags ⟨x, 0, 1, ByteArray.empty⟩), .string (SegD.body ⟨x, 0, 1, ByteArray.empty⟩)] | 4 => ∃ (va' : Option Addr) (vc' : Nat), v = .agg #[.int .i64 B1.st, .int .i64 B1.iss, .int .i64 B1.una, .int .i64 B1.rcv, .string B1.wait, .int .i64 B1.sent, .int .i64 B1.fin, .bool B1.pf, .string B1.inn, .slice va' B1.late.length vc', .bool B1.owe, .int .i64 B1.due, .int .i64 B1.times] | 5 => ∃ (va' : Option Addr) (vc' : Nat), BlockIs W bb 28 [.int .i64 B1.st, .int .i64 B1.iss, .int .i64 B1.una, .int .i64 B1.rcv, .string B1.wait, .int .i64 B1.sent, .int .i64 B1.fin, .bool B1.pf, .string B1.inn, .slice va' B1.late.length vc', .bool B1.owe, .int .i64 B1.due, .int .i64 B1.times] | _ => True) (fun i => i) (fun _ _ => false) (fun i x y => x.heap.size ≤ y.heap.size ∧ ∀ p ty cs, BlockIs x p ty cs → (i = 5 → p ≠ bb) → BlockIs y p ty cs) (fun q9 W => match q9 with | 0 => BlockIs W bb 28 [.int .i64 B0.st, .int .i64 B0.iss, .int .i64 B0.una, .int .i64 B0.rcv, .string B0.wait, .int .i64 B0.sent, .int .i64 B0.fin, .bool B0.pf, .string B0.inn, .slice none B0.late.length 0, .bool B0.owe, .int .i64 B0.due, .int .i64 B0.times] | _ => True) (fun m k => decide ((m, k) ∈ ([(0, 5)] : List (Nat × Nat)))) ?_ (fun _ => 0) (by kernel_rfl) (fun _ _ => rfl) ?_ ⟨below_via B_8.out (below_drewN (Below.refl V8.heap.size V8) 1), XA_8.out.on (below_drewN (Below.refl V8.heap.size V8) 1) XA_8.out.lt, P1_8.out.on (below_drewN (Below.refl V8.heap.size V8) 1) P1_8.out.lt⟩ (fun q9 => match q9 with | 0 => XB_8.out.on (below_drewN (Below.refl V8.heap.size V8) 1) XB_8.out.lt | _ + 1 => trivial) ?_ ?_
    · intro i m x y hen hxy hm
      match m, hen, hm with
      | 0, hen, hm =>
        simp at hen
        exact hxy.2 _ _ _ hm (fun e => absurd e hen)
      | n + 1, _, _ => exact trivial
    · intro i j v u x y hij hdd hwt hxy hg
      match j, hg with
      | 0, hg => exact hg
      | 1, hg => exact hg
      | 2, hg => exact hg
      | 3, hg => exact hg
      | 4, hg =>
        exact hg
      | 5, hg =>
        obtain ⟨va', vc', hg⟩ := hg
        exact ⟨va', vc', hxy.2 _ _ _ hg (fun e => absurd e hij)⟩
      | n + 6, _ => exact trivial
    · refine ⟨?_, ?_, ?_, ?_, ?_, ?_, trivial⟩
      · intro A W hC hI hg hb
        have h6 : A.eval (.tmp 6) = .pointer (some ⟨bb, 0, none⟩) := hb 6 (base_of (by kernel_rfl))
        have hb1 : BlockIs W bb 28 [.int .i64 B0.st, .int .i64 B0.iss, .int .i64 B0.una, .int .i64 B0.rcv, .string B0.wait, .int .i64 B0.sent, .int .i64 B0.fin, .bool B0.pf, .string B0.inn, .slice none B0.late.length 0, .bool B0.owe, .int .i64 B0.due, .int .i64 B0.times] := hI 0 (by kernel_rfl)
        exact does_value (v := .agg #[.int .i64 B0.st, .int .i64 B0.iss, .int .i64 B0.una, .int .i64 B0.rcv, .string B0.wait, .int .i64 B0.sent, .int .i64 B0.fin, .bool B0.pf, .string B0.inn, .slice none B0.late.length 0, .bool B0.owe, .int .i64 B0.due, .int .i64 B0.times]) (w' := W) (by simp only [execOp, h6, load_str (cs := [.int .i64 B0.st, .int .i64 B0.iss, .int .i64 B0.una, .int .i64 B0.rcv, .string B0.wait, .int .i64 B0.sent, .int .i64 B0.fin, .bool B0.pf, .string B0.inn, .slice none B0.late.length 0, .bool B0.owe, .int .i64 B0.due, .int .i64 B0.times]) (r := []) (by rw [List.append_nil]; exact hb1) rfl, Sem.run_bind, Sem.run_pure, Result.andThen_ok]) ⟨rfl, hC, Nat.le_refl _, fun _ _ _ h _ => h⟩
      · intro A W hC hI hg hb
        have h8 : A.eval (.tmp 8) = .slice (some ⟨p1, 0, none⟩) 1 sq7 := hb 8 (base_of (by kernel_rfl))
        exact does_value (v := .slice (some ⟨p1, 0, none⟩) 1 sq7) (w' := W) (by simp only [execOp, h8]; simp [go_sem]) ⟨rfl, hC, Nat.le_refl _, fun _ _ _ h _ => h⟩
      · intro A W hC hI hg hb
        have h62 : A.eval (.tmp 62) = .slice (some ⟨p1, 0, none⟩) 1 sq7 := hg 1 62 (by decide) rfl (by simp [Op.operands]) (by kernel_rfl) rfl
        exact does_value (v := .pointer (some ⟨p1, 0, none⟩)) (w' := W) (by simp only [execOp, h62]; simp [go_sem]) ⟨rfl, hC, Nat.le_refl _, fun _ _ _ h _ => h⟩
      · intro A W hC hI hg hb
        have h63 : A.eval (.tmp 63) = .pointer (some ⟨p1, 0, none⟩) := hg 2 63 (by decide) rfl (by simp [Op.operands]) (by kernel_rfl) rfl
        have hc0 := hC.2.2.cell (j := 0) rfl
        have hc1 := hC.2.2.cell (j := 1) rfl
        have hc2 := hC.2.2.cell (j := 2) rfl
        have hc3 := hC.2.2.cell (j := 3) rfl
        exact does_value (v := .agg #[(Value.int .i64 (SegD.num ⟨x, 0, 1, ByteArray.empty⟩)), .int .i64 (SegD.ack ⟨x, 0, 1, ByteArray.empty⟩), .int .i64 (SegD.flags ⟨x, 0, 1, ByteArray.empty⟩), .string (SegD.body ⟨x, 0, 1, ByteArray.empty⟩)]) (w' := W) (by simp only [execOp, h63]; simp [go_sem, hc0, hc1, hc2, hc3]) ⟨rfl, hC, Nat.le_refl _, fun _ _ _ h _ => h⟩
      · intro A W hC hI hg hb
        have h61 : A.eval (.tmp 61) = .agg #[.int .i64 B0.st, .int .i64 B0.iss, .int .i64 B0.una, .int .i64 B0.rcv, .string B0.wait, .int .i64 B0.sent, .int .i64 B0.fin, .bool B0.pf, .string B0.inn, .slice none B0.late.length 0, .bool B0.owe, .int .i64 B0.due, .int .i64 B0.times] := hg 0 61 (by decide) rfl (by simp [Op.operands, Call.operands]) (by kernel_rfl) rfl
        have h64 : A.eval (.tmp 64) = .agg #[(Value.int .i64 (SegD.num ⟨x, 0, 1, ByteArray.empty⟩)), .int .i64 (SegD.ack ⟨x, 0, 1, ByteArray.empty⟩), .int .i64 (SegD.flags ⟨x, 0, 1, ByteArray.empty⟩), .string (SegD.body ⟨x, 0, 1, ByteArray.empty⟩)] := hg 3 64 (by decide) rfl (by simp [Op.operands, Call.operands]) (by kernel_rfl) rfl
        simp [go_sem] at h61 h64
        refine does_enter (f := 11) (args := #[.agg #[.int .i64 B0.st, .int .i64 B0.iss, .int .i64 B0.una, .int .i64 B0.rcv, .string B0.wait, .int .i64 B0.sent, .int .i64 B0.fin, .bool B0.pf, .string B0.inn, .slice none B0.late.length 0, .bool B0.owe, .int .i64 B0.due, .int .i64 B0.times], .agg #[(Value.int .i64 (SegD.num ⟨x, 0, 1, ByteArray.empty⟩)), .int .i64 (SegD.ack ⟨x, 0, 1, ByteArray.empty⟩), .int .i64 (SegD.flags ⟨x, 0, 1, ByteArray.empty⟩), .string (SegD.body ⟨x, 0, 1, ByteArray.empty⟩)]]) (w' := W) (by simp [go_sem, h61, h64]) ?_
        refine (CHB.out _ _ W).mono ?_
        rintro e W' ⟨va', vc', rfl, hb⟩
        exact ⟨_, rfl, ⟨va', vc', rfl⟩, ⟨below_via hC.1 hb, hC.2.1.on hb hC.2.1.lt, hC.2.2.on hb hC.2.2.lt⟩, hb.size, fun p ty cs h _ => h.on hb h.lt⟩
      · intro A W hC hI hg hb
        have h6 : A.eval (.tmp 6) = .pointer (some ⟨bb, 0, none⟩) := hb 6 (base_of (by kernel_rfl))
        have g4 := hg 4 65 (by decide) rfl (by simp [Op.operands]) (by kernel_rfl) rfl
        obtain ⟨va', vc', h65⟩ := g4
        have hb1 : BlockIs W bb 28 [.int .i64 B0.st, .int .i64 B0.iss, .int .i64 B0.una, .int .i64 B0.rcv, .string B0.wait, .int .i64 B0.sent, .int .i64 B0.fin, .bool B0.pf, .string B0.inn, .slice none B0.late.length 0, .bool B0.owe, .int .i64 B0.due, .int .i64 B0.times] := hI 0 (by kernel_rfl)
        have hst := store_str hb1 rfl (A := #[.int .i64 B1.st, .int .i64 B1.iss, .int .i64 B1.una, .int .i64 B1.rcv, .string B1.wait, .int .i64 B1.sent, .int .i64 B1.fin, .bool B1.pf, .string B1.inn, .slice va' B1.late.length vc', .bool B1.owe, .int .i64 B1.due, .int .i64 B1.times]) rfl (strCells_all B1 _ _)
        exact does_skip (w' := W.setRow bb #[.int .i64 B1.st, .int .i64 B1.iss, .int .i64 B1.una, .int .i64 B1.rcv, .string B1.wait, .int .i64 B1.sent, .int .i64 B1.fin, .bool B1.pf, .string B1.inn, .slice va' B1.late.length vc', .bool B1.owe, .int .i64 B1.due, .int .i64 B1.times]) (by simp only [execOp, h6, h65, hst, Sem.run_bind, Sem.run_pure, Result.andThen_ok]) ⟨⟨va', vc', store_block hb1 _⟩, ⟨below_setRow hC.1 (by omega) _, block_setRow hC.2.1 (by omega) _, block_setRow hC.2.2 (fun e => by subst e; exact absurd (block_one hb1 hC.2.2).1 (by decide)) _⟩, by simp [World.setRow], fun p ty cs hp hne => block_setRow hp (fun e => hne rfl e.symm) _⟩
    · intro vs wE hC hI hg
      obtain ⟨va', vc', h8⟩ := hg 5 (by decide) (fun k => by simp)
      clear hg hI
      simp only [List.size_toArray, List.length_cons, List.length_nil, Nat.zero_add, Nat.reduceAdd]
      simp only [laidBy, if_true, dstAt, List.getElem?_toArray, List.getElem?_cons_succ, List.getElem?_cons_zero, Option.bind_some]
      simp only [Act.put, List.setIfInBounds_toArray, List.set_cons_succ, List.set_cons_zero]
      go_wp2_with fail
      go_meet
      exact ⟨va', vc', hC.1, hC.2.1, h8⟩
  case rest =>
    obtain ⟨vh10, vk10, HC⟩ := hcut
    have B_9 := hid HC.out.1
    have XA_9 := hid HC.out.2.1
    have XB_9 := hid HC.out.2.2
    clear HC
    go_wp2_with (first | (refine wpList_load_str XB_9.out rfl rfl _ rfl rfl ?_) | fail)
    refine Calls.mono (CPB2.out _ _ _) ?_
    rintro e w11 ⟨va11, vc11, sa11, sq11, rfl, hs11, b11⟩
    have Q11 := hid hs11
    clear hs11
    have XA_10 := hid (XA_9.out.on b11 XA_9.out.lt)
    have XB_10 := hid (XB_9.out.on b11 XB_9.out.lt)
    have B_10 := hid (below_via B_9.out b11)
    clear b11 XA_9 XB_9 B_9
    obtain ⟨p2, rp2, ep2, _, _, hkp2⟩ := Q11.out.resolve_left (by decide)
    subst ep2
    have P2_10 := hid hkp2
    clear hkp2 Q11
    obtain ⟨V11, hV11⟩ : ∃ V, w11.setRow bb #[.int .i64 B2.st, .int .i64 B2.iss, .int .i64 B2.una, .int .i64 B2.rcv, .string B2.wait, .int .i64 B2.sent, .int .i64 B2.fin, .bool B2.pf, .string B2.inn, .slice va11 B2.late.length vc11, .bool B2.owe, .int .i64 B2.due, .int .i64 B2.times] = V := ⟨_, rfl⟩
    have XB_11 : Hid (BlockIs V11 bb 28 [.int .i64 B2.st, .int .i64 B2.iss, .int .i64 B2.una, .int .i64 B2.rcv, .string B2.wait, .int .i64 B2.sent, .int .i64 B2.fin, .bool B2.pf, .string B2.inn, .slice va11 B2.late.length vc11, .bool B2.owe, .int .i64 B2.due, .int .i64 B2.times]) := by rw [← hV11]; exact store_block XB_10.out _
    have XA_11 : Hid (BlockIs V11 ba 28 [.int .i64 A1.st, .int .i64 A1.iss, .int .i64 A1.una, .int .i64 A1.rcv, .string A1.wait, .int .i64 A1.sent, .int .i64 A1.fin, .bool A1.pf, .string A1.inn, .slice va7 A1.late.length vc7, .bool A1.owe, .int .i64 A1.due, .int .i64 A1.times]) := by rw [← hV11]; exact block_setRow XA_10.out (by omega) _
    have P2_11 : Hid (BlockIs V11 p2 36 (segCells [⟨y, addNum x 1, 3, ByteArray.empty⟩] ++ rp2)) := by rw [← hV11]; exact block_setRow P2_10.out (fun e => by subst e; exact absurd (block_one XB_10.out P2_10.out).1 (by decide)) _
    have B_11 : Hid (Below w.heap.size w V11) := by rw [← hV11]; exact below_setRow B_10.out (by omega) _
    go_upto_region 14 with (first | (refine wpList_store_str XB_10.out rfl rfl _ _ rfl _ rfl rfl rfl (strCells_all B2 _ _) ?_; rw [hV11]) | fail)
    go_cut [78] (fun _ wx => ∃ (va' : Option Addr) (vc' : Nat), Hid (Below w.heap.size w wx ∧ BlockIs wx bb 28 [.int .i64 B2.st, .int .i64 B2.iss, .int .i64 B2.una, .int .i64 B2.rcv, .string B2.wait, .int .i64 B2.sent, .int .i64 B2.fin, .bool B2.pf, .string B2.inn, .slice va11 B2.late.length vc11, .bool B2.owe, .int .i64 B2.due, .int .i64 B2.times] ∧ BlockIs wx ba 28 [.int .i64 A2.st, .int .i64 A2.iss, .int .i64 A2.una, .int .i64 A2.rcv, .string A2.wait, .int .i64 A2.sent, .int .i64 A2.fin, .bool A2.pf, .string A2.inn, .slice va' A2.late.length vc', .bool A2.owe, .int .i64 A2.due, .int .i64 A2.times]))
    case first =>
      refine wp_region_from (N := 124) (by kernel_rfl) (by kernel_rfl) rfl (by kernel_rfl) (fun W => Below w.heap.size w W ∧ BlockIs W bb 28 [.int .i64 B2.st, .int .i64 B2.iss, .int .i64 B2.una, .int .i64 B2.rcv, .string B2.wait, .int .i64 B2.sent, .int .i64 B2.fin, .bool B2.pf, .string B2.inn, .slice va11 B2.late.length vc11, .bool B2.owe, .int .i64 B2.due, .int .i64 B2.times] ∧ BlockIs W p2 36 (segCells [⟨y, addNum x 1, 3, ByteArray.empty⟩] ++ rp2)) (fun j v _ W => match j with | 0 => v = .agg #[.int .i64 A1.st, .int .i64 A1.iss, .int .i64 A1.una, .int .i64 A1.rcv, .string A1.wait, .int .i64 A1.sent, .int .i64 A1.fin, .bool A1.pf, .string A1.inn, .slice va7 A1.late.length vc7, .bool A1.owe, .int .i64 A1.due, .int .i64 A1.times] | 1 => v = .slice (some ⟨p2, 0, none⟩) 1 sq11 | 2 => v = .pointer (some ⟨p2, 0, none⟩) | 3 => v = .agg #[(Value.int .i64 (SegD.num ⟨y, addNum x 1, 3, ByteArray.empty⟩)), .int .i64 (SegD.ack ⟨y, addNum x 1, 3, ByteArray.empty⟩), .int .i64 (SegD.flags ⟨y, addNum x 1, 3, ByteArray.empty⟩), .string (SegD.body ⟨y, addNum x 1, 3, ByteArray.empty⟩)] | 4 => ∃ (va' : Option Addr) (vc' : Nat), v = .agg #[.int .i64 A2.st, .int .i64 A2.iss, .int .i64 A2.una, .int .i64 A2.rcv, .string A2.wait, .int .i64 A2.sent, .int .i64 A2.fin, .bool A2.pf, .string A2.inn, .slice va' A2.late.length vc', .bool A2.owe, .int .i64 A2.due, .int .i64 A2.times] | 5 => ∃ (va' : Option Addr) (vc' : Nat), BlockIs W ba 28 [.int .i64 A2.st, .int .i64 A2.iss, .int .i64 A2.una, .int .i64 A2.rcv, .string A2.wait, .int .i64 A2.sent, .int .i64 A2.fin, .bool A2.pf, .string A2.inn, .slice va' A2.late.length vc', .bool A2.owe, .int .i64 A2.due, .int .i64 A2.times] | _ => True) (fun i => i) (fun _ _ => false) (fun i x y => x.heap.size ≤ y.heap.size ∧ ∀ p ty cs, BlockIs x p ty cs → (i = 5 → p ≠ ba) → BlockIs y p ty cs) (fun q9 W => match q9 with | 0 => BlockIs W ba 28 [.int .i64 A1.st, .int .i64 A1.iss, .int .i64 A1.una, .int .i64 A1.rcv, .string A1.wait, .int .i64 A1.sent, .int .i64 A1.fin, .bool A1.pf, .string A1.inn, .slice va7 A1.late.length vc7, .bool A1.owe, .int .i64 A1.due, .int .i64 A1.times] | _ => True) (fun m k => decide ((m, k) ∈ ([(0, 5)] : List (Nat × Nat)))) ?_ (fun _ => 0) (by kernel_rfl) (fun _ _ => rfl) ?_ ⟨below_via B_11.out (below_drewN (Below.refl V11.heap.size V11) 1), XB_11.out.on (below_drewN (Below.refl V11.heap.size V11) 1) XB_11.out.lt, P2_11.out.on (below_drewN (Below.refl V11.heap.size V11) 1) P2_11.out.lt⟩ (fun q9 => match q9 with | 0 => XA_11.out.on (below_drewN (Below.refl V11.heap.size V11) 1) XA_11.out.lt | _ + 1 => trivial) ?_ ?_
      · intro i m x y hen hxy hm
        match m, hen, hm with
        | 0, hen, hm =>
          simp at hen
          exact hxy.2 _ _ _ hm (fun e => absurd e hen)
        | n + 1, _, _ => exact trivial
      · intro i j v u x y hij hdd hwt hxy hg
        match j, hg with
        | 0, hg => exact hg
        | 1, hg => exact hg
        | 2, hg => exact hg
        | 3, hg => exact hg
        | 4, hg =>
          exact hg
        | 5, hg =>
          obtain ⟨va', vc', hg⟩ := hg
          exact ⟨va', vc', hxy.2 _ _ _ hg (fun e => absurd e hij)⟩
        | n + 6, _ => exact trivial
      · refine ⟨?_, ?_, ?_, ?_, ?_, ?_, trivial⟩
        · intro A W hC hI hg hb
          have h4 : A.eval (.tmp 4) = .pointer (some ⟨ba, 0, none⟩) := hb 4 (base_of (by kernel_rfl))
          have hb1 : BlockIs W ba 28 [.int .i64 A1.st, .int .i64 A1.iss, .int .i64 A1.una, .int .i64 A1.rcv, .string A1.wait, .int .i64 A1.sent, .int .i64 A1.fin, .bool A1.pf, .string A1.inn, .slice va7 A1.late.length vc7, .bool A1.owe, .int .i64 A1.due, .int .i64 A1.times] := hI 0 (by kernel_rfl)
          exact does_value (v := .agg #[.int .i64 A1.st, .int .i64 A1.iss, .int .i64 A1.una, .int .i64 A1.rcv, .string A1.wait, .int .i64 A1.sent, .int .i64 A1.fin, .bool A1.pf, .string A1.inn, .slice va7 A1.late.length vc7, .bool A1.owe, .int .i64 A1.due, .int .i64 A1.times]) (w' := W) (by simp only [execOp, h4, load_str (cs := [.int .i64 A1.st, .int .i64 A1.iss, .int .i64 A1.una, .int .i64 A1.rcv, .string A1.wait, .int .i64 A1.sent, .int .i64 A1.fin, .bool A1.pf, .string A1.inn, .slice va7 A1.late.length vc7, .bool A1.owe, .int .i64 A1.due, .int .i64 A1.times]) (r := []) (by rw [List.append_nil]; exact hb1) rfl, Sem.run_bind, Sem.run_pure, Result.andThen_ok]) ⟨rfl, hC, Nat.le_refl _, fun _ _ _ h _ => h⟩
        · intro A W hC hI hg hb
          have h11 : A.eval (.tmp 11) = .slice (some ⟨p2, 0, none⟩) 1 sq11 := hb 11 (base_of (by kernel_rfl))
          exact does_value (v := .slice (some ⟨p2, 0, none⟩) 1 sq11) (w' := W) (by simp only [execOp, h11]; simp [go_sem]) ⟨rfl, hC, Nat.le_refl _, fun _ _ _ h _ => h⟩
        · intro A W hC hI hg hb
          have h75 : A.eval (.tmp 75) = .slice (some ⟨p2, 0, none⟩) 1 sq11 := hg 1 75 (by decide) rfl (by simp [Op.operands]) (by kernel_rfl) rfl
          exact does_value (v := .pointer (some ⟨p2, 0, none⟩)) (w' := W) (by simp only [execOp, h75]; simp [go_sem]) ⟨rfl, hC, Nat.le_refl _, fun _ _ _ h _ => h⟩
        · intro A W hC hI hg hb
          have h76 : A.eval (.tmp 76) = .pointer (some ⟨p2, 0, none⟩) := hg 2 76 (by decide) rfl (by simp [Op.operands]) (by kernel_rfl) rfl
          have hc0 := hC.2.2.cell (j := 0) rfl
          have hc1 := hC.2.2.cell (j := 1) rfl
          have hc2 := hC.2.2.cell (j := 2) rfl
          have hc3 := hC.2.2.cell (j := 3) rfl
          exact does_value (v := .agg #[(Value.int .i64 (SegD.num ⟨y, addNum x 1, 3, ByteArray.empty⟩)), .int .i64 (SegD.ack ⟨y, addNum x 1, 3, ByteArray.empty⟩), .int .i64 (SegD.flags ⟨y, addNum x 1, 3, ByteArray.empty⟩), .string (SegD.body ⟨y, addNum x 1, 3, ByteArray.empty⟩)]) (w' := W) (by simp only [execOp, h76]; simp [go_sem, hc0, hc1, hc2, hc3]) ⟨rfl, hC, Nat.le_refl _, fun _ _ _ h _ => h⟩
        · intro A W hC hI hg hb
          have h74 : A.eval (.tmp 74) = .agg #[.int .i64 A1.st, .int .i64 A1.iss, .int .i64 A1.una, .int .i64 A1.rcv, .string A1.wait, .int .i64 A1.sent, .int .i64 A1.fin, .bool A1.pf, .string A1.inn, .slice va7 A1.late.length vc7, .bool A1.owe, .int .i64 A1.due, .int .i64 A1.times] := hg 0 74 (by decide) rfl (by simp [Op.operands, Call.operands]) (by kernel_rfl) rfl
          have h77 : A.eval (.tmp 77) = .agg #[(Value.int .i64 (SegD.num ⟨y, addNum x 1, 3, ByteArray.empty⟩)), .int .i64 (SegD.ack ⟨y, addNum x 1, 3, ByteArray.empty⟩), .int .i64 (SegD.flags ⟨y, addNum x 1, 3, ByteArray.empty⟩), .string (SegD.body ⟨y, addNum x 1, 3, ByteArray.empty⟩)] := hg 3 77 (by decide) rfl (by simp [Op.operands, Call.operands]) (by kernel_rfl) rfl
          simp [go_sem] at h74 h77
          refine does_enter (f := 11) (args := #[.agg #[.int .i64 A1.st, .int .i64 A1.iss, .int .i64 A1.una, .int .i64 A1.rcv, .string A1.wait, .int .i64 A1.sent, .int .i64 A1.fin, .bool A1.pf, .string A1.inn, .slice va7 A1.late.length vc7, .bool A1.owe, .int .i64 A1.due, .int .i64 A1.times], .agg #[(Value.int .i64 (SegD.num ⟨y, addNum x 1, 3, ByteArray.empty⟩)), .int .i64 (SegD.ack ⟨y, addNum x 1, 3, ByteArray.empty⟩), .int .i64 (SegD.flags ⟨y, addNum x 1, 3, ByteArray.empty⟩), .string (SegD.body ⟨y, addNum x 1, 3, ByteArray.empty⟩)]]) (w' := W) (by simp [go_sem, h74, h77]) ?_
          refine (CHA.out _ _ W).mono ?_
          rintro e W' ⟨va', vc', rfl, hb⟩
          exact ⟨_, rfl, ⟨va', vc', rfl⟩, ⟨below_via hC.1 hb, hC.2.1.on hb hC.2.1.lt, hC.2.2.on hb hC.2.2.lt⟩, hb.size, fun p ty cs h _ => h.on hb h.lt⟩
        · intro A W hC hI hg hb
          have h4 : A.eval (.tmp 4) = .pointer (some ⟨ba, 0, none⟩) := hb 4 (base_of (by kernel_rfl))
          have g4 := hg 4 78 (by decide) rfl (by simp [Op.operands]) (by kernel_rfl) rfl
          obtain ⟨va', vc', h78⟩ := g4
          have hb1 : BlockIs W ba 28 [.int .i64 A1.st, .int .i64 A1.iss, .int .i64 A1.una, .int .i64 A1.rcv, .string A1.wait, .int .i64 A1.sent, .int .i64 A1.fin, .bool A1.pf, .string A1.inn, .slice va7 A1.late.length vc7, .bool A1.owe, .int .i64 A1.due, .int .i64 A1.times] := hI 0 (by kernel_rfl)
          have hst := store_str hb1 rfl (A := #[.int .i64 A2.st, .int .i64 A2.iss, .int .i64 A2.una, .int .i64 A2.rcv, .string A2.wait, .int .i64 A2.sent, .int .i64 A2.fin, .bool A2.pf, .string A2.inn, .slice va' A2.late.length vc', .bool A2.owe, .int .i64 A2.due, .int .i64 A2.times]) rfl (strCells_all A2 _ _)
          exact does_skip (w' := W.setRow ba #[.int .i64 A2.st, .int .i64 A2.iss, .int .i64 A2.una, .int .i64 A2.rcv, .string A2.wait, .int .i64 A2.sent, .int .i64 A2.fin, .bool A2.pf, .string A2.inn, .slice va' A2.late.length vc', .bool A2.owe, .int .i64 A2.due, .int .i64 A2.times]) (by simp only [execOp, h4, h78, hst, Sem.run_bind, Sem.run_pure, Result.andThen_ok]) ⟨⟨va', vc', store_block hb1 _⟩, ⟨below_setRow hC.1 (by omega) _, block_setRow hC.2.1 (by omega) _, block_setRow hC.2.2 (fun e => by subst e; exact absurd (block_one hb1 hC.2.2).1 (by decide)) _⟩, by simp [World.setRow], fun p ty cs hp hne => block_setRow hp (fun e => hne rfl e.symm) _⟩
      · intro vs wE hC hI hg
        obtain ⟨va', vc', h8⟩ := hg 5 (by decide) (fun k => by simp)
        clear hg hI
        simp only [List.size_toArray, List.length_cons, List.length_nil, Nat.zero_add, Nat.reduceAdd]
        simp only [laidBy, if_true, dstAt, List.getElem?_toArray, List.getElem?_cons_succ, List.getElem?_cons_zero, Option.bind_some]
        simp only [Act.put, List.setIfInBounds_toArray, List.set_cons_succ, List.set_cons_zero]
        go_wp2_with fail
        go_meet
        exact ⟨va', vc', hC.1, hC.2.1, h8⟩
    case rest =>
      obtain ⟨vh14, vk14, HC⟩ := hcut
      have B_12 := hid HC.out.1
      have XB_12 := hid HC.out.2.1
      have XA_12 := hid HC.out.2.2
      clear HC
      go_wp2_with (first | (refine wpList_load_str XA_12.out rfl rfl _ rfl rfl ?_) | fail)
      refine Calls.mono (CPA2.out _ _ _) ?_
      rintro e w13 ⟨va13, vc13, sa13, sq13, rfl, hs13, b13⟩
      have Q13 := hid hs13
      clear hs13
      have XA_13 := hid (XA_12.out.on b13 XA_12.out.lt)
      have XB_13 := hid (XB_12.out.on b13 XB_12.out.lt)
      have B_13 := hid (below_via B_12.out b13)
      clear b13 XA_12 XB_12 B_12
      obtain ⟨p3, rp3, ep3, _, _, hkp3⟩ := Q13.out.resolve_left (by decide)
      subst ep3
      have P3_13 := hid hkp3
      clear hkp3 Q13
      obtain ⟨V14, hV14⟩ : ∃ V, w13.setRow ba #[.int .i64 A3.st, .int .i64 A3.iss, .int .i64 A3.una, .int .i64 A3.rcv, .string A3.wait, .int .i64 A3.sent, .int .i64 A3.fin, .bool A3.pf, .string A3.inn, .slice va13 A3.late.length vc13, .bool A3.owe, .int .i64 A3.due, .int .i64 A3.times] = V := ⟨_, rfl⟩
      have XA_14 : Hid (BlockIs V14 ba 28 [.int .i64 A3.st, .int .i64 A3.iss, .int .i64 A3.una, .int .i64 A3.rcv, .string A3.wait, .int .i64 A3.sent, .int .i64 A3.fin, .bool A3.pf, .string A3.inn, .slice va13 A3.late.length vc13, .bool A3.owe, .int .i64 A3.due, .int .i64 A3.times]) := by rw [← hV14]; exact store_block XA_13.out _
      have XB_14 : Hid (BlockIs V14 bb 28 [.int .i64 B2.st, .int .i64 B2.iss, .int .i64 B2.una, .int .i64 B2.rcv, .string B2.wait, .int .i64 B2.sent, .int .i64 B2.fin, .bool B2.pf, .string B2.inn, .slice va11 B2.late.length vc11, .bool B2.owe, .int .i64 B2.due, .int .i64 B2.times]) := by rw [← hV14]; exact block_setRow XB_13.out (by omega) _
      have P3_14 : Hid (BlockIs V14 p3 36 (segCells [⟨addNum (addNum x 1) 0, addNum y 1, 2, ByteArray.empty⟩] ++ rp3)) := by rw [← hV14]; exact block_setRow P3_13.out (fun e => by subst e; exact absurd (block_one XA_13.out P3_13.out).1 (by decide)) _
      have B_14 : Hid (Below w.heap.size w V14) := by rw [← hV14]; exact below_setRow B_13.out (by omega) _
      go_upto_region 18 with (first | (refine wpList_store_str XA_13.out rfl rfl _ _ rfl _ rfl rfl rfl (strCells_all A3 _ _) ?_; rw [hV14]) | fail)
      go_cut [91] (fun _ wx => ∃ (va' : Option Addr) (vc' : Nat), Hid (Below w.heap.size w wx ∧ BlockIs wx ba 28 [.int .i64 A3.st, .int .i64 A3.iss, .int .i64 A3.una, .int .i64 A3.rcv, .string A3.wait, .int .i64 A3.sent, .int .i64 A3.fin, .bool A3.pf, .string A3.inn, .slice va13 A3.late.length vc13, .bool A3.owe, .int .i64 A3.due, .int .i64 A3.times] ∧ BlockIs wx bb 28 [.int .i64 B3.st, .int .i64 B3.iss, .int .i64 B3.una, .int .i64 B3.rcv, .string B3.wait, .int .i64 B3.sent, .int .i64 B3.fin, .bool B3.pf, .string B3.inn, .slice va' B3.late.length vc', .bool B3.owe, .int .i64 B3.due, .int .i64 B3.times]))
      case first =>
        refine wp_region_from (N := 124) (by kernel_rfl) (by kernel_rfl) rfl (by kernel_rfl) (fun W => Below w.heap.size w W ∧ BlockIs W ba 28 [.int .i64 A3.st, .int .i64 A3.iss, .int .i64 A3.una, .int .i64 A3.rcv, .string A3.wait, .int .i64 A3.sent, .int .i64 A3.fin, .bool A3.pf, .string A3.inn, .slice va13 A3.late.length vc13, .bool A3.owe, .int .i64 A3.due, .int .i64 A3.times] ∧ BlockIs W p3 36 (segCells [⟨addNum (addNum x 1) 0, addNum y 1, 2, ByteArray.empty⟩] ++ rp3)) (fun j v _ W => match j with | 0 => v = .agg #[.int .i64 B2.st, .int .i64 B2.iss, .int .i64 B2.una, .int .i64 B2.rcv, .string B2.wait, .int .i64 B2.sent, .int .i64 B2.fin, .bool B2.pf, .string B2.inn, .slice va11 B2.late.length vc11, .bool B2.owe, .int .i64 B2.due, .int .i64 B2.times] | 1 => v = .slice (some ⟨p3, 0, none⟩) 1 sq13 | 2 => v = .pointer (some ⟨p3, 0, none⟩) | 3 => v = .agg #[(Value.int .i64 (SegD.num ⟨addNum (addNum x 1) 0, addNum y 1, 2, ByteArray.empty⟩)), .int .i64 (SegD.ack ⟨addNum (addNum x 1) 0, addNum y 1, 2, ByteArray.empty⟩), .int .i64 (SegD.flags ⟨addNum (addNum x 1) 0, addNum y 1, 2, ByteArray.empty⟩), .string (SegD.body ⟨addNum (addNum x 1) 0, addNum y 1, 2, ByteArray.empty⟩)] | 4 => ∃ (va' : Option Addr) (vc' : Nat), v = .agg #[.int .i64 B3.st, .int .i64 B3.iss, .int .i64 B3.una, .int .i64 B3.rcv, .string B3.wait, .int .i64 B3.sent, .int .i64 B3.fin, .bool B3.pf, .string B3.inn, .slice va' B3.late.length vc', .bool B3.owe, .int .i64 B3.due, .int .i64 B3.times] | 5 => ∃ (va' : Option Addr) (vc' : Nat), BlockIs W bb 28 [.int .i64 B3.st, .int .i64 B3.iss, .int .i64 B3.una, .int .i64 B3.rcv, .string B3.wait, .int .i64 B3.sent, .int .i64 B3.fin, .bool B3.pf, .string B3.inn, .slice va' B3.late.length vc', .bool B3.owe, .int .i64 B3.due, .int .i64 B3.times] | _ => True) (fun i => i) (fun _ _ => false) (fun i x y => x.heap.size ≤ y.heap.size ∧ ∀ p ty cs, BlockIs x p ty cs → (i = 5 → p ≠ bb) → BlockIs y p ty cs) (fun q9 W => match q9 with | 0 => BlockIs W bb 28 [.int .i64 B2.st, .int .i64 B2.iss, .int .i64 B2.una, .int .i64 B2.rcv, .string B2.wait, .int .i64 B2.sent, .int .i64 B2.fin, .bool B2.pf, .string B2.inn, .slice va11 B2.late.length vc11, .bool B2.owe, .int .i64 B2.due, .int .i64 B2.times] | _ => True) (fun m k => decide ((m, k) ∈ ([(0, 5)] : List (Nat × Nat)))) ?_ (fun _ => 0) (by kernel_rfl) (fun _ _ => rfl) ?_ ⟨below_via B_14.out (below_drewN (Below.refl V14.heap.size V14) 1), XA_14.out.on (below_drewN (Below.refl V14.heap.size V14) 1) XA_14.out.lt, P3_14.out.on (below_drewN (Below.refl V14.heap.size V14) 1) P3_14.out.lt⟩ (fun q9 => match q9 with | 0 => XB_14.out.on (below_drewN (Below.refl V14.heap.size V14) 1) XB_14.out.lt | _ + 1 => trivial) ?_ ?_
        · intro i m x y hen hxy hm
          match m, hen, hm with
          | 0, hen, hm =>
            simp at hen
            exact hxy.2 _ _ _ hm (fun e => absurd e hen)
          | n + 1, _, _ => exact trivial
        · intro i j v u x y hij hdd hwt hxy hg
          match j, hg with
          | 0, hg => exact hg
          | 1, hg => exact hg
          | 2, hg => exact hg
          | 3, hg => exact hg
          | 4, hg =>
            exact hg
          | 5, hg =>
            obtain ⟨va', vc', hg⟩ := hg
            exact ⟨va', vc', hxy.2 _ _ _ hg (fun e => absurd e hij)⟩
          | n + 6, _ => exact trivial
        · refine ⟨?_, ?_, ?_, ?_, ?_, ?_, trivial⟩
          · intro A W hC hI hg hb
            have h6 : A.eval (.tmp 6) = .pointer (some ⟨bb, 0, none⟩) := hb 6 (base_of (by kernel_rfl))
            have hb1 : BlockIs W bb 28 [.int .i64 B2.st, .int .i64 B2.iss, .int .i64 B2.una, .int .i64 B2.rcv, .string B2.wait, .int .i64 B2.sent, .int .i64 B2.fin, .bool B2.pf, .string B2.inn, .slice va11 B2.late.length vc11, .bool B2.owe, .int .i64 B2.due, .int .i64 B2.times] := hI 0 (by kernel_rfl)
            exact does_value (v := .agg #[.int .i64 B2.st, .int .i64 B2.iss, .int .i64 B2.una, .int .i64 B2.rcv, .string B2.wait, .int .i64 B2.sent, .int .i64 B2.fin, .bool B2.pf, .string B2.inn, .slice va11 B2.late.length vc11, .bool B2.owe, .int .i64 B2.due, .int .i64 B2.times]) (w' := W) (by simp only [execOp, h6, load_str (cs := [.int .i64 B2.st, .int .i64 B2.iss, .int .i64 B2.una, .int .i64 B2.rcv, .string B2.wait, .int .i64 B2.sent, .int .i64 B2.fin, .bool B2.pf, .string B2.inn, .slice va11 B2.late.length vc11, .bool B2.owe, .int .i64 B2.due, .int .i64 B2.times]) (r := []) (by rw [List.append_nil]; exact hb1) rfl, Sem.run_bind, Sem.run_pure, Result.andThen_ok]) ⟨rfl, hC, Nat.le_refl _, fun _ _ _ h _ => h⟩
          · intro A W hC hI hg hb
            have h12 : A.eval (.tmp 12) = .slice (some ⟨p3, 0, none⟩) 1 sq13 := hb 12 (base_of (by kernel_rfl))
            exact does_value (v := .slice (some ⟨p3, 0, none⟩) 1 sq13) (w' := W) (by simp only [execOp, h12]; simp [go_sem]) ⟨rfl, hC, Nat.le_refl _, fun _ _ _ h _ => h⟩
          · intro A W hC hI hg hb
            have h88 : A.eval (.tmp 88) = .slice (some ⟨p3, 0, none⟩) 1 sq13 := hg 1 88 (by decide) rfl (by simp [Op.operands]) (by kernel_rfl) rfl
            exact does_value (v := .pointer (some ⟨p3, 0, none⟩)) (w' := W) (by simp only [execOp, h88]; simp [go_sem]) ⟨rfl, hC, Nat.le_refl _, fun _ _ _ h _ => h⟩
          · intro A W hC hI hg hb
            have h89 : A.eval (.tmp 89) = .pointer (some ⟨p3, 0, none⟩) := hg 2 89 (by decide) rfl (by simp [Op.operands]) (by kernel_rfl) rfl
            have hc0 := hC.2.2.cell (j := 0) rfl
            have hc1 := hC.2.2.cell (j := 1) rfl
            have hc2 := hC.2.2.cell (j := 2) rfl
            have hc3 := hC.2.2.cell (j := 3) rfl
            exact does_value (v := .agg #[(Value.int .i64 (SegD.num ⟨addNum (addNum x 1) 0, addNum y 1, 2, ByteArray.empty⟩)), .int .i64 (SegD.ack ⟨addNum (addNum x 1) 0, addNum y 1, 2, ByteArray.empty⟩), .int .i64 (SegD.flags ⟨addNum (addNum x 1) 0, addNum y 1, 2, ByteArray.empty⟩), .string (SegD.body ⟨addNum (addNum x 1) 0, addNum y 1, 2, ByteArray.empty⟩)]) (w' := W) (by simp only [execOp, h89]; simp [go_sem, hc0, hc1, hc2, hc3]) ⟨rfl, hC, Nat.le_refl _, fun _ _ _ h _ => h⟩
          · intro A W hC hI hg hb
            have h87 : A.eval (.tmp 87) = .agg #[.int .i64 B2.st, .int .i64 B2.iss, .int .i64 B2.una, .int .i64 B2.rcv, .string B2.wait, .int .i64 B2.sent, .int .i64 B2.fin, .bool B2.pf, .string B2.inn, .slice va11 B2.late.length vc11, .bool B2.owe, .int .i64 B2.due, .int .i64 B2.times] := hg 0 87 (by decide) rfl (by simp [Op.operands, Call.operands]) (by kernel_rfl) rfl
            have h90 : A.eval (.tmp 90) = .agg #[(Value.int .i64 (SegD.num ⟨addNum (addNum x 1) 0, addNum y 1, 2, ByteArray.empty⟩)), .int .i64 (SegD.ack ⟨addNum (addNum x 1) 0, addNum y 1, 2, ByteArray.empty⟩), .int .i64 (SegD.flags ⟨addNum (addNum x 1) 0, addNum y 1, 2, ByteArray.empty⟩), .string (SegD.body ⟨addNum (addNum x 1) 0, addNum y 1, 2, ByteArray.empty⟩)] := hg 3 90 (by decide) rfl (by simp [Op.operands, Call.operands]) (by kernel_rfl) rfl
            simp [go_sem] at h87 h90
            refine does_enter (f := 11) (args := #[.agg #[.int .i64 B2.st, .int .i64 B2.iss, .int .i64 B2.una, .int .i64 B2.rcv, .string B2.wait, .int .i64 B2.sent, .int .i64 B2.fin, .bool B2.pf, .string B2.inn, .slice va11 B2.late.length vc11, .bool B2.owe, .int .i64 B2.due, .int .i64 B2.times], .agg #[(Value.int .i64 (SegD.num ⟨addNum (addNum x 1) 0, addNum y 1, 2, ByteArray.empty⟩)), .int .i64 (SegD.ack ⟨addNum (addNum x 1) 0, addNum y 1, 2, ByteArray.empty⟩), .int .i64 (SegD.flags ⟨addNum (addNum x 1) 0, addNum y 1, 2, ByteArray.empty⟩), .string (SegD.body ⟨addNum (addNum x 1) 0, addNum y 1, 2, ByteArray.empty⟩)]]) (w' := W) (by simp [go_sem, h87, h90]) ?_
            refine (CHB2.out _ _ W).mono ?_
            rintro e W' ⟨va', vc', rfl, hb⟩
            exact ⟨_, rfl, ⟨va', vc', rfl⟩, ⟨below_via hC.1 hb, hC.2.1.on hb hC.2.1.lt, hC.2.2.on hb hC.2.2.lt⟩, hb.size, fun p ty cs h _ => h.on hb h.lt⟩
          · intro A W hC hI hg hb
            have h6 : A.eval (.tmp 6) = .pointer (some ⟨bb, 0, none⟩) := hb 6 (base_of (by kernel_rfl))
            have g4 := hg 4 91 (by decide) rfl (by simp [Op.operands]) (by kernel_rfl) rfl
            obtain ⟨va', vc', h91⟩ := g4
            have hb1 : BlockIs W bb 28 [.int .i64 B2.st, .int .i64 B2.iss, .int .i64 B2.una, .int .i64 B2.rcv, .string B2.wait, .int .i64 B2.sent, .int .i64 B2.fin, .bool B2.pf, .string B2.inn, .slice va11 B2.late.length vc11, .bool B2.owe, .int .i64 B2.due, .int .i64 B2.times] := hI 0 (by kernel_rfl)
            have hst := store_str hb1 rfl (A := #[.int .i64 B3.st, .int .i64 B3.iss, .int .i64 B3.una, .int .i64 B3.rcv, .string B3.wait, .int .i64 B3.sent, .int .i64 B3.fin, .bool B3.pf, .string B3.inn, .slice va' B3.late.length vc', .bool B3.owe, .int .i64 B3.due, .int .i64 B3.times]) rfl (strCells_all B3 _ _)
            exact does_skip (w' := W.setRow bb #[.int .i64 B3.st, .int .i64 B3.iss, .int .i64 B3.una, .int .i64 B3.rcv, .string B3.wait, .int .i64 B3.sent, .int .i64 B3.fin, .bool B3.pf, .string B3.inn, .slice va' B3.late.length vc', .bool B3.owe, .int .i64 B3.due, .int .i64 B3.times]) (by simp only [execOp, h6, h91, hst, Sem.run_bind, Sem.run_pure, Result.andThen_ok]) ⟨⟨va', vc', store_block hb1 _⟩, ⟨below_setRow hC.1 (by omega) _, block_setRow hC.2.1 (by omega) _, block_setRow hC.2.2 (fun e => by subst e; exact absurd (block_one hb1 hC.2.2).1 (by decide)) _⟩, by simp [World.setRow], fun p ty cs hp hne => block_setRow hp (fun e => hne rfl e.symm) _⟩
        · intro vs wE hC hI hg
          obtain ⟨va', vc', h8⟩ := hg 5 (by decide) (fun k => by simp)
          clear hg hI
          simp only [List.size_toArray, List.length_cons, List.length_nil, Nat.zero_add, Nat.reduceAdd]
          simp only [laidBy, if_true, dstAt, List.getElem?_toArray, List.getElem?_cons_succ, List.getElem?_cons_zero, Option.bind_some]
          simp only [Act.put, List.setIfInBounds_toArray, List.set_cons_succ, List.set_cons_zero]
          go_wp2_with fail
          go_meet
          exact ⟨va', vc', hC.1, hC.2.1, h8⟩
      case rest =>
        obtain ⟨vh18, vk18, HC⟩ := hcut
        have B_15 := hid HC.out.1
        have XA_15 := hid HC.out.2.1
        have XB_15 := hid HC.out.2.2
        clear HC
        have ca0 := XA_15.out.cell (j := 0) rfl
        have ca1 := XA_15.out.cell (j := 1) rfl
        have ca2 := XA_15.out.cell (j := 2) rfl
        have ca3 := XA_15.out.cell (j := 3) rfl
        have ca4 := XA_15.out.cell (j := 4) rfl
        have ca5 := XA_15.out.cell (j := 5) rfl
        have ca6 := XA_15.out.cell (j := 6) rfl
        have ca7 := XA_15.out.cell (j := 7) rfl
        have ca8 := XA_15.out.cell (j := 8) rfl
        have ca9 := XA_15.out.cell (j := 9) rfl
        have ca10 := XA_15.out.cell (j := 10) rfl
        have ca11 := XA_15.out.cell (j := 11) rfl
        have ca12 := XA_15.out.cell (j := 12) rfl
        have cb0 := XB_15.out.cell (j := 0) rfl
        have cb2 := XB_15.out.cell (j := 2) rfl
        have cb3 := XB_15.out.cell (j := 3) rfl
        obtain ⟨f1, f2, f3, f4, f5, f6⟩ := HFA.out
        have fb1 : (A3.st == 4) = true := by rw [beq_iff_eq]; exact f1
        have fb2 : (B3.st == 4) = true := by rw [beq_iff_eq]; exact f2
        have fb3 : (A3.rcv == B3.una) = true := by rw [beq_iff_eq]; exact f3
        have fb4 : (B3.rcv == A3.una) = true := by rw [beq_iff_eq]; exact f4
        have fb5 : (A3.inn.toList == []) = true := by rw [f5, beq_iff_eq, ByteArray.toList_eq]; rfl
        clear f1 f2 f3 f4 f5 f6 HFA
        go_wp2_with (first | (go_at_call 12; refine Calls.mono (CE.out _ _ _) ?_; rintro e w15 ⟨rfl, b15⟩; have BL := hid (below_via B_15.out b15); clear b15) | fail)
        go_ret
        exact ⟨rfl, BL.out⟩

theorem own : ownKnob Try.prog.godebug = none := by kernel_rfl
theorem laidOut : laidOutB Try.prog = true := by kernel_rfl
theorem rowed : varsRowed Try.prog Rows.fnGreetsSpec.vars = true := by kernel_rfl
set_option maxRecDepth 1000000 in
theorem contract (H : Type) (enc : TypeId × Value → H) (W : World) (base : Nat) (args : Array Value) (ds gs : List (DataW H)) (before : List MemPlace)
    (hval : ∀ (j : Nat) t v, Try.f3.params[j]? = some t → args[j]? = some v → Value.okWide Try.prog W .any base t v)
    (hW : DataW.Whole enc Try.prog Try.f3.params.toList Rows.fnGreetsSpec.vars false W args.toList ds gs before) (_hL : laidMetH Try.prog Rows.fnGreetsRow.laid W) :
    Calls Try.prog 3 args W fun e W' => ∃ v, e = .returned v ∧ Rows.fnGreetsSpec.post enc Try.prog Try.f3 false true false false W args v W' := by
  have hW' := hW
  obtain ⟨p, q, hA0, hV0, rfl, hfz, hnd⟩ := hW
  have hV : DataW.TrodVars enc Try.prog W (fun _ => true) Rows.fnGreetsSpec.vars gs q := hV0
  have hA : DataW.TrodAll enc Try.prog W 0 (fun _ => true) true Try.f3.params.toList args.toList ds p := hA0
  rw [Try.params3] at hA hval
  obtain ⟨v0, vs0, d0, ds0, p0, q0, hargs0, rfl, rfl, h0, r0⟩ := trodAll_cons hA
  obtain ⟨rfl, rfl, rfl⟩ := trodAll_nil r0
  obtain rfl : args = #[v0] := by cases args; simp_all
  obtain ⟨a0, len0, cap0, rfl⟩ := okWide_slice Try.underlying22 (hval 0 22 v0 rfl rfl)
  have k0 := h0
  have lt0 : ∀ x ∈ p0, x.block < W.heap.size := by obtain ⟨m, hm⟩ := k0; exact DataW.trod_lt m _ _ _ hm
  have hb0 : len0 ≤ cap0 ∧ Bytes W a0 len0 := by
    obtain ⟨fuel, hf⟩ := h0
    rcases open_ints Try.underlying22 Try.underlying5 (by kernel_rfl) hf with ⟨hcs, _⟩ | ⟨x, l, c, zs, hcs, _, hl, hm, hz, _, hcell, hwz⟩
    · simp [Value.cells] at hcs
      obtain ⟨rfl, rfl, rfl⟩ := hcs
      exact ⟨Nat.le_refl _, fun h => by omega⟩
    · simp [Value.cells] at hcs
      obtain ⟨rfl, rfl, rfl⟩ := hcs
      refine ⟨hl, fun hp => ?_⟩
      have hzl : zs.length = cap0 := by simpa using hz
      obtain ⟨b, off, rfl, hc⟩ := ints_at hcell (by omega)
      refine ⟨b, off, rfl, fun j hj => ?_⟩
      have hjz : j < zs.length := by omega
      have hb8 := bounds_u8 (hwz (zs.getD j 0) (by simp [List.getD, hjz]))
      exact ⟨zs.getD j 0, hb8.1, hb8.2, hc j hjz⟩
  clear hA0 hV0
  obtain ⟨rfl, rfl⟩ := trodVars_none hV
  refine (walk a0 len0 cap0 hb0.1 W hb0.2).mono fun e W' ⟨he, bel⟩ => ?_
  subst he
  exact ⟨_, rfl, _, _, _, [], _, [], hW', trodAll_mk1 (shut_bool Try.underlying4 _), trodAll_cons_mk (Below.trod laidOut (by kernel_rfl) (of_decide_eq_true (by kernel_rfl)) k0 bel lt0) (trodAll_mk0), rfl, bel.frame _, fun h => by cases h⟩

def put (cs : Array Value) : Obj → Obj
  | .cells _ t frozen => .cells cs t frozen
  | o => o

/-- a world for the witness: the tables hold what their initialisers lay -/
def laidWorld (w : World) : World := { w with heap := w.heap }
theorem laid_met (os : Os) : laidMet Try.prog Rows.fnGreetsRow.laid ((laidWorld (World.holding Try.prog os ⟨#[], #[], []⟩)).forCall (fun _ _ => 0) ⟨#[], #[.slice none 0 0], []⟩).memory :=
  laidMet_of_run' 8 (by kernel_rfl) (by kernel_rfl)
theorem reads (os : Os) {H : Type} (enc : TypeId × Value → H) : ∃ places, DataW.whole enc Try.prog ((laidWorld (World.holding Try.prog os ⟨#[], #[], []⟩)).forCall (fun _ _ => 0) ⟨#[], #[.slice none 0 0], []⟩).memory Try.f3.params.toList Rows.fnGreetsSpec.vars false #[Value.slice none 0 0].toList 8 = some ([.nil], [], places) :=
  ⟨[], by kernel_rfl⟩

set_option maxRecDepth 1000000 in
theorem lifted (os : Os) (started : os.Started) (H : Type) (enc : TypeId × Value → H) (F : Stop.Interp) :
    ReturnsInHanded {} Try.checked os 3 .any ((OpenSpec.ofChange Rows.fnGreetsSpec).preRow enc Try.prog Try.f3 Rows.fnGreetsRow.domain false Rows.fnGreetsRow.laid) (((OpenSpec.ofChange Rows.fnGreetsSpec).at F).post enc Try.prog Try.f3 false true false false) := by
  obtain ⟨places, hx⟩ := reads os enc
  refine returnsInHanded_of_row (C := Try.checked) (s := OpenSpec.ofChange Rows.fnGreetsSpec) own started (by kernel_rfl) Try.func3
    (witness_row_at (enc := enc) (C := Try.checked) false (laidWorld (World.holding Try.prog os ⟨#[], #[], []⟩)) #[.slice none 0 0] rfl (by kernel_rfl) (by kernel_rfl) (by kernel_rfl)
      (OpenSpec.preRow_of_cond 8 hx (by kernel_rfl) (fun k hk => by cases hk) (by kernel_rfl) (laid_met os))) ?_
  intro W base args ds gs before hval hW _ _ _ hL _ _
  exact contract H enc W base args ds gs before hval hW hL

theorem said : Rows.FnGreetsSaid :=
  OpenClaim.holds_of_cond 3 Try.f3 rfl rfl rfl rfl rfl rfl rfl ⟨rfl, rfl, rfl, rfl, rfl⟩ rfl rfl rfl rfl rfl (by kernel_rfl) Try.func3 (by kernel_rfl)
    (of_decide_eq_true (by kernel_rfl)) (by unfold Func.isWrapper; first | (rw [if_pos (by decide +kernel)]; kernel_rfl) | (rw [if_neg (by decide +kernel)]; exact ⟨rfl, rfl⟩))
    (fun os started H enc _ F => by rw [OpenClaim.pre_eq_preRow]; exact lifted os started H enc F)

end Go.Proofs.Yteokpbgjkjdjbaa.fnGreets
