/-
  For every slice of bytes, laws.FnRingsTold returns true: what impl tells of a drawn ring, right or not, is what spec tells; what is refused changes nothing; nothing that was in memory is written.
-/
import Derived.Test.YtbajffpkfjkolaaRows
import Derived.Test.YtbajffpkfjkolaaDrawPostS
import Derived.Test.YtbajffpkfjkolaaPostI
import Derived.Test.YtbajffpkfjkolaaTakeRingI
import Derived.Test.YtbajffpkfjkolaaRingOkI
import Derived.Test.YtbajffpkfjkolaaHeldByI
import Derived.Test.YtbajffpkfjkolaaHeldByS
import Derived.Test.YtbajffpkfjkolaaRingNewI
import Derived.Test.YtbajffpkfjkolaaPostS
import Derived.Test.YtbajffpkfjkolaaTakeRingS
import Derived.Test.YtbajffpkfjkolaaRingOkS
import Derived.BigQuiet
import Derived.Lib.QuietBelow
import Derived.WalkSmall
import Derived.WalkKit
import Derived.ProofKit
import Derived.OpenShut
import Derived.OpenVars
import Derived.Deep.DeepHandedRow
import Derived.Lib.LaidTab
import Derived.Stop.LaidErr
namespace Go.Proofs.Ytbajffpkfjkolaa.fnRingsTold
open Go.ChangeShapes Go.WideShapes Go.ChangeAt Go.ChangeMaps Go.RowKit

set_option maxRecDepth 1000000 in
set_option maxHeartbeats 8000000 in
open Go.Sort in
theorem walk (ao : Option Addr) (len cap : Nat) (hcap : len ≤ cap) (w : World) (hr : Bytes w ao len) :
    Calls Try.prog 4 #[.slice ao len cap] w fun e w' => e = .returned (.bool true) ∧ Below w.heap.size w w' := by
  have HBY := hid hr
  clear hr
  by_cases hbig : 1048576 < len
  · go_enter Try.func4, Try.ntmps4
    go_wp2
    go_ret
    exact ⟨rfl, Below.refl _ _⟩
  have hlen : len ≤ 1048576 := by omega
  clear hbig
  have B := hid (Below.refl w.heap.size w)
  have O0 := hid (Nat.le_refl w.heap.size)
  go_enter Try.func4, Try.ntmps4
  go_wp2_with fail
  refine (big_no ao len cap hlen _).mono ?_
  rintro e w0 ⟨rfl, hw0⟩
  rw [hw0]
  clear hw0 w0
  go_wp2_with fail
  refine Calls.mono (drawPost_any ao len cap hlen hcap _ HBY.out) ?_
  rintro e w1 ⟨s, t, l, va, vc, x, rfl, hs, ht, hl, hsm, hx, h1, b1⟩
  have O1 := hid b1.size
  have Y1 := hid h1.slots
  clear h1
  have HSM := hid hsm
  clear hsm
  have B_1 := hid (below_via B.out b1)
  clear b1 B
  have ba := below_more (Below.refl w1.heap.size w1) (.cells #[.slice va l.length vc, .int .i64 s, .int .i64 t] 26)
  have hx : BlockIs (w1.alloc (.cells #[.slice va l.length vc, .int .i64 s, .int .i64 t] 26)) w1.heap.size 26 [.slice va l.length vc, .int .i64 s, .int .i64 t] := heap_alloc_new w1 _
  have B_1a := hid (below_via B_1.out ba)
  have Y1_1a := hid (Y1.out.on ba)
  have X_r_1a := hid hx
  have O1a := hid hx.lt
  clear ba hx B_1 Y1
  have cX_r0_1a := X_r_1a.out.cell (j := 0) rfl
  have cX_r1_1a := X_r_1a.out.cell (j := 1) rfl
  have cX_r2_1a := X_r_1a.out.cell (j := 2) rfl
  obtain ⟨hs0, hs1⟩ := hs
  obtain ⟨ht0, ht1⟩ := ht
  obtain ⟨PL, hPL⟩ : ∃ y, postL l s t x = y := ⟨_, rfl⟩
  obtain ⟨PH, hPH⟩ : ∃ y, postH l s t x = y := ⟨_, rfl⟩
  obtain ⟨PK, hPK⟩ : ∃ y, postOk l s t x = y := ⟨_, rfl⟩
  obtain ⟨TL, hTL⟩ : ∃ y, takeL l s t = y := ⟨_, rfl⟩
  obtain ⟨TT, hTT⟩ : ∃ y, takeT l s t = y := ⟨_, rfl⟩
  obtain ⟨TS, hTS⟩ : ∃ y, takeS l s t = y := ⟨_, rfl⟩
  obtain ⟨TK, hTK⟩ : ∃ y, takeOk l s t = y := ⟨_, rfl⟩
  obtain ⟨RK, hRK⟩ : ∃ y, ringOk l s t = y := ⟨_, rfl⟩
  have hPLl : PL.length = l.length := by rw [← hPL, postL_length]
  have hTLl : TL.length = l.length := by rw [← hTL, takeL_length]
  have hPHf : PK = false → PH = s := by intro h; rw [← hPH]; unfold postH; rw [hPK, h]; rfl
  have hTTf : TK = false → TT = t := by intro h; rw [← hTT]; unfold takeT; rw [hTK, h]; rfl
  have CQ := hid (implPost_any s t va l vc (by omega) HSM.out x (by omega) (w1.alloc (.cells #[.slice va l.length vc, .int .i64 s, .int .i64 t] 26)) Y1_1a.out)
  unfold PostRDid at CQ
  rw [hPL, hPH, hPK, hPLl] at CQ
  go_wp2_with fail
  refine Calls.mono (CQ.out) ?_
  rintro e w2 ⟨v2, c2, rfl, _, _, b2⟩
  have O2 := hid b2.size
  clear CQ
  have B_2 := hid (below_via B_1a.out b2)
  have Y1_2 := hid (Y1_1a.out.on b2)
  have X_r_2 := hid (X_r_1a.out.on b2 X_r_1a.out.lt)
  clear b2 B_1a Y1_1a X_r_1a cX_r0_1a cX_r1_1a cX_r2_1a
  have cX_r0_2 := X_r_2.out.cell (j := 0) rfl
  have cX_r1_2 := X_r_2.out.cell (j := 1) rfl
  have cX_r2_2 := X_r_2.out.cell (j := 2) rfl
  have ba := below_more (Below.refl w2.heap.size w2) (.cells #[.slice v2 l.length c2, .int .i64 PH, .int .i64 t] 26)
  have hx : BlockIs (w2.alloc (.cells #[.slice v2 l.length c2, .int .i64 PH, .int .i64 t] 26)) w2.heap.size 26 [.slice v2 l.length c2, .int .i64 PH, .int .i64 t] := heap_alloc_new w2 _
  have B_2a := hid (below_via B_2.out ba)
  have Y1_2a := hid (Y1_2.out.on ba)
  have X_r_2a := hid (X_r_2.out.on ba X_r_2.out.lt)
  have X_a_2a := hid hx
  have O2a := hid hx.lt
  clear ba hx B_2 Y1_2 X_r_2
  have cX_r0_2a := X_r_2a.out.cell (j := 0) rfl
  have cX_r1_2a := X_r_2a.out.cell (j := 1) rfl
  have cX_r2_2a := X_r_2a.out.cell (j := 2) rfl
  have cX_a0_2a := X_a_2a.out.cell (j := 0) rfl
  have cX_a1_2a := X_a_2a.out.cell (j := 1) rfl
  have cX_a2_2a := X_a_2a.out.cell (j := 2) rfl
  have CQ := hid (specPost_any s t (by omega) (by omega) va l vc (by omega) HSM.out x (by omega) (w2.alloc (.cells #[.slice v2 l.length c2, .int .i64 PH, .int .i64 t] 26)) Y1_2a.out)
  unfold PostRDid at CQ
  rw [hPL, hPH, hPK, hPLl] at CQ
  go_wp2_with fail
  refine Calls.mono (CQ.out) ?_
  rintro e w3 ⟨v3, c3, rfl, _, _, b3⟩
  have O3 := hid b3.size
  clear CQ
  have B_3 := hid (below_via B_2a.out b3)
  have Y1_3 := hid (Y1_2a.out.on b3)
  have X_r_3 := hid (X_r_2a.out.on b3 X_r_2a.out.lt)
  have X_a_3 := hid (X_a_2a.out.on b3 X_a_2a.out.lt)
  clear b3 B_2a Y1_2a X_r_2a X_a_2a cX_r0_2a cX_r1_2a cX_r2_2a cX_a0_2a cX_a1_2a cX_a2_2a cX_r0_2 cX_r1_2 cX_r2_2
  have cX_r0_3 := X_r_3.out.cell (j := 0) rfl
  have cX_r1_3 := X_r_3.out.cell (j := 1) rfl
  have cX_r2_3 := X_r_3.out.cell (j := 2) rfl
  have cX_a0_3 := X_a_3.out.cell (j := 0) rfl
  have cX_a1_3 := X_a_3.out.cell (j := 1) rfl
  have cX_a2_3 := X_a_3.out.cell (j := 2) rfl
  have ba := below_more (Below.refl w3.heap.size w3) (.cells #[.slice v3 l.length c3, .int .i64 PH, .int .i64 t] 26)
  have hx : BlockIs (w3.alloc (.cells #[.slice v3 l.length c3, .int .i64 PH, .int .i64 t] 26)) w3.heap.size 26 [.slice v3 l.length c3, .int .i64 PH, .int .i64 t] := heap_alloc_new w3 _
  have B_3a := hid (below_via B_3.out ba)
  have Y1_3a := hid (Y1_3.out.on ba)
  have X_r_3a := hid (X_r_3.out.on ba X_r_3.out.lt)
  have X_a_3a := hid (X_a_3.out.on ba X_a_3.out.lt)
  have X_b_3a := hid hx
  have O3a := hid hx.lt
  clear ba hx B_3 Y1_3 X_r_3 X_a_3
  have cX_r0_3a := X_r_3a.out.cell (j := 0) rfl
  have cX_r1_3a := X_r_3a.out.cell (j := 1) rfl
  have cX_r2_3a := X_r_3a.out.cell (j := 2) rfl
  have cX_a0_3a := X_a_3a.out.cell (j := 0) rfl
  have cX_a1_3a := X_a_3a.out.cell (j := 1) rfl
  have cX_a2_3a := X_a_3a.out.cell (j := 2) rfl
  have cX_b0_3a := X_b_3a.out.cell (j := 0) rfl
  have cX_b1_3a := X_b_3a.out.cell (j := 1) rfl
  have cX_b2_3a := X_b_3a.out.cell (j := 2) rfl
  have CQ := hid (implTake_any s t va l vc (by omega) HSM.out (w3.alloc (.cells #[.slice v3 l.length c3, .int .i64 PH, .int .i64 t] 26)) Y1_3a.out)
  unfold TakeRDid at CQ
  rw [hTL, hTT, hTS, hTK, hTLl] at CQ
  go_wp2_with fail
  refine Calls.mono (CQ.out) ?_
  rintro e w4 ⟨v4, c4, rfl, _, _, b4⟩
  have O4 := hid b4.size
  clear CQ
  have B_4 := hid (below_via B_3a.out b4)
  have Y1_4 := hid (Y1_3a.out.on b4)
  have X_r_4 := hid (X_r_3a.out.on b4 X_r_3a.out.lt)
  have X_a_4 := hid (X_a_3a.out.on b4 X_a_3a.out.lt)
  have X_b_4 := hid (X_b_3a.out.on b4 X_b_3a.out.lt)
  clear b4 B_3a Y1_3a X_r_3a X_a_3a X_b_3a cX_r0_3a cX_r1_3a cX_r2_3a cX_a0_3a cX_a1_3a cX_a2_3a cX_b0_3a cX_b1_3a cX_b2_3a cX_r0_3 cX_r1_3 cX_r2_3 cX_a0_3 cX_a1_3 cX_a2_3
  have cX_r0_4 := X_r_4.out.cell (j := 0) rfl
  have cX_r1_4 := X_r_4.out.cell (j := 1) rfl
  have cX_r2_4 := X_r_4.out.cell (j := 2) rfl
  have cX_a0_4 := X_a_4.out.cell (j := 0) rfl
  have cX_a1_4 := X_a_4.out.cell (j := 1) rfl
  have cX_a2_4 := X_a_4.out.cell (j := 2) rfl
  have cX_b0_4 := X_b_4.out.cell (j := 0) rfl
  have cX_b1_4 := X_b_4.out.cell (j := 1) rfl
  have cX_b2_4 := X_b_4.out.cell (j := 2) rfl
  have ba := below_more (Below.refl w4.heap.size w4) (.cells #[.slice v4 l.length c4, .int .i64 s, .int .i64 TT] 26)
  have hx : BlockIs (w4.alloc (.cells #[.slice v4 l.length c4, .int .i64 s, .int .i64 TT] 26)) w4.heap.size 26 [.slice v4 l.length c4, .int .i64 s, .int .i64 TT] := heap_alloc_new w4 _
  have B_4a := hid (below_via B_4.out ba)
  have Y1_4a := hid (Y1_4.out.on ba)
  have X_r_4a := hid (X_r_4.out.on ba X_r_4.out.lt)
  have X_a_4a := hid (X_a_4.out.on ba X_a_4.out.lt)
  have X_b_4a := hid (X_b_4.out.on ba X_b_4.out.lt)
  have X_c_4a := hid hx
  have O4a := hid hx.lt
  clear ba hx B_4 Y1_4 X_r_4 X_a_4 X_b_4
  have cX_r0_4a := X_r_4a.out.cell (j := 0) rfl
  have cX_r1_4a := X_r_4a.out.cell (j := 1) rfl
  have cX_r2_4a := X_r_4a.out.cell (j := 2) rfl
  have cX_a0_4a := X_a_4a.out.cell (j := 0) rfl
  have cX_a1_4a := X_a_4a.out.cell (j := 1) rfl
  have cX_a2_4a := X_a_4a.out.cell (j := 2) rfl
  have cX_b0_4a := X_b_4a.out.cell (j := 0) rfl
  have cX_b1_4a := X_b_4a.out.cell (j := 1) rfl
  have cX_b2_4a := X_b_4a.out.cell (j := 2) rfl
  have cX_c0_4a := X_c_4a.out.cell (j := 0) rfl
  have cX_c1_4a := X_c_4a.out.cell (j := 1) rfl
  have cX_c2_4a := X_c_4a.out.cell (j := 2) rfl
  have CQ := hid (specTake_any s t (by omega) (by omega) va l vc (by omega) HSM.out (w4.alloc (.cells #[.slice v4 l.length c4, .int .i64 s, .int .i64 TT] 26)) Y1_4a.out)
  unfold TakeRDid at CQ
  rw [hTL, hTT, hTS, hTK, hTLl] at CQ
  go_wp2_with fail
  refine Calls.mono (CQ.out) ?_
  rintro e w5 ⟨v5, c5, rfl, _, _, b5⟩
  have O5 := hid b5.size
  clear CQ
  have B_5 := hid (below_via B_4a.out b5)
  have Y1_5 := hid (Y1_4a.out.on b5)
  have X_r_5 := hid (X_r_4a.out.on b5 X_r_4a.out.lt)
  have X_a_5 := hid (X_a_4a.out.on b5 X_a_4a.out.lt)
  have X_b_5 := hid (X_b_4a.out.on b5 X_b_4a.out.lt)
  have X_c_5 := hid (X_c_4a.out.on b5 X_c_4a.out.lt)
  clear b5 B_4a Y1_4a X_r_4a X_a_4a X_b_4a X_c_4a cX_r0_4a cX_r1_4a cX_r2_4a cX_a0_4a cX_a1_4a cX_a2_4a cX_b0_4a cX_b1_4a cX_b2_4a cX_c0_4a cX_c1_4a cX_c2_4a cX_r0_4 cX_r1_4 cX_r2_4 cX_a0_4 cX_a1_4 cX_a2_4 cX_b0_4 cX_b1_4 cX_b2_4
  have cX_r0_5 := X_r_5.out.cell (j := 0) rfl
  have cX_r1_5 := X_r_5.out.cell (j := 1) rfl
  have cX_r2_5 := X_r_5.out.cell (j := 2) rfl
  have cX_a0_5 := X_a_5.out.cell (j := 0) rfl
  have cX_a1_5 := X_a_5.out.cell (j := 1) rfl
  have cX_a2_5 := X_a_5.out.cell (j := 2) rfl
  have cX_b0_5 := X_b_5.out.cell (j := 0) rfl
  have cX_b1_5 := X_b_5.out.cell (j := 1) rfl
  have cX_b2_5 := X_b_5.out.cell (j := 2) rfl
  have cX_c0_5 := X_c_5.out.cell (j := 0) rfl
  have cX_c1_5 := X_c_5.out.cell (j := 1) rfl
  have cX_c2_5 := X_c_5.out.cell (j := 2) rfl
  have ba := below_more (Below.refl w5.heap.size w5) (.cells #[.slice v5 l.length c5, .int .i64 s, .int .i64 TT] 26)
  have hx : BlockIs (w5.alloc (.cells #[.slice v5 l.length c5, .int .i64 s, .int .i64 TT] 26)) w5.heap.size 26 [.slice v5 l.length c5, .int .i64 s, .int .i64 TT] := heap_alloc_new w5 _
  have B_5a := hid (below_via B_5.out ba)
  have Y1_5a := hid (Y1_5.out.on ba)
  have X_r_5a := hid (X_r_5.out.on ba X_r_5.out.lt)
  have X_a_5a := hid (X_a_5.out.on ba X_a_5.out.lt)
  have X_b_5a := hid (X_b_5.out.on ba X_b_5.out.lt)
  have X_c_5a := hid (X_c_5.out.on ba X_c_5.out.lt)
  have X_d_5a := hid hx
  have O5a := hid hx.lt
  clear ba hx B_5 Y1_5 X_r_5 X_a_5 X_b_5 X_c_5
  have cX_r0_5a := X_r_5a.out.cell (j := 0) rfl
  have cX_r1_5a := X_r_5a.out.cell (j := 1) rfl
  have cX_r2_5a := X_r_5a.out.cell (j := 2) rfl
  have cX_a0_5a := X_a_5a.out.cell (j := 0) rfl
  have cX_a1_5a := X_a_5a.out.cell (j := 1) rfl
  have cX_a2_5a := X_a_5a.out.cell (j := 2) rfl
  have cX_b0_5a := X_b_5a.out.cell (j := 0) rfl
  have cX_b1_5a := X_b_5a.out.cell (j := 1) rfl
  have cX_b2_5a := X_b_5a.out.cell (j := 2) rfl
  have cX_c0_5a := X_c_5a.out.cell (j := 0) rfl
  have cX_c1_5a := X_c_5a.out.cell (j := 1) rfl
  have cX_c2_5a := X_c_5a.out.cell (j := 2) rfl
  have cX_d0_5a := X_d_5a.out.cell (j := 0) rfl
  have cX_d1_5a := X_d_5a.out.cell (j := 1) rfl
  have cX_d2_5a := X_d_5a.out.cell (j := 2) rfl
  have CQ := hid (implNew_any 3 (w5.alloc (.cells #[.slice v5 l.length c5, .int .i64 s, .int .i64 TT] 26)))
  unfold NewDid at CQ
  rw [show newL 3 = List.replicate 3 slot0 from rfl, show newOk 3 = true from rfl, List.length_replicate] at CQ
  go_wp2_with fail
  refine Calls.mono (CQ.out) ?_
  rintro e w6 ⟨v6, c6, rfl, _, _, b6⟩
  have O6 := hid b6.size
  clear CQ
  have B_6 := hid (below_via B_5a.out b6)
  have Y1_6 := hid (Y1_5a.out.on b6)
  have X_r_6 := hid (X_r_5a.out.on b6 X_r_5a.out.lt)
  have X_a_6 := hid (X_a_5a.out.on b6 X_a_5a.out.lt)
  have X_b_6 := hid (X_b_5a.out.on b6 X_b_5a.out.lt)
  have X_c_6 := hid (X_c_5a.out.on b6 X_c_5a.out.lt)
  have X_d_6 := hid (X_d_5a.out.on b6 X_d_5a.out.lt)
  clear b6 B_5a Y1_5a X_r_5a X_a_5a X_b_5a X_c_5a X_d_5a cX_r0_5a cX_r1_5a cX_r2_5a cX_a0_5a cX_a1_5a cX_a2_5a cX_b0_5a cX_b1_5a cX_b2_5a cX_c0_5a cX_c1_5a cX_c2_5a cX_d0_5a cX_d1_5a cX_d2_5a cX_r0_5 cX_r1_5 cX_r2_5 cX_a0_5 cX_a1_5 cX_a2_5 cX_b0_5 cX_b1_5 cX_b2_5 cX_c0_5 cX_c1_5 cX_c2_5
  have cX_r0_6 := X_r_6.out.cell (j := 0) rfl
  have cX_r1_6 := X_r_6.out.cell (j := 1) rfl
  have cX_r2_6 := X_r_6.out.cell (j := 2) rfl
  have cX_a0_6 := X_a_6.out.cell (j := 0) rfl
  have cX_a1_6 := X_a_6.out.cell (j := 1) rfl
  have cX_a2_6 := X_a_6.out.cell (j := 2) rfl
  have cX_b0_6 := X_b_6.out.cell (j := 0) rfl
  have cX_b1_6 := X_b_6.out.cell (j := 1) rfl
  have cX_b2_6 := X_b_6.out.cell (j := 2) rfl
  have cX_c0_6 := X_c_6.out.cell (j := 0) rfl
  have cX_c1_6 := X_c_6.out.cell (j := 1) rfl
  have cX_c2_6 := X_c_6.out.cell (j := 2) rfl
  have cX_d0_6 := X_d_6.out.cell (j := 0) rfl
  have cX_d1_6 := X_d_6.out.cell (j := 1) rfl
  have cX_d2_6 := X_d_6.out.cell (j := 2) rfl
  have ba := below_more (Below.refl w6.heap.size w6) (.cells #[.slice v6 3 c6, .int .i64 0, .int .i64 0] 26)
  have hx : BlockIs (w6.alloc (.cells #[.slice v6 3 c6, .int .i64 0, .int .i64 0] 26)) w6.heap.size 26 [.slice v6 3 c6, .int .i64 0, .int .i64 0] := heap_alloc_new w6 _
  have B_6a := hid (below_via B_6.out ba)
  have Y1_6a := hid (Y1_6.out.on ba)
  have X_r_6a := hid (X_r_6.out.on ba X_r_6.out.lt)
  have X_a_6a := hid (X_a_6.out.on ba X_a_6.out.lt)
  have X_b_6a := hid (X_b_6.out.on ba X_b_6.out.lt)
  have X_c_6a := hid (X_c_6.out.on ba X_c_6.out.lt)
  have X_d_6a := hid (X_d_6.out.on ba X_d_6.out.lt)
  have X_n_6a := hid hx
  have O6a := hid hx.lt
  clear ba hx B_6 Y1_6 X_r_6 X_a_6 X_b_6 X_c_6 X_d_6
  have cX_r0_6a := X_r_6a.out.cell (j := 0) rfl
  have cX_r1_6a := X_r_6a.out.cell (j := 1) rfl
  have cX_r2_6a := X_r_6a.out.cell (j := 2) rfl
  have cX_a0_6a := X_a_6a.out.cell (j := 0) rfl
  have cX_a1_6a := X_a_6a.out.cell (j := 1) rfl
  have cX_a2_6a := X_a_6a.out.cell (j := 2) rfl
  have cX_b0_6a := X_b_6a.out.cell (j := 0) rfl
  have cX_b1_6a := X_b_6a.out.cell (j := 1) rfl
  have cX_b2_6a := X_b_6a.out.cell (j := 2) rfl
  have cX_c0_6a := X_c_6a.out.cell (j := 0) rfl
  have cX_c1_6a := X_c_6a.out.cell (j := 1) rfl
  have cX_c2_6a := X_c_6a.out.cell (j := 2) rfl
  have cX_d0_6a := X_d_6a.out.cell (j := 0) rfl
  have cX_d1_6a := X_d_6a.out.cell (j := 1) rfl
  have cX_d2_6a := X_d_6a.out.cell (j := 2) rfl
  have cX_n0_6a := X_n_6a.out.cell (j := 0) rfl
  have cX_n1_6a := X_n_6a.out.cell (j := 1) rfl
  have cX_n2_6a := X_n_6a.out.cell (j := 2) rfl
  have CQ := hid (implNew_any 9 (w6.alloc (.cells #[.slice v6 3 c6, .int .i64 0, .int .i64 0] 26)))
  unfold NewDid at CQ
  rw [show newL 9 = [] from rfl, show newOk 9 = false from rfl, List.length_nil] at CQ
  go_wp2_with fail
  refine Calls.mono (CQ.out) ?_
  rintro e w7 ⟨v7, c7, rfl, _, _, b7⟩
  have O7 := hid b7.size
  clear CQ
  have B_7 := hid (below_via B_6a.out b7)
  have Y1_7 := hid (Y1_6a.out.on b7)
  have X_r_7 := hid (X_r_6a.out.on b7 X_r_6a.out.lt)
  have X_a_7 := hid (X_a_6a.out.on b7 X_a_6a.out.lt)
  have X_b_7 := hid (X_b_6a.out.on b7 X_b_6a.out.lt)
  have X_c_7 := hid (X_c_6a.out.on b7 X_c_6a.out.lt)
  have X_d_7 := hid (X_d_6a.out.on b7 X_d_6a.out.lt)
  have X_n_7 := hid (X_n_6a.out.on b7 X_n_6a.out.lt)
  clear b7 B_6a Y1_6a X_r_6a X_a_6a X_b_6a X_c_6a X_d_6a X_n_6a cX_r0_6a cX_r1_6a cX_r2_6a cX_a0_6a cX_a1_6a cX_a2_6a cX_b0_6a cX_b1_6a cX_b2_6a cX_c0_6a cX_c1_6a cX_c2_6a cX_d0_6a cX_d1_6a cX_d2_6a cX_n0_6a cX_n1_6a cX_n2_6a cX_r0_6 cX_r1_6 cX_r2_6 cX_a0_6 cX_a1_6 cX_a2_6 cX_b0_6 cX_b1_6 cX_b2_6 cX_c0_6 cX_c1_6 cX_c2_6 cX_d0_6 cX_d1_6 cX_d2_6
  have cX_r0_7 := X_r_7.out.cell (j := 0) rfl
  have cX_r1_7 := X_r_7.out.cell (j := 1) rfl
  have cX_r2_7 := X_r_7.out.cell (j := 2) rfl
  have cX_a0_7 := X_a_7.out.cell (j := 0) rfl
  have cX_a1_7 := X_a_7.out.cell (j := 1) rfl
  have cX_a2_7 := X_a_7.out.cell (j := 2) rfl
  have cX_b0_7 := X_b_7.out.cell (j := 0) rfl
  have cX_b1_7 := X_b_7.out.cell (j := 1) rfl
  have cX_b2_7 := X_b_7.out.cell (j := 2) rfl
  have cX_c0_7 := X_c_7.out.cell (j := 0) rfl
  have cX_c1_7 := X_c_7.out.cell (j := 1) rfl
  have cX_c2_7 := X_c_7.out.cell (j := 2) rfl
  have cX_d0_7 := X_d_7.out.cell (j := 0) rfl
  have cX_d1_7 := X_d_7.out.cell (j := 1) rfl
  have cX_d2_7 := X_d_7.out.cell (j := 2) rfl
  have cX_n0_7 := X_n_7.out.cell (j := 0) rfl
  have cX_n1_7 := X_n_7.out.cell (j := 1) rfl
  have cX_n2_7 := X_n_7.out.cell (j := 2) rfl
  have ba := below_more (Below.refl w7.heap.size w7) (.cells #[.slice v7 0 c7, .int .i64 0, .int .i64 0] 26)
  have hx : BlockIs (w7.alloc (.cells #[.slice v7 0 c7, .int .i64 0, .int .i64 0] 26)) w7.heap.size 26 [.slice v7 0 c7, .int .i64 0, .int .i64 0] := heap_alloc_new w7 _
  have B_7a := hid (below_via B_7.out ba)
  have Y1_7a := hid (Y1_7.out.on ba)
  have X_r_7a := hid (X_r_7.out.on ba X_r_7.out.lt)
  have X_a_7a := hid (X_a_7.out.on ba X_a_7.out.lt)
  have X_b_7a := hid (X_b_7.out.on ba X_b_7.out.lt)
  have X_c_7a := hid (X_c_7.out.on ba X_c_7.out.lt)
  have X_d_7a := hid (X_d_7.out.on ba X_d_7.out.lt)
  have X_n_7a := hid (X_n_7.out.on ba X_n_7.out.lt)
  have X_o_7a := hid hx
  have O7a := hid hx.lt
  clear ba hx B_7 Y1_7 X_r_7 X_a_7 X_b_7 X_c_7 X_d_7 X_n_7
  have cX_r0_7a := X_r_7a.out.cell (j := 0) rfl
  have cX_r1_7a := X_r_7a.out.cell (j := 1) rfl
  have cX_r2_7a := X_r_7a.out.cell (j := 2) rfl
  have cX_a0_7a := X_a_7a.out.cell (j := 0) rfl
  have cX_a1_7a := X_a_7a.out.cell (j := 1) rfl
  have cX_a2_7a := X_a_7a.out.cell (j := 2) rfl
  have cX_b0_7a := X_b_7a.out.cell (j := 0) rfl
  have cX_b1_7a := X_b_7a.out.cell (j := 1) rfl
  have cX_b2_7a := X_b_7a.out.cell (j := 2) rfl
  have cX_c0_7a := X_c_7a.out.cell (j := 0) rfl
  have cX_c1_7a := X_c_7a.out.cell (j := 1) rfl
  have cX_c2_7a := X_c_7a.out.cell (j := 2) rfl
  have cX_d0_7a := X_d_7a.out.cell (j := 0) rfl
  have cX_d1_7a := X_d_7a.out.cell (j := 1) rfl
  have cX_d2_7a := X_d_7a.out.cell (j := 2) rfl
  have cX_n0_7a := X_n_7a.out.cell (j := 0) rfl
  have cX_n1_7a := X_n_7a.out.cell (j := 1) rfl
  have cX_n2_7a := X_n_7a.out.cell (j := 2) rfl
  have cX_o0_7a := X_o_7a.out.cell (j := 0) rfl
  have cX_o1_7a := X_o_7a.out.cell (j := 1) rfl
  have cX_o2_7a := X_o_7a.out.cell (j := 2) rfl
  have hb8 := heldBy_le l
  obtain ⟨HB, hHB⟩ : ∃ y, heldBy l = y := ⟨_, rfl⟩
  have hRK2 : (RK == RK) = true := by simp
  have hTS3 : (TS.toList == TS.toList) = true := by simp
  have hHB2 : ((HB : Int) == (HB : Int)) = true := by simp
  go_wp2
  obtain ⟨wn7, hwn⟩ : ∃ W, w7.alloc (.cells #[.slice v7 0 c7, .int .i64 0, .int .i64 0] 26) = W := ⟨_, rfl⟩
  rw [hwn] at B_7a Y1_7a X_r_7a X_a_7a X_b_7a X_c_7a X_d_7a X_n_7a X_o_7a cX_r0_7a cX_r1_7a cX_r2_7a cX_a0_7a cX_a1_7a cX_a2_7a cX_b0_7a cX_b1_7a cX_b2_7a cX_c0_7a cX_c1_7a cX_c2_7a cX_d0_7a cX_d1_7a cX_d2_7a cX_n0_7a cX_n1_7a cX_n2_7a cX_o0_7a cX_o1_7a cX_o2_7a O7a ⊢
  clear hwn
  clear cX_r0_7 cX_r1_7 cX_r2_7 cX_a0_7 cX_a1_7 cX_a2_7 cX_b0_7 cX_b1_7 cX_b2_7 cX_c0_7 cX_c1_7 cX_c2_7 cX_d0_7 cX_d1_7 cX_d2_7 cX_n0_7 cX_n1_7 cX_n2_7
  have CA' := fun d os => Calls.regrown_of (w := wn7) (d := d) (os := os) (implRingOk_any s t va l vc (by omega) HSM.out _ (Y1_7a.out.on (below_regrown wn7 d os)))
  rw [hRK] at CA'
  have CA := hid CA'
  clear CA'
  have CB' := fun d os => Calls.regrown_of (w := wn7) (d := d) (os := os) (specRingOk_any s t (by omega) (by omega) va l vc (by omega) HSM.out _ (Y1_7a.out.on (below_regrown wn7 d os)))
  rw [hRK] at CB'
  have CB := hid CB'
  clear CB'
  have CH' := fun d os => Calls.regrown_of (w := wn7) (d := d) (os := os) (implHeldBy_any s t va l vc (by omega) _ (Y1_7a.out.on (below_regrown wn7 d os)))
  rw [hHB] at CH'
  have CH := hid CH'
  clear CH'
  have CG' := fun d os => Calls.regrown_of (w := wn7) (d := d) (os := os) (specHeldBy_any s t va l vc (by omega) _ (Y1_7a.out.on (below_regrown wn7 d os)))
  rw [hHB] at CG'
  have CG := hid CG'
  clear CG'
  rw [hHB] at hb8
  clear hHB hPL hPH hPK hTL hTT hTS hTK hRK HSM
  have R_r0 := cell_regrown (X_r_7a.out.cell (j := 0) rfl)
  have R_r1 := cell_regrown (X_r_7a.out.cell (j := 1) rfl)
  have R_r2 := cell_regrown (X_r_7a.out.cell (j := 2) rfl)
  have R_a0 := cell_regrown (X_a_7a.out.cell (j := 0) rfl)
  have R_a1 := cell_regrown (X_a_7a.out.cell (j := 1) rfl)
  have R_c2 := cell_regrown (X_c_7a.out.cell (j := 2) rfl)
  have R_n0 := cell_regrown (X_n_7a.out.cell (j := 0) rfl)
  clear cX_r0_7a cX_r1_7a cX_r2_7a cX_a0_7a cX_a1_7a cX_a2_7a cX_b0_7a cX_b1_7a cX_b2_7a cX_c0_7a cX_c1_7a cX_c2_7a cX_d0_7a cX_d1_7a cX_d2_7a cX_n0_7a cX_n1_7a cX_n2_7a cX_o0_7a cX_o1_7a cX_o2_7a
  cases PK with
  | true =>
    cases TK with
    | true =>
      clear hPHf hTTf
      refine wp_region_quiet_below (by kernel_rfl) (by kernel_rfl) ?_
      simp only [List.append_eq, List.cons_append, List.nil_append]
      repeat go_big_quiet_step (first | (go_at_call 10; with_reducible exact CA.out _ _) | (go_at_call 16; with_reducible exact CB.out _ _) | (go_at_call 7; with_reducible exact CH.out _ _) | (go_at_call 17; with_reducible exact CG.out _ _) | fail)
      refine wpQuiet_nil ?_
      intro _ hw'
      obtain ⟨⟨dq, osq⟩, hw''⟩ := hw'
      subst hw''
      have bx := below_regrown wn7 dq osq
      have BE := hid (below_via B_7a.out bx)
      generalize grow (redrawn wn7 dq) osq = wE at bx BE ⊢
      clear bx CA CB CH CG R_r0 R_r1 R_r2 R_a0 R_a1 R_c2 R_n0
      go_wp2
      go_ret
      exact ⟨rfl, BE.out⟩
    | false =>
      have hTT2 := hTTf rfl
      subst hTT2
      clear hPHf hTTf
      refine wp_region_quiet_below (by kernel_rfl) (by kernel_rfl) ?_
      simp only [List.append_eq, List.cons_append, List.nil_append]
      repeat go_big_quiet_step (first | (go_at_call 10; with_reducible exact CA.out _ _) | (go_at_call 16; with_reducible exact CB.out _ _) | (go_at_call 7; with_reducible exact CH.out _ _) | (go_at_call 17; with_reducible exact CG.out _ _) | fail)
      refine wpQuiet_nil ?_
      intro _ hw'
      obtain ⟨⟨dq, osq⟩, hw''⟩ := hw'
      subst hw''
      have bx := below_regrown wn7 dq osq
      have BE := hid (below_via B_7a.out bx)
      generalize grow (redrawn wn7 dq) osq = wE at bx BE ⊢
      clear bx CA CB CH CG R_r0 R_r1 R_r2 R_a0 R_a1 R_c2 R_n0
      go_wp2
      go_ret
      exact ⟨rfl, BE.out⟩
  | false =>
    cases TK with
    | true =>
      have hPH2 := hPHf rfl
      subst hPH2
      clear hPHf hTTf
      refine wp_region_quiet_below (by kernel_rfl) (by kernel_rfl) ?_
      simp only [List.append_eq, List.cons_append, List.nil_append]
      repeat go_big_quiet_step (first | (go_at_call 10; with_reducible exact CA.out _ _) | (go_at_call 16; with_reducible exact CB.out _ _) | (go_at_call 7; with_reducible exact CH.out _ _) | (go_at_call 17; with_reducible exact CG.out _ _) | fail)
      refine wpQuiet_nil ?_
      intro _ hw'
      obtain ⟨⟨dq, osq⟩, hw''⟩ := hw'
      subst hw''
      have bx := below_regrown wn7 dq osq
      have BE := hid (below_via B_7a.out bx)
      generalize grow (redrawn wn7 dq) osq = wE at bx BE ⊢
      clear bx CA CB CH CG R_r0 R_r1 R_r2 R_a0 R_a1 R_c2 R_n0
      go_wp2
      go_ret
      exact ⟨rfl, BE.out⟩
    | false =>
      have hPH2 := hPHf rfl
      subst hPH2
      have hTT2 := hTTf rfl
      subst hTT2
      clear hPHf hTTf
      refine wp_region_quiet_below (by kernel_rfl) (by kernel_rfl) ?_
      simp only [List.append_eq, List.cons_append, List.nil_append]
      repeat go_big_quiet_step (first | (go_at_call 10; with_reducible exact CA.out _ _) | (go_at_call 16; with_reducible exact CB.out _ _) | (go_at_call 7; with_reducible exact CH.out _ _) | (go_at_call 17; with_reducible exact CG.out _ _) | fail)
      refine wpQuiet_nil ?_
      intro _ hw'
      obtain ⟨⟨dq, osq⟩, hw''⟩ := hw'
      subst hw''
      have bx := below_regrown wn7 dq osq
      have BE := hid (below_via B_7a.out bx)
      generalize grow (redrawn wn7 dq) osq = wE at bx BE ⊢
      clear bx CA CB CH CG R_r0 R_r1 R_r2 R_a0 R_a1 R_c2 R_n0
      go_wp2
      go_ret
      exact ⟨rfl, BE.out⟩

theorem own : ownKnob Try.prog.godebug = none := by kernel_rfl
theorem laidOut : laidOutB Try.prog = true := by kernel_rfl
theorem rowed : varsRowed Try.prog Rows.fnRingsToldSpec.vars = true := by kernel_rfl
set_option maxRecDepth 1000000 in
theorem contract (H : Type) (enc : TypeId × Value → H) (W : World) (base : Nat) (args : Array Value) (ds gs : List (DataW H)) (before : List MemPlace)
    (hval : ∀ (j : Nat) t v, Try.f4.params[j]? = some t → args[j]? = some v → Value.okWide Try.prog W .any base t v)
    (hW : DataW.Whole enc Try.prog Try.f4.params.toList Rows.fnRingsToldSpec.vars false W args.toList ds gs before) (_hL : laidMetH Try.prog Rows.fnRingsToldRow.laid W) :
    Calls Try.prog 4 args W fun e W' => ∃ v, e = .returned v ∧ Rows.fnRingsToldSpec.post enc Try.prog Try.f4 false true false false W args v W' := by
  have hW' := hW
  obtain ⟨p, q, hA0, hV0, rfl, hfz, hnd⟩ := hW
  have hV : DataW.TrodVars enc Try.prog W (fun _ => true) Rows.fnRingsToldSpec.vars gs q := hV0
  have hA : DataW.TrodAll enc Try.prog W 0 (fun _ => true) true Try.f4.params.toList args.toList ds p := hA0
  rw [Try.params4] at hA hval
  obtain ⟨v0, vs0, d0, ds0, p0, q0, hargs0, rfl, rfl, h0, r0⟩ := trodAll_cons hA
  obtain ⟨rfl, rfl, rfl⟩ := trodAll_nil r0
  obtain rfl : args = #[v0] := by cases args; simp_all
  obtain ⟨a0, len0, cap0, rfl⟩ := okWide_slice Try.underlying22 (hval 0 22 v0 rfl rfl)
  have k0 := h0
  have lt0 : ∀ x ∈ p0, x.block < W.heap.size := by obtain ⟨m, hm⟩ := k0; exact DataW.trod_lt m _ _ _ hm
  have hb0 : len0 ≤ cap0 ∧ Bytes W a0 len0 := by
    obtain ⟨fuel, hf⟩ := h0
    rcases open_ints Try.underlying22 Try.underlying5 (by kernel_rfl) hf with ⟨hcs, _⟩ | ⟨x, l, c, zs, hcs, _, hl, hm, hz, _, hcell, hwz⟩
    · simp [Value.cells] at hcs
      obtain ⟨rfl, rfl, rfl⟩ := hcs
      exact ⟨Nat.le_refl _, fun h => by omega⟩
    · simp [Value.cells] at hcs
      obtain ⟨rfl, rfl, rfl⟩ := hcs
      refine ⟨hl, fun hp => ?_⟩
      have hzl : zs.length = cap0 := by simpa using hz
      obtain ⟨b, off, rfl, hc⟩ := ints_at hcell (by omega)
      refine ⟨b, off, rfl, fun j hj => ?_⟩
      have hjz : j < zs.length := by omega
      have hb8 := bounds_u8 (hwz (zs.getD j 0) (by simp [List.getD, hjz]))
      exact ⟨zs.getD j 0, hb8.1, hb8.2, hc j hjz⟩
  clear hA0 hV0
  obtain ⟨rfl, rfl⟩ := trodVars_none hV
  refine (walk a0 len0 cap0 hb0.1 W hb0.2).mono fun e W' ⟨he, bel⟩ => ?_
  subst he
  exact ⟨_, rfl, _, _, _, [], _, [], hW', trodAll_mk1 (shut_bool Try.underlying4 _), trodAll_cons_mk (Below.trod laidOut (by kernel_rfl) (of_decide_eq_true (by kernel_rfl)) k0 bel lt0) (trodAll_mk0), rfl, bel.frame _, fun h => by cases h⟩

def put (cs : Array Value) : Obj → Obj
  | .cells _ t frozen => .cells cs t frozen
  | o => o

/-- a world for the witness: the tables hold what their initialisers lay -/
def laidWorld (w : World) : World := { w with heap := w.heap }
theorem laid_met (os : Os) : laidMet Try.prog Rows.fnRingsToldRow.laid ((laidWorld (World.holding Try.prog os ⟨#[], #[], []⟩)).forCall (fun _ _ => 0) ⟨#[], #[.slice none 0 0], []⟩).memory :=
  laidMet_of_run' 8 (by kernel_rfl) (by kernel_rfl)
theorem reads (os : Os) {H : Type} (enc : TypeId × Value → H) : ∃ places, DataW.whole enc Try.prog ((laidWorld (World.holding Try.prog os ⟨#[], #[], []⟩)).forCall (fun _ _ => 0) ⟨#[], #[.slice none 0 0], []⟩).memory Try.f4.params.toList Rows.fnRingsToldSpec.vars false #[Value.slice none 0 0].toList 8 = some ([.nil], [], places) :=
  ⟨[], by kernel_rfl⟩

set_option maxRecDepth 1000000 in
theorem lifted (os : Os) (started : os.Started) (H : Type) (enc : TypeId × Value → H) (F : Stop.Interp) :
    ReturnsInHanded {} Try.checked os 4 .any ((OpenSpec.ofChange Rows.fnRingsToldSpec).preRow enc Try.prog Try.f4 Rows.fnRingsToldRow.domain false Rows.fnRingsToldRow.laid) (((OpenSpec.ofChange Rows.fnRingsToldSpec).at F).post enc Try.prog Try.f4 false true false false) := by
  obtain ⟨places, hx⟩ := reads os enc
  refine returnsInHanded_of_row (C := Try.checked) (s := OpenSpec.ofChange Rows.fnRingsToldSpec) own started (by kernel_rfl) Try.func4
    (witness_row_at (enc := enc) (C := Try.checked) false (laidWorld (World.holding Try.prog os ⟨#[], #[], []⟩)) #[.slice none 0 0] rfl (by kernel_rfl) (by kernel_rfl) (by kernel_rfl)
      (OpenSpec.preRow_of_cond 8 hx (by kernel_rfl) (fun k hk => by cases hk) (by kernel_rfl) (laid_met os))) ?_
  intro W base args ds gs before hval hW _ _ _ hL _ _
  exact contract H enc W base args ds gs before hval hW hL

theorem said : Rows.FnRingsToldSaid :=
  OpenClaim.holds_of_cond 4 Try.f4 rfl rfl rfl rfl rfl rfl rfl ⟨rfl, rfl, rfl, rfl, rfl⟩ rfl rfl rfl rfl rfl (by kernel_rfl) Try.func4 (by kernel_rfl)
    (of_decide_eq_true (by kernel_rfl)) (by unfold Func.isWrapper; first | (rw [if_pos (by decide +kernel)]; kernel_rfl) | (rw [if_neg (by decide +kernel)]; exact ⟨rfl, rfl⟩))
    (fun os started H enc _ F => by rw [OpenClaim.pre_eq_preRow]; exact lifted os started H enc F)

end Go.Proofs.Ytbajffpkfjkolaa.fnRingsTold
