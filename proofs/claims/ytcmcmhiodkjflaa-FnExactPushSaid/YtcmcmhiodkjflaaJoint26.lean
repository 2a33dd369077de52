/-
  The walk of spec.Push: what a stream sends.
-/
import Derived.Test.YtcmcmhiodkjflaaJoint22
import Derived.Test.YtcmcmhiodkjflaaJoint23
import Derived.Test.YtcmcmhiodkjflaaJoint25
import Derived.Test.YtcmcmhiodkjflaaJoint1
namespace Go.Proofs.Ytcmcmhiodkjflaa
open Go.RowKit

set_option maxRecDepth 1000000 in
set_option maxHeartbeats 8000000 in
theorem specPush_any (d : StrD) (ao : Option Addr) (cap : Nat) (hs : d.Small) (now : Int) (w : World) (ha : LatesAt w ao d.late) :
    Calls Try.prog 6 #[.agg #[.int .i64 d.st, .int .i64 d.iss, .int .i64 d.una, .int .i64 d.rcv, .string d.wait, .int .i64 d.sent, .int .i64 d.fin, .bool d.pf, .string d.inn, .slice ao d.late.length cap, .bool d.owe, .int .i64 d.due, .int .i64 d.times], .int .i64 now] w fun e w' => PushDid w (pushD now d) (pushSegs now d) e w' := by
  have hb1 := below_more (below_more (Below.refl w.heap.size w) (.cells #[.int .i64 d.st, .int .i64 d.iss, .int .i64 d.una, .int .i64 d.rcv, .string d.wait, .int .i64 d.sent, .int .i64 d.fin, .bool d.pf, .string d.inn, .slice ao d.late.length cap, .bool d.owe, .int .i64 d.due, .int .i64 d.times] 28)) (.cells #[.int .i64 0, .int .i64 0, .int .i64 0, .int .i64 0, .string ⟨#[]⟩, .int .i64 0, .int .i64 0, .bool false, .string ⟨#[]⟩, .slice none 0 0, .bool false, .int .i64 0, .int .i64 0] 28)
  have hy0 : BlockIs ((w.alloc (.cells #[.int .i64 d.st, .int .i64 d.iss, .int .i64 d.una, .int .i64 d.rcv, .string d.wait, .int .i64 d.sent, .int .i64 d.fin, .bool d.pf, .string d.inn, .slice ao d.late.length cap, .bool d.owe, .int .i64 d.due, .int .i64 d.times] 28)).alloc (.cells #[.int .i64 0, .int .i64 0, .int .i64 0, .int .i64 0, .string ⟨#[]⟩, .int .i64 0, .int .i64 0, .bool false, .string ⟨#[]⟩, .slice none 0 0, .bool false, .int .i64 0, .int .i64 0] 28)) w.heap.size 28 [.int .i64 d.st, .int .i64 d.iss, .int .i64 d.una, .int .i64 d.rcv, .string d.wait, .int .i64 d.sent, .int .i64 d.fin, .bool d.pf, .string d.inn, .slice ao d.late.length cap, .bool d.owe, .int .i64 d.due, .int .i64 d.times] := by
    show ((w.heap.push _).push _)[w.heap.size]? = some _
    rw [Array.getElem?_push, if_neg (by simp), Array.getElem?_push, if_pos rfl]
  have hy1 : BlockIs ((w.alloc (.cells #[.int .i64 d.st, .int .i64 d.iss, .int .i64 d.una, .int .i64 d.rcv, .string d.wait, .int .i64 d.sent, .int .i64 d.fin, .bool d.pf, .string d.inn, .slice ao d.late.length cap, .bool d.owe, .int .i64 d.due, .int .i64 d.times] 28)).alloc (.cells #[.int .i64 0, .int .i64 0, .int .i64 0, .int .i64 0, .string ⟨#[]⟩, .int .i64 0, .int .i64 0, .bool false, .string ⟨#[]⟩, .slice none 0 0, .bool false, .int .i64 0, .int .i64 0] 28)) (w.heap.size + 1) 28 [.int .i64 0, .int .i64 0, .int .i64 0, .int .i64 0, .string ⟨#[]⟩, .int .i64 0, .int .i64 0, .bool false, .string ⟨#[]⟩, .slice none 0 0, .bool false, .int .i64 0, .int .i64 0] := by
    show ((w.heap.push _).push _)[w.heap.size + 1]? = some _
    rw [Array.getElem?_push, if_pos (by simp)]
  obtain ⟨W0, hW0⟩ : ∃ W0, (w.alloc (.cells #[.int .i64 d.st, .int .i64 d.iss, .int .i64 d.una, .int .i64 d.rcv, .string d.wait, .int .i64 d.sent, .int .i64 d.fin, .bool d.pf, .string d.inn, .slice ao d.late.length cap, .bool d.owe, .int .i64 d.due, .int .i64 d.times] 28)).alloc (.cells #[.int .i64 0, .int .i64 0, .int .i64 0, .int .i64 0, .string ⟨#[]⟩, .int .i64 0, .int .i64 0, .bool false, .string ⟨#[]⟩, .slice none 0 0, .bool false, .int .i64 0, .int .i64 0] 28) = W0 := ⟨_, rfl⟩
  rw [hW0] at hb1 hy0 hy1
  have HA := hid ha
  have HS := hid hs
  have X0 := hid hy0
  have Y0 := hid hy1
  have B0 := hid hb1
  have hlt1 := hy1.lt
  have hlt0 := hb1.size
  have C := hid (specCopy_any d ao cap hs.late _ (ha.on hb1))
  unfold CopyDid at C
  clear ha hb1 hy0 hy1 hs
  go_enter Try.func6, Try.ntmps6
  go_wp2_with (first | (refine wpList_load_str X0.out rfl rfl _ rfl rfl ?_) | fail)
  refine Calls.mono C.out ?_
  rintro e w1 ⟨va, vc, rfl, hr1, b1⟩
  have hsz1 := b1.size
  have OV := hid (str_over w1 #[.int .i64 0, .int .i64 0, .int .i64 0, .int .i64 0, .string ⟨#[]⟩, .int .i64 0, .int .i64 0, .bool false, .string ⟨#[]⟩, .slice none 0 0, .bool false, .int .i64 0, .int .i64 0] #[.int .i64 d.st, .int .i64 d.iss, .int .i64 d.una, .int .i64 d.rcv, .string d.wait, .int .i64 d.sent, .int .i64 d.fin, .bool d.pf, .string d.inn, .slice va d.late.length vc, .bool d.owe, .int .i64 d.due, .int .i64 d.times] 28)
  have KZ := hid (show BlockIs (w1.alloc (.cells #[.int .i64 0, .int .i64 0, .int .i64 0, .int .i64 0, .string ⟨#[]⟩, .int .i64 0, .int .i64 0, .bool false, .string ⟨#[]⟩, .slice none 0 0, .bool false, .int .i64 0, .int .i64 0] 28)) w1.heap.size 28 [.int .i64 0, .int .i64 0, .int .i64 0, .int .i64 0, .string ⟨#[]⟩, .int .i64 0, .int .i64 0, .bool false, .string ⟨#[]⟩, .slice none 0 0, .bool false, .int .i64 0, .int .i64 0] from heap_alloc_new w1 _)
  have hb2 := below_more (Below.refl w1.heap.size w1) (.cells #[.int .i64 d.st, .int .i64 d.iss, .int .i64 d.una, .int .i64 d.rcv, .string d.wait, .int .i64 d.sent, .int .i64 d.fin, .bool d.pf, .string d.inn, .slice va d.late.length vc, .bool d.owe, .int .i64 d.due, .int .i64 d.times] 28)
  have K2 := hid (show BlockIs (w1.alloc (.cells #[.int .i64 d.st, .int .i64 d.iss, .int .i64 d.una, .int .i64 d.rcv, .string d.wait, .int .i64 d.sent, .int .i64 d.fin, .bool d.pf, .string d.inn, .slice va d.late.length vc, .bool d.owe, .int .i64 d.due, .int .i64 d.times] 28)) w1.heap.size 28 [.int .i64 d.st, .int .i64 d.iss, .int .i64 d.una, .int .i64 d.rcv, .string d.wait, .int .i64 d.sent, .int .i64 d.fin, .bool d.pf, .string d.inn, .slice va d.late.length vc, .bool d.owe, .int .i64 d.due, .int .i64 d.times] from heap_alloc_new w1 _)
  have X1 := X0.out.on b1 X0.out.lt
  have Y1 := Y0.out.on b1 Y0.out.lt
  have X2 := hid (X1.on hb2 X1.lt)
  have Y2 := hid (Y1.on hb2 Y1.lt)
  have R2 := hid (hr1.on hb2)
  have B2 := hid (below_via (below_via B0.out b1) hb2)
  obtain ⟨W2, hW2⟩ : ∃ W2, w1.alloc (.cells #[.int .i64 d.st, .int .i64 d.iss, .int .i64 d.una, .int .i64 d.rcv, .string d.wait, .int .i64 d.sent, .int .i64 d.fin, .bool d.pf, .string d.inn, .slice va d.late.length vc, .bool d.owe, .int .i64 d.due, .int .i64 d.times] 28) = W2 := ⟨_, rfl⟩
  rw [hW2] at OV K2 X2 Y2 R2 B2
  clear hb2 X1 Y1 hr1 b1 C X0 Y0 B0
  obtain ⟨G2, hG2⟩ : ∃ G, w1.heap.size = G := ⟨_, rfl⟩
  have hG2l : w.heap.size + 1 < G2 := by omega
  have hG20 : W0.heap.size ≤ G2 := by omega
  go_wp2_with (first | (refine wpList_store_str KZ.out rfl rfl _ _ rfl _ rfl rfl rfl (strCells_all d _ _) ?_; rw [OV.out]) | (refine wpList_load_str X2.out rfl rfl _ rfl rfl ?_) | fail)
  refine Calls.mono (specStreamOk_any d ao cap HS.out _ (HA.out.on B2.out)) ?_
  rintro e w3 ⟨rfl, b3⟩
  rw [hG2] at K2 KZ
  have X3 := hid (X2.out.on b3 X2.out.lt)
  have Y3 := hid (Y2.out.on b3 Y2.out.lt)
  have K3 := hid (K2.out.on b3 K2.out.lt)
  have R3 := hid (R2.out.on b3)
  have B3 := hid (below_via B2.out b3)
  clear b3 X2 Y2 K2 R2 B2 KZ OV hG2
  cases hk : strOk d with
  | false =>
    have HD0 : Hid (mayPush d now = false) := by show _ = _; rw [mayPush, hk]; rfl
    have HD : Hid (pushD now d = d ∧ pushSegs now d = []) := ⟨by rw [pushD, HD0.out]; rfl, by rw [pushSegs, HD0.out]; rfl⟩
    clear hk
    have hbn := below_more (Below.refl w3.heap.size w3) (.cells #[] 42)
    have YN := hid (Y3.out.on hbn Y3.out.lt)
    have RN := hid (R3.out.on hbn)
    have BN := hid (below_via B3.out hbn)
    obtain ⟨WN, hWN⟩ : ∃ WN, w3.alloc (.cells #[] 42) = WN := ⟨_, rfl⟩
    rw [hWN] at YN RN BN
    clear hbn
    obtain ⟨U, hU⟩ : ∃ U, WN.setRow (w.heap.size + 1) #[.int .i64 d.st, .int .i64 d.iss, .int .i64 d.una, .int .i64 d.rcv, .string d.wait, .int .i64 d.sent, .int .i64 d.fin, .bool d.pf, .string d.inn, .slice va d.late.length vc, .bool d.owe, .int .i64 d.due, .int .i64 d.times] = U := ⟨_, rfl⟩
    have Y9 : BlockIs U (w.heap.size + 1) 28 [.int .i64 d.st, .int .i64 d.iss, .int .i64 d.una, .int .i64 d.rcv, .string d.wait, .int .i64 d.sent, .int .i64 d.fin, .bool d.pf, .string d.inn, .slice va d.late.length vc, .bool d.owe, .int .i64 d.due, .int .i64 d.times] := by rw [← hU]; exact store_block YN.out _
    have B9 : Hid (Below w.heap.size w U) := by rw [← hU]; exact below_setRow BN.out (by omega) _
    have R9 : Hid (OwnsL U W0.heap.size d.late va vc) := by rw [← hU]; exact RN.out.setRow YN.out (by decide) _
    have r0 := Y9.cell (j := 0) rfl
    have r1 := Y9.cell (j := 1) rfl
    have r2 := Y9.cell (j := 2) rfl
    have r3 := Y9.cell (j := 3) rfl
    have r4 := Y9.cell (j := 4) rfl
    have r5 := Y9.cell (j := 5) rfl
    have r6 := Y9.cell (j := 6) rfl
    have r7 := Y9.cell (j := 7) rfl
    have r8 := Y9.cell (j := 8) rfl
    have r9 := Y9.cell (j := 9) rfl
    have r10 := Y9.cell (j := 10) rfl
    have r11 := Y9.cell (j := 11) rfl
    have r12 := Y9.cell (j := 12) rfl
    clear Y9
    go_wp2_with (first | (refine wpList_load_str K3.out rfl rfl _ rfl rfl ?_) | (refine wpList_store_str YN.out rfl rfl _ _ rfl _ rfl rfl rfl (strCells_all d _ _) ?_; rw [hU]) | fail)
    refine bodyPost_ret (v := .tuple #[.agg #[.int .i64 d.st, .int .i64 d.iss, .int .i64 d.una, .int .i64 d.rcv, .string d.wait, .int .i64 d.sent, .int .i64 d.fin, .bool d.pf, .string d.inn, .slice va d.late.length vc, .bool d.owe, .int .i64 d.due, .int .i64 d.times], .slice (some ⟨w3.heap.size, 0, none⟩) 0 0]) (by simp [results, Try.results6, go_sem, r0, r1, r2, r3, r4, r5, r6, r7, r8, r9, r10, r11, r12]) rfl (by rw [HD.out.1, HD.out.2]; exact ⟨va, vc, _, _, rfl, R9.out.own.1.down (by omega) (Nat.le_refl _), Or.inl rfl, B9.out⟩)
  | true =>
    have n0 := fun w => l01In_any now 0 999999900 w
    cases hn : within now 0 999999900 with
    | false =>
      rw [hn] at n0
      have N0 := hid n0
      have HD0 : Hid (mayPush d now = false) := by show _ = _; rw [mayPush, hn]; simp
      have HD : Hid (pushD now d = d ∧ pushSegs now d = []) := ⟨by rw [pushD, HD0.out]; rfl, by rw [pushSegs, HD0.out]; rfl⟩
      clear hk hn n0
      have hbn := below_more (Below.refl w3.heap.size w3) (.cells #[] 42)
      have YN := hid (Y3.out.on hbn Y3.out.lt)
      have RN := hid (R3.out.on hbn)
      have BN := hid (below_via B3.out hbn)
      obtain ⟨WN, hWN⟩ : ∃ WN, w3.alloc (.cells #[] 42) = WN := ⟨_, rfl⟩
      rw [hWN] at YN RN BN
      clear hbn
      obtain ⟨U, hU⟩ : ∃ U, WN.setRow (w.heap.size + 1) #[.int .i64 d.st, .int .i64 d.iss, .int .i64 d.una, .int .i64 d.rcv, .string d.wait, .int .i64 d.sent, .int .i64 d.fin, .bool d.pf, .string d.inn, .slice va d.late.length vc, .bool d.owe, .int .i64 d.due, .int .i64 d.times] = U := ⟨_, rfl⟩
      have Y9 : BlockIs U (w.heap.size + 1) 28 [.int .i64 d.st, .int .i64 d.iss, .int .i64 d.una, .int .i64 d.rcv, .string d.wait, .int .i64 d.sent, .int .i64 d.fin, .bool d.pf, .string d.inn, .slice va d.late.length vc, .bool d.owe, .int .i64 d.due, .int .i64 d.times] := by rw [← hU]; exact store_block YN.out _
      have B9 : Hid (Below w.heap.size w U) := by rw [← hU]; exact below_setRow BN.out (by omega) _
      have R9 : Hid (OwnsL U W0.heap.size d.late va vc) := by rw [← hU]; exact RN.out.setRow YN.out (by decide) _
      have r0 := Y9.cell (j := 0) rfl
      have r1 := Y9.cell (j := 1) rfl
      have r2 := Y9.cell (j := 2) rfl
      have r3 := Y9.cell (j := 3) rfl
      have r4 := Y9.cell (j := 4) rfl
      have r5 := Y9.cell (j := 5) rfl
      have r6 := Y9.cell (j := 6) rfl
      have r7 := Y9.cell (j := 7) rfl
      have r8 := Y9.cell (j := 8) rfl
      have r9 := Y9.cell (j := 9) rfl
      have r10 := Y9.cell (j := 10) rfl
      have r11 := Y9.cell (j := 11) rfl
      have r12 := Y9.cell (j := 12) rfl
      clear Y9
      go_wp2_with (first | (go_at_call 22; with_reducible refine Calls.mono (N0.out _) ?_; rintro e w9 ⟨rfl, hw⟩; rw [hw]; clear hw w9) | (refine wpList_load_str K3.out rfl rfl _ rfl rfl ?_) | (refine wpList_store_str YN.out rfl rfl _ _ rfl _ rfl rfl rfl (strCells_all d _ _) ?_; rw [hU]) | fail)
      refine bodyPost_ret (v := .tuple #[.agg #[.int .i64 d.st, .int .i64 d.iss, .int .i64 d.una, .int .i64 d.rcv, .string d.wait, .int .i64 d.sent, .int .i64 d.fin, .bool d.pf, .string d.inn, .slice va d.late.length vc, .bool d.owe, .int .i64 d.due, .int .i64 d.times], .slice (some ⟨w3.heap.size, 0, none⟩) 0 0]) (by simp [results, Try.results6, go_sem, r0, r1, r2, r3, r4, r5, r6, r7, r8, r9, r10, r11, r12]) rfl (by rw [HD.out.1, HD.out.2]; exact ⟨va, vc, _, _, rfl, R9.out.own.1.down (by omega) (Nat.le_refl _), Or.inl rfl, B9.out⟩)
    | true =>
      rw [hn] at n0
      have N0 := hid n0
      have hR := strOk_iff.1 hk
      have hnb := within_iff.1 hn
      have HD0 : Hid (mayPush d now = true) := by show _ = _; rw [mayPush, hk, hn]; rfl
      have HD1 : Hid (pushD now d = push1D now d ∧ pushSegs now d = push1S now d) := ⟨by rw [pushD, HD0.out]; rfl, by rw [pushSegs, HD0.out]; rfl⟩
      clear hk hn n0 HD0
      have hst := hR.st
      have ht := hR.times
      have HR := hid hR
      clear hR
      have x0 := X3.out.cell (j := 0) rfl
      have x1 := X3.out.cell (j := 1) rfl
      have x3 := X3.out.cell (j := 3) rfl
      have x10 := X3.out.cell (j := 10) rfl
      have x11 := X3.out.cell (j := 11) rfl
      have x12 := X3.out.cell (j := 12) rfl
      obtain ⟨st, hs9⟩ : ∃ st, d.st = st := ⟨_, rfl⟩
      have HST := hid hs9
      rw [hs9] at x0 hst
      clear hs9
      obtain rfl | rfl | rfl | rfl | rfl : st = 0 ∨ st = 1 ∨ st = 2 ∨ st = 3 ∨ st = 4 := by omega
      · have HD : Hid (pushD now d = d ∧ pushSegs now d = []) := by show _ ∧ _; rw [HD1.out.1, HD1.out.2]; simp [push1D, push1S, HST.out]
        clear hst
        have hbn := below_more (Below.refl w3.heap.size w3) (.cells #[] 42)
        have YN := hid (Y3.out.on hbn Y3.out.lt)
        have RN := hid (R3.out.on hbn)
        have BN := hid (below_via B3.out hbn)
        obtain ⟨WN, hWN⟩ : ∃ WN, w3.alloc (.cells #[] 42) = WN := ⟨_, rfl⟩
        rw [hWN] at YN RN BN
        clear hbn
        obtain ⟨U, hU⟩ : ∃ U, WN.setRow (w.heap.size + 1) #[.int .i64 d.st, .int .i64 d.iss, .int .i64 d.una, .int .i64 d.rcv, .string d.wait, .int .i64 d.sent, .int .i64 d.fin, .bool d.pf, .string d.inn, .slice va d.late.length vc, .bool d.owe, .int .i64 d.due, .int .i64 d.times] = U := ⟨_, rfl⟩
        have Y9 : BlockIs U (w.heap.size + 1) 28 [.int .i64 d.st, .int .i64 d.iss, .int .i64 d.una, .int .i64 d.rcv, .string d.wait, .int .i64 d.sent, .int .i64 d.fin, .bool d.pf, .string d.inn, .slice va d.late.length vc, .bool d.owe, .int .i64 d.due, .int .i64 d.times] := by rw [← hU]; exact store_block YN.out _
        have B9 : Hid (Below w.heap.size w U) := by rw [← hU]; exact below_setRow BN.out (by omega) _
        have R9 : Hid (OwnsL U W0.heap.size d.late va vc) := by rw [← hU]; exact RN.out.setRow YN.out (by decide) _
        have r0 := Y9.cell (j := 0) rfl
        have r1 := Y9.cell (j := 1) rfl
        have r2 := Y9.cell (j := 2) rfl
        have r3 := Y9.cell (j := 3) rfl
        have r4 := Y9.cell (j := 4) rfl
        have r5 := Y9.cell (j := 5) rfl
        have r6 := Y9.cell (j := 6) rfl
        have r7 := Y9.cell (j := 7) rfl
        have r8 := Y9.cell (j := 8) rfl
        have r9 := Y9.cell (j := 9) rfl
        have r10 := Y9.cell (j := 10) rfl
        have r11 := Y9.cell (j := 11) rfl
        have r12 := Y9.cell (j := 12) rfl
        clear Y9
        go_wp2_with (first | (go_at_call 22; with_reducible refine Calls.mono (N0.out _) ?_; rintro e w9 ⟨rfl, hw⟩; rw [hw]; clear hw w9) | (refine wpList_load_str K3.out rfl rfl _ rfl rfl ?_) | (refine wpList_store_str YN.out rfl rfl _ _ rfl _ rfl rfl rfl (strCells_all d _ _) ?_; rw [hU]) | fail)
        refine bodyPost_ret (v := .tuple #[.agg #[.int .i64 d.st, .int .i64 d.iss, .int .i64 d.una, .int .i64 d.rcv, .string d.wait, .int .i64 d.sent, .int .i64 d.fin, .bool d.pf, .string d.inn, .slice va d.late.length vc, .bool d.owe, .int .i64 d.due, .int .i64 d.times], .slice (some ⟨w3.heap.size, 0, none⟩) 0 0]) (by simp [results, Try.results6, go_sem, r0, r1, r2, r3, r4, r5, r6, r7, r8, r9, r10, r11, r12]) rfl (by rw [HD.out.1, HD.out.2]; exact ⟨va, vc, _, _, rfl, R9.out.own.1.down (by omega) (Nat.le_refl _), Or.inl rfl, B9.out⟩)
      · have HD : Hid (pushD now d = d ∧ pushSegs now d = []) := by show _ ∧ _; rw [HD1.out.1, HD1.out.2]; simp [push1D, push1S, HST.out]
        clear hst
        have hbn := below_more (Below.refl w3.heap.size w3) (.cells #[] 42)
        have YN := hid (Y3.out.on hbn Y3.out.lt)
        have RN := hid (R3.out.on hbn)
        have BN := hid (below_via B3.out hbn)
        obtain ⟨WN, hWN⟩ : ∃ WN, w3.alloc (.cells #[] 42) = WN := ⟨_, rfl⟩
        rw [hWN] at YN RN BN
        clear hbn
        obtain ⟨U, hU⟩ : ∃ U, WN.setRow (w.heap.size + 1) #[.int .i64 d.st, .int .i64 d.iss, .int .i64 d.una, .int .i64 d.rcv, .string d.wait, .int .i64 d.sent, .int .i64 d.fin, .bool d.pf, .string d.inn, .slice va d.late.length vc, .bool d.owe, .int .i64 d.due, .int .i64 d.times] = U := ⟨_, rfl⟩
        have Y9 : BlockIs U (w.heap.size + 1) 28 [.int .i64 d.st, .int .i64 d.iss, .int .i64 d.una, .int .i64 d.rcv, .string d.wait, .int .i64 d.sent, .int .i64 d.fin, .bool d.pf, .string d.inn, .slice va d.late.length vc, .bool d.owe, .int .i64 d.due, .int .i64 d.times] := by rw [← hU]; exact store_block YN.out _
        have B9 : Hid (Below w.heap.size w U) := by rw [← hU]; exact below_setRow BN.out (by omega) _
        have R9 : Hid (OwnsL U W0.heap.size d.late va vc) := by rw [← hU]; exact RN.out.setRow YN.out (by decide) _
        have r0 := Y9.cell (j := 0) rfl
        have r1 := Y9.cell (j := 1) rfl
        have r2 := Y9.cell (j := 2) rfl
        have r3 := Y9.cell (j := 3) rfl
        have r4 := Y9.cell (j := 4) rfl
        have r5 := Y9.cell (j := 5) rfl
        have r6 := Y9.cell (j := 6) rfl
        have r7 := Y9.cell (j := 7) rfl
        have r8 := Y9.cell (j := 8) rfl
        have r9 := Y9.cell (j := 9) rfl
        have r10 := Y9.cell (j := 10) rfl
        have r11 := Y9.cell (j := 11) rfl
        have r12 := Y9.cell (j := 12) rfl
        clear Y9
        go_wp2_with (first | (go_at_call 22; with_reducible refine Calls.mono (N0.out _) ?_; rintro e w9 ⟨rfl, hw⟩; rw [hw]; clear hw w9) | (refine wpList_load_str K3.out rfl rfl _ rfl rfl ?_) | (refine wpList_store_str YN.out rfl rfl _ _ rfl _ rfl rfl rfl (strCells_all d _ _) ?_; rw [hU]) | fail)
        refine bodyPost_ret (v := .tuple #[.agg #[.int .i64 d.st, .int .i64 d.iss, .int .i64 d.una, .int .i64 d.rcv, .string d.wait, .int .i64 d.sent, .int .i64 d.fin, .bool d.pf, .string d.inn, .slice va d.late.length vc, .bool d.owe, .int .i64 d.due, .int .i64 d.times], .slice (some ⟨w3.heap.size, 0, none⟩) 0 0]) (by simp [results, Try.results6, go_sem, r0, r1, r2, r3, r4, r5, r6, r7, r8, r9, r10, r11, r12]) rfl (by rw [HD.out.1, HD.out.2]; exact ⟨va, vc, _, _, rfl, R9.out.own.1.down (by omega) (Nat.le_refl _), Or.inl rfl, B9.out⟩)
      · have HG : Hid (pushD now d = greetD now d ∧ pushSegs now d = greetSegs now d ⟨d.iss, 0, 1, ByteArray.empty⟩) := by show _ ∧ _; rw [HD1.out.1, HD1.out.2]; simp [push1D, push1S, HST.out]
        clear hst HD1
        by_cases q1 : now < d.due
        · have HD : Hid (pushD now d = d ∧ pushSegs now d = []) := by show _ ∧ _; rw [HG.out.1, HG.out.2, greetD, greetSegs, tryB, decide_eq_false (by omega)]; exact ⟨rfl, rfl⟩
          clear HG
          have hbn := below_more (Below.refl w3.heap.size w3) (.cells #[] 42)
          have YN := hid (Y3.out.on hbn Y3.out.lt)
          have RN := hid (R3.out.on hbn)
          have BN := hid (below_via B3.out hbn)
          obtain ⟨WN, hWN⟩ : ∃ WN, w3.alloc (.cells #[] 42) = WN := ⟨_, rfl⟩
          rw [hWN] at YN RN BN
          clear hbn
          obtain ⟨U, hU⟩ : ∃ U, WN.setRow (w.heap.size + 1) #[.int .i64 d.st, .int .i64 d.iss, .int .i64 d.una, .int .i64 d.rcv, .string d.wait, .int .i64 d.sent, .int .i64 d.fin, .bool d.pf, .string d.inn, .slice va d.late.length vc, .bool d.owe, .int .i64 d.due, .int .i64 d.times] = U := ⟨_, rfl⟩
          have Y9 : BlockIs U (w.heap.size + 1) 28 [.int .i64 d.st, .int .i64 d.iss, .int .i64 d.una, .int .i64 d.rcv, .string d.wait, .int .i64 d.sent, .int .i64 d.fin, .bool d.pf, .string d.inn, .slice va d.late.length vc, .bool d.owe, .int .i64 d.due, .int .i64 d.times] := by rw [← hU]; exact store_block YN.out _
          have B9 : Hid (Below w.heap.size w U) := by rw [← hU]; exact below_setRow BN.out (by omega) _
          have R9 : Hid (OwnsL U W0.heap.size d.late va vc) := by rw [← hU]; exact RN.out.setRow YN.out (by decide) _
          have r0 := Y9.cell (j := 0) rfl
          have r1 := Y9.cell (j := 1) rfl
          have r2 := Y9.cell (j := 2) rfl
          have r3 := Y9.cell (j := 3) rfl
          have r4 := Y9.cell (j := 4) rfl
          have r5 := Y9.cell (j := 5) rfl
          have r6 := Y9.cell (j := 6) rfl
          have r7 := Y9.cell (j := 7) rfl
          have r8 := Y9.cell (j := 8) rfl
          have r9 := Y9.cell (j := 9) rfl
          have r10 := Y9.cell (j := 10) rfl
          have r11 := Y9.cell (j := 11) rfl
          have r12 := Y9.cell (j := 12) rfl
          clear Y9
          go_wp2_with (first | (go_at_call 22; with_reducible refine Calls.mono (N0.out _) ?_; rintro e w9 ⟨rfl, hw⟩; rw [hw]; clear hw w9) | (refine wpList_load_str K3.out rfl rfl _ rfl rfl ?_) | (refine wpList_store_str YN.out rfl rfl _ _ rfl _ rfl rfl rfl (strCells_all d _ _) ?_; rw [hU]) | fail)
          refine bodyPost_ret (v := .tuple #[.agg #[.int .i64 d.st, .int .i64 d.iss, .int .i64 d.una, .int .i64 d.rcv, .string d.wait, .int .i64 d.sent, .int .i64 d.fin, .bool d.pf, .string d.inn, .slice va d.late.length vc, .bool d.owe, .int .i64 d.due, .int .i64 d.times], .slice (some ⟨w3.heap.size, 0, none⟩) 0 0]) (by simp [results, Try.results6, go_sem, r0, r1, r2, r3, r4, r5, r6, r7, r8, r9, r10, r11, r12]) rfl (by rw [HD.out.1, HD.out.2]; exact ⟨va, vc, _, _, rfl, R9.out.own.1.down (by omega) (Nat.le_refl _), Or.inl rfl, B9.out⟩)
        by_cases q2 : 12 ≤ d.times
        · have HD : Hid (pushD now d = d ∧ pushSegs now d = []) := by show _ ∧ _; rw [HG.out.1, HG.out.2, greetD, greetSegs, tryB, decide_eq_false (show ¬ d.times < 12 by omega), Bool.and_false]; exact ⟨rfl, rfl⟩
          clear HG
          have hbn := below_more (Below.refl w3.heap.size w3) (.cells #[] 42)
          have YN := hid (Y3.out.on hbn Y3.out.lt)
          have RN := hid (R3.out.on hbn)
          have BN := hid (below_via B3.out hbn)
          obtain ⟨WN, hWN⟩ : ∃ WN, w3.alloc (.cells #[] 42) = WN := ⟨_, rfl⟩
          rw [hWN] at YN RN BN
          clear hbn
          obtain ⟨U, hU⟩ : ∃ U, WN.setRow (w.heap.size + 1) #[.int .i64 d.st, .int .i64 d.iss, .int .i64 d.una, .int .i64 d.rcv, .string d.wait, .int .i64 d.sent, .int .i64 d.fin, .bool d.pf, .string d.inn, .slice va d.late.length vc, .bool d.owe, .int .i64 d.due, .int .i64 d.times] = U := ⟨_, rfl⟩
          have Y9 : BlockIs U (w.heap.size + 1) 28 [.int .i64 d.st, .int .i64 d.iss, .int .i64 d.una, .int .i64 d.rcv, .string d.wait, .int .i64 d.sent, .int .i64 d.fin, .bool d.pf, .string d.inn, .slice va d.late.length vc, .bool d.owe, .int .i64 d.due, .int .i64 d.times] := by rw [← hU]; exact store_block YN.out _
          have B9 : Hid (Below w.heap.size w U) := by rw [← hU]; exact below_setRow BN.out (by omega) _
          have R9 : Hid (OwnsL U W0.heap.size d.late va vc) := by rw [← hU]; exact RN.out.setRow YN.out (by decide) _
          have r0 := Y9.cell (j := 0) rfl
          have r1 := Y9.cell (j := 1) rfl
          have r2 := Y9.cell (j := 2) rfl
          have r3 := Y9.cell (j := 3) rfl
          have r4 := Y9.cell (j := 4) rfl
          have r5 := Y9.cell (j := 5) rfl
          have r6 := Y9.cell (j := 6) rfl
          have r7 := Y9.cell (j := 7) rfl
          have r8 := Y9.cell (j := 8) rfl
          have r9 := Y9.cell (j := 9) rfl
          have r10 := Y9.cell (j := 10) rfl
          have r11 := Y9.cell (j := 11) rfl
          have r12 := Y9.cell (j := 12) rfl
          clear Y9
          go_wp2_with (first | (go_at_call 22; with_reducible refine Calls.mono (N0.out _) ?_; rintro e w9 ⟨rfl, hw⟩; rw [hw]; clear hw w9) | (refine wpList_load_str K3.out rfl rfl _ rfl rfl ?_) | (refine wpList_store_str YN.out rfl rfl _ _ rfl _ rfl rfl rfl (strCells_all d _ _) ?_; rw [hU]) | fail)
          refine bodyPost_ret (v := .tuple #[.agg #[.int .i64 d.st, .int .i64 d.iss, .int .i64 d.una, .int .i64 d.rcv, .string d.wait, .int .i64 d.sent, .int .i64 d.fin, .bool d.pf, .string d.inn, .slice va d.late.length vc, .bool d.owe, .int .i64 d.due, .int .i64 d.times], .slice (some ⟨w3.heap.size, 0, none⟩) 0 0]) (by simp [results, Try.results6, go_sem, r0, r1, r2, r3, r4, r5, r6, r7, r8, r9, r10, r11, r12]) rfl (by rw [HD.out.1, HD.out.2]; exact ⟨va, vc, _, _, rfl, R9.out.own.1.down (by omega) (Nat.le_refl _), Or.inl rfl, B9.out⟩)
        have HD : Hid (pushD now d = pauseD now d ∧ pushSegs now d = [⟨d.iss, 0, 1, ByteArray.empty⟩]) := by show _ ∧ _; rw [HG.out.1, HG.out.2, greetD, greetSegs, tryB, decide_eq_true (show d.due ≤ now by omega), decide_eq_true (show d.times < 12 by omega)]; exact ⟨rfl, rfl⟩
        clear HG
        have S3 := hid (show StIs w3 W0.heap.size G2 d from ⟨hG20, va, vc, K3.out, R3.out⟩)
        have hbs := below_more (Below.refl w3.heap.size w3) (.cells #[.int .i64 d.iss, .int .i64 0, .int .i64 1, .string ⟨#[]⟩] 42)
        have XS := hid (show BlockIs (w3.alloc (.cells #[.int .i64 d.iss, .int .i64 0, .int .i64 1, .string ⟨#[]⟩] 42)) w3.heap.size 42 [.int .i64 d.iss, .int .i64 0, .int .i64 1, .string ⟨#[]⟩] from heap_alloc_new w3 _)
        have S4 := hid (S3.out.on hbs)
        have X4 := X3.out.on hbs X3.out.lt
        have Y4 := hid (Y3.out.on hbs Y3.out.lt)
        have B4 := hid (below_via B3.out hbs)
        obtain ⟨W4, hW4⟩ : ∃ W, w3.alloc (.cells #[.int .i64 d.iss, .int .i64 0, .int .i64 1, .string ⟨#[]⟩] 42) = W := ⟨_, rfl⟩
        rw [hW4] at XS S4 X4 Y4 B4
        have z0 := X4.cell (j := 0) rfl
        have z1 := X4.cell (j := 1) rfl
        have z3 := X4.cell (j := 3) rfl
        have z10 := X4.cell (j := 10) rfl
        have z11 := X4.cell (j := 11) rfl
        have z12 := X4.cell (j := 12) rfl
        rw [HST.out] at z0
        have X4h := hid X4
        have hsbG : G2 < w3.heap.size := K3.out.lt
        clear hbs X4
        have c43 := XS.out.cell (j := 3) rfl
        have f43 := XS.out.thaw 3
        have s43 : W4.setCell ⟨w3.heap.size, 3, none⟩ (.string ⟨#[]⟩) = W4 := by rw [← hW4]; simp [go_sem]
        go_wp2_with (first | (go_at_call 22; with_reducible refine Calls.mono (N0.out _) ?_; rintro e w9 ⟨rfl, hw⟩; rw [hw]; clear hw w9) | fail)
        refine Calls.mono (l13Again_any W0.heap.size G2 d now ht ⟨hnb.1, by omega⟩ _ S4.out) ?_
        rintro e w5 ⟨rfl, h5, hk5⟩
        have XS5 := hid (hk5 _ _ _ XS.out (by decide))
        have Y5 := hid (Y4.out.on h5.2 (by omega))
        have B5 := hid (B4.out.trans (h5.2.mono hlt0))
        obtain ⟨⟨_, va5, vc5, hb5, hl5⟩, _⟩ := h5
        have K5 := hid hb5
        have L5 := hid hl5
        have k10 := hb5.cell (j := 10) rfl
        have j10 := hb5.thaw 10
        clear hb5 hl5 hk5
        obtain ⟨D, hD⟩ : ∃ D, pauseD now d = D := ⟨_, rfl⟩
        have hDo : D.owe = d.owe := by rw [← hD]; rfl
        have HDO := hid hDo
        rw [hD] at HD K5 L5
        dsimp only at K5 L5
        clear hDo hD
        obtain ⟨w6, hw6⟩ : ∃ V, w5.setCell ⟨G2, 10, none⟩ (.bool d.owe) = V := ⟨_, rfl⟩
        have K6 : Hid (BlockIs w6 G2 28 [.int .i64 D.st, .int .i64 D.iss, .int .i64 D.una, .int .i64 D.rcv, .string D.wait, .int .i64 D.sent, .int .i64 D.fin, .bool D.pf, .string D.inn, .slice va5 D.late.length vc5, .bool D.owe, .int .i64 D.due, .int .i64 D.times]) := by rw [← hw6, HDO.out]; exact K5.out.set 10 _
        have L6 : Hid (OwnsL w6 W0.heap.size D.late va5 vc5) := by rw [← hw6]; exact L5.out.setCell K5.out (by decide) 10 _
        have XS6 : Hid (BlockIs w6 w3.heap.size 42 [.int .i64 d.iss, .int .i64 0, .int .i64 1, .string ⟨#[]⟩]) := by rw [← hw6]; exact XS5.out.far (by omega) _
        have Y6 : Hid (BlockIs w6 (w.heap.size + 1) 28 [.int .i64 0, .int .i64 0, .int .i64 0, .int .i64 0, .string ⟨#[]⟩, .int .i64 0, .int .i64 0, .bool false, .string ⟨#[]⟩, .slice none 0 0, .bool false, .int .i64 0, .int .i64 0]) := by rw [← hw6]; exact Y5.out.far (by omega) _
        have B6 : Hid (Below w.heap.size w w6) := by rw [← hw6]; exact B5.out.setCell (by show _ ≤ G2; omega) _
        clear K5 L5 XS5 Y5 B5
        go_wp2
        refine wp_region_from (N := 69) (by kernel_rfl) (by kernel_rfl) rfl (by kernel_rfl) (fun W => Below w.heap.size w W ∧ BlockIs W G2 28 [.int .i64 D.st, .int .i64 D.iss, .int .i64 D.una, .int .i64 D.rcv, .string D.wait, .int .i64 D.sent, .int .i64 D.fin, .bool D.pf, .string D.inn, .slice va5 D.late.length vc5, .bool D.owe, .int .i64 D.due, .int .i64 D.times] ∧ OwnsL W W0.heap.size D.late va5 vc5 ∧ BlockIs W w3.heap.size 42 [.int .i64 d.iss, .int .i64 0, .int .i64 1, .string ⟨#[]⟩]) (fun j v _ W => match j with | 0 => v = .agg #[.int .i64 D.st, .int .i64 D.iss, .int .i64 D.una, .int .i64 D.rcv, .string D.wait, .int .i64 D.sent, .int .i64 D.fin, .bool D.pf, .string D.inn, .slice va5 D.late.length vc5, .bool D.owe, .int .i64 D.due, .int .i64 D.times] | 1 => v = .agg #[.int .i64 d.iss, .int .i64 0, .int .i64 1, .string ⟨#[]⟩] | 2 => ∃ p : Nat, v = .slice (some ⟨p, 0, none⟩) 1 1 ∧ w.heap.size ≤ p ∧ BlockIs W p 42 [.int .i64 d.iss, .int .i64 0, .int .i64 1, .string ⟨#[]⟩] | 3 => BlockIs W (w.heap.size + 1) 28 [.int .i64 D.st, .int .i64 D.iss, .int .i64 D.una, .int .i64 D.rcv, .string D.wait, .int .i64 D.sent, .int .i64 D.fin, .bool D.pf, .string D.inn, .slice va5 D.late.length vc5, .bool D.owe, .int .i64 D.due, .int .i64 D.times] | 4 => ∃ p : Nat, v = .slice (some ⟨p, 0, none⟩) 1 1 ∧ w.heap.size ≤ p ∧ BlockIs W p 42 [.int .i64 d.iss, .int .i64 0, .int .i64 1, .string ⟨#[]⟩] | _ => True) (fun i => i) (fun _ _ => false) (fun i x y => x.heap.size ≤ y.heap.size ∧ ∀ p ty cs, BlockIs x p ty cs → (i = 3 → ty = 28 → p ≠ w.heap.size + 1) → BlockIs y p ty cs) (fun q9 W => match q9 with | 0 => BlockIs W (w.heap.size + 1) 28 [.int .i64 0, .int .i64 0, .int .i64 0, .int .i64 0, .string ⟨#[]⟩, .int .i64 0, .int .i64 0, .bool false, .string ⟨#[]⟩, .slice none 0 0, .bool false, .int .i64 0, .int .i64 0] | _ => True) (fun m k => decide ((m, k) ∈ ([(0, 3)] : List (Nat × Nat)))) ?_ (fun _ => 0) (by kernel_rfl) (fun _ _ => rfl) ?_ ⟨below_via B6.out (below_drewN (Below.refl w6.heap.size w6) 1), K6.out.on (below_drewN (Below.refl w6.heap.size w6) 1) K6.out.lt, L6.out.on (below_drewN (Below.refl w6.heap.size w6) 1), XS6.out.on (below_drewN (Below.refl w6.heap.size w6) 1) XS6.out.lt⟩ (fun q9 => match q9 with | 0 => Y6.out.on (below_drewN (Below.refl w6.heap.size w6) 1) Y6.out.lt | _ + 1 => trivial) ?_ ?_
        · intro i m x y hen hxy hm
          match m, hen, hm with
          | 0, hen, hm =>
            simp at hen
            exact hxy.2 _ _ _ hm (fun e => absurd e hen)
          | n + 1, _, _ => exact trivial
        · intro i j v u x y hij hdd hwt hxy hg
          match j, hg with
          | 0, hg => exact hg
          | 1, hg => exact hg
          | 2, hg =>
            obtain ⟨p, e1, e2, e3⟩ := hg
            exact ⟨p, e1, e2, hxy.2 _ _ _ e3 (fun _ e => absurd e (by decide))⟩
          | 3, hg =>
            exact hxy.2 _ _ _ hg (fun e => absurd e hij)
          | 4, hg =>
            obtain ⟨p, e1, e2, e3⟩ := hg
            exact ⟨p, e1, e2, hxy.2 _ _ _ e3 (fun _ e => absurd e (by decide))⟩
          | n + 5, _ => exact trivial
        · refine ⟨?_, ?_, ?_, ?_, ?_, trivial⟩
          · intro A W hC hI hg hb
            have h6 : A.eval (.tmp 6) = .pointer (some ⟨G2, 0, none⟩) := hb 6 (base_of (by kernel_rfl))
            exact does_value (v := .agg #[.int .i64 D.st, .int .i64 D.iss, .int .i64 D.una, .int .i64 D.rcv, .string D.wait, .int .i64 D.sent, .int .i64 D.fin, .bool D.pf, .string D.inn, .slice va5 D.late.length vc5, .bool D.owe, .int .i64 D.due, .int .i64 D.times]) (w' := W) (by simp only [execOp, h6, load_str (cs := [.int .i64 D.st, .int .i64 D.iss, .int .i64 D.una, .int .i64 D.rcv, .string D.wait, .int .i64 D.sent, .int .i64 D.fin, .bool D.pf, .string D.inn, .slice va5 D.late.length vc5, .bool D.owe, .int .i64 D.due, .int .i64 D.times]) (r := []) (by rw [List.append_nil]; exact hC.2.1) rfl, Sem.run_bind, Sem.run_pure, Result.andThen_ok]) ⟨rfl, hC, Nat.le_refl _, fun _ _ _ h _ => h⟩
          · intro A W hC hI hg hb
            have h8 : A.eval (.tmp 8) = .pointer (some ⟨w3.heap.size, 0, none⟩) := hb 8 (base_of (by kernel_rfl))
            have hc0 := hC.2.2.2.cell (j := 0) rfl
            have hc1 := hC.2.2.2.cell (j := 1) rfl
            have hc2 := hC.2.2.2.cell (j := 2) rfl
            have hc3 := hC.2.2.2.cell (j := 3) rfl
            exact does_value (v := .agg #[.int .i64 d.iss, .int .i64 0, .int .i64 1, .string ⟨#[]⟩]) (w' := W) (by simp only [execOp, h8]; simp [go_sem, hc0, hc1, hc2, hc3]) ⟨rfl, hC, Nat.le_refl _, fun _ _ _ h _ => h⟩
          · intro A W hC hI hg hb
            have h67 : A.eval (.tmp 67) = .agg #[.int .i64 d.iss, .int .i64 0, .int .i64 1, .string ⟨#[]⟩] := hg 1 67 (by decide) rfl (by simp [Op.operands]) (by kernel_rfl) rfl
            simp [go_sem] at h67
            have ba := below_more (Below.refl W.heap.size W) (.cells #[.int .i64 d.iss, .int .i64 0, .int .i64 1, .string ⟨#[]⟩] 42)
            exact does_value (v := .slice (some ⟨W.heap.size, 0, none⟩) 1 1) (w' := W.alloc (.cells #[.int .i64 d.iss, .int .i64 0, .int .i64 1, .string ⟨#[]⟩] 42)) (by simp [execOp, go_sem, h67]) ⟨⟨_, rfl, hC.1.size, heap_alloc_new W _⟩, ⟨below_via hC.1 ba, hC.2.1.on ba hC.2.1.lt, hC.2.2.1.on ba, hC.2.2.2.on ba hC.2.2.2.lt⟩, ba.size, fun p ty cs h _ => h.on ba h.lt⟩
          · intro A W hC hI hg hb
            have h4 : A.eval (.tmp 4) = .pointer (some ⟨w.heap.size + 1, 0, none⟩) := hb 4 (base_of (by kernel_rfl))
            have h66 : A.eval (.tmp 66) = .agg #[.int .i64 D.st, .int .i64 D.iss, .int .i64 D.una, .int .i64 D.rcv, .string D.wait, .int .i64 D.sent, .int .i64 D.fin, .bool D.pf, .string D.inn, .slice va5 D.late.length vc5, .bool D.owe, .int .i64 D.due, .int .i64 D.times] := hg 0 66 (by decide) rfl (by simp [Op.operands]) (by kernel_rfl) rfl
            have hb1 : BlockIs W (w.heap.size + 1) 28 [.int .i64 0, .int .i64 0, .int .i64 0, .int .i64 0, .string ⟨#[]⟩, .int .i64 0, .int .i64 0, .bool false, .string ⟨#[]⟩, .slice none 0 0, .bool false, .int .i64 0, .int .i64 0] := hI 0 (by kernel_rfl)
            have hst := store_str hb1 rfl (A := #[.int .i64 D.st, .int .i64 D.iss, .int .i64 D.una, .int .i64 D.rcv, .string D.wait, .int .i64 D.sent, .int .i64 D.fin, .bool D.pf, .string D.inn, .slice va5 D.late.length vc5, .bool D.owe, .int .i64 D.due, .int .i64 D.times]) rfl (strCells_all D _ _)
            exact does_skip (w' := W.setRow (w.heap.size + 1) #[.int .i64 D.st, .int .i64 D.iss, .int .i64 D.una, .int .i64 D.rcv, .string D.wait, .int .i64 D.sent, .int .i64 D.fin, .bool D.pf, .string D.inn, .slice va5 D.late.length vc5, .bool D.owe, .int .i64 D.due, .int .i64 D.times]) (by simp only [execOp, h4, h66, hst, Sem.run_bind, Sem.run_pure, Result.andThen_ok]) ⟨store_block hb1 _, ⟨below_setRow hC.1 (by omega) _, block_setRow hC.2.1 (by omega) _, row_setRow hb1 hC.2.2.1 (by decide) _, block_setRow hC.2.2.2 (by omega) _⟩, by simp [World.setRow], fun p ty cs hp hne => block_setRow hp (fun e => by subst e; exact hne rfl (block_one hp hb1).1 rfl) _⟩
          · intro A W hC hI hg hb
            have g2 := hg 2 68 (by decide) rfl (by simp [Op.operands]) (by kernel_rfl) rfl
            obtain ⟨p, h68, hp1, hp2⟩ := g2
            exact does_value (v := .slice (some ⟨p, 0, none⟩) 1 1) (w' := W) (by simp only [execOp, h68]; simp [go_sem]) ⟨⟨p, rfl, hp1, hp2⟩, hC, Nat.le_refl _, fun _ _ _ h _ => h⟩
        · intro vs wE hC hI hg
          have h8 := hg 3 (by decide) (fun k => rfl)
          obtain ⟨p, h9, hp1, hp2⟩ := hg 4 (by decide) (fun k => rfl)
          change BlockIs wE (w.heap.size + 1) 28 [.int .i64 D.st, .int .i64 D.iss, .int .i64 D.una, .int .i64 D.rcv, .string D.wait, .int .i64 D.sent, .int .i64 D.fin, .bool D.pf, .string D.inn, .slice va5 D.late.length vc5, .bool D.owe, .int .i64 D.due, .int .i64 D.times] at h8
          change vs 4 = _ at h9
          clear hg hI
          change Exit.then _ _ _ (laidBy _ vs _ 5 _) wE
          simp only [laidBy, if_true, dstAt, List.getElem?_toArray, List.getElem?_cons_succ, List.getElem?_cons_zero, Option.bind_some]
          simp only [Act.put, List.setIfInBounds_toArray, List.set_cons_succ, List.set_cons_zero]
          rw [h9]
          have r0 := h8.cell (j := 0) rfl
          have r1 := h8.cell (j := 1) rfl
          have r2 := h8.cell (j := 2) rfl
          have r3 := h8.cell (j := 3) rfl
          have r4 := h8.cell (j := 4) rfl
          have r5 := h8.cell (j := 5) rfl
          have r6 := h8.cell (j := 6) rfl
          have r7 := h8.cell (j := 7) rfl
          have r8 := h8.cell (j := 8) rfl
          have r9 := h8.cell (j := 9) rfl
          have r10 := h8.cell (j := 10) rfl
          have r11 := h8.cell (j := 11) rfl
          have r12 := h8.cell (j := 12) rfl
          have HF := hid (show PushDid w D [⟨d.iss, 0, 1, ByteArray.empty⟩] (.returned (.tuple #[.agg #[.int .i64 D.st, .int .i64 D.iss, .int .i64 D.una, .int .i64 D.rcv, .string D.wait, .int .i64 D.sent, .int .i64 D.fin, .bool D.pf, .string D.inn, .slice va5 D.late.length vc5, .bool D.owe, .int .i64 D.due, .int .i64 D.times], .slice (some ⟨p, 0, none⟩) 1 1])) wE from ⟨va5, vc5, _, _, rfl, (OwnsL.own hC.2.2.1).1.down (by omega) (Nat.le_refl _), Or.inr ⟨p, [], rfl, hp1, hp2.lt, hp2⟩, hC.1⟩)
          clear hC h8 h9 hp1 hp2 K6 L6 XS6 Y6 B6
          go_wp2
          refine bodyPost_ret (v := .tuple #[.agg #[.int .i64 D.st, .int .i64 D.iss, .int .i64 D.una, .int .i64 D.rcv, .string D.wait, .int .i64 D.sent, .int .i64 D.fin, .bool D.pf, .string D.inn, .slice va5 D.late.length vc5, .bool D.owe, .int .i64 D.due, .int .i64 D.times], .slice (some ⟨p, 0, none⟩) 1 1]) (by simp [results, Try.results6, go_sem, r0, r1, r2, r3, r4, r5, r6, r7, r8, r9, r10, r11, r12]) rfl (by rw [HD.out.1, HD.out.2]; exact HF.out)
      · have HG : Hid (pushD now d = greetD now d ∧ pushSegs now d = greetSegs now d ⟨d.iss, d.rcv, 3, ByteArray.empty⟩) := by show _ ∧ _; rw [HD1.out.1, HD1.out.2]; simp [push1D, push1S, HST.out]
        clear hst HD1
        by_cases q1 : now < d.due
        · have HD : Hid (pushD now d = d ∧ pushSegs now d = []) := by show _ ∧ _; rw [HG.out.1, HG.out.2, greetD, greetSegs, tryB, decide_eq_false (by omega)]; exact ⟨rfl, rfl⟩
          clear HG
          have hbn := below_more (Below.refl w3.heap.size w3) (.cells #[] 42)
          have YN := hid (Y3.out.on hbn Y3.out.lt)
          have RN := hid (R3.out.on hbn)
          have BN := hid (below_via B3.out hbn)
          obtain ⟨WN, hWN⟩ : ∃ WN, w3.alloc (.cells #[] 42) = WN := ⟨_, rfl⟩
          rw [hWN] at YN RN BN
          clear hbn
          obtain ⟨U, hU⟩ : ∃ U, WN.setRow (w.heap.size + 1) #[.int .i64 d.st, .int .i64 d.iss, .int .i64 d.una, .int .i64 d.rcv, .string d.wait, .int .i64 d.sent, .int .i64 d.fin, .bool d.pf, .string d.inn, .slice va d.late.length vc, .bool d.owe, .int .i64 d.due, .int .i64 d.times] = U := ⟨_, rfl⟩
          have Y9 : BlockIs U (w.heap.size + 1) 28 [.int .i64 d.st, .int .i64 d.iss, .int .i64 d.una, .int .i64 d.rcv, .string d.wait, .int .i64 d.sent, .int .i64 d.fin, .bool d.pf, .string d.inn, .slice va d.late.length vc, .bool d.owe, .int .i64 d.due, .int .i64 d.times] := by rw [← hU]; exact store_block YN.out _
          have B9 : Hid (Below w.heap.size w U) := by rw [← hU]; exact below_setRow BN.out (by omega) _
          have R9 : Hid (OwnsL U W0.heap.size d.late va vc) := by rw [← hU]; exact RN.out.setRow YN.out (by decide) _
          have r0 := Y9.cell (j := 0) rfl
          have r1 := Y9.cell (j := 1) rfl
          have r2 := Y9.cell (j := 2) rfl
          have r3 := Y9.cell (j := 3) rfl
          have r4 := Y9.cell (j := 4) rfl
          have r5 := Y9.cell (j := 5) rfl
          have r6 := Y9.cell (j := 6) rfl
          have r7 := Y9.cell (j := 7) rfl
          have r8 := Y9.cell (j := 8) rfl
          have r9 := Y9.cell (j := 9) rfl
          have r10 := Y9.cell (j := 10) rfl
          have r11 := Y9.cell (j := 11) rfl
          have r12 := Y9.cell (j := 12) rfl
          clear Y9
          go_wp2_with (first | (go_at_call 22; with_reducible refine Calls.mono (N0.out _) ?_; rintro e w9 ⟨rfl, hw⟩; rw [hw]; clear hw w9) | (refine wpList_load_str K3.out rfl rfl _ rfl rfl ?_) | (refine wpList_store_str YN.out rfl rfl _ _ rfl _ rfl rfl rfl (strCells_all d _ _) ?_; rw [hU]) | fail)
          refine bodyPost_ret (v := .tuple #[.agg #[.int .i64 d.st, .int .i64 d.iss, .int .i64 d.una, .int .i64 d.rcv, .string d.wait, .int .i64 d.sent, .int .i64 d.fin, .bool d.pf, .string d.inn, .slice va d.late.length vc, .bool d.owe, .int .i64 d.due, .int .i64 d.times], .slice (some ⟨w3.heap.size, 0, none⟩) 0 0]) (by simp [results, Try.results6, go_sem, r0, r1, r2, r3, r4, r5, r6, r7, r8, r9, r10, r11, r12]) rfl (by rw [HD.out.1, HD.out.2]; exact ⟨va, vc, _, _, rfl, R9.out.own.1.down (by omega) (Nat.le_refl _), Or.inl rfl, B9.out⟩)
        by_cases q2 : 12 ≤ d.times
        · have HD : Hid (pushD now d = d ∧ pushSegs now d = []) := by show _ ∧ _; rw [HG.out.1, HG.out.2, greetD, greetSegs, tryB, decide_eq_false (show ¬ d.times < 12 by omega), Bool.and_false]; exact ⟨rfl, rfl⟩
          clear HG
          have hbn := below_more (Below.refl w3.heap.size w3) (.cells #[] 42)
          have YN := hid (Y3.out.on hbn Y3.out.lt)
          have RN := hid (R3.out.on hbn)
          have BN := hid (below_via B3.out hbn)
          obtain ⟨WN, hWN⟩ : ∃ WN, w3.alloc (.cells #[] 42) = WN := ⟨_, rfl⟩
          rw [hWN] at YN RN BN
          clear hbn
          obtain ⟨U, hU⟩ : ∃ U, WN.setRow (w.heap.size + 1) #[.int .i64 d.st, .int .i64 d.iss, .int .i64 d.una, .int .i64 d.rcv, .string d.wait, .int .i64 d.sent, .int .i64 d.fin, .bool d.pf, .string d.inn, .slice va d.late.length vc, .bool d.owe, .int .i64 d.due, .int .i64 d.times] = U := ⟨_, rfl⟩
          have Y9 : BlockIs U (w.heap.size + 1) 28 [.int .i64 d.st, .int .i64 d.iss, .int .i64 d.una, .int .i64 d.rcv, .string d.wait, .int .i64 d.sent, .int .i64 d.fin, .bool d.pf, .string d.inn, .slice va d.late.length vc, .bool d.owe, .int .i64 d.due, .int .i64 d.times] := by rw [← hU]; exact store_block YN.out _
          have B9 : Hid (Below w.heap.size w U) := by rw [← hU]; exact below_setRow BN.out (by omega) _
          have R9 : Hid (OwnsL U W0.heap.size d.late va vc) := by rw [← hU]; exact RN.out.setRow YN.out (by decide) _
          have r0 := Y9.cell (j := 0) rfl
          have r1 := Y9.cell (j := 1) rfl
          have r2 := Y9.cell (j := 2) rfl
          have r3 := Y9.cell (j := 3) rfl
          have r4 := Y9.cell (j := 4) rfl
          have r5 := Y9.cell (j := 5) rfl
          have r6 := Y9.cell (j := 6) rfl
          have r7 := Y9.cell (j := 7) rfl
          have r8 := Y9.cell (j := 8) rfl
          have r9 := Y9.cell (j := 9) rfl
          have r10 := Y9.cell (j := 10) rfl
          have r11 := Y9.cell (j := 11) rfl
          have r12 := Y9.cell (j := 12) rfl
          clear Y9
          go_wp2_with (first | (go_at_call 22; with_reducible refine Calls.mono (N0.out _) ?_; rintro e w9 ⟨rfl, hw⟩; rw [hw]; clear hw w9) | (refine wpList_load_str K3.out rfl rfl _ rfl rfl ?_) | (refine wpList_store_str YN.out rfl rfl _ _ rfl _ rfl rfl rfl (strCells_all d _ _) ?_; rw [hU]) | fail)
          refine bodyPost_ret (v := .tuple #[.agg #[.int .i64 d.st, .int .i64 d.iss, .int .i64 d.una, .int .i64 d.rcv, .string d.wait, .int .i64 d.sent, .int .i64 d.fin, .bool d.pf, .string d.inn, .slice va d.late.length vc, .bool d.owe, .int .i64 d.due, .int .i64 d.times], .slice (some ⟨w3.heap.size, 0, none⟩) 0 0]) (by simp [results, Try.results6, go_sem, r0, r1, r2, r3, r4, r5, r6, r7, r8, r9, r10, r11, r12]) rfl (by rw [HD.out.1, HD.out.2]; exact ⟨va, vc, _, _, rfl, R9.out.own.1.down (by omega) (Nat.le_refl _), Or.inl rfl, B9.out⟩)
        have HD : Hid (pushD now d = pauseD now d ∧ pushSegs now d = [⟨d.iss, d.rcv, 3, ByteArray.empty⟩]) := by show _ ∧ _; rw [HG.out.1, HG.out.2, greetD, greetSegs, tryB, decide_eq_true (show d.due ≤ now by omega), decide_eq_true (show d.times < 12 by omega)]; exact ⟨rfl, rfl⟩
        clear HG
        have S3 := hid (show StIs w3 W0.heap.size G2 d from ⟨hG20, va, vc, K3.out, R3.out⟩)
        have hbs := below_more (Below.refl w3.heap.size w3) (.cells #[.int .i64 d.iss, .int .i64 0, .int .i64 1, .string ⟨#[]⟩] 42)
        have XS := hid (show BlockIs (w3.alloc (.cells #[.int .i64 d.iss, .int .i64 0, .int .i64 1, .string ⟨#[]⟩] 42)) w3.heap.size 42 [.int .i64 d.iss, .int .i64 0, .int .i64 1, .string ⟨#[]⟩] from heap_alloc_new w3 _)
        have S4 := hid (S3.out.on hbs)
        have X4 := X3.out.on hbs X3.out.lt
        have Y4 := hid (Y3.out.on hbs Y3.out.lt)
        have B4 := hid (below_via B3.out hbs)
        obtain ⟨W4, hW4⟩ : ∃ W, w3.alloc (.cells #[.int .i64 d.iss, .int .i64 0, .int .i64 1, .string ⟨#[]⟩] 42) = W := ⟨_, rfl⟩
        rw [hW4] at XS S4 X4 Y4 B4
        have z0 := X4.cell (j := 0) rfl
        have z1 := X4.cell (j := 1) rfl
        have z3 := X4.cell (j := 3) rfl
        have z10 := X4.cell (j := 10) rfl
        have z11 := X4.cell (j := 11) rfl
        have z12 := X4.cell (j := 12) rfl
        rw [HST.out] at z0
        have X4h := hid X4
        have hsbG : G2 < w3.heap.size := K3.out.lt
        clear hbs X4
        have c43 := XS.out.cell (j := 3) rfl
        have f43 := XS.out.thaw 3
        have s43 : W4.setCell ⟨w3.heap.size, 3, none⟩ (.string ⟨#[]⟩) = W4 := by rw [← hW4]; simp [go_sem]
        have g2 := XS.out.cell (j := 2) rfl
        have t2 := XS.out.thaw 2
        obtain ⟨V1, hV1⟩ : ∃ V, W4.setCell ⟨w3.heap.size, 2, none⟩ (.int .i64 3) = V := ⟨_, rfl⟩
        have XS1 : Hid (BlockIs V1 w3.heap.size 42 [.int .i64 d.iss, .int .i64 0, .int .i64 3, .string ⟨#[]⟩]) := by rw [← hV1]; exact XS.out.set 2 _
        have X1 : Hid (BlockIs V1 w.heap.size 28 [.int .i64 d.st, .int .i64 d.iss, .int .i64 d.una, .int .i64 d.rcv, .string d.wait, .int .i64 d.sent, .int .i64 d.fin, .bool d.pf, .string d.inn, .slice ao d.late.length cap, .bool d.owe, .int .i64 d.due, .int .i64 d.times]) := by rw [← hV1]; exact X4h.out.far (by omega) _
        have e3 := X1.out.cell (j := 3) rfl
        have g1 := XS1.out.cell (j := 1) rfl
        have t1 := XS1.out.thaw 1
        obtain ⟨V2, hV2⟩ : ∃ V, V1.setCell ⟨w3.heap.size, 1, none⟩ (.int .i64 d.rcv) = V := ⟨_, rfl⟩
        have XS2 : Hid (BlockIs V2 w3.heap.size 42 [.int .i64 d.iss, .int .i64 d.rcv, .int .i64 3, .string ⟨#[]⟩]) := by rw [← hV2]; exact XS1.out.set 1 _
        have X2 : Hid (BlockIs V2 w.heap.size 28 [.int .i64 d.st, .int .i64 d.iss, .int .i64 d.una, .int .i64 d.rcv, .string d.wait, .int .i64 d.sent, .int .i64 d.fin, .bool d.pf, .string d.inn, .slice ao d.late.length cap, .bool d.owe, .int .i64 d.due, .int .i64 d.times]) := by rw [← hV2]; exact X1.out.far (by omega) _
        have e10 := X2.out.cell (j := 10) rfl
        have Y42 : Hid (BlockIs V2 (w.heap.size + 1) 28 [.int .i64 0, .int .i64 0, .int .i64 0, .int .i64 0, .string ⟨#[]⟩, .int .i64 0, .int .i64 0, .bool false, .string ⟨#[]⟩, .slice none 0 0, .bool false, .int .i64 0, .int .i64 0]) := by rw [← hV2, ← hV1]; exact (Y4.out.far (by omega) _).far (by omega) _
        have B42 : Hid (Below w.heap.size w V2) := by rw [← hV2, ← hV1]; exact (B4.out.setCell (by show _ ≤ w3.heap.size; omega) _).setCell (by show _ ≤ w3.heap.size; omega) _
        have S42 : Hid (StIs V2 W0.heap.size G2 d) := by
          rw [← hV2, ← hV1]
          obtain ⟨q0, qa, qc, qb, ql⟩ := S4.out
          have k1 := XS.out
          exact ⟨q0, qa, qc, (qb.far (by omega) _).far (by omega) _, (ql.setCell k1 (by decide) 2 _).setCell (k1.set 2 _) (by decide) 1 _⟩
        go_wp2_with (first | (go_at_call 22; with_reducible refine Calls.mono (N0.out _) ?_; rintro e w9 ⟨rfl, hw⟩; rw [hw]; clear hw w9) | fail)
        refine Calls.mono (l13Again_any W0.heap.size G2 d now ht ⟨hnb.1, by omega⟩ _ S42.out) ?_
        rintro e w5 ⟨rfl, h5, hk5⟩
        have XS5 := hid (hk5 _ _ _ XS2.out (by decide))
        have Y5 := hid (Y42.out.on h5.2 (by omega))
        have B5 := hid (B42.out.trans (h5.2.mono hlt0))
        obtain ⟨⟨_, va5, vc5, hb5, hl5⟩, _⟩ := h5
        have K5 := hid hb5
        have L5 := hid hl5
        have k10 := hb5.cell (j := 10) rfl
        have j10 := hb5.thaw 10
        clear hb5 hl5 hk5
        obtain ⟨D, hD⟩ : ∃ D, pauseD now d = D := ⟨_, rfl⟩
        have hDo : D.owe = d.owe := by rw [← hD]; rfl
        have HDO := hid hDo
        rw [hD] at HD K5 L5
        dsimp only at K5 L5
        clear hDo hD
        obtain ⟨w6, hw6⟩ : ∃ V, w5.setCell ⟨G2, 10, none⟩ (.bool d.owe) = V := ⟨_, rfl⟩
        have K6 : Hid (BlockIs w6 G2 28 [.int .i64 D.st, .int .i64 D.iss, .int .i64 D.una, .int .i64 D.rcv, .string D.wait, .int .i64 D.sent, .int .i64 D.fin, .bool D.pf, .string D.inn, .slice va5 D.late.length vc5, .bool D.owe, .int .i64 D.due, .int .i64 D.times]) := by rw [← hw6, HDO.out]; exact K5.out.set 10 _
        have L6 : Hid (OwnsL w6 W0.heap.size D.late va5 vc5) := by rw [← hw6]; exact L5.out.setCell K5.out (by decide) 10 _
        have XS6 : Hid (BlockIs w6 w3.heap.size 42 [.int .i64 d.iss, .int .i64 d.rcv, .int .i64 3, .string ⟨#[]⟩]) := by rw [← hw6]; exact XS5.out.far (by omega) _
        have Y6 : Hid (BlockIs w6 (w.heap.size + 1) 28 [.int .i64 0, .int .i64 0, .int .i64 0, .int .i64 0, .string ⟨#[]⟩, .int .i64 0, .int .i64 0, .bool false, .string ⟨#[]⟩, .slice none 0 0, .bool false, .int .i64 0, .int .i64 0]) := by rw [← hw6]; exact Y5.out.far (by omega) _
        have B6 : Hid (Below w.heap.size w w6) := by rw [← hw6]; exact B5.out.setCell (by show _ ≤ G2; omega) _
        clear K5 L5 XS5 Y5 B5
        go_wp2
        refine wp_region_from (N := 69) (by kernel_rfl) (by kernel_rfl) rfl (by kernel_rfl) (fun W => Below w.heap.size w W ∧ BlockIs W G2 28 [.int .i64 D.st, .int .i64 D.iss, .int .i64 D.una, .int .i64 D.rcv, .string D.wait, .int .i64 D.sent, .int .i64 D.fin, .bool D.pf, .string D.inn, .slice va5 D.late.length vc5, .bool D.owe, .int .i64 D.due, .int .i64 D.times] ∧ OwnsL W W0.heap.size D.late va5 vc5 ∧ BlockIs W w3.heap.size 42 [.int .i64 d.iss, .int .i64 d.rcv, .int .i64 3, .string ⟨#[]⟩]) (fun j v _ W => match j with | 0 => v = .agg #[.int .i64 D.st, .int .i64 D.iss, .int .i64 D.una, .int .i64 D.rcv, .string D.wait, .int .i64 D.sent, .int .i64 D.fin, .bool D.pf, .string D.inn, .slice va5 D.late.length vc5, .bool D.owe, .int .i64 D.due, .int .i64 D.times] | 1 => v = .agg #[.int .i64 d.iss, .int .i64 d.rcv, .int .i64 3, .string ⟨#[]⟩] | 2 => ∃ p : Nat, v = .slice (some ⟨p, 0, none⟩) 1 1 ∧ w.heap.size ≤ p ∧ BlockIs W p 42 [.int .i64 d.iss, .int .i64 d.rcv, .int .i64 3, .string ⟨#[]⟩] | 3 => BlockIs W (w.heap.size + 1) 28 [.int .i64 D.st, .int .i64 D.iss, .int .i64 D.una, .int .i64 D.rcv, .string D.wait, .int .i64 D.sent, .int .i64 D.fin, .bool D.pf, .string D.inn, .slice va5 D.late.length vc5, .bool D.owe, .int .i64 D.due, .int .i64 D.times] | 4 => ∃ p : Nat, v = .slice (some ⟨p, 0, none⟩) 1 1 ∧ w.heap.size ≤ p ∧ BlockIs W p 42 [.int .i64 d.iss, .int .i64 d.rcv, .int .i64 3, .string ⟨#[]⟩] | _ => True) (fun i => i) (fun _ _ => false) (fun i x y => x.heap.size ≤ y.heap.size ∧ ∀ p ty cs, BlockIs x p ty cs → (i = 3 → ty = 28 → p ≠ w.heap.size + 1) → BlockIs y p ty cs) (fun q9 W => match q9 with | 0 => BlockIs W (w.heap.size + 1) 28 [.int .i64 0, .int .i64 0, .int .i64 0, .int .i64 0, .string ⟨#[]⟩, .int .i64 0, .int .i64 0, .bool false, .string ⟨#[]⟩, .slice none 0 0, .bool false, .int .i64 0, .int .i64 0] | _ => True) (fun m k => decide ((m, k) ∈ ([(0, 3)] : List (Nat × Nat)))) ?_ (fun _ => 0) (by kernel_rfl) (fun _ _ => rfl) ?_ ⟨below_via B6.out (below_drewN (Below.refl w6.heap.size w6) 1), K6.out.on (below_drewN (Below.refl w6.heap.size w6) 1) K6.out.lt, L6.out.on (below_drewN (Below.refl w6.heap.size w6) 1), XS6.out.on (below_drewN (Below.refl w6.heap.size w6) 1) XS6.out.lt⟩ (fun q9 => match q9 with | 0 => Y6.out.on (below_drewN (Below.refl w6.heap.size w6) 1) Y6.out.lt | _ + 1 => trivial) ?_ ?_
        · intro i m x y hen hxy hm
          match m, hen, hm with
          | 0, hen, hm =>
            simp at hen
            exact hxy.2 _ _ _ hm (fun e => absurd e hen)
          | n + 1, _, _ => exact trivial
        · intro i j v u x y hij hdd hwt hxy hg
          match j, hg with
          | 0, hg => exact hg
          | 1, hg => exact hg
          | 2, hg =>
            obtain ⟨p, e1, e2, e3⟩ := hg
            exact ⟨p, e1, e2, hxy.2 _ _ _ e3 (fun _ e => absurd e (by decide))⟩
          | 3, hg =>
            exact hxy.2 _ _ _ hg (fun e => absurd e hij)
          | 4, hg =>
            obtain ⟨p, e1, e2, e3⟩ := hg
            exact ⟨p, e1, e2, hxy.2 _ _ _ e3 (fun _ e => absurd e (by decide))⟩
          | n + 5, _ => exact trivial
        · refine ⟨?_, ?_, ?_, ?_, ?_, trivial⟩
          · intro A W hC hI hg hb
            have h6 : A.eval (.tmp 6) = .pointer (some ⟨G2, 0, none⟩) := hb 6 (base_of (by kernel_rfl))
            exact does_value (v := .agg #[.int .i64 D.st, .int .i64 D.iss, .int .i64 D.una, .int .i64 D.rcv, .string D.wait, .int .i64 D.sent, .int .i64 D.fin, .bool D.pf, .string D.inn, .slice va5 D.late.length vc5, .bool D.owe, .int .i64 D.due, .int .i64 D.times]) (w' := W) (by simp only [execOp, h6, load_str (cs := [.int .i64 D.st, .int .i64 D.iss, .int .i64 D.una, .int .i64 D.rcv, .string D.wait, .int .i64 D.sent, .int .i64 D.fin, .bool D.pf, .string D.inn, .slice va5 D.late.length vc5, .bool D.owe, .int .i64 D.due, .int .i64 D.times]) (r := []) (by rw [List.append_nil]; exact hC.2.1) rfl, Sem.run_bind, Sem.run_pure, Result.andThen_ok]) ⟨rfl, hC, Nat.le_refl _, fun _ _ _ h _ => h⟩
          · intro A W hC hI hg hb
            have h8 : A.eval (.tmp 8) = .pointer (some ⟨w3.heap.size, 0, none⟩) := hb 8 (base_of (by kernel_rfl))
            have hc0 := hC.2.2.2.cell (j := 0) rfl
            have hc1 := hC.2.2.2.cell (j := 1) rfl
            have hc2 := hC.2.2.2.cell (j := 2) rfl
            have hc3 := hC.2.2.2.cell (j := 3) rfl
            exact does_value (v := .agg #[.int .i64 d.iss, .int .i64 d.rcv, .int .i64 3, .string ⟨#[]⟩]) (w' := W) (by simp only [execOp, h8]; simp [go_sem, hc0, hc1, hc2, hc3]) ⟨rfl, hC, Nat.le_refl _, fun _ _ _ h _ => h⟩
          · intro A W hC hI hg hb
            have h67 : A.eval (.tmp 67) = .agg #[.int .i64 d.iss, .int .i64 d.rcv, .int .i64 3, .string ⟨#[]⟩] := hg 1 67 (by decide) rfl (by simp [Op.operands]) (by kernel_rfl) rfl
            simp [go_sem] at h67
            have ba := below_more (Below.refl W.heap.size W) (.cells #[.int .i64 d.iss, .int .i64 d.rcv, .int .i64 3, .string ⟨#[]⟩] 42)
            exact does_value (v := .slice (some ⟨W.heap.size, 0, none⟩) 1 1) (w' := W.alloc (.cells #[.int .i64 d.iss, .int .i64 d.rcv, .int .i64 3, .string ⟨#[]⟩] 42)) (by simp [execOp, go_sem, h67]) ⟨⟨_, rfl, hC.1.size, heap_alloc_new W _⟩, ⟨below_via hC.1 ba, hC.2.1.on ba hC.2.1.lt, hC.2.2.1.on ba, hC.2.2.2.on ba hC.2.2.2.lt⟩, ba.size, fun p ty cs h _ => h.on ba h.lt⟩
          · intro A W hC hI hg hb
            have h4 : A.eval (.tmp 4) = .pointer (some ⟨w.heap.size + 1, 0, none⟩) := hb 4 (base_of (by kernel_rfl))
            have h66 : A.eval (.tmp 66) = .agg #[.int .i64 D.st, .int .i64 D.iss, .int .i64 D.una, .int .i64 D.rcv, .string D.wait, .int .i64 D.sent, .int .i64 D.fin, .bool D.pf, .string D.inn, .slice va5 D.late.length vc5, .bool D.owe, .int .i64 D.due, .int .i64 D.times] := hg 0 66 (by decide) rfl (by simp [Op.operands]) (by kernel_rfl) rfl
            have hb1 : BlockIs W (w.heap.size + 1) 28 [.int .i64 0, .int .i64 0, .int .i64 0, .int .i64 0, .string ⟨#[]⟩, .int .i64 0, .int .i64 0, .bool false, .string ⟨#[]⟩, .slice none 0 0, .bool false, .int .i64 0, .int .i64 0] := hI 0 (by kernel_rfl)
            have hst := store_str hb1 rfl (A := #[.int .i64 D.st, .int .i64 D.iss, .int .i64 D.una, .int .i64 D.rcv, .string D.wait, .int .i64 D.sent, .int .i64 D.fin, .bool D.pf, .string D.inn, .slice va5 D.late.length vc5, .bool D.owe, .int .i64 D.due, .int .i64 D.times]) rfl (strCells_all D _ _)
            exact does_skip (w' := W.setRow (w.heap.size + 1) #[.int .i64 D.st, .int .i64 D.iss, .int .i64 D.una, .int .i64 D.rcv, .string D.wait, .int .i64 D.sent, .int .i64 D.fin, .bool D.pf, .string D.inn, .slice va5 D.late.length vc5, .bool D.owe, .int .i64 D.due, .int .i64 D.times]) (by simp only [execOp, h4, h66, hst, Sem.run_bind, Sem.run_pure, Result.andThen_ok]) ⟨store_block hb1 _, ⟨below_setRow hC.1 (by omega) _, block_setRow hC.2.1 (by omega) _, row_setRow hb1 hC.2.2.1 (by decide) _, block_setRow hC.2.2.2 (by omega) _⟩, by simp [World.setRow], fun p ty cs hp hne => block_setRow hp (fun e => by subst e; exact hne rfl (block_one hp hb1).1 rfl) _⟩
          · intro A W hC hI hg hb
            have g2 := hg 2 68 (by decide) rfl (by simp [Op.operands]) (by kernel_rfl) rfl
            obtain ⟨p, h68, hp1, hp2⟩ := g2
            exact does_value (v := .slice (some ⟨p, 0, none⟩) 1 1) (w' := W) (by simp only [execOp, h68]; simp [go_sem]) ⟨⟨p, rfl, hp1, hp2⟩, hC, Nat.le_refl _, fun _ _ _ h _ => h⟩
        · intro vs wE hC hI hg
          have h8 := hg 3 (by decide) (fun k => rfl)
          obtain ⟨p, h9, hp1, hp2⟩ := hg 4 (by decide) (fun k => rfl)
          change BlockIs wE (w.heap.size + 1) 28 [.int .i64 D.st, .int .i64 D.iss, .int .i64 D.una, .int .i64 D.rcv, .string D.wait, .int .i64 D.sent, .int .i64 D.fin, .bool D.pf, .string D.inn, .slice va5 D.late.length vc5, .bool D.owe, .int .i64 D.due, .int .i64 D.times] at h8
          change vs 4 = _ at h9
          clear hg hI
          change Exit.then _ _ _ (laidBy _ vs _ 5 _) wE
          simp only [laidBy, if_true, dstAt, List.getElem?_toArray, List.getElem?_cons_succ, List.getElem?_cons_zero, Option.bind_some]
          simp only [Act.put, List.setIfInBounds_toArray, List.set_cons_succ, List.set_cons_zero]
          rw [h9]
          have r0 := h8.cell (j := 0) rfl
          have r1 := h8.cell (j := 1) rfl
          have r2 := h8.cell (j := 2) rfl
          have r3 := h8.cell (j := 3) rfl
          have r4 := h8.cell (j := 4) rfl
          have r5 := h8.cell (j := 5) rfl
          have r6 := h8.cell (j := 6) rfl
          have r7 := h8.cell (j := 7) rfl
          have r8 := h8.cell (j := 8) rfl
          have r9 := h8.cell (j := 9) rfl
          have r10 := h8.cell (j := 10) rfl
          have r11 := h8.cell (j := 11) rfl
          have r12 := h8.cell (j := 12) rfl
          have HF := hid (show PushDid w D [⟨d.iss, d.rcv, 3, ByteArray.empty⟩] (.returned (.tuple #[.agg #[.int .i64 D.st, .int .i64 D.iss, .int .i64 D.una, .int .i64 D.rcv, .string D.wait, .int .i64 D.sent, .int .i64 D.fin, .bool D.pf, .string D.inn, .slice va5 D.late.length vc5, .bool D.owe, .int .i64 D.due, .int .i64 D.times], .slice (some ⟨p, 0, none⟩) 1 1])) wE from ⟨va5, vc5, _, _, rfl, (OwnsL.own hC.2.2.1).1.down (by omega) (Nat.le_refl _), Or.inr ⟨p, [], rfl, hp1, hp2.lt, hp2⟩, hC.1⟩)
          clear hC h8 h9 hp1 hp2 K6 L6 XS6 Y6 B6
          go_wp2
          refine bodyPost_ret (v := .tuple #[.agg #[.int .i64 D.st, .int .i64 D.iss, .int .i64 D.una, .int .i64 D.rcv, .string D.wait, .int .i64 D.sent, .int .i64 D.fin, .bool D.pf, .string D.inn, .slice va5 D.late.length vc5, .bool D.owe, .int .i64 D.due, .int .i64 D.times], .slice (some ⟨p, 0, none⟩) 1 1]) (by simp [results, Try.results6, go_sem, r0, r1, r2, r3, r4, r5, r6, r7, r8, r9, r10, r11, r12]) rfl (by rw [HD.out.1, HD.out.2]; exact HF.out)
      · have HD : Hid (pushD now d = openD now d ∧ pushSegs now d = openSegs now d) := by show _ ∧ _; rw [HD1.out.1, HD1.out.2]; simp [push1D, push1S, HST.out]
        clear hst HD1
        have S3 := hid (show StIs w3 W0.heap.size G2 d from ⟨hG20, va, vc, K3.out, R3.out⟩)
        go_wp2_with (first | (go_at_call 22; with_reducible refine Calls.mono (N0.out _) ?_; rintro e w9 ⟨rfl, hw⟩; rw [hw]; clear hw w9) | fail)
        refine Calls.mono (l13Open_any W0.heap.size G2 d now HR.out ⟨hnb.1, by omega⟩ _ S3.out) ?_
        rintro e w5 ⟨u, q, rfl, h5, hr5⟩
        have Y5 := hid (Y3.out.on h5.2 (by omega))
        have B5 := hid (B3.out.trans (h5.2.mono hlt0))
        obtain ⟨D, hD⟩ : ∃ D, openD now d = D := ⟨_, rfl⟩
        obtain ⟨L, hL⟩ : ∃ L, openSegs now d = L := ⟨_, rfl⟩
        rw [hD] at h5 HD
        rw [hL] at hr5 HD
        simp only [hL]
        obtain ⟨⟨_, va5, vc5, hb5, hl5⟩, _⟩ := h5
        have K5 := hid hb5
        have L5 := hid hl5
        have R5 := hid hr5
        clear hb5 hl5 hr5 hD hL
        obtain ⟨U, hU⟩ : ∃ U, w5.setRow (w.heap.size + 1) #[.int .i64 D.st, .int .i64 D.iss, .int .i64 D.una, .int .i64 D.rcv, .string D.wait, .int .i64 D.sent, .int .i64 D.fin, .bool D.pf, .string D.inn, .slice va5 D.late.length vc5, .bool D.owe, .int .i64 D.due, .int .i64 D.times] = U := ⟨_, rfl⟩
        have Y9 : BlockIs U (w.heap.size + 1) 28 [.int .i64 D.st, .int .i64 D.iss, .int .i64 D.una, .int .i64 D.rcv, .string D.wait, .int .i64 D.sent, .int .i64 D.fin, .bool D.pf, .string D.inn, .slice va5 D.late.length vc5, .bool D.owe, .int .i64 D.due, .int .i64 D.times] := by rw [← hU]; exact store_block Y5.out _
        have B9 : Hid (Below w.heap.size w U) := by rw [← hU]; exact below_setRow B5.out (by omega) _
        have L9 : Hid (OwnsL U W0.heap.size D.late va5 vc5) := by rw [← hU]; exact L5.out.setRow Y5.out (by decide) _
        have R9 : Hid (U.ownsRow W0.heap.size 42 4 (.slice u L.length q) L.length (segCells L)) := by rw [← hU]; exact row_setRow Y5.out R5.out (by decide) _
        have r0 := Y9.cell (j := 0) rfl
        have r1 := Y9.cell (j := 1) rfl
        have r2 := Y9.cell (j := 2) rfl
        have r3 := Y9.cell (j := 3) rfl
        have r4 := Y9.cell (j := 4) rfl
        have r5 := Y9.cell (j := 5) rfl
        have r6 := Y9.cell (j := 6) rfl
        have r7 := Y9.cell (j := 7) rfl
        have r8 := Y9.cell (j := 8) rfl
        have r9 := Y9.cell (j := 9) rfl
        have r10 := Y9.cell (j := 10) rfl
        have r11 := Y9.cell (j := 11) rfl
        have r12 := Y9.cell (j := 12) rfl
        clear Y9
        go_wp2_with (first | (refine wpList_load_str K5.out rfl rfl _ rfl rfl ?_) | (refine wpList_store_str Y5.out rfl rfl _ _ rfl _ rfl rfl rfl (strCells_all D _ _) ?_; rw [hU]) | fail)
        refine bodyPost_ret (v := .tuple #[.agg #[.int .i64 D.st, .int .i64 D.iss, .int .i64 D.una, .int .i64 D.rcv, .string D.wait, .int .i64 D.sent, .int .i64 D.fin, .bool D.pf, .string D.inn, .slice va5 D.late.length vc5, .bool D.owe, .int .i64 D.due, .int .i64 D.times], .slice u L.length q]) (by simp [results, Try.results6, go_sem, r0, r1, r2, r3, r4, r5, r6, r7, r8, r9, r10, r11, r12]) rfl (by rw [HD.out.1, HD.out.2]; exact ⟨va5, vc5, u, q, rfl, L9.out.own.1.down (by omega) (Nat.le_refl _), (segs_own R9.out).down (by omega) (Nat.le_refl _), B9.out⟩)
end Go.Proofs.Ytcmcmhiodkjflaa
