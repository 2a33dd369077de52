/-
  The walk of spec.Hear: what comes; what l13Body does is its premise.
  The walk of spec.Hear: what comes; what l13Body does is its premise.
-/
import Derived.Test.YtngcldjkpcmidaaJoint22
import Derived.Test.YtngcldjkpcmidaaJoint23
import Derived.Test.YtngcldjkpcmidaaJoint25
import Derived.Test.YtngcldjkpcmidaaJoint26
import Derived.Deep.QuietTactic
import Derived.BigQuiet
import Derived.Lib.QuietBelow
import Derived.Test.YtngcldjkpcmidaaJoint27
import Derived.Test.YtngcldjkpcmidaaJoint28
namespace Go.Proofs.Ytngcldjkpcmidaa
open Go.RowKit

theorem hearS4_no {s : SegD} {d : StrD} (h : ¬ (strOk d = true ∧ segOk s = true)) : hearD s d = d := by rw [hearD, if_neg h]
theorem hearS4_long {s : SegD} {d : StrD} (h1 : strOk d = true) (h2 : segOk s = true) (h : 1000 < (hear0 s d).inn.size) : hearD s d = d := by rw [hearD, if_pos ⟨h1, h2⟩, if_pos h]
theorem hearS4_yes {s : SegD} {d : StrD} (h1 : strOk d = true) (h2 : segOk s = true) (h : ¬ 1000 < (hear0 s d).inn.size) : hearD s d = hear0 s d := by rw [hearD, if_pos ⟨h1, h2⟩, if_neg h]
set_option maxRecDepth 1000000 in
set_option maxHeartbeats 8000000 in
theorem specHear_st4 (d : StrD) (ao : Option Addr) (cap : Nat) (hs : d.Small) (s : SegD) (hsb : s.body.size ≤ 1048576) (CB : strOk d = true → segOk s = true → ∀ lo g, BodyDoesS lo g s d) (hin : strOk d = true → segOk s = true → (hear0 s d).inn.size ≤ 1048576) (hst0 : strOk d = true → segOk s = true → d.st = 4) (w : World) (ha : LatesAt w ao d.late) :
    Calls Try.prog 7 #[.agg #[.int .i64 d.st, .int .i64 d.iss, .int .i64 d.una, .int .i64 d.rcv, .string d.wait, .int .i64 d.sent, .int .i64 d.fin, .bool d.pf, .string d.inn, .slice ao d.late.length cap, .bool d.owe, .int .i64 d.due, .int .i64 d.times], .agg #[.int .i64 s.num, .int .i64 s.ack, .int .i64 s.flags, .string s.body]] w fun e w' => StrDid1 w (hearD s d) e w' := by
  obtain ⟨hb0, hx0, hx1, hx2⟩ := four_log w (.cells #[.int .i64 d.st, .int .i64 d.iss, .int .i64 d.una, .int .i64 d.rcv, .string d.wait, .int .i64 d.sent, .int .i64 d.fin, .bool d.pf, .string d.inn, .slice ao d.late.length cap, .bool d.owe, .int .i64 d.due, .int .i64 d.times] 31) (.cells #[.int .i64 s.num, .int .i64 s.ack, .int .i64 s.flags, .string s.body] 34) (.cells #[.int .i64 0, .int .i64 0, .int .i64 0, .int .i64 0, .string ⟨#[]⟩, .int .i64 0, .int .i64 0, .bool false, .string ⟨#[]⟩, .slice none 0 0, .bool false, .int .i64 0, .int .i64 0] 31)
  obtain ⟨W0, hW0⟩ : ∃ W0, ((w.alloc (.cells #[.int .i64 d.st, .int .i64 d.iss, .int .i64 d.una, .int .i64 d.rcv, .string d.wait, .int .i64 d.sent, .int .i64 d.fin, .bool d.pf, .string d.inn, .slice ao d.late.length cap, .bool d.owe, .int .i64 d.due, .int .i64 d.times] 31)).alloc (.cells #[.int .i64 s.num, .int .i64 s.ack, .int .i64 s.flags, .string s.body] 34)).alloc (.cells #[.int .i64 0, .int .i64 0, .int .i64 0, .int .i64 0, .string ⟨#[]⟩, .int .i64 0, .int .i64 0, .bool false, .string ⟨#[]⟩, .slice none 0 0, .bool false, .int .i64 0, .int .i64 0] 31) = W0 := ⟨_, rfl⟩
  rw [hW0] at hb0 hx0 hx1 hx2
  have X0 := hid (show BlockIs W0 w.heap.size 31 [.int .i64 d.st, .int .i64 d.iss, .int .i64 d.una, .int .i64 d.rcv, .string d.wait, .int .i64 d.sent, .int .i64 d.fin, .bool d.pf, .string d.inn, .slice ao d.late.length cap, .bool d.owe, .int .i64 d.due, .int .i64 d.times] from hx0)
  have S0 := hid (show BlockIs W0 (w.heap.size + 1) 34 [.int .i64 s.num, .int .i64 s.ack, .int .i64 s.flags, .string s.body] from hx1)
  have Y0 := hid (show BlockIs W0 (w.heap.size + 1 + 1) 31 [.int .i64 0, .int .i64 0, .int .i64 0, .int .i64 0, .string ⟨#[]⟩, .int .i64 0, .int .i64 0, .bool false, .string ⟨#[]⟩, .slice none 0 0, .bool false, .int .i64 0, .int .i64 0] from hx2)
  have B0 := hid hb0
  have HA := hid ha
  have HS := hid hs
  have HCB := hid CB
  have hlt0 := hb0.size
  have hlt2 : w.heap.size + 1 + 1 < W0.heap.size := Y0.out.lt
  have C := hid (specCopy_any d ao cap hs.late _ (ha.on hb0))
  unfold CopyDid at C
  clear hb0 hx0 hx1 hx2 ha hs CB
  unfold StrDid1
  go_enter Try.func7, Try.ntmps7
  go_wp2_with (first | (refine wpList_load_str X0.out rfl rfl _ rfl rfl ?_) | fail)
  refine Calls.mono C.out ?_
  rintro e w1 ⟨va, vc, rfl, hr1, b1⟩
  have hsz1 := b1.size
  have OV := hid (str_over w1 #[.int .i64 0, .int .i64 0, .int .i64 0, .int .i64 0, .string ⟨#[]⟩, .int .i64 0, .int .i64 0, .bool false, .string ⟨#[]⟩, .slice none 0 0, .bool false, .int .i64 0, .int .i64 0] #[.int .i64 d.st, .int .i64 d.iss, .int .i64 d.una, .int .i64 d.rcv, .string d.wait, .int .i64 d.sent, .int .i64 d.fin, .bool d.pf, .string d.inn, .slice va d.late.length vc, .bool d.owe, .int .i64 d.due, .int .i64 d.times] 31)
  have KZ := hid (show BlockIs (w1.alloc (.cells #[.int .i64 0, .int .i64 0, .int .i64 0, .int .i64 0, .string ⟨#[]⟩, .int .i64 0, .int .i64 0, .bool false, .string ⟨#[]⟩, .slice none 0 0, .bool false, .int .i64 0, .int .i64 0] 31)) w1.heap.size 31 [.int .i64 0, .int .i64 0, .int .i64 0, .int .i64 0, .string ⟨#[]⟩, .int .i64 0, .int .i64 0, .bool false, .string ⟨#[]⟩, .slice none 0 0, .bool false, .int .i64 0, .int .i64 0] from heap_alloc_new w1 _)
  have hb2 := below_more (Below.refl w1.heap.size w1) (.cells #[.int .i64 d.st, .int .i64 d.iss, .int .i64 d.una, .int .i64 d.rcv, .string d.wait, .int .i64 d.sent, .int .i64 d.fin, .bool d.pf, .string d.inn, .slice va d.late.length vc, .bool d.owe, .int .i64 d.due, .int .i64 d.times] 31)
  have K2 := hid (show BlockIs (w1.alloc (.cells #[.int .i64 d.st, .int .i64 d.iss, .int .i64 d.una, .int .i64 d.rcv, .string d.wait, .int .i64 d.sent, .int .i64 d.fin, .bool d.pf, .string d.inn, .slice va d.late.length vc, .bool d.owe, .int .i64 d.due, .int .i64 d.times] 31)) w1.heap.size 31 [.int .i64 d.st, .int .i64 d.iss, .int .i64 d.una, .int .i64 d.rcv, .string d.wait, .int .i64 d.sent, .int .i64 d.fin, .bool d.pf, .string d.inn, .slice va d.late.length vc, .bool d.owe, .int .i64 d.due, .int .i64 d.times] from heap_alloc_new w1 _)
  have X1 := X0.out.on b1 X0.out.lt
  have S1 := S0.out.on b1 S0.out.lt
  have Y1 := Y0.out.on b1 Y0.out.lt
  have X2 := hid (X1.on hb2 X1.lt)
  have S2 := hid (S1.on hb2 S1.lt)
  have Y2 := hid (Y1.on hb2 Y1.lt)
  have R2 := hid (hr1.on hb2)
  have B2 := hid (below_via (below_via B0.out b1) hb2)
  obtain ⟨W2, hW2⟩ : ∃ W2, w1.alloc (.cells #[.int .i64 d.st, .int .i64 d.iss, .int .i64 d.una, .int .i64 d.rcv, .string d.wait, .int .i64 d.sent, .int .i64 d.fin, .bool d.pf, .string d.inn, .slice va d.late.length vc, .bool d.owe, .int .i64 d.due, .int .i64 d.times] 31) = W2 := ⟨_, rfl⟩
  rw [hW2] at OV K2 X2 S2 Y2 R2 B2
  clear hb2 X1 S1 Y1 hr1 b1 C X0 S0 Y0 B0
  obtain ⟨G2, hG2⟩ : ∃ G, w1.heap.size = G := ⟨_, rfl⟩
  have hG2l : w.heap.size + 1 + 1 < G2 := by omega
  have hG20 : W0.heap.size ≤ G2 := by omega
  go_wp2_with (first | (refine wpList_store_str KZ.out rfl rfl _ _ rfl _ rfl rfl rfl (strCells_all d _ _) ?_; rw [OV.out]) | (refine wpList_load_str X2.out rfl rfl _ rfl rfl ?_) | fail)
  refine Calls.mono (specStreamOk_any d ao cap HS.out _ (HA.out.on B2.out)) ?_
  rintro e w3 ⟨rfl, b3⟩
  rw [hG2] at K2 KZ
  have X3 := hid (X2.out.on b3 X2.out.lt)
  have S3 := hid (S2.out.on b3 S2.out.lt)
  have Y3 := hid (Y2.out.on b3 Y2.out.lt)
  have K3 := hid (K2.out.on b3 K2.out.lt)
  have R3 := hid (R2.out.on b3)
  have B3 := hid (below_via B2.out b3)
  have s30 := S3.out.cell (j := 0) rfl
  have s31 := S3.out.cell (j := 1) rfl
  have s32 := S3.out.cell (j := 2) rfl
  have s33 := S3.out.cell (j := 3) rfl
  clear b3 X2 S2 Y2 K2 R2 B2 KZ OV hG2
  cases hk : strOk d with
  | false =>
    have HD : Hid (hearD s d = d) := hearS4_no (by rw [hk]; simp)
    clear hk s30 s31 s32 s33
    obtain ⟨U, hU⟩ : ∃ U, w3.setRow (w.heap.size + 1 + 1) #[.int .i64 d.st, .int .i64 d.iss, .int .i64 d.una, .int .i64 d.rcv, .string d.wait, .int .i64 d.sent, .int .i64 d.fin, .bool d.pf, .string d.inn, .slice va d.late.length vc, .bool d.owe, .int .i64 d.due, .int .i64 d.times] = U := ⟨_, rfl⟩
    have Y9 : BlockIs U (w.heap.size + 1 + 1) 31 [.int .i64 d.st, .int .i64 d.iss, .int .i64 d.una, .int .i64 d.rcv, .string d.wait, .int .i64 d.sent, .int .i64 d.fin, .bool d.pf, .string d.inn, .slice va d.late.length vc, .bool d.owe, .int .i64 d.due, .int .i64 d.times] := by rw [← hU]; exact store_block Y3.out _
    have B9 : Hid (Below w.heap.size w U) := by rw [← hU]; exact below_setRow B3.out (by omega) _
    have R9 : Hid (OwnsL U w.heap.size (d).late va vc) := by rw [← hU]; exact (R3.out.down hlt0).setRow Y3.out (by decide) _
    have r0 := Y9.cell (j := 0) rfl
    have r1 := Y9.cell (j := 1) rfl
    have r2 := Y9.cell (j := 2) rfl
    have r3 := Y9.cell (j := 3) rfl
    have r4 := Y9.cell (j := 4) rfl
    have r5 := Y9.cell (j := 5) rfl
    have r6 := Y9.cell (j := 6) rfl
    have r7 := Y9.cell (j := 7) rfl
    have r8 := Y9.cell (j := 8) rfl
    have r9 := Y9.cell (j := 9) rfl
    have r10 := Y9.cell (j := 10) rfl
    have r11 := Y9.cell (j := 11) rfl
    have r12 := Y9.cell (j := 12) rfl
    clear Y9
    go_wp2_with (first | (refine wpList_load_str K3.out rfl rfl _ rfl rfl ?_) | (refine wpList_store_str Y3.out rfl rfl _ _ rfl _ rfl rfl rfl (strCells_all (d) _ _) ?_; rw [hU]) | fail)
    refine bodyPost_ret (v := .agg #[.int .i64 d.st, .int .i64 d.iss, .int .i64 d.una, .int .i64 d.rcv, .string d.wait, .int .i64 d.sent, .int .i64 d.fin, .bool d.pf, .string d.inn, .slice va d.late.length vc, .bool d.owe, .int .i64 d.due, .int .i64 d.times]) (by simp [results, Try.results7, go_sem, r0, r1, r2, r3, r4, r5, r6, r7, r8, r9, r10, r11, r12]) rfl (by rw [HD.out]; exact ⟨va, vc, rfl, R9.out.own.2, R9.out.own.1, B9.out⟩)
  | true =>
    have CS' := specSegOk_any s (by omega) w3
    cases hg : segOk s with
    | false =>
      rw [hg] at CS'
      have CS := hid CS'
      have HD : Hid (hearD s d = d) := hearS4_no (by rw [hg]; simp)
      clear hk hg CS'
      go_wp2_with fail
      refine Calls.mono CS.out ?_
      rintro e w4 ⟨rfl, b4⟩
      have Y4 := hid (Y3.out.on b4 Y3.out.lt)
      have K4 := hid (K3.out.on b4 K3.out.lt)
      have R4 := hid (R3.out.on b4)
      have B4 := hid (below_via B3.out b4)
      clear b4 CS s30 s31 s32 s33
      obtain ⟨U, hU⟩ : ∃ U, w4.setRow (w.heap.size + 1 + 1) #[.int .i64 d.st, .int .i64 d.iss, .int .i64 d.una, .int .i64 d.rcv, .string d.wait, .int .i64 d.sent, .int .i64 d.fin, .bool d.pf, .string d.inn, .slice va d.late.length vc, .bool d.owe, .int .i64 d.due, .int .i64 d.times] = U := ⟨_, rfl⟩
      have Y9 : BlockIs U (w.heap.size + 1 + 1) 31 [.int .i64 d.st, .int .i64 d.iss, .int .i64 d.una, .int .i64 d.rcv, .string d.wait, .int .i64 d.sent, .int .i64 d.fin, .bool d.pf, .string d.inn, .slice va d.late.length vc, .bool d.owe, .int .i64 d.due, .int .i64 d.times] := by rw [← hU]; exact store_block Y4.out _
      have B9 : Hid (Below w.heap.size w U) := by rw [← hU]; exact below_setRow B4.out (by omega) _
      have R9 : Hid (OwnsL U w.heap.size (d).late va vc) := by rw [← hU]; exact (R4.out.down hlt0).setRow Y4.out (by decide) _
      have r0 := Y9.cell (j := 0) rfl
      have r1 := Y9.cell (j := 1) rfl
      have r2 := Y9.cell (j := 2) rfl
      have r3 := Y9.cell (j := 3) rfl
      have r4 := Y9.cell (j := 4) rfl
      have r5 := Y9.cell (j := 5) rfl
      have r6 := Y9.cell (j := 6) rfl
      have r7 := Y9.cell (j := 7) rfl
      have r8 := Y9.cell (j := 8) rfl
      have r9 := Y9.cell (j := 9) rfl
      have r10 := Y9.cell (j := 10) rfl
      have r11 := Y9.cell (j := 11) rfl
      have r12 := Y9.cell (j := 12) rfl
      clear Y9
      go_wp2_with (first | (refine wpList_load_str K4.out rfl rfl _ rfl rfl ?_) | (refine wpList_store_str Y4.out rfl rfl _ _ rfl _ rfl rfl rfl (strCells_all (d) _ _) ?_; rw [hU]) | fail)
      refine bodyPost_ret (v := .agg #[.int .i64 d.st, .int .i64 d.iss, .int .i64 d.una, .int .i64 d.rcv, .string d.wait, .int .i64 d.sent, .int .i64 d.fin, .bool d.pf, .string d.inn, .slice va d.late.length vc, .bool d.owe, .int .i64 d.due, .int .i64 d.times]) (by simp [results, Try.results7, go_sem, r0, r1, r2, r3, r4, r5, r6, r7, r8, r9, r10, r11, r12]) rfl (by rw [HD.out]; exact ⟨va, vc, rfl, R9.out.own.2, R9.out.own.1, B9.out⟩)
    | true =>
      rw [hg] at CS'
      have CS := hid CS'
      have HG := hid hg
      have HK := hid hk
      have hR := strOk_iff.1 hk
      obtain ⟨_, _, ⟨h1, h2⟩, h8, _⟩ := segOk_iff.1 hg
      have h8' : s.body.size ≤ 8 := by omega
      have HR := hid hR
      have hst := hR.st
      have hs9 := hR.sent
      have hw9 := hR.wait
      have hin9 := hR.inn
      have hs24 : 0 ≤ d.sent ∧ d.sent ≤ 24 := by omega
      have hsw : d.sent ≤ d.wait.size := by omega
      have HB := hid (HCB.out hk hg)
      clear hk hg CS' hR h8 HCB hs9
      have C1' := fun w => l12Has_one s.num s.ack s.flags s.body h1 h2 w
      have C2' := fun w => l12Has_two s.num s.ack s.flags s.body h1 h2 w
      obtain ⟨sy, hsy⟩ : ∃ b, synB s = b := ⟨_, rfl⟩
      obtain ⟨ak, hak⟩ : ∃ b, ackB s = b := ⟨_, rfl⟩
      have HSY := hid hsy
      have HAK := hid hak
      simp only [show decide (s.flags % 2 = 1) = sy from hsy] at C1'
      simp only [show decide (s.flags / 2 % 2 = 1) = ak from hak] at C2'
      have C1 := hid C1'
      have C2 := hid C2'
      clear C1' C2' hsy hak
      go_wp2_with fail
      refine Calls.mono CS.out ?_
      rintro e w4 ⟨rfl, b4⟩
      have X4 := hid (X3.out.on b4 X3.out.lt)
      have S4 := hid (S3.out.on b4 S3.out.lt)
      have Y4 := hid (Y3.out.on b4 Y3.out.lt)
      have K4 := hid (K3.out.on b4 K3.out.lt)
      have R4 := hid (R3.out.on b4)
      have B4 := hid (below_via B3.out b4)
      have s40 := S4.out.cell (j := 0) rfl
      have s41 := S4.out.cell (j := 1) rfl
      have s42 := S4.out.cell (j := 2) rfl
      have s43 := S4.out.cell (j := 3) rfl
      clear b4 X3 S3 Y3 K3 R3 B3 s30 s31 s32 s33
      clear CS
      go_wp2_with fail
      refine Calls.mono (C1.out _) ?_
      rintro e w5 ⟨rfl, b5⟩
      have X5 := hid (X4.out.on b5 X4.out.lt)
      have S5 := hid (S4.out.on b5 S4.out.lt)
      have Y5 := hid (Y4.out.on b5 Y4.out.lt)
      have K5 := hid (K4.out.on b5 K4.out.lt)
      have R5 := hid (R4.out.on b5)
      have B5 := hid (below_via B4.out b5)
      have s50 := S5.out.cell (j := 0) rfl
      have s51 := S5.out.cell (j := 1) rfl
      have s52 := S5.out.cell (j := 2) rfl
      have s53 := S5.out.cell (j := 3) rfl
      clear b5 X4 S4 Y4 K4 R4 B4 s40 s41 s42 s43
      go_wp2_with fail
      refine Calls.mono (C2.out _) ?_
      rintro e w6 ⟨rfl, b6⟩
      have X6 := hid (X5.out.on b6 X5.out.lt)
      have S6 := hid (S5.out.on b6 S5.out.lt)
      have Y6 := hid (Y5.out.on b6 Y5.out.lt)
      have K6 := hid (K5.out.on b6 K5.out.lt)
      have R6 := hid (R5.out.on b6)
      have B6 := hid (below_via B5.out b6)
      have s60 := S6.out.cell (j := 0) rfl
      have s61 := S6.out.cell (j := 1) rfl
      have s62 := S6.out.cell (j := 2) rfl
      have s63 := S6.out.cell (j := 3) rfl
      clear b6 X5 S5 Y5 K5 R5 B5 s50 s51 s52 s53
      clear C1 C2
      have S7 := hid (show StIs w6 W0.heap.size G2 d from ⟨hG20, va, vc, K6.out, R6.out⟩)
      have k0 := K6.out.cell (j := 0) rfl
      have k2 := K6.out.cell (j := 2) rfl
      have k3 := K6.out.cell (j := 3) rfl
      have k8 := K6.out.cell (j := 8) rfl
      have k10 := K6.out.cell (j := 10) rfl
      have k11 := K6.out.cell (j := 11) rfl
      have k12 := K6.out.cell (j := 12) rfl
      have t0 := K6.out.thaw 0
      have t2 := K6.out.thaw 2
      have t3 := K6.out.thaw 3
      have t10 := K6.out.thaw 10
      have t11 := K6.out.thaw 11
      have t12 := K6.out.thaw 12
      have x0 := X6.out.cell (j := 0) rfl
      have x1 := X6.out.cell (j := 1) rfl
      obtain ⟨st, hst2⟩ : ∃ st, d.st = st := ⟨_, rfl⟩
      have HST := hid hst2
      rw [hst2] at x0 hst
      clear hst2
      have NA := hid (fun w => specAddNum_any s.num 1 w)
      obtain ⟨ia, hia⟩ : ∃ z, addNum d.iss 1 = z := ⟨_, rfl⟩
      have HIA := hid hia
      have NI' := fun w => specAddNum_any d.iss 1 w
      rw [hia] at NI'
      have NI := hid NI'
      clear NI' hia
      obtain rfl : st = 4 := by rw [← HST.out]; exact hst0 HK.out HG.out
      · clear hst
        have HD0 : Hid (hear0 s d = heardD s d) := by show _ = _; simp [hear0, HST.out]
        have EB := hid S7.out.hs
        have YB := Y6
        have BB := B6
        have XB := X6
        have SB6 := S6
        have E0 : Hid (HsTo W0.heap.size G2 w6 w6 (d)) := EB
        go_wp2_with fail
        refine Calls.mono (l13Heard_any W0.heap.size G2 (d) s h1 h2 h8' hs24 hsw hw9 (HB.out _ _) _ E0.out.1.1) ?_
        rintro e V ⟨rfl, h9⟩
        have EV := hid (E0.out.trans h9)
        have XV := hid (X6.out.on EV.out.1.2 (by omega))
        clear h9
        obtain ⟨DD, hDD⟩ : ∃ DD, heardD s d = DD := ⟨_, rfl⟩
        rw [hDD] at EV HD0
        have HDD := hid hDD
        obtain ⟨⟨⟨_, va5, vc5, hb5, hl5⟩, hB5⟩, hK5⟩ := EV.out
        have Y5 := hid (hK5 _ _ _ Y6.out (by omega) (by decide))
        have B5 := hid (B6.out.trans (hB5.mono hlt0))
        have K5 := hid hb5
        have L5 := hid (hl5.down hlt0)
        have c8 := hb5.cell (j := 8) rfl
        clear hb5 hl5 hB5 hK5
        have hi6 : DD.inn.size ≤ 1048576 := by rw [← HD0.out]; exact hin HK.out HG.out
        by_cases hq5 : (1000 : Int) < (DD.inn.size : Int)
        · have HD : Hid (hearD s d = d) := hearS4_long HK.out HG.out (by rw [HD0.out]; omega)
          go_wp2_with (first | (refine wpList_load_str XV.out rfl rfl _ rfl rfl ?_) | fail)
          refine Calls.mono (specCopy_any d ao cap HS.out.late _ (HA.out.on B5.out)) ?_
          rintro e w8 ⟨va8, vc8, rfl, hr8, b8⟩
          have Y8 := hid (Y5.out.on b8 Y5.out.lt)
          have B8 := hid (below_via B5.out b8)
          have L8 := hid (hr8.down B5.out.size)
          clear hr8 b8
          obtain ⟨U, hU⟩ : ∃ U, w8.setRow (w.heap.size + 1 + 1) #[.int .i64 d.st, .int .i64 d.iss, .int .i64 d.una, .int .i64 d.rcv, .string d.wait, .int .i64 d.sent, .int .i64 d.fin, .bool d.pf, .string d.inn, .slice va8 d.late.length vc8, .bool d.owe, .int .i64 d.due, .int .i64 d.times] = U := ⟨_, rfl⟩
          have Y9 : BlockIs U (w.heap.size + 1 + 1) 31 [.int .i64 d.st, .int .i64 d.iss, .int .i64 d.una, .int .i64 d.rcv, .string d.wait, .int .i64 d.sent, .int .i64 d.fin, .bool d.pf, .string d.inn, .slice va8 d.late.length vc8, .bool d.owe, .int .i64 d.due, .int .i64 d.times] := by rw [← hU]; exact store_block Y8.out _
          have B9 : Hid (Below w.heap.size w U) := by rw [← hU]; exact below_setRow B8.out (by omega) _
          have R9 : Hid (OwnsL U w.heap.size (d).late va8 vc8) := by rw [← hU]; exact L8.out.setRow Y8.out (by decide) _
          have r0 := Y9.cell (j := 0) rfl
          have r1 := Y9.cell (j := 1) rfl
          have r2 := Y9.cell (j := 2) rfl
          have r3 := Y9.cell (j := 3) rfl
          have r4 := Y9.cell (j := 4) rfl
          have r5 := Y9.cell (j := 5) rfl
          have r6 := Y9.cell (j := 6) rfl
          have r7 := Y9.cell (j := 7) rfl
          have r8 := Y9.cell (j := 8) rfl
          have r9 := Y9.cell (j := 9) rfl
          have r10 := Y9.cell (j := 10) rfl
          have r11 := Y9.cell (j := 11) rfl
          have r12 := Y9.cell (j := 12) rfl
          clear Y9
          go_wp2_with (first | (refine wpList_store_str Y8.out rfl rfl _ _ rfl _ rfl rfl rfl (strCells_all (d) _ _) ?_; rw [hU]) | fail)
          refine bodyPost_ret (v := .agg #[.int .i64 d.st, .int .i64 d.iss, .int .i64 d.una, .int .i64 d.rcv, .string d.wait, .int .i64 d.sent, .int .i64 d.fin, .bool d.pf, .string d.inn, .slice va8 d.late.length vc8, .bool d.owe, .int .i64 d.due, .int .i64 d.times]) (by simp [results, Try.results7, go_sem, r0, r1, r2, r3, r4, r5, r6, r7, r8, r9, r10, r11, r12]) rfl (by rw [HD.out]; exact ⟨va8, vc8, rfl, R9.out.own.2, R9.out.own.1, B9.out⟩)
        · skip
          have HD : Hid (hearD s d = DD) := by show _ = _; rw [hearS4_yes HK.out HG.out (by rw [HD0.out]; omega), HD0.out]
          obtain ⟨U, hU⟩ : ∃ U, V.setRow (w.heap.size + 1 + 1) #[.int .i64 DD.st, .int .i64 DD.iss, .int .i64 DD.una, .int .i64 DD.rcv, .string DD.wait, .int .i64 DD.sent, .int .i64 DD.fin, .bool DD.pf, .string DD.inn, .slice va5 DD.late.length vc5, .bool DD.owe, .int .i64 DD.due, .int .i64 DD.times] = U := ⟨_, rfl⟩
          have Y9 : BlockIs U (w.heap.size + 1 + 1) 31 [.int .i64 DD.st, .int .i64 DD.iss, .int .i64 DD.una, .int .i64 DD.rcv, .string DD.wait, .int .i64 DD.sent, .int .i64 DD.fin, .bool DD.pf, .string DD.inn, .slice va5 DD.late.length vc5, .bool DD.owe, .int .i64 DD.due, .int .i64 DD.times] := by rw [← hU]; exact store_block Y5.out _
          have B9 : Hid (Below w.heap.size w U) := by rw [← hU]; exact below_setRow B5.out (by omega) _
          have R9 : Hid (OwnsL U w.heap.size (DD).late va5 vc5) := by rw [← hU]; exact L5.out.setRow Y5.out (by decide) _
          have r0 := Y9.cell (j := 0) rfl
          have r1 := Y9.cell (j := 1) rfl
          have r2 := Y9.cell (j := 2) rfl
          have r3 := Y9.cell (j := 3) rfl
          have r4 := Y9.cell (j := 4) rfl
          have r5 := Y9.cell (j := 5) rfl
          have r6 := Y9.cell (j := 6) rfl
          have r7 := Y9.cell (j := 7) rfl
          have r8 := Y9.cell (j := 8) rfl
          have r9 := Y9.cell (j := 9) rfl
          have r10 := Y9.cell (j := 10) rfl
          have r11 := Y9.cell (j := 11) rfl
          have r12 := Y9.cell (j := 12) rfl
          clear Y9
          go_wp2_with (first | (refine wpList_load_str K5.out rfl rfl _ rfl rfl ?_) | (refine wpList_store_str Y5.out rfl rfl _ _ rfl _ rfl rfl rfl (strCells_all (DD) _ _) ?_; rw [hU]) | fail)
          refine bodyPost_ret (v := .agg #[.int .i64 DD.st, .int .i64 DD.iss, .int .i64 DD.una, .int .i64 DD.rcv, .string DD.wait, .int .i64 DD.sent, .int .i64 DD.fin, .bool DD.pf, .string DD.inn, .slice va5 DD.late.length vc5, .bool DD.owe, .int .i64 DD.due, .int .i64 DD.times]) (by simp [results, Try.results7, go_sem, r0, r1, r2, r3, r4, r5, r6, r7, r8, r9, r10, r11, r12]) rfl (by rw [HD.out]; exact ⟨va5, vc5, rfl, R9.out.own.2, R9.out.own.1, B9.out⟩)
end Go.Proofs.Ytngcldjkpcmidaa

namespace Go.Proofs.Ytngcldjkpcmidaa
open Go.RowKit

theorem specHear_with (d : StrD) (ao : Option Addr) (cap : Nat) (hs : d.Small) (s : SegD) (hsb : s.body.size ≤ 1048576) (CB : strOk d = true → segOk s = true → ∀ lo g, BodyDoesS lo g s d) (hin : strOk d = true → segOk s = true → (hear0 s d).inn.size ≤ 1048576) (w : World) (ha : LatesAt w ao d.late) :
    Calls Try.prog 7 #[.agg #[.int .i64 d.st, .int .i64 d.iss, .int .i64 d.una, .int .i64 d.rcv, .string d.wait, .int .i64 d.sent, .int .i64 d.fin, .bool d.pf, .string d.inn, .slice ao d.late.length cap, .bool d.owe, .int .i64 d.due, .int .i64 d.times], .agg #[.int .i64 s.num, .int .i64 s.ack, .int .i64 s.flags, .string s.body]] w fun e w' => StrDid1 w (hearD s d) e w' := by
  by_cases h : strOk d = true ∧ segOk s = true
  · have h4 := (strOk_iff.1 h.1).st
    obtain e | e | e | e | e : d.st = 0 ∨ d.st = 1 ∨ d.st = 2 ∨ d.st = 3 ∨ d.st = 4 := by omega
    · exact specHear_st0 d ao cap hs s hsb CB hin (fun _ _ => e) w ha
    · exact specHear_st1 d ao cap hs s hsb CB hin (fun _ _ => e) w ha
    · exact specHear_st2 d ao cap hs s hsb CB hin (fun _ _ => e) w ha
    · exact specHear_st3 d ao cap hs s hsb CB hin (fun _ _ => e) w ha
    · exact specHear_st4 d ao cap hs s hsb CB hin (fun _ _ => e) w ha
  · exact specHear_st0 d ao cap hs s hsb CB hin (fun h1 h2 => absurd ⟨h1, h2⟩ h) w ha
end Go.Proofs.Ytngcldjkpcmidaa
