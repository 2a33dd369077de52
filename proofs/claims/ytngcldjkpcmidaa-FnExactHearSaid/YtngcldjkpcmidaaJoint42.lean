/-
  The walk of impl.Hear: what comes; what takeBody does is its premise.
-/
import Derived.Test.YtngcldjkpcmidaaJoint37
import Derived.Test.YtngcldjkpcmidaaJoint40
import Derived.Test.YtngcldjkpcmidaaJoint41
import Derived.Test.YtngcldjkpcmidaaJoint31
namespace Go.Proofs.Ytngcldjkpcmidaa
open Go.RowKit

/-- a stream at the beginning of a block is read whole -/
theorem wpList_load_ep {ops : Array Oper} {rest : List Oper} {op : Oper} {a : Act} {w : World} {Q : Exit → Act → World → Prop} {b : Nat} {t : TypeId} {cs r : List Value} (hb : BlockIs w b t (cs ++ r)) (hn : cs.length = 13) (hgd : op.guard = none) (x : Operand) (ho : op.op = .load 31 x)
    (hx : a.eval x = .pointer (some ⟨b, 0, none⟩)) (h : wpList Try.prog ops Q rest (a.put op.dst (.agg cs.toArray)) w) : wpList Try.prog ops Q (op :: rest) a w :=
  wpList_plain hgd fun _ hK => by
    unfold Oper.wp execOp
    simp only [ho, hx, load_str hb hn, Sem.run_bind, Sem.run_pure, Result.andThen_ok]
    exact hK _ _ h
theorem hear_no {s : SegD} {d : StrD} (h : ¬ (strOk d = true ∧ segOk s = true)) : hearD s d = d := by rw [hearD, if_neg h]
theorem hear_long {s : SegD} {d : StrD} (h1 : strOk d = true) (h2 : segOk s = true) (h : 1000 < (hear0 s d).inn.size) : hearD s d = d := by rw [hearD, if_pos ⟨h1, h2⟩, if_pos h]
theorem hear_yes {s : SegD} {d : StrD} (h1 : strOk d = true) (h2 : segOk s = true) (h : ¬ 1000 < (hear0 s d).inn.size) : hearD s d = hear0 s d := by rw [hearD, if_pos ⟨h1, h2⟩, if_neg h]
set_option maxRecDepth 1000000 in
set_option maxHeartbeats 4000000 in
theorem implHear_if (d : StrD) (ao : Option Addr) (cap : Nat) (hs : d.Small) (s : SegD) (hsb : s.body.size ≤ 1048576) (CB : strOk d = true → segOk s = true → ∀ lo g, BodyDoes lo g 0 [] s d) (hin : strOk d = true → segOk s = true → (hear0 s d).inn.size ≤ 1048576) (w : World) (ha : LatesAt w ao d.late) :
    Calls Try.prog 10 #[.agg #[.int .i64 d.st, .int .i64 d.iss, .int .i64 d.una, .int .i64 d.rcv, .string d.wait, .int .i64 d.sent, .int .i64 d.fin, .bool d.pf, .string d.inn, .slice ao d.late.length cap, .bool d.owe, .int .i64 d.due, .int .i64 d.times], .agg #[.int .i64 s.num, .int .i64 s.ack, .int .i64 s.flags, .string s.body]] w fun e w' => StrDid1 w (hearD s d) e w' := by
  obtain ⟨hb0, hx0, hx1, hx2⟩ := four_log w (.cells #[.int .i64 d.st, .int .i64 d.iss, .int .i64 d.una, .int .i64 d.rcv, .string d.wait, .int .i64 d.sent, .int .i64 d.fin, .bool d.pf, .string d.inn, .slice ao d.late.length cap, .bool d.owe, .int .i64 d.due, .int .i64 d.times] 31) (.cells #[.int .i64 s.num, .int .i64 s.ack, .int .i64 s.flags, .string s.body] 34) (.cells #[.int .i64 0, .int .i64 0, .int .i64 0, .int .i64 0, .string ⟨#[]⟩, .int .i64 0, .int .i64 0, .bool false, .string ⟨#[]⟩, .slice none 0 0, .bool false, .int .i64 0, .int .i64 0] 31)
  obtain ⟨W0, hW0⟩ : ∃ W0, ((w.alloc (.cells #[.int .i64 d.st, .int .i64 d.iss, .int .i64 d.una, .int .i64 d.rcv, .string d.wait, .int .i64 d.sent, .int .i64 d.fin, .bool d.pf, .string d.inn, .slice ao d.late.length cap, .bool d.owe, .int .i64 d.due, .int .i64 d.times] 31)).alloc (.cells #[.int .i64 s.num, .int .i64 s.ack, .int .i64 s.flags, .string s.body] 34)).alloc (.cells #[.int .i64 0, .int .i64 0, .int .i64 0, .int .i64 0, .string ⟨#[]⟩, .int .i64 0, .int .i64 0, .bool false, .string ⟨#[]⟩, .slice none 0 0, .bool false, .int .i64 0, .int .i64 0] 31) = W0 := ⟨_, rfl⟩
  rw [hW0] at hb0 hx0 hx1 hx2
  have X0 := hid (show BlockIs W0 w.heap.size 31 [.int .i64 d.st, .int .i64 d.iss, .int .i64 d.una, .int .i64 d.rcv, .string d.wait, .int .i64 d.sent, .int .i64 d.fin, .bool d.pf, .string d.inn, .slice ao d.late.length cap, .bool d.owe, .int .i64 d.due, .int .i64 d.times] from hx0)
  have S0 := hid (show BlockIs W0 (w.heap.size + 1) 34 [.int .i64 s.num, .int .i64 s.ack, .int .i64 s.flags, .string s.body] from hx1)
  have Y0 := hid (show BlockIs W0 (w.heap.size + 1 + 1) 31 [.int .i64 0, .int .i64 0, .int .i64 0, .int .i64 0, .string ⟨#[]⟩, .int .i64 0, .int .i64 0, .bool false, .string ⟨#[]⟩, .slice none 0 0, .bool false, .int .i64 0, .int .i64 0] from hx2)
  have B0 := hid hb0
  have HA := hid ha
  have HS := hid hs
  have HCB := hid CB
  have hlt0 := hb0.size
  have hlt2 : w.heap.size + 1 + 1 < W0.heap.size := Y0.out.lt
  clear hb0 hx0 hx1 hx2 ha hs CB
  unfold StrDid1
  go_enter Try.func10, Try.ntmps10
  go_wp2_with (first | (refine wpList_load_str X0.out rfl rfl _ rfl rfl ?_) | fail)
  refine Calls.mono (implStreamOk_any d ao cap HS.out _ (HA.out.on B0.out)) ?_
  rintro e w1 ⟨rfl, b1⟩
  have X1 := hid (X0.out.on b1 X0.out.lt)
  have S1 := hid (S0.out.on b1 S0.out.lt)
  have Y1 := hid (Y0.out.on b1 Y0.out.lt)
  have B1 := hid (below_via B0.out b1)
  have s10 := S1.out.cell (j := 0) rfl
  have s11 := S1.out.cell (j := 1) rfl
  have s12 := S1.out.cell (j := 2) rfl
  have s13 := S1.out.cell (j := 3) rfl
  clear b1 X0 S0 Y0 B0
  cases hk : strOk d with
  | false =>
    have HD : Hid (hearD s d = d) := hear_no (by rw [hk]; simp)
    clear hk
    go_wp2_with (first | (refine wpList_load_str X1.out rfl rfl _ rfl rfl ?_) | fail)
    refine Calls.mono (copiedStream_any d ao cap HS.out _ (HA.out.on B1.out)) ?_
    rintro e w8 ⟨va, vc, rfl, hr8, b8⟩
    have Y8 := hid (Y1.out.on b8 Y1.out.lt)
    have B8 := hid (below_via B1.out b8)
    have L8 := hid (hr8.down (show w.heap.size ≤ _ by have := B1.out.size; omega))
    clear hr8 b8
    obtain ⟨U, hU⟩ : ∃ U, w8.setRow (w.heap.size + 1 + 1) #[.int .i64 d.st, .int .i64 d.iss, .int .i64 d.una, .int .i64 d.rcv, .string d.wait, .int .i64 d.sent, .int .i64 d.fin, .bool d.pf, .string d.inn, .slice va d.late.length vc, .bool d.owe, .int .i64 d.due, .int .i64 d.times] = U := ⟨_, rfl⟩
    have Y9 : BlockIs U (w.heap.size + 1 + 1) 31 [.int .i64 d.st, .int .i64 d.iss, .int .i64 d.una, .int .i64 d.rcv, .string d.wait, .int .i64 d.sent, .int .i64 d.fin, .bool d.pf, .string d.inn, .slice va d.late.length vc, .bool d.owe, .int .i64 d.due, .int .i64 d.times] := by rw [← hU]; exact store_block Y8.out _
    have B9 : Hid (Below w.heap.size w U) := by rw [← hU]; exact below_setRow B8.out (by omega) _
    have R9 : Hid (OwnsL U w.heap.size (d).late va vc) := by rw [← hU]; exact L8.out.setRow Y8.out (by decide) _
    have r0 := Y9.cell (j := 0) rfl
    have r1 := Y9.cell (j := 1) rfl
    have r2 := Y9.cell (j := 2) rfl
    have r3 := Y9.cell (j := 3) rfl
    have r4 := Y9.cell (j := 4) rfl
    have r5 := Y9.cell (j := 5) rfl
    have r6 := Y9.cell (j := 6) rfl
    have r7 := Y9.cell (j := 7) rfl
    have r8 := Y9.cell (j := 8) rfl
    have r9 := Y9.cell (j := 9) rfl
    have r10 := Y9.cell (j := 10) rfl
    have r11 := Y9.cell (j := 11) rfl
    have r12 := Y9.cell (j := 12) rfl
    clear Y9
    go_wp2_with (first | (refine wpList_store_str Y8.out rfl rfl _ _ rfl _ rfl rfl rfl (strCells_all (d) _ _) ?_; rw [hU]) | fail)
    refine bodyPost_ret (v := .agg #[.int .i64 d.st, .int .i64 d.iss, .int .i64 d.una, .int .i64 d.rcv, .string d.wait, .int .i64 d.sent, .int .i64 d.fin, .bool d.pf, .string d.inn, .slice va d.late.length vc, .bool d.owe, .int .i64 d.due, .int .i64 d.times]) (by simp [results, Try.results10, go_sem, r0, r1, r2, r3, r4, r5, r6, r7, r8, r9, r10, r11, r12]) rfl (by rw [HD.out]; exact ⟨va, vc, rfl, R9.out.own.2, R9.out.own.1, B9.out⟩)
  | true =>
    have CS' := implSegOk_any s (by omega) w1
    cases hg : segOk s with
    | false =>
      rw [hg] at CS'
      have CS := hid CS'
      have HD : Hid (hearD s d = d) := hear_no (by rw [hg]; simp)
      clear hk hg CS'
      go_wp2_with fail
      refine Calls.mono CS.out ?_
      rintro e w2 ⟨rfl, b2⟩
      have X2 := hid (X1.out.on b2 X1.out.lt)
      have Y2 := hid (Y1.out.on b2 Y1.out.lt)
      have B2 := hid (below_via B1.out b2)
      clear b2 CS s10 s11 s12 s13
      go_wp2_with (first | (refine wpList_load_str X2.out rfl rfl _ rfl rfl ?_) | fail)
      refine Calls.mono (copiedStream_any d ao cap HS.out _ (HA.out.on B2.out)) ?_
      rintro e w8 ⟨va, vc, rfl, hr8, b8⟩
      have Y8 := hid (Y2.out.on b8 Y2.out.lt)
      have B8 := hid (below_via B2.out b8)
      have L8 := hid (hr8.down (show w.heap.size ≤ _ by have := B2.out.size; omega))
      clear hr8 b8
      obtain ⟨U, hU⟩ : ∃ U, w8.setRow (w.heap.size + 1 + 1) #[.int .i64 d.st, .int .i64 d.iss, .int .i64 d.una, .int .i64 d.rcv, .string d.wait, .int .i64 d.sent, .int .i64 d.fin, .bool d.pf, .string d.inn, .slice va d.late.length vc, .bool d.owe, .int .i64 d.due, .int .i64 d.times] = U := ⟨_, rfl⟩
      have Y9 : BlockIs U (w.heap.size + 1 + 1) 31 [.int .i64 d.st, .int .i64 d.iss, .int .i64 d.una, .int .i64 d.rcv, .string d.wait, .int .i64 d.sent, .int .i64 d.fin, .bool d.pf, .string d.inn, .slice va d.late.length vc, .bool d.owe, .int .i64 d.due, .int .i64 d.times] := by rw [← hU]; exact store_block Y8.out _
      have B9 : Hid (Below w.heap.size w U) := by rw [← hU]; exact below_setRow B8.out (by omega) _
      have R9 : Hid (OwnsL U w.heap.size (d).late va vc) := by rw [← hU]; exact L8.out.setRow Y8.out (by decide) _
      have r0 := Y9.cell (j := 0) rfl
      have r1 := Y9.cell (j := 1) rfl
      have r2 := Y9.cell (j := 2) rfl
      have r3 := Y9.cell (j := 3) rfl
      have r4 := Y9.cell (j := 4) rfl
      have r5 := Y9.cell (j := 5) rfl
      have r6 := Y9.cell (j := 6) rfl
      have r7 := Y9.cell (j := 7) rfl
      have r8 := Y9.cell (j := 8) rfl
      have r9 := Y9.cell (j := 9) rfl
      have r10 := Y9.cell (j := 10) rfl
      have r11 := Y9.cell (j := 11) rfl
      have r12 := Y9.cell (j := 12) rfl
      clear Y9
      go_wp2_with (first | (refine wpList_store_str Y8.out rfl rfl _ _ rfl _ rfl rfl rfl (strCells_all (d) _ _) ?_; rw [hU]) | fail)
      refine bodyPost_ret (v := .agg #[.int .i64 d.st, .int .i64 d.iss, .int .i64 d.una, .int .i64 d.rcv, .string d.wait, .int .i64 d.sent, .int .i64 d.fin, .bool d.pf, .string d.inn, .slice va d.late.length vc, .bool d.owe, .int .i64 d.due, .int .i64 d.times]) (by simp [results, Try.results10, go_sem, r0, r1, r2, r3, r4, r5, r6, r7, r8, r9, r10, r11, r12]) rfl (by rw [HD.out]; exact ⟨va, vc, rfl, R9.out.own.2, R9.out.own.1, B9.out⟩)
    | true =>
      rw [hg] at CS'
      have CS := hid CS'
      have HG := hid hg
      have HK := hid hk
      have hR := strOk_iff.1 hk
      obtain ⟨_, _, ⟨h1, h2⟩, h8, _⟩ := segOk_iff.1 hg
      have h8' : s.body.size ≤ 8 := by omega
      have HR := hid hR
      have HB := hid (HCB.out hk hg)
      clear hk hg CS' hR h8 HCB
      go_wp2_with fail
      refine Calls.mono CS.out ?_
      rintro e w2 ⟨rfl, b2⟩
      have X2 := hid (X1.out.on b2 X1.out.lt)
      have S2 := hid (S1.out.on b2 S1.out.lt)
      have Y2 := hid (Y1.out.on b2 Y1.out.lt)
      have B2 := hid (below_via B1.out b2)
      clear b2 CS s10 s11 s12 s13 X1 S1 Y1 B1
      go_wp2_with (first | (refine wpList_load_str X2.out rfl rfl _ rfl rfl ?_) | fail)
      refine Calls.mono (endpointOf_any d ao cap HS.out 0 _ (HA.out.on B2.out)) ?_
      rintro e w3 ⟨g, rfl, he3, b3⟩
      have X3 := hid (X2.out.on b3 X2.out.lt)
      have S3 := S2.out.on b3 S2.out.lt
      have Y3 := hid (Y2.out.on b3 Y2.out.lt)
      have B3 := hid (below_via B2.out b3)
      have hy2 := Y2.out.lt
      have HE3 := hid he3
      have s30 := S3.cell (j := 0) rfl
      have s31 := S3.cell (j := 1) rfl
      have s32 := S3.cell (j := 2) rfl
      have s33 := S3.cell (j := 3) rfl
      clear b3 he3 X2 S2 Y2 S3
      go_wp2_with fail
      refine Calls.mono (hear_any w2.heap.size g d 0 [] s h1 h2 h8' HR.out (HB.out _ _) _ HE3.out) ?_
      rintro e w4 ⟨rfl, h4⟩
      have X4 := hid (X3.out.on h4.2 (by omega))
      have Y4 := hid (Y3.out.on h4.2 (by omega))
      have B4 := hid (B3.out.trans (h4.2.mono B2.out.size))
      have HE4 := hid h4.1
      clear h4 X3 Y3 B3 HE3 s30 s31 s32 s33
      obtain ⟨D, hD⟩ : ∃ D, hear0 s d = D := ⟨_, rfl⟩
      have HDD := hid hD
      have hin9 := hin HK.out HG.out
      rw [hD] at HE4 hin9
      clear hD
      obtain ⟨_, va, vc, ov4, oc4, hb4, hl4, _⟩ := HE4.out
      have c8 := hb4.cell (j := 8) rfl
      have K4 := hid (show BlockIs w4 g 54 ([.int .i64 D.st, .int .i64 D.iss, .int .i64 D.una, .int .i64 D.rcv, .string D.wait, .int .i64 D.sent, .int .i64 D.fin, .bool D.pf, .string D.inn, .slice va D.late.length vc, .bool D.owe, .int .i64 D.due, .int .i64 D.times] ++ [.int .i64 0, .slice ov4 0 oc4]) from hb4)
      have L4 := hid (hl4.down B2.out.size)
      clear hb4 hl4 HE4
      by_cases hq : (1000 : Int) < (D.inn.size : Int)
      · have HD : Hid (hearD s d = d) := hear_long HK.out HG.out (by rw [HDD.out]; omega)
        go_wp2_with (first | (refine wpList_load_str X4.out rfl rfl _ rfl rfl ?_) | fail)
        refine Calls.mono (copiedStream_any d ao cap HS.out _ (HA.out.on B4.out)) ?_
        rintro e w8 ⟨va8, vc8, rfl, hr8, b8⟩
        have Y8 := hid (Y4.out.on b8 Y4.out.lt)
        have B8 := hid (below_via B4.out b8)
        have L8 := hid (hr8.down (show w.heap.size ≤ _ by have := B4.out.size; omega))
        clear hr8 b8
        obtain ⟨U, hU⟩ : ∃ U, w8.setRow (w.heap.size + 1 + 1) #[.int .i64 d.st, .int .i64 d.iss, .int .i64 d.una, .int .i64 d.rcv, .string d.wait, .int .i64 d.sent, .int .i64 d.fin, .bool d.pf, .string d.inn, .slice va8 d.late.length vc8, .bool d.owe, .int .i64 d.due, .int .i64 d.times] = U := ⟨_, rfl⟩
        have Y9 : BlockIs U (w.heap.size + 1 + 1) 31 [.int .i64 d.st, .int .i64 d.iss, .int .i64 d.una, .int .i64 d.rcv, .string d.wait, .int .i64 d.sent, .int .i64 d.fin, .bool d.pf, .string d.inn, .slice va8 d.late.length vc8, .bool d.owe, .int .i64 d.due, .int .i64 d.times] := by rw [← hU]; exact store_block Y8.out _
        have B9 : Hid (Below w.heap.size w U) := by rw [← hU]; exact below_setRow B8.out (by omega) _
        have R9 : Hid (OwnsL U w.heap.size (d).late va8 vc8) := by rw [← hU]; exact L8.out.setRow Y8.out (by decide) _
        have r0 := Y9.cell (j := 0) rfl
        have r1 := Y9.cell (j := 1) rfl
        have r2 := Y9.cell (j := 2) rfl
        have r3 := Y9.cell (j := 3) rfl
        have r4 := Y9.cell (j := 4) rfl
        have r5 := Y9.cell (j := 5) rfl
        have r6 := Y9.cell (j := 6) rfl
        have r7 := Y9.cell (j := 7) rfl
        have r8 := Y9.cell (j := 8) rfl
        have r9 := Y9.cell (j := 9) rfl
        have r10 := Y9.cell (j := 10) rfl
        have r11 := Y9.cell (j := 11) rfl
        have r12 := Y9.cell (j := 12) rfl
        clear Y9
        go_wp2_with (first | (refine wpList_store_str Y8.out rfl rfl _ _ rfl _ rfl rfl rfl (strCells_all (d) _ _) ?_; rw [hU]) | fail)
        refine bodyPost_ret (v := .agg #[.int .i64 d.st, .int .i64 d.iss, .int .i64 d.una, .int .i64 d.rcv, .string d.wait, .int .i64 d.sent, .int .i64 d.fin, .bool d.pf, .string d.inn, .slice va8 d.late.length vc8, .bool d.owe, .int .i64 d.due, .int .i64 d.times]) (by simp [results, Try.results10, go_sem, r0, r1, r2, r3, r4, r5, r6, r7, r8, r9, r10, r11, r12]) rfl (by rw [HD.out]; exact ⟨va8, vc8, rfl, R9.out.own.2, R9.out.own.1, B9.out⟩)
      · have HD : Hid (hearD s d = D) := by show _ = _; rw [hear_yes HK.out HG.out (by rw [HDD.out]; omega), HDD.out]
        obtain ⟨U, hU⟩ : ∃ U, w4.setRow (w.heap.size + 1 + 1) #[.int .i64 D.st, .int .i64 D.iss, .int .i64 D.una, .int .i64 D.rcv, .string D.wait, .int .i64 D.sent, .int .i64 D.fin, .bool D.pf, .string D.inn, .slice va D.late.length vc, .bool D.owe, .int .i64 D.due, .int .i64 D.times] = U := ⟨_, rfl⟩
        have Y9 : BlockIs U (w.heap.size + 1 + 1) 31 [.int .i64 D.st, .int .i64 D.iss, .int .i64 D.una, .int .i64 D.rcv, .string D.wait, .int .i64 D.sent, .int .i64 D.fin, .bool D.pf, .string D.inn, .slice va D.late.length vc, .bool D.owe, .int .i64 D.due, .int .i64 D.times] := by rw [← hU]; exact store_block Y4.out _
        have B9 : Hid (Below w.heap.size w U) := by rw [← hU]; exact below_setRow B4.out (by omega) _
        have R9 : Hid (OwnsL U w.heap.size (D).late va vc) := by rw [← hU]; exact L4.out.setRow Y4.out (by decide) _
        have r0 := Y9.cell (j := 0) rfl
        have r1 := Y9.cell (j := 1) rfl
        have r2 := Y9.cell (j := 2) rfl
        have r3 := Y9.cell (j := 3) rfl
        have r4 := Y9.cell (j := 4) rfl
        have r5 := Y9.cell (j := 5) rfl
        have r6 := Y9.cell (j := 6) rfl
        have r7 := Y9.cell (j := 7) rfl
        have r8 := Y9.cell (j := 8) rfl
        have r9 := Y9.cell (j := 9) rfl
        have r10 := Y9.cell (j := 10) rfl
        have r11 := Y9.cell (j := 11) rfl
        have r12 := Y9.cell (j := 12) rfl
        clear Y9
        go_wp2_with (first | (refine wpList_load_ep K4.out rfl rfl _ rfl rfl ?_) | (refine wpList_store_str Y4.out rfl rfl _ _ rfl _ rfl rfl rfl (strCells_all (D) _ _) ?_; rw [hU]) | fail)
        refine bodyPost_ret (v := .agg #[.int .i64 D.st, .int .i64 D.iss, .int .i64 D.una, .int .i64 D.rcv, .string D.wait, .int .i64 D.sent, .int .i64 D.fin, .bool D.pf, .string D.inn, .slice va D.late.length vc, .bool D.owe, .int .i64 D.due, .int .i64 D.times]) (by simp [results, Try.results10, go_sem, r0, r1, r2, r3, r4, r5, r6, r7, r8, r9, r10, r11, r12]) rfl (by rw [HD.out]; exact ⟨va, vc, rfl, R9.out.own.2, R9.out.own.1, B9.out⟩)
theorem implHear_with (d : StrD) (ao : Option Addr) (cap : Nat) (hs : d.Small) (s : SegD) (hsb : s.body.size ≤ 1048576) (CB : strOk d = true → segOk s = true → ∀ lo g, BodyDoes lo g 0 [] s d) (hin : (hear0 s d).inn.size ≤ 1048576) (w : World) (ha : LatesAt w ao d.late) :
    Calls Try.prog 10 #[.agg #[.int .i64 d.st, .int .i64 d.iss, .int .i64 d.una, .int .i64 d.rcv, .string d.wait, .int .i64 d.sent, .int .i64 d.fin, .bool d.pf, .string d.inn, .slice ao d.late.length cap, .bool d.owe, .int .i64 d.due, .int .i64 d.times], .agg #[.int .i64 s.num, .int .i64 s.ack, .int .i64 s.flags, .string s.body]] w fun e w' => StrDid1 w (hearD s d) e w' :=
  implHear_if d ao cap hs s hsb CB (fun _ _ => hin) w ha
end Go.Proofs.Ytngcldjkpcmidaa
