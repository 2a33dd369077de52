/-
  The walk of impl.(*endpoint).takeOpen; what takeBody does is its premise.
-/
import Derived.Test.YtngcldjkpcmidaaJoint35
import Derived.Test.YtngcldjkpcmidaaJoint32
import Derived.Deep.DeepCutAuto
namespace Go.Proofs.Ytngcldjkpcmidaa
open Go.RowKit

/-- what takeBody does with a segment's Body -/
def BodyDoes (lo g : Nat) (now : Int) (out : List SegD) (s : SegD) (d : StrD) : Prop := s.body.size ≠ 0 → ∀ (x : StrD) (w : World), x.late = d.late → x.inn = d.inn → x.rcv = d.rcv → EpIs w lo g x now out →
  Calls Try.prog 58 #[.pointer (some ⟨g, 0, none⟩), .int .i64 s.num, .string s.body] w fun e w' => e = .returned (.tuple #[]) ∧ HrTo lo g w w' (bodyD s.num s.body x) now out
theorem heard1_same (s : SegD) (d : StrD) : (heard1 s d).late = d.late ∧ (heard1 s d).inn = d.inn ∧ (heard1 s d).rcv = d.rcv := by
  unfold heard1 ackD
  split
  · split <;> exact ⟨rfl, rfl, rfl⟩
  · exact ⟨rfl, rfl, rfl⟩
set_option maxRecDepth 1000000 in
set_option maxHeartbeats 4000000 in
theorem takeOpen_any (lo g : Nat) (d : StrD) (now : Int) (out : List SegD) (s : SegD) (h1 : 0 ≤ s.flags) (h2 : s.flags ≤ 7) (_hsz : s.body.size ≤ 8) (hs : 0 ≤ d.sent ∧ d.sent ≤ 24) (hsw : d.sent ≤ d.wait.size) (hw : d.wait.size ≤ 200) (CB : BodyDoes lo g now out s d) (w : World) (h : EpIs w lo g d now out) :
    Calls Try.prog 48 #[.pointer (some ⟨g, 0, none⟩), .agg #[.int .i64 s.num, .int .i64 s.ack, .int .i64 s.flags, .string s.body]] w fun e w' => e = .returned (.tuple #[]) ∧ HrTo lo g w w' (heardD s d) now out := by
  have hb0 := below_more (Below.refl w.heap.size w) (.cells #[.int .i64 s.num, .int .i64 s.ack, .int .i64 s.flags, .string s.body] 34)
  have hx0 : BlockIs (w.alloc (.cells #[.int .i64 s.num, .int .i64 s.ack, .int .i64 s.flags, .string s.body] 34)) w.heap.size 34 [.int .i64 s.num, .int .i64 s.ack, .int .i64 s.flags, .string s.body] := heap_alloc_new w _
  have h0 := h.on hb0
  have H := hid h
  obtain ⟨W0, hW0⟩ : ∃ W0, w.alloc (.cells #[.int .i64 s.num, .int .i64 s.ack, .int .i64 s.flags, .string s.body] 34) = W0 := ⟨_, rfl⟩
  rw [hW0] at hb0 hx0 h0
  have B0 := hid hb0
  have X0 := hid hx0
  have H0 := hid h0
  have x0 := hx0.cell (j := 0) rfl
  have x1 := hx0.cell (j := 1) rfl
  have x2 := hx0.cell (j := 2) rfl
  have x3 := hx0.cell (j := 3) rfl
  clear hx0 hb0 h
  have HH := hid (H.out.hr.on B0.out)
  have LO := hid H.out.lo
  clear h0
  have HCB := hid CB
  clear CB
  have C1 := hid (hasFlags_one s h1 h2 W0)
  cases hk : synB s with
  | true =>
    rw [hk] at C1
    have HR : Hid (heardD s d = { d with owe := true }) := by show _ = _; rw [heardD, hk]; rfl
    clear hk
    go_enter Try.func48, Try.ntmps48
    go_wp2_with fail
    refine Calls.mono C1.out ?_
    rintro e w1 ⟨rfl, b1⟩
    have ET := hid (HH.out.on b1)
    have X1 := hid (X0.out.on b1 X0.out.lt)
    have z10 := X1.out.cell (j := 0) rfl
    have z11 := X1.out.cell (j := 1) rfl
    have z12 := X1.out.cell (j := 2) rfl
    have z13 := X1.out.cell (j := 3) rfl
    clear b1
    clear x0 x1 x2 x3
    obtain ⟨_, ao2, cap2, ov2, oc2, hb2, _, _⟩ := ET.out.1.1
    have c10 := hb2.cell (j := 10) rfl
    have f10 := hb2.thaw 10
    clear hb2
    go_wp2
    refine bodyPost_ret (v := .tuple #[]) (by simp [results, Try.results48]) rfl ?_
    exact ⟨rfl, by rw [HR.out]; exact ET.out.owe true⟩
  | false =>
    rw [hk] at C1
    have HR : Hid (heardD s d = heard3 s (heard2 s (heard1 s d))) := by show _ = _; rw [heardD, hk]; rfl
    clear hk
    obtain ⟨e1, e2, e3⟩ := heard1_same s d
    have HE1 := hid e1
    have HE2 := hid e2
    have HE3 := hid e3
    clear e1 e2 e3
    obtain ⟨D1, hD1⟩ : ∃ D, heard1 s d = D := ⟨_, rfl⟩
    have HD1 := hid hD1
    rw [hD1] at HR HE1 HE2 HE3
    obtain ⟨D2, hD2⟩ : ∃ D, heard2 s D1 = D := ⟨_, rfl⟩
    have HD2 := hid hD2
    rw [hD2] at HR
    clear hD1 hD2
    go_enter Try.func48, Try.ntmps48
    go_wp2_with fail
    refine Calls.mono C1.out ?_
    rintro e w1 ⟨rfl, b1⟩
    have ET := hid (HH.out.on b1)
    have X1 := hid (X0.out.on b1 X0.out.lt)
    have z10 := X1.out.cell (j := 0) rfl
    have z11 := X1.out.cell (j := 1) rfl
    have z12 := X1.out.cell (j := 2) rfl
    have z13 := X1.out.cell (j := 3) rfl
    clear b1
    clear x0 x1 x2 x3 C1
    have C2' := hasFlags_two s h1 h2 w1
    have C2 := hid C2'
    clear C2'
    go_upto_region 3 with fail
    go_cut [11] (fun c wx => c = .bool (ackB s) ∧ Hid (HrTo lo g w wx d now out ∧ BlockIs wx w.heap.size 34 [.int .i64 s.num, .int .i64 s.ack, .int .i64 s.flags, .string s.body]))
    case first =>
      go_wp2_with fail
      refine Calls.mono C2.out ?_
      rintro e w2 ⟨rfl, b2⟩
      have E2 := hid (ET.out.on b2)
      have Y2 := hid (X1.out.on b2 X1.out.lt)
      clear b2
      go_wp2_with fail
      go_meet
      exact ⟨rfl, E2.out, Y2.out⟩
    case rest =>
      obtain ⟨rfl, HC⟩ := hcut
      clear C2 ET X1 z10 z11 z12 z13
      go_upto_if 11 with fail
      go_cut [11] (fun _ wx => Hid (HrTo lo g w wx D1 now out ∧ BlockIs wx w.heap.size 34 [.int .i64 s.num, .int .i64 s.ack, .int .i64 s.flags, .string s.body]))
      case first =>
        cases ha : ackB s with
        | false =>
          have HQ : Hid (D1 = d) := by show _ = _; rw [← HD1.out, heard1, ha]; rfl
          clear ha
          go_wp2_with fail
          go_meet
          exact (by rw [HQ.out]; exact HC.out)
        | true =>
          have HQ : Hid (D1 = ackD s.ack d) := by show _ = _; rw [← HD1.out, heard1, ha]; rfl
          clear ha
          have z1 := HC.out.2.cell (j := 1) rfl
          go_wp2_with fail
          refine Calls.mono (takeAck_any lo g d now out s.ack hs hsw hw _ HC.out.1.1.1) ?_
          rintro e w3 ⟨rfl, h3⟩
          have E3 := hid (HC.out.1.trans h3)
          have Y3 := hid (h3.2 _ _ _ HC.out.2 (by decide) (by decide))
          clear h3 z1
          go_wp2_with fail
          go_meet
          exact (by rw [HQ.out]; exact ⟨E3.out, Y3.out⟩)
      case rest =>
      clear HC
      have HC := hcut
      clear hcut
      have z3 := HC.out.2.cell (j := 3) rfl
      have z0 := HC.out.2.cell (j := 0) rfl
      go_upto_region 5 with fail
      go_cut [18] (fun c wx => c = .bool (!decide (s.body.size = 0)) ∧ wx = wc)
      case first =>
        by_cases z : s.body.size = 0
        · have hse : (s.body.toList == []) = true := by rw [beq_iff_eq, ByteArray.toList_eq]; exact List.eq_nil_of_length_eq_zero z
          have hsn : (s.body.toList != []) = false := by rw [bne, hse]; rfl
          have HV : Hid ((!decide (s.body.size = 0)) = false) := by show _ = _; simp [z]
          clear z
          go_wp2_with fail
          go_meet
          exact ⟨by rw [HV.out], rfl⟩
        · have hse : (s.body.toList == []) = false := by rw [beq_eq_false_iff_ne, ByteArray.toList_eq]; intro h; exact z (show s.body.data.toList.length = 0 by rw [h]; rfl)
          have HV : Hid ((!decide (s.body.size = 0)) = true) := by show _ = _; simp [z]
          clear z
          go_wp2_with fail
          go_meet
          exact ⟨by rw [HV.out], rfl⟩
      case rest =>
        obtain ⟨rfl, hwx⟩ := hcut
        rw [hwx]
        clear hwx
        go_upto_if 18 with fail
        go_cut [18] (fun _ wx => Hid (HrTo lo g w wx D2 now out ∧ BlockIs wx w.heap.size 34 [.int .i64 s.num, .int .i64 s.ack, .int .i64 s.flags, .string s.body]))
        case first =>
          by_cases z : s.body.size = 0
          · have HQ : Hid (D2 = D1) := by show _ = _; rw [← HD2.out, heard2, if_pos z]
            rw [decide_eq_true z]
            clear z
            go_wp2_with fail
            go_meet
            exact (by rw [HQ.out]; exact HC.out)
          · have HQ : Hid (D2 = bodyD s.num s.body D1) := by show _ = _; rw [← HD2.out, heard2, if_neg z]
            rw [decide_eq_false z]
            have CC := hid (HCB.out z D1 _ HE1.out HE2.out HE3.out HC.out.1.1.1)
            clear z
            go_wp2_with fail
            refine Calls.mono CC.out ?_
            rintro e w4 ⟨rfl, h4⟩
            have E4 := hid (HC.out.1.trans h4)
            have Y4 := hid (h4.2 _ _ _ HC.out.2 (by decide) (by decide))
            clear h4
            go_wp2_with fail
            go_meet
            exact (by rw [HQ.out]; exact ⟨E4.out, Y4.out⟩)
        case rest =>
        clear HC z3 z0
        have HC := hcut
        clear hcut
        have z0 := HC.out.2.cell (j := 0) rfl
        have z1 := HC.out.2.cell (j := 1) rfl
        have z2 := HC.out.2.cell (j := 2) rfl
        have z3 := HC.out.2.cell (j := 3) rfl
        have C4' := fun w => hasFlags_four s h1 h2 w
        cases hf : finF s with
        | false =>
          rw [hf] at C4'
          have C4 := hid C4'
          have HQ : Hid (heardD s d = D2) := by show _ = _; rw [HR.out, heard3, hf]; rfl
          clear hf C4'
          go_wp2_with fail
          refine Calls.mono (C4.out _) ?_
          rintro e w5 ⟨rfl, b5⟩
          have E5 := hid (HC.out.1.on b5)
          clear b5 C4
          go_wp2
          go_end0
          exact ⟨rfl, by rw [HQ.out]; exact E5.out⟩
        | true =>
          rw [hf] at C4'
          have C4 := hid C4'
          have HQ : Hid (heardD s d = endD (addNum s.num s.body.size) D2) := by show _ = _; rw [HR.out, heard3, hf]; rfl
          clear hf C4'
          go_wp2_with fail
          refine Calls.mono (C4.out _) ?_
          rintro e w5 ⟨rfl, b5⟩
          have E5 := hid (HC.out.1.on b5)
          have Y5 := HC.out.2.on b5 HC.out.2.lt
          have y0 := Y5.cell (j := 0) rfl
          have y3 := Y5.cell (j := 3) rfl
          clear b5 C4 z0 z1 z2 z3 Y5
          go_wp2_with fail
          refine Calls.mono (implAddNum_any s.num (s.body.size : Int) _) ?_
          rintro e w6 ⟨rfl, hw6⟩
          rw [hw6]
          clear hw6 w6
          go_wp2_with fail
          refine Calls.mono (takeFin_any lo g D2 now out (addNum s.num (s.body.size : Int)) _ E5.out.1.1) ?_
          rintro e w6 ⟨rfl, h6⟩
          have E6 := hid (E5.out.trans h6)
          clear h6
          go_wp2
          go_end0
          exact ⟨rfl, by rw [HQ.out]; exact E6.out⟩
end Go.Proofs.Ytngcldjkpcmidaa
