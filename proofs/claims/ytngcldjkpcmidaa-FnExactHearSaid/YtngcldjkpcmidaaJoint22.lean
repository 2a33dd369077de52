/-
  The walk of spec.l13Heard; what l13Body does is its premise.
-/
import Derived.Test.YtngcldjkpcmidaaJoint18
import Derived.Test.YtngcldjkpcmidaaJoint20
import Derived.Test.YtngcldjkpcmidaaJoint21
import Derived.Deep.DeepCutAuto
import Derived.Deep.QuietTactic
import Derived.BigQuiet
import Derived.Lib.QuietBelow
namespace Go.Proofs.Ytngcldjkpcmidaa
open Go.RowKit

/-- what l13Body does with a segment's Body -/
def BodyDoesS (lo g : Nat) (s : SegD) (d : StrD) : Prop := s.body.size ≠ 0 → ∀ (x : StrD) (w : World), x.late = d.late → x.inn = d.inn → x.rcv = d.rcv → StIs w lo g x →
  Calls Try.prog 36 #[.pointer (some ⟨g, 0, none⟩), .int .i64 s.num, .string s.body] w fun e w' => e = .returned (.tuple #[]) ∧ HsTo lo g w w' (bodyD s.num s.body x)
theorem heard1_sameS (s : SegD) (d : StrD) : (heard1 s d).late = d.late ∧ (heard1 s d).inn = d.inn ∧ (heard1 s d).rcv = d.rcv := by
  unfold heard1 ackD
  split
  · split <;> exact ⟨rfl, rfl, rfl⟩
  · exact ⟨rfl, rfl, rfl⟩
set_option maxRecDepth 1000000 in
set_option maxHeartbeats 4000000 in
theorem l13Heard_any (lo g : Nat) (d : StrD) (s : SegD) (h1 : 0 ≤ s.flags) (h2 : s.flags ≤ 7) (_hsz : s.body.size ≤ 8) (hs : 0 ≤ d.sent ∧ d.sent ≤ 24) (hsw : d.sent ≤ d.wait.size) (hw : d.wait.size ≤ 200) (CB : BodyDoesS lo g s d) (w : World) (h : StIs w lo g d) :
    Calls Try.prog 22 #[.pointer (some ⟨g, 0, none⟩), .agg #[.int .i64 s.num, .int .i64 s.ack, .int .i64 s.flags, .string s.body]] w fun e w' => e = .returned (.tuple #[]) ∧ HsTo lo g w w' (heardD s d) := by
  have hb0 := below_more (Below.refl w.heap.size w) (.cells #[.int .i64 s.num, .int .i64 s.ack, .int .i64 s.flags, .string s.body] 34)
  have hx0 : BlockIs (w.alloc (.cells #[.int .i64 s.num, .int .i64 s.ack, .int .i64 s.flags, .string s.body] 34)) w.heap.size 34 [.int .i64 s.num, .int .i64 s.ack, .int .i64 s.flags, .string s.body] := heap_alloc_new w _
  have hgl := h.lt
  have hh0 := h.hs.on hb0
  obtain ⟨W0, hW0⟩ : ∃ W0, w.alloc (.cells #[.int .i64 s.num, .int .i64 s.ack, .int .i64 s.flags, .string s.body] 34) = W0 := ⟨_, rfl⟩
  rw [hW0] at hb0 hx0 hh0
  have X0 := hid hx0
  have HH := hid hh0
  have x0 := hx0.cell (j := 0) rfl
  have x1 := hx0.cell (j := 1) rfl
  have x2 := hx0.cell (j := 2) rfl
  have x3 := hx0.cell (j := 3) rfl
  have HCB := hid CB
  clear hx0 hb0 hh0 h CB
  have hne : w.heap.size ≠ g := by omega
  have C1 := hid (l12Has_one s.num s.ack s.flags s.body h1 h2 W0)
  cases hk : synB s with
  | true =>
    have C1b : Hid (Calls Try.prog 20 #[.agg #[.int .i64 s.num, .int .i64 s.ack, .int .i64 s.flags, .string s.body], .int .i64 1] W0 fun e w' => e = .returned (.bool true) ∧ Below W0.heap.size W0 w') := by have h9 := C1.out; rw [show decide (s.flags % 2 = 1) = true from hk] at h9; exact h9
    have HR : Hid (heardD s d = { d with owe := true }) := by show _ = _; rw [heardD, hk]; rfl
    clear hk C1
    go_enter Try.func22, Try.ntmps22
    go_wp2_with fail
    refine Calls.mono C1b.out ?_
    rintro e w1 ⟨rfl, b1⟩
    have ET := hid (HH.out.on b1)
    clear b1 x0 x1 x2 x3
    obtain ⟨_, ao2, cap2, hb2, _⟩ := ET.out.1.1
    have c10 := hb2.cell (j := 10) rfl
    have f10 := hb2.thaw 10
    clear hb2
    go_wp2
    refine bodyPost_ret (v := .tuple #[]) (by simp [results, Try.results22]) rfl ?_
    exact ⟨rfl, by rw [HR.out]; exact ET.out.owe true⟩
  | false =>
    have C1b : Hid (Calls Try.prog 20 #[.agg #[.int .i64 s.num, .int .i64 s.ack, .int .i64 s.flags, .string s.body], .int .i64 1] W0 fun e w' => e = .returned (.bool false) ∧ Below W0.heap.size W0 w') := by have h9 := C1.out; rw [show decide (s.flags % 2 = 1) = false from hk] at h9; exact h9
    have HR : Hid (heardD s d = heard3 s (heard2 s (heard1 s d))) := by show _ = _; rw [heardD, hk]; rfl
    clear hk C1
    obtain ⟨e1, e2, e3⟩ := heard1_sameS s d
    have HE1 := hid e1
    have HE2 := hid e2
    have HE3 := hid e3
    clear e1 e2 e3
    obtain ⟨D1, hD1⟩ : ∃ D, heard1 s d = D := ⟨_, rfl⟩
    have HD1 := hid hD1
    rw [hD1] at HR HE1 HE2 HE3
    obtain ⟨D2, hD2⟩ : ∃ D, heard2 s D1 = D := ⟨_, rfl⟩
    have HD2 := hid hD2
    rw [hD2] at HR
    clear hD1 hD2
    go_enter Try.func22, Try.ntmps22
    go_wp2_with fail
    refine Calls.mono C1b.out ?_
    rintro e w1 ⟨rfl, b1⟩
    have ET := hid (HH.out.on b1)
    have X1 := hid (X0.out.on b1 X0.out.lt)
    have z10 := X1.out.cell (j := 0) rfl
    have z11 := X1.out.cell (j := 1) rfl
    have z12 := X1.out.cell (j := 2) rfl
    have z13 := X1.out.cell (j := 3) rfl
    clear b1 x0 x1 x2 x3 C1b
    have C2 := hid (l12Has_two s.num s.ack s.flags s.body h1 h2 w1)
    go_upto_region 3 with fail
    go_cut [10] (fun c wx => c = .bool (ackB s) ∧ Hid (HsTo lo g w wx d ∧ BlockIs wx w.heap.size 34 [.int .i64 s.num, .int .i64 s.ack, .int .i64 s.flags, .string s.body]))
    case first =>
      go_wp2_with fail
      refine Calls.mono C2.out ?_
      rintro e w2 ⟨rfl, b2⟩
      have E2 := hid (ET.out.on b2)
      have Y2 := hid (X1.out.on b2 X1.out.lt)
      clear b2
      go_wp2_with fail
      go_meet
      exact ⟨rfl, E2.out, Y2.out⟩
    case rest =>
      obtain ⟨rfl, HC⟩ := hcut
      clear C2 ET X1 z10 z11 z12 z13
      go_upto_if 10 with fail
      go_cut [10] (fun _ wx => Hid (HsTo lo g w wx D1 ∧ BlockIs wx w.heap.size 34 [.int .i64 s.num, .int .i64 s.ack, .int .i64 s.flags, .string s.body]))
      case first =>
        cases ha : ackB s with
        | false =>
          have HQ : Hid (D1 = d) := by show _ = _; rw [← HD1.out, heard1, ha]; rfl
          clear ha
          go_wp2_with fail
          go_meet
          exact (by rw [HQ.out]; exact HC.out)
        | true =>
          have HQ : Hid (D1 = ackD s.ack d) := by show _ = _; rw [← HD1.out, heard1, ha]; rfl
          clear ha
          have z1 := HC.out.2.cell (j := 1) rfl
          go_wp2_with fail
          refine Calls.mono (l13Ack_any lo g d s.ack hs hsw hw _ HC.out.1.1.1) ?_
          rintro e w3 ⟨rfl, h3⟩
          have E3 := hid (HC.out.1.trans h3)
          have Y3 := hid (h3.2 _ _ _ HC.out.2 hne (by decide))
          clear h3 z1
          go_wp2_with fail
          go_meet
          exact (by rw [HQ.out]; exact ⟨E3.out, Y3.out⟩)
      case rest =>
      clear HC
      have HC := hcut
      clear hcut
      have z3 := HC.out.2.cell (j := 3) rfl
      have z0 := HC.out.2.cell (j := 0) rfl
      go_upto_region 5 with fail
      go_cut [17] (fun c wx => c = .bool (!decide (s.body.size = 0)) ∧ wx = wc)
      case first =>
        by_cases z : s.body.size = 0
        · have hse : (s.body.toList == []) = true := by rw [beq_iff_eq, ByteArray.toList_eq]; exact List.eq_nil_of_length_eq_zero z
          have hsn : (s.body.toList != []) = false := by rw [bne, hse]; rfl
          have HV : Hid ((!decide (s.body.size = 0)) = false) := by show _ = _; simp [z]
          clear z
          go_wp2_with fail
          go_meet
          exact ⟨by rw [HV.out], rfl⟩
        · have hse : (s.body.toList == []) = false := by rw [beq_eq_false_iff_ne, ByteArray.toList_eq]; intro h; exact z (show s.body.data.toList.length = 0 by rw [h]; rfl)
          have HV : Hid ((!decide (s.body.size = 0)) = true) := by show _ = _; simp [z]
          clear z
          go_wp2_with fail
          go_meet
          exact ⟨by rw [HV.out], rfl⟩
      case rest =>
        obtain ⟨rfl, hwx⟩ := hcut
        rw [hwx]
        clear hwx
        go_upto_if 17 with fail
        go_cut [17] (fun _ wx => Hid (HsTo lo g w wx D2 ∧ BlockIs wx w.heap.size 34 [.int .i64 s.num, .int .i64 s.ack, .int .i64 s.flags, .string s.body]))
        case first =>
          by_cases z : s.body.size = 0
          · have HQ : Hid (D2 = D1) := by show _ = _; rw [← HD2.out, heard2, if_pos z]
            rw [decide_eq_true z]
            clear z
            go_wp2_with fail
            go_meet
            exact (by rw [HQ.out]; exact HC.out)
          · have HQ : Hid (D2 = bodyD s.num s.body D1) := by show _ = _; rw [← HD2.out, heard2, if_neg z]
            rw [decide_eq_false z]
            have CC := hid (HCB.out z D1 _ HE1.out HE2.out HE3.out HC.out.1.1.1)
            clear z
            go_wp2_with fail
            refine Calls.mono CC.out ?_
            rintro e w4 ⟨rfl, h4⟩
            have E4 := hid (HC.out.1.trans h4)
            have Y4 := hid (h4.2 _ _ _ HC.out.2 hne (by decide))
            clear h4
            go_wp2_with fail
            go_meet
            exact (by rw [HQ.out]; exact ⟨E4.out, Y4.out⟩)
        case rest =>
        clear HC z3 z0
        have HC := hcut
        clear hcut
        have z0 := HC.out.2.cell (j := 0) rfl
        have z1 := HC.out.2.cell (j := 1) rfl
        have z2 := HC.out.2.cell (j := 2) rfl
        have z3 := HC.out.2.cell (j := 3) rfl
        have C4' := fun w => l12Has_four s.num s.ack s.flags s.body h1 h2 w
        cases hf : finF s with
        | false =>
          rw [show decide (s.flags / 4 % 2 = 1) = false from hf] at C4'
          have C4 := hid C4'
          have HQ : Hid (heardD s d = D2) := by show _ = _; rw [HR.out, heard3, hf]; rfl
          clear hf C4'
          go_wp2_with fail
          refine Calls.mono (C4.out _) ?_
          rintro e w5 ⟨rfl, b5⟩
          have E5 := hid (HC.out.1.on b5)
          clear b5 C4
          go_wp2
          go_end0
          exact ⟨rfl, by rw [HQ.out]; exact E5.out⟩
        | true =>
          rw [show decide (s.flags / 4 % 2 = 1) = true from hf] at C4'
          have C4 := hid C4'
          obtain ⟨A, hA⟩ : ∃ A, addNum s.num s.body.size = A := ⟨_, rfl⟩
          have HQ : Hid (heardD s d = endD A D2) := by show _ = _; rw [HR.out, heard3, hf, hA]; rfl
          have NA' := fun w => specAddNum_any s.num (s.body.size : Int) w
          rw [hA] at NA'
          have NA := hid NA'
          clear hf C4' NA' hA
          go_wp2_with fail
          refine Calls.mono (C4.out _) ?_
          rintro e w5 ⟨rfl, b5⟩
          have E5 := hid (HC.out.1.on b5)
          have Y5 := HC.out.2.on b5 HC.out.2.lt
          have Y5h := hid Y5
          obtain ⟨_, ao5, cap5, hb5, _⟩ := E5.out.1.1
          have k10 := hb5.cell (j := 10) rfl
          have j10 := hb5.thaw 10
          clear b5 C4 z0 z1 z2 z3 hb5 Y5
          obtain ⟨V, hV⟩ : ∃ V, w5.setCell ⟨g, 10, none⟩ (.bool true) = V := ⟨_, rfl⟩
          have E6 : Hid (HsTo lo g w V { D2 with owe := true }) := by rw [← hV]; exact E5.out.owe true
          have Y6 : BlockIs V w.heap.size 34 [.int .i64 s.num, .int .i64 s.ack, .int .i64 s.flags, .string s.body] := by rw [← hV]; exact Y5h.out.far (fun e => hne e.symm) _
          have y0 := Y6.cell (j := 0) rfl
          have y3 := Y6.cell (j := 3) rfl
          obtain ⟨_, ao6, cap6, hb6, _⟩ := E6.out.1.1
          have m3 := hb6.cell (j := 3) rfl
          have m7 := hb6.cell (j := 7) rfl
          clear hb6 Y6
          dsimp only at m3 m7
          by_cases q1 : A = D2.rcv
          rotate_left
          · have q1b : (A == D2.rcv) = false := by rw [beq_eq_false_iff_ne]; exact q1
            have HE : Hid (endD A D2 = { D2 with owe := true }) := by show _ = _; rw [endD, if_neg (fun h => q1 h.1)]
            clear q1
            go_wp2
            go_quiet (first | (go_at_call 21; with_reducible refine Calls.quiet_of_same (NA.out _)) | fail)
            go_wp2
            go_end0
            exact ⟨rfl, by rw [HQ.out, HE.out]; exact E6.out.on (below_drewN (Below.refl _ _) _)⟩
          have q1b : (A == D2.rcv) = true := by rw [beq_iff_eq]; exact q1
          cases q2 : D2.pf with
          | true =>
            have HE : Hid (endD A D2 = { D2 with owe := true }) := by show _ = _; rw [endD, if_neg (fun h => by rw [q2] at h; cases h.2)]
            rw [q2] at m7
            clear q1 q2
            go_wp2
            go_quiet (first | (go_at_call 21; with_reducible refine Calls.quiet_of_same (NA.out _)) | fail)
            go_wp2
            go_end0
            exact ⟨rfl, by rw [HQ.out, HE.out]; exact E6.out.on (below_drewN (Below.refl _ _) _)⟩
          | false =>
            have HE : Hid (endD A D2 = { D2 with owe := true, pf := true, rcv := addNum D2.rcv 1 }) := by show _ = _; rw [endD, if_pos ⟨q1, q2⟩]
            rw [q2] at m7
            clear q1 q2
            go_wp2
            go_quiet (first | (go_at_call 21; with_reducible refine Calls.quiet_of_same (NA.out _)) | fail)
            have E7 := hid (show HsTo lo g w (V.drewN nq) { D2 with owe := true } from E6.out.on (below_drewN (Below.refl _ _) nq))
            obtain ⟨_, ao7, cap7, hb7, _⟩ := E7.out.1.1
            have n3 := hb7.cell (j := 3) rfl
            have t3 := hb7.thaw 3
            have n7 := hb7.cell (j := 7) rfl
            have t7 := hb7.thaw 7
            clear hb7
            dsimp only at n3 n7
            go_wp2_with fail
            refine Calls.mono (specAddNum_any D2.rcv 1 _) ?_
            rintro e w8 ⟨rfl, hw8⟩
            rw [hw8]
            clear hw8 w8
            go_wp2
            go_end0
            exact ⟨rfl, by rw [HQ.out, HE.out]; exact (E7.out.pf true).rcv _⟩
end Go.Proofs.Ytngcldjkpcmidaa
