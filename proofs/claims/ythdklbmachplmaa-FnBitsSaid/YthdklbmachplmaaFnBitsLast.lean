/-
  For every slice of bytes, laws.FnBits returns true: bits that wait are told as the document tells, what is over is gone, never more than three wait; nothing that was in memory is written.
-/
import Derived.Test.YthdklbmachplmaaRows
import Derived.Test.YthdklbmachplmaaJoint32
import Derived.Test.YthdklbmachplmaaJoint31
import Derived.Test.YthdklbmachplmaaJoint47
import Derived.Test.YthdklbmachplmaaJoint48
import Derived.Test.YthdklbmachplmaaJoint17
import Derived.WalkSmall
import Derived.WalkKit
import Derived.ProofKit
import Derived.OpenShut
import Derived.OpenVars
import Derived.Deep.DeepHandedRow
import Derived.Lib.LaidTab
import Derived.Stop.LaidErr
namespace Go.Proofs.Ythdklbmachplmaa.fnBits
open Go.ChangeShapes Go.WideShapes Go.ChangeAt Go.ChangeMaps Go.RowKit

theorem join_len (l : List BitD) (d : DgramD) (now : Int) : (joinB l d now).1.length ≤ l.length + 1 := by
  cases hj : joinOk d now with
  | false => rw [joinB_bad hj]; exact Nat.le_succ _
  | true =>
    by_cases h1 : d.place = 0 ∧ d.more = false
    · rw [joinB_once hj h1]; exact Nat.le_succ _
    · obtain ⟨L1, e, L2, hA⟩ : ∃ L1 e L2, joinAt l d now = (L1, e, L2) := ⟨_, _, _, rfl⟩
      have hl : L1.length + 1 + L2.length ≤ l.length + 1 := by
        cases hf : foundB l d with
        | some k =>
          obtain ⟨hk, hj2⟩ := joinAt_some (now := now) hf
          rw [hj2] at hA
          simp only [Prod.mk.injEq] at hA
          obtain ⟨rfl, rfl, rfl⟩ := hA
          simp
          omega
        | none =>
          rw [joinAt, hf] at hA
          simp only [Prod.mk.injEq] at hA
          obtain ⟨rfl, rfl, rfl⟩ := hA
          simp
      cases hb : bodyB (takeD e d) with
      | some S => rw [joinB_some hj h1 (S := S) (by rw [hA]; exact hb), hA]; simp; omega
      | none => rw [joinB_none hj h1 (by rw [hA]; exact hb), hA]; simp; omega

set_option maxRecDepth 1000000 in
set_option maxHeartbeats 8000000 in
theorem walk (ao : Option Addr) (len cap : Nat) (hcap : len ≤ cap) (w : World) (hr : Bytes w ao len) :
    Calls Try.prog 3 #[.slice ao len cap] w fun e w' => e = .returned (.bool true) ∧ Below w.heap.size w w' := by
  have HR := hid hr
  clear hr
  by_cases hbig : 1048576 < len
  · go_enter Try.func3, Try.ntmps3
    go_wp2
    go_ret
    exact ⟨rfl, Below.refl _ _⟩
  have hlen : len ≤ 1048576 := by omega
  clear hbig
  have B := hid (Below.refl w.heap.size w)
  go_enter Try.func3, Try.ntmps3
  go_wp2_with fail
  refine (big_no ao len cap hlen _).mono ?_
  rintro e w0 ⟨rfl, hw0⟩
  rw [hw0]
  clear hw0 w0
  go_wp2_with fail
  refine Calls.mono (drawJoinBits_any ao len cap hlen hcap _ (bytes_on HR.out B.out)) ?_
  rintro e w1 ⟨l, va, vc, rs, d, now, rfl, hok, hd, hty, b1⟩
  have O1 := hid b1.size
  have T := hid hty
  have HOK := hid hok
  clear hty hok
  have T := hid (T.out.on (Below.refl _ _))
  have B_1 := hid (below_via B.out b1)
  clear b1 B
  have ba := below_more (Below.refl w1.heap.size w1) (.cells #[.int .i64 d.src, .int .i64 d.dst, .int .i64 d.ident, .int .i64 d.place, .bool d.more, .string d.body] 26)
  have hx : BlockIs (w1.alloc (.cells #[.int .i64 d.src, .int .i64 d.dst, .int .i64 d.ident, .int .i64 d.place, .bool d.more, .string d.body] 26)) w1.heap.size 26 [.int .i64 d.src, .int .i64 d.dst, .int .i64 d.ident, .int .i64 d.place, .bool d.more, .string d.body] := heap_alloc_new w1 _
  have B_1a := hid (below_via B_1.out ba)
  have T_1a := hid (T.out.on ba)
  have X_c_1a := hid hx
  have O1a := hid hx.lt
  clear ba hx B_1 T
  have cX_c0_1a := X_c_1a.out.cell (j := 0) rfl
  have cX_c1_1a := X_c_1a.out.cell (j := 1) rfl
  have cX_c2_1a := X_c_1a.out.cell (j := 2) rfl
  have cX_c3_1a := X_c_1a.out.cell (j := 3) rfl
  have cX_c4_1a := X_c_1a.out.cell (j := 4) rfl
  have cX_c5_1a := X_c_1a.out.cell (j := 5) rfl
  have hl3 : l.length ≤ 3 := HOK.out.1
  obtain ⟨A, x, ok, hR⟩ : ∃ A x ok, joinB l d now = (A, x, ok) := ⟨_, _, _, rfl⟩
  have hA3 : A.length ≤ 3 := by have := (join_ok (d := d) (now := now) HOK.out (by omega)).1; rw [hR] at this; exact this
  have hA1 : A.length ≤ l.length + 1 := by have := join_len l d now; rw [hR] at this; exact this
  have HSA : Hid (∀ e ∈ A, SmallB e) := fun e he => by have := (join_ok (d := d) (now := now) HOK.out (by omega)).2; rw [hR] at this; exact (this e he).1.small
  have CI := hid (fun W h => implJoinBits_any va l vc d now (by omega) (fun e he => (HOK.out.2 e he).1.small) (fun e he => (HOK.out.2 e he).2.2) (fun e he => by have := (HOK.out.2 e he).1.most; omega) (by omega) W h)
  have CS := hid (fun W h => specJoinBits_any va l vc d now hl3 (fun e he => ⟨(HOK.out.2 e he).1, by have := (HOK.out.2 e he).2.1; omega⟩) (by omega) W h)
  rw [hR] at CI CS
  clear hR
  go_wp2_with fail
  refine Calls.mono (CI.out _ T_1a.out.holds) ?_
  rintro e w2 ⟨va1, vc1, rfl, h1, b2⟩
  have O2 := hid b2.size
  have H1 := hid h1
  clear CI h1
  have H1 := hid (H1.out.on (Below.refl _ _))
  dsimp only
  have B_2 := hid (below_via B_1a.out b2)
  have T_2 := hid (T_1a.out.on b2)
  have X_c_2 := hid (X_c_1a.out.on b2 X_c_1a.out.lt)
  clear b2 B_1a T_1a X_c_1a cX_c0_1a cX_c1_1a cX_c2_1a cX_c3_1a cX_c4_1a cX_c5_1a
  have cX_c0_2 := X_c_2.out.cell (j := 0) rfl
  have cX_c1_2 := X_c_2.out.cell (j := 1) rfl
  have cX_c2_2 := X_c_2.out.cell (j := 2) rfl
  have cX_c3_2 := X_c_2.out.cell (j := 3) rfl
  have cX_c4_2 := X_c_2.out.cell (j := 4) rfl
  have cX_c5_2 := X_c_2.out.cell (j := 5) rfl
  have ba := below_more (Below.refl w2.heap.size w2) (.cells #[.int .i64 x.src, .int .i64 x.dst, .int .i64 x.ident, .int .i64 x.place, .bool x.more, .string x.body] 26)
  have hx : BlockIs (w2.alloc (.cells #[.int .i64 x.src, .int .i64 x.dst, .int .i64 x.ident, .int .i64 x.place, .bool x.more, .string x.body] 26)) w2.heap.size 26 [.int .i64 x.src, .int .i64 x.dst, .int .i64 x.ident, .int .i64 x.place, .bool x.more, .string x.body] := heap_alloc_new w2 _
  have B_2a := hid (below_via B_2.out ba)
  have T_2a := hid (T_2.out.on ba)
  have X_c_2a := hid (X_c_2.out.on ba X_c_2.out.lt)
  have H1_2a := hid (H1.out.on ba)
  have X_x_2a := hid hx
  have O2a := hid hx.lt
  clear ba hx B_2 T_2 X_c_2 H1
  have cX_c0_2a := X_c_2a.out.cell (j := 0) rfl
  have cX_c1_2a := X_c_2a.out.cell (j := 1) rfl
  have cX_c2_2a := X_c_2a.out.cell (j := 2) rfl
  have cX_c3_2a := X_c_2a.out.cell (j := 3) rfl
  have cX_c4_2a := X_c_2a.out.cell (j := 4) rfl
  have cX_c5_2a := X_c_2a.out.cell (j := 5) rfl
  have cX_x0_2a := X_x_2a.out.cell (j := 0) rfl
  have cX_x1_2a := X_x_2a.out.cell (j := 1) rfl
  have cX_x2_2a := X_x_2a.out.cell (j := 2) rfl
  have cX_x3_2a := X_x_2a.out.cell (j := 3) rfl
  have cX_x4_2a := X_x_2a.out.cell (j := 4) rfl
  have cX_x5_2a := X_x_2a.out.cell (j := 5) rfl
  go_wp2_with fail
  refine Calls.mono (CS.out _ T_2a.out.holds) ?_
  rintro e w3 ⟨va2, vc2, rs2, rfl, hc2, h2, b3⟩
  have O3 := hid b3.size
  clear CS h2 hc2
  dsimp only
  have B_3 := hid (below_via B_2a.out b3)
  have T_3 := hid (T_2a.out.on b3)
  have X_c_3 := hid (X_c_2a.out.on b3 X_c_2a.out.lt)
  have H1_3 := hid (H1_2a.out.on b3)
  have X_x_3 := hid (X_x_2a.out.on b3 X_x_2a.out.lt)
  clear b3 B_2a T_2a X_c_2a H1_2a X_x_2a cX_c0_2a cX_c1_2a cX_c2_2a cX_c3_2a cX_c4_2a cX_c5_2a cX_x0_2a cX_x1_2a cX_x2_2a cX_x3_2a cX_x4_2a cX_x5_2a cX_c0_2 cX_c1_2 cX_c2_2 cX_c3_2 cX_c4_2 cX_c5_2
  have cX_c0_3 := X_c_3.out.cell (j := 0) rfl
  have cX_c1_3 := X_c_3.out.cell (j := 1) rfl
  have cX_c2_3 := X_c_3.out.cell (j := 2) rfl
  have cX_c3_3 := X_c_3.out.cell (j := 3) rfl
  have cX_c4_3 := X_c_3.out.cell (j := 4) rfl
  have cX_c5_3 := X_c_3.out.cell (j := 5) rfl
  have cX_x0_3 := X_x_3.out.cell (j := 0) rfl
  have cX_x1_3 := X_x_3.out.cell (j := 1) rfl
  have cX_x2_3 := X_x_3.out.cell (j := 2) rfl
  have cX_x3_3 := X_x_3.out.cell (j := 3) rfl
  have cX_x4_3 := X_x_3.out.cell (j := 4) rfl
  have cX_x5_3 := X_x_3.out.cell (j := 5) rfl
  have ba := below_more (Below.refl w3.heap.size w3) (.cells #[.int .i64 x.src, .int .i64 x.dst, .int .i64 x.ident, .int .i64 x.place, .bool x.more, .string x.body] 26)
  have hx : BlockIs (w3.alloc (.cells #[.int .i64 x.src, .int .i64 x.dst, .int .i64 x.ident, .int .i64 x.place, .bool x.more, .string x.body] 26)) w3.heap.size 26 [.int .i64 x.src, .int .i64 x.dst, .int .i64 x.ident, .int .i64 x.place, .bool x.more, .string x.body] := heap_alloc_new w3 _
  have B_3a := hid (below_via B_3.out ba)
  have T_3a := hid (T_3.out.on ba)
  have X_c_3a := hid (X_c_3.out.on ba X_c_3.out.lt)
  have H1_3a := hid (H1_3.out.on ba)
  have X_x_3a := hid (X_x_3.out.on ba X_x_3.out.lt)
  have X_y_3a := hid hx
  have O3a := hid hx.lt
  clear ba hx B_3 T_3 X_c_3 H1_3 X_x_3
  have cX_c0_3a := X_c_3a.out.cell (j := 0) rfl
  have cX_c1_3a := X_c_3a.out.cell (j := 1) rfl
  have cX_c2_3a := X_c_3a.out.cell (j := 2) rfl
  have cX_c3_3a := X_c_3a.out.cell (j := 3) rfl
  have cX_c4_3a := X_c_3a.out.cell (j := 4) rfl
  have cX_c5_3a := X_c_3a.out.cell (j := 5) rfl
  have cX_x0_3a := X_x_3a.out.cell (j := 0) rfl
  have cX_x1_3a := X_x_3a.out.cell (j := 1) rfl
  have cX_x2_3a := X_x_3a.out.cell (j := 2) rfl
  have cX_x3_3a := X_x_3a.out.cell (j := 3) rfl
  have cX_x4_3a := X_x_3a.out.cell (j := 4) rfl
  have cX_x5_3a := X_x_3a.out.cell (j := 5) rfl
  have cX_y0_3a := X_y_3a.out.cell (j := 0) rfl
  have cX_y1_3a := X_y_3a.out.cell (j := 1) rfl
  have cX_y2_3a := X_y_3a.out.cell (j := 2) rfl
  have cX_y3_3a := X_y_3a.out.cell (j := 3) rfl
  have cX_y4_3a := X_y_3a.out.cell (j := 4) rfl
  have cX_y5_3a := X_y_3a.out.cell (j := 5) rfl
  obtain ⟨n5, hn5⟩ : ∃ n, IntKind.i64.wrap (now + 5) = n := ⟨_, rfl⟩
  go_wp2_with fail
  refine Calls.mono (implTidyBits_any va1 A vc1 n5 (by omega) HSA.out _ H1_3a.out) ?_
  rintro e w4 ⟨va3, vc3, rfl, hc3, h3, b4⟩
  have O4 := hid b4.size
  have H3 := hid h3.holds
  clear h3 hc3
  have H3 := hid (H3.out.on (Below.refl _ _))
  have B_4 := hid (below_via B_3a.out b4)
  have T_4 := hid (T_3a.out.on b4)
  have X_c_4 := hid (X_c_3a.out.on b4 X_c_3a.out.lt)
  have H1_4 := hid (H1_3a.out.on b4)
  have X_x_4 := hid (X_x_3a.out.on b4 X_x_3a.out.lt)
  have X_y_4 := hid (X_y_3a.out.on b4 X_y_3a.out.lt)
  clear b4 B_3a T_3a X_c_3a H1_3a X_x_3a X_y_3a cX_c0_3a cX_c1_3a cX_c2_3a cX_c3_3a cX_c4_3a cX_c5_3a cX_x0_3a cX_x1_3a cX_x2_3a cX_x3_3a cX_x4_3a cX_x5_3a cX_y0_3a cX_y1_3a cX_y2_3a cX_y3_3a cX_y4_3a cX_y5_3a cX_c0_3 cX_c1_3 cX_c2_3 cX_c3_3 cX_c4_3 cX_c5_3 cX_x0_3 cX_x1_3 cX_x2_3 cX_x3_3 cX_x4_3 cX_x5_3
  have cX_c0_4 := X_c_4.out.cell (j := 0) rfl
  have cX_c1_4 := X_c_4.out.cell (j := 1) rfl
  have cX_c2_4 := X_c_4.out.cell (j := 2) rfl
  have cX_c3_4 := X_c_4.out.cell (j := 3) rfl
  have cX_c4_4 := X_c_4.out.cell (j := 4) rfl
  have cX_c5_4 := X_c_4.out.cell (j := 5) rfl
  have cX_x0_4 := X_x_4.out.cell (j := 0) rfl
  have cX_x1_4 := X_x_4.out.cell (j := 1) rfl
  have cX_x2_4 := X_x_4.out.cell (j := 2) rfl
  have cX_x3_4 := X_x_4.out.cell (j := 3) rfl
  have cX_x4_4 := X_x_4.out.cell (j := 4) rfl
  have cX_x5_4 := X_x_4.out.cell (j := 5) rfl
  have cX_y0_4 := X_y_4.out.cell (j := 0) rfl
  have cX_y1_4 := X_y_4.out.cell (j := 1) rfl
  have cX_y2_4 := X_y_4.out.cell (j := 2) rfl
  have cX_y3_4 := X_y_4.out.cell (j := 3) rfl
  have cX_y4_4 := X_y_4.out.cell (j := 4) rfl
  have cX_y5_4 := X_y_4.out.cell (j := 5) rfl
  obtain ⟨TA, hTA⟩ : ∃ TA, tidyB A n5 = TA := ⟨_, rfl⟩
  have HTA := hid hTA
  have HALL : Hid (∀ e ∈ TA, n5 < e.lim) := fun e he => by rw [← hTA] at he; simpa using (List.mem_filter.1 he).2
  rw [hTA] at H3 ⊢
  have hTL : TA.length ≤ A.length := by rw [← hTA]; exact tidyB_length A n5
  clear hTA
  have hAi : (A.length : Int) ≤ 3 := by omega
  have hA1i : (A.length : Int) ≤ (l.length : Int) + 1 := by omega
  have hl3i : ¬ (3 : Int) < (l.length : Int) := by omega
  have hsx : (x.body.toList == x.body.toList) = true := by simp
  have hmx : (x.more == x.more) = true := by simp
  go_wp2_with fail
  go_loopg [13, 14] A.length (fun q s13 s14 wr => ∃ k : Nat, k + q = A.length ∧ s14 = .int .i64 (k : Int) ∧ s13 = .int .i64 ((tidyB (A.take k) n5).length : Int) ∧ wr = w4)
  case atStart => exact ⟨0, by omega, rfl, rfl, rfl⟩
  case round =>
    obtain ⟨k, hkq, rfl, rfl, rfl⟩ := hrel
    cases gk with
    | succ q =>
      have hk : k < A.length := by omega
      have hki : (k : Int) < (A.length : Int) := by omega
      obtain ⟨rsa, hat, htw⟩ := H1_4.out
      have hlr := htw.length
      have hkr : k < rsa.length := by omega
      obtain ⟨b, off, rfl, hc⟩ := hat (by intro q; rw [q] at hkr; simp at hkr)
      obtain ⟨q0, q1, q2, q3, q4, q5⟩ := hc k hkr
      have hho := htw.get k hk hkr
      obtain ⟨R, hRR⟩ : ∃ R, rsa[k] = R := ⟨_, rfl⟩
      rw [hRR] at q5 hho
      obtain ⟨E, hE⟩ : ∃ E, A[k] = E := ⟨_, rfl⟩
      rw [hE] at hho
      obtain ⟨ta, tc, aa, ac, rfl, hh1, hh2⟩ := hho
      simp only [rawB] at q5
      have HTK := hid (tidyB_take A n5 k hk)
      have hlz : (tidyB (A.take k) n5).length ≤ A.length := by have := tidyB_length (A.take k) n5; rw [List.length_take] at this; omega
      rw [hE] at HTK
      obtain ⟨TN, hTN⟩ : ∃ t, (tidyB (A.take k) n5).length = t := ⟨_, rfl⟩
      have HTN := hid hTN
      rw [hTN] at hlz ⊢
      clear hat htw hlr hc q0 q1 q2 q3 q4 hRR hE hh1 hh2 hTN hkr
      by_cases hlt : n5 < E.lim
      · have HL : Hid ((tidyB (A.take (k + 1)) n5).length = TN + 1) := (show _ = _ by rw [HTK.out, if_pos hlt, List.length_append, HTN.out]; rfl)
        go_wp2_with fail
        go_roundg q
        case measure => omega
        case rel => exact ⟨k + 1, by omega, by go_num, by rw [HL.out]; go_num, rfl⟩
      · have HL : Hid ((tidyB (A.take (k + 1)) n5).length = TN) := (show _ = _ by rw [HTK.out, if_neg hlt, List.append_nil, HTN.out])
        go_wp2_with fail
        go_roundg q
        case measure => omega
        case rel => exact ⟨k + 1, by omega, by go_num, by rw [HL.out], rfl⟩
    | zero =>
      have hki : ¬ (k : Int) < (A.length : Int) := by omega
      rw [List.take_of_length_le (show A.length ≤ k by omega), HTA.out]
      go_wp2_with fail
      go_loopg [15] TA.length (fun q s15 wz => ∃ j : Nat, j + q = TA.length ∧ s15 = .int .i64 (j : Int) ∧ wz = wr)
      case atStart => exact ⟨0, by omega, rfl, rfl⟩
      case round =>
        obtain ⟨j, hjq, rfl, rfl⟩ := hrel
        cases gk with
        | succ q =>
          have hj : j < TA.length := by omega
          have hji : (j : Int) < (TA.length : Int) := by omega
          obtain ⟨rsa, hat, htw⟩ := H3.out
          have hlr := htw.length
          have hjr : j < rsa.length := by omega
          obtain ⟨b, off, rfl, hc⟩ := hat (by intro q; rw [q] at hjr; simp at hjr)
          obtain ⟨q0, q1, q2, q3, q4, q5⟩ := hc j hjr
          have hho := htw.get j hj hjr
          have hgt := HALL.out _ (List.getElem_mem hj)
          obtain ⟨R, hRR⟩ : ∃ R, rsa[j] = R := ⟨_, rfl⟩
          rw [hRR] at q5 hho
          obtain ⟨E, hE⟩ : ∃ E, TA[j] = E := ⟨_, rfl⟩
          rw [hE] at hho hgt
          obtain ⟨ta, tc, aa, ac, rfl, hh1, hh2⟩ := hho
          simp only [rawB] at q5
          have hgt2 : ¬ E.lim ≤ n5 := by omega
          clear hat htw hlr hc q0 q1 q2 q3 q4 hRR hE hh1 hh2 hjr
          go_wp2_with fail
          go_roundg q
          case measure => omega
          case rel => exact ⟨j + 1, by omega, by go_num, rfl⟩
        | zero =>
          have hji : ¬ (j : Int) < (TA.length : Int) := by omega
          cases ok with
          | false =>
            go_wp2
            go_ret
            exact ⟨rfl, B_4.out⟩
          | true =>
            go_wp2
            go_ret
            exact ⟨rfl, B_4.out⟩

theorem own : ownKnob Try.prog.godebug = none := by kernel_rfl
theorem laidOut : laidOutB Try.prog = true := by kernel_rfl
theorem rowed : varsRowed Try.prog Rows.fnBitsSpec.vars = true := by kernel_rfl
set_option maxRecDepth 1000000 in
theorem contract (H : Type) (enc : TypeId × Value → H) (W : World) (base : Nat) (args : Array Value) (ds gs : List (DataW H)) (before : List MemPlace)
    (hval : ∀ (j : Nat) t v, Try.f3.params[j]? = some t → args[j]? = some v → Value.okWide Try.prog W .any base t v)
    (hW : DataW.Whole enc Try.prog Try.f3.params.toList Rows.fnBitsSpec.vars false W args.toList ds gs before) (_hL : laidMetH Try.prog Rows.fnBitsRow.laid W) :
    Calls Try.prog 3 args W fun e W' => ∃ v, e = .returned v ∧ Rows.fnBitsSpec.post enc Try.prog Try.f3 false true false false W args v W' := by
  have hW' := hW
  obtain ⟨p, q, hA0, hV0, rfl, hfz, hnd⟩ := hW
  have hV : DataW.TrodVars enc Try.prog W (fun _ => true) Rows.fnBitsSpec.vars gs q := hV0
  have hA : DataW.TrodAll enc Try.prog W 0 (fun _ => true) true Try.f3.params.toList args.toList ds p := hA0
  rw [Try.params3] at hA hval
  obtain ⟨v0, vs0, d0, ds0, p0, q0, hargs0, rfl, rfl, h0, r0⟩ := trodAll_cons hA
  obtain ⟨rfl, rfl, rfl⟩ := trodAll_nil r0
  obtain rfl : args = #[v0] := by cases args; simp_all
  obtain ⟨a0, len0, cap0, rfl⟩ := okWide_slice Try.underlying22 (hval 0 22 v0 rfl rfl)
  have k0 := h0
  have lt0 : ∀ x ∈ p0, x.block < W.heap.size := by obtain ⟨m, hm⟩ := k0; exact DataW.trod_lt m _ _ _ hm
  have hb0 : len0 ≤ cap0 ∧ Bytes W a0 len0 := by
    obtain ⟨fuel, hf⟩ := h0
    rcases open_ints Try.underlying22 Try.underlying5 (by kernel_rfl) hf with ⟨hcs, _⟩ | ⟨x, l, c, zs, hcs, _, hl, hm, hz, _, hcell, hwz⟩
    · simp [Value.cells] at hcs
      obtain ⟨rfl, rfl, rfl⟩ := hcs
      exact ⟨Nat.le_refl _, fun h => by omega⟩
    · simp [Value.cells] at hcs
      obtain ⟨rfl, rfl, rfl⟩ := hcs
      refine ⟨hl, fun hp => ?_⟩
      have hzl : zs.length = cap0 := by simpa using hz
      obtain ⟨b, off, rfl, hc⟩ := ints_at hcell (by omega)
      refine ⟨b, off, rfl, fun j hj => ?_⟩
      have hjz : j < zs.length := by omega
      have hb8 := bounds_u8 (hwz (zs.getD j 0) (by simp [List.getD, hjz]))
      exact ⟨zs.getD j 0, hb8.1, hb8.2, hc j hjz⟩
  clear hA0 hV0
  obtain ⟨rfl, rfl⟩ := trodVars_none hV
  refine (walk a0 len0 cap0 hb0.1 W hb0.2).mono fun e W' ⟨he, bel⟩ => ?_
  subst he
  exact ⟨_, rfl, _, _, _, [], _, [], hW', trodAll_mk1 (shut_bool Try.underlying4 _), trodAll_cons_mk (Below.trod laidOut (by kernel_rfl) (of_decide_eq_true (by kernel_rfl)) k0 bel lt0) (trodAll_mk0), rfl, bel.frame _, fun h => by cases h⟩

def put (cs : Array Value) : Obj → Obj
  | .cells _ t frozen => .cells cs t frozen
  | o => o

/-- a world for the witness: the tables hold what their initialisers lay -/
def laidWorld (w : World) : World := { w with heap := w.heap }
theorem laid_met (os : Os) : laidMet Try.prog Rows.fnBitsRow.laid ((laidWorld (World.holding Try.prog os ⟨#[], #[], []⟩)).forCall (fun _ _ => 0) ⟨#[], #[.slice none 0 0], []⟩).memory :=
  laidMet_of_run' 8 (by kernel_rfl) (by kernel_rfl)
theorem reads (os : Os) {H : Type} (enc : TypeId × Value → H) : ∃ places, DataW.whole enc Try.prog ((laidWorld (World.holding Try.prog os ⟨#[], #[], []⟩)).forCall (fun _ _ => 0) ⟨#[], #[.slice none 0 0], []⟩).memory Try.f3.params.toList Rows.fnBitsSpec.vars false #[Value.slice none 0 0].toList 8 = some ([.nil], [], places) :=
  ⟨[], by kernel_rfl⟩

set_option maxRecDepth 1000000 in
theorem lifted (os : Os) (started : os.Started) (H : Type) (enc : TypeId × Value → H) (F : Stop.Interp) :
    ReturnsInHanded {} Try.checked os 3 .any ((OpenSpec.ofChange Rows.fnBitsSpec).preRow enc Try.prog Try.f3 Rows.fnBitsRow.domain false Rows.fnBitsRow.laid) (((OpenSpec.ofChange Rows.fnBitsSpec).at F).post enc Try.prog Try.f3 false true false false) := by
  obtain ⟨places, hx⟩ := reads os enc
  refine returnsInHanded_of_row (C := Try.checked) (s := OpenSpec.ofChange Rows.fnBitsSpec) own started (by kernel_rfl) Try.func3
    (witness_row_at (enc := enc) (C := Try.checked) false (laidWorld (World.holding Try.prog os ⟨#[], #[], []⟩)) #[.slice none 0 0] rfl (by kernel_rfl) (by kernel_rfl) (by kernel_rfl)
      (OpenSpec.preRow_of_cond 8 hx (by kernel_rfl) (fun k hk => by cases hk) (by kernel_rfl) (laid_met os))) ?_
  intro W base args ds gs before hval hW _ _ _ hL _ _
  exact contract H enc W base args ds gs before hval hW hL

theorem said : Rows.FnBitsSaid :=
  OpenClaim.holds_of_cond 3 Try.f3 rfl rfl rfl rfl rfl rfl rfl ⟨rfl, rfl, rfl, rfl, rfl⟩ rfl rfl rfl rfl rfl (by kernel_rfl) Try.func3 (by kernel_rfl)
    (of_decide_eq_true (by kernel_rfl)) (by unfold Func.isWrapper; first | (rw [if_pos (by decide +kernel)]; kernel_rfl) | (rw [if_neg (by decide +kernel)]; exact ⟨rfl, rfl⟩))
    (fun os started H enc _ F => by rw [OpenClaim.pre_eq_preRow]; exact lifted os started H enc F)

end Go.Proofs.Ythdklbmachplmaa.fnBits
