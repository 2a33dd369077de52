/-
  For every slice of bytes, laws.FnSegs returns true: a drawn right segment comes back from its bytes, drawn bytes that are one are the bytes of it; nothing that was in memory is written.
-/
import Derived.Test.YtgnoojbbicbklaaRows
import Derived.Test.YtgnoojbbicbklaaDrawSegS
import Derived.Test.YtgnoojbbicbklaaBig
import Derived.Test.YtgnoojbbicbklaaSegTextI
import Derived.Test.YtgnoojbbicbklaaReadSegI
import Derived.Test.YtgnoojbbicbklaaReadSegS
import Derived.Test.YtgnoojbbicbklaaSegOkS
import Derived.Test.YtgnoojbbicbklaaSegOkI
import Derived.WalkSmall
import Derived.WalkKit
import Derived.ProofKit
import Derived.OpenShut
import Derived.OpenVars
import Derived.Deep.DeepHandedRow
import Derived.Lib.LaidTab
import Derived.Stop.LaidErr
namespace Go.Proofs.Ytgnoojbbicbklaa.fnSegs
open Go.ChangeShapes Go.WideShapes Go.ChangeAt Go.ChangeMaps Go.RowKit

theorem seg_told {s : ByteArray} {e : Ending} (h : (SegIn s ∧ e = .returned (.tuple #[.agg #[.int .i64 (segOf s).num, .int .i64 (segOf s).ack, .int .i64 (segOf s).flags, .string (segOf s).body], .bool true])) ∨ (¬ SegIn s ∧ e = .returned (.tuple #[.agg #[.int .i64 0, .int .i64 0, .int .i64 0, .string ⟨#[]⟩], .bool false]))) :
    ∃ (r : SegD) (ok : Bool), e = .returned (.tuple #[.agg #[.int .i64 r.num, .int .i64 r.ack, .int .i64 r.flags, .string r.body], .bool ok]) ∧ STold s r ok := by
  rcases h with ⟨h, rfl⟩ | ⟨h, rfl⟩
  · exact ⟨_, true, rfl, Or.inl ⟨h, rfl, rfl⟩⟩
  · exact ⟨segZero, false, rfl, Or.inr ⟨h, rfl, rfl⟩⟩
theorem stold_size {s : ByteArray} {r : SegD} {a : Bool} (h : STold s r a) : r.body.size ≤ s.size := by
  rcases h with ⟨_, rfl, _⟩ | ⟨_, rfl, _⟩
  · show (s.extract 5 s.size).size ≤ s.size
    rw [ByteArray.size_extract]
    omega
  · exact Nat.zero_le _

set_option maxRecDepth 1000000 in
set_option maxHeartbeats 8000000 in
theorem walk (ao : Option Addr) (len cap : Nat) (hcap : len ≤ cap) (w : World) (hr : Bytes w ao len) :
    Calls Try.prog 4 #[.slice ao len cap] w fun e w' => e = .returned (.bool true) ∧ Below w.heap.size w w' := by
  have HR := hid hr
  clear hr
  by_cases hbig : 1048576 < len
  · go_enter Try.func4, Try.ntmps4
    go_wp2
    go_ret
    exact ⟨rfl, Below.refl _ _⟩
  have hlen : len ≤ 1048576 := by omega
  clear hbig
  have B := hid (Below.refl w.heap.size w)
  go_enter Try.func4, Try.ntmps4
  go_wp2_with fail
  refine (big_no ao len cap hlen _).mono ?_
  rintro e w0 ⟨rfl, hw0⟩
  rw [hw0]
  clear hw0 w0
  go_wp2_with fail
  refine Calls.mono (drawSegText_any ao len cap hlen hcap _ (bytes_on HR.out B.out)) ?_
  rintro e w1 ⟨d, rfl, hd, b1⟩
  have O1 := hid b1.size
  have B_1 := hid (below_via B.out b1)
  clear b1 B
  have ba := below_more (Below.refl w1.heap.size w1) (.cells #[.int .i64 d.num, .int .i64 d.ack, .int .i64 d.flags, .string d.body] 30)
  have hx : BlockIs (w1.alloc (.cells #[.int .i64 d.num, .int .i64 d.ack, .int .i64 d.flags, .string d.body] 30)) w1.heap.size 30 [.int .i64 d.num, .int .i64 d.ack, .int .i64 d.flags, .string d.body] := heap_alloc_new w1 _
  have B_1a := hid (below_via B_1.out ba)
  have X_c_1a := hid hx
  have O1a := hid hx.lt
  clear ba hx B_1
  have cX_c0_1a := X_c_1a.out.cell (j := 0) rfl
  have cX_c1_1a := X_c_1a.out.cell (j := 1) rfl
  have cX_c2_1a := X_c_1a.out.cell (j := 2) rfl
  have cX_c3_1a := X_c_1a.out.cell (j := 3) rfl
  have hsm := segText_small d
  obtain ⟨T, ok, hOK⟩ : ∃ T ok, segText d = (T, ok) := ⟨_, _, rfl⟩
  have CQ := hid (fun W => implSegText_any d (by omega) W)
  rw [hOK] at CQ
  dsimp only at CQ
  have HOK := hid hOK
  rw [hOK] at hsm
  dsimp only at hsm
  clear hOK
  go_wp2_with fail
  refine Calls.mono (CQ.out _) ?_
  rintro e w2 ⟨rfl, b2⟩
  have O2 := hid b2.size
  clear CQ
  have B_2 := hid (below_via B_1a.out b2)
  have X_c_2 := hid (X_c_1a.out.on b2 X_c_1a.out.lt)
  clear b2 B_1a X_c_1a cX_c0_1a cX_c1_1a cX_c2_1a cX_c3_1a
  have cX_c0_2 := X_c_2.out.cell (j := 0) rfl
  have cX_c1_2 := X_c_2.out.cell (j := 1) rfl
  have cX_c2_2 := X_c_2.out.cell (j := 2) rfl
  have cX_c3_2 := X_c_2.out.cell (j := 3) rfl
  have CQ := hid (fun W => implReadSeg_any T (by omega) W)
  go_wp2_with fail
  refine Calls.mono (CQ.out _) ?_
  rintro e w3 ⟨hor, b3⟩
  obtain ⟨x, right, hr, hc⟩ := seg_told hor
  subst hr
  have HRX := hid hc
  clear hc
  clear hor CQ
  have O3 := hid b3.size
  have B_3 := hid (below_via B_2.out b3)
  have X_c_3 := hid (X_c_2.out.on b3 X_c_2.out.lt)
  clear b3 B_2 X_c_2 cX_c0_2 cX_c1_2 cX_c2_2 cX_c3_2
  have cX_c0_3 := X_c_3.out.cell (j := 0) rfl
  have cX_c1_3 := X_c_3.out.cell (j := 1) rfl
  have cX_c2_3 := X_c_3.out.cell (j := 2) rfl
  have cX_c3_3 := X_c_3.out.cell (j := 3) rfl
  have ba := below_more (Below.refl w3.heap.size w3) (.cells #[.int .i64 x.num, .int .i64 x.ack, .int .i64 x.flags, .string x.body] 30)
  have hx : BlockIs (w3.alloc (.cells #[.int .i64 x.num, .int .i64 x.ack, .int .i64 x.flags, .string x.body] 30)) w3.heap.size 30 [.int .i64 x.num, .int .i64 x.ack, .int .i64 x.flags, .string x.body] := heap_alloc_new w3 _
  have B_3a := hid (below_via B_3.out ba)
  have X_c_3a := hid (X_c_3.out.on ba X_c_3.out.lt)
  have X_x_3a := hid hx
  have O3a := hid hx.lt
  clear ba hx B_3 X_c_3
  have cX_c0_3a := X_c_3a.out.cell (j := 0) rfl
  have cX_c1_3a := X_c_3a.out.cell (j := 1) rfl
  have cX_c2_3a := X_c_3a.out.cell (j := 2) rfl
  have cX_c3_3a := X_c_3a.out.cell (j := 3) rfl
  have cX_x0_3a := X_x_3a.out.cell (j := 0) rfl
  have cX_x1_3a := X_x_3a.out.cell (j := 1) rfl
  have cX_x2_3a := X_x_3a.out.cell (j := 2) rfl
  have cX_x3_3a := X_x_3a.out.cell (j := 3) rfl
  have hco : segOk d = ok := segText_flag HOK.out
  have hxd : ok = true → x = d ∧ right = true := fun h => by subst h; exact stold_back HOK.out HRX.out
  have CS := hid (fun W => specSegOk_any d (by omega) W)
  have CI := hid (fun W => implSegOk_any d (by omega) W)
  rw [hco] at CS CI
  clear hco
  go_wp2_with fail
  refine Calls.mono (drawReadSeg_any ao len cap hlen hcap _ (bytes_on HR.out B_3a.out)) ?_
  rintro e w4 ⟨t, rfl, ht, b4⟩
  have O4 := hid b4.size
  have B_4 := hid (below_via B_3a.out b4)
  have X_c_4 := hid (X_c_3a.out.on b4 X_c_3a.out.lt)
  have X_x_4 := hid (X_x_3a.out.on b4 X_x_3a.out.lt)
  clear b4 B_3a X_c_3a X_x_3a cX_c0_3a cX_c1_3a cX_c2_3a cX_c3_3a cX_x0_3a cX_x1_3a cX_x2_3a cX_x3_3a cX_c0_3 cX_c1_3 cX_c2_3 cX_c3_3
  have cX_c0_4 := X_c_4.out.cell (j := 0) rfl
  have cX_c1_4 := X_c_4.out.cell (j := 1) rfl
  have cX_c2_4 := X_c_4.out.cell (j := 2) rfl
  have cX_c3_4 := X_c_4.out.cell (j := 3) rfl
  have cX_x0_4 := X_x_4.out.cell (j := 0) rfl
  have cX_x1_4 := X_x_4.out.cell (j := 1) rfl
  have cX_x2_4 := X_x_4.out.cell (j := 2) rfl
  have cX_x3_4 := X_x_4.out.cell (j := 3) rfl
  have CQ := hid (fun W => implReadSeg_any t (by omega) W)
  go_wp2_with fail
  refine Calls.mono (CQ.out _) ?_
  rintro e w5 ⟨hor, b5⟩
  obtain ⟨y, may, hr, hc⟩ := seg_told hor
  subst hr
  have HRY := hid hc
  clear hc
  clear hor CQ
  have O5 := hid b5.size
  have B_5 := hid (below_via B_4.out b5)
  have X_c_5 := hid (X_c_4.out.on b5 X_c_4.out.lt)
  have X_x_5 := hid (X_x_4.out.on b5 X_x_4.out.lt)
  clear b5 B_4 X_c_4 X_x_4 cX_c0_4 cX_c1_4 cX_c2_4 cX_c3_4 cX_x0_4 cX_x1_4 cX_x2_4 cX_x3_4
  have cX_c0_5 := X_c_5.out.cell (j := 0) rfl
  have cX_c1_5 := X_c_5.out.cell (j := 1) rfl
  have cX_c2_5 := X_c_5.out.cell (j := 2) rfl
  have cX_c3_5 := X_c_5.out.cell (j := 3) rfl
  have cX_x0_5 := X_x_5.out.cell (j := 0) rfl
  have cX_x1_5 := X_x_5.out.cell (j := 1) rfl
  have cX_x2_5 := X_x_5.out.cell (j := 2) rfl
  have cX_x3_5 := X_x_5.out.cell (j := 3) rfl
  have ba := below_more (Below.refl w5.heap.size w5) (.cells #[.int .i64 y.num, .int .i64 y.ack, .int .i64 y.flags, .string y.body] 30)
  have hx : BlockIs (w5.alloc (.cells #[.int .i64 y.num, .int .i64 y.ack, .int .i64 y.flags, .string y.body] 30)) w5.heap.size 30 [.int .i64 y.num, .int .i64 y.ack, .int .i64 y.flags, .string y.body] := heap_alloc_new w5 _
  have B_5a := hid (below_via B_5.out ba)
  have X_c_5a := hid (X_c_5.out.on ba X_c_5.out.lt)
  have X_x_5a := hid (X_x_5.out.on ba X_x_5.out.lt)
  have X_y_5a := hid hx
  have O5a := hid hx.lt
  clear ba hx B_5 X_c_5 X_x_5
  have cX_c0_5a := X_c_5a.out.cell (j := 0) rfl
  have cX_c1_5a := X_c_5a.out.cell (j := 1) rfl
  have cX_c2_5a := X_c_5a.out.cell (j := 2) rfl
  have cX_c3_5a := X_c_5a.out.cell (j := 3) rfl
  have cX_x0_5a := X_x_5a.out.cell (j := 0) rfl
  have cX_x1_5a := X_x_5a.out.cell (j := 1) rfl
  have cX_x2_5a := X_x_5a.out.cell (j := 2) rfl
  have cX_x3_5a := X_x_5a.out.cell (j := 3) rfl
  have cX_y0_5a := X_y_5a.out.cell (j := 0) rfl
  have cX_y1_5a := X_y_5a.out.cell (j := 1) rfl
  have cX_y2_5a := X_y_5a.out.cell (j := 2) rfl
  have cX_y3_5a := X_y_5a.out.cell (j := 3) rfl
  have CQ := hid (fun W => specReadSeg_any t (by omega) W)
  go_wp2_with fail
  refine Calls.mono (CQ.out _) ?_
  rintro e w6 ⟨hor, b6⟩
  obtain ⟨y2, want, hr, hc⟩ := seg_told hor
  subst hr
  obtain ⟨rfl, rfl⟩ := stold_same HRY.out hc
  clear hc
  clear hor CQ
  have O6 := hid b6.size
  have B_6 := hid (below_via B_5a.out b6)
  have X_c_6 := hid (X_c_5a.out.on b6 X_c_5a.out.lt)
  have X_x_6 := hid (X_x_5a.out.on b6 X_x_5a.out.lt)
  have X_y_6 := hid (X_y_5a.out.on b6 X_y_5a.out.lt)
  clear b6 B_5a X_c_5a X_x_5a X_y_5a cX_c0_5a cX_c1_5a cX_c2_5a cX_c3_5a cX_x0_5a cX_x1_5a cX_x2_5a cX_x3_5a cX_y0_5a cX_y1_5a cX_y2_5a cX_y3_5a cX_c0_5 cX_c1_5 cX_c2_5 cX_c3_5 cX_x0_5 cX_x1_5 cX_x2_5 cX_x3_5
  have cX_c0_6 := X_c_6.out.cell (j := 0) rfl
  have cX_c1_6 := X_c_6.out.cell (j := 1) rfl
  have cX_c2_6 := X_c_6.out.cell (j := 2) rfl
  have cX_c3_6 := X_c_6.out.cell (j := 3) rfl
  have cX_x0_6 := X_x_6.out.cell (j := 0) rfl
  have cX_x1_6 := X_x_6.out.cell (j := 1) rfl
  have cX_x2_6 := X_x_6.out.cell (j := 2) rfl
  have cX_x3_6 := X_x_6.out.cell (j := 3) rfl
  have cX_y0_6 := X_y_6.out.cell (j := 0) rfl
  have cX_y1_6 := X_y_6.out.cell (j := 1) rfl
  have cX_y2_6 := X_y_6.out.cell (j := 2) rfl
  have cX_y3_6 := X_y_6.out.cell (j := 3) rfl
  have ba := below_more (Below.refl w6.heap.size w6) (.cells #[.int .i64 y.num, .int .i64 y.ack, .int .i64 y.flags, .string y.body] 30)
  have hx : BlockIs (w6.alloc (.cells #[.int .i64 y.num, .int .i64 y.ack, .int .i64 y.flags, .string y.body] 30)) w6.heap.size 30 [.int .i64 y.num, .int .i64 y.ack, .int .i64 y.flags, .string y.body] := heap_alloc_new w6 _
  have B_6a := hid (below_via B_6.out ba)
  have X_c_6a := hid (X_c_6.out.on ba X_c_6.out.lt)
  have X_x_6a := hid (X_x_6.out.on ba X_x_6.out.lt)
  have X_y_6a := hid (X_y_6.out.on ba X_y_6.out.lt)
  have X_v_6a := hid hx
  have O6a := hid hx.lt
  clear ba hx B_6 X_c_6 X_x_6 X_y_6
  have cX_c0_6a := X_c_6a.out.cell (j := 0) rfl
  have cX_c1_6a := X_c_6a.out.cell (j := 1) rfl
  have cX_c2_6a := X_c_6a.out.cell (j := 2) rfl
  have cX_c3_6a := X_c_6a.out.cell (j := 3) rfl
  have cX_x0_6a := X_x_6a.out.cell (j := 0) rfl
  have cX_x1_6a := X_x_6a.out.cell (j := 1) rfl
  have cX_x2_6a := X_x_6a.out.cell (j := 2) rfl
  have cX_x3_6a := X_x_6a.out.cell (j := 3) rfl
  have cX_y0_6a := X_y_6a.out.cell (j := 0) rfl
  have cX_y1_6a := X_y_6a.out.cell (j := 1) rfl
  have cX_y2_6a := X_y_6a.out.cell (j := 2) rfl
  have cX_y3_6a := X_y_6a.out.cell (j := 3) rfl
  have cX_v0_6a := X_v_6a.out.cell (j := 0) rfl
  have cX_v1_6a := X_v_6a.out.cell (j := 1) rfl
  have cX_v2_6a := X_v_6a.out.cell (j := 2) rfl
  have cX_v3_6a := X_v_6a.out.cell (j := 3) rfl
  have hyb : y.body.size ≤ 1000 := by have := stold_size HRY.out; omega
  obtain ⟨again, ok2, hAG⟩ : ∃ T ok, segText y = (T, ok) := ⟨_, _, rfl⟩
  have CQ := hid (fun W => implSegText_any y (by omega) W)
  rw [hAG] at CQ
  dsimp only at CQ
  have HAG := hid hAG
  clear hAG
  go_wp2_with fail
  refine Calls.mono (CQ.out _) ?_
  rintro e w7 ⟨rfl, b7⟩
  have O7 := hid b7.size
  clear CQ
  have B_7 := hid (below_via B_6a.out b7)
  have X_c_7 := hid (X_c_6a.out.on b7 X_c_6a.out.lt)
  have X_x_7 := hid (X_x_6a.out.on b7 X_x_6a.out.lt)
  have X_y_7 := hid (X_y_6a.out.on b7 X_y_6a.out.lt)
  have X_v_7 := hid (X_v_6a.out.on b7 X_v_6a.out.lt)
  clear b7 B_6a X_c_6a X_x_6a X_y_6a X_v_6a cX_c0_6a cX_c1_6a cX_c2_6a cX_c3_6a cX_x0_6a cX_x1_6a cX_x2_6a cX_x3_6a cX_y0_6a cX_y1_6a cX_y2_6a cX_y3_6a cX_v0_6a cX_v1_6a cX_v2_6a cX_v3_6a cX_c0_6 cX_c1_6 cX_c2_6 cX_c3_6 cX_x0_6 cX_x1_6 cX_x2_6 cX_x3_6 cX_y0_6 cX_y1_6 cX_y2_6 cX_y3_6
  have cX_c0_7 := X_c_7.out.cell (j := 0) rfl
  have cX_c1_7 := X_c_7.out.cell (j := 1) rfl
  have cX_c2_7 := X_c_7.out.cell (j := 2) rfl
  have cX_c3_7 := X_c_7.out.cell (j := 3) rfl
  have cX_x0_7 := X_x_7.out.cell (j := 0) rfl
  have cX_x1_7 := X_x_7.out.cell (j := 1) rfl
  have cX_x2_7 := X_x_7.out.cell (j := 2) rfl
  have cX_x3_7 := X_x_7.out.cell (j := 3) rfl
  have cX_y0_7 := X_y_7.out.cell (j := 0) rfl
  have cX_y1_7 := X_y_7.out.cell (j := 1) rfl
  have cX_y2_7 := X_y_7.out.cell (j := 2) rfl
  have cX_y3_7 := X_y_7.out.cell (j := 3) rfl
  have cX_v0_7 := X_v_7.out.cell (j := 0) rfl
  have cX_v1_7 := X_v_7.out.cell (j := 1) rfl
  have cX_v2_7 := X_v_7.out.cell (j := 2) rfl
  have cX_v3_7 := X_v_7.out.cell (j := 3) rfl
  have hag : may = true → again = t := stold_again HRY.out HAG.out
  cases ok with
  | false =>
    clear hxd
    cases may with
    | false =>
      clear hag
      go_wp2_with fail
      refine Calls.mono (CS.out _) ?_
      rintro e w8 ⟨rfl, b8⟩
      have O8 := hid b8.size
      have B_8 := hid (below_via B_7.out b8)
      have X_c_8 := hid (X_c_7.out.on b8 X_c_7.out.lt)
      have X_x_8 := hid (X_x_7.out.on b8 X_x_7.out.lt)
      have X_y_8 := hid (X_y_7.out.on b8 X_y_7.out.lt)
      have X_v_8 := hid (X_v_7.out.on b8 X_v_7.out.lt)
      clear b8 B_7 X_c_7 X_x_7 X_y_7 X_v_7 cX_c0_7 cX_c1_7 cX_c2_7 cX_c3_7 cX_x0_7 cX_x1_7 cX_x2_7 cX_x3_7 cX_y0_7 cX_y1_7 cX_y2_7 cX_y3_7 cX_v0_7 cX_v1_7 cX_v2_7 cX_v3_7
      have cX_c0_8 := X_c_8.out.cell (j := 0) rfl
      have cX_c1_8 := X_c_8.out.cell (j := 1) rfl
      have cX_c2_8 := X_c_8.out.cell (j := 2) rfl
      have cX_c3_8 := X_c_8.out.cell (j := 3) rfl
      have cX_x0_8 := X_x_8.out.cell (j := 0) rfl
      have cX_x1_8 := X_x_8.out.cell (j := 1) rfl
      have cX_x2_8 := X_x_8.out.cell (j := 2) rfl
      have cX_x3_8 := X_x_8.out.cell (j := 3) rfl
      have cX_y0_8 := X_y_8.out.cell (j := 0) rfl
      have cX_y1_8 := X_y_8.out.cell (j := 1) rfl
      have cX_y2_8 := X_y_8.out.cell (j := 2) rfl
      have cX_y3_8 := X_y_8.out.cell (j := 3) rfl
      have cX_v0_8 := X_v_8.out.cell (j := 0) rfl
      have cX_v1_8 := X_v_8.out.cell (j := 1) rfl
      have cX_v2_8 := X_v_8.out.cell (j := 2) rfl
      have cX_v3_8 := X_v_8.out.cell (j := 3) rfl
      go_wp2_with fail
      refine Calls.mono (CI.out _) ?_
      rintro e w9 ⟨rfl, b9⟩
      have O9 := hid b9.size
      have B_9 := hid (below_via B_8.out b9)
      have X_c_9 := hid (X_c_8.out.on b9 X_c_8.out.lt)
      have X_x_9 := hid (X_x_8.out.on b9 X_x_8.out.lt)
      have X_y_9 := hid (X_y_8.out.on b9 X_y_8.out.lt)
      have X_v_9 := hid (X_v_8.out.on b9 X_v_8.out.lt)
      clear b9 B_8 X_c_8 X_x_8 X_y_8 X_v_8 cX_c0_8 cX_c1_8 cX_c2_8 cX_c3_8 cX_x0_8 cX_x1_8 cX_x2_8 cX_x3_8 cX_y0_8 cX_y1_8 cX_y2_8 cX_y3_8 cX_v0_8 cX_v1_8 cX_v2_8 cX_v3_8
      have cX_c0_9 := X_c_9.out.cell (j := 0) rfl
      have cX_c1_9 := X_c_9.out.cell (j := 1) rfl
      have cX_c2_9 := X_c_9.out.cell (j := 2) rfl
      have cX_c3_9 := X_c_9.out.cell (j := 3) rfl
      have cX_x0_9 := X_x_9.out.cell (j := 0) rfl
      have cX_x1_9 := X_x_9.out.cell (j := 1) rfl
      have cX_x2_9 := X_x_9.out.cell (j := 2) rfl
      have cX_x3_9 := X_x_9.out.cell (j := 3) rfl
      have cX_y0_9 := X_y_9.out.cell (j := 0) rfl
      have cX_y1_9 := X_y_9.out.cell (j := 1) rfl
      have cX_y2_9 := X_y_9.out.cell (j := 2) rfl
      have cX_y3_9 := X_y_9.out.cell (j := 3) rfl
      have cX_v0_9 := X_v_9.out.cell (j := 0) rfl
      have cX_v1_9 := X_v_9.out.cell (j := 1) rfl
      have cX_v2_9 := X_v_9.out.cell (j := 2) rfl
      have cX_v3_9 := X_v_9.out.cell (j := 3) rfl
      clear CS CI
      go_wp2
      go_ret
      exact ⟨rfl, B_9.out⟩
    | true =>
      have hag2 : again = t := hag (by simp)
      subst hag2
      have hss : (again.toList == again.toList) = true := by simp
      clear hag
      go_wp2_with fail
      refine Calls.mono (CS.out _) ?_
      rintro e w8 ⟨rfl, b8⟩
      have O8 := hid b8.size
      have B_8 := hid (below_via B_7.out b8)
      have X_c_8 := hid (X_c_7.out.on b8 X_c_7.out.lt)
      have X_x_8 := hid (X_x_7.out.on b8 X_x_7.out.lt)
      have X_y_8 := hid (X_y_7.out.on b8 X_y_7.out.lt)
      have X_v_8 := hid (X_v_7.out.on b8 X_v_7.out.lt)
      clear b8 B_7 X_c_7 X_x_7 X_y_7 X_v_7 cX_c0_7 cX_c1_7 cX_c2_7 cX_c3_7 cX_x0_7 cX_x1_7 cX_x2_7 cX_x3_7 cX_y0_7 cX_y1_7 cX_y2_7 cX_y3_7 cX_v0_7 cX_v1_7 cX_v2_7 cX_v3_7
      have cX_c0_8 := X_c_8.out.cell (j := 0) rfl
      have cX_c1_8 := X_c_8.out.cell (j := 1) rfl
      have cX_c2_8 := X_c_8.out.cell (j := 2) rfl
      have cX_c3_8 := X_c_8.out.cell (j := 3) rfl
      have cX_x0_8 := X_x_8.out.cell (j := 0) rfl
      have cX_x1_8 := X_x_8.out.cell (j := 1) rfl
      have cX_x2_8 := X_x_8.out.cell (j := 2) rfl
      have cX_x3_8 := X_x_8.out.cell (j := 3) rfl
      have cX_y0_8 := X_y_8.out.cell (j := 0) rfl
      have cX_y1_8 := X_y_8.out.cell (j := 1) rfl
      have cX_y2_8 := X_y_8.out.cell (j := 2) rfl
      have cX_y3_8 := X_y_8.out.cell (j := 3) rfl
      have cX_v0_8 := X_v_8.out.cell (j := 0) rfl
      have cX_v1_8 := X_v_8.out.cell (j := 1) rfl
      have cX_v2_8 := X_v_8.out.cell (j := 2) rfl
      have cX_v3_8 := X_v_8.out.cell (j := 3) rfl
      go_wp2_with fail
      refine Calls.mono (CI.out _) ?_
      rintro e w9 ⟨rfl, b9⟩
      have O9 := hid b9.size
      have B_9 := hid (below_via B_8.out b9)
      have X_c_9 := hid (X_c_8.out.on b9 X_c_8.out.lt)
      have X_x_9 := hid (X_x_8.out.on b9 X_x_8.out.lt)
      have X_y_9 := hid (X_y_8.out.on b9 X_y_8.out.lt)
      have X_v_9 := hid (X_v_8.out.on b9 X_v_8.out.lt)
      clear b9 B_8 X_c_8 X_x_8 X_y_8 X_v_8 cX_c0_8 cX_c1_8 cX_c2_8 cX_c3_8 cX_x0_8 cX_x1_8 cX_x2_8 cX_x3_8 cX_y0_8 cX_y1_8 cX_y2_8 cX_y3_8 cX_v0_8 cX_v1_8 cX_v2_8 cX_v3_8
      have cX_c0_9 := X_c_9.out.cell (j := 0) rfl
      have cX_c1_9 := X_c_9.out.cell (j := 1) rfl
      have cX_c2_9 := X_c_9.out.cell (j := 2) rfl
      have cX_c3_9 := X_c_9.out.cell (j := 3) rfl
      have cX_x0_9 := X_x_9.out.cell (j := 0) rfl
      have cX_x1_9 := X_x_9.out.cell (j := 1) rfl
      have cX_x2_9 := X_x_9.out.cell (j := 2) rfl
      have cX_x3_9 := X_x_9.out.cell (j := 3) rfl
      have cX_y0_9 := X_y_9.out.cell (j := 0) rfl
      have cX_y1_9 := X_y_9.out.cell (j := 1) rfl
      have cX_y2_9 := X_y_9.out.cell (j := 2) rfl
      have cX_y3_9 := X_y_9.out.cell (j := 3) rfl
      have cX_v0_9 := X_v_9.out.cell (j := 0) rfl
      have cX_v1_9 := X_v_9.out.cell (j := 1) rfl
      have cX_v2_9 := X_v_9.out.cell (j := 2) rfl
      have cX_v3_9 := X_v_9.out.cell (j := 3) rfl
      clear CS CI
      go_wp2
      go_ret
      exact ⟨rfl, B_9.out⟩
  | true =>
    obtain ⟨hxd1, hxd2⟩ := hxd rfl
    subst hxd1 hxd2
    have hsd : (x.body.toList == x.body.toList) = true := by simp
    clear hxd
    cases may with
    | false =>
      clear hag
      go_wp2_with fail
      refine Calls.mono (CS.out _) ?_
      rintro e w8 ⟨rfl, b8⟩
      have O8 := hid b8.size
      have B_8 := hid (below_via B_7.out b8)
      have X_c_8 := hid (X_c_7.out.on b8 X_c_7.out.lt)
      have X_x_8 := hid (X_x_7.out.on b8 X_x_7.out.lt)
      have X_y_8 := hid (X_y_7.out.on b8 X_y_7.out.lt)
      have X_v_8 := hid (X_v_7.out.on b8 X_v_7.out.lt)
      clear b8 B_7 X_c_7 X_x_7 X_y_7 X_v_7 cX_c0_7 cX_c1_7 cX_c2_7 cX_c3_7 cX_x0_7 cX_x1_7 cX_x2_7 cX_x3_7 cX_y0_7 cX_y1_7 cX_y2_7 cX_y3_7 cX_v0_7 cX_v1_7 cX_v2_7 cX_v3_7
      have cX_c0_8 := X_c_8.out.cell (j := 0) rfl
      have cX_c1_8 := X_c_8.out.cell (j := 1) rfl
      have cX_c2_8 := X_c_8.out.cell (j := 2) rfl
      have cX_c3_8 := X_c_8.out.cell (j := 3) rfl
      have cX_x0_8 := X_x_8.out.cell (j := 0) rfl
      have cX_x1_8 := X_x_8.out.cell (j := 1) rfl
      have cX_x2_8 := X_x_8.out.cell (j := 2) rfl
      have cX_x3_8 := X_x_8.out.cell (j := 3) rfl
      have cX_y0_8 := X_y_8.out.cell (j := 0) rfl
      have cX_y1_8 := X_y_8.out.cell (j := 1) rfl
      have cX_y2_8 := X_y_8.out.cell (j := 2) rfl
      have cX_y3_8 := X_y_8.out.cell (j := 3) rfl
      have cX_v0_8 := X_v_8.out.cell (j := 0) rfl
      have cX_v1_8 := X_v_8.out.cell (j := 1) rfl
      have cX_v2_8 := X_v_8.out.cell (j := 2) rfl
      have cX_v3_8 := X_v_8.out.cell (j := 3) rfl
      go_wp2_with fail
      refine Calls.mono (CI.out _) ?_
      rintro e w9 ⟨rfl, b9⟩
      have O9 := hid b9.size
      have B_9 := hid (below_via B_8.out b9)
      have X_c_9 := hid (X_c_8.out.on b9 X_c_8.out.lt)
      have X_x_9 := hid (X_x_8.out.on b9 X_x_8.out.lt)
      have X_y_9 := hid (X_y_8.out.on b9 X_y_8.out.lt)
      have X_v_9 := hid (X_v_8.out.on b9 X_v_8.out.lt)
      clear b9 B_8 X_c_8 X_x_8 X_y_8 X_v_8 cX_c0_8 cX_c1_8 cX_c2_8 cX_c3_8 cX_x0_8 cX_x1_8 cX_x2_8 cX_x3_8 cX_y0_8 cX_y1_8 cX_y2_8 cX_y3_8 cX_v0_8 cX_v1_8 cX_v2_8 cX_v3_8
      have cX_c0_9 := X_c_9.out.cell (j := 0) rfl
      have cX_c1_9 := X_c_9.out.cell (j := 1) rfl
      have cX_c2_9 := X_c_9.out.cell (j := 2) rfl
      have cX_c3_9 := X_c_9.out.cell (j := 3) rfl
      have cX_x0_9 := X_x_9.out.cell (j := 0) rfl
      have cX_x1_9 := X_x_9.out.cell (j := 1) rfl
      have cX_x2_9 := X_x_9.out.cell (j := 2) rfl
      have cX_x3_9 := X_x_9.out.cell (j := 3) rfl
      have cX_y0_9 := X_y_9.out.cell (j := 0) rfl
      have cX_y1_9 := X_y_9.out.cell (j := 1) rfl
      have cX_y2_9 := X_y_9.out.cell (j := 2) rfl
      have cX_y3_9 := X_y_9.out.cell (j := 3) rfl
      have cX_v0_9 := X_v_9.out.cell (j := 0) rfl
      have cX_v1_9 := X_v_9.out.cell (j := 1) rfl
      have cX_v2_9 := X_v_9.out.cell (j := 2) rfl
      have cX_v3_9 := X_v_9.out.cell (j := 3) rfl
      clear CS CI
      go_wp2
      go_ret
      exact ⟨rfl, B_9.out⟩
    | true =>
      have hag2 : again = t := hag (by simp)
      subst hag2
      have hss : (again.toList == again.toList) = true := by simp
      clear hag
      go_wp2_with fail
      refine Calls.mono (CS.out _) ?_
      rintro e w8 ⟨rfl, b8⟩
      have O8 := hid b8.size
      have B_8 := hid (below_via B_7.out b8)
      have X_c_8 := hid (X_c_7.out.on b8 X_c_7.out.lt)
      have X_x_8 := hid (X_x_7.out.on b8 X_x_7.out.lt)
      have X_y_8 := hid (X_y_7.out.on b8 X_y_7.out.lt)
      have X_v_8 := hid (X_v_7.out.on b8 X_v_7.out.lt)
      clear b8 B_7 X_c_7 X_x_7 X_y_7 X_v_7 cX_c0_7 cX_c1_7 cX_c2_7 cX_c3_7 cX_x0_7 cX_x1_7 cX_x2_7 cX_x3_7 cX_y0_7 cX_y1_7 cX_y2_7 cX_y3_7 cX_v0_7 cX_v1_7 cX_v2_7 cX_v3_7
      have cX_c0_8 := X_c_8.out.cell (j := 0) rfl
      have cX_c1_8 := X_c_8.out.cell (j := 1) rfl
      have cX_c2_8 := X_c_8.out.cell (j := 2) rfl
      have cX_c3_8 := X_c_8.out.cell (j := 3) rfl
      have cX_x0_8 := X_x_8.out.cell (j := 0) rfl
      have cX_x1_8 := X_x_8.out.cell (j := 1) rfl
      have cX_x2_8 := X_x_8.out.cell (j := 2) rfl
      have cX_x3_8 := X_x_8.out.cell (j := 3) rfl
      have cX_y0_8 := X_y_8.out.cell (j := 0) rfl
      have cX_y1_8 := X_y_8.out.cell (j := 1) rfl
      have cX_y2_8 := X_y_8.out.cell (j := 2) rfl
      have cX_y3_8 := X_y_8.out.cell (j := 3) rfl
      have cX_v0_8 := X_v_8.out.cell (j := 0) rfl
      have cX_v1_8 := X_v_8.out.cell (j := 1) rfl
      have cX_v2_8 := X_v_8.out.cell (j := 2) rfl
      have cX_v3_8 := X_v_8.out.cell (j := 3) rfl
      go_wp2_with fail
      refine Calls.mono (CI.out _) ?_
      rintro e w9 ⟨rfl, b9⟩
      have O9 := hid b9.size
      have B_9 := hid (below_via B_8.out b9)
      have X_c_9 := hid (X_c_8.out.on b9 X_c_8.out.lt)
      have X_x_9 := hid (X_x_8.out.on b9 X_x_8.out.lt)
      have X_y_9 := hid (X_y_8.out.on b9 X_y_8.out.lt)
      have X_v_9 := hid (X_v_8.out.on b9 X_v_8.out.lt)
      clear b9 B_8 X_c_8 X_x_8 X_y_8 X_v_8 cX_c0_8 cX_c1_8 cX_c2_8 cX_c3_8 cX_x0_8 cX_x1_8 cX_x2_8 cX_x3_8 cX_y0_8 cX_y1_8 cX_y2_8 cX_y3_8 cX_v0_8 cX_v1_8 cX_v2_8 cX_v3_8
      have cX_c0_9 := X_c_9.out.cell (j := 0) rfl
      have cX_c1_9 := X_c_9.out.cell (j := 1) rfl
      have cX_c2_9 := X_c_9.out.cell (j := 2) rfl
      have cX_c3_9 := X_c_9.out.cell (j := 3) rfl
      have cX_x0_9 := X_x_9.out.cell (j := 0) rfl
      have cX_x1_9 := X_x_9.out.cell (j := 1) rfl
      have cX_x2_9 := X_x_9.out.cell (j := 2) rfl
      have cX_x3_9 := X_x_9.out.cell (j := 3) rfl
      have cX_y0_9 := X_y_9.out.cell (j := 0) rfl
      have cX_y1_9 := X_y_9.out.cell (j := 1) rfl
      have cX_y2_9 := X_y_9.out.cell (j := 2) rfl
      have cX_y3_9 := X_y_9.out.cell (j := 3) rfl
      have cX_v0_9 := X_v_9.out.cell (j := 0) rfl
      have cX_v1_9 := X_v_9.out.cell (j := 1) rfl
      have cX_v2_9 := X_v_9.out.cell (j := 2) rfl
      have cX_v3_9 := X_v_9.out.cell (j := 3) rfl
      clear CS CI
      go_wp2
      go_ret
      exact ⟨rfl, B_9.out⟩

theorem own : ownKnob Try.prog.godebug = none := by kernel_rfl
theorem laidOut : laidOutB Try.prog = true := by kernel_rfl
theorem rowed : varsRowed Try.prog Rows.fnSegsSpec.vars = true := by kernel_rfl
set_option maxRecDepth 1000000 in
theorem contract (H : Type) (enc : TypeId × Value → H) (W : World) (base : Nat) (args : Array Value) (ds gs : List (DataW H)) (before : List MemPlace)
    (hval : ∀ (j : Nat) t v, Try.f4.params[j]? = some t → args[j]? = some v → Value.okWide Try.prog W .any base t v)
    (hW : DataW.Whole enc Try.prog Try.f4.params.toList Rows.fnSegsSpec.vars false W args.toList ds gs before) (_hL : laidMetH Try.prog Rows.fnSegsRow.laid W) :
    Calls Try.prog 4 args W fun e W' => ∃ v, e = .returned v ∧ Rows.fnSegsSpec.post enc Try.prog Try.f4 false true false false W args v W' := by
  have hW' := hW
  obtain ⟨p, q, hA0, hV0, rfl, hfz, hnd⟩ := hW
  have hV : DataW.TrodVars enc Try.prog W (fun _ => true) Rows.fnSegsSpec.vars gs q := hV0
  have hA : DataW.TrodAll enc Try.prog W 0 (fun _ => true) true Try.f4.params.toList args.toList ds p := hA0
  rw [Try.params4] at hA hval
  obtain ⟨v0, vs0, d0, ds0, p0, q0, hargs0, rfl, rfl, h0, r0⟩ := trodAll_cons hA
  obtain ⟨rfl, rfl, rfl⟩ := trodAll_nil r0
  obtain rfl : args = #[v0] := by cases args; simp_all
  obtain ⟨a0, len0, cap0, rfl⟩ := okWide_slice Try.underlying22 (hval 0 22 v0 rfl rfl)
  have k0 := h0
  have lt0 : ∀ x ∈ p0, x.block < W.heap.size := by obtain ⟨m, hm⟩ := k0; exact DataW.trod_lt m _ _ _ hm
  have hb0 : len0 ≤ cap0 ∧ Bytes W a0 len0 := by
    obtain ⟨fuel, hf⟩ := h0
    rcases open_ints Try.underlying22 Try.underlying5 (by kernel_rfl) hf with ⟨hcs, _⟩ | ⟨x, l, c, zs, hcs, _, hl, hm, hz, _, hcell, hwz⟩
    · simp [Value.cells] at hcs
      obtain ⟨rfl, rfl, rfl⟩ := hcs
      exact ⟨Nat.le_refl _, fun h => by omega⟩
    · simp [Value.cells] at hcs
      obtain ⟨rfl, rfl, rfl⟩ := hcs
      refine ⟨hl, fun hp => ?_⟩
      have hzl : zs.length = cap0 := by simpa using hz
      obtain ⟨b, off, rfl, hc⟩ := ints_at hcell (by omega)
      refine ⟨b, off, rfl, fun j hj => ?_⟩
      have hjz : j < zs.length := by omega
      have hb8 := bounds_u8 (hwz (zs.getD j 0) (by simp [List.getD, hjz]))
      exact ⟨zs.getD j 0, hb8.1, hb8.2, hc j hjz⟩
  clear hA0 hV0
  obtain ⟨rfl, rfl⟩ := trodVars_none hV
  refine (walk a0 len0 cap0 hb0.1 W hb0.2).mono fun e W' ⟨he, bel⟩ => ?_
  subst he
  exact ⟨_, rfl, _, _, _, [], _, [], hW', trodAll_mk1 (shut_bool Try.underlying4 _), trodAll_cons_mk (Below.trod laidOut (by kernel_rfl) (of_decide_eq_true (by kernel_rfl)) k0 bel lt0) (trodAll_mk0), rfl, bel.frame _, fun h => by cases h⟩

def put (cs : Array Value) : Obj → Obj
  | .cells _ t frozen => .cells cs t frozen
  | o => o

/-- a world for the witness: the tables hold what their initialisers lay -/
def laidWorld (w : World) : World := { w with heap := w.heap }
theorem laid_met (os : Os) : laidMet Try.prog Rows.fnSegsRow.laid ((laidWorld (World.holding Try.prog os ⟨#[], #[], []⟩)).forCall (fun _ _ => 0) ⟨#[], #[.slice none 0 0], []⟩).memory :=
  laidMet_of_run' 8 (by kernel_rfl) (by kernel_rfl)
theorem reads (os : Os) {H : Type} (enc : TypeId × Value → H) : ∃ places, DataW.whole enc Try.prog ((laidWorld (World.holding Try.prog os ⟨#[], #[], []⟩)).forCall (fun _ _ => 0) ⟨#[], #[.slice none 0 0], []⟩).memory Try.f4.params.toList Rows.fnSegsSpec.vars false #[Value.slice none 0 0].toList 8 = some ([.nil], [], places) :=
  ⟨[], by kernel_rfl⟩

set_option maxRecDepth 1000000 in
theorem lifted (os : Os) (started : os.Started) (H : Type) (enc : TypeId × Value → H) (F : Stop.Interp) :
    ReturnsInHanded {} Try.checked os 4 .any ((OpenSpec.ofChange Rows.fnSegsSpec).preRow enc Try.prog Try.f4 Rows.fnSegsRow.domain false Rows.fnSegsRow.laid) (((OpenSpec.ofChange Rows.fnSegsSpec).at F).post enc Try.prog Try.f4 false true false false) := by
  obtain ⟨places, hx⟩ := reads os enc
  refine returnsInHanded_of_row (C := Try.checked) (s := OpenSpec.ofChange Rows.fnSegsSpec) own started (by kernel_rfl) Try.func4
    (witness_row_at (enc := enc) (C := Try.checked) false (laidWorld (World.holding Try.prog os ⟨#[], #[], []⟩)) #[.slice none 0 0] rfl (by kernel_rfl) (by kernel_rfl) (by kernel_rfl)
      (OpenSpec.preRow_of_cond 8 hx (by kernel_rfl) (fun k hk => by cases hk) (by kernel_rfl) (laid_met os))) ?_
  intro W base args ds gs before hval hW _ _ _ hL _ _
  exact contract H enc W base args ds gs before hval hW hL

theorem said : Rows.FnSegsSaid :=
  OpenClaim.holds_of_cond 4 Try.f4 rfl rfl rfl rfl rfl rfl rfl ⟨rfl, rfl, rfl, rfl, rfl⟩ rfl rfl rfl rfl rfl (by kernel_rfl) Try.func4 (by kernel_rfl)
    (of_decide_eq_true (by kernel_rfl)) (by unfold Func.isWrapper; first | (rw [if_pos (by decide +kernel)]; kernel_rfl) | (rw [if_neg (by decide +kernel)]; exact ⟨rfl, rfl⟩))
    (fun os started H enc _ F => by rw [OpenClaim.pre_eq_preRow]; exact lifted os started H enc F)

end Go.Proofs.Ytgnoojbbicbklaa.fnSegs
