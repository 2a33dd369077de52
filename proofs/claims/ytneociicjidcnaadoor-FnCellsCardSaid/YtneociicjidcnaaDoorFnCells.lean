/-
  For every slice of bytes, laws.FnCells returns true: a drawn right frame comes back from its bytes, with one byte turned it is refused, drawn bytes that are one are the bytes of it; nothing that was in memory is written.
-/
import Derived.Test.YtneociicjidcnaaDoorCards
import Derived.Test.YtneociicjidcnaaDoorTie
import Derived.Test.YtneociicjidcnaaDoorDrawCellS
import Derived.Test.YtneociicjidcnaaDoorBentS
import Derived.Test.YtneociicjidcnaaDoorBig
import Derived.Test.YtneociicjidcnaaDoorCellTextI
import Derived.Test.YtneociicjidcnaaDoorReadCellI
import Derived.Test.YtneociicjidcnaaDoorReadCellS
import Derived.Test.YtneociicjidcnaaDoorCellOkS
import Derived.Test.YtneociicjidcnaaDoorCellOkI
import Derived.WalkSmall
import Derived.WalkKit
import Derived.ProofKit
import Derived.OpenShut
import Derived.OpenVars
import Derived.Deep.DeepHandedRow
import Derived.Lib.LaidTab
import Derived.Stop.LaidErr
namespace Go.Proofs.YtneociicjidcnaaDoor.fnCells
open Go.ChangeShapes Go.WideShapes Go.ChangeAt Go.ChangeMaps Go.RowKit

theorem cell_told {s : ByteArray} {e : Ending} (h : (CellIn s ∧ e = .returned (.tuple #[.agg #[.int .i64 (cellOf (s.extract 0 (s.size - 4))).dst, .int .i64 (cellOf (s.extract 0 (s.size - 4))).src, .int .i64 (cellOf (s.extract 0 (s.size - 4))).kd, .string (cellOf (s.extract 0 (s.size - 4))).body], .bool true])) ∨ (¬ CellIn s ∧ e = .returned (.tuple #[.agg #[.int .i64 0, .int .i64 0, .int .i64 0, .string ⟨#[]⟩], .bool false]))) :
    ∃ (r : CellD) (ok : Bool), e = .returned (.tuple #[.agg #[.int .i64 r.dst, .int .i64 r.src, .int .i64 r.kd, .string r.body], .bool ok]) ∧ ((CellIn s ∧ r = cellOf (s.extract 0 (s.size - 4)) ∧ ok = true) ∨ (¬ CellIn s ∧ r = cellZero ∧ ok = false)) := by
  rcases h with ⟨h, rfl⟩ | ⟨h, rfl⟩
  · exact ⟨_, true, rfl, Or.inl ⟨h, rfl, rfl⟩⟩
  · exact ⟨cellZero, false, rfl, Or.inr ⟨h, rfl, rfl⟩⟩
def Told (s : ByteArray) (r : CellD) (ok : Bool) : Prop := (CellIn s ∧ r = cellOf (s.extract 0 (s.size - 4)) ∧ ok = true) ∨ (¬ CellIn s ∧ r = cellZero ∧ ok = false)
theorem cellText_flag {d : CellD} {T : ByteArray} {ok : Bool} (h : cellText d = (T, ok)) : cellOk d = ok := by
  cases hE : cellOk d with
  | true => rw [cellText_yes hE] at h; exact congrArg Prod.snd h
  | false => rw [cellText_no hE] at h; exact congrArg Prod.snd h
theorem text_sealed {d : CellD} {T : ByteArray} (h : cellText d = (T, true)) : cellOk d = true ∧ T = sealOf (cellRaw d) := by
  have hE := cellText_flag h
  rw [cellText_yes hE] at h
  exact ⟨hE, (congrArg Prod.fst h).symm⟩
theorem told_back {d r : CellD} {T : ByteArray} {right : Bool} (h : cellText d = (T, true)) (ht : Told T r right) : r = d ∧ right = true := by
  obtain ⟨hE, rfl⟩ := text_sealed h
  obtain ⟨h1, h2⟩ := cellIn_text hE
  rcases ht with ⟨_, h3, h4⟩ | ⟨h3, _⟩
  · exact ⟨h3.trans h2, h4⟩
  · exact absurd h1 h3
theorem text_turns {d : CellD} {T : ByteArray} (h : cellText d = (T, true)) : 0 < T.size ∧ TurnsNot T := by
  obtain ⟨_, rfl⟩ := text_sealed h
  exact ⟨by rw [sealOf_size]; omega, sealOf_turns _⟩
theorem told_same {s : ByteArray} {r r2 : CellD} {a b : Bool} (h : Told s r a) (h2 : Told s r2 b) : r = r2 ∧ a = b := by
  rcases h with ⟨x, h3, h4⟩ | ⟨x, h3, h4⟩ <;> rcases h2 with ⟨y, h5, h6⟩ | ⟨y, h5, h6⟩
  · exact ⟨h3.trans h5.symm, h4.trans h6.symm⟩
  · exact absurd x y
  · exact absurd y x
  · exact ⟨h3.trans h5.symm, h4.trans h6.symm⟩
theorem told_again {s again : ByteArray} {r : CellD} {may ok2 : Bool} (h : Told s r may) (h2 : cellText r = (again, ok2)) : may = true → again = s := by
  rintro rfl
  rcases h with ⟨x, h3, _⟩ | ⟨_, _, h4⟩
  · subst h3
    rw [cellText_yes x.2.2] at h2
    have h5 : sealOf (cellRaw (cellOf (s.extract 0 (s.size - 4)))) = again := congrArg Prod.fst h2
    have h7 := x.2.1
    have h6 : (s.extract 0 (s.size - 4)).size = s.size - 4 := by rw [ByteArray.size_extract]; omega
    rw [raw_cellOf (by omega)] at h5
    rw [← h5]
    exact (uns_whole (by omega) x.1.2.1).2 x.1
  · cases h4
theorem told_turned {s : ByteArray} {r : CellD} {no : Bool} (h : ¬ Uns s) (ht : Told s r no) : no = false := by
  rcases ht with ⟨x, _⟩ | ⟨_, _, h4⟩
  · exact absurd x.1 h
  · exact h4

set_option maxRecDepth 1000000 in
set_option maxHeartbeats 8000000 in
theorem walk (ao : Option Addr) (len cap : Nat) (hcap : len ≤ cap) (w : World) (hr : Bytes w ao len) (ht : Steps w) :
    Calls Tryd.prog 3 #[.slice ao len cap] w fun e w' => e = .returned (.bool true) ∧ Below w.heap.size w w' := by
  have HR := hid hr
  have HT := hid ht
  clear hr ht
  by_cases hbig : 1048576 < len
  · go_enter Tryd.func3, Tryd.ntmps3
    go_wp2
    go_ret
    exact ⟨rfl, Below.refl _ _⟩
  have hlen : len ≤ 1048576 := by omega
  clear hbig
  have B := hid (Below.refl w.heap.size w)
  go_enter Tryd.func3, Tryd.ntmps3
  go_wp2_with fail
  refine (big_no ao len cap hlen _).mono ?_
  rintro e w0 ⟨rfl, hw0⟩
  rw [hw0]
  clear hw0 w0
  go_wp2_with fail
  refine Calls.mono (drawCellText_any ao len cap hlen hcap _ (bytes_on HR.out B.out)) ?_
  rintro e w1 ⟨d, rfl, hd, b1⟩
  have O1 := hid b1.size
  have B_1 := hid (below_via B.out b1)
  clear b1 B
  have ba := below_more (Below.refl w1.heap.size w1) (.cells #[.int .i64 d.dst, .int .i64 d.src, .int .i64 d.kd, .string d.body] 25)
  have hx : BlockIs (w1.alloc (.cells #[.int .i64 d.dst, .int .i64 d.src, .int .i64 d.kd, .string d.body] 25)) w1.heap.size 25 [.int .i64 d.dst, .int .i64 d.src, .int .i64 d.kd, .string d.body] := heap_alloc_new w1 _
  have B_1a := hid (below_via B_1.out ba)
  have X_c_1a := hid hx
  have O1a := hid hx.lt
  clear ba hx B_1
  have cX_c0_1a := X_c_1a.out.cell (j := 0) rfl
  have cX_c1_1a := X_c_1a.out.cell (j := 1) rfl
  have cX_c2_1a := X_c_1a.out.cell (j := 2) rfl
  have cX_c3_1a := X_c_1a.out.cell (j := 3) rfl
  have hsm := cellText_small (d := d)
  obtain ⟨T, ok, hOK⟩ : ∃ T ok, cellText d = (T, ok) := ⟨_, _, rfl⟩
  have CQ := hid (fun W h => implCellText_any d W h)
  rw [hOK] at CQ
  dsimp only at CQ
  have HOK := hid hOK
  rw [hOK] at hsm
  dsimp only at hsm
  clear hOK
  go_wp2_with fail
  refine Calls.mono (CQ.out _ (steps_on HT.out B_1a.out)) ?_
  rintro e w2 ⟨rfl, b2⟩
  have O2 := hid b2.size
  clear CQ
  have B_2 := hid (below_via B_1a.out b2)
  have X_c_2 := hid (X_c_1a.out.on b2 X_c_1a.out.lt)
  clear b2 B_1a X_c_1a cX_c0_1a cX_c1_1a cX_c2_1a cX_c3_1a
  have cX_c0_2 := X_c_2.out.cell (j := 0) rfl
  have cX_c1_2 := X_c_2.out.cell (j := 1) rfl
  have cX_c2_2 := X_c_2.out.cell (j := 2) rfl
  have cX_c3_2 := X_c_2.out.cell (j := 3) rfl
  have CQ := hid (fun W h => implReadCell_any T (by omega) W h)
  go_wp2_with fail
  refine Calls.mono (CQ.out _ (steps_on HT.out B_2.out)) ?_
  rintro e w3 ⟨hor, b3⟩
  obtain ⟨x, right, hr, hc⟩ := cell_told hor
  subst hr
  have HRX := hid hc
  clear hor hc CQ
  have O3 := hid b3.size
  have B_3 := hid (below_via B_2.out b3)
  have X_c_3 := hid (X_c_2.out.on b3 X_c_2.out.lt)
  clear b3 B_2 X_c_2 cX_c0_2 cX_c1_2 cX_c2_2 cX_c3_2
  have cX_c0_3 := X_c_3.out.cell (j := 0) rfl
  have cX_c1_3 := X_c_3.out.cell (j := 1) rfl
  have cX_c2_3 := X_c_3.out.cell (j := 2) rfl
  have cX_c3_3 := X_c_3.out.cell (j := 3) rfl
  have ba := below_more (Below.refl w3.heap.size w3) (.cells #[.int .i64 x.dst, .int .i64 x.src, .int .i64 x.kd, .string x.body] 25)
  have hx : BlockIs (w3.alloc (.cells #[.int .i64 x.dst, .int .i64 x.src, .int .i64 x.kd, .string x.body] 25)) w3.heap.size 25 [.int .i64 x.dst, .int .i64 x.src, .int .i64 x.kd, .string x.body] := heap_alloc_new w3 _
  have B_3a := hid (below_via B_3.out ba)
  have X_c_3a := hid (X_c_3.out.on ba X_c_3.out.lt)
  have X_x_3a := hid hx
  have O3a := hid hx.lt
  clear ba hx B_3 X_c_3
  have cX_c0_3a := X_c_3a.out.cell (j := 0) rfl
  have cX_c1_3a := X_c_3a.out.cell (j := 1) rfl
  have cX_c2_3a := X_c_3a.out.cell (j := 2) rfl
  have cX_c3_3a := X_c_3a.out.cell (j := 3) rfl
  have cX_x0_3a := X_x_3a.out.cell (j := 0) rfl
  have cX_x1_3a := X_x_3a.out.cell (j := 1) rfl
  have cX_x2_3a := X_x_3a.out.cell (j := 2) rfl
  have cX_x3_3a := X_x_3a.out.cell (j := 3) rfl
  have hco : cellOk d = ok := cellText_flag HOK.out
  have hxd : ok = true → x = d ∧ right = true := fun h => by subst h; exact told_back HOK.out HRX.out
  have HTN : Hid (ok = true → 0 < T.size ∧ TurnsNot T) := fun h => by subst h; exact text_turns HOK.out
  have CS := hid (fun W => specCellOk_any d W)
  have CI := hid (fun W => implCellOk_any d W)
  rw [hco] at CS CI
  clear hco
  cases ok with
  | false =>
    clear hxd
    go_wp2_with fail
    refine Calls.mono (CS.out _) ?_
    rintro e w4 ⟨rfl, b4⟩
    have O4 := hid b4.size
    have B_4 := hid (below_via B_3a.out b4)
    have X_c_4 := hid (X_c_3a.out.on b4 X_c_3a.out.lt)
    have X_x_4 := hid (X_x_3a.out.on b4 X_x_3a.out.lt)
    clear b4 B_3a X_c_3a X_x_3a cX_c0_3a cX_c1_3a cX_c2_3a cX_c3_3a cX_x0_3a cX_x1_3a cX_x2_3a cX_x3_3a cX_c0_3 cX_c1_3 cX_c2_3 cX_c3_3
    have cX_c0_4 := X_c_4.out.cell (j := 0) rfl
    have cX_c1_4 := X_c_4.out.cell (j := 1) rfl
    have cX_c2_4 := X_c_4.out.cell (j := 2) rfl
    have cX_c3_4 := X_c_4.out.cell (j := 3) rfl
    have cX_x0_4 := X_x_4.out.cell (j := 0) rfl
    have cX_x1_4 := X_x_4.out.cell (j := 1) rfl
    have cX_x2_4 := X_x_4.out.cell (j := 2) rfl
    have cX_x3_4 := X_x_4.out.cell (j := 3) rfl
    go_wp2_with fail
    refine Calls.mono (CI.out _) ?_
    rintro e w5 ⟨rfl, b5⟩
    have O5 := hid b5.size
    have B_5 := hid (below_via B_4.out b5)
    have X_c_5 := hid (X_c_4.out.on b5 X_c_4.out.lt)
    have X_x_5 := hid (X_x_4.out.on b5 X_x_4.out.lt)
    clear b5 B_4 X_c_4 X_x_4 cX_c0_4 cX_c1_4 cX_c2_4 cX_c3_4 cX_x0_4 cX_x1_4 cX_x2_4 cX_x3_4
    have cX_c0_5 := X_c_5.out.cell (j := 0) rfl
    have cX_c1_5 := X_c_5.out.cell (j := 1) rfl
    have cX_c2_5 := X_c_5.out.cell (j := 2) rfl
    have cX_c3_5 := X_c_5.out.cell (j := 3) rfl
    have cX_x0_5 := X_x_5.out.cell (j := 0) rfl
    have cX_x1_5 := X_x_5.out.cell (j := 1) rfl
    have cX_x2_5 := X_x_5.out.cell (j := 2) rfl
    have cX_x3_5 := X_x_5.out.cell (j := 3) rfl
    clear CS CI
    go_wp2_with fail
    refine Calls.mono (drawReadCell_any ao len cap hlen hcap _ (bytes_on HR.out B_5.out)) ?_
    rintro e w6 ⟨t, rfl, ht, b6⟩
    have O6 := hid b6.size
    have B_6 := hid (below_via B_5.out b6)
    have X_c_6 := hid (X_c_5.out.on b6 X_c_5.out.lt)
    have X_x_6 := hid (X_x_5.out.on b6 X_x_5.out.lt)
    clear b6 B_5 X_c_5 X_x_5 cX_c0_5 cX_c1_5 cX_c2_5 cX_c3_5 cX_x0_5 cX_x1_5 cX_x2_5 cX_x3_5
    have cX_c0_6 := X_c_6.out.cell (j := 0) rfl
    have cX_c1_6 := X_c_6.out.cell (j := 1) rfl
    have cX_c2_6 := X_c_6.out.cell (j := 2) rfl
    have cX_c3_6 := X_c_6.out.cell (j := 3) rfl
    have cX_x0_6 := X_x_6.out.cell (j := 0) rfl
    have cX_x1_6 := X_x_6.out.cell (j := 1) rfl
    have cX_x2_6 := X_x_6.out.cell (j := 2) rfl
    have cX_x3_6 := X_x_6.out.cell (j := 3) rfl
    have CQ := hid (fun W h => implReadCell_any t (by omega) W h)
    go_wp2_with fail
    refine Calls.mono (CQ.out _ (steps_on HT.out B_6.out)) ?_
    rintro e w7 ⟨hor, b7⟩
    obtain ⟨y, may, hr, hc⟩ := cell_told hor
    subst hr
    have HRY := hid hc
    clear hor hc CQ
    have O7 := hid b7.size
    have B_7 := hid (below_via B_6.out b7)
    have X_c_7 := hid (X_c_6.out.on b7 X_c_6.out.lt)
    have X_x_7 := hid (X_x_6.out.on b7 X_x_6.out.lt)
    clear b7 B_6 X_c_6 X_x_6 cX_c0_6 cX_c1_6 cX_c2_6 cX_c3_6 cX_x0_6 cX_x1_6 cX_x2_6 cX_x3_6
    have cX_c0_7 := X_c_7.out.cell (j := 0) rfl
    have cX_c1_7 := X_c_7.out.cell (j := 1) rfl
    have cX_c2_7 := X_c_7.out.cell (j := 2) rfl
    have cX_c3_7 := X_c_7.out.cell (j := 3) rfl
    have cX_x0_7 := X_x_7.out.cell (j := 0) rfl
    have cX_x1_7 := X_x_7.out.cell (j := 1) rfl
    have cX_x2_7 := X_x_7.out.cell (j := 2) rfl
    have cX_x3_7 := X_x_7.out.cell (j := 3) rfl
    have ba := below_more (Below.refl w7.heap.size w7) (.cells #[.int .i64 y.dst, .int .i64 y.src, .int .i64 y.kd, .string y.body] 25)
    have hx : BlockIs (w7.alloc (.cells #[.int .i64 y.dst, .int .i64 y.src, .int .i64 y.kd, .string y.body] 25)) w7.heap.size 25 [.int .i64 y.dst, .int .i64 y.src, .int .i64 y.kd, .string y.body] := heap_alloc_new w7 _
    have B_7a := hid (below_via B_7.out ba)
    have X_c_7a := hid (X_c_7.out.on ba X_c_7.out.lt)
    have X_x_7a := hid (X_x_7.out.on ba X_x_7.out.lt)
    have X_y_7a := hid hx
    have O7a := hid hx.lt
    clear ba hx B_7 X_c_7 X_x_7
    have cX_c0_7a := X_c_7a.out.cell (j := 0) rfl
    have cX_c1_7a := X_c_7a.out.cell (j := 1) rfl
    have cX_c2_7a := X_c_7a.out.cell (j := 2) rfl
    have cX_c3_7a := X_c_7a.out.cell (j := 3) rfl
    have cX_x0_7a := X_x_7a.out.cell (j := 0) rfl
    have cX_x1_7a := X_x_7a.out.cell (j := 1) rfl
    have cX_x2_7a := X_x_7a.out.cell (j := 2) rfl
    have cX_x3_7a := X_x_7a.out.cell (j := 3) rfl
    have cX_y0_7a := X_y_7a.out.cell (j := 0) rfl
    have cX_y1_7a := X_y_7a.out.cell (j := 1) rfl
    have cX_y2_7a := X_y_7a.out.cell (j := 2) rfl
    have cX_y3_7a := X_y_7a.out.cell (j := 3) rfl
    have CQ := hid (fun W => specReadCell_any t (by omega) W)
    go_wp2_with fail
    refine Calls.mono (CQ.out _) ?_
    rintro e w8 ⟨hor, b8⟩
    obtain ⟨y2, want, hr, hc⟩ := cell_told hor
    subst hr
    obtain ⟨rfl, rfl⟩ := told_same HRY.out hc
    clear hor hc CQ
    have O8 := hid b8.size
    have B_8 := hid (below_via B_7a.out b8)
    have X_c_8 := hid (X_c_7a.out.on b8 X_c_7a.out.lt)
    have X_x_8 := hid (X_x_7a.out.on b8 X_x_7a.out.lt)
    have X_y_8 := hid (X_y_7a.out.on b8 X_y_7a.out.lt)
    clear b8 B_7a X_c_7a X_x_7a X_y_7a cX_c0_7a cX_c1_7a cX_c2_7a cX_c3_7a cX_x0_7a cX_x1_7a cX_x2_7a cX_x3_7a cX_y0_7a cX_y1_7a cX_y2_7a cX_y3_7a cX_c0_7 cX_c1_7 cX_c2_7 cX_c3_7 cX_x0_7 cX_x1_7 cX_x2_7 cX_x3_7
    have cX_c0_8 := X_c_8.out.cell (j := 0) rfl
    have cX_c1_8 := X_c_8.out.cell (j := 1) rfl
    have cX_c2_8 := X_c_8.out.cell (j := 2) rfl
    have cX_c3_8 := X_c_8.out.cell (j := 3) rfl
    have cX_x0_8 := X_x_8.out.cell (j := 0) rfl
    have cX_x1_8 := X_x_8.out.cell (j := 1) rfl
    have cX_x2_8 := X_x_8.out.cell (j := 2) rfl
    have cX_x3_8 := X_x_8.out.cell (j := 3) rfl
    have cX_y0_8 := X_y_8.out.cell (j := 0) rfl
    have cX_y1_8 := X_y_8.out.cell (j := 1) rfl
    have cX_y2_8 := X_y_8.out.cell (j := 2) rfl
    have cX_y3_8 := X_y_8.out.cell (j := 3) rfl
    have ba := below_more (Below.refl w8.heap.size w8) (.cells #[.int .i64 y.dst, .int .i64 y.src, .int .i64 y.kd, .string y.body] 25)
    have hx : BlockIs (w8.alloc (.cells #[.int .i64 y.dst, .int .i64 y.src, .int .i64 y.kd, .string y.body] 25)) w8.heap.size 25 [.int .i64 y.dst, .int .i64 y.src, .int .i64 y.kd, .string y.body] := heap_alloc_new w8 _
    have B_8a := hid (below_via B_8.out ba)
    have X_c_8a := hid (X_c_8.out.on ba X_c_8.out.lt)
    have X_x_8a := hid (X_x_8.out.on ba X_x_8.out.lt)
    have X_y_8a := hid (X_y_8.out.on ba X_y_8.out.lt)
    have X_v_8a := hid hx
    have O8a := hid hx.lt
    clear ba hx B_8 X_c_8 X_x_8 X_y_8
    have cX_c0_8a := X_c_8a.out.cell (j := 0) rfl
    have cX_c1_8a := X_c_8a.out.cell (j := 1) rfl
    have cX_c2_8a := X_c_8a.out.cell (j := 2) rfl
    have cX_c3_8a := X_c_8a.out.cell (j := 3) rfl
    have cX_x0_8a := X_x_8a.out.cell (j := 0) rfl
    have cX_x1_8a := X_x_8a.out.cell (j := 1) rfl
    have cX_x2_8a := X_x_8a.out.cell (j := 2) rfl
    have cX_x3_8a := X_x_8a.out.cell (j := 3) rfl
    have cX_y0_8a := X_y_8a.out.cell (j := 0) rfl
    have cX_y1_8a := X_y_8a.out.cell (j := 1) rfl
    have cX_y2_8a := X_y_8a.out.cell (j := 2) rfl
    have cX_y3_8a := X_y_8a.out.cell (j := 3) rfl
    have cX_v0_8a := X_v_8a.out.cell (j := 0) rfl
    have cX_v1_8a := X_v_8a.out.cell (j := 1) rfl
    have cX_v2_8a := X_v_8a.out.cell (j := 2) rfl
    have cX_v3_8a := X_v_8a.out.cell (j := 3) rfl
    obtain ⟨again, ok2, hAG⟩ : ∃ T ok, cellText y = (T, ok) := ⟨_, _, rfl⟩
    have CQ := hid (fun W h => implCellText_any y W h)
    rw [hAG] at CQ
    dsimp only at CQ
    have HAG := hid hAG
    clear hAG
    go_wp2_with fail
    refine Calls.mono (CQ.out _ (steps_on HT.out B_8a.out)) ?_
    rintro e w9 ⟨rfl, b9⟩
    have O9 := hid b9.size
    clear CQ
    have B_9 := hid (below_via B_8a.out b9)
    have X_c_9 := hid (X_c_8a.out.on b9 X_c_8a.out.lt)
    have X_x_9 := hid (X_x_8a.out.on b9 X_x_8a.out.lt)
    have X_y_9 := hid (X_y_8a.out.on b9 X_y_8a.out.lt)
    have X_v_9 := hid (X_v_8a.out.on b9 X_v_8a.out.lt)
    clear b9 B_8a X_c_8a X_x_8a X_y_8a X_v_8a cX_c0_8a cX_c1_8a cX_c2_8a cX_c3_8a cX_x0_8a cX_x1_8a cX_x2_8a cX_x3_8a cX_y0_8a cX_y1_8a cX_y2_8a cX_y3_8a cX_v0_8a cX_v1_8a cX_v2_8a cX_v3_8a cX_c0_8 cX_c1_8 cX_c2_8 cX_c3_8 cX_x0_8 cX_x1_8 cX_x2_8 cX_x3_8 cX_y0_8 cX_y1_8 cX_y2_8 cX_y3_8
    have cX_c0_9 := X_c_9.out.cell (j := 0) rfl
    have cX_c1_9 := X_c_9.out.cell (j := 1) rfl
    have cX_c2_9 := X_c_9.out.cell (j := 2) rfl
    have cX_c3_9 := X_c_9.out.cell (j := 3) rfl
    have cX_x0_9 := X_x_9.out.cell (j := 0) rfl
    have cX_x1_9 := X_x_9.out.cell (j := 1) rfl
    have cX_x2_9 := X_x_9.out.cell (j := 2) rfl
    have cX_x3_9 := X_x_9.out.cell (j := 3) rfl
    have cX_y0_9 := X_y_9.out.cell (j := 0) rfl
    have cX_y1_9 := X_y_9.out.cell (j := 1) rfl
    have cX_y2_9 := X_y_9.out.cell (j := 2) rfl
    have cX_y3_9 := X_y_9.out.cell (j := 3) rfl
    have cX_v0_9 := X_v_9.out.cell (j := 0) rfl
    have cX_v1_9 := X_v_9.out.cell (j := 1) rfl
    have cX_v2_9 := X_v_9.out.cell (j := 2) rfl
    have cX_v3_9 := X_v_9.out.cell (j := 3) rfl
    have hag : may = true → again = t := told_again HRY.out HAG.out
    go_wp2_with fail
    refine Calls.mono (drawPlaces_any ao len cap hlen hcap _ (bytes_on HR.out B_9.out)) ?_
    rintro e w10 ⟨p, rfl, hp, b10⟩
    have O10 := hid b10.size
    have B_10 := hid (below_via B_9.out b10)
    have X_c_10 := hid (X_c_9.out.on b10 X_c_9.out.lt)
    have X_x_10 := hid (X_x_9.out.on b10 X_x_9.out.lt)
    have X_y_10 := hid (X_y_9.out.on b10 X_y_9.out.lt)
    have X_v_10 := hid (X_v_9.out.on b10 X_v_9.out.lt)
    clear b10 B_9 X_c_9 X_x_9 X_y_9 X_v_9 cX_c0_9 cX_c1_9 cX_c2_9 cX_c3_9 cX_x0_9 cX_x1_9 cX_x2_9 cX_x3_9 cX_y0_9 cX_y1_9 cX_y2_9 cX_y3_9 cX_v0_9 cX_v1_9 cX_v2_9 cX_v3_9
    have cX_c0_10 := X_c_10.out.cell (j := 0) rfl
    have cX_c1_10 := X_c_10.out.cell (j := 1) rfl
    have cX_c2_10 := X_c_10.out.cell (j := 2) rfl
    have cX_c3_10 := X_c_10.out.cell (j := 3) rfl
    have cX_x0_10 := X_x_10.out.cell (j := 0) rfl
    have cX_x1_10 := X_x_10.out.cell (j := 1) rfl
    have cX_x2_10 := X_x_10.out.cell (j := 2) rfl
    have cX_x3_10 := X_x_10.out.cell (j := 3) rfl
    have cX_y0_10 := X_y_10.out.cell (j := 0) rfl
    have cX_y1_10 := X_y_10.out.cell (j := 1) rfl
    have cX_y2_10 := X_y_10.out.cell (j := 2) rfl
    have cX_y3_10 := X_y_10.out.cell (j := 3) rfl
    have cX_v0_10 := X_v_10.out.cell (j := 0) rfl
    have cX_v1_10 := X_v_10.out.cell (j := 1) rfl
    have cX_v2_10 := X_v_10.out.cell (j := 2) rfl
    have cX_v3_10 := X_v_10.out.cell (j := 3) rfl
    go_wp2_with fail
    refine Calls.mono (bent_any T (by omega) p _ hp) ?_
    rintro e w11 ⟨T2, rfl, hT2, b11⟩
    have O11 := hid b11.size
    clear hp
    have B_11 := hid (below_via B_10.out b11)
    have X_c_11 := hid (X_c_10.out.on b11 X_c_10.out.lt)
    have X_x_11 := hid (X_x_10.out.on b11 X_x_10.out.lt)
    have X_y_11 := hid (X_y_10.out.on b11 X_y_10.out.lt)
    have X_v_11 := hid (X_v_10.out.on b11 X_v_10.out.lt)
    clear b11 B_10 X_c_10 X_x_10 X_y_10 X_v_10 cX_c0_10 cX_c1_10 cX_c2_10 cX_c3_10 cX_x0_10 cX_x1_10 cX_x2_10 cX_x3_10 cX_y0_10 cX_y1_10 cX_y2_10 cX_y3_10 cX_v0_10 cX_v1_10 cX_v2_10 cX_v3_10
    have cX_c0_11 := X_c_11.out.cell (j := 0) rfl
    have cX_c1_11 := X_c_11.out.cell (j := 1) rfl
    have cX_c2_11 := X_c_11.out.cell (j := 2) rfl
    have cX_c3_11 := X_c_11.out.cell (j := 3) rfl
    have cX_x0_11 := X_x_11.out.cell (j := 0) rfl
    have cX_x1_11 := X_x_11.out.cell (j := 1) rfl
    have cX_x2_11 := X_x_11.out.cell (j := 2) rfl
    have cX_x3_11 := X_x_11.out.cell (j := 3) rfl
    have cX_y0_11 := X_y_11.out.cell (j := 0) rfl
    have cX_y1_11 := X_y_11.out.cell (j := 1) rfl
    have cX_y2_11 := X_y_11.out.cell (j := 2) rfl
    have cX_y3_11 := X_y_11.out.cell (j := 3) rfl
    have cX_v0_11 := X_v_11.out.cell (j := 0) rfl
    have cX_v1_11 := X_v_11.out.cell (j := 1) rfl
    have cX_v2_11 := X_v_11.out.cell (j := 2) rfl
    have cX_v3_11 := X_v_11.out.cell (j := 3) rfl
    have hT3 := hT2.1
    have CQ := hid (fun W h => implReadCell_any T2 (by omega) W h)
    go_wp2_with fail
    refine Calls.mono (CQ.out _ (steps_on HT.out B_11.out)) ?_
    rintro e w12 ⟨hor, b12⟩
    obtain ⟨z, no, hr, hc⟩ := cell_told hor
    subst hr
    have HRZ := hid hc
    clear hor hc CQ
    have O12 := hid b12.size
    have B_12 := hid (below_via B_11.out b12)
    have X_c_12 := hid (X_c_11.out.on b12 X_c_11.out.lt)
    have X_x_12 := hid (X_x_11.out.on b12 X_x_11.out.lt)
    have X_y_12 := hid (X_y_11.out.on b12 X_y_11.out.lt)
    have X_v_12 := hid (X_v_11.out.on b12 X_v_11.out.lt)
    clear b12 B_11 X_c_11 X_x_11 X_y_11 X_v_11 cX_c0_11 cX_c1_11 cX_c2_11 cX_c3_11 cX_x0_11 cX_x1_11 cX_x2_11 cX_x3_11 cX_y0_11 cX_y1_11 cX_y2_11 cX_y3_11 cX_v0_11 cX_v1_11 cX_v2_11 cX_v3_11
    have cX_c0_12 := X_c_12.out.cell (j := 0) rfl
    have cX_c1_12 := X_c_12.out.cell (j := 1) rfl
    have cX_c2_12 := X_c_12.out.cell (j := 2) rfl
    have cX_c3_12 := X_c_12.out.cell (j := 3) rfl
    have cX_x0_12 := X_x_12.out.cell (j := 0) rfl
    have cX_x1_12 := X_x_12.out.cell (j := 1) rfl
    have cX_x2_12 := X_x_12.out.cell (j := 2) rfl
    have cX_x3_12 := X_x_12.out.cell (j := 3) rfl
    have cX_y0_12 := X_y_12.out.cell (j := 0) rfl
    have cX_y1_12 := X_y_12.out.cell (j := 1) rfl
    have cX_y2_12 := X_y_12.out.cell (j := 2) rfl
    have cX_y3_12 := X_y_12.out.cell (j := 3) rfl
    have cX_v0_12 := X_v_12.out.cell (j := 0) rfl
    have cX_v1_12 := X_v_12.out.cell (j := 1) rfl
    have cX_v2_12 := X_v_12.out.cell (j := 2) rfl
    have cX_v3_12 := X_v_12.out.cell (j := 3) rfl
    clear hT3
    have ba := below_more (Below.refl w12.heap.size w12) (.cells #[.int .i64 z.dst, .int .i64 z.src, .int .i64 z.kd, .string z.body] 25)
    have hx : BlockIs (w12.alloc (.cells #[.int .i64 z.dst, .int .i64 z.src, .int .i64 z.kd, .string z.body] 25)) w12.heap.size 25 [.int .i64 z.dst, .int .i64 z.src, .int .i64 z.kd, .string z.body] := heap_alloc_new w12 _
    have B_12a := hid (below_via B_12.out ba)
    have X_c_12a := hid (X_c_12.out.on ba X_c_12.out.lt)
    have X_x_12a := hid (X_x_12.out.on ba X_x_12.out.lt)
    have X_y_12a := hid (X_y_12.out.on ba X_y_12.out.lt)
    have X_v_12a := hid (X_v_12.out.on ba X_v_12.out.lt)
    have X_z_12a := hid hx
    have O12a := hid hx.lt
    clear ba hx B_12 X_c_12 X_x_12 X_y_12 X_v_12
    have cX_c0_12a := X_c_12a.out.cell (j := 0) rfl
    have cX_c1_12a := X_c_12a.out.cell (j := 1) rfl
    have cX_c2_12a := X_c_12a.out.cell (j := 2) rfl
    have cX_c3_12a := X_c_12a.out.cell (j := 3) rfl
    have cX_x0_12a := X_x_12a.out.cell (j := 0) rfl
    have cX_x1_12a := X_x_12a.out.cell (j := 1) rfl
    have cX_x2_12a := X_x_12a.out.cell (j := 2) rfl
    have cX_x3_12a := X_x_12a.out.cell (j := 3) rfl
    have cX_y0_12a := X_y_12a.out.cell (j := 0) rfl
    have cX_y1_12a := X_y_12a.out.cell (j := 1) rfl
    have cX_y2_12a := X_y_12a.out.cell (j := 2) rfl
    have cX_y3_12a := X_y_12a.out.cell (j := 3) rfl
    have cX_v0_12a := X_v_12a.out.cell (j := 0) rfl
    have cX_v1_12a := X_v_12a.out.cell (j := 1) rfl
    have cX_v2_12a := X_v_12a.out.cell (j := 2) rfl
    have cX_v3_12a := X_v_12a.out.cell (j := 3) rfl
    have cX_z0_12a := X_z_12a.out.cell (j := 0) rfl
    have cX_z1_12a := X_z_12a.out.cell (j := 1) rfl
    have cX_z2_12a := X_z_12a.out.cell (j := 2) rfl
    have cX_z3_12a := X_z_12a.out.cell (j := 3) rfl
    cases may with
    | false =>
      go_wp2
      go_ret
      exact ⟨rfl, B_12a.out⟩
    | true =>
      have hag2 : again = t := hag rfl
      subst hag2
      have hss : (again.toList == again.toList) = true := by simp
      go_wp2
      go_ret
      exact ⟨rfl, B_12a.out⟩
  | true =>
    obtain ⟨hxd1, hxd2⟩ := hxd rfl
    subst hxd1 hxd2
    have hsd : (x.body.toList == x.body.toList) = true := by simp
    clear hxd
    go_wp2_with fail
    refine Calls.mono (CS.out _) ?_
    rintro e w4 ⟨rfl, b4⟩
    have O4 := hid b4.size
    have B_4 := hid (below_via B_3a.out b4)
    have X_c_4 := hid (X_c_3a.out.on b4 X_c_3a.out.lt)
    have X_x_4 := hid (X_x_3a.out.on b4 X_x_3a.out.lt)
    clear b4 B_3a X_c_3a X_x_3a cX_c0_3a cX_c1_3a cX_c2_3a cX_c3_3a cX_x0_3a cX_x1_3a cX_x2_3a cX_x3_3a cX_c0_3 cX_c1_3 cX_c2_3 cX_c3_3
    have cX_c0_4 := X_c_4.out.cell (j := 0) rfl
    have cX_c1_4 := X_c_4.out.cell (j := 1) rfl
    have cX_c2_4 := X_c_4.out.cell (j := 2) rfl
    have cX_c3_4 := X_c_4.out.cell (j := 3) rfl
    have cX_x0_4 := X_x_4.out.cell (j := 0) rfl
    have cX_x1_4 := X_x_4.out.cell (j := 1) rfl
    have cX_x2_4 := X_x_4.out.cell (j := 2) rfl
    have cX_x3_4 := X_x_4.out.cell (j := 3) rfl
    go_wp2_with fail
    refine Calls.mono (CI.out _) ?_
    rintro e w5 ⟨rfl, b5⟩
    have O5 := hid b5.size
    have B_5 := hid (below_via B_4.out b5)
    have X_c_5 := hid (X_c_4.out.on b5 X_c_4.out.lt)
    have X_x_5 := hid (X_x_4.out.on b5 X_x_4.out.lt)
    clear b5 B_4 X_c_4 X_x_4 cX_c0_4 cX_c1_4 cX_c2_4 cX_c3_4 cX_x0_4 cX_x1_4 cX_x2_4 cX_x3_4
    have cX_c0_5 := X_c_5.out.cell (j := 0) rfl
    have cX_c1_5 := X_c_5.out.cell (j := 1) rfl
    have cX_c2_5 := X_c_5.out.cell (j := 2) rfl
    have cX_c3_5 := X_c_5.out.cell (j := 3) rfl
    have cX_x0_5 := X_x_5.out.cell (j := 0) rfl
    have cX_x1_5 := X_x_5.out.cell (j := 1) rfl
    have cX_x2_5 := X_x_5.out.cell (j := 2) rfl
    have cX_x3_5 := X_x_5.out.cell (j := 3) rfl
    clear CS CI
    go_wp2_with fail
    refine Calls.mono (drawReadCell_any ao len cap hlen hcap _ (bytes_on HR.out B_5.out)) ?_
    rintro e w6 ⟨t, rfl, ht, b6⟩
    have O6 := hid b6.size
    have B_6 := hid (below_via B_5.out b6)
    have X_c_6 := hid (X_c_5.out.on b6 X_c_5.out.lt)
    have X_x_6 := hid (X_x_5.out.on b6 X_x_5.out.lt)
    clear b6 B_5 X_c_5 X_x_5 cX_c0_5 cX_c1_5 cX_c2_5 cX_c3_5 cX_x0_5 cX_x1_5 cX_x2_5 cX_x3_5
    have cX_c0_6 := X_c_6.out.cell (j := 0) rfl
    have cX_c1_6 := X_c_6.out.cell (j := 1) rfl
    have cX_c2_6 := X_c_6.out.cell (j := 2) rfl
    have cX_c3_6 := X_c_6.out.cell (j := 3) rfl
    have cX_x0_6 := X_x_6.out.cell (j := 0) rfl
    have cX_x1_6 := X_x_6.out.cell (j := 1) rfl
    have cX_x2_6 := X_x_6.out.cell (j := 2) rfl
    have cX_x3_6 := X_x_6.out.cell (j := 3) rfl
    have CQ := hid (fun W h => implReadCell_any t (by omega) W h)
    go_wp2_with fail
    refine Calls.mono (CQ.out _ (steps_on HT.out B_6.out)) ?_
    rintro e w7 ⟨hor, b7⟩
    obtain ⟨y, may, hr, hc⟩ := cell_told hor
    subst hr
    have HRY := hid hc
    clear hor hc CQ
    have O7 := hid b7.size
    have B_7 := hid (below_via B_6.out b7)
    have X_c_7 := hid (X_c_6.out.on b7 X_c_6.out.lt)
    have X_x_7 := hid (X_x_6.out.on b7 X_x_6.out.lt)
    clear b7 B_6 X_c_6 X_x_6 cX_c0_6 cX_c1_6 cX_c2_6 cX_c3_6 cX_x0_6 cX_x1_6 cX_x2_6 cX_x3_6
    have cX_c0_7 := X_c_7.out.cell (j := 0) rfl
    have cX_c1_7 := X_c_7.out.cell (j := 1) rfl
    have cX_c2_7 := X_c_7.out.cell (j := 2) rfl
    have cX_c3_7 := X_c_7.out.cell (j := 3) rfl
    have cX_x0_7 := X_x_7.out.cell (j := 0) rfl
    have cX_x1_7 := X_x_7.out.cell (j := 1) rfl
    have cX_x2_7 := X_x_7.out.cell (j := 2) rfl
    have cX_x3_7 := X_x_7.out.cell (j := 3) rfl
    have ba := below_more (Below.refl w7.heap.size w7) (.cells #[.int .i64 y.dst, .int .i64 y.src, .int .i64 y.kd, .string y.body] 25)
    have hx : BlockIs (w7.alloc (.cells #[.int .i64 y.dst, .int .i64 y.src, .int .i64 y.kd, .string y.body] 25)) w7.heap.size 25 [.int .i64 y.dst, .int .i64 y.src, .int .i64 y.kd, .string y.body] := heap_alloc_new w7 _
    have B_7a := hid (below_via B_7.out ba)
    have X_c_7a := hid (X_c_7.out.on ba X_c_7.out.lt)
    have X_x_7a := hid (X_x_7.out.on ba X_x_7.out.lt)
    have X_y_7a := hid hx
    have O7a := hid hx.lt
    clear ba hx B_7 X_c_7 X_x_7
    have cX_c0_7a := X_c_7a.out.cell (j := 0) rfl
    have cX_c1_7a := X_c_7a.out.cell (j := 1) rfl
    have cX_c2_7a := X_c_7a.out.cell (j := 2) rfl
    have cX_c3_7a := X_c_7a.out.cell (j := 3) rfl
    have cX_x0_7a := X_x_7a.out.cell (j := 0) rfl
    have cX_x1_7a := X_x_7a.out.cell (j := 1) rfl
    have cX_x2_7a := X_x_7a.out.cell (j := 2) rfl
    have cX_x3_7a := X_x_7a.out.cell (j := 3) rfl
    have cX_y0_7a := X_y_7a.out.cell (j := 0) rfl
    have cX_y1_7a := X_y_7a.out.cell (j := 1) rfl
    have cX_y2_7a := X_y_7a.out.cell (j := 2) rfl
    have cX_y3_7a := X_y_7a.out.cell (j := 3) rfl
    have CQ := hid (fun W => specReadCell_any t (by omega) W)
    go_wp2_with fail
    refine Calls.mono (CQ.out _) ?_
    rintro e w8 ⟨hor, b8⟩
    obtain ⟨y2, want, hr, hc⟩ := cell_told hor
    subst hr
    obtain ⟨rfl, rfl⟩ := told_same HRY.out hc
    clear hor hc CQ
    have O8 := hid b8.size
    have B_8 := hid (below_via B_7a.out b8)
    have X_c_8 := hid (X_c_7a.out.on b8 X_c_7a.out.lt)
    have X_x_8 := hid (X_x_7a.out.on b8 X_x_7a.out.lt)
    have X_y_8 := hid (X_y_7a.out.on b8 X_y_7a.out.lt)
    clear b8 B_7a X_c_7a X_x_7a X_y_7a cX_c0_7a cX_c1_7a cX_c2_7a cX_c3_7a cX_x0_7a cX_x1_7a cX_x2_7a cX_x3_7a cX_y0_7a cX_y1_7a cX_y2_7a cX_y3_7a cX_c0_7 cX_c1_7 cX_c2_7 cX_c3_7 cX_x0_7 cX_x1_7 cX_x2_7 cX_x3_7
    have cX_c0_8 := X_c_8.out.cell (j := 0) rfl
    have cX_c1_8 := X_c_8.out.cell (j := 1) rfl
    have cX_c2_8 := X_c_8.out.cell (j := 2) rfl
    have cX_c3_8 := X_c_8.out.cell (j := 3) rfl
    have cX_x0_8 := X_x_8.out.cell (j := 0) rfl
    have cX_x1_8 := X_x_8.out.cell (j := 1) rfl
    have cX_x2_8 := X_x_8.out.cell (j := 2) rfl
    have cX_x3_8 := X_x_8.out.cell (j := 3) rfl
    have cX_y0_8 := X_y_8.out.cell (j := 0) rfl
    have cX_y1_8 := X_y_8.out.cell (j := 1) rfl
    have cX_y2_8 := X_y_8.out.cell (j := 2) rfl
    have cX_y3_8 := X_y_8.out.cell (j := 3) rfl
    have ba := below_more (Below.refl w8.heap.size w8) (.cells #[.int .i64 y.dst, .int .i64 y.src, .int .i64 y.kd, .string y.body] 25)
    have hx : BlockIs (w8.alloc (.cells #[.int .i64 y.dst, .int .i64 y.src, .int .i64 y.kd, .string y.body] 25)) w8.heap.size 25 [.int .i64 y.dst, .int .i64 y.src, .int .i64 y.kd, .string y.body] := heap_alloc_new w8 _
    have B_8a := hid (below_via B_8.out ba)
    have X_c_8a := hid (X_c_8.out.on ba X_c_8.out.lt)
    have X_x_8a := hid (X_x_8.out.on ba X_x_8.out.lt)
    have X_y_8a := hid (X_y_8.out.on ba X_y_8.out.lt)
    have X_v_8a := hid hx
    have O8a := hid hx.lt
    clear ba hx B_8 X_c_8 X_x_8 X_y_8
    have cX_c0_8a := X_c_8a.out.cell (j := 0) rfl
    have cX_c1_8a := X_c_8a.out.cell (j := 1) rfl
    have cX_c2_8a := X_c_8a.out.cell (j := 2) rfl
    have cX_c3_8a := X_c_8a.out.cell (j := 3) rfl
    have cX_x0_8a := X_x_8a.out.cell (j := 0) rfl
    have cX_x1_8a := X_x_8a.out.cell (j := 1) rfl
    have cX_x2_8a := X_x_8a.out.cell (j := 2) rfl
    have cX_x3_8a := X_x_8a.out.cell (j := 3) rfl
    have cX_y0_8a := X_y_8a.out.cell (j := 0) rfl
    have cX_y1_8a := X_y_8a.out.cell (j := 1) rfl
    have cX_y2_8a := X_y_8a.out.cell (j := 2) rfl
    have cX_y3_8a := X_y_8a.out.cell (j := 3) rfl
    have cX_v0_8a := X_v_8a.out.cell (j := 0) rfl
    have cX_v1_8a := X_v_8a.out.cell (j := 1) rfl
    have cX_v2_8a := X_v_8a.out.cell (j := 2) rfl
    have cX_v3_8a := X_v_8a.out.cell (j := 3) rfl
    obtain ⟨again, ok2, hAG⟩ : ∃ T ok, cellText y = (T, ok) := ⟨_, _, rfl⟩
    have CQ := hid (fun W h => implCellText_any y W h)
    rw [hAG] at CQ
    dsimp only at CQ
    have HAG := hid hAG
    clear hAG
    go_wp2_with fail
    refine Calls.mono (CQ.out _ (steps_on HT.out B_8a.out)) ?_
    rintro e w9 ⟨rfl, b9⟩
    have O9 := hid b9.size
    clear CQ
    have B_9 := hid (below_via B_8a.out b9)
    have X_c_9 := hid (X_c_8a.out.on b9 X_c_8a.out.lt)
    have X_x_9 := hid (X_x_8a.out.on b9 X_x_8a.out.lt)
    have X_y_9 := hid (X_y_8a.out.on b9 X_y_8a.out.lt)
    have X_v_9 := hid (X_v_8a.out.on b9 X_v_8a.out.lt)
    clear b9 B_8a X_c_8a X_x_8a X_y_8a X_v_8a cX_c0_8a cX_c1_8a cX_c2_8a cX_c3_8a cX_x0_8a cX_x1_8a cX_x2_8a cX_x3_8a cX_y0_8a cX_y1_8a cX_y2_8a cX_y3_8a cX_v0_8a cX_v1_8a cX_v2_8a cX_v3_8a cX_c0_8 cX_c1_8 cX_c2_8 cX_c3_8 cX_x0_8 cX_x1_8 cX_x2_8 cX_x3_8 cX_y0_8 cX_y1_8 cX_y2_8 cX_y3_8
    have cX_c0_9 := X_c_9.out.cell (j := 0) rfl
    have cX_c1_9 := X_c_9.out.cell (j := 1) rfl
    have cX_c2_9 := X_c_9.out.cell (j := 2) rfl
    have cX_c3_9 := X_c_9.out.cell (j := 3) rfl
    have cX_x0_9 := X_x_9.out.cell (j := 0) rfl
    have cX_x1_9 := X_x_9.out.cell (j := 1) rfl
    have cX_x2_9 := X_x_9.out.cell (j := 2) rfl
    have cX_x3_9 := X_x_9.out.cell (j := 3) rfl
    have cX_y0_9 := X_y_9.out.cell (j := 0) rfl
    have cX_y1_9 := X_y_9.out.cell (j := 1) rfl
    have cX_y2_9 := X_y_9.out.cell (j := 2) rfl
    have cX_y3_9 := X_y_9.out.cell (j := 3) rfl
    have cX_v0_9 := X_v_9.out.cell (j := 0) rfl
    have cX_v1_9 := X_v_9.out.cell (j := 1) rfl
    have cX_v2_9 := X_v_9.out.cell (j := 2) rfl
    have cX_v3_9 := X_v_9.out.cell (j := 3) rfl
    have hag : may = true → again = t := told_again HRY.out HAG.out
    go_wp2_with fail
    refine Calls.mono (drawPlaces_any ao len cap hlen hcap _ (bytes_on HR.out B_9.out)) ?_
    rintro e w10 ⟨p, rfl, hp, b10⟩
    have O10 := hid b10.size
    have B_10 := hid (below_via B_9.out b10)
    have X_c_10 := hid (X_c_9.out.on b10 X_c_9.out.lt)
    have X_x_10 := hid (X_x_9.out.on b10 X_x_9.out.lt)
    have X_y_10 := hid (X_y_9.out.on b10 X_y_9.out.lt)
    have X_v_10 := hid (X_v_9.out.on b10 X_v_9.out.lt)
    clear b10 B_9 X_c_9 X_x_9 X_y_9 X_v_9 cX_c0_9 cX_c1_9 cX_c2_9 cX_c3_9 cX_x0_9 cX_x1_9 cX_x2_9 cX_x3_9 cX_y0_9 cX_y1_9 cX_y2_9 cX_y3_9 cX_v0_9 cX_v1_9 cX_v2_9 cX_v3_9
    have cX_c0_10 := X_c_10.out.cell (j := 0) rfl
    have cX_c1_10 := X_c_10.out.cell (j := 1) rfl
    have cX_c2_10 := X_c_10.out.cell (j := 2) rfl
    have cX_c3_10 := X_c_10.out.cell (j := 3) rfl
    have cX_x0_10 := X_x_10.out.cell (j := 0) rfl
    have cX_x1_10 := X_x_10.out.cell (j := 1) rfl
    have cX_x2_10 := X_x_10.out.cell (j := 2) rfl
    have cX_x3_10 := X_x_10.out.cell (j := 3) rfl
    have cX_y0_10 := X_y_10.out.cell (j := 0) rfl
    have cX_y1_10 := X_y_10.out.cell (j := 1) rfl
    have cX_y2_10 := X_y_10.out.cell (j := 2) rfl
    have cX_y3_10 := X_y_10.out.cell (j := 3) rfl
    have cX_v0_10 := X_v_10.out.cell (j := 0) rfl
    have cX_v1_10 := X_v_10.out.cell (j := 1) rfl
    have cX_v2_10 := X_v_10.out.cell (j := 2) rfl
    have cX_v3_10 := X_v_10.out.cell (j := 3) rfl
    go_wp2_with fail
    refine Calls.mono (bent_any T (by omega) p _ hp) ?_
    rintro e w11 ⟨T2, rfl, hT2, b11⟩
    have O11 := hid b11.size
    clear hp
    have B_11 := hid (below_via B_10.out b11)
    have X_c_11 := hid (X_c_10.out.on b11 X_c_10.out.lt)
    have X_x_11 := hid (X_x_10.out.on b11 X_x_10.out.lt)
    have X_y_11 := hid (X_y_10.out.on b11 X_y_10.out.lt)
    have X_v_11 := hid (X_v_10.out.on b11 X_v_10.out.lt)
    clear b11 B_10 X_c_10 X_x_10 X_y_10 X_v_10 cX_c0_10 cX_c1_10 cX_c2_10 cX_c3_10 cX_x0_10 cX_x1_10 cX_x2_10 cX_x3_10 cX_y0_10 cX_y1_10 cX_y2_10 cX_y3_10 cX_v0_10 cX_v1_10 cX_v2_10 cX_v3_10
    have cX_c0_11 := X_c_11.out.cell (j := 0) rfl
    have cX_c1_11 := X_c_11.out.cell (j := 1) rfl
    have cX_c2_11 := X_c_11.out.cell (j := 2) rfl
    have cX_c3_11 := X_c_11.out.cell (j := 3) rfl
    have cX_x0_11 := X_x_11.out.cell (j := 0) rfl
    have cX_x1_11 := X_x_11.out.cell (j := 1) rfl
    have cX_x2_11 := X_x_11.out.cell (j := 2) rfl
    have cX_x3_11 := X_x_11.out.cell (j := 3) rfl
    have cX_y0_11 := X_y_11.out.cell (j := 0) rfl
    have cX_y1_11 := X_y_11.out.cell (j := 1) rfl
    have cX_y2_11 := X_y_11.out.cell (j := 2) rfl
    have cX_y3_11 := X_y_11.out.cell (j := 3) rfl
    have cX_v0_11 := X_v_11.out.cell (j := 0) rfl
    have cX_v1_11 := X_v_11.out.cell (j := 1) rfl
    have cX_v2_11 := X_v_11.out.cell (j := 2) rfl
    have cX_v3_11 := X_v_11.out.cell (j := 3) rfl
    have hT3 := hT2.1
    have CQ := hid (fun W h => implReadCell_any T2 (by omega) W h)
    go_wp2_with fail
    refine Calls.mono (CQ.out _ (steps_on HT.out B_11.out)) ?_
    rintro e w12 ⟨hor, b12⟩
    obtain ⟨z, no, hr, hc⟩ := cell_told hor
    subst hr
    have HRZ := hid hc
    clear hor hc CQ
    have O12 := hid b12.size
    have B_12 := hid (below_via B_11.out b12)
    have X_c_12 := hid (X_c_11.out.on b12 X_c_11.out.lt)
    have X_x_12 := hid (X_x_11.out.on b12 X_x_11.out.lt)
    have X_y_12 := hid (X_y_11.out.on b12 X_y_11.out.lt)
    have X_v_12 := hid (X_v_11.out.on b12 X_v_11.out.lt)
    clear b12 B_11 X_c_11 X_x_11 X_y_11 X_v_11 cX_c0_11 cX_c1_11 cX_c2_11 cX_c3_11 cX_x0_11 cX_x1_11 cX_x2_11 cX_x3_11 cX_y0_11 cX_y1_11 cX_y2_11 cX_y3_11 cX_v0_11 cX_v1_11 cX_v2_11 cX_v3_11
    have cX_c0_12 := X_c_12.out.cell (j := 0) rfl
    have cX_c1_12 := X_c_12.out.cell (j := 1) rfl
    have cX_c2_12 := X_c_12.out.cell (j := 2) rfl
    have cX_c3_12 := X_c_12.out.cell (j := 3) rfl
    have cX_x0_12 := X_x_12.out.cell (j := 0) rfl
    have cX_x1_12 := X_x_12.out.cell (j := 1) rfl
    have cX_x2_12 := X_x_12.out.cell (j := 2) rfl
    have cX_x3_12 := X_x_12.out.cell (j := 3) rfl
    have cX_y0_12 := X_y_12.out.cell (j := 0) rfl
    have cX_y1_12 := X_y_12.out.cell (j := 1) rfl
    have cX_y2_12 := X_y_12.out.cell (j := 2) rfl
    have cX_y3_12 := X_y_12.out.cell (j := 3) rfl
    have cX_v0_12 := X_v_12.out.cell (j := 0) rfl
    have cX_v1_12 := X_v_12.out.cell (j := 1) rfl
    have cX_v2_12 := X_v_12.out.cell (j := 2) rfl
    have cX_v3_12 := X_v_12.out.cell (j := 3) rfl
    clear hT3
    have ba := below_more (Below.refl w12.heap.size w12) (.cells #[.int .i64 z.dst, .int .i64 z.src, .int .i64 z.kd, .string z.body] 25)
    have hx : BlockIs (w12.alloc (.cells #[.int .i64 z.dst, .int .i64 z.src, .int .i64 z.kd, .string z.body] 25)) w12.heap.size 25 [.int .i64 z.dst, .int .i64 z.src, .int .i64 z.kd, .string z.body] := heap_alloc_new w12 _
    have B_12a := hid (below_via B_12.out ba)
    have X_c_12a := hid (X_c_12.out.on ba X_c_12.out.lt)
    have X_x_12a := hid (X_x_12.out.on ba X_x_12.out.lt)
    have X_y_12a := hid (X_y_12.out.on ba X_y_12.out.lt)
    have X_v_12a := hid (X_v_12.out.on ba X_v_12.out.lt)
    have X_z_12a := hid hx
    have O12a := hid hx.lt
    clear ba hx B_12 X_c_12 X_x_12 X_y_12 X_v_12
    have cX_c0_12a := X_c_12a.out.cell (j := 0) rfl
    have cX_c1_12a := X_c_12a.out.cell (j := 1) rfl
    have cX_c2_12a := X_c_12a.out.cell (j := 2) rfl
    have cX_c3_12a := X_c_12a.out.cell (j := 3) rfl
    have cX_x0_12a := X_x_12a.out.cell (j := 0) rfl
    have cX_x1_12a := X_x_12a.out.cell (j := 1) rfl
    have cX_x2_12a := X_x_12a.out.cell (j := 2) rfl
    have cX_x3_12a := X_x_12a.out.cell (j := 3) rfl
    have cX_y0_12a := X_y_12a.out.cell (j := 0) rfl
    have cX_y1_12a := X_y_12a.out.cell (j := 1) rfl
    have cX_y2_12a := X_y_12a.out.cell (j := 2) rfl
    have cX_y3_12a := X_y_12a.out.cell (j := 3) rfl
    have cX_v0_12a := X_v_12a.out.cell (j := 0) rfl
    have cX_v1_12a := X_v_12a.out.cell (j := 1) rfl
    have cX_v2_12a := X_v_12a.out.cell (j := 2) rfl
    have cX_v3_12a := X_v_12a.out.cell (j := 3) rfl
    have cX_z0_12a := X_z_12a.out.cell (j := 0) rfl
    have cX_z1_12a := X_z_12a.out.cell (j := 1) rfl
    have cX_z2_12a := X_z_12a.out.cell (j := 2) rfl
    have cX_z3_12a := X_z_12a.out.cell (j := 3) rfl
    cases may with
    | false =>
      have hno : no = false := told_turned (hT2.2 (HTN.out (by simp)).1 (HTN.out (by simp)).2) HRZ.out
      subst hno
      go_wp2
      go_ret
      exact ⟨rfl, B_12a.out⟩
    | true =>
      have hag2 : again = t := hag rfl
      subst hag2
      have hss : (again.toList == again.toList) = true := by simp
      have hno : no = false := told_turned (hT2.2 (HTN.out (by simp)).1 (HTN.out (by simp)).2) HRZ.out
      subst hno
      go_wp2
      go_ret
      exact ⟨rfl, B_12a.out⟩

theorem own : ownKnob Tryd.prog.godebug = none := by kernel_rfl
theorem laidOut : laidOutB Tryd.prog = true := by kernel_rfl
theorem rowed : varsRowed Tryd.prog Rows.fnCellsSpec.vars = true := by kernel_rfl
/-- what the row's list gives: what loop.example/g00232/impl.fourSteps holds -/
theorem table0 {W : World} (h : laidMetH Tryd.prog Rows.fnCellsRow.laid W) : Lib.TabIs Tryd.prog W "loop.example/g00232/impl.fourSteps" .u32 stepsTab := by
  have h1 : laidMet Tryd.prog Rows.fnCellsRow.laid W := h
  unfold Rows.fnCellsRow at h1
  have h2 := h1
  rw [show (Rows.laid_loop_example_g00232_impl_fourSteps : DataW Unit) = Lib.tabData .u32 stepsTab by kernel_rfl] at h2
  exact Lib.tabIs_of_head (show Tryd.prog.globalNamed "loop.example/g00232/impl.fourSteps" = some 0 by kernel_rfl) (show (Tryd.prog.globals[0]?).map (·.type) = some 67 by kernel_rfl) Tryd.underlying67 Tryd.underlying58 (show Tryd.prog.cellsOf 58 = 1 by kernel_rfl) (show Tryd.prog.cellsOf 67 = 16 by kernel_rfl) h2
set_option maxRecDepth 1000000 in
theorem contract (H : Type) (enc : TypeId × Value → H) (W : World) (base : Nat) (args : Array Value) (ds gs : List (DataW H)) (before : List MemPlace)
    (hval : ∀ (j : Nat) t v, Tryd.f3.params[j]? = some t → args[j]? = some v → Value.okWide Tryd.prog W .any base t v)
    (hW : DataW.Whole enc Tryd.prog Tryd.f3.params.toList Rows.fnCellsSpec.vars false W args.toList ds gs before) (hL : laidMetH Tryd.prog Rows.fnCellsRow.laid W) :
    Calls Tryd.prog 3 args W fun e W' => ∃ v, e = .returned v ∧ Rows.fnCellsSpec.post enc Tryd.prog Tryd.f3 false true false false W args v W' := by
  have hW' := hW
  obtain ⟨p, q, hA0, hV0, rfl, hfz, hnd⟩ := hW
  have hV : DataW.TrodVars enc Tryd.prog W (fun _ => true) Rows.fnCellsSpec.vars gs q := hV0
  have hA : DataW.TrodAll enc Tryd.prog W 0 (fun _ => true) true Tryd.f3.params.toList args.toList ds p := hA0
  rw [Tryd.params3] at hA hval
  obtain ⟨v0, vs0, d0, ds0, p0, q0, hargs0, rfl, rfl, h0, r0⟩ := trodAll_cons hA
  obtain ⟨rfl, rfl, rfl⟩ := trodAll_nil r0
  obtain rfl : args = #[v0] := by cases args; simp_all
  obtain ⟨a0, len0, cap0, rfl⟩ := okWide_slice Tryd.underlying22 (hval 0 22 v0 rfl rfl)
  have k0 := h0
  have lt0 : ∀ x ∈ p0, x.block < W.heap.size := by obtain ⟨m, hm⟩ := k0; exact DataW.trod_lt m _ _ _ hm
  have hb0 : len0 ≤ cap0 ∧ Bytes W a0 len0 := by
    obtain ⟨fuel, hf⟩ := h0
    rcases open_ints Tryd.underlying22 Tryd.underlying5 (by kernel_rfl) hf with ⟨hcs, _⟩ | ⟨x, l, c, zs, hcs, _, hl, hm, hz, _, hcell, hwz⟩
    · simp [Value.cells] at hcs
      obtain ⟨rfl, rfl, rfl⟩ := hcs
      exact ⟨Nat.le_refl _, fun h => by omega⟩
    · simp [Value.cells] at hcs
      obtain ⟨rfl, rfl, rfl⟩ := hcs
      refine ⟨hl, fun hp => ?_⟩
      have hzl : zs.length = cap0 := by simpa using hz
      obtain ⟨b, off, rfl, hc⟩ := ints_at hcell (by omega)
      refine ⟨b, off, rfl, fun j hj => ?_⟩
      have hjz : j < zs.length := by omega
      have hb8 := bounds_u8 (hwz (zs.getD j 0) (by simp [List.getD, hjz]))
      exact ⟨zs.getD j 0, hb8.1, hb8.2, hc j hjz⟩
  clear hA0 hV0
  have hgs : gs.length = 1 := by
    have := hV
    clear hV hW' hL
    match gs, this with
    | [_], _ => rfl
  match gs, hgs, hV, hW' with
  | [g0], _, hV, hW' =>
    refine (walk a0 len0 cap0 hb0.1 W hb0.2 (table0 hL)).mono fun e W' ⟨he, bel⟩ => ?_
    subst he
    exact ⟨_, rfl, _, _, _, [], _, _, hW', trodAll_mk1 (shut_bool Tryd.underlying4 _), trodAll_cons_mk (Below.trod laidOut (by kernel_rfl) (of_decide_eq_true (by kernel_rfl)) k0 bel lt0) (trodAll_mk0), Below.trodVars laidOut bel rowed hV, bel.frame _, fun h => by cases h⟩

def put (cs : Array Value) : Obj → Obj
  | .cells _ t frozen => .cells cs t frozen
  | o => o

/-- a world for the witness: the tables hold what their initialisers lay -/
def laidWorld (w : World) : World := { w with heap := (w.heap.modify 0 (put (([0, 1166650509, 2333301018, 3466261911, 3189058079, 4221339282, 889615109, 1888477064, 3558460437, 2442158232, 1594529039, 444807554, 1779230218, 797264519, 3776954128, 2761298845] : List Int).map (Value.int .u32)).toArray)) }
theorem laid_met (os : Os) : laidMet Tryd.prog Rows.fnCellsRow.laid ((laidWorld (World.holding Tryd.prog os ⟨#[], #[], []⟩)).forCall (fun _ _ => 0) ⟨#[], #[.slice none 0 0], []⟩).memory :=
  laidMet_of_run' 8 (by kernel_rfl) (by kernel_rfl)
theorem reads (os : Os) {H : Type} (enc : TypeId × Value → H) : ∃ places, DataW.whole enc Tryd.prog ((laidWorld (World.holding Tryd.prog os ⟨#[], #[], []⟩)).forCall (fun _ _ => 0) ⟨#[], #[.slice none 0 0], []⟩).memory Tryd.f3.params.toList Rows.fnCellsSpec.vars false #[Value.slice none 0 0].toList 8 = some ([.nil], [Rows.laid_loop_example_g00232_impl_fourSteps], places) :=
  ⟨(List.range 16).map (MemPlace.cell 0), by kernel_rfl⟩

set_option maxRecDepth 1000000 in
theorem lifted (os : Os) (started : os.Started) (H : Type) (enc : TypeId × Value → H) (F : Stop.Interp) :
    ReturnsInHanded {} Tryd.checked os 3 .any ((OpenSpec.ofChange Rows.fnCellsSpec).preRow enc Tryd.prog Tryd.f3 Rows.fnCellsRow.domain false Rows.fnCellsRow.laid) (((OpenSpec.ofChange Rows.fnCellsSpec).at F).post enc Tryd.prog Tryd.f3 false true false false) := by
  obtain ⟨places, hx⟩ := reads os enc
  refine returnsInHanded_of_row (C := Tryd.checked) (s := OpenSpec.ofChange Rows.fnCellsSpec) own started (by kernel_rfl) Tryd.func3
    (witness_row_at (enc := enc) (C := Tryd.checked) false (laidWorld (World.holding Tryd.prog os ⟨#[], #[], []⟩)) #[.slice none 0 0] rfl (by kernel_rfl) (by kernel_rfl) (by kernel_rfl)
      (OpenSpec.preRow_of_cond 8 hx (by kernel_rfl) (fun k hk => by cases hk) (by kernel_rfl) (laid_met os))) ?_
  intro W base args ds gs before hval hW _ _ _ hL _ _
  exact contract H enc W base args ds gs before hval hW hL

theorem said : Rows.FnCellsSaid :=
  OpenClaim.holds_of_cond 3 Tryd.f3 rfl rfl rfl rfl rfl rfl rfl ⟨rfl, rfl, rfl, rfl, rfl⟩ rfl rfl rfl rfl rfl (by kernel_rfl) Tryd.func3 (by kernel_rfl)
    (of_decide_eq_true (by kernel_rfl)) (by unfold Func.isWrapper; first | (rw [if_pos (by decide +kernel)]; kernel_rfl) | (rw [if_neg (by decide +kernel)]; exact ⟨rfl, rfl⟩))
    (fun os started H enc _ F => by rw [OpenClaim.pre_eq_preRow]; exact lifted os started H enc F)

theorem plain (f : FuncId) (fn : Func) (hf : Tryd.pinned.checked.prog.funcNamed "loop.example/g00232/laws.FnCells" = some f) (hfn : Tryd.pinned.checked.prog.funcs[f]? = some fn) :
    false = Tryd.pinned.checked.prog.looks [] ∧ ∀ (j : Nat) t, fn.params[j]? = some t → Tryd.pinned.checked.prog.wantsStandIn t = false := by
  obtain rfl : f = 3 := Option.some.inj ((show Tryd.prog.funcNamed "loop.example/g00232/laws.FnCells" = some 3 by kernel_rfl).symm.trans hf) |>.symm
  obtain rfl : fn = Tryd.f3 := (Option.some.inj (Tryd.func3.symm.trans hfn)).symm
  refine ⟨by kernel_rfl, fun j t ht => ?_⟩
  rw [Tryd.params3] at ht
  obtain rfl : t = 22 := by simpa using Array.mem_of_getElem? ht
  exact (show Tryd.prog.wantsStandIn 22 = false by kernel_rfl)

theorem card : Rows.FnCellsCardSaid :=
  Claim7.holds_tied_plain_at .later [] _ _ _ _ said (fun _ h => by cases h) (by kernel_rfl) (fun _ h => by cases h) fnCells_row_tie rfl ⟨rfl, rfl⟩ (by kernel_rfl) rfl plain (by kernel_rfl)
end Go.Proofs.YtneociicjidcnaaDoor.fnCells
