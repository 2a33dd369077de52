/-
  For every slice of bytes, laws.FnDgrams returns true: a drawn right datagram comes back from its bytes, the sum of its head with the sum itself is nothing, drawn bytes that are one are the bytes of it; nothing that was in memory is written.
-/
import Derived.Test.YtpknpodmoeaggaaRows
import Derived.Test.YtpknpodmoeaggaaDrawDgramS
import Derived.Test.YtpknpodmoeaggaaBig
import Derived.Test.YtpknpodmoeaggaaDgramTextI
import Derived.Test.YtpknpodmoeaggaaReadDgramI
import Derived.Test.YtpknpodmoeaggaaReadDgramS
import Derived.Test.YtpknpodmoeaggaaDgramOkS
import Derived.Test.YtpknpodmoeaggaaDgramOkI
import Derived.Test.YtpknpodmoeaggaaSumOnesS
import Derived.Test.YtpknpodmoeaggaaSumOnesI
import Derived.Test.YtpknpodmoeaggaaPlainCrc
import Derived.WalkSmall
import Derived.WalkKit
import Derived.ProofKit
import Derived.OpenShut
import Derived.OpenVars
import Derived.Deep.DeepHandedRow
import Derived.Lib.LaidTab
import Derived.Stop.LaidErr
namespace Go.Proofs.Ytpknpodmoeaggaa.fnDgrams
open Go.ChangeShapes Go.WideShapes Go.ChangeAt Go.ChangeMaps Go.RowKit

def DTold (s : ByteArray) (r : DgramD) (ok : Bool) : Prop := (DgramIn s ∧ r = dgramOf s ∧ ok = true) ∨ (¬ DgramIn s ∧ r = dgramZero ∧ ok = false)
theorem dgram_told {s : ByteArray} {e : Ending} (h : (DgramIn s ∧ e = .returned (.tuple #[.agg #[.int .i64 (dgramOf s).src, .int .i64 (dgramOf s).dst, .int .i64 (dgramOf s).ident, .int .i64 (dgramOf s).place, .bool (dgramOf s).more, .string (dgramOf s).body], .bool true])) ∨ (¬ DgramIn s ∧ e = .returned (.tuple #[.agg #[.int .i64 0, .int .i64 0, .int .i64 0, .int .i64 0, .bool false, .string ⟨#[]⟩], .bool false]))) :
    ∃ (r : DgramD) (ok : Bool), e = .returned (.tuple #[.agg #[.int .i64 r.src, .int .i64 r.dst, .int .i64 r.ident, .int .i64 r.place, .bool r.more, .string r.body], .bool ok]) ∧ DTold s r ok := by
  rcases h with ⟨h, rfl⟩ | ⟨h, rfl⟩
  · exact ⟨_, true, rfl, Or.inl ⟨h, rfl, rfl⟩⟩
  · exact ⟨dgramZero, false, rfl, Or.inr ⟨h, rfl, rfl⟩⟩
theorem dgramText_flag {d : DgramD} {T : ByteArray} {ok : Bool} (h : dgramText d = (T, ok)) : dgramOk d = ok := by
  cases hE : dgramOk d with
  | true => rw [dgramText_yes hE] at h; exact congrArg Prod.snd h
  | false => rw [dgramText_no hE] at h; exact congrArg Prod.snd h
theorem dtold_back {d r : DgramD} {T : ByteArray} {right : Bool} (h : dgramText d = (T, true)) (ht : DTold T r right) : r = d ∧ right = true := by
  obtain ⟨hE, rfl⟩ := dtext_parts h
  rcases ht with ⟨_, h3, h4⟩ | ⟨h3, _⟩
  · exact ⟨h3.trans (dgramOf_text hE), h4⟩
  · exact absurd (dgramIn_text hE) h3
theorem dhead_zero {d : DgramD} {T : ByteArray} (h : dgramText d = (T, true)) : 8 ≤ T.size ∧ sumOnes (T.extract 0 8).data.toList = 0 := by
  obtain ⟨hE, rfl⟩ := dtext_parts h
  refine ⟨by rw [dText_size]; omega, ?_⟩
  have e : ((dText d).extract 0 8).data.toList = dHead d ++ twoB (sumOnes (dHead d)) := by
    rw [ByteArray.data_extract, Array.toList_extract, List.extract_eq_take_drop, dText_list, dBytes]
    rfl
  rw [e]
  exact head_sum d
theorem dtold_same {s : ByteArray} {r r2 : DgramD} {a b : Bool} (h : DTold s r a) (h2 : DTold s r2 b) : r = r2 ∧ a = b := by
  rcases h with ⟨x, h3, h4⟩ | ⟨x, h3, h4⟩ <;> rcases h2 with ⟨y, h5, h6⟩ | ⟨y, h5, h6⟩
  · exact ⟨h3.trans h5.symm, h4.trans h6.symm⟩
  · exact absurd x y
  · exact absurd y x
  · exact ⟨h3.trans h5.symm, h4.trans h6.symm⟩
theorem dtold_size {s : ByteArray} {r : DgramD} {a : Bool} (h : DTold s r a) : r.body.size ≤ s.size := by
  rcases h with ⟨_, rfl, _⟩ | ⟨_, rfl, _⟩
  · show (s.extract 8 s.size).size ≤ s.size
    rw [ByteArray.size_extract]
    omega
  · exact Nat.zero_le _
theorem dtold_again {s again : ByteArray} {r : DgramD} {may ok2 : Bool} (h : DTold s r may) (h2 : dgramText r = (again, ok2)) : may = true → again = s := by
  rintro rfl
  rcases h with ⟨x, h3, _⟩ | ⟨_, _, h4⟩
  · subst h3
    rw [dgramText_yes x.2.2.1] at h2
    exact (congrArg Prod.fst h2).symm.trans x.2.2.2
  · cases h4

set_option maxRecDepth 1000000 in
set_option maxHeartbeats 8000000 in
theorem walk (ao : Option Addr) (len cap : Nat) (hcap : len ≤ cap) (w : World) (hr : Bytes w ao len) :
    Calls Try.prog 3 #[.slice ao len cap] w fun e w' => e = .returned (.bool true) ∧ Below w.heap.size w w' := by
  have HR := hid hr
  clear hr
  by_cases hbig : 1048576 < len
  · go_enter Try.func3, Try.ntmps3
    go_wp2
    go_ret
    exact ⟨rfl, Below.refl _ _⟩
  have hlen : len ≤ 1048576 := by omega
  clear hbig
  have B := hid (Below.refl w.heap.size w)
  go_enter Try.func3, Try.ntmps3
  go_wp2_with fail
  refine (big_no ao len cap hlen _).mono ?_
  rintro e w0 ⟨rfl, hw0⟩
  rw [hw0]
  clear hw0 w0
  go_wp2_with fail
  refine Calls.mono (drawDgramText_any ao len cap hlen hcap _ (bytes_on HR.out B.out)) ?_
  rintro e w1 ⟨d, rfl, hd, b1⟩
  have O1 := hid b1.size
  have B_1 := hid (below_via B.out b1)
  clear b1 B
  have ba := below_more (Below.refl w1.heap.size w1) (.cells #[.int .i64 d.src, .int .i64 d.dst, .int .i64 d.ident, .int .i64 d.place, .bool d.more, .string d.body] 25)
  have hx : BlockIs (w1.alloc (.cells #[.int .i64 d.src, .int .i64 d.dst, .int .i64 d.ident, .int .i64 d.place, .bool d.more, .string d.body] 25)) w1.heap.size 25 [.int .i64 d.src, .int .i64 d.dst, .int .i64 d.ident, .int .i64 d.place, .bool d.more, .string d.body] := heap_alloc_new w1 _
  have B_1a := hid (below_via B_1.out ba)
  have X_c_1a := hid hx
  have O1a := hid hx.lt
  clear ba hx B_1
  have cX_c0_1a := X_c_1a.out.cell (j := 0) rfl
  have cX_c1_1a := X_c_1a.out.cell (j := 1) rfl
  have cX_c2_1a := X_c_1a.out.cell (j := 2) rfl
  have cX_c3_1a := X_c_1a.out.cell (j := 3) rfl
  have cX_c4_1a := X_c_1a.out.cell (j := 4) rfl
  have cX_c5_1a := X_c_1a.out.cell (j := 5) rfl
  have hsm := dgramText_small (d := d)
  obtain ⟨T, ok, hOK⟩ : ∃ T ok, dgramText d = (T, ok) := ⟨_, _, rfl⟩
  have CQ := hid (fun W => implDgramText_any d (by omega) W)
  rw [hOK] at CQ
  dsimp only at CQ
  have HOK := hid hOK
  rw [hOK] at hsm
  dsimp only at hsm
  clear hOK
  go_wp2_with fail
  refine Calls.mono (CQ.out _) ?_
  rintro e w2 ⟨rfl, b2⟩
  have O2 := hid b2.size
  clear CQ
  have B_2 := hid (below_via B_1a.out b2)
  have X_c_2 := hid (X_c_1a.out.on b2 X_c_1a.out.lt)
  clear b2 B_1a X_c_1a cX_c0_1a cX_c1_1a cX_c2_1a cX_c3_1a cX_c4_1a cX_c5_1a
  have cX_c0_2 := X_c_2.out.cell (j := 0) rfl
  have cX_c1_2 := X_c_2.out.cell (j := 1) rfl
  have cX_c2_2 := X_c_2.out.cell (j := 2) rfl
  have cX_c3_2 := X_c_2.out.cell (j := 3) rfl
  have cX_c4_2 := X_c_2.out.cell (j := 4) rfl
  have cX_c5_2 := X_c_2.out.cell (j := 5) rfl
  have CQ := hid (fun W => implReadDgram_any T (by omega) W)
  go_wp2_with fail
  refine Calls.mono (CQ.out _) ?_
  rintro e w3 ⟨hor, b3⟩
  obtain ⟨x, right, hr, hc⟩ := dgram_told hor
  subst hr
  have HRX := hid hc
  clear hc
  clear hor CQ
  have O3 := hid b3.size
  have B_3 := hid (below_via B_2.out b3)
  have X_c_3 := hid (X_c_2.out.on b3 X_c_2.out.lt)
  clear b3 B_2 X_c_2 cX_c0_2 cX_c1_2 cX_c2_2 cX_c3_2 cX_c4_2 cX_c5_2
  have cX_c0_3 := X_c_3.out.cell (j := 0) rfl
  have cX_c1_3 := X_c_3.out.cell (j := 1) rfl
  have cX_c2_3 := X_c_3.out.cell (j := 2) rfl
  have cX_c3_3 := X_c_3.out.cell (j := 3) rfl
  have cX_c4_3 := X_c_3.out.cell (j := 4) rfl
  have cX_c5_3 := X_c_3.out.cell (j := 5) rfl
  have ba := below_more (Below.refl w3.heap.size w3) (.cells #[.int .i64 x.src, .int .i64 x.dst, .int .i64 x.ident, .int .i64 x.place, .bool x.more, .string x.body] 25)
  have hx : BlockIs (w3.alloc (.cells #[.int .i64 x.src, .int .i64 x.dst, .int .i64 x.ident, .int .i64 x.place, .bool x.more, .string x.body] 25)) w3.heap.size 25 [.int .i64 x.src, .int .i64 x.dst, .int .i64 x.ident, .int .i64 x.place, .bool x.more, .string x.body] := heap_alloc_new w3 _
  have B_3a := hid (below_via B_3.out ba)
  have X_c_3a := hid (X_c_3.out.on ba X_c_3.out.lt)
  have X_x_3a := hid hx
  have O3a := hid hx.lt
  clear ba hx B_3 X_c_3
  have cX_c0_3a := X_c_3a.out.cell (j := 0) rfl
  have cX_c1_3a := X_c_3a.out.cell (j := 1) rfl
  have cX_c2_3a := X_c_3a.out.cell (j := 2) rfl
  have cX_c3_3a := X_c_3a.out.cell (j := 3) rfl
  have cX_c4_3a := X_c_3a.out.cell (j := 4) rfl
  have cX_c5_3a := X_c_3a.out.cell (j := 5) rfl
  have cX_x0_3a := X_x_3a.out.cell (j := 0) rfl
  have cX_x1_3a := X_x_3a.out.cell (j := 1) rfl
  have cX_x2_3a := X_x_3a.out.cell (j := 2) rfl
  have cX_x3_3a := X_x_3a.out.cell (j := 3) rfl
  have cX_x4_3a := X_x_3a.out.cell (j := 4) rfl
  have cX_x5_3a := X_x_3a.out.cell (j := 5) rfl
  have hco : dgramOk d = ok := dgramText_flag HOK.out
  have hxd : ok = true → x = d ∧ right = true := fun h => by subst h; exact dtold_back HOK.out HRX.out
  have hz8 : ok = true → 8 ≤ T.size ∧ sumOnes (T.extract 0 8).data.toList = 0 := fun h => by subst h; exact dhead_zero HOK.out
  have CS := hid (fun W => specDgramOk_any d (by omega) W)
  have CI := hid (fun W => implDgramOk_any d (by omega) W)
  rw [hco] at CS CI
  clear hco
  cases ok with
  | false =>
    clear hxd
    go_wp2_with fail
    refine Calls.mono (CS.out _) ?_
    rintro e w4 ⟨rfl, b4⟩
    have O4 := hid b4.size
    have B_4 := hid (below_via B_3a.out b4)
    have X_c_4 := hid (X_c_3a.out.on b4 X_c_3a.out.lt)
    have X_x_4 := hid (X_x_3a.out.on b4 X_x_3a.out.lt)
    clear b4 B_3a X_c_3a X_x_3a cX_c0_3a cX_c1_3a cX_c2_3a cX_c3_3a cX_c4_3a cX_c5_3a cX_x0_3a cX_x1_3a cX_x2_3a cX_x3_3a cX_x4_3a cX_x5_3a cX_c0_3 cX_c1_3 cX_c2_3 cX_c3_3 cX_c4_3 cX_c5_3
    have cX_c0_4 := X_c_4.out.cell (j := 0) rfl
    have cX_c1_4 := X_c_4.out.cell (j := 1) rfl
    have cX_c2_4 := X_c_4.out.cell (j := 2) rfl
    have cX_c3_4 := X_c_4.out.cell (j := 3) rfl
    have cX_c4_4 := X_c_4.out.cell (j := 4) rfl
    have cX_c5_4 := X_c_4.out.cell (j := 5) rfl
    have cX_x0_4 := X_x_4.out.cell (j := 0) rfl
    have cX_x1_4 := X_x_4.out.cell (j := 1) rfl
    have cX_x2_4 := X_x_4.out.cell (j := 2) rfl
    have cX_x3_4 := X_x_4.out.cell (j := 3) rfl
    have cX_x4_4 := X_x_4.out.cell (j := 4) rfl
    have cX_x5_4 := X_x_4.out.cell (j := 5) rfl
    go_wp2_with fail
    refine Calls.mono (CI.out _) ?_
    rintro e w5 ⟨rfl, b5⟩
    have O5 := hid b5.size
    have B_5 := hid (below_via B_4.out b5)
    have X_c_5 := hid (X_c_4.out.on b5 X_c_4.out.lt)
    have X_x_5 := hid (X_x_4.out.on b5 X_x_4.out.lt)
    clear b5 B_4 X_c_4 X_x_4 cX_c0_4 cX_c1_4 cX_c2_4 cX_c3_4 cX_c4_4 cX_c5_4 cX_x0_4 cX_x1_4 cX_x2_4 cX_x3_4 cX_x4_4 cX_x5_4
    have cX_c0_5 := X_c_5.out.cell (j := 0) rfl
    have cX_c1_5 := X_c_5.out.cell (j := 1) rfl
    have cX_c2_5 := X_c_5.out.cell (j := 2) rfl
    have cX_c3_5 := X_c_5.out.cell (j := 3) rfl
    have cX_c4_5 := X_c_5.out.cell (j := 4) rfl
    have cX_c5_5 := X_c_5.out.cell (j := 5) rfl
    have cX_x0_5 := X_x_5.out.cell (j := 0) rfl
    have cX_x1_5 := X_x_5.out.cell (j := 1) rfl
    have cX_x2_5 := X_x_5.out.cell (j := 2) rfl
    have cX_x3_5 := X_x_5.out.cell (j := 3) rfl
    have cX_x4_5 := X_x_5.out.cell (j := 4) rfl
    have cX_x5_5 := X_x_5.out.cell (j := 5) rfl
    clear CS CI
    clear hz8
    go_wp2_with fail
    refine Calls.mono (drawReadDgram_any ao len cap hlen hcap _ (bytes_on HR.out B_5.out)) ?_
    rintro e w6 ⟨t, rfl, ht, b6⟩
    have O6 := hid b6.size
    have B_6 := hid (below_via B_5.out b6)
    have X_c_6 := hid (X_c_5.out.on b6 X_c_5.out.lt)
    have X_x_6 := hid (X_x_5.out.on b6 X_x_5.out.lt)
    clear b6 B_5 X_c_5 X_x_5 cX_c0_5 cX_c1_5 cX_c2_5 cX_c3_5 cX_c4_5 cX_c5_5 cX_x0_5 cX_x1_5 cX_x2_5 cX_x3_5 cX_x4_5 cX_x5_5
    have cX_c0_6 := X_c_6.out.cell (j := 0) rfl
    have cX_c1_6 := X_c_6.out.cell (j := 1) rfl
    have cX_c2_6 := X_c_6.out.cell (j := 2) rfl
    have cX_c3_6 := X_c_6.out.cell (j := 3) rfl
    have cX_c4_6 := X_c_6.out.cell (j := 4) rfl
    have cX_c5_6 := X_c_6.out.cell (j := 5) rfl
    have cX_x0_6 := X_x_6.out.cell (j := 0) rfl
    have cX_x1_6 := X_x_6.out.cell (j := 1) rfl
    have cX_x2_6 := X_x_6.out.cell (j := 2) rfl
    have cX_x3_6 := X_x_6.out.cell (j := 3) rfl
    have cX_x4_6 := X_x_6.out.cell (j := 4) rfl
    have cX_x5_6 := X_x_6.out.cell (j := 5) rfl
    have CQ := hid (fun W => implReadDgram_any t (by omega) W)
    go_wp2_with fail
    refine Calls.mono (CQ.out _) ?_
    rintro e w7 ⟨hor, b7⟩
    obtain ⟨y, may, hr, hc⟩ := dgram_told hor
    subst hr
    have HRY := hid hc
    clear hc
    clear hor CQ
    have O7 := hid b7.size
    have B_7 := hid (below_via B_6.out b7)
    have X_c_7 := hid (X_c_6.out.on b7 X_c_6.out.lt)
    have X_x_7 := hid (X_x_6.out.on b7 X_x_6.out.lt)
    clear b7 B_6 X_c_6 X_x_6 cX_c0_6 cX_c1_6 cX_c2_6 cX_c3_6 cX_c4_6 cX_c5_6 cX_x0_6 cX_x1_6 cX_x2_6 cX_x3_6 cX_x4_6 cX_x5_6
    have cX_c0_7 := X_c_7.out.cell (j := 0) rfl
    have cX_c1_7 := X_c_7.out.cell (j := 1) rfl
    have cX_c2_7 := X_c_7.out.cell (j := 2) rfl
    have cX_c3_7 := X_c_7.out.cell (j := 3) rfl
    have cX_c4_7 := X_c_7.out.cell (j := 4) rfl
    have cX_c5_7 := X_c_7.out.cell (j := 5) rfl
    have cX_x0_7 := X_x_7.out.cell (j := 0) rfl
    have cX_x1_7 := X_x_7.out.cell (j := 1) rfl
    have cX_x2_7 := X_x_7.out.cell (j := 2) rfl
    have cX_x3_7 := X_x_7.out.cell (j := 3) rfl
    have cX_x4_7 := X_x_7.out.cell (j := 4) rfl
    have cX_x5_7 := X_x_7.out.cell (j := 5) rfl
    have ba := below_more (Below.refl w7.heap.size w7) (.cells #[.int .i64 y.src, .int .i64 y.dst, .int .i64 y.ident, .int .i64 y.place, .bool y.more, .string y.body] 25)
    have hx : BlockIs (w7.alloc (.cells #[.int .i64 y.src, .int .i64 y.dst, .int .i64 y.ident, .int .i64 y.place, .bool y.more, .string y.body] 25)) w7.heap.size 25 [.int .i64 y.src, .int .i64 y.dst, .int .i64 y.ident, .int .i64 y.place, .bool y.more, .string y.body] := heap_alloc_new w7 _
    have B_7a := hid (below_via B_7.out ba)
    have X_c_7a := hid (X_c_7.out.on ba X_c_7.out.lt)
    have X_x_7a := hid (X_x_7.out.on ba X_x_7.out.lt)
    have X_y_7a := hid hx
    have O7a := hid hx.lt
    clear ba hx B_7 X_c_7 X_x_7
    have cX_c0_7a := X_c_7a.out.cell (j := 0) rfl
    have cX_c1_7a := X_c_7a.out.cell (j := 1) rfl
    have cX_c2_7a := X_c_7a.out.cell (j := 2) rfl
    have cX_c3_7a := X_c_7a.out.cell (j := 3) rfl
    have cX_c4_7a := X_c_7a.out.cell (j := 4) rfl
    have cX_c5_7a := X_c_7a.out.cell (j := 5) rfl
    have cX_x0_7a := X_x_7a.out.cell (j := 0) rfl
    have cX_x1_7a := X_x_7a.out.cell (j := 1) rfl
    have cX_x2_7a := X_x_7a.out.cell (j := 2) rfl
    have cX_x3_7a := X_x_7a.out.cell (j := 3) rfl
    have cX_x4_7a := X_x_7a.out.cell (j := 4) rfl
    have cX_x5_7a := X_x_7a.out.cell (j := 5) rfl
    have cX_y0_7a := X_y_7a.out.cell (j := 0) rfl
    have cX_y1_7a := X_y_7a.out.cell (j := 1) rfl
    have cX_y2_7a := X_y_7a.out.cell (j := 2) rfl
    have cX_y3_7a := X_y_7a.out.cell (j := 3) rfl
    have cX_y4_7a := X_y_7a.out.cell (j := 4) rfl
    have cX_y5_7a := X_y_7a.out.cell (j := 5) rfl
    have CQ := hid (fun W => specReadDgram_any t (by omega) W)
    go_wp2_with fail
    refine Calls.mono (CQ.out _) ?_
    rintro e w8 ⟨hor, b8⟩
    obtain ⟨y2, want, hr, hc⟩ := dgram_told hor
    subst hr
    obtain ⟨rfl, rfl⟩ := dtold_same HRY.out hc
    clear hc
    clear hor CQ
    have O8 := hid b8.size
    have B_8 := hid (below_via B_7a.out b8)
    have X_c_8 := hid (X_c_7a.out.on b8 X_c_7a.out.lt)
    have X_x_8 := hid (X_x_7a.out.on b8 X_x_7a.out.lt)
    have X_y_8 := hid (X_y_7a.out.on b8 X_y_7a.out.lt)
    clear b8 B_7a X_c_7a X_x_7a X_y_7a cX_c0_7a cX_c1_7a cX_c2_7a cX_c3_7a cX_c4_7a cX_c5_7a cX_x0_7a cX_x1_7a cX_x2_7a cX_x3_7a cX_x4_7a cX_x5_7a cX_y0_7a cX_y1_7a cX_y2_7a cX_y3_7a cX_y4_7a cX_y5_7a cX_c0_7 cX_c1_7 cX_c2_7 cX_c3_7 cX_c4_7 cX_c5_7 cX_x0_7 cX_x1_7 cX_x2_7 cX_x3_7 cX_x4_7 cX_x5_7
    have cX_c0_8 := X_c_8.out.cell (j := 0) rfl
    have cX_c1_8 := X_c_8.out.cell (j := 1) rfl
    have cX_c2_8 := X_c_8.out.cell (j := 2) rfl
    have cX_c3_8 := X_c_8.out.cell (j := 3) rfl
    have cX_c4_8 := X_c_8.out.cell (j := 4) rfl
    have cX_c5_8 := X_c_8.out.cell (j := 5) rfl
    have cX_x0_8 := X_x_8.out.cell (j := 0) rfl
    have cX_x1_8 := X_x_8.out.cell (j := 1) rfl
    have cX_x2_8 := X_x_8.out.cell (j := 2) rfl
    have cX_x3_8 := X_x_8.out.cell (j := 3) rfl
    have cX_x4_8 := X_x_8.out.cell (j := 4) rfl
    have cX_x5_8 := X_x_8.out.cell (j := 5) rfl
    have cX_y0_8 := X_y_8.out.cell (j := 0) rfl
    have cX_y1_8 := X_y_8.out.cell (j := 1) rfl
    have cX_y2_8 := X_y_8.out.cell (j := 2) rfl
    have cX_y3_8 := X_y_8.out.cell (j := 3) rfl
    have cX_y4_8 := X_y_8.out.cell (j := 4) rfl
    have cX_y5_8 := X_y_8.out.cell (j := 5) rfl
    have ba := below_more (Below.refl w8.heap.size w8) (.cells #[.int .i64 y.src, .int .i64 y.dst, .int .i64 y.ident, .int .i64 y.place, .bool y.more, .string y.body] 25)
    have hx : BlockIs (w8.alloc (.cells #[.int .i64 y.src, .int .i64 y.dst, .int .i64 y.ident, .int .i64 y.place, .bool y.more, .string y.body] 25)) w8.heap.size 25 [.int .i64 y.src, .int .i64 y.dst, .int .i64 y.ident, .int .i64 y.place, .bool y.more, .string y.body] := heap_alloc_new w8 _
    have B_8a := hid (below_via B_8.out ba)
    have X_c_8a := hid (X_c_8.out.on ba X_c_8.out.lt)
    have X_x_8a := hid (X_x_8.out.on ba X_x_8.out.lt)
    have X_y_8a := hid (X_y_8.out.on ba X_y_8.out.lt)
    have X_v_8a := hid hx
    have O8a := hid hx.lt
    clear ba hx B_8 X_c_8 X_x_8 X_y_8
    have cX_c0_8a := X_c_8a.out.cell (j := 0) rfl
    have cX_c1_8a := X_c_8a.out.cell (j := 1) rfl
    have cX_c2_8a := X_c_8a.out.cell (j := 2) rfl
    have cX_c3_8a := X_c_8a.out.cell (j := 3) rfl
    have cX_c4_8a := X_c_8a.out.cell (j := 4) rfl
    have cX_c5_8a := X_c_8a.out.cell (j := 5) rfl
    have cX_x0_8a := X_x_8a.out.cell (j := 0) rfl
    have cX_x1_8a := X_x_8a.out.cell (j := 1) rfl
    have cX_x2_8a := X_x_8a.out.cell (j := 2) rfl
    have cX_x3_8a := X_x_8a.out.cell (j := 3) rfl
    have cX_x4_8a := X_x_8a.out.cell (j := 4) rfl
    have cX_x5_8a := X_x_8a.out.cell (j := 5) rfl
    have cX_y0_8a := X_y_8a.out.cell (j := 0) rfl
    have cX_y1_8a := X_y_8a.out.cell (j := 1) rfl
    have cX_y2_8a := X_y_8a.out.cell (j := 2) rfl
    have cX_y3_8a := X_y_8a.out.cell (j := 3) rfl
    have cX_y4_8a := X_y_8a.out.cell (j := 4) rfl
    have cX_y5_8a := X_y_8a.out.cell (j := 5) rfl
    have cX_v0_8a := X_v_8a.out.cell (j := 0) rfl
    have cX_v1_8a := X_v_8a.out.cell (j := 1) rfl
    have cX_v2_8a := X_v_8a.out.cell (j := 2) rfl
    have cX_v3_8a := X_v_8a.out.cell (j := 3) rfl
    have cX_v4_8a := X_v_8a.out.cell (j := 4) rfl
    have cX_v5_8a := X_v_8a.out.cell (j := 5) rfl
    have hyb : y.body.size ≤ 1000 := by have := dtold_size HRY.out; omega
    obtain ⟨again, ok2, hAG⟩ : ∃ T ok, dgramText y = (T, ok) := ⟨_, _, rfl⟩
    have CQ := hid (fun W => implDgramText_any y (by omega) W)
    rw [hAG] at CQ
    dsimp only at CQ
    have HAG := hid hAG
    clear hAG
    go_wp2_with fail
    refine Calls.mono (CQ.out _) ?_
    rintro e w9 ⟨rfl, b9⟩
    have O9 := hid b9.size
    clear CQ
    have B_9 := hid (below_via B_8a.out b9)
    have X_c_9 := hid (X_c_8a.out.on b9 X_c_8a.out.lt)
    have X_x_9 := hid (X_x_8a.out.on b9 X_x_8a.out.lt)
    have X_y_9 := hid (X_y_8a.out.on b9 X_y_8a.out.lt)
    have X_v_9 := hid (X_v_8a.out.on b9 X_v_8a.out.lt)
    clear b9 B_8a X_c_8a X_x_8a X_y_8a X_v_8a cX_c0_8a cX_c1_8a cX_c2_8a cX_c3_8a cX_c4_8a cX_c5_8a cX_x0_8a cX_x1_8a cX_x2_8a cX_x3_8a cX_x4_8a cX_x5_8a cX_y0_8a cX_y1_8a cX_y2_8a cX_y3_8a cX_y4_8a cX_y5_8a cX_v0_8a cX_v1_8a cX_v2_8a cX_v3_8a cX_v4_8a cX_v5_8a cX_c0_8 cX_c1_8 cX_c2_8 cX_c3_8 cX_c4_8 cX_c5_8 cX_x0_8 cX_x1_8 cX_x2_8 cX_x3_8 cX_x4_8 cX_x5_8 cX_y0_8 cX_y1_8 cX_y2_8 cX_y3_8 cX_y4_8 cX_y5_8
    have cX_c0_9 := X_c_9.out.cell (j := 0) rfl
    have cX_c1_9 := X_c_9.out.cell (j := 1) rfl
    have cX_c2_9 := X_c_9.out.cell (j := 2) rfl
    have cX_c3_9 := X_c_9.out.cell (j := 3) rfl
    have cX_c4_9 := X_c_9.out.cell (j := 4) rfl
    have cX_c5_9 := X_c_9.out.cell (j := 5) rfl
    have cX_x0_9 := X_x_9.out.cell (j := 0) rfl
    have cX_x1_9 := X_x_9.out.cell (j := 1) rfl
    have cX_x2_9 := X_x_9.out.cell (j := 2) rfl
    have cX_x3_9 := X_x_9.out.cell (j := 3) rfl
    have cX_x4_9 := X_x_9.out.cell (j := 4) rfl
    have cX_x5_9 := X_x_9.out.cell (j := 5) rfl
    have cX_y0_9 := X_y_9.out.cell (j := 0) rfl
    have cX_y1_9 := X_y_9.out.cell (j := 1) rfl
    have cX_y2_9 := X_y_9.out.cell (j := 2) rfl
    have cX_y3_9 := X_y_9.out.cell (j := 3) rfl
    have cX_y4_9 := X_y_9.out.cell (j := 4) rfl
    have cX_y5_9 := X_y_9.out.cell (j := 5) rfl
    have cX_v0_9 := X_v_9.out.cell (j := 0) rfl
    have cX_v1_9 := X_v_9.out.cell (j := 1) rfl
    have cX_v2_9 := X_v_9.out.cell (j := 2) rfl
    have cX_v3_9 := X_v_9.out.cell (j := 3) rfl
    have cX_v4_9 := X_v_9.out.cell (j := 4) rfl
    have cX_v5_9 := X_v_9.out.cell (j := 5) rfl
    have hag : may = true → again = t := dtold_again HRY.out HAG.out
    go_wp2_with fail
    refine Calls.mono (drawSumOnes_any ao len cap hlen hcap _ (bytes_on HR.out B_9.out)) ?_
    rintro e w10 ⟨u, rfl, hu, b10⟩
    have O10 := hid b10.size
    have B_10 := hid (below_via B_9.out b10)
    have X_c_10 := hid (X_c_9.out.on b10 X_c_9.out.lt)
    have X_x_10 := hid (X_x_9.out.on b10 X_x_9.out.lt)
    have X_y_10 := hid (X_y_9.out.on b10 X_y_9.out.lt)
    have X_v_10 := hid (X_v_9.out.on b10 X_v_9.out.lt)
    clear b10 B_9 X_c_9 X_x_9 X_y_9 X_v_9 cX_c0_9 cX_c1_9 cX_c2_9 cX_c3_9 cX_c4_9 cX_c5_9 cX_x0_9 cX_x1_9 cX_x2_9 cX_x3_9 cX_x4_9 cX_x5_9 cX_y0_9 cX_y1_9 cX_y2_9 cX_y3_9 cX_y4_9 cX_y5_9 cX_v0_9 cX_v1_9 cX_v2_9 cX_v3_9 cX_v4_9 cX_v5_9
    have cX_c0_10 := X_c_10.out.cell (j := 0) rfl
    have cX_c1_10 := X_c_10.out.cell (j := 1) rfl
    have cX_c2_10 := X_c_10.out.cell (j := 2) rfl
    have cX_c3_10 := X_c_10.out.cell (j := 3) rfl
    have cX_c4_10 := X_c_10.out.cell (j := 4) rfl
    have cX_c5_10 := X_c_10.out.cell (j := 5) rfl
    have cX_x0_10 := X_x_10.out.cell (j := 0) rfl
    have cX_x1_10 := X_x_10.out.cell (j := 1) rfl
    have cX_x2_10 := X_x_10.out.cell (j := 2) rfl
    have cX_x3_10 := X_x_10.out.cell (j := 3) rfl
    have cX_x4_10 := X_x_10.out.cell (j := 4) rfl
    have cX_x5_10 := X_x_10.out.cell (j := 5) rfl
    have cX_y0_10 := X_y_10.out.cell (j := 0) rfl
    have cX_y1_10 := X_y_10.out.cell (j := 1) rfl
    have cX_y2_10 := X_y_10.out.cell (j := 2) rfl
    have cX_y3_10 := X_y_10.out.cell (j := 3) rfl
    have cX_y4_10 := X_y_10.out.cell (j := 4) rfl
    have cX_y5_10 := X_y_10.out.cell (j := 5) rfl
    have cX_v0_10 := X_v_10.out.cell (j := 0) rfl
    have cX_v1_10 := X_v_10.out.cell (j := 1) rfl
    have cX_v2_10 := X_v_10.out.cell (j := 2) rfl
    have cX_v3_10 := X_v_10.out.cell (j := 3) rfl
    have cX_v4_10 := X_v_10.out.cell (j := 4) rfl
    have cX_v5_10 := X_v_10.out.cell (j := 5) rfl
    have C1 := hid (fun W => implSumOnes_any u (by omega) W)
    have C2 := hid (fun W => specSumOnes_any u (by omega) W)
    have C3 : Hid (∀ W, Calls Try.prog 15 #[.string ⟨#[]⟩] W fun e w' => e = .returned (.int .i64 65535) ∧ w' = W) := fun W => implSumOnes_any ⟨#[]⟩ (by decide) W
    generalize sumOnes u.data.toList = N at C1 C2
    cases may with
    | false =>
      go_wp2_with fail
      refine Calls.mono (C1.out _) ?_
      rintro e w9 ⟨rfl, hw9⟩
      rw [hw9]
      clear hw9 w9
      go_wp2_with fail
      refine Calls.mono (C2.out _) ?_
      rintro e w9 ⟨rfl, hw9⟩
      rw [hw9]
      clear hw9 w9
      go_wp2_with fail
      refine Calls.mono (C3.out _) ?_
      rintro e w9 ⟨rfl, hw9⟩
      rw [hw9]
      clear hw9 w9
      go_wp2
      go_ret
      exact ⟨rfl, B_10.out⟩
    | true =>
      have hag2 : again = t := hag (by simp)
      subst hag2
      have hss : (again.toList == again.toList) = true := by simp
      go_wp2_with fail
      refine Calls.mono (C1.out _) ?_
      rintro e w9 ⟨rfl, hw9⟩
      rw [hw9]
      clear hw9 w9
      go_wp2_with fail
      refine Calls.mono (C2.out _) ?_
      rintro e w9 ⟨rfl, hw9⟩
      rw [hw9]
      clear hw9 w9
      go_wp2_with fail
      refine Calls.mono (C3.out _) ?_
      rintro e w9 ⟨rfl, hw9⟩
      rw [hw9]
      clear hw9 w9
      go_wp2
      go_ret
      exact ⟨rfl, B_10.out⟩
  | true =>
    obtain ⟨hxd1, hxd2⟩ := hxd rfl
    subst hxd1 hxd2
    have hsd : (x.body.toList == x.body.toList) = true := by simp
    have hmd : (x.more == x.more) = true := by simp
    clear hxd
    go_wp2_with fail
    refine Calls.mono (CS.out _) ?_
    rintro e w4 ⟨rfl, b4⟩
    have O4 := hid b4.size
    have B_4 := hid (below_via B_3a.out b4)
    have X_c_4 := hid (X_c_3a.out.on b4 X_c_3a.out.lt)
    have X_x_4 := hid (X_x_3a.out.on b4 X_x_3a.out.lt)
    clear b4 B_3a X_c_3a X_x_3a cX_c0_3a cX_c1_3a cX_c2_3a cX_c3_3a cX_c4_3a cX_c5_3a cX_x0_3a cX_x1_3a cX_x2_3a cX_x3_3a cX_x4_3a cX_x5_3a cX_c0_3 cX_c1_3 cX_c2_3 cX_c3_3 cX_c4_3 cX_c5_3
    have cX_c0_4 := X_c_4.out.cell (j := 0) rfl
    have cX_c1_4 := X_c_4.out.cell (j := 1) rfl
    have cX_c2_4 := X_c_4.out.cell (j := 2) rfl
    have cX_c3_4 := X_c_4.out.cell (j := 3) rfl
    have cX_c4_4 := X_c_4.out.cell (j := 4) rfl
    have cX_c5_4 := X_c_4.out.cell (j := 5) rfl
    have cX_x0_4 := X_x_4.out.cell (j := 0) rfl
    have cX_x1_4 := X_x_4.out.cell (j := 1) rfl
    have cX_x2_4 := X_x_4.out.cell (j := 2) rfl
    have cX_x3_4 := X_x_4.out.cell (j := 3) rfl
    have cX_x4_4 := X_x_4.out.cell (j := 4) rfl
    have cX_x5_4 := X_x_4.out.cell (j := 5) rfl
    go_wp2_with fail
    refine Calls.mono (CI.out _) ?_
    rintro e w5 ⟨rfl, b5⟩
    have O5 := hid b5.size
    have B_5 := hid (below_via B_4.out b5)
    have X_c_5 := hid (X_c_4.out.on b5 X_c_4.out.lt)
    have X_x_5 := hid (X_x_4.out.on b5 X_x_4.out.lt)
    clear b5 B_4 X_c_4 X_x_4 cX_c0_4 cX_c1_4 cX_c2_4 cX_c3_4 cX_c4_4 cX_c5_4 cX_x0_4 cX_x1_4 cX_x2_4 cX_x3_4 cX_x4_4 cX_x5_4
    have cX_c0_5 := X_c_5.out.cell (j := 0) rfl
    have cX_c1_5 := X_c_5.out.cell (j := 1) rfl
    have cX_c2_5 := X_c_5.out.cell (j := 2) rfl
    have cX_c3_5 := X_c_5.out.cell (j := 3) rfl
    have cX_c4_5 := X_c_5.out.cell (j := 4) rfl
    have cX_c5_5 := X_c_5.out.cell (j := 5) rfl
    have cX_x0_5 := X_x_5.out.cell (j := 0) rfl
    have cX_x1_5 := X_x_5.out.cell (j := 1) rfl
    have cX_x2_5 := X_x_5.out.cell (j := 2) rfl
    have cX_x3_5 := X_x_5.out.cell (j := 3) rfl
    have cX_x4_5 := X_x_5.out.cell (j := 4) rfl
    have cX_x5_5 := X_x_5.out.cell (j := 5) rfl
    clear CS CI
    obtain ⟨hz9, hzs⟩ := hz8 (by simp)
    clear hz8
    have q8 := slice_upto (P := Try.prog) Try.underlying9 T 8 8 rfl hz9
    have hE8 : (T.extract 0 8).size ≤ 1000 := by rw [ByteArray.size_extract]; omega
    obtain ⟨E8, he8⟩ : ∃ E, T.extract 0 8 = E := ⟨_, rfl⟩
    rw [he8] at q8 hzs hE8
    clear he8
    have CZ := hid (fun W => implSumOnes_any E8 (by omega) W)
    rw [hzs] at CZ
    clear hzs
    go_wp2_with fail
    refine Calls.mono (CZ.out _) ?_
    rintro e w9 ⟨rfl, hw9⟩
    rw [hw9]
    clear hw9 w9 q8 CZ
    go_wp2_with fail
    refine Calls.mono (drawReadDgram_any ao len cap hlen hcap _ (bytes_on HR.out B_5.out)) ?_
    rintro e w6 ⟨t, rfl, ht, b6⟩
    have O6 := hid b6.size
    have B_6 := hid (below_via B_5.out b6)
    have X_c_6 := hid (X_c_5.out.on b6 X_c_5.out.lt)
    have X_x_6 := hid (X_x_5.out.on b6 X_x_5.out.lt)
    clear b6 B_5 X_c_5 X_x_5 cX_c0_5 cX_c1_5 cX_c2_5 cX_c3_5 cX_c4_5 cX_c5_5 cX_x0_5 cX_x1_5 cX_x2_5 cX_x3_5 cX_x4_5 cX_x5_5
    have cX_c0_6 := X_c_6.out.cell (j := 0) rfl
    have cX_c1_6 := X_c_6.out.cell (j := 1) rfl
    have cX_c2_6 := X_c_6.out.cell (j := 2) rfl
    have cX_c3_6 := X_c_6.out.cell (j := 3) rfl
    have cX_c4_6 := X_c_6.out.cell (j := 4) rfl
    have cX_c5_6 := X_c_6.out.cell (j := 5) rfl
    have cX_x0_6 := X_x_6.out.cell (j := 0) rfl
    have cX_x1_6 := X_x_6.out.cell (j := 1) rfl
    have cX_x2_6 := X_x_6.out.cell (j := 2) rfl
    have cX_x3_6 := X_x_6.out.cell (j := 3) rfl
    have cX_x4_6 := X_x_6.out.cell (j := 4) rfl
    have cX_x5_6 := X_x_6.out.cell (j := 5) rfl
    have CQ := hid (fun W => implReadDgram_any t (by omega) W)
    go_wp2_with fail
    refine Calls.mono (CQ.out _) ?_
    rintro e w7 ⟨hor, b7⟩
    obtain ⟨y, may, hr, hc⟩ := dgram_told hor
    subst hr
    have HRY := hid hc
    clear hc
    clear hor CQ
    have O7 := hid b7.size
    have B_7 := hid (below_via B_6.out b7)
    have X_c_7 := hid (X_c_6.out.on b7 X_c_6.out.lt)
    have X_x_7 := hid (X_x_6.out.on b7 X_x_6.out.lt)
    clear b7 B_6 X_c_6 X_x_6 cX_c0_6 cX_c1_6 cX_c2_6 cX_c3_6 cX_c4_6 cX_c5_6 cX_x0_6 cX_x1_6 cX_x2_6 cX_x3_6 cX_x4_6 cX_x5_6
    have cX_c0_7 := X_c_7.out.cell (j := 0) rfl
    have cX_c1_7 := X_c_7.out.cell (j := 1) rfl
    have cX_c2_7 := X_c_7.out.cell (j := 2) rfl
    have cX_c3_7 := X_c_7.out.cell (j := 3) rfl
    have cX_c4_7 := X_c_7.out.cell (j := 4) rfl
    have cX_c5_7 := X_c_7.out.cell (j := 5) rfl
    have cX_x0_7 := X_x_7.out.cell (j := 0) rfl
    have cX_x1_7 := X_x_7.out.cell (j := 1) rfl
    have cX_x2_7 := X_x_7.out.cell (j := 2) rfl
    have cX_x3_7 := X_x_7.out.cell (j := 3) rfl
    have cX_x4_7 := X_x_7.out.cell (j := 4) rfl
    have cX_x5_7 := X_x_7.out.cell (j := 5) rfl
    have ba := below_more (Below.refl w7.heap.size w7) (.cells #[.int .i64 y.src, .int .i64 y.dst, .int .i64 y.ident, .int .i64 y.place, .bool y.more, .string y.body] 25)
    have hx : BlockIs (w7.alloc (.cells #[.int .i64 y.src, .int .i64 y.dst, .int .i64 y.ident, .int .i64 y.place, .bool y.more, .string y.body] 25)) w7.heap.size 25 [.int .i64 y.src, .int .i64 y.dst, .int .i64 y.ident, .int .i64 y.place, .bool y.more, .string y.body] := heap_alloc_new w7 _
    have B_7a := hid (below_via B_7.out ba)
    have X_c_7a := hid (X_c_7.out.on ba X_c_7.out.lt)
    have X_x_7a := hid (X_x_7.out.on ba X_x_7.out.lt)
    have X_y_7a := hid hx
    have O7a := hid hx.lt
    clear ba hx B_7 X_c_7 X_x_7
    have cX_c0_7a := X_c_7a.out.cell (j := 0) rfl
    have cX_c1_7a := X_c_7a.out.cell (j := 1) rfl
    have cX_c2_7a := X_c_7a.out.cell (j := 2) rfl
    have cX_c3_7a := X_c_7a.out.cell (j := 3) rfl
    have cX_c4_7a := X_c_7a.out.cell (j := 4) rfl
    have cX_c5_7a := X_c_7a.out.cell (j := 5) rfl
    have cX_x0_7a := X_x_7a.out.cell (j := 0) rfl
    have cX_x1_7a := X_x_7a.out.cell (j := 1) rfl
    have cX_x2_7a := X_x_7a.out.cell (j := 2) rfl
    have cX_x3_7a := X_x_7a.out.cell (j := 3) rfl
    have cX_x4_7a := X_x_7a.out.cell (j := 4) rfl
    have cX_x5_7a := X_x_7a.out.cell (j := 5) rfl
    have cX_y0_7a := X_y_7a.out.cell (j := 0) rfl
    have cX_y1_7a := X_y_7a.out.cell (j := 1) rfl
    have cX_y2_7a := X_y_7a.out.cell (j := 2) rfl
    have cX_y3_7a := X_y_7a.out.cell (j := 3) rfl
    have cX_y4_7a := X_y_7a.out.cell (j := 4) rfl
    have cX_y5_7a := X_y_7a.out.cell (j := 5) rfl
    have CQ := hid (fun W => specReadDgram_any t (by omega) W)
    go_wp2_with fail
    refine Calls.mono (CQ.out _) ?_
    rintro e w8 ⟨hor, b8⟩
    obtain ⟨y2, want, hr, hc⟩ := dgram_told hor
    subst hr
    obtain ⟨rfl, rfl⟩ := dtold_same HRY.out hc
    clear hc
    clear hor CQ
    have O8 := hid b8.size
    have B_8 := hid (below_via B_7a.out b8)
    have X_c_8 := hid (X_c_7a.out.on b8 X_c_7a.out.lt)
    have X_x_8 := hid (X_x_7a.out.on b8 X_x_7a.out.lt)
    have X_y_8 := hid (X_y_7a.out.on b8 X_y_7a.out.lt)
    clear b8 B_7a X_c_7a X_x_7a X_y_7a cX_c0_7a cX_c1_7a cX_c2_7a cX_c3_7a cX_c4_7a cX_c5_7a cX_x0_7a cX_x1_7a cX_x2_7a cX_x3_7a cX_x4_7a cX_x5_7a cX_y0_7a cX_y1_7a cX_y2_7a cX_y3_7a cX_y4_7a cX_y5_7a cX_c0_7 cX_c1_7 cX_c2_7 cX_c3_7 cX_c4_7 cX_c5_7 cX_x0_7 cX_x1_7 cX_x2_7 cX_x3_7 cX_x4_7 cX_x5_7
    have cX_c0_8 := X_c_8.out.cell (j := 0) rfl
    have cX_c1_8 := X_c_8.out.cell (j := 1) rfl
    have cX_c2_8 := X_c_8.out.cell (j := 2) rfl
    have cX_c3_8 := X_c_8.out.cell (j := 3) rfl
    have cX_c4_8 := X_c_8.out.cell (j := 4) rfl
    have cX_c5_8 := X_c_8.out.cell (j := 5) rfl
    have cX_x0_8 := X_x_8.out.cell (j := 0) rfl
    have cX_x1_8 := X_x_8.out.cell (j := 1) rfl
    have cX_x2_8 := X_x_8.out.cell (j := 2) rfl
    have cX_x3_8 := X_x_8.out.cell (j := 3) rfl
    have cX_x4_8 := X_x_8.out.cell (j := 4) rfl
    have cX_x5_8 := X_x_8.out.cell (j := 5) rfl
    have cX_y0_8 := X_y_8.out.cell (j := 0) rfl
    have cX_y1_8 := X_y_8.out.cell (j := 1) rfl
    have cX_y2_8 := X_y_8.out.cell (j := 2) rfl
    have cX_y3_8 := X_y_8.out.cell (j := 3) rfl
    have cX_y4_8 := X_y_8.out.cell (j := 4) rfl
    have cX_y5_8 := X_y_8.out.cell (j := 5) rfl
    have ba := below_more (Below.refl w8.heap.size w8) (.cells #[.int .i64 y.src, .int .i64 y.dst, .int .i64 y.ident, .int .i64 y.place, .bool y.more, .string y.body] 25)
    have hx : BlockIs (w8.alloc (.cells #[.int .i64 y.src, .int .i64 y.dst, .int .i64 y.ident, .int .i64 y.place, .bool y.more, .string y.body] 25)) w8.heap.size 25 [.int .i64 y.src, .int .i64 y.dst, .int .i64 y.ident, .int .i64 y.place, .bool y.more, .string y.body] := heap_alloc_new w8 _
    have B_8a := hid (below_via B_8.out ba)
    have X_c_8a := hid (X_c_8.out.on ba X_c_8.out.lt)
    have X_x_8a := hid (X_x_8.out.on ba X_x_8.out.lt)
    have X_y_8a := hid (X_y_8.out.on ba X_y_8.out.lt)
    have X_v_8a := hid hx
    have O8a := hid hx.lt
    clear ba hx B_8 X_c_8 X_x_8 X_y_8
    have cX_c0_8a := X_c_8a.out.cell (j := 0) rfl
    have cX_c1_8a := X_c_8a.out.cell (j := 1) rfl
    have cX_c2_8a := X_c_8a.out.cell (j := 2) rfl
    have cX_c3_8a := X_c_8a.out.cell (j := 3) rfl
    have cX_c4_8a := X_c_8a.out.cell (j := 4) rfl
    have cX_c5_8a := X_c_8a.out.cell (j := 5) rfl
    have cX_x0_8a := X_x_8a.out.cell (j := 0) rfl
    have cX_x1_8a := X_x_8a.out.cell (j := 1) rfl
    have cX_x2_8a := X_x_8a.out.cell (j := 2) rfl
    have cX_x3_8a := X_x_8a.out.cell (j := 3) rfl
    have cX_x4_8a := X_x_8a.out.cell (j := 4) rfl
    have cX_x5_8a := X_x_8a.out.cell (j := 5) rfl
    have cX_y0_8a := X_y_8a.out.cell (j := 0) rfl
    have cX_y1_8a := X_y_8a.out.cell (j := 1) rfl
    have cX_y2_8a := X_y_8a.out.cell (j := 2) rfl
    have cX_y3_8a := X_y_8a.out.cell (j := 3) rfl
    have cX_y4_8a := X_y_8a.out.cell (j := 4) rfl
    have cX_y5_8a := X_y_8a.out.cell (j := 5) rfl
    have cX_v0_8a := X_v_8a.out.cell (j := 0) rfl
    have cX_v1_8a := X_v_8a.out.cell (j := 1) rfl
    have cX_v2_8a := X_v_8a.out.cell (j := 2) rfl
    have cX_v3_8a := X_v_8a.out.cell (j := 3) rfl
    have cX_v4_8a := X_v_8a.out.cell (j := 4) rfl
    have cX_v5_8a := X_v_8a.out.cell (j := 5) rfl
    have hyb : y.body.size ≤ 1000 := by have := dtold_size HRY.out; omega
    obtain ⟨again, ok2, hAG⟩ : ∃ T ok, dgramText y = (T, ok) := ⟨_, _, rfl⟩
    have CQ := hid (fun W => implDgramText_any y (by omega) W)
    rw [hAG] at CQ
    dsimp only at CQ
    have HAG := hid hAG
    clear hAG
    go_wp2_with fail
    refine Calls.mono (CQ.out _) ?_
    rintro e w9 ⟨rfl, b9⟩
    have O9 := hid b9.size
    clear CQ
    have B_9 := hid (below_via B_8a.out b9)
    have X_c_9 := hid (X_c_8a.out.on b9 X_c_8a.out.lt)
    have X_x_9 := hid (X_x_8a.out.on b9 X_x_8a.out.lt)
    have X_y_9 := hid (X_y_8a.out.on b9 X_y_8a.out.lt)
    have X_v_9 := hid (X_v_8a.out.on b9 X_v_8a.out.lt)
    clear b9 B_8a X_c_8a X_x_8a X_y_8a X_v_8a cX_c0_8a cX_c1_8a cX_c2_8a cX_c3_8a cX_c4_8a cX_c5_8a cX_x0_8a cX_x1_8a cX_x2_8a cX_x3_8a cX_x4_8a cX_x5_8a cX_y0_8a cX_y1_8a cX_y2_8a cX_y3_8a cX_y4_8a cX_y5_8a cX_v0_8a cX_v1_8a cX_v2_8a cX_v3_8a cX_v4_8a cX_v5_8a cX_c0_8 cX_c1_8 cX_c2_8 cX_c3_8 cX_c4_8 cX_c5_8 cX_x0_8 cX_x1_8 cX_x2_8 cX_x3_8 cX_x4_8 cX_x5_8 cX_y0_8 cX_y1_8 cX_y2_8 cX_y3_8 cX_y4_8 cX_y5_8
    have cX_c0_9 := X_c_9.out.cell (j := 0) rfl
    have cX_c1_9 := X_c_9.out.cell (j := 1) rfl
    have cX_c2_9 := X_c_9.out.cell (j := 2) rfl
    have cX_c3_9 := X_c_9.out.cell (j := 3) rfl
    have cX_c4_9 := X_c_9.out.cell (j := 4) rfl
    have cX_c5_9 := X_c_9.out.cell (j := 5) rfl
    have cX_x0_9 := X_x_9.out.cell (j := 0) rfl
    have cX_x1_9 := X_x_9.out.cell (j := 1) rfl
    have cX_x2_9 := X_x_9.out.cell (j := 2) rfl
    have cX_x3_9 := X_x_9.out.cell (j := 3) rfl
    have cX_x4_9 := X_x_9.out.cell (j := 4) rfl
    have cX_x5_9 := X_x_9.out.cell (j := 5) rfl
    have cX_y0_9 := X_y_9.out.cell (j := 0) rfl
    have cX_y1_9 := X_y_9.out.cell (j := 1) rfl
    have cX_y2_9 := X_y_9.out.cell (j := 2) rfl
    have cX_y3_9 := X_y_9.out.cell (j := 3) rfl
    have cX_y4_9 := X_y_9.out.cell (j := 4) rfl
    have cX_y5_9 := X_y_9.out.cell (j := 5) rfl
    have cX_v0_9 := X_v_9.out.cell (j := 0) rfl
    have cX_v1_9 := X_v_9.out.cell (j := 1) rfl
    have cX_v2_9 := X_v_9.out.cell (j := 2) rfl
    have cX_v3_9 := X_v_9.out.cell (j := 3) rfl
    have cX_v4_9 := X_v_9.out.cell (j := 4) rfl
    have cX_v5_9 := X_v_9.out.cell (j := 5) rfl
    have hag : may = true → again = t := dtold_again HRY.out HAG.out
    go_wp2_with fail
    refine Calls.mono (drawSumOnes_any ao len cap hlen hcap _ (bytes_on HR.out B_9.out)) ?_
    rintro e w10 ⟨u, rfl, hu, b10⟩
    have O10 := hid b10.size
    have B_10 := hid (below_via B_9.out b10)
    have X_c_10 := hid (X_c_9.out.on b10 X_c_9.out.lt)
    have X_x_10 := hid (X_x_9.out.on b10 X_x_9.out.lt)
    have X_y_10 := hid (X_y_9.out.on b10 X_y_9.out.lt)
    have X_v_10 := hid (X_v_9.out.on b10 X_v_9.out.lt)
    clear b10 B_9 X_c_9 X_x_9 X_y_9 X_v_9 cX_c0_9 cX_c1_9 cX_c2_9 cX_c3_9 cX_c4_9 cX_c5_9 cX_x0_9 cX_x1_9 cX_x2_9 cX_x3_9 cX_x4_9 cX_x5_9 cX_y0_9 cX_y1_9 cX_y2_9 cX_y3_9 cX_y4_9 cX_y5_9 cX_v0_9 cX_v1_9 cX_v2_9 cX_v3_9 cX_v4_9 cX_v5_9
    have cX_c0_10 := X_c_10.out.cell (j := 0) rfl
    have cX_c1_10 := X_c_10.out.cell (j := 1) rfl
    have cX_c2_10 := X_c_10.out.cell (j := 2) rfl
    have cX_c3_10 := X_c_10.out.cell (j := 3) rfl
    have cX_c4_10 := X_c_10.out.cell (j := 4) rfl
    have cX_c5_10 := X_c_10.out.cell (j := 5) rfl
    have cX_x0_10 := X_x_10.out.cell (j := 0) rfl
    have cX_x1_10 := X_x_10.out.cell (j := 1) rfl
    have cX_x2_10 := X_x_10.out.cell (j := 2) rfl
    have cX_x3_10 := X_x_10.out.cell (j := 3) rfl
    have cX_x4_10 := X_x_10.out.cell (j := 4) rfl
    have cX_x5_10 := X_x_10.out.cell (j := 5) rfl
    have cX_y0_10 := X_y_10.out.cell (j := 0) rfl
    have cX_y1_10 := X_y_10.out.cell (j := 1) rfl
    have cX_y2_10 := X_y_10.out.cell (j := 2) rfl
    have cX_y3_10 := X_y_10.out.cell (j := 3) rfl
    have cX_y4_10 := X_y_10.out.cell (j := 4) rfl
    have cX_y5_10 := X_y_10.out.cell (j := 5) rfl
    have cX_v0_10 := X_v_10.out.cell (j := 0) rfl
    have cX_v1_10 := X_v_10.out.cell (j := 1) rfl
    have cX_v2_10 := X_v_10.out.cell (j := 2) rfl
    have cX_v3_10 := X_v_10.out.cell (j := 3) rfl
    have cX_v4_10 := X_v_10.out.cell (j := 4) rfl
    have cX_v5_10 := X_v_10.out.cell (j := 5) rfl
    have C1 := hid (fun W => implSumOnes_any u (by omega) W)
    have C2 := hid (fun W => specSumOnes_any u (by omega) W)
    have C3 : Hid (∀ W, Calls Try.prog 15 #[.string ⟨#[]⟩] W fun e w' => e = .returned (.int .i64 65535) ∧ w' = W) := fun W => implSumOnes_any ⟨#[]⟩ (by decide) W
    generalize sumOnes u.data.toList = N at C1 C2
    cases may with
    | false =>
      go_wp2_with fail
      refine Calls.mono (C1.out _) ?_
      rintro e w9 ⟨rfl, hw9⟩
      rw [hw9]
      clear hw9 w9
      go_wp2_with fail
      refine Calls.mono (C2.out _) ?_
      rintro e w9 ⟨rfl, hw9⟩
      rw [hw9]
      clear hw9 w9
      go_wp2_with fail
      refine Calls.mono (C3.out _) ?_
      rintro e w9 ⟨rfl, hw9⟩
      rw [hw9]
      clear hw9 w9
      go_wp2
      go_ret
      exact ⟨rfl, B_10.out⟩
    | true =>
      have hag2 : again = t := hag (by simp)
      subst hag2
      have hss : (again.toList == again.toList) = true := by simp
      go_wp2_with fail
      refine Calls.mono (C1.out _) ?_
      rintro e w9 ⟨rfl, hw9⟩
      rw [hw9]
      clear hw9 w9
      go_wp2_with fail
      refine Calls.mono (C2.out _) ?_
      rintro e w9 ⟨rfl, hw9⟩
      rw [hw9]
      clear hw9 w9
      go_wp2_with fail
      refine Calls.mono (C3.out _) ?_
      rintro e w9 ⟨rfl, hw9⟩
      rw [hw9]
      clear hw9 w9
      go_wp2
      go_ret
      exact ⟨rfl, B_10.out⟩

theorem own : ownKnob Try.prog.godebug = none := by kernel_rfl
theorem laidOut : laidOutB Try.prog = true := by kernel_rfl
theorem rowed : varsRowed Try.prog Rows.fnDgramsSpec.vars = true := by kernel_rfl
set_option maxRecDepth 1000000 in
theorem contract (H : Type) (enc : TypeId × Value → H) (W : World) (base : Nat) (args : Array Value) (ds gs : List (DataW H)) (before : List MemPlace)
    (hval : ∀ (j : Nat) t v, Try.f3.params[j]? = some t → args[j]? = some v → Value.okWide Try.prog W .any base t v)
    (hW : DataW.Whole enc Try.prog Try.f3.params.toList Rows.fnDgramsSpec.vars false W args.toList ds gs before) (_hL : laidMetH Try.prog Rows.fnDgramsRow.laid W) :
    Calls Try.prog 3 args W fun e W' => ∃ v, e = .returned v ∧ Rows.fnDgramsSpec.post enc Try.prog Try.f3 false true false false W args v W' := by
  have hW' := hW
  obtain ⟨p, q, hA0, hV0, rfl, hfz, hnd⟩ := hW
  have hV : DataW.TrodVars enc Try.prog W (fun _ => true) Rows.fnDgramsSpec.vars gs q := hV0
  have hA : DataW.TrodAll enc Try.prog W 0 (fun _ => true) true Try.f3.params.toList args.toList ds p := hA0
  rw [Try.params3] at hA hval
  obtain ⟨v0, vs0, d0, ds0, p0, q0, hargs0, rfl, rfl, h0, r0⟩ := trodAll_cons hA
  obtain ⟨rfl, rfl, rfl⟩ := trodAll_nil r0
  obtain rfl : args = #[v0] := by cases args; simp_all
  obtain ⟨a0, len0, cap0, rfl⟩ := okWide_slice Try.underlying22 (hval 0 22 v0 rfl rfl)
  have k0 := h0
  have lt0 : ∀ x ∈ p0, x.block < W.heap.size := by obtain ⟨m, hm⟩ := k0; exact DataW.trod_lt m _ _ _ hm
  have hb0 : len0 ≤ cap0 ∧ Bytes W a0 len0 := by
    obtain ⟨fuel, hf⟩ := h0
    rcases open_ints Try.underlying22 Try.underlying5 (by kernel_rfl) hf with ⟨hcs, _⟩ | ⟨x, l, c, zs, hcs, _, hl, hm, hz, _, hcell, hwz⟩
    · simp [Value.cells] at hcs
      obtain ⟨rfl, rfl, rfl⟩ := hcs
      exact ⟨Nat.le_refl _, fun h => by omega⟩
    · simp [Value.cells] at hcs
      obtain ⟨rfl, rfl, rfl⟩ := hcs
      refine ⟨hl, fun hp => ?_⟩
      have hzl : zs.length = cap0 := by simpa using hz
      obtain ⟨b, off, rfl, hc⟩ := ints_at hcell (by omega)
      refine ⟨b, off, rfl, fun j hj => ?_⟩
      have hjz : j < zs.length := by omega
      have hb8 := bounds_u8 (hwz (zs.getD j 0) (by simp [List.getD, hjz]))
      exact ⟨zs.getD j 0, hb8.1, hb8.2, hc j hjz⟩
  clear hA0 hV0
  obtain ⟨rfl, rfl⟩ := trodVars_none hV
  refine (walk a0 len0 cap0 hb0.1 W hb0.2).mono fun e W' ⟨he, bel⟩ => ?_
  subst he
  exact ⟨_, rfl, _, _, _, [], _, [], hW', trodAll_mk1 (shut_bool Try.underlying4 _), trodAll_cons_mk (Below.trod laidOut (by kernel_rfl) (of_decide_eq_true (by kernel_rfl)) k0 bel lt0) (trodAll_mk0), rfl, bel.frame _, fun h => by cases h⟩

def put (cs : Array Value) : Obj → Obj
  | .cells _ t frozen => .cells cs t frozen
  | o => o

/-- a world for the witness: the tables hold what their initialisers lay -/
def laidWorld (w : World) : World := { w with heap := w.heap }
theorem laid_met (os : Os) : laidMet Try.prog Rows.fnDgramsRow.laid ((laidWorld (World.holding Try.prog os ⟨#[], #[], []⟩)).forCall (fun _ _ => 0) ⟨#[], #[.slice none 0 0], []⟩).memory :=
  laidMet_of_run' 8 (by kernel_rfl) (by kernel_rfl)
theorem reads (os : Os) {H : Type} (enc : TypeId × Value → H) : ∃ places, DataW.whole enc Try.prog ((laidWorld (World.holding Try.prog os ⟨#[], #[], []⟩)).forCall (fun _ _ => 0) ⟨#[], #[.slice none 0 0], []⟩).memory Try.f3.params.toList Rows.fnDgramsSpec.vars false #[Value.slice none 0 0].toList 8 = some ([.nil], [], places) :=
  ⟨[], by kernel_rfl⟩

set_option maxRecDepth 1000000 in
theorem lifted (os : Os) (started : os.Started) (H : Type) (enc : TypeId × Value → H) (F : Stop.Interp) :
    ReturnsInHanded {} Try.checked os 3 .any ((OpenSpec.ofChange Rows.fnDgramsSpec).preRow enc Try.prog Try.f3 Rows.fnDgramsRow.domain false Rows.fnDgramsRow.laid) (((OpenSpec.ofChange Rows.fnDgramsSpec).at F).post enc Try.prog Try.f3 false true false false) := by
  obtain ⟨places, hx⟩ := reads os enc
  refine returnsInHanded_of_row (C := Try.checked) (s := OpenSpec.ofChange Rows.fnDgramsSpec) own started (by kernel_rfl) Try.func3
    (witness_row_at (enc := enc) (C := Try.checked) false (laidWorld (World.holding Try.prog os ⟨#[], #[], []⟩)) #[.slice none 0 0] rfl (by kernel_rfl) (by kernel_rfl) (by kernel_rfl)
      (OpenSpec.preRow_of_cond 8 hx (by kernel_rfl) (fun k hk => by cases hk) (by kernel_rfl) (laid_met os))) ?_
  intro W base args ds gs before hval hW _ _ _ hL _ _
  exact contract H enc W base args ds gs before hval hW hL

theorem said : Rows.FnDgramsSaid :=
  OpenClaim.holds_of_cond 3 Try.f3 rfl rfl rfl rfl rfl rfl rfl ⟨rfl, rfl, rfl, rfl, rfl⟩ rfl rfl rfl rfl rfl (by kernel_rfl) Try.func3 (by kernel_rfl)
    (of_decide_eq_true (by kernel_rfl)) (by unfold Func.isWrapper; first | (rw [if_pos (by decide +kernel)]; kernel_rfl) | (rw [if_neg (by decide +kernel)]; exact ⟨rfl, rfl⟩))
    (fun os started H enc _ F => by rw [OpenClaim.pre_eq_preRow]; exact lifted os started H enc F)

end Go.Proofs.Ytpknpodmoeaggaa.fnDgrams
