/-
  The walk of impl.FormatDisk.
-/
import Derived.Test.YtihgkocfgjihhaaGreatDoorJoint1
import Derived.Test.YtihgkocfgjihhaaGreatDoorJoint9
import Derived.Test.YtihgkocfgjihhaaGreatDoorJoint17
import Derived.Test.YtihgkocfgjihhaaGreatDoorJoint23
import Derived.Test.YtihgkocfgjihhaaGreatDoorJoint29
import Derived.Test.YtihgkocfgjihhaaGreatDoorJoint30
import Derived.Test.YtihgkocfgjihhaaGreatDoorJoint7
import Derived.Deep.DeepCutAuto
import Derived.Deep.RegionWith
namespace Go.Proofs.YtihgkocfgjihhaaGreatDoor
open Go.RowKit

set_option maxRecDepth 1000000 in
set_option maxHeartbeats 1000000 in
theorem implKeptFile_any (n t : ByteArray) (w : World) : Calls Tryz.prog 31 #[.string n, .string t] w fun e w' => e = .returned (.agg #[.string n, .string t, .int .i64 (t.size : Int)]) ∧ Below w.heap.size w w' := by
  have be := below_more (Below.refl w.heap.size w) (.cells #[.string ⟨#[]⟩, .string ⟨#[]⟩, .int .i64 0] 82)
  have x0 : BlockIs (w.alloc (.cells #[.string ⟨#[]⟩, .string ⟨#[]⟩, .int .i64 0] 82)) w.heap.size 82 [.string ⟨#[]⟩, .string ⟨#[]⟩, .int .i64 0] := heap_alloc_new w _
  obtain ⟨W0, hW0⟩ : ∃ W, w.alloc (.cells #[.string ⟨#[]⟩, .string ⟨#[]⟩, .int .i64 0] 82) = W := ⟨_, rfl⟩
  rw [hW0] at be x0
  have z0 := x0.cell (j := 0) rfl
  have z1 := x0.cell (j := 1) rfl
  have z2 := x0.cell (j := 2) rfl
  have f0 := x0.thaw 0
  have f1 := x0.thaw 1
  have f2 := x0.thaw 2
  have BL := hid (((be.setCell (p := ⟨w.heap.size, 0, none⟩) (Nat.le_refl _) (.string n)).setCell (p := ⟨w.heap.size, 1, none⟩) (Nat.le_refl _) (.string t)).setCell (p := ⟨w.heap.size, 2, none⟩) (Nat.le_refl _) (.int .i64 (t.size : Int)))
  clear be x0
  go_enter Tryz.func31, Tryz.ntmps31
  go_wp2
  refine bodyPost_ret (v := .agg #[.string n, .string t, .int .i64 (t.size : Int)]) (by simp [results, Tryz.results31, go_sem, z0, z1, z2]) rfl ?_
  exact ⟨rfl, BL.out⟩

set_option maxRecDepth 1000000 in
set_option maxHeartbeats 1000000 in
theorem implFormatDisk_o (lo : Option Addr) (zs : List Int) (lcap : Nat) (hzl : zs.length ≤ 1048576) (w : World) (hz : IntsAt w lo zs) (ht : Steps w) (htab : Lib.TabIs Tryz.prog w "internal/strconv.uint64pow10" .u64 Lib.pow10Tab) :
    Calls Tryz.prog 7 #[.slice lo zs.length lcap] w fun e w' => ∃ va vc, e = .returned (.tuple #[.agg #[.slice va (fmtAns zs).1.length vc], .bool (fmtAns zs).2]) ∧ OwnAt w' 82 (fileCells (fmtAns zs).1) (fmtAns zs).1.length va w.heap.size w'.heap.size ∧ Below w.heap.size w w' := by
  obtain ⟨bd, hbd⟩ : ∃ b, bodyD = b := ⟨_, rfl⟩
  obtain ⟨jt, hjt⟩ : ∃ b, jtext0 = b := ⟨_, rfl⟩
  obtain ⟨jn, hjn⟩ : ∃ b, jname 0 = b := ⟨_, rfl⟩
  obtain ⟨sn, hsn⟩ : ∃ b, sname 0 = b := ⟨_, rfl⟩
  have hbs := bodyD_size
  rw [hbd] at hbs
  have HZ := hid hz
  have HT := hid ht
  have HTB := hid htab
  clear hz ht htab
  have B_0 : Hid (Below w.heap.size w w) := hid (Below.refl w.heap.size w)
  obtain ⟨g0, hg0⟩ : ∃ g, w.heap.size = g := ⟨_, rfl⟩
  obtain ⟨U0, hU0⟩ : ∃ V, (w.alloc (.cells #[.slice none 0 0] 25)) = V := ⟨_, rfl⟩
  have bz0 : Below g0 w U0 := by rw [← hg0, ← hU0]; exact below_more (Below.refl w.heap.size w) (.cells #[.slice none 0 0] 25)
  have N0_0_0 : BlockIs U0 (g0) 25 [.slice none 0 0] := by rw [← hg0, ← hU0]; exact heap_alloc_new _ _
  have hN0_0 := hid N0_0_0
  have bzz0 : Below w.heap.size w U0 := by have h := bz0; rw [← hg0] at h; exact h
  clear bz0 N0_0_0
  have lo0 : w.heap.size ≤ g0 := by rw [← hg0]; exact B_0.out.size
  go_enter Tryz.func7, Tryz.ntmps7
  go_wp2_with fail
  have B_1 : Hid (Below w.heap.size w U0) := hid (below_via B_0.out bzz0)
  clear B_0
  clear bzz0
  have Xr_1 := hN0_0
  refine (implKeepNew_any _).mono ?_
  rintro e w1 ⟨gk, rfl, _, hk, b_s⟩
  have HK := hid hk
  clear hk
  have Xr_2 : Hid (BlockIs w1 (g0) 25 [.slice none 0 0]) := hid (Xr_1.out.on b_s Xr_1.out.lt)
  have B_2 : Hid (Below w.heap.size w w1) := hid (below_via B_1.out b_s)
  clear Xr_1 B_1
  clear b_s
  have CT := hid (implKeepText_any none (some ⟨gk, 0, none⟩) [] [rootI] 0 1 (by decide) (by decide) w1 (fun h => absurd rfl h) (itemsAt_of (l := [rootI]) (r := []) (t := 124) (g := gk) (show BlockIs w1 gk 124 (itemCells [rootI] ++ []) from HK.out)))
  rw [keepAns_root, hbd, show ([] : List SessionD).length = 0 from rfl, show [rootI].length = 1 from rfl] at CT
  go_wp2_with fail
  refine Calls.mono CT.out ?_
  rintro e w2 ⟨rfl, b_s⟩
  clear CT HK
  have Xr_3 : Hid (BlockIs w2 (g0) 25 [.slice none 0 0]) := hid (Xr_2.out.on b_s Xr_2.out.lt)
  have B_3 : Hid (Below w.heap.size w w2) := hid (below_via B_2.out b_s)
  clear Xr_2 B_2
  clear b_s
  obtain ⟨st, ok, hso⟩ : ∃ st ok, snapText 0 0 zs bd = (st, ok) := ⟨_, _, rfl⟩
  have CQ' := implSnapText_any 0 0 lo zs lcap bd hzl hbs w2 (HZ.out.on B_3.out) (steps_on HT.out B_3.out)
  rw [hso] at CQ'
  dsimp only at CQ'
  have CQ := hid CQ'
  clear CQ'
  go_wp2_with fail
  refine Calls.mono CQ.out ?_
  rintro e w3 ⟨rfl, b_s⟩
  clear CQ
  have Xr_4 : Hid (BlockIs w3 (g0) 25 [.slice none 0 0]) := hid (Xr_3.out.on b_s Xr_3.out.lt)
  have B_4 : Hid (Below w.heap.size w w3) := hid (below_via B_3.out b_s)
  clear Xr_3 B_3
  clear b_s
  cases ok
  · have HF := hid (fmt_no (hbd.symm ▸ hso))
    clear hso
    have zr0 := Xr_4.out.cell (j := 0) rfl
    have fr0 := Xr_4.out.thaw 0
    have BL := hid (B_4.out.setCell (p := ⟨g0, 0, none⟩) (by omega) (.slice none 0 0))
    go_wp2
    refine bodyPost_ret (v := .tuple #[.agg #[.slice none 0 0], .bool false]) (by simp [results, Tryz.results7, go_sem, zr0]) rfl ?_
    rw [HF.out]
    exact ⟨none, 0, rfl, Or.inl rfl, BL.out⟩
  have HF := hid (fmt_yes (hbd.symm ▸ hso))
  rw [hjt, hjn, hsn] at HF
  clear hso
  have CJ' := implJText_any 0 0 0 0 0 none [] 0 (by decide) (by decide) w3 (fun h => absurd rfl h) (steps_on HT.out B_4.out)
  rw [jourText_none, hjt, show ([] : List EntD).length = 0 from rfl] at CJ'
  dsimp only at CJ'
  have CJ := hid CJ'
  clear CJ'
  go_wp2_with fail
  refine Calls.mono CJ.out ?_
  rintro e w4 ⟨rfl, b_s⟩
  clear CJ
  have Xr_5 : Hid (BlockIs w4 (g0) 25 [.slice none 0 0]) := hid (Xr_4.out.on b_s Xr_4.out.lt)
  have B_5 : Hid (Below w.heap.size w w4) := hid (below_via B_4.out b_s)
  clear Xr_4 B_4
  clear b_s
  go_wp2_with fail
  have CN1 := implJName_any 0 w4 (table_on HTB.out B_5.out)
  rw [hjn] at CN1
  refine Calls.mono CN1 ?_
  clear CN1
  rintro e w5 ⟨rfl, b_s⟩
  have Xr_6 : Hid (BlockIs w5 (g0) 25 [.slice none 0 0]) := hid (Xr_5.out.on b_s Xr_5.out.lt)
  have B_6 : Hid (Below w.heap.size w w5) := hid (below_via B_5.out b_s)
  clear Xr_5 B_5
  clear b_s
  go_wp2_with fail
  refine Calls.mono (implKeptFile_any _ _ _) ?_
  rintro e w6 ⟨rfl, b_s⟩
  have Xr_7 : Hid (BlockIs w6 (g0) 25 [.slice none 0 0]) := hid (Xr_6.out.on b_s Xr_6.out.lt)
  have B_7 : Hid (Below w.heap.size w w6) := hid (below_via B_6.out b_s)
  clear Xr_6 B_6
  clear b_s
  obtain ⟨g1, hg1⟩ : ∃ g, w6.heap.size = g := ⟨_, rfl⟩
  obtain ⟨U1, hU1⟩ : ∃ V, (w6.alloc (.cells #[.string ⟨#[]⟩, .string ⟨#[]⟩, .int .i64 0] 82)) = V := ⟨_, rfl⟩
  have bz1 : Below g1 w6 U1 := by rw [← hg1, ← hU1]; exact below_more (Below.refl w6.heap.size w6) (.cells #[.string ⟨#[]⟩, .string ⟨#[]⟩, .int .i64 0] 82)
  have N1_0_0 : BlockIs U1 (g1) 82 [.string ⟨#[]⟩, .string ⟨#[]⟩, .int .i64 0] := by rw [← hg1, ← hU1]; exact heap_alloc_new _ _
  have o1_0 := N1_0_0.cell (j := 0) rfl
  have f1_0 := N1_0_0.thaw 0
  obtain ⟨V1_0, hV1_0⟩ : ∃ V, U1.setCell ⟨g1, 0, none⟩ (.string jn) = V := ⟨_, rfl⟩
  have N1_0_1 : BlockIs V1_0 (g1) 82 [.string jn, .string ⟨#[]⟩, .int .i64 0] := by rw [← hV1_0]; exact N1_0_0.set 0 _
  have bz1 : Below g1 w6 V1_0 := by rw [← hV1_0]; exact bz1.setCell (by show _ ≤ g1; omega) _
  have o1_1 := N1_0_1.cell (j := 1) rfl
  have f1_1 := N1_0_1.thaw 1
  obtain ⟨V1_1, hV1_1⟩ : ∃ V, V1_0.setCell ⟨g1, 1, none⟩ (.string jt) = V := ⟨_, rfl⟩
  have N1_0_2 : BlockIs V1_1 (g1) 82 [.string jn, .string jt, .int .i64 0] := by rw [← hV1_1]; exact N1_0_1.set 1 _
  have bz1 : Below g1 w6 V1_1 := by rw [← hV1_1]; exact bz1.setCell (by show _ ≤ g1; omega) _
  have o1_2 := N1_0_2.cell (j := 2) rfl
  have f1_2 := N1_0_2.thaw 2
  obtain ⟨V1_2, hV1_2⟩ : ∃ V, V1_1.setCell ⟨g1, 2, none⟩ (.int .i64 (jt.size : Int)) = V := ⟨_, rfl⟩
  have N1_0_3 : BlockIs V1_2 (g1) 82 [.string jn, .string jt, .int .i64 (jt.size : Int)] := by rw [← hV1_2]; exact N1_0_2.set 2 _
  have bz1 : Below g1 w6 V1_2 := by rw [← hV1_2]; exact bz1.setCell (by show _ ≤ g1; omega) _
  have hN1_0 := hid N1_0_3
  have p1_0_0 := hN1_0.out.cell (j := 0) rfl
  have p1_0_1 := hN1_0.out.cell (j := 1) rfl
  have p1_0_2 := hN1_0.out.cell (j := 2) rfl
  have bzz1 : Below w6.heap.size w6 V1_2 := by have h := bz1; rw [← hg1] at h; exact h
  clear bz1 N1_0_0 N1_0_1 N1_0_2 N1_0_3
  have ltr_1 : g0 < g1 := by rw [← hg1]; exact Xr_7.out.lt
  have lo1 : w.heap.size ≤ g1 := by rw [← hg1]; exact B_7.out.size
  go_wp2_with fail
  clear o1_0 f1_0 o1_1 f1_1 o1_2 f1_2 p1_0_0 p1_0_1 p1_0_2
  have Xr_8 : Hid (BlockIs V1_2 (g0) 25 [.slice none 0 0]) := hid (Xr_7.out.on bzz1 Xr_7.out.lt)
  have B_8 : Hid (Below w.heap.size w V1_2) := hid (below_via B_7.out bzz1)
  clear Xr_7 B_7
  clear bzz1
  have Xj_8 := hN1_0
  have CN2 := implSName_any 0 V1_2 (table_on HTB.out B_8.out)
  rw [hsn] at CN2
  refine Calls.mono CN2 ?_
  clear CN2
  rintro e w7 ⟨rfl, b_s⟩
  have Xr_9 : Hid (BlockIs w7 (g0) 25 [.slice none 0 0]) := hid (Xr_8.out.on b_s Xr_8.out.lt)
  have Xj_9 : Hid (BlockIs w7 (g1) 82 [.string jn, .string jt, .int .i64 (jt.size : Int)]) := hid (Xj_8.out.on b_s Xj_8.out.lt)
  have B_9 : Hid (Below w.heap.size w w7) := hid (below_via B_8.out b_s)
  clear Xr_8 Xj_8 B_8
  clear b_s
  go_wp2_with fail
  refine Calls.mono (implKeptFile_any _ _ _) ?_
  rintro e w8 ⟨rfl, b_s⟩
  have Xr_10 : Hid (BlockIs w8 (g0) 25 [.slice none 0 0]) := hid (Xr_9.out.on b_s Xr_9.out.lt)
  have Xj_10 : Hid (BlockIs w8 (g1) 82 [.string jn, .string jt, .int .i64 (jt.size : Int)]) := hid (Xj_9.out.on b_s Xj_9.out.lt)
  have B_10 : Hid (Below w.heap.size w w8) := hid (below_via B_9.out b_s)
  clear Xr_9 Xj_9 B_9
  clear b_s
  obtain ⟨g2, hg2⟩ : ∃ g, w8.heap.size = g := ⟨_, rfl⟩
  obtain ⟨U2, hU2⟩ : ∃ V, (w8.alloc (.cells #[.string ⟨#[]⟩, .string ⟨#[]⟩, .int .i64 0] 82)) = V := ⟨_, rfl⟩
  have bz2 : Below g2 w8 U2 := by rw [← hg2, ← hU2]; exact below_more (Below.refl w8.heap.size w8) (.cells #[.string ⟨#[]⟩, .string ⟨#[]⟩, .int .i64 0] 82)
  have N2_0_0 : BlockIs U2 (g2) 82 [.string ⟨#[]⟩, .string ⟨#[]⟩, .int .i64 0] := by rw [← hg2, ← hU2]; exact heap_alloc_new _ _
  have o2_0 := N2_0_0.cell (j := 0) rfl
  have f2_0 := N2_0_0.thaw 0
  obtain ⟨V2_0, hV2_0⟩ : ∃ V, U2.setCell ⟨g2, 0, none⟩ (.string sn) = V := ⟨_, rfl⟩
  have N2_0_1 : BlockIs V2_0 (g2) 82 [.string sn, .string ⟨#[]⟩, .int .i64 0] := by rw [← hV2_0]; exact N2_0_0.set 0 _
  have bz2 : Below g2 w8 V2_0 := by rw [← hV2_0]; exact bz2.setCell (by show _ ≤ g2; omega) _
  have o2_1 := N2_0_1.cell (j := 1) rfl
  have f2_1 := N2_0_1.thaw 1
  obtain ⟨V2_1, hV2_1⟩ : ∃ V, V2_0.setCell ⟨g2, 1, none⟩ (.string st) = V := ⟨_, rfl⟩
  have N2_0_2 : BlockIs V2_1 (g2) 82 [.string sn, .string st, .int .i64 0] := by rw [← hV2_1]; exact N2_0_1.set 1 _
  have bz2 : Below g2 w8 V2_1 := by rw [← hV2_1]; exact bz2.setCell (by show _ ≤ g2; omega) _
  have o2_2 := N2_0_2.cell (j := 2) rfl
  have f2_2 := N2_0_2.thaw 2
  obtain ⟨V2_2, hV2_2⟩ : ∃ V, V2_1.setCell ⟨g2, 2, none⟩ (.int .i64 (st.size : Int)) = V := ⟨_, rfl⟩
  have N2_0_3 : BlockIs V2_2 (g2) 82 [.string sn, .string st, .int .i64 (st.size : Int)] := by rw [← hV2_2]; exact N2_0_2.set 2 _
  have bz2 : Below g2 w8 V2_2 := by rw [← hV2_2]; exact bz2.setCell (by show _ ≤ g2; omega) _
  have hN2_0 := hid N2_0_3
  have p2_0_0 := hN2_0.out.cell (j := 0) rfl
  have p2_0_1 := hN2_0.out.cell (j := 1) rfl
  have p2_0_2 := hN2_0.out.cell (j := 2) rfl
  have bzz2 : Below w8.heap.size w8 V2_2 := by have h := bz2; rw [← hg2] at h; exact h
  clear bz2 N2_0_0 N2_0_1 N2_0_2 N2_0_3
  have ltr_2 : g0 < g2 := by rw [← hg2]; exact Xr_10.out.lt
  have ltj_2 : g1 < g2 := by rw [← hg2]; exact Xj_10.out.lt
  have lo2 : w.heap.size ≤ g2 := by rw [← hg2]; exact B_10.out.size
  have Zj := Xj_10.out.on bzz2 Xj_10.out.lt
  have zj0 := Zj.cell (j := 0) rfl
  have zj1 := Zj.cell (j := 1) rfl
  have zj2 := Zj.cell (j := 2) rfl
  clear Zj
  go_upto_region 8 with fail
  clear zj0 zj1 zj2
  clear o2_0 f2_0 o2_1 f2_1 o2_2 f2_2 p2_0_0 p2_0_1 p2_0_2
  have Xr_11 : Hid (BlockIs V2_2 (g0) 25 [.slice none 0 0]) := hid (Xr_10.out.on bzz2 Xr_10.out.lt)
  have Xj_11 : Hid (BlockIs V2_2 (g1) 82 [.string jn, .string jt, .int .i64 (jt.size : Int)]) := hid (Xj_10.out.on bzz2 Xj_10.out.lt)
  have B_11 : Hid (Below w.heap.size w V2_2) := hid (below_via B_10.out bzz2)
  clear Xr_10 Xj_10 B_10
  clear bzz2
  have Xs_11 := hN2_0
  obtain ⟨g3, hg3⟩ : ∃ g, V2_2.heap.size = g := ⟨_, rfl⟩
  obtain ⟨U3, hU3⟩ : ∃ V, (V2_2.alloc (.cells #[.string jn, .string jt, .int .i64 (jt.size : Int), .string sn, .string st, .int .i64 (st.size : Int)] 82)) = V := ⟨_, rfl⟩
  have bz3 : Below g3 V2_2 U3 := by rw [← hg3, ← hU3]; exact below_more (Below.refl V2_2.heap.size V2_2) (.cells #[.string jn, .string jt, .int .i64 (jt.size : Int), .string sn, .string st, .int .i64 (st.size : Int)] 82)
  have N3_0_0 : BlockIs U3 (g3) 82 [.string jn, .string jt, .int .i64 (jt.size : Int), .string sn, .string st, .int .i64 (st.size : Int)] := by rw [← hg3, ← hU3]; exact heap_alloc_new _ _
  have hN3_0 := hid N3_0_0
  have bzz3 : Below V2_2.heap.size V2_2 U3 := by have h := bz3; rw [← hg3] at h; exact h
  clear bz3 N3_0_0
  have ltr_3 : g0 < g3 := by rw [← hg3]; exact Xr_11.out.lt
  have ltj_3 : g1 < g3 := by rw [← hg3]; exact Xj_11.out.lt
  have lts_3 : g2 < g3 := by rw [← hg3]; exact Xs_11.out.lt
  have lo3 : w.heap.size ≤ g3 := by rw [← hg3]; exact B_11.out.size
  have ZR := Xr_11.out.on bzz3 Xr_11.out.lt
  have zr0 := ZR.cell (j := 0) rfl
  have fr0 := ZR.thaw 0
  clear ZR
  have cj0_1 := Xj_11.out.cell (j := 0) rfl
  have cj1_1 := Xj_11.out.cell (j := 1) rfl
  have cj2_1 := Xj_11.out.cell (j := 2) rfl
  have cs0_1 := Xs_11.out.cell (j := 0) rfl
  have cs1_1 := Xs_11.out.cell (j := 1) rfl
  have cs2_1 := Xs_11.out.cell (j := 2) rfl
  go_wp2
  clear cj0_1 cj1_1 cj2_1 cs0_1 cs1_1 cs2_1
  have Xr_12 : Hid (BlockIs U3 (g0) 25 [.slice none 0 0]) := hid (Xr_11.out.on bzz3 Xr_11.out.lt)
  have Xj_12 : Hid (BlockIs U3 (g1) 82 [.string jn, .string jt, .int .i64 (jt.size : Int)]) := hid (Xj_11.out.on bzz3 Xj_11.out.lt)
  have Xs_12 : Hid (BlockIs U3 (g2) 82 [.string sn, .string st, .int .i64 (st.size : Int)]) := hid (Xs_11.out.on bzz3 Xs_11.out.lt)
  have B_12 : Hid (Below w.heap.size w U3) := hid (below_via B_11.out bzz3)
  clear Xr_11 Xj_11 Xs_11 B_11
  clear bzz3
  have Xl_12 := hN3_0
  have BL := hid (B_12.out.setCell (p := ⟨g0, 0, none⟩) (by omega) (.slice (some ⟨g3, 0, none⟩) 2 2))
  have XL := hid (Xl_12.out.far (b := g0) (j := 0) (by omega) (.slice (some ⟨g3, 0, none⟩) 2 2))
  refine bodyPost_ret (v := .tuple #[.agg #[.slice (some ⟨g3, 0, none⟩) 2 2], .bool true]) (by simp [results, Tryz.results7, go_sem, zr0]) rfl ?_
  rw [HF.out]
  exact ⟨some ⟨g3, 0, none⟩, 2, rfl, own_of_block (by omega) XL.out, BL.out⟩
end Go.Proofs.YtihgkocfgjihhaaGreatDoor
