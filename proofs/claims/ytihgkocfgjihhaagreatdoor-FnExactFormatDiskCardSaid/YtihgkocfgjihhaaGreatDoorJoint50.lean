/-
  The walk of spec.FormatDisk.
-/
import Derived.Test.YtihgkocfgjihhaaGreatDoorJoint1
import Derived.Test.YtihgkocfgjihhaaGreatDoorJoint32
import Derived.Test.YtihgkocfgjihhaaGreatDoorJoint36
import Derived.Test.YtihgkocfgjihhaaGreatDoorJoint41
import Derived.Test.YtihgkocfgjihhaaGreatDoorJoint47
import Derived.Test.YtihgkocfgjihhaaGreatDoorJoint49
import Derived.Test.YtihgkocfgjihhaaGreatDoorJoint7
import Derived.Deep.DeepCutAuto
import Derived.Deep.RegionWith
namespace Go.Proofs.YtihgkocfgjihhaaGreatDoor
open Go.RowKit

set_option maxRecDepth 1000000 in
set_option maxHeartbeats 1000000 in
theorem specEmpty_any (w : World) : Calls Tryz.prog 24 #[] w fun e w' => e = .returned (.string bodyD) ∧ Below w.heap.size w w' := by
  obtain ⟨bd, hbd⟩ : ∃ b, bodyD = b := ⟨_, rfl⟩
  rw [hbd]
  go_enter Tryz.func24, Tryz.ntmps24
  go_wp2_with fail
  refine (specKeepNew_any _).mono ?_
  rintro e w1 ⟨gk, rfl, _, hk, b1⟩
  have B1 := hid b1
  have CT := hid (specKeepText_any none (some ⟨gk, 0, none⟩) [] [rootI] 0 1 (by decide) (by decide) w1 (fun h => absurd rfl h) (itemsAt_of (l := [rootI]) (r := []) (t := 124) (g := gk) (show BlockIs w1 gk 124 (itemCells [rootI] ++ []) from hk)))
  rw [keepAns_root, hbd, show ([] : List SessionD).length = 0 from rfl, show [rootI].length = 1 from rfl] at CT
  clear hk b1
  go_wp2_with fail
  refine Calls.mono CT.out ?_
  rintro e w2 ⟨rfl, b2⟩
  have B2 := hid (below_via B1.out b2)
  clear b2 B1 CT
  go_wp2
  go_ret
  exact ⟨rfl, B2.out⟩

set_option maxRecDepth 1000000 in
set_option maxHeartbeats 1000000 in
theorem specFormatDisk_o (lo : Option Addr) (zs : List Int) (lcap : Nat) (hzl : zs.length ≤ 1048576) (w : World) (hz : IntsAt w lo zs) :
    Calls Tryz.prog 5 #[.slice lo zs.length lcap] w fun e w' => ∃ va vc, e = .returned (.tuple #[.agg #[.slice va (fmtAns zs).1.length vc], .bool (fmtAns zs).2]) ∧ OwnAt w' 82 (fileCells (fmtAns zs).1) (fmtAns zs).1.length va w.heap.size w'.heap.size ∧ Below w.heap.size w w' := by
  obtain ⟨bd, hbd⟩ : ∃ b, bodyD = b := ⟨_, rfl⟩
  obtain ⟨jt, hjt⟩ : ∃ b, jtext0 = b := ⟨_, rfl⟩
  obtain ⟨jn, hjn⟩ : ∃ b, jname 0 = b := ⟨_, rfl⟩
  obtain ⟨sn, hsn⟩ : ∃ b, sname 0 = b := ⟨_, rfl⟩
  have hbs := bodyD_size
  rw [hbd] at hbs
  have HZ := hid hz
  clear hz
  have B_0 : Hid (Below w.heap.size w w) := hid (Below.refl w.heap.size w)
  obtain ⟨g0, hg0⟩ : ∃ g, w.heap.size = g := ⟨_, rfl⟩
  obtain ⟨U0, hU0⟩ : ∃ V, (w.alloc (.cells #[.slice none 0 0] 25)) = V := ⟨_, rfl⟩
  have bz0 : Below g0 w U0 := by rw [← hg0, ← hU0]; exact below_more (Below.refl w.heap.size w) (.cells #[.slice none 0 0] 25)
  have N0_0_0 : BlockIs U0 (g0) 25 [.slice none 0 0] := by rw [← hg0, ← hU0]; exact heap_alloc_new _ _
  have hN0_0 := hid N0_0_0
  have bzz0 : Below w.heap.size w U0 := by have h := bz0; rw [← hg0] at h; exact h
  clear bz0 N0_0_0
  have lo0 : w.heap.size ≤ g0 := by rw [← hg0]; exact B_0.out.size
  go_enter Tryz.func5, Tryz.ntmps5
  go_wp2_with fail
  have B_1 : Hid (Below w.heap.size w U0) := hid (below_via B_0.out bzz0)
  clear B_0
  clear bzz0
  have Xr_1 := hN0_0
  have CJ' := specJText_any 0 0 0 0 0 none [] 0 (by decide) (by simp) U0 (fun h => absurd rfl h)
  rw [jourText_none, hjt, show ([] : List EntD).length = 0 from rfl] at CJ'
  dsimp only at CJ'
  refine Calls.mono CJ' ?_
  clear CJ'
  rintro e w1 ⟨rfl, b_s⟩
  have Xr_2 : Hid (BlockIs w1 (g0) 25 [.slice none 0 0]) := hid (Xr_1.out.on b_s Xr_1.out.lt)
  have B_2 : Hid (Below w.heap.size w w1) := hid (below_via B_1.out b_s)
  clear Xr_1 B_1
  clear b_s
  go_wp2_with fail
  have CE := specEmpty_any w1
  rw [hbd] at CE
  refine Calls.mono CE ?_
  clear CE
  rintro e w2 ⟨rfl, b_s⟩
  have Xr_3 : Hid (BlockIs w2 (g0) 25 [.slice none 0 0]) := hid (Xr_2.out.on b_s Xr_2.out.lt)
  have B_3 : Hid (Below w.heap.size w w2) := hid (below_via B_2.out b_s)
  clear Xr_2 B_2
  clear b_s
  obtain ⟨st, ok, hso⟩ : ∃ st ok, snapText 0 0 zs bd = (st, ok) := ⟨_, _, rfl⟩
  have CQ' := specSnapText_any 0 0 lo zs lcap bd hzl hbs w2 (HZ.out.on B_3.out)
  rw [hso] at CQ'
  dsimp only at CQ'
  have CQ := hid CQ'
  clear CQ'
  go_wp2_with fail
  refine Calls.mono CQ.out ?_
  rintro e w3 ⟨rfl, b_s⟩
  clear CQ
  have Xr_4 : Hid (BlockIs w3 (g0) 25 [.slice none 0 0]) := hid (Xr_3.out.on b_s Xr_3.out.lt)
  have B_4 : Hid (Below w.heap.size w w3) := hid (below_via B_3.out b_s)
  clear Xr_3 B_3
  clear b_s
  cases ok
  · have HF := hid (fmt_no (hbd.symm ▸ hso))
    clear hso
    have zr0 := Xr_4.out.cell (j := 0) rfl
    have fr0 := Xr_4.out.thaw 0
    have BL := hid (B_4.out.setCell (p := ⟨g0, 0, none⟩) (by omega) (.slice none 0 0))
    go_wp2
    refine bodyPost_ret (v := .tuple #[.agg #[.slice none 0 0], .bool false]) (by simp [results, Tryz.results5, go_sem, zr0]) rfl ?_
    rw [HF.out]
    exact ⟨none, 0, rfl, Or.inl rfl, BL.out⟩
  have HF := hid (fmt_yes (hbd.symm ▸ hso))
  rw [hjt, hjn, hsn] at HF
  clear hso
  go_wp2_with fail
  have CN1 := specJName_any 0 w3
  rw [hjn] at CN1
  refine Calls.mono CN1 ?_
  clear CN1
  rintro e w5 ⟨rfl, b_s⟩
  have Xr_5 : Hid (BlockIs w5 (g0) 25 [.slice none 0 0]) := hid (Xr_4.out.on b_s Xr_4.out.lt)
  have B_5 : Hid (Below w.heap.size w w5) := hid (below_via B_4.out b_s)
  clear Xr_4 B_4
  clear b_s
  go_wp2_with fail
  have CN2 := specSName_any 0 w5
  rw [hsn] at CN2
  refine Calls.mono CN2 ?_
  clear CN2
  rintro e w7 ⟨rfl, b_s⟩
  have Xr_6 : Hid (BlockIs w7 (g0) 25 [.slice none 0 0]) := hid (Xr_5.out.on b_s Xr_5.out.lt)
  have B_6 : Hid (Below w.heap.size w w7) := hid (below_via B_5.out b_s)
  clear Xr_5 B_5
  clear b_s
  obtain ⟨g1, hg1⟩ : ∃ g, w7.heap.size = g := ⟨_, rfl⟩
  obtain ⟨U1, hU1⟩ : ∃ V, (w7.alloc (.cells #[.string jn, .string jt, .int .i64 (jt.size : Int), .string sn, .string st, .int .i64 (st.size : Int)] 82)) = V := ⟨_, rfl⟩
  have bz1 : Below g1 w7 U1 := by rw [← hg1, ← hU1]; exact below_more (Below.refl w7.heap.size w7) (.cells #[.string jn, .string jt, .int .i64 (jt.size : Int), .string sn, .string st, .int .i64 (st.size : Int)] 82)
  have N1_0_0 : BlockIs U1 (g1) 82 [.string jn, .string jt, .int .i64 (jt.size : Int), .string sn, .string st, .int .i64 (st.size : Int)] := by rw [← hg1, ← hU1]; exact heap_alloc_new _ _
  have hN1_0 := hid N1_0_0
  have bzz1 : Below w7.heap.size w7 U1 := by have h := bz1; rw [← hg1] at h; exact h
  clear bz1 N1_0_0
  have ltr_1 : g0 < g1 := by rw [← hg1]; exact Xr_6.out.lt
  have lo1 : w.heap.size ≤ g1 := by rw [← hg1]; exact B_6.out.size
  have ZR := Xr_6.out.on bzz1 Xr_6.out.lt
  have zr0 := ZR.cell (j := 0) rfl
  have fr0 := ZR.thaw 0
  clear ZR
  go_wp2
  have Xr_7 : Hid (BlockIs U1 (g0) 25 [.slice none 0 0]) := hid (Xr_6.out.on bzz1 Xr_6.out.lt)
  have B_7 : Hid (Below w.heap.size w U1) := hid (below_via B_6.out bzz1)
  clear Xr_6 B_6
  clear bzz1
  have Xl_7 := hN1_0
  have BL := hid (B_7.out.setCell (p := ⟨g0, 0, none⟩) (by omega) (.slice (some ⟨g1, 0, none⟩) 2 2))
  have XL := hid (Xl_7.out.far (b := g0) (j := 0) (by omega) (.slice (some ⟨g1, 0, none⟩) 2 2))
  refine bodyPost_ret (v := .tuple #[.agg #[.slice (some ⟨g1, 0, none⟩) 2 2], .bool true]) (by simp [results, Tryz.results5, go_sem, zr0]) rfl ?_
  rw [HF.out]
  exact ⟨some ⟨g1, 0, none⟩, 2, rfl, own_of_block (by omega) XL.out, BL.out⟩
end Go.Proofs.YtihgkocfgjihhaaGreatDoor
