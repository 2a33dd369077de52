/-
  The walk of spec.l17Any: some message of few entries, its lists in memory of the call's own.
-/
import Derived.Test.YtohmfmajgehadaaGreatDoorJoint16
import Derived.Test.YtohmfmajgehadaaGreatDoorJoint17
import Derived.Test.YtohmfmajgehadaaGreatDoorJoint1
namespace Go.Proofs.YtohmfmajgehadaaGreatDoor
open Go.RowKit Go.Sort

theorem msg_few {d : MsgD} (h : messageOk d = true) : d.ents.length ≤ 4 ∧ (∀ f ∈ d.ents, f.data.size ≤ 120) ∧ d.conf.length ≤ 4 ∧ d.data.size ≤ 60 := by
  have r := messageOk_facts h
  exact ⟨r.ents, fun f hf => (entry_facts (r.each f hf)).2.2, r.confs.1, r.data⟩

def AnyMsgDrew (C : Nat) (w : World) (e : Ending) (w' : World) : Prop := ∃ (d : MsgD) (va vb : Option Addr) (vc vd : Nat), e = .returned (.agg #[.int .i64 d.kind, .int .i64 d.src, .int .i64 d.dst, .int .i64 d.term, .int .i64 d.index, .int .i64 d.logTerm, .int .i64 d.commit, .bool d.ok, .slice va d.ents.length vc, .slice vb d.conf.length vd, .string d.data, .bool d.last]) ∧ (d.ents.length ≤ 5 ∧ (∀ f ∈ d.ents, f.data.size ≤ 200) ∧ d.conf.length ≤ 6 ∧ d.data.size ≤ 100) ∧ w'.ownsRow w.heap.size 57 3 (.slice va d.ents.length vc) d.ents.length (entCells d.ents) ∧ w'.ownsRow w.heap.size 3 1 (.slice vb d.conf.length vd) d.conf.length (is d.conf) ∧ CurAt w' C ∧ w.grownBy w' (some C)
set_option maxRecDepth 1000000 in
set_option maxHeartbeats 8000000 in
theorem l17Any_any (C : Nat) (w : World) (hc : CurAt w C) :
    Calls Tryz.prog 34 #[.pointer (some ⟨C, 0, none⟩)] w fun e w' => AnyMsgDrew C w e w' := by
  have hCl := hc.lt
  have K0 := hid hc
  have G0 := hid (World.grownBy.refl w (some C))
  clear hc
  have be := below_more (Below.refl w.heap.size w) (.cells #[.int .i64 0, .int .i64 0, .int .i64 0, .int .i64 0, .int .i64 0, .int .i64 0, .int .i64 0, .bool false, .slice none 0 0, .slice none 0 0, .string ⟨#[]⟩, .bool false] 39)
  have hx1 : BlockIs (w.alloc (.cells #[.int .i64 0, .int .i64 0, .int .i64 0, .int .i64 0, .int .i64 0, .int .i64 0, .int .i64 0, .bool false, .slice none 0 0, .slice none 0 0, .string ⟨#[]⟩, .bool false] 39)) w.heap.size 39 [.int .i64 0, .int .i64 0, .int .i64 0, .int .i64 0, .int .i64 0, .int .i64 0, .int .i64 0, .bool false, .slice none 0 0, .slice none 0 0, .string ⟨#[]⟩, .bool false] := heap_alloc_new w _
  have K1 := hid (K0.out.below be)
  have G1 := hid (grown_below G0.out be)
  have Xr1 := hid hx1
  have Nr : Hid (C < w.heap.size) := (show _ < _ by omega)
  have Mr : Hid (w.heap.size ≤ w.heap.size) := (show _ ≤ _ by omega)
  clear be hx1  K0 G0
  obtain ⟨W0, hW0⟩ : ∃ W, w.alloc (.cells #[.int .i64 0, .int .i64 0, .int .i64 0, .int .i64 0, .int .i64 0, .int .i64 0, .int .i64 0, .bool false, .slice none 0 0, .slice none 0 0, .string ⟨#[]⟩, .bool false] 39) = W := ⟨_, rfl⟩
  rw [hW0] at K1 G1 Xr1
  have zr0_2 := Xr1.out.cell (j := 0) rfl
  have zr1_2 := Xr1.out.cell (j := 1) rfl
  have zr2_2 := Xr1.out.cell (j := 2) rfl
  have zr3_2 := Xr1.out.cell (j := 3) rfl
  have zr4_2 := Xr1.out.cell (j := 4) rfl
  have zr5_2 := Xr1.out.cell (j := 5) rfl
  have zr6_2 := Xr1.out.cell (j := 6) rfl
  have zr7_2 := Xr1.out.cell (j := 7) rfl
  have zr8_2 := Xr1.out.cell (j := 8) rfl
  have zr9_2 := Xr1.out.cell (j := 9) rfl
  have zr10_2 := Xr1.out.cell (j := 10) rfl
  have zr11_2 := Xr1.out.cell (j := 11) rfl
  have yr0_2 := Xr1.out.thaw 0
  have yr1_2 := Xr1.out.thaw 1
  have yr2_2 := Xr1.out.thaw 2
  have yr3_2 := Xr1.out.thaw 3
  have yr4_2 := Xr1.out.thaw 4
  have yr5_2 := Xr1.out.thaw 5
  have yr6_2 := Xr1.out.thaw 6
  have yr7_2 := Xr1.out.thaw 7
  have yr8_2 := Xr1.out.thaw 8
  have yr9_2 := Xr1.out.thaw 9
  have yr10_2 := Xr1.out.thaw 10
  have yr11_2 := Xr1.out.thaw 11
  go_enter Tryz.func34, Tryz.ntmps34
  obtain ⟨bF, hbF⟩ : ∃ b, W0.heap.size = b := ⟨_, rfl⟩
  have Fv : Hid (C < bF) := (show _ < _ by have := K1.out.lt; omega)
  have MF : Hid (w.heap.size ≤ bF) := (show _ ≤ _ by have := G1.out.size; omega)
  go_wp2_with fail
  refine Calls.mono (l17Right_any C _ K1.out) ?_
  rintro e w1 ⟨m, va, vb, vc, vd, rfl, hmo, hE, hF, k1, q1⟩
  have HBx : Hid (bF ≤ w1.heap.size) := (show _ ≤ _ by rw [← hbF]; exact q1.size)
  have K3 := hid (k1)
  have G3 := hid (G1.out.trans q1)
  have Xr3 := hid (Xr1.out.cur q1 Nr.out)
  clear k1 q1 K1 G1 zr0_2 zr1_2 zr2_2 zr3_2 zr4_2 zr5_2 zr6_2 zr7_2 zr8_2 zr9_2 zr10_2 zr11_2 yr0_2 yr1_2 yr2_2 yr3_2 yr4_2 yr5_2 yr6_2 yr7_2 yr8_2 yr9_2 yr10_2 yr11_2 Xr1
  rw [hbF] at hE hF
  have HO := hid hE
  have HF := hid hF
  obtain ⟨m1, m2, m3, m4⟩ := msg_few hmo
  obtain ⟨kd, sr, ds, tm, ix, lt, cm, ok, L, zs, T, la⟩ := m
  dsimp only at HO HF m1 m2 m3 m4 ⊢
  have HM2 := hid m2
  clear hE hF hmo hbF m2
  have ba := below_more (Below.refl w1.heap.size w1) (.cells #[.int .i64 kd, .int .i64 sr, .int .i64 ds, .int .i64 tm, .int .i64 ix, .int .i64 lt, .int .i64 cm, .bool ok, .slice va L.length vc, .slice vb zs.length vd, .string T, .bool la] 39)
  have Mx := hid G3.out.size
  have Nx := hid (Nat.lt_of_lt_of_le hCl G3.out.size)
  have hx : BlockIs (w1.alloc (.cells #[.int .i64 kd, .int .i64 sr, .int .i64 ds, .int .i64 tm, .int .i64 ix, .int .i64 lt, .int .i64 cm, .bool ok, .slice va L.length vc, .slice vb zs.length vd, .string T, .bool la] 39)) w1.heap.size 39 [.int .i64 kd, .int .i64 sr, .int .i64 ds, .int .i64 tm, .int .i64 ix, .int .i64 lt, .int .i64 cm, .bool ok, .slice va L.length vc, .slice vb zs.length vd, .string T, .bool la] := heap_alloc_new w1 _
  have Arx := hid Xr3.out.lt
  have K4 := hid (K3.out.below ba)
  have G4 := hid (grown_below G3.out ba)
  have Xr4 := hid (Xr3.out.on ba Xr3.out.lt)
  have OE4 := hid (row_belowM HO.out ba)
  have OF4 := hid (row_belowM HF.out ba)
  have Xx4 := hid hx
  clear hx
  clear ba K3 G3 Xr3 HO HF
  have zr0_5 := Xr4.out.cell (j := 0) rfl
  have zr1_5 := Xr4.out.cell (j := 1) rfl
  have zr2_5 := Xr4.out.cell (j := 2) rfl
  have zr3_5 := Xr4.out.cell (j := 3) rfl
  have zr4_5 := Xr4.out.cell (j := 4) rfl
  have zr5_5 := Xr4.out.cell (j := 5) rfl
  have zr6_5 := Xr4.out.cell (j := 6) rfl
  have zr7_5 := Xr4.out.cell (j := 7) rfl
  have zr8_5 := Xr4.out.cell (j := 8) rfl
  have zr9_5 := Xr4.out.cell (j := 9) rfl
  have zr10_5 := Xr4.out.cell (j := 10) rfl
  have zr11_5 := Xr4.out.cell (j := 11) rfl
  have yr0_5 := Xr4.out.thaw 0
  have yr1_5 := Xr4.out.thaw 1
  have yr2_5 := Xr4.out.thaw 2
  have yr3_5 := Xr4.out.thaw 3
  have yr4_5 := Xr4.out.thaw 4
  have yr5_5 := Xr4.out.thaw 5
  have yr6_5 := Xr4.out.thaw 6
  have yr7_5 := Xr4.out.thaw 7
  have yr8_5 := Xr4.out.thaw 8
  have yr9_5 := Xr4.out.thaw 9
  have yr10_5 := Xr4.out.thaw 10
  have yr11_5 := Xr4.out.thaw 11
  have zx0_5 := Xx4.out.cell (j := 0) rfl
  have zx1_5 := Xx4.out.cell (j := 1) rfl
  have zx2_5 := Xx4.out.cell (j := 2) rfl
  have zx3_5 := Xx4.out.cell (j := 3) rfl
  have zx4_5 := Xx4.out.cell (j := 4) rfl
  have zx5_5 := Xx4.out.cell (j := 5) rfl
  have zx6_5 := Xx4.out.cell (j := 6) rfl
  have zx7_5 := Xx4.out.cell (j := 7) rfl
  have zx8_5 := Xx4.out.cell (j := 8) rfl
  have zx9_5 := Xx4.out.cell (j := 9) rfl
  have zx10_5 := Xx4.out.cell (j := 10) rfl
  have zx11_5 := Xx4.out.cell (j := 11) rfl
  have yx0_5 := Xx4.out.thaw 0
  have yx1_5 := Xx4.out.thaw 1
  have yx2_5 := Xx4.out.thaw 2
  have yx3_5 := Xx4.out.thaw 3
  have yx4_5 := Xx4.out.thaw 4
  have yx5_5 := Xx4.out.thaw 5
  have yx6_5 := Xx4.out.thaw 6
  have yx7_5 := Xx4.out.thaw 7
  have yx8_5 := Xx4.out.thaw 8
  have yx9_5 := Xx4.out.thaw 9
  have yx10_5 := Xx4.out.thaw 10
  have yx11_5 := Xx4.out.thaw 11
  go_wp2_with fail
  refine Calls.mono (l01Below_any C 40 (by omega) (by omega) _ K4.out) ?_
  rintro e w2 ⟨y2, rfl, lo2, hi2, k2, q2⟩
  have K6 := hid (k2)
  have G6 := hid (G4.out.trans q2)
  have Xr6 := hid (Xr4.out.cur q2 Nr.out)
  have Xx6 := hid (Xx4.out.cur q2 Nx.out)
  have OE6 := hid (row_pastM OE4.out q2 Fv.out)
  have OF6 := hid (row_pastM OF4.out q2 Fv.out)
  clear k2 q2 K4 G4 zr0_5 zr1_5 zr2_5 zr3_5 zr4_5 zr5_5 zr6_5 zr7_5 zr8_5 zr9_5 zr10_5 zr11_5 yr0_5 yr1_5 yr2_5 yr3_5 yr4_5 yr5_5 yr6_5 yr7_5 yr8_5 yr9_5 yr10_5 yr11_5 zx0_5 zx1_5 zx2_5 zx3_5 zx4_5 zx5_5 zx6_5 zx7_5 zx8_5 zx9_5 zx10_5 zx11_5 yx0_5 yx1_5 yx2_5 yx3_5 yx4_5 yx5_5 yx6_5 yx7_5 yx8_5 yx9_5 yx10_5 yx11_5 Xr4 Xx4 OE4 OF4
  have zr0_7 := Xr6.out.cell (j := 0) rfl
  have zr1_7 := Xr6.out.cell (j := 1) rfl
  have zr2_7 := Xr6.out.cell (j := 2) rfl
  have zr3_7 := Xr6.out.cell (j := 3) rfl
  have zr4_7 := Xr6.out.cell (j := 4) rfl
  have zr5_7 := Xr6.out.cell (j := 5) rfl
  have zr6_7 := Xr6.out.cell (j := 6) rfl
  have zr7_7 := Xr6.out.cell (j := 7) rfl
  have zr8_7 := Xr6.out.cell (j := 8) rfl
  have zr9_7 := Xr6.out.cell (j := 9) rfl
  have zr10_7 := Xr6.out.cell (j := 10) rfl
  have zr11_7 := Xr6.out.cell (j := 11) rfl
  have yr0_7 := Xr6.out.thaw 0
  have yr1_7 := Xr6.out.thaw 1
  have yr2_7 := Xr6.out.thaw 2
  have yr3_7 := Xr6.out.thaw 3
  have yr4_7 := Xr6.out.thaw 4
  have yr5_7 := Xr6.out.thaw 5
  have yr6_7 := Xr6.out.thaw 6
  have yr7_7 := Xr6.out.thaw 7
  have yr8_7 := Xr6.out.thaw 8
  have yr9_7 := Xr6.out.thaw 9
  have yr10_7 := Xr6.out.thaw 10
  have yr11_7 := Xr6.out.thaw 11
  have zx0_7 := Xx6.out.cell (j := 0) rfl
  have zx1_7 := Xx6.out.cell (j := 1) rfl
  have zx2_7 := Xx6.out.cell (j := 2) rfl
  have zx3_7 := Xx6.out.cell (j := 3) rfl
  have zx4_7 := Xx6.out.cell (j := 4) rfl
  have zx5_7 := Xx6.out.cell (j := 5) rfl
  have zx6_7 := Xx6.out.cell (j := 6) rfl
  have zx7_7 := Xx6.out.cell (j := 7) rfl
  have zx8_7 := Xx6.out.cell (j := 8) rfl
  have zx9_7 := Xx6.out.cell (j := 9) rfl
  have zx10_7 := Xx6.out.cell (j := 10) rfl
  have zx11_7 := Xx6.out.cell (j := 11) rfl
  have yx0_7 := Xx6.out.thaw 0
  have yx1_7 := Xx6.out.thaw 1
  have yx2_7 := Xx6.out.thaw 2
  have yx3_7 := Xx6.out.thaw 3
  have yx4_7 := Xx6.out.thaw 4
  have yx5_7 := Xx6.out.thaw 5
  have yx6_7 := Xx6.out.thaw 6
  have yx7_7 := Xx6.out.thaw 7
  have yx8_7 := Xx6.out.thaw 8
  have yx9_7 := Xx6.out.thaw 9
  have yx10_7 := Xx6.out.thaw 10
  have yx11_7 := Xx6.out.thaw 11
  by_cases q0 : y2 = 0
  · subst q0
    go_wp2_with fail
    refine Calls.mono (pickI_any C [0, 7, 1, 5] (by decide) (by decide) 3 _ _ rfl K6.out) ?_
    rintro e w3 ⟨m3, rfl, hm3, k3, q3⟩
    have K8 := hid (k3)
    have G8 := hid (G6.out.trans q3)
    have Xr8 := hid (Xr6.out.cur q3 Nr.out)
    have Xx8 := hid (Xx6.out.cur q3 Nx.out)
    have OE8 := hid (row_pastM OE6.out q3 Fv.out)
    have OF8 := hid (row_pastM OF6.out q3 Fv.out)
    clear k3 q3 K6 G6 zr0_7 zr1_7 zr2_7 zr3_7 zr4_7 zr5_7 zr6_7 zr7_7 zr8_7 zr9_7 zr10_7 zr11_7 yr0_7 yr1_7 yr2_7 yr3_7 yr4_7 yr5_7 yr6_7 yr7_7 yr8_7 yr9_7 yr10_7 yr11_7 zx0_7 zx1_7 zx2_7 zx3_7 zx4_7 zx5_7 zx6_7 zx7_7 zx8_7 zx9_7 zx10_7 zx11_7 yx0_7 yx1_7 yx2_7 yx3_7 yx4_7 yx5_7 yx6_7 yx7_7 yx8_7 yx9_7 yx10_7 yx11_7 Xr6 Xx6 OE6 OF6
    have zr0_9 := Xr8.out.cell (j := 0) rfl
    have zr1_9 := Xr8.out.cell (j := 1) rfl
    have zr2_9 := Xr8.out.cell (j := 2) rfl
    have zr3_9 := Xr8.out.cell (j := 3) rfl
    have zr4_9 := Xr8.out.cell (j := 4) rfl
    have zr5_9 := Xr8.out.cell (j := 5) rfl
    have zr6_9 := Xr8.out.cell (j := 6) rfl
    have zr7_9 := Xr8.out.cell (j := 7) rfl
    have zr8_9 := Xr8.out.cell (j := 8) rfl
    have zr9_9 := Xr8.out.cell (j := 9) rfl
    have zr10_9 := Xr8.out.cell (j := 10) rfl
    have zr11_9 := Xr8.out.cell (j := 11) rfl
    have yr0_9 := Xr8.out.thaw 0
    have yr1_9 := Xr8.out.thaw 1
    have yr2_9 := Xr8.out.thaw 2
    have yr3_9 := Xr8.out.thaw 3
    have yr4_9 := Xr8.out.thaw 4
    have yr5_9 := Xr8.out.thaw 5
    have yr6_9 := Xr8.out.thaw 6
    have yr7_9 := Xr8.out.thaw 7
    have yr8_9 := Xr8.out.thaw 8
    have yr9_9 := Xr8.out.thaw 9
    have yr10_9 := Xr8.out.thaw 10
    have yr11_9 := Xr8.out.thaw 11
    have zx0_9 := Xx8.out.cell (j := 0) rfl
    have zx1_9 := Xx8.out.cell (j := 1) rfl
    have zx2_9 := Xx8.out.cell (j := 2) rfl
    have zx3_9 := Xx8.out.cell (j := 3) rfl
    have zx4_9 := Xx8.out.cell (j := 4) rfl
    have zx5_9 := Xx8.out.cell (j := 5) rfl
    have zx6_9 := Xx8.out.cell (j := 6) rfl
    have zx7_9 := Xx8.out.cell (j := 7) rfl
    have zx8_9 := Xx8.out.cell (j := 8) rfl
    have zx9_9 := Xx8.out.cell (j := 9) rfl
    have zx10_9 := Xx8.out.cell (j := 10) rfl
    have zx11_9 := Xx8.out.cell (j := 11) rfl
    have yx0_9 := Xx8.out.thaw 0
    have yx1_9 := Xx8.out.thaw 1
    have yx2_9 := Xx8.out.thaw 2
    have yx3_9 := Xx8.out.thaw 3
    have yx4_9 := Xx8.out.thaw 4
    have yx5_9 := Xx8.out.thaw 5
    have yx6_9 := Xx8.out.thaw 6
    have yx7_9 := Xx8.out.thaw 7
    have yx8_9 := Xx8.out.thaw 8
    have yx9_9 := Xx8.out.thaw 9
    have yx10_9 := Xx8.out.thaw 10
    have yx11_9 := Xx8.out.thaw 11
    clear hm3
    have OE10s := hid (row_kindM (j := 0) (v := (.int .i64 m3)) OE8.out Xx8.out (by decide))
    have OF10s := hid (row_kindM (j := 0) (v := (.int .i64 m3)) OF8.out Xx8.out (by decide))
    have K10 := hid (K8.out.set (b := w1.heap.size) (j := 0) (v := (.int .i64 m3)) Nx.out)
    have G10 := hid (grown_far (b := w1.heap.size) (j := 0) (v := (.int .i64 m3)) G8.out Mx.out)
    have Xr10 := hid (Xr8.out.far (b := w1.heap.size) (j := 0) (by have := Arx.out; omega) (.int .i64 m3))
    have Xx10 : Hid (BlockIs (w3.setCell ⟨w1.heap.size, 0, none⟩ (.int .i64 m3)) (w1.heap.size) 39 [.int .i64 m3, .int .i64 sr, .int .i64 ds, .int .i64 tm, .int .i64 ix, .int .i64 lt, .int .i64 cm, .bool ok, .slice va L.length vc, .slice vb zs.length vd, .string T, .bool la]) := Xx8.out.set 0 (.int .i64 m3)
    clear K8 G8 Xr8 Xx8
    have zr0_11 := Xr10.out.cell (j := 0) rfl
    have zr1_11 := Xr10.out.cell (j := 1) rfl
    have zr2_11 := Xr10.out.cell (j := 2) rfl
    have zr3_11 := Xr10.out.cell (j := 3) rfl
    have zr4_11 := Xr10.out.cell (j := 4) rfl
    have zr5_11 := Xr10.out.cell (j := 5) rfl
    have zr6_11 := Xr10.out.cell (j := 6) rfl
    have zr7_11 := Xr10.out.cell (j := 7) rfl
    have zr8_11 := Xr10.out.cell (j := 8) rfl
    have zr9_11 := Xr10.out.cell (j := 9) rfl
    have zr10_11 := Xr10.out.cell (j := 10) rfl
    have zr11_11 := Xr10.out.cell (j := 11) rfl
    have yr0_11 := Xr10.out.thaw 0
    have yr1_11 := Xr10.out.thaw 1
    have yr2_11 := Xr10.out.thaw 2
    have yr3_11 := Xr10.out.thaw 3
    have yr4_11 := Xr10.out.thaw 4
    have yr5_11 := Xr10.out.thaw 5
    have yr6_11 := Xr10.out.thaw 6
    have yr7_11 := Xr10.out.thaw 7
    have yr8_11 := Xr10.out.thaw 8
    have yr9_11 := Xr10.out.thaw 9
    have yr10_11 := Xr10.out.thaw 10
    have yr11_11 := Xr10.out.thaw 11
    have zx0_11 := Xx10.out.cell (j := 0) rfl
    have zx1_11 := Xx10.out.cell (j := 1) rfl
    have zx2_11 := Xx10.out.cell (j := 2) rfl
    have zx3_11 := Xx10.out.cell (j := 3) rfl
    have zx4_11 := Xx10.out.cell (j := 4) rfl
    have zx5_11 := Xx10.out.cell (j := 5) rfl
    have zx6_11 := Xx10.out.cell (j := 6) rfl
    have zx7_11 := Xx10.out.cell (j := 7) rfl
    have zx8_11 := Xx10.out.cell (j := 8) rfl
    have zx9_11 := Xx10.out.cell (j := 9) rfl
    have zx10_11 := Xx10.out.cell (j := 10) rfl
    have zx11_11 := Xx10.out.cell (j := 11) rfl
    have yx0_11 := Xx10.out.thaw 0
    have yx1_11 := Xx10.out.thaw 1
    have yx2_11 := Xx10.out.thaw 2
    have yx3_11 := Xx10.out.thaw 3
    have yx4_11 := Xx10.out.thaw 4
    have yx5_11 := Xx10.out.thaw 5
    have yx6_11 := Xx10.out.thaw 6
    have yx7_11 := Xx10.out.thaw 7
    have yx8_11 := Xx10.out.thaw 8
    have yx9_11 := Xx10.out.thaw 9
    have yx10_11 := Xx10.out.thaw 10
    have yx11_11 := Xx10.out.thaw 11
    clear OE8 OF8
    have LE := hid (row_kindM (j := 11) (v := .bool la) (row_kindM (j := 10) (v := .string T) (row_kindM (j := 9) (v := .slice vb zs.length vd) (row_kindM (j := 8) (v := .slice va L.length vc) (row_kindM (j := 7) (v := .bool ok) (row_kindM (j := 6) (v := .int .i64 cm) (row_kindM (j := 5) (v := .int .i64 lt) (row_kindM (j := 4) (v := .int .i64 ix) (row_kindM (j := 3) (v := .int .i64 tm) (row_kindM (j := 2) (v := .int .i64 ds) (row_kindM (j := 1) (v := .int .i64 sr) (row_kindM (j := 0) (v := .int .i64 m3) OE10s.out Xr10.out (by decide)) (Xr10.out.set 0 (.int .i64 m3)) (by decide)) ((Xr10.out.set 0 (.int .i64 m3)).set 1 (.int .i64 sr)) (by decide)) (((Xr10.out.set 0 (.int .i64 m3)).set 1 (.int .i64 sr)).set 2 (.int .i64 ds)) (by decide)) ((((Xr10.out.set 0 (.int .i64 m3)).set 1 (.int .i64 sr)).set 2 (.int .i64 ds)).set 3 (.int .i64 tm)) (by decide)) (((((Xr10.out.set 0 (.int .i64 m3)).set 1 (.int .i64 sr)).set 2 (.int .i64 ds)).set 3 (.int .i64 tm)).set 4 (.int .i64 ix)) (by decide)) ((((((Xr10.out.set 0 (.int .i64 m3)).set 1 (.int .i64 sr)).set 2 (.int .i64 ds)).set 3 (.int .i64 tm)).set 4 (.int .i64 ix)).set 5 (.int .i64 lt)) (by decide)) (((((((Xr10.out.set 0 (.int .i64 m3)).set 1 (.int .i64 sr)).set 2 (.int .i64 ds)).set 3 (.int .i64 tm)).set 4 (.int .i64 ix)).set 5 (.int .i64 lt)).set 6 (.int .i64 cm)) (by decide)) ((((((((Xr10.out.set 0 (.int .i64 m3)).set 1 (.int .i64 sr)).set 2 (.int .i64 ds)).set 3 (.int .i64 tm)).set 4 (.int .i64 ix)).set 5 (.int .i64 lt)).set 6 (.int .i64 cm)).set 7 (.bool ok)) (by decide)) (((((((((Xr10.out.set 0 (.int .i64 m3)).set 1 (.int .i64 sr)).set 2 (.int .i64 ds)).set 3 (.int .i64 tm)).set 4 (.int .i64 ix)).set 5 (.int .i64 lt)).set 6 (.int .i64 cm)).set 7 (.bool ok)).set 8 (.slice va L.length vc)) (by decide)) ((((((((((Xr10.out.set 0 (.int .i64 m3)).set 1 (.int .i64 sr)).set 2 (.int .i64 ds)).set 3 (.int .i64 tm)).set 4 (.int .i64 ix)).set 5 (.int .i64 lt)).set 6 (.int .i64 cm)).set 7 (.bool ok)).set 8 (.slice va L.length vc)).set 9 (.slice vb zs.length vd)) (by decide)) (((((((((((Xr10.out.set 0 (.int .i64 m3)).set 1 (.int .i64 sr)).set 2 (.int .i64 ds)).set 3 (.int .i64 tm)).set 4 (.int .i64 ix)).set 5 (.int .i64 lt)).set 6 (.int .i64 cm)).set 7 (.bool ok)).set 8 (.slice va L.length vc)).set 9 (.slice vb zs.length vd)).set 10 (.string T)) (by decide))
    have LF := hid (row_kindM (j := 11) (v := .bool la) (row_kindM (j := 10) (v := .string T) (row_kindM (j := 9) (v := .slice vb zs.length vd) (row_kindM (j := 8) (v := .slice va L.length vc) (row_kindM (j := 7) (v := .bool ok) (row_kindM (j := 6) (v := .int .i64 cm) (row_kindM (j := 5) (v := .int .i64 lt) (row_kindM (j := 4) (v := .int .i64 ix) (row_kindM (j := 3) (v := .int .i64 tm) (row_kindM (j := 2) (v := .int .i64 ds) (row_kindM (j := 1) (v := .int .i64 sr) (row_kindM (j := 0) (v := .int .i64 m3) OF10s.out Xr10.out (by decide)) (Xr10.out.set 0 (.int .i64 m3)) (by decide)) ((Xr10.out.set 0 (.int .i64 m3)).set 1 (.int .i64 sr)) (by decide)) (((Xr10.out.set 0 (.int .i64 m3)).set 1 (.int .i64 sr)).set 2 (.int .i64 ds)) (by decide)) ((((Xr10.out.set 0 (.int .i64 m3)).set 1 (.int .i64 sr)).set 2 (.int .i64 ds)).set 3 (.int .i64 tm)) (by decide)) (((((Xr10.out.set 0 (.int .i64 m3)).set 1 (.int .i64 sr)).set 2 (.int .i64 ds)).set 3 (.int .i64 tm)).set 4 (.int .i64 ix)) (by decide)) ((((((Xr10.out.set 0 (.int .i64 m3)).set 1 (.int .i64 sr)).set 2 (.int .i64 ds)).set 3 (.int .i64 tm)).set 4 (.int .i64 ix)).set 5 (.int .i64 lt)) (by decide)) (((((((Xr10.out.set 0 (.int .i64 m3)).set 1 (.int .i64 sr)).set 2 (.int .i64 ds)).set 3 (.int .i64 tm)).set 4 (.int .i64 ix)).set 5 (.int .i64 lt)).set 6 (.int .i64 cm)) (by decide)) ((((((((Xr10.out.set 0 (.int .i64 m3)).set 1 (.int .i64 sr)).set 2 (.int .i64 ds)).set 3 (.int .i64 tm)).set 4 (.int .i64 ix)).set 5 (.int .i64 lt)).set 6 (.int .i64 cm)).set 7 (.bool ok)) (by decide)) (((((((((Xr10.out.set 0 (.int .i64 m3)).set 1 (.int .i64 sr)).set 2 (.int .i64 ds)).set 3 (.int .i64 tm)).set 4 (.int .i64 ix)).set 5 (.int .i64 lt)).set 6 (.int .i64 cm)).set 7 (.bool ok)).set 8 (.slice va L.length vc)) (by decide)) ((((((((((Xr10.out.set 0 (.int .i64 m3)).set 1 (.int .i64 sr)).set 2 (.int .i64 ds)).set 3 (.int .i64 tm)).set 4 (.int .i64 ix)).set 5 (.int .i64 lt)).set 6 (.int .i64 cm)).set 7 (.bool ok)).set 8 (.slice va L.length vc)).set 9 (.slice vb zs.length vd)) (by decide)) (((((((((((Xr10.out.set 0 (.int .i64 m3)).set 1 (.int .i64 sr)).set 2 (.int .i64 ds)).set 3 (.int .i64 tm)).set 4 (.int .i64 ix)).set 5 (.int .i64 lt)).set 6 (.int .i64 cm)).set 7 (.bool ok)).set 8 (.slice va L.length vc)).set 9 (.slice vb zs.length vd)).set 10 (.string T)) (by decide))
    have KL := hid ((((((((((((K10.out.set (b := w.heap.size) (j := 0) (v := .int .i64 m3) Nr.out).set (b := w.heap.size) (j := 1) (v := .int .i64 sr) Nr.out).set (b := w.heap.size) (j := 2) (v := .int .i64 ds) Nr.out).set (b := w.heap.size) (j := 3) (v := .int .i64 tm) Nr.out).set (b := w.heap.size) (j := 4) (v := .int .i64 ix) Nr.out).set (b := w.heap.size) (j := 5) (v := .int .i64 lt) Nr.out).set (b := w.heap.size) (j := 6) (v := .int .i64 cm) Nr.out).set (b := w.heap.size) (j := 7) (v := .bool ok) Nr.out).set (b := w.heap.size) (j := 8) (v := .slice va L.length vc) Nr.out).set (b := w.heap.size) (j := 9) (v := .slice vb zs.length vd) Nr.out).set (b := w.heap.size) (j := 10) (v := .string T) Nr.out).set (b := w.heap.size) (j := 11) (v := .bool la) Nr.out)
    have GL := hid (grown_far (b := w.heap.size) (j := 11) (v := .bool la) (grown_far (b := w.heap.size) (j := 10) (v := .string T) (grown_far (b := w.heap.size) (j := 9) (v := .slice vb zs.length vd) (grown_far (b := w.heap.size) (j := 8) (v := .slice va L.length vc) (grown_far (b := w.heap.size) (j := 7) (v := .bool ok) (grown_far (b := w.heap.size) (j := 6) (v := .int .i64 cm) (grown_far (b := w.heap.size) (j := 5) (v := .int .i64 lt) (grown_far (b := w.heap.size) (j := 4) (v := .int .i64 ix) (grown_far (b := w.heap.size) (j := 3) (v := .int .i64 tm) (grown_far (b := w.heap.size) (j := 2) (v := .int .i64 ds) (grown_far (b := w.heap.size) (j := 1) (v := .int .i64 sr) (grown_far (b := w.heap.size) (j := 0) (v := .int .i64 m3) G10.out Mr.out) Mr.out) Mr.out) Mr.out) Mr.out) Mr.out) Mr.out) Mr.out) Mr.out) Mr.out) Mr.out) Mr.out)
    go_wp2
    refine bodyPost_ret (v := .agg #[.int .i64 m3, .int .i64 sr, .int .i64 ds, .int .i64 tm, .int .i64 ix, .int .i64 lt, .int .i64 cm, .bool ok, .slice va L.length vc, .slice vb zs.length vd, .string T, .bool la]) (by simp [results, Tryz.results34, go_sem, zr0_11, zr1_11, zr2_11, zr3_11, zr4_11, zr5_11, zr6_11, zr7_11, zr8_11, zr9_11, zr10_11, zr11_11]) rfl ?_
    exact ⟨⟨m3, sr, ds, tm, ix, lt, cm, ok, L, zs, T, la⟩, _, _, _, _, rfl, ⟨by show L.length ≤ 5; omega, fun f hf => by have := HM2.out f hf; omega, by show zs.length ≤ 6; omega, by show T.size ≤ 100; omega⟩, row_down LE.out MF.out, row_down LF.out MF.out, KL.out, GL.out⟩
  by_cases q1 : y2 = 1
  · subst q1
    clear q0
    go_wp2_with fail
    refine Calls.mono (pickI_any C [0, 5, ds] (by simp) (by simp) 3 _ _ rfl K6.out) ?_
    rintro e w3 ⟨m3, rfl, hm3, k3, q3⟩
    have K8 := hid (k3)
    have G8 := hid (G6.out.trans q3)
    have Xr8 := hid (Xr6.out.cur q3 Nr.out)
    have Xx8 := hid (Xx6.out.cur q3 Nx.out)
    have OE8 := hid (row_pastM OE6.out q3 Fv.out)
    have OF8 := hid (row_pastM OF6.out q3 Fv.out)
    clear k3 q3 K6 G6 zr0_7 zr1_7 zr2_7 zr3_7 zr4_7 zr5_7 zr6_7 zr7_7 zr8_7 zr9_7 zr10_7 zr11_7 yr0_7 yr1_7 yr2_7 yr3_7 yr4_7 yr5_7 yr6_7 yr7_7 yr8_7 yr9_7 yr10_7 yr11_7 zx0_7 zx1_7 zx2_7 zx3_7 zx4_7 zx5_7 zx6_7 zx7_7 zx8_7 zx9_7 zx10_7 zx11_7 yx0_7 yx1_7 yx2_7 yx3_7 yx4_7 yx5_7 yx6_7 yx7_7 yx8_7 yx9_7 yx10_7 yx11_7 Xr6 Xx6 OE6 OF6
    have zr0_9 := Xr8.out.cell (j := 0) rfl
    have zr1_9 := Xr8.out.cell (j := 1) rfl
    have zr2_9 := Xr8.out.cell (j := 2) rfl
    have zr3_9 := Xr8.out.cell (j := 3) rfl
    have zr4_9 := Xr8.out.cell (j := 4) rfl
    have zr5_9 := Xr8.out.cell (j := 5) rfl
    have zr6_9 := Xr8.out.cell (j := 6) rfl
    have zr7_9 := Xr8.out.cell (j := 7) rfl
    have zr8_9 := Xr8.out.cell (j := 8) rfl
    have zr9_9 := Xr8.out.cell (j := 9) rfl
    have zr10_9 := Xr8.out.cell (j := 10) rfl
    have zr11_9 := Xr8.out.cell (j := 11) rfl
    have yr0_9 := Xr8.out.thaw 0
    have yr1_9 := Xr8.out.thaw 1
    have yr2_9 := Xr8.out.thaw 2
    have yr3_9 := Xr8.out.thaw 3
    have yr4_9 := Xr8.out.thaw 4
    have yr5_9 := Xr8.out.thaw 5
    have yr6_9 := Xr8.out.thaw 6
    have yr7_9 := Xr8.out.thaw 7
    have yr8_9 := Xr8.out.thaw 8
    have yr9_9 := Xr8.out.thaw 9
    have yr10_9 := Xr8.out.thaw 10
    have yr11_9 := Xr8.out.thaw 11
    have zx0_9 := Xx8.out.cell (j := 0) rfl
    have zx1_9 := Xx8.out.cell (j := 1) rfl
    have zx2_9 := Xx8.out.cell (j := 2) rfl
    have zx3_9 := Xx8.out.cell (j := 3) rfl
    have zx4_9 := Xx8.out.cell (j := 4) rfl
    have zx5_9 := Xx8.out.cell (j := 5) rfl
    have zx6_9 := Xx8.out.cell (j := 6) rfl
    have zx7_9 := Xx8.out.cell (j := 7) rfl
    have zx8_9 := Xx8.out.cell (j := 8) rfl
    have zx9_9 := Xx8.out.cell (j := 9) rfl
    have zx10_9 := Xx8.out.cell (j := 10) rfl
    have zx11_9 := Xx8.out.cell (j := 11) rfl
    have yx0_9 := Xx8.out.thaw 0
    have yx1_9 := Xx8.out.thaw 1
    have yx2_9 := Xx8.out.thaw 2
    have yx3_9 := Xx8.out.thaw 3
    have yx4_9 := Xx8.out.thaw 4
    have yx5_9 := Xx8.out.thaw 5
    have yx6_9 := Xx8.out.thaw 6
    have yx7_9 := Xx8.out.thaw 7
    have yx8_9 := Xx8.out.thaw 8
    have yx9_9 := Xx8.out.thaw 9
    have yx10_9 := Xx8.out.thaw 10
    have yx11_9 := Xx8.out.thaw 11
    clear hm3
    have OE10s := hid (row_kindM (j := 1) (v := (.int .i64 m3)) OE8.out Xx8.out (by decide))
    have OF10s := hid (row_kindM (j := 1) (v := (.int .i64 m3)) OF8.out Xx8.out (by decide))
    have K10 := hid (K8.out.set (b := w1.heap.size) (j := 1) (v := (.int .i64 m3)) Nx.out)
    have G10 := hid (grown_far (b := w1.heap.size) (j := 1) (v := (.int .i64 m3)) G8.out Mx.out)
    have Xr10 := hid (Xr8.out.far (b := w1.heap.size) (j := 1) (by have := Arx.out; omega) (.int .i64 m3))
    have Xx10 : Hid (BlockIs (w3.setCell ⟨w1.heap.size, 1, none⟩ (.int .i64 m3)) (w1.heap.size) 39 [.int .i64 kd, .int .i64 m3, .int .i64 ds, .int .i64 tm, .int .i64 ix, .int .i64 lt, .int .i64 cm, .bool ok, .slice va L.length vc, .slice vb zs.length vd, .string T, .bool la]) := Xx8.out.set 1 (.int .i64 m3)
    clear K8 G8 Xr8 Xx8
    have zr0_11 := Xr10.out.cell (j := 0) rfl
    have zr1_11 := Xr10.out.cell (j := 1) rfl
    have zr2_11 := Xr10.out.cell (j := 2) rfl
    have zr3_11 := Xr10.out.cell (j := 3) rfl
    have zr4_11 := Xr10.out.cell (j := 4) rfl
    have zr5_11 := Xr10.out.cell (j := 5) rfl
    have zr6_11 := Xr10.out.cell (j := 6) rfl
    have zr7_11 := Xr10.out.cell (j := 7) rfl
    have zr8_11 := Xr10.out.cell (j := 8) rfl
    have zr9_11 := Xr10.out.cell (j := 9) rfl
    have zr10_11 := Xr10.out.cell (j := 10) rfl
    have zr11_11 := Xr10.out.cell (j := 11) rfl
    have yr0_11 := Xr10.out.thaw 0
    have yr1_11 := Xr10.out.thaw 1
    have yr2_11 := Xr10.out.thaw 2
    have yr3_11 := Xr10.out.thaw 3
    have yr4_11 := Xr10.out.thaw 4
    have yr5_11 := Xr10.out.thaw 5
    have yr6_11 := Xr10.out.thaw 6
    have yr7_11 := Xr10.out.thaw 7
    have yr8_11 := Xr10.out.thaw 8
    have yr9_11 := Xr10.out.thaw 9
    have yr10_11 := Xr10.out.thaw 10
    have yr11_11 := Xr10.out.thaw 11
    have zx0_11 := Xx10.out.cell (j := 0) rfl
    have zx1_11 := Xx10.out.cell (j := 1) rfl
    have zx2_11 := Xx10.out.cell (j := 2) rfl
    have zx3_11 := Xx10.out.cell (j := 3) rfl
    have zx4_11 := Xx10.out.cell (j := 4) rfl
    have zx5_11 := Xx10.out.cell (j := 5) rfl
    have zx6_11 := Xx10.out.cell (j := 6) rfl
    have zx7_11 := Xx10.out.cell (j := 7) rfl
    have zx8_11 := Xx10.out.cell (j := 8) rfl
    have zx9_11 := Xx10.out.cell (j := 9) rfl
    have zx10_11 := Xx10.out.cell (j := 10) rfl
    have zx11_11 := Xx10.out.cell (j := 11) rfl
    have yx0_11 := Xx10.out.thaw 0
    have yx1_11 := Xx10.out.thaw 1
    have yx2_11 := Xx10.out.thaw 2
    have yx3_11 := Xx10.out.thaw 3
    have yx4_11 := Xx10.out.thaw 4
    have yx5_11 := Xx10.out.thaw 5
    have yx6_11 := Xx10.out.thaw 6
    have yx7_11 := Xx10.out.thaw 7
    have yx8_11 := Xx10.out.thaw 8
    have yx9_11 := Xx10.out.thaw 9
    have yx10_11 := Xx10.out.thaw 10
    have yx11_11 := Xx10.out.thaw 11
    clear OE8 OF8
    have LE := hid (row_kindM (j := 11) (v := .bool la) (row_kindM (j := 10) (v := .string T) (row_kindM (j := 9) (v := .slice vb zs.length vd) (row_kindM (j := 8) (v := .slice va L.length vc) (row_kindM (j := 7) (v := .bool ok) (row_kindM (j := 6) (v := .int .i64 cm) (row_kindM (j := 5) (v := .int .i64 lt) (row_kindM (j := 4) (v := .int .i64 ix) (row_kindM (j := 3) (v := .int .i64 tm) (row_kindM (j := 2) (v := .int .i64 ds) (row_kindM (j := 1) (v := .int .i64 m3) (row_kindM (j := 0) (v := .int .i64 kd) OE10s.out Xr10.out (by decide)) (Xr10.out.set 0 (.int .i64 kd)) (by decide)) ((Xr10.out.set 0 (.int .i64 kd)).set 1 (.int .i64 m3)) (by decide)) (((Xr10.out.set 0 (.int .i64 kd)).set 1 (.int .i64 m3)).set 2 (.int .i64 ds)) (by decide)) ((((Xr10.out.set 0 (.int .i64 kd)).set 1 (.int .i64 m3)).set 2 (.int .i64 ds)).set 3 (.int .i64 tm)) (by decide)) (((((Xr10.out.set 0 (.int .i64 kd)).set 1 (.int .i64 m3)).set 2 (.int .i64 ds)).set 3 (.int .i64 tm)).set 4 (.int .i64 ix)) (by decide)) ((((((Xr10.out.set 0 (.int .i64 kd)).set 1 (.int .i64 m3)).set 2 (.int .i64 ds)).set 3 (.int .i64 tm)).set 4 (.int .i64 ix)).set 5 (.int .i64 lt)) (by decide)) (((((((Xr10.out.set 0 (.int .i64 kd)).set 1 (.int .i64 m3)).set 2 (.int .i64 ds)).set 3 (.int .i64 tm)).set 4 (.int .i64 ix)).set 5 (.int .i64 lt)).set 6 (.int .i64 cm)) (by decide)) ((((((((Xr10.out.set 0 (.int .i64 kd)).set 1 (.int .i64 m3)).set 2 (.int .i64 ds)).set 3 (.int .i64 tm)).set 4 (.int .i64 ix)).set 5 (.int .i64 lt)).set 6 (.int .i64 cm)).set 7 (.bool ok)) (by decide)) (((((((((Xr10.out.set 0 (.int .i64 kd)).set 1 (.int .i64 m3)).set 2 (.int .i64 ds)).set 3 (.int .i64 tm)).set 4 (.int .i64 ix)).set 5 (.int .i64 lt)).set 6 (.int .i64 cm)).set 7 (.bool ok)).set 8 (.slice va L.length vc)) (by decide)) ((((((((((Xr10.out.set 0 (.int .i64 kd)).set 1 (.int .i64 m3)).set 2 (.int .i64 ds)).set 3 (.int .i64 tm)).set 4 (.int .i64 ix)).set 5 (.int .i64 lt)).set 6 (.int .i64 cm)).set 7 (.bool ok)).set 8 (.slice va L.length vc)).set 9 (.slice vb zs.length vd)) (by decide)) (((((((((((Xr10.out.set 0 (.int .i64 kd)).set 1 (.int .i64 m3)).set 2 (.int .i64 ds)).set 3 (.int .i64 tm)).set 4 (.int .i64 ix)).set 5 (.int .i64 lt)).set 6 (.int .i64 cm)).set 7 (.bool ok)).set 8 (.slice va L.length vc)).set 9 (.slice vb zs.length vd)).set 10 (.string T)) (by decide))
    have LF := hid (row_kindM (j := 11) (v := .bool la) (row_kindM (j := 10) (v := .string T) (row_kindM (j := 9) (v := .slice vb zs.length vd) (row_kindM (j := 8) (v := .slice va L.length vc) (row_kindM (j := 7) (v := .bool ok) (row_kindM (j := 6) (v := .int .i64 cm) (row_kindM (j := 5) (v := .int .i64 lt) (row_kindM (j := 4) (v := .int .i64 ix) (row_kindM (j := 3) (v := .int .i64 tm) (row_kindM (j := 2) (v := .int .i64 ds) (row_kindM (j := 1) (v := .int .i64 m3) (row_kindM (j := 0) (v := .int .i64 kd) OF10s.out Xr10.out (by decide)) (Xr10.out.set 0 (.int .i64 kd)) (by decide)) ((Xr10.out.set 0 (.int .i64 kd)).set 1 (.int .i64 m3)) (by decide)) (((Xr10.out.set 0 (.int .i64 kd)).set 1 (.int .i64 m3)).set 2 (.int .i64 ds)) (by decide)) ((((Xr10.out.set 0 (.int .i64 kd)).set 1 (.int .i64 m3)).set 2 (.int .i64 ds)).set 3 (.int .i64 tm)) (by decide)) (((((Xr10.out.set 0 (.int .i64 kd)).set 1 (.int .i64 m3)).set 2 (.int .i64 ds)).set 3 (.int .i64 tm)).set 4 (.int .i64 ix)) (by decide)) ((((((Xr10.out.set 0 (.int .i64 kd)).set 1 (.int .i64 m3)).set 2 (.int .i64 ds)).set 3 (.int .i64 tm)).set 4 (.int .i64 ix)).set 5 (.int .i64 lt)) (by decide)) (((((((Xr10.out.set 0 (.int .i64 kd)).set 1 (.int .i64 m3)).set 2 (.int .i64 ds)).set 3 (.int .i64 tm)).set 4 (.int .i64 ix)).set 5 (.int .i64 lt)).set 6 (.int .i64 cm)) (by decide)) ((((((((Xr10.out.set 0 (.int .i64 kd)).set 1 (.int .i64 m3)).set 2 (.int .i64 ds)).set 3 (.int .i64 tm)).set 4 (.int .i64 ix)).set 5 (.int .i64 lt)).set 6 (.int .i64 cm)).set 7 (.bool ok)) (by decide)) (((((((((Xr10.out.set 0 (.int .i64 kd)).set 1 (.int .i64 m3)).set 2 (.int .i64 ds)).set 3 (.int .i64 tm)).set 4 (.int .i64 ix)).set 5 (.int .i64 lt)).set 6 (.int .i64 cm)).set 7 (.bool ok)).set 8 (.slice va L.length vc)) (by decide)) ((((((((((Xr10.out.set 0 (.int .i64 kd)).set 1 (.int .i64 m3)).set 2 (.int .i64 ds)).set 3 (.int .i64 tm)).set 4 (.int .i64 ix)).set 5 (.int .i64 lt)).set 6 (.int .i64 cm)).set 7 (.bool ok)).set 8 (.slice va L.length vc)).set 9 (.slice vb zs.length vd)) (by decide)) (((((((((((Xr10.out.set 0 (.int .i64 kd)).set 1 (.int .i64 m3)).set 2 (.int .i64 ds)).set 3 (.int .i64 tm)).set 4 (.int .i64 ix)).set 5 (.int .i64 lt)).set 6 (.int .i64 cm)).set 7 (.bool ok)).set 8 (.slice va L.length vc)).set 9 (.slice vb zs.length vd)).set 10 (.string T)) (by decide))
    have KL := hid ((((((((((((K10.out.set (b := w.heap.size) (j := 0) (v := .int .i64 kd) Nr.out).set (b := w.heap.size) (j := 1) (v := .int .i64 m3) Nr.out).set (b := w.heap.size) (j := 2) (v := .int .i64 ds) Nr.out).set (b := w.heap.size) (j := 3) (v := .int .i64 tm) Nr.out).set (b := w.heap.size) (j := 4) (v := .int .i64 ix) Nr.out).set (b := w.heap.size) (j := 5) (v := .int .i64 lt) Nr.out).set (b := w.heap.size) (j := 6) (v := .int .i64 cm) Nr.out).set (b := w.heap.size) (j := 7) (v := .bool ok) Nr.out).set (b := w.heap.size) (j := 8) (v := .slice va L.length vc) Nr.out).set (b := w.heap.size) (j := 9) (v := .slice vb zs.length vd) Nr.out).set (b := w.heap.size) (j := 10) (v := .string T) Nr.out).set (b := w.heap.size) (j := 11) (v := .bool la) Nr.out)
    have GL := hid (grown_far (b := w.heap.size) (j := 11) (v := .bool la) (grown_far (b := w.heap.size) (j := 10) (v := .string T) (grown_far (b := w.heap.size) (j := 9) (v := .slice vb zs.length vd) (grown_far (b := w.heap.size) (j := 8) (v := .slice va L.length vc) (grown_far (b := w.heap.size) (j := 7) (v := .bool ok) (grown_far (b := w.heap.size) (j := 6) (v := .int .i64 cm) (grown_far (b := w.heap.size) (j := 5) (v := .int .i64 lt) (grown_far (b := w.heap.size) (j := 4) (v := .int .i64 ix) (grown_far (b := w.heap.size) (j := 3) (v := .int .i64 tm) (grown_far (b := w.heap.size) (j := 2) (v := .int .i64 ds) (grown_far (b := w.heap.size) (j := 1) (v := .int .i64 m3) (grown_far (b := w.heap.size) (j := 0) (v := .int .i64 kd) G10.out Mr.out) Mr.out) Mr.out) Mr.out) Mr.out) Mr.out) Mr.out) Mr.out) Mr.out) Mr.out) Mr.out) Mr.out)
    go_wp2
    refine bodyPost_ret (v := .agg #[.int .i64 kd, .int .i64 m3, .int .i64 ds, .int .i64 tm, .int .i64 ix, .int .i64 lt, .int .i64 cm, .bool ok, .slice va L.length vc, .slice vb zs.length vd, .string T, .bool la]) (by simp [results, Tryz.results34, go_sem, zr0_11, zr1_11, zr2_11, zr3_11, zr4_11, zr5_11, zr6_11, zr7_11, zr8_11, zr9_11, zr10_11, zr11_11]) rfl ?_
    exact ⟨⟨kd, m3, ds, tm, ix, lt, cm, ok, L, zs, T, la⟩, _, _, _, _, rfl, ⟨by show L.length ≤ 5; omega, fun f hf => by have := HM2.out f hf; omega, by show zs.length ≤ 6; omega, by show T.size ≤ 100; omega⟩, row_down LE.out MF.out, row_down LF.out MF.out, KL.out, GL.out⟩
  by_cases q2 : y2 = 2
  · subst q2
    clear q0 q1
    go_wp2_with fail
    refine Calls.mono (pickI_any C [-1, 100000, 100001] (by decide) (by decide) 3 _ _ rfl K6.out) ?_
    rintro e w3 ⟨m3, rfl, hm3, k3, q3⟩
    have K8 := hid (k3)
    have G8 := hid (G6.out.trans q3)
    have Xr8 := hid (Xr6.out.cur q3 Nr.out)
    have Xx8 := hid (Xx6.out.cur q3 Nx.out)
    have OE8 := hid (row_pastM OE6.out q3 Fv.out)
    have OF8 := hid (row_pastM OF6.out q3 Fv.out)
    clear k3 q3 K6 G6 zr0_7 zr1_7 zr2_7 zr3_7 zr4_7 zr5_7 zr6_7 zr7_7 zr8_7 zr9_7 zr10_7 zr11_7 yr0_7 yr1_7 yr2_7 yr3_7 yr4_7 yr5_7 yr6_7 yr7_7 yr8_7 yr9_7 yr10_7 yr11_7 zx0_7 zx1_7 zx2_7 zx3_7 zx4_7 zx5_7 zx6_7 zx7_7 zx8_7 zx9_7 zx10_7 zx11_7 yx0_7 yx1_7 yx2_7 yx3_7 yx4_7 yx5_7 yx6_7 yx7_7 yx8_7 yx9_7 yx10_7 yx11_7 Xr6 Xx6 OE6 OF6
    have zr0_9 := Xr8.out.cell (j := 0) rfl
    have zr1_9 := Xr8.out.cell (j := 1) rfl
    have zr2_9 := Xr8.out.cell (j := 2) rfl
    have zr3_9 := Xr8.out.cell (j := 3) rfl
    have zr4_9 := Xr8.out.cell (j := 4) rfl
    have zr5_9 := Xr8.out.cell (j := 5) rfl
    have zr6_9 := Xr8.out.cell (j := 6) rfl
    have zr7_9 := Xr8.out.cell (j := 7) rfl
    have zr8_9 := Xr8.out.cell (j := 8) rfl
    have zr9_9 := Xr8.out.cell (j := 9) rfl
    have zr10_9 := Xr8.out.cell (j := 10) rfl
    have zr11_9 := Xr8.out.cell (j := 11) rfl
    have yr0_9 := Xr8.out.thaw 0
    have yr1_9 := Xr8.out.thaw 1
    have yr2_9 := Xr8.out.thaw 2
    have yr3_9 := Xr8.out.thaw 3
    have yr4_9 := Xr8.out.thaw 4
    have yr5_9 := Xr8.out.thaw 5
    have yr6_9 := Xr8.out.thaw 6
    have yr7_9 := Xr8.out.thaw 7
    have yr8_9 := Xr8.out.thaw 8
    have yr9_9 := Xr8.out.thaw 9
    have yr10_9 := Xr8.out.thaw 10
    have yr11_9 := Xr8.out.thaw 11
    have zx0_9 := Xx8.out.cell (j := 0) rfl
    have zx1_9 := Xx8.out.cell (j := 1) rfl
    have zx2_9 := Xx8.out.cell (j := 2) rfl
    have zx3_9 := Xx8.out.cell (j := 3) rfl
    have zx4_9 := Xx8.out.cell (j := 4) rfl
    have zx5_9 := Xx8.out.cell (j := 5) rfl
    have zx6_9 := Xx8.out.cell (j := 6) rfl
    have zx7_9 := Xx8.out.cell (j := 7) rfl
    have zx8_9 := Xx8.out.cell (j := 8) rfl
    have zx9_9 := Xx8.out.cell (j := 9) rfl
    have zx10_9 := Xx8.out.cell (j := 10) rfl
    have zx11_9 := Xx8.out.cell (j := 11) rfl
    have yx0_9 := Xx8.out.thaw 0
    have yx1_9 := Xx8.out.thaw 1
    have yx2_9 := Xx8.out.thaw 2
    have yx3_9 := Xx8.out.thaw 3
    have yx4_9 := Xx8.out.thaw 4
    have yx5_9 := Xx8.out.thaw 5
    have yx6_9 := Xx8.out.thaw 6
    have yx7_9 := Xx8.out.thaw 7
    have yx8_9 := Xx8.out.thaw 8
    have yx9_9 := Xx8.out.thaw 9
    have yx10_9 := Xx8.out.thaw 10
    have yx11_9 := Xx8.out.thaw 11
    clear hm3
    have OE10s := hid (row_kindM (j := 3) (v := (.int .i64 m3)) OE8.out Xx8.out (by decide))
    have OF10s := hid (row_kindM (j := 3) (v := (.int .i64 m3)) OF8.out Xx8.out (by decide))
    have K10 := hid (K8.out.set (b := w1.heap.size) (j := 3) (v := (.int .i64 m3)) Nx.out)
    have G10 := hid (grown_far (b := w1.heap.size) (j := 3) (v := (.int .i64 m3)) G8.out Mx.out)
    have Xr10 := hid (Xr8.out.far (b := w1.heap.size) (j := 3) (by have := Arx.out; omega) (.int .i64 m3))
    have Xx10 : Hid (BlockIs (w3.setCell ⟨w1.heap.size, 3, none⟩ (.int .i64 m3)) (w1.heap.size) 39 [.int .i64 kd, .int .i64 sr, .int .i64 ds, .int .i64 m3, .int .i64 ix, .int .i64 lt, .int .i64 cm, .bool ok, .slice va L.length vc, .slice vb zs.length vd, .string T, .bool la]) := Xx8.out.set 3 (.int .i64 m3)
    clear K8 G8 Xr8 Xx8
    have zr0_11 := Xr10.out.cell (j := 0) rfl
    have zr1_11 := Xr10.out.cell (j := 1) rfl
    have zr2_11 := Xr10.out.cell (j := 2) rfl
    have zr3_11 := Xr10.out.cell (j := 3) rfl
    have zr4_11 := Xr10.out.cell (j := 4) rfl
    have zr5_11 := Xr10.out.cell (j := 5) rfl
    have zr6_11 := Xr10.out.cell (j := 6) rfl
    have zr7_11 := Xr10.out.cell (j := 7) rfl
    have zr8_11 := Xr10.out.cell (j := 8) rfl
    have zr9_11 := Xr10.out.cell (j := 9) rfl
    have zr10_11 := Xr10.out.cell (j := 10) rfl
    have zr11_11 := Xr10.out.cell (j := 11) rfl
    have yr0_11 := Xr10.out.thaw 0
    have yr1_11 := Xr10.out.thaw 1
    have yr2_11 := Xr10.out.thaw 2
    have yr3_11 := Xr10.out.thaw 3
    have yr4_11 := Xr10.out.thaw 4
    have yr5_11 := Xr10.out.thaw 5
    have yr6_11 := Xr10.out.thaw 6
    have yr7_11 := Xr10.out.thaw 7
    have yr8_11 := Xr10.out.thaw 8
    have yr9_11 := Xr10.out.thaw 9
    have yr10_11 := Xr10.out.thaw 10
    have yr11_11 := Xr10.out.thaw 11
    have zx0_11 := Xx10.out.cell (j := 0) rfl
    have zx1_11 := Xx10.out.cell (j := 1) rfl
    have zx2_11 := Xx10.out.cell (j := 2) rfl
    have zx3_11 := Xx10.out.cell (j := 3) rfl
    have zx4_11 := Xx10.out.cell (j := 4) rfl
    have zx5_11 := Xx10.out.cell (j := 5) rfl
    have zx6_11 := Xx10.out.cell (j := 6) rfl
    have zx7_11 := Xx10.out.cell (j := 7) rfl
    have zx8_11 := Xx10.out.cell (j := 8) rfl
    have zx9_11 := Xx10.out.cell (j := 9) rfl
    have zx10_11 := Xx10.out.cell (j := 10) rfl
    have zx11_11 := Xx10.out.cell (j := 11) rfl
    have yx0_11 := Xx10.out.thaw 0
    have yx1_11 := Xx10.out.thaw 1
    have yx2_11 := Xx10.out.thaw 2
    have yx3_11 := Xx10.out.thaw 3
    have yx4_11 := Xx10.out.thaw 4
    have yx5_11 := Xx10.out.thaw 5
    have yx6_11 := Xx10.out.thaw 6
    have yx7_11 := Xx10.out.thaw 7
    have yx8_11 := Xx10.out.thaw 8
    have yx9_11 := Xx10.out.thaw 9
    have yx10_11 := Xx10.out.thaw 10
    have yx11_11 := Xx10.out.thaw 11
    clear OE8 OF8
    have LE := hid (row_kindM (j := 11) (v := .bool la) (row_kindM (j := 10) (v := .string T) (row_kindM (j := 9) (v := .slice vb zs.length vd) (row_kindM (j := 8) (v := .slice va L.length vc) (row_kindM (j := 7) (v := .bool ok) (row_kindM (j := 6) (v := .int .i64 cm) (row_kindM (j := 5) (v := .int .i64 lt) (row_kindM (j := 4) (v := .int .i64 ix) (row_kindM (j := 3) (v := .int .i64 m3) (row_kindM (j := 2) (v := .int .i64 ds) (row_kindM (j := 1) (v := .int .i64 sr) (row_kindM (j := 0) (v := .int .i64 kd) OE10s.out Xr10.out (by decide)) (Xr10.out.set 0 (.int .i64 kd)) (by decide)) ((Xr10.out.set 0 (.int .i64 kd)).set 1 (.int .i64 sr)) (by decide)) (((Xr10.out.set 0 (.int .i64 kd)).set 1 (.int .i64 sr)).set 2 (.int .i64 ds)) (by decide)) ((((Xr10.out.set 0 (.int .i64 kd)).set 1 (.int .i64 sr)).set 2 (.int .i64 ds)).set 3 (.int .i64 m3)) (by decide)) (((((Xr10.out.set 0 (.int .i64 kd)).set 1 (.int .i64 sr)).set 2 (.int .i64 ds)).set 3 (.int .i64 m3)).set 4 (.int .i64 ix)) (by decide)) ((((((Xr10.out.set 0 (.int .i64 kd)).set 1 (.int .i64 sr)).set 2 (.int .i64 ds)).set 3 (.int .i64 m3)).set 4 (.int .i64 ix)).set 5 (.int .i64 lt)) (by decide)) (((((((Xr10.out.set 0 (.int .i64 kd)).set 1 (.int .i64 sr)).set 2 (.int .i64 ds)).set 3 (.int .i64 m3)).set 4 (.int .i64 ix)).set 5 (.int .i64 lt)).set 6 (.int .i64 cm)) (by decide)) ((((((((Xr10.out.set 0 (.int .i64 kd)).set 1 (.int .i64 sr)).set 2 (.int .i64 ds)).set 3 (.int .i64 m3)).set 4 (.int .i64 ix)).set 5 (.int .i64 lt)).set 6 (.int .i64 cm)).set 7 (.bool ok)) (by decide)) (((((((((Xr10.out.set 0 (.int .i64 kd)).set 1 (.int .i64 sr)).set 2 (.int .i64 ds)).set 3 (.int .i64 m3)).set 4 (.int .i64 ix)).set 5 (.int .i64 lt)).set 6 (.int .i64 cm)).set 7 (.bool ok)).set 8 (.slice va L.length vc)) (by decide)) ((((((((((Xr10.out.set 0 (.int .i64 kd)).set 1 (.int .i64 sr)).set 2 (.int .i64 ds)).set 3 (.int .i64 m3)).set 4 (.int .i64 ix)).set 5 (.int .i64 lt)).set 6 (.int .i64 cm)).set 7 (.bool ok)).set 8 (.slice va L.length vc)).set 9 (.slice vb zs.length vd)) (by decide)) (((((((((((Xr10.out.set 0 (.int .i64 kd)).set 1 (.int .i64 sr)).set 2 (.int .i64 ds)).set 3 (.int .i64 m3)).set 4 (.int .i64 ix)).set 5 (.int .i64 lt)).set 6 (.int .i64 cm)).set 7 (.bool ok)).set 8 (.slice va L.length vc)).set 9 (.slice vb zs.length vd)).set 10 (.string T)) (by decide))
    have LF := hid (row_kindM (j := 11) (v := .bool la) (row_kindM (j := 10) (v := .string T) (row_kindM (j := 9) (v := .slice vb zs.length vd) (row_kindM (j := 8) (v := .slice va L.length vc) (row_kindM (j := 7) (v := .bool ok) (row_kindM (j := 6) (v := .int .i64 cm) (row_kindM (j := 5) (v := .int .i64 lt) (row_kindM (j := 4) (v := .int .i64 ix) (row_kindM (j := 3) (v := .int .i64 m3) (row_kindM (j := 2) (v := .int .i64 ds) (row_kindM (j := 1) (v := .int .i64 sr) (row_kindM (j := 0) (v := .int .i64 kd) OF10s.out Xr10.out (by decide)) (Xr10.out.set 0 (.int .i64 kd)) (by decide)) ((Xr10.out.set 0 (.int .i64 kd)).set 1 (.int .i64 sr)) (by decide)) (((Xr10.out.set 0 (.int .i64 kd)).set 1 (.int .i64 sr)).set 2 (.int .i64 ds)) (by decide)) ((((Xr10.out.set 0 (.int .i64 kd)).set 1 (.int .i64 sr)).set 2 (.int .i64 ds)).set 3 (.int .i64 m3)) (by decide)) (((((Xr10.out.set 0 (.int .i64 kd)).set 1 (.int .i64 sr)).set 2 (.int .i64 ds)).set 3 (.int .i64 m3)).set 4 (.int .i64 ix)) (by decide)) ((((((Xr10.out.set 0 (.int .i64 kd)).set 1 (.int .i64 sr)).set 2 (.int .i64 ds)).set 3 (.int .i64 m3)).set 4 (.int .i64 ix)).set 5 (.int .i64 lt)) (by decide)) (((((((Xr10.out.set 0 (.int .i64 kd)).set 1 (.int .i64 sr)).set 2 (.int .i64 ds)).set 3 (.int .i64 m3)).set 4 (.int .i64 ix)).set 5 (.int .i64 lt)).set 6 (.int .i64 cm)) (by decide)) ((((((((Xr10.out.set 0 (.int .i64 kd)).set 1 (.int .i64 sr)).set 2 (.int .i64 ds)).set 3 (.int .i64 m3)).set 4 (.int .i64 ix)).set 5 (.int .i64 lt)).set 6 (.int .i64 cm)).set 7 (.bool ok)) (by decide)) (((((((((Xr10.out.set 0 (.int .i64 kd)).set 1 (.int .i64 sr)).set 2 (.int .i64 ds)).set 3 (.int .i64 m3)).set 4 (.int .i64 ix)).set 5 (.int .i64 lt)).set 6 (.int .i64 cm)).set 7 (.bool ok)).set 8 (.slice va L.length vc)) (by decide)) ((((((((((Xr10.out.set 0 (.int .i64 kd)).set 1 (.int .i64 sr)).set 2 (.int .i64 ds)).set 3 (.int .i64 m3)).set 4 (.int .i64 ix)).set 5 (.int .i64 lt)).set 6 (.int .i64 cm)).set 7 (.bool ok)).set 8 (.slice va L.length vc)).set 9 (.slice vb zs.length vd)) (by decide)) (((((((((((Xr10.out.set 0 (.int .i64 kd)).set 1 (.int .i64 sr)).set 2 (.int .i64 ds)).set 3 (.int .i64 m3)).set 4 (.int .i64 ix)).set 5 (.int .i64 lt)).set 6 (.int .i64 cm)).set 7 (.bool ok)).set 8 (.slice va L.length vc)).set 9 (.slice vb zs.length vd)).set 10 (.string T)) (by decide))
    have KL := hid ((((((((((((K10.out.set (b := w.heap.size) (j := 0) (v := .int .i64 kd) Nr.out).set (b := w.heap.size) (j := 1) (v := .int .i64 sr) Nr.out).set (b := w.heap.size) (j := 2) (v := .int .i64 ds) Nr.out).set (b := w.heap.size) (j := 3) (v := .int .i64 m3) Nr.out).set (b := w.heap.size) (j := 4) (v := .int .i64 ix) Nr.out).set (b := w.heap.size) (j := 5) (v := .int .i64 lt) Nr.out).set (b := w.heap.size) (j := 6) (v := .int .i64 cm) Nr.out).set (b := w.heap.size) (j := 7) (v := .bool ok) Nr.out).set (b := w.heap.size) (j := 8) (v := .slice va L.length vc) Nr.out).set (b := w.heap.size) (j := 9) (v := .slice vb zs.length vd) Nr.out).set (b := w.heap.size) (j := 10) (v := .string T) Nr.out).set (b := w.heap.size) (j := 11) (v := .bool la) Nr.out)
    have GL := hid (grown_far (b := w.heap.size) (j := 11) (v := .bool la) (grown_far (b := w.heap.size) (j := 10) (v := .string T) (grown_far (b := w.heap.size) (j := 9) (v := .slice vb zs.length vd) (grown_far (b := w.heap.size) (j := 8) (v := .slice va L.length vc) (grown_far (b := w.heap.size) (j := 7) (v := .bool ok) (grown_far (b := w.heap.size) (j := 6) (v := .int .i64 cm) (grown_far (b := w.heap.size) (j := 5) (v := .int .i64 lt) (grown_far (b := w.heap.size) (j := 4) (v := .int .i64 ix) (grown_far (b := w.heap.size) (j := 3) (v := .int .i64 m3) (grown_far (b := w.heap.size) (j := 2) (v := .int .i64 ds) (grown_far (b := w.heap.size) (j := 1) (v := .int .i64 sr) (grown_far (b := w.heap.size) (j := 0) (v := .int .i64 kd) G10.out Mr.out) Mr.out) Mr.out) Mr.out) Mr.out) Mr.out) Mr.out) Mr.out) Mr.out) Mr.out) Mr.out) Mr.out)
    go_wp2
    refine bodyPost_ret (v := .agg #[.int .i64 kd, .int .i64 sr, .int .i64 ds, .int .i64 m3, .int .i64 ix, .int .i64 lt, .int .i64 cm, .bool ok, .slice va L.length vc, .slice vb zs.length vd, .string T, .bool la]) (by simp [results, Tryz.results34, go_sem, zr0_11, zr1_11, zr2_11, zr3_11, zr4_11, zr5_11, zr6_11, zr7_11, zr8_11, zr9_11, zr10_11, zr11_11]) rfl ?_
    exact ⟨⟨kd, sr, ds, m3, ix, lt, cm, ok, L, zs, T, la⟩, _, _, _, _, rfl, ⟨by show L.length ≤ 5; omega, fun f hf => by have := HM2.out f hf; omega, by show zs.length ≤ 6; omega, by show T.size ≤ 100; omega⟩, row_down LE.out MF.out, row_down LF.out MF.out, KL.out, GL.out⟩
  by_cases q3 : y2 = 3
  · subst q3
    clear q0 q1 q2
    go_wp2_with fail
    refine Calls.mono (pickI_any C [-1, 1000000, 1000001] (by decide) (by decide) 3 _ _ rfl K6.out) ?_
    rintro e w3 ⟨m3, rfl, hm3, k3, q3⟩
    have K8 := hid (k3)
    have G8 := hid (G6.out.trans q3)
    have Xr8 := hid (Xr6.out.cur q3 Nr.out)
    have Xx8 := hid (Xx6.out.cur q3 Nx.out)
    have OE8 := hid (row_pastM OE6.out q3 Fv.out)
    have OF8 := hid (row_pastM OF6.out q3 Fv.out)
    clear k3 q3 K6 G6 zr0_7 zr1_7 zr2_7 zr3_7 zr4_7 zr5_7 zr6_7 zr7_7 zr8_7 zr9_7 zr10_7 zr11_7 yr0_7 yr1_7 yr2_7 yr3_7 yr4_7 yr5_7 yr6_7 yr7_7 yr8_7 yr9_7 yr10_7 yr11_7 zx0_7 zx1_7 zx2_7 zx3_7 zx4_7 zx5_7 zx6_7 zx7_7 zx8_7 zx9_7 zx10_7 zx11_7 yx0_7 yx1_7 yx2_7 yx3_7 yx4_7 yx5_7 yx6_7 yx7_7 yx8_7 yx9_7 yx10_7 yx11_7 Xr6 Xx6 OE6 OF6
    have zr0_9 := Xr8.out.cell (j := 0) rfl
    have zr1_9 := Xr8.out.cell (j := 1) rfl
    have zr2_9 := Xr8.out.cell (j := 2) rfl
    have zr3_9 := Xr8.out.cell (j := 3) rfl
    have zr4_9 := Xr8.out.cell (j := 4) rfl
    have zr5_9 := Xr8.out.cell (j := 5) rfl
    have zr6_9 := Xr8.out.cell (j := 6) rfl
    have zr7_9 := Xr8.out.cell (j := 7) rfl
    have zr8_9 := Xr8.out.cell (j := 8) rfl
    have zr9_9 := Xr8.out.cell (j := 9) rfl
    have zr10_9 := Xr8.out.cell (j := 10) rfl
    have zr11_9 := Xr8.out.cell (j := 11) rfl
    have yr0_9 := Xr8.out.thaw 0
    have yr1_9 := Xr8.out.thaw 1
    have yr2_9 := Xr8.out.thaw 2
    have yr3_9 := Xr8.out.thaw 3
    have yr4_9 := Xr8.out.thaw 4
    have yr5_9 := Xr8.out.thaw 5
    have yr6_9 := Xr8.out.thaw 6
    have yr7_9 := Xr8.out.thaw 7
    have yr8_9 := Xr8.out.thaw 8
    have yr9_9 := Xr8.out.thaw 9
    have yr10_9 := Xr8.out.thaw 10
    have yr11_9 := Xr8.out.thaw 11
    have zx0_9 := Xx8.out.cell (j := 0) rfl
    have zx1_9 := Xx8.out.cell (j := 1) rfl
    have zx2_9 := Xx8.out.cell (j := 2) rfl
    have zx3_9 := Xx8.out.cell (j := 3) rfl
    have zx4_9 := Xx8.out.cell (j := 4) rfl
    have zx5_9 := Xx8.out.cell (j := 5) rfl
    have zx6_9 := Xx8.out.cell (j := 6) rfl
    have zx7_9 := Xx8.out.cell (j := 7) rfl
    have zx8_9 := Xx8.out.cell (j := 8) rfl
    have zx9_9 := Xx8.out.cell (j := 9) rfl
    have zx10_9 := Xx8.out.cell (j := 10) rfl
    have zx11_9 := Xx8.out.cell (j := 11) rfl
    have yx0_9 := Xx8.out.thaw 0
    have yx1_9 := Xx8.out.thaw 1
    have yx2_9 := Xx8.out.thaw 2
    have yx3_9 := Xx8.out.thaw 3
    have yx4_9 := Xx8.out.thaw 4
    have yx5_9 := Xx8.out.thaw 5
    have yx6_9 := Xx8.out.thaw 6
    have yx7_9 := Xx8.out.thaw 7
    have yx8_9 := Xx8.out.thaw 8
    have yx9_9 := Xx8.out.thaw 9
    have yx10_9 := Xx8.out.thaw 10
    have yx11_9 := Xx8.out.thaw 11
    clear hm3
    have OE10s := hid (row_kindM (j := 4) (v := (.int .i64 m3)) OE8.out Xx8.out (by decide))
    have OF10s := hid (row_kindM (j := 4) (v := (.int .i64 m3)) OF8.out Xx8.out (by decide))
    have K10 := hid (K8.out.set (b := w1.heap.size) (j := 4) (v := (.int .i64 m3)) Nx.out)
    have G10 := hid (grown_far (b := w1.heap.size) (j := 4) (v := (.int .i64 m3)) G8.out Mx.out)
    have Xr10 := hid (Xr8.out.far (b := w1.heap.size) (j := 4) (by have := Arx.out; omega) (.int .i64 m3))
    have Xx10 : Hid (BlockIs (w3.setCell ⟨w1.heap.size, 4, none⟩ (.int .i64 m3)) (w1.heap.size) 39 [.int .i64 kd, .int .i64 sr, .int .i64 ds, .int .i64 tm, .int .i64 m3, .int .i64 lt, .int .i64 cm, .bool ok, .slice va L.length vc, .slice vb zs.length vd, .string T, .bool la]) := Xx8.out.set 4 (.int .i64 m3)
    clear K8 G8 Xr8 Xx8
    have zr0_11 := Xr10.out.cell (j := 0) rfl
    have zr1_11 := Xr10.out.cell (j := 1) rfl
    have zr2_11 := Xr10.out.cell (j := 2) rfl
    have zr3_11 := Xr10.out.cell (j := 3) rfl
    have zr4_11 := Xr10.out.cell (j := 4) rfl
    have zr5_11 := Xr10.out.cell (j := 5) rfl
    have zr6_11 := Xr10.out.cell (j := 6) rfl
    have zr7_11 := Xr10.out.cell (j := 7) rfl
    have zr8_11 := Xr10.out.cell (j := 8) rfl
    have zr9_11 := Xr10.out.cell (j := 9) rfl
    have zr10_11 := Xr10.out.cell (j := 10) rfl
    have zr11_11 := Xr10.out.cell (j := 11) rfl
    have yr0_11 := Xr10.out.thaw 0
    have yr1_11 := Xr10.out.thaw 1
    have yr2_11 := Xr10.out.thaw 2
    have yr3_11 := Xr10.out.thaw 3
    have yr4_11 := Xr10.out.thaw 4
    have yr5_11 := Xr10.out.thaw 5
    have yr6_11 := Xr10.out.thaw 6
    have yr7_11 := Xr10.out.thaw 7
    have yr8_11 := Xr10.out.thaw 8
    have yr9_11 := Xr10.out.thaw 9
    have yr10_11 := Xr10.out.thaw 10
    have yr11_11 := Xr10.out.thaw 11
    have zx0_11 := Xx10.out.cell (j := 0) rfl
    have zx1_11 := Xx10.out.cell (j := 1) rfl
    have zx2_11 := Xx10.out.cell (j := 2) rfl
    have zx3_11 := Xx10.out.cell (j := 3) rfl
    have zx4_11 := Xx10.out.cell (j := 4) rfl
    have zx5_11 := Xx10.out.cell (j := 5) rfl
    have zx6_11 := Xx10.out.cell (j := 6) rfl
    have zx7_11 := Xx10.out.cell (j := 7) rfl
    have zx8_11 := Xx10.out.cell (j := 8) rfl
    have zx9_11 := Xx10.out.cell (j := 9) rfl
    have zx10_11 := Xx10.out.cell (j := 10) rfl
    have zx11_11 := Xx10.out.cell (j := 11) rfl
    have yx0_11 := Xx10.out.thaw 0
    have yx1_11 := Xx10.out.thaw 1
    have yx2_11 := Xx10.out.thaw 2
    have yx3_11 := Xx10.out.thaw 3
    have yx4_11 := Xx10.out.thaw 4
    have yx5_11 := Xx10.out.thaw 5
    have yx6_11 := Xx10.out.thaw 6
    have yx7_11 := Xx10.out.thaw 7
    have yx8_11 := Xx10.out.thaw 8
    have yx9_11 := Xx10.out.thaw 9
    have yx10_11 := Xx10.out.thaw 10
    have yx11_11 := Xx10.out.thaw 11
    clear OE8 OF8
    have LE := hid (row_kindM (j := 11) (v := .bool la) (row_kindM (j := 10) (v := .string T) (row_kindM (j := 9) (v := .slice vb zs.length vd) (row_kindM (j := 8) (v := .slice va L.length vc) (row_kindM (j := 7) (v := .bool ok) (row_kindM (j := 6) (v := .int .i64 cm) (row_kindM (j := 5) (v := .int .i64 lt) (row_kindM (j := 4) (v := .int .i64 m3) (row_kindM (j := 3) (v := .int .i64 tm) (row_kindM (j := 2) (v := .int .i64 ds) (row_kindM (j := 1) (v := .int .i64 sr) (row_kindM (j := 0) (v := .int .i64 kd) OE10s.out Xr10.out (by decide)) (Xr10.out.set 0 (.int .i64 kd)) (by decide)) ((Xr10.out.set 0 (.int .i64 kd)).set 1 (.int .i64 sr)) (by decide)) (((Xr10.out.set 0 (.int .i64 kd)).set 1 (.int .i64 sr)).set 2 (.int .i64 ds)) (by decide)) ((((Xr10.out.set 0 (.int .i64 kd)).set 1 (.int .i64 sr)).set 2 (.int .i64 ds)).set 3 (.int .i64 tm)) (by decide)) (((((Xr10.out.set 0 (.int .i64 kd)).set 1 (.int .i64 sr)).set 2 (.int .i64 ds)).set 3 (.int .i64 tm)).set 4 (.int .i64 m3)) (by decide)) ((((((Xr10.out.set 0 (.int .i64 kd)).set 1 (.int .i64 sr)).set 2 (.int .i64 ds)).set 3 (.int .i64 tm)).set 4 (.int .i64 m3)).set 5 (.int .i64 lt)) (by decide)) (((((((Xr10.out.set 0 (.int .i64 kd)).set 1 (.int .i64 sr)).set 2 (.int .i64 ds)).set 3 (.int .i64 tm)).set 4 (.int .i64 m3)).set 5 (.int .i64 lt)).set 6 (.int .i64 cm)) (by decide)) ((((((((Xr10.out.set 0 (.int .i64 kd)).set 1 (.int .i64 sr)).set 2 (.int .i64 ds)).set 3 (.int .i64 tm)).set 4 (.int .i64 m3)).set 5 (.int .i64 lt)).set 6 (.int .i64 cm)).set 7 (.bool ok)) (by decide)) (((((((((Xr10.out.set 0 (.int .i64 kd)).set 1 (.int .i64 sr)).set 2 (.int .i64 ds)).set 3 (.int .i64 tm)).set 4 (.int .i64 m3)).set 5 (.int .i64 lt)).set 6 (.int .i64 cm)).set 7 (.bool ok)).set 8 (.slice va L.length vc)) (by decide)) ((((((((((Xr10.out.set 0 (.int .i64 kd)).set 1 (.int .i64 sr)).set 2 (.int .i64 ds)).set 3 (.int .i64 tm)).set 4 (.int .i64 m3)).set 5 (.int .i64 lt)).set 6 (.int .i64 cm)).set 7 (.bool ok)).set 8 (.slice va L.length vc)).set 9 (.slice vb zs.length vd)) (by decide)) (((((((((((Xr10.out.set 0 (.int .i64 kd)).set 1 (.int .i64 sr)).set 2 (.int .i64 ds)).set 3 (.int .i64 tm)).set 4 (.int .i64 m3)).set 5 (.int .i64 lt)).set 6 (.int .i64 cm)).set 7 (.bool ok)).set 8 (.slice va L.length vc)).set 9 (.slice vb zs.length vd)).set 10 (.string T)) (by decide))
    have LF := hid (row_kindM (j := 11) (v := .bool la) (row_kindM (j := 10) (v := .string T) (row_kindM (j := 9) (v := .slice vb zs.length vd) (row_kindM (j := 8) (v := .slice va L.length vc) (row_kindM (j := 7) (v := .bool ok) (row_kindM (j := 6) (v := .int .i64 cm) (row_kindM (j := 5) (v := .int .i64 lt) (row_kindM (j := 4) (v := .int .i64 m3) (row_kindM (j := 3) (v := .int .i64 tm) (row_kindM (j := 2) (v := .int .i64 ds) (row_kindM (j := 1) (v := .int .i64 sr) (row_kindM (j := 0) (v := .int .i64 kd) OF10s.out Xr10.out (by decide)) (Xr10.out.set 0 (.int .i64 kd)) (by decide)) ((Xr10.out.set 0 (.int .i64 kd)).set 1 (.int .i64 sr)) (by decide)) (((Xr10.out.set 0 (.int .i64 kd)).set 1 (.int .i64 sr)).set 2 (.int .i64 ds)) (by decide)) ((((Xr10.out.set 0 (.int .i64 kd)).set 1 (.int .i64 sr)).set 2 (.int .i64 ds)).set 3 (.int .i64 tm)) (by decide)) (((((Xr10.out.set 0 (.int .i64 kd)).set 1 (.int .i64 sr)).set 2 (.int .i64 ds)).set 3 (.int .i64 tm)).set 4 (.int .i64 m3)) (by decide)) ((((((Xr10.out.set 0 (.int .i64 kd)).set 1 (.int .i64 sr)).set 2 (.int .i64 ds)).set 3 (.int .i64 tm)).set 4 (.int .i64 m3)).set 5 (.int .i64 lt)) (by decide)) (((((((Xr10.out.set 0 (.int .i64 kd)).set 1 (.int .i64 sr)).set 2 (.int .i64 ds)).set 3 (.int .i64 tm)).set 4 (.int .i64 m3)).set 5 (.int .i64 lt)).set 6 (.int .i64 cm)) (by decide)) ((((((((Xr10.out.set 0 (.int .i64 kd)).set 1 (.int .i64 sr)).set 2 (.int .i64 ds)).set 3 (.int .i64 tm)).set 4 (.int .i64 m3)).set 5 (.int .i64 lt)).set 6 (.int .i64 cm)).set 7 (.bool ok)) (by decide)) (((((((((Xr10.out.set 0 (.int .i64 kd)).set 1 (.int .i64 sr)).set 2 (.int .i64 ds)).set 3 (.int .i64 tm)).set 4 (.int .i64 m3)).set 5 (.int .i64 lt)).set 6 (.int .i64 cm)).set 7 (.bool ok)).set 8 (.slice va L.length vc)) (by decide)) ((((((((((Xr10.out.set 0 (.int .i64 kd)).set 1 (.int .i64 sr)).set 2 (.int .i64 ds)).set 3 (.int .i64 tm)).set 4 (.int .i64 m3)).set 5 (.int .i64 lt)).set 6 (.int .i64 cm)).set 7 (.bool ok)).set 8 (.slice va L.length vc)).set 9 (.slice vb zs.length vd)) (by decide)) (((((((((((Xr10.out.set 0 (.int .i64 kd)).set 1 (.int .i64 sr)).set 2 (.int .i64 ds)).set 3 (.int .i64 tm)).set 4 (.int .i64 m3)).set 5 (.int .i64 lt)).set 6 (.int .i64 cm)).set 7 (.bool ok)).set 8 (.slice va L.length vc)).set 9 (.slice vb zs.length vd)).set 10 (.string T)) (by decide))
    have KL := hid ((((((((((((K10.out.set (b := w.heap.size) (j := 0) (v := .int .i64 kd) Nr.out).set (b := w.heap.size) (j := 1) (v := .int .i64 sr) Nr.out).set (b := w.heap.size) (j := 2) (v := .int .i64 ds) Nr.out).set (b := w.heap.size) (j := 3) (v := .int .i64 tm) Nr.out).set (b := w.heap.size) (j := 4) (v := .int .i64 m3) Nr.out).set (b := w.heap.size) (j := 5) (v := .int .i64 lt) Nr.out).set (b := w.heap.size) (j := 6) (v := .int .i64 cm) Nr.out).set (b := w.heap.size) (j := 7) (v := .bool ok) Nr.out).set (b := w.heap.size) (j := 8) (v := .slice va L.length vc) Nr.out).set (b := w.heap.size) (j := 9) (v := .slice vb zs.length vd) Nr.out).set (b := w.heap.size) (j := 10) (v := .string T) Nr.out).set (b := w.heap.size) (j := 11) (v := .bool la) Nr.out)
    have GL := hid (grown_far (b := w.heap.size) (j := 11) (v := .bool la) (grown_far (b := w.heap.size) (j := 10) (v := .string T) (grown_far (b := w.heap.size) (j := 9) (v := .slice vb zs.length vd) (grown_far (b := w.heap.size) (j := 8) (v := .slice va L.length vc) (grown_far (b := w.heap.size) (j := 7) (v := .bool ok) (grown_far (b := w.heap.size) (j := 6) (v := .int .i64 cm) (grown_far (b := w.heap.size) (j := 5) (v := .int .i64 lt) (grown_far (b := w.heap.size) (j := 4) (v := .int .i64 m3) (grown_far (b := w.heap.size) (j := 3) (v := .int .i64 tm) (grown_far (b := w.heap.size) (j := 2) (v := .int .i64 ds) (grown_far (b := w.heap.size) (j := 1) (v := .int .i64 sr) (grown_far (b := w.heap.size) (j := 0) (v := .int .i64 kd) G10.out Mr.out) Mr.out) Mr.out) Mr.out) Mr.out) Mr.out) Mr.out) Mr.out) Mr.out) Mr.out) Mr.out) Mr.out)
    go_wp2
    refine bodyPost_ret (v := .agg #[.int .i64 kd, .int .i64 sr, .int .i64 ds, .int .i64 tm, .int .i64 m3, .int .i64 lt, .int .i64 cm, .bool ok, .slice va L.length vc, .slice vb zs.length vd, .string T, .bool la]) (by simp [results, Tryz.results34, go_sem, zr0_11, zr1_11, zr2_11, zr3_11, zr4_11, zr5_11, zr6_11, zr7_11, zr8_11, zr9_11, zr10_11, zr11_11]) rfl ?_
    exact ⟨⟨kd, sr, ds, tm, m3, lt, cm, ok, L, zs, T, la⟩, _, _, _, _, rfl, ⟨by show L.length ≤ 5; omega, fun f hf => by have := HM2.out f hf; omega, by show zs.length ≤ 6; omega, by show T.size ≤ 100; omega⟩, row_down LE.out MF.out, row_down LF.out MF.out, KL.out, GL.out⟩
  by_cases q4 : y2 = 4
  · subst q4
    clear q0 q1 q2 q3
    go_wp2
    have KC := K6
    have GC := G6
    have XR := Xr6
    have XB := Xx6
    have HO := OE6
    have HF := OF6
    clear K6 G6 Xr6 Xx6 OE6 OF6 zr0_7 zr1_7 zr2_7 zr3_7 zr4_7 zr5_7 zr6_7 zr7_7 zr8_7 zr9_7 zr10_7 zr11_7 yr0_7 yr1_7 yr2_7 yr3_7 yr4_7 yr5_7 yr6_7 yr7_7 yr8_7 yr9_7 yr10_7 yr11_7 zx0_7 zx1_7 zx2_7 zx3_7 zx4_7 zx5_7 zx6_7 zx7_7 zx8_7 zx9_7 zx10_7 zx11_7 yx0_7 yx1_7 yx2_7 yx3_7 yx4_7 yx5_7 yx6_7 yx7_7 yx8_7 yx9_7 yx10_7 yx11_7
    refine wp_region_from (N := 59) (by kernel_rfl) (by kernel_rfl) rfl (by kernel_rfl) (fun W => CurAt W C ∧ w.grownBy W (some C) ∧ BlockIs W (w.heap.size) 39 [.int .i64 0, .int .i64 0, .int .i64 0, .int .i64 0, .int .i64 0, .int .i64 0, .int .i64 0, .bool false, .slice none 0 0, .slice none 0 0, .string ⟨#[]⟩, .bool false] ∧ W.ownsRow bF 3 1 (.slice vb zs.length vd) zs.length (is zs)) (fun j v u W => match j with | 0 => v = .pointer (some ⟨w1.heap.size, 8, none⟩) | 1 => v = .slice va L.length vc | 2 => v = .pointer (some ⟨C, 0, none⟩) | 3 => ∃ d : EntD, v = .agg #[.int .i64 d.term, .int .i64 d.kind, .string d.data] ∧ d.Tame | 4 => ∃ (g : Nat) (d : EntD), v = .slice (some ⟨g, 0, none⟩) 1 1 ∧ d.Tame ∧ bF ≤ g ∧ BlockIs W g 57 (entEnc d) | 5 => ∃ (va' : Option Addr) (vc' : Nat) (d : EntD), v = .slice va' (L.length + 1) vc' ∧ d.Tame ∧ W.ownsRow (bF) 57 3 (.slice va' (L.length + 1) vc') (L.length + 1) (entCells (L ++ [d])) | 6 => v = .pointer (some ⟨w1.heap.size, 8, none⟩) | 7 => ∃ (va' : Option Addr) (vc' : Nat) (d : EntD), u = .slice va' (L.length + 1) vc' ∧ d.Tame ∧ W.ownsRow (bF) 57 3 (.slice va' (L.length + 1) vc') (L.length + 1) (entCells (L ++ [d])) ∧ BlockIs W (w1.heap.size) 39 [.int .i64 kd, .int .i64 sr, .int .i64 ds, .int .i64 tm, .int .i64 ix, .int .i64 lt, .int .i64 cm, .bool ok, .slice va' (L.length + 1) vc', .slice vb zs.length vd, .string T, .bool la] | _ => True) (fun i => if i = 7 then 5 else i) (fun j i => decide ((j, i) ∈ ([(4, 5)] : List (Nat × Nat)))) (fun i x y => x.heap.size ≤ y.heap.size ∧ ∀ g ty cs, BlockIs x g ty cs → bF ≤ g → (i = 5 → ty ≠ 57) → (i = 7 → ty ≠ 39) → BlockIs y g ty cs) (fun q9 W => match q9 with | 0 => W.ownsRow (bF) 57 3 (.slice va L.length vc) L.length (entCells L) | 1 => BlockIs W (w1.heap.size) 39 [.int .i64 kd, .int .i64 sr, .int .i64 ds, .int .i64 tm, .int .i64 ix, .int .i64 lt, .int .i64 cm, .bool ok, .slice va L.length vc, .slice vb zs.length vd, .string T, .bool la] | _ => True) (fun m k => decide ((m, k) ∈ ([(0, 5), (1, 7)] : List (Nat × Nat)))) ?_ (fun i => if i = 7 then 41 else 0) (by kernel_rfl) (fun i hi => by have : 8 ≤ i := hi; simp; omega) ?_ ⟨KC.out.below (below_drewN (Below.refl _ _) 1), grown_below GC.out (below_drewN (Below.refl _ _) 1), XR.out.on (below_drewN (Below.refl _ _) 1) XR.out.lt, row_belowM HF.out (below_drewN (Below.refl _ _) 1)⟩ (fun q9 => match q9 with | 0 => row_belowM HO.out (below_drewN (Below.refl _ _) 1) | 1 => XB.out.on (below_drewN (Below.refl _ _) 1) XB.out.lt | _ + 2 => trivial) ?_ ?_
    · intro i m x y hen hxy hm
      match m, hen, hm with
      | 0, hen, hm =>
        simp at hen
        exact row_fromM hm fun g cs hg h => hxy.2 _ _ _ h (by have o1 := Nx.out; have o2 := Mx.out; have o3 := Arx.out; have o4 := Fv.out; have o5 := MF.out; have o6 := HBx.out; omega) (fun e => absurd e hen) (fun _ => by decide)
      | 1, hen, hm =>
        simp at hen
        exact hxy.2 _ _ _ hm (by have o1 := Nx.out; have o2 := Mx.out; have o3 := Arx.out; have o4 := Fv.out; have o5 := MF.out; have o6 := HBx.out; omega) (fun _ => by decide) (fun e => absurd e hen)
      | n + 2, _, _ => exact trivial
    · intro i j v u x y hij hdd hwt hxy hg
      match j, hg with
      | 0, hg => exact hg
      | 1, hg => exact hg
      | 2, hg => exact hg
      | 3, hg => exact hg
      | 4, hg =>
        obtain ⟨g, d, e1, hd, hlt, e2⟩ := hg
        simp at hdd
        exact ⟨g, d, e1, hd, hlt, hxy.2 _ _ _ e2 hlt (fun e => absurd e hdd) (fun _ => by decide)⟩
      | 5, hg =>
        obtain ⟨va', vc', d, e1, hd, e2⟩ := hg
        exact ⟨va', vc', d, e1, hd, row_fromM e2 fun g cs hg h => hxy.2 _ _ _ h (by have o1 := Nx.out; have o2 := Mx.out; have o3 := Arx.out; have o4 := Fv.out; have o5 := MF.out; have o6 := HBx.out; omega) (fun e => absurd e hij) (fun _ => by decide)⟩
      | 6, hg => exact hg
      | 7, hg =>
        obtain ⟨va', vc', d, e1, hd, e2, e3⟩ := hg
        have h6 : i ≠ 5 := by rintro rfl; exact Bool.noConfusion (hwt.symm.trans (by kernel_rfl : waitsB _ 7 5 = true))
        exact ⟨va', vc', d, e1, hd, row_fromM e2 fun g cs hg h => hxy.2 _ _ _ h (by have o1 := Nx.out; have o2 := Mx.out; have o3 := Arx.out; have o4 := Fv.out; have o5 := MF.out; have o6 := HBx.out; omega) (fun e => absurd e h6) (fun _ => by decide), hxy.2 _ _ _ e3 (by have o1 := Nx.out; have o2 := Mx.out; have o3 := Arx.out; have o4 := Fv.out; have o5 := MF.out; have o6 := HBx.out; omega) (fun _ => by decide) (fun e => absurd e hij)⟩
      | n + 8, _ => exact trivial
    · refine ⟨?_, ?_, ?_, ?_, ?_, ?_, ?_, ?_, trivial⟩
      · intro A W hC hI hg hb
        have h3 : A.eval (.tmp 3) = .pointer (some ⟨w1.heap.size, 0, none⟩) := hb 3 (base_of (by kernel_rfl))
        exact does_value (v := .pointer (some ⟨w1.heap.size, 8, none⟩)) (w' := W) (by simp only [execOp, h3]; simp [go_sem]) ⟨rfl, hC, Nat.le_refl _, fun _ _ _ h _ _ _ => h⟩
      · intro A W hC hI hg hb
        have h36 : A.eval (.tmp 36) = .pointer (some ⟨w1.heap.size, 8, none⟩) := hg 0 36 (by decide) rfl (by simp [Op.operands]) (by kernel_rfl) rfl
        have hb1 : BlockIs W (w1.heap.size) 39 [.int .i64 kd, .int .i64 sr, .int .i64 ds, .int .i64 tm, .int .i64 ix, .int .i64 lt, .int .i64 cm, .bool ok, .slice va L.length vc, .slice vb zs.length vd, .string T, .bool la] := hI 1 (by kernel_rfl)
        have hc := hb1.cell (j := 8) rfl
        exact does_value (v := .slice va L.length vc) (w' := W) (by simp only [execOp, h36]; simp [go_sem, hc]) ⟨rfl, hC, Nat.le_refl _, fun _ _ _ h _ _ _ => h⟩
      · intro A W hC hI hg hb
        have h0 : A.eval (.tmp 0) = .pointer (some ⟨C, 0, none⟩) := hb 0 (base_of (by kernel_rfl))
        exact does_value (v := .pointer (some ⟨C, 0, none⟩)) (w' := W) (by simp only [execOp, h0]; simp [go_sem]) ⟨rfl, hC, Nat.le_refl _, fun _ _ _ h _ _ _ => h⟩
      · intro A W hC hI hg hb
        have h38 : A.eval (.tmp 38) = .pointer (some ⟨C, 0, none⟩) := hg 2 38 (by decide) rfl (by simp [Op.operands, Call.operands]) (by kernel_rfl) rfl
        simp [go_sem] at h38
        refine does_enter (f := 77) (args := #[.pointer (some ⟨C, 0, none⟩)]) (w' := W) (by simp [go_sem, h38]) ?_
        obtain ⟨hk, hgr, hr, hx⟩ := hC
        refine (l05Any_any C W hk).mono ?_
        rintro e W' ⟨d, rfl, hd, k', q'⟩
        exact ⟨_, rfl, ⟨d, rfl, hd⟩, ⟨k', hgr.trans q', hr.cur q' Nr.out, row_pastM hx q' Fv.out⟩, q'.size, fun g ty cs h hg _ _ => h.cur q' (by have o1 := Nx.out; have o2 := Mx.out; have o3 := Arx.out; have o4 := Fv.out; have o5 := MF.out; have o6 := HBx.out; omega)⟩
      · intro A W hC hI hg hb
        have g3 := hg 3 39 (by decide) rfl (by simp [Op.operands]) (by kernel_rfl) rfl
        obtain ⟨d, h39, hd⟩ := g3
        simp [go_sem] at h39
        have hb1 : BlockIs W (w1.heap.size) 39 [.int .i64 kd, .int .i64 sr, .int .i64 ds, .int .i64 tm, .int .i64 ix, .int .i64 lt, .int .i64 cm, .bool ok, .slice va L.length vc, .slice vb zs.length vd, .string T, .bool la] := hI 1 (by kernel_rfl)
        have ba := below_more (Below.refl W.heap.size W) (.cells #[.int .i64 d.term, .int .i64 d.kind, .string d.data] 57)
        exact does_value (v := .slice (some ⟨W.heap.size, 0, none⟩) 1 1) (w' := W.alloc (.cells #[.int .i64 d.term, .int .i64 d.kind, .string d.data] 57)) (by simp [execOp, go_sem, h39]) ⟨⟨_, d, rfl, hd, by have := hb1.lt; have o1 := Nx.out; have o2 := Mx.out; have o3 := Arx.out; have o4 := Fv.out; have o5 := MF.out; have o6 := HBx.out; omega, heap_alloc_new W _⟩, ⟨hC.1.below ba, grown_below hC.2.1 ba, hC.2.2.1.on ba hC.2.2.1.lt, row_belowM hC.2.2.2 ba⟩, ba.size, fun g ty cs h _ _ _ => h.on ba h.lt⟩
      · intro A W hC hI hg hb
        have h37 : A.eval (.tmp 37) = .slice va L.length vc := hg 1 37 (by decide) rfl (by simp [Op.operands, Call.operands]) (by kernel_rfl) rfl
        have g4 := hg 4 40 (by decide) rfl (by simp [Op.operands, Call.operands]) (by kernel_rfl) rfl
        obtain ⟨g, d, h40, hd, hlt, hbl⟩ := g4
        have hb1 : BlockIs W (w1.heap.size) 39 [.int .i64 kd, .int .i64 sr, .int .i64 ds, .int .i64 tm, .int .i64 ix, .int .i64 lt, .int .i64 cm, .bool ok, .slice va L.length vc, .slice vb zs.length vd, .string T, .bool la] := hI 1 (by kernel_rfl)
        have hrow : W.ownsRow (bF) 57 3 (.slice va L.length vc) L.length (entCells L) := hI 0 (by kernel_rfl)
        obtain ⟨v', W', hr, h2, h3⟩ := append_one (by omega) (by have := hb1.lt; have o1 := Nx.out; have o2 := Mx.out; have o3 := Arx.out; have o4 := Fv.out; have o5 := MF.out; have o6 := HBx.out; omega) hrow hbl
        obtain ⟨va', vc', rfl⟩ := row_shape h2
        rw [← entCells_snocM] at h2
        have hown : ∀ j, (Value.slice va L.length vc).ownBlock = some j → bF ≤ j := fun j hj => (row_block hrow hj).elim fun _ h => h.2
        have hoty : ∀ j ty cs, BlockIs W j ty cs → ty ≠ 57 → some j ≠ (Value.slice va L.length vc).ownBlock := fun j ty cs hp hne e => by
          obtain ⟨cs', hb', _⟩ := row_block hrow e.symm
          exact hne (block_one hp hb').1
        have hkeep : ∀ j ty cs, BlockIs W j ty cs → ty ≠ 57 → BlockIs W' j ty cs := fun j ty cs hp hne => by
          unfold BlockIs
          rw [h3.block j hp.lt (hoty j ty cs hp hne)]
          exact hp
        refine does_value (v := .slice va' (L.length + 1) vc') (w' := W') (by simp only [execOp, resolve, invoke, builtin, Sem.run_bind, Sem.run_pure, Result.andThen_ok, List.map_toArray, List.map_cons, List.map_nil, h37, h40, hr]) ⟨⟨va', vc', d, rfl, hd, h2⟩, ⟨hC.1.kept h3 (fun j hj => by have := hown j hj; have o1 := Nx.out; have o2 := Mx.out; have o3 := Arx.out; have o4 := Fv.out; have o5 := MF.out; have o6 := HBx.out; omega), grown_rowN hC.2.1 h3 (fun j hj => by have := hown j hj; have o1 := Nx.out; have o2 := Mx.out; have o3 := Arx.out; have o4 := Fv.out; have o5 := MF.out; have o6 := HBx.out; omega), hkeep _ _ _ hC.2.2.1 (by decide), row_fromM hC.2.2.2 fun g cs _ q => hkeep _ _ _ q (by decide)⟩, h3.size, fun p ty cs hp _ hne _ => hkeep _ _ _ hp (hne rfl)⟩
      · intro A W hC hI hg hb
        have h3 : A.eval (.tmp 3) = .pointer (some ⟨w1.heap.size, 0, none⟩) := hb 3 (base_of (by kernel_rfl))
        exact does_value (v := .pointer (some ⟨w1.heap.size, 8, none⟩)) (w' := W) (by simp only [execOp, h3]; simp [go_sem]) ⟨rfl, hC, Nat.le_refl _, fun _ _ _ h _ _ _ => h⟩
      · intro A W hC hI hg hb
        have h42 : A.eval (.tmp 42) = .pointer (some ⟨w1.heap.size, 8, none⟩) := hg 6 42 (by decide) rfl (by simp [Op.operands]) (by kernel_rfl) rfl
        have g5 := hg 5 41 (by decide) rfl (by simp [Op.operands]) (by kernel_rfl) rfl
        obtain ⟨va', vc', d, h41, hd, hrow⟩ := g5
        have hb1 : BlockIs W (w1.heap.size) 39 [.int .i64 kd, .int .i64 sr, .int .i64 ds, .int .i64 tm, .int .i64 ix, .int .i64 lt, .int .i64 cm, .bool ok, .slice va L.length vc, .slice vb zs.length vd, .string T, .bool la] := hI 1 (by kernel_rfl)
        have c2 := hb1.cell (j := 8) rfl
        have f2 := hb1.thaw 8
        have far : ∀ p ty cs, BlockIs W p ty cs → ty ≠ 39 → BlockIs (W.setCell ⟨w1.heap.size, 8, none⟩ (.slice va' (L.length + 1) vc')) p ty cs := fun p ty cs hp hne => hp.far (by intro e; subst e; exact hne (block_one hp hb1).1) _
        exact does_skip (w' := W.setCell ⟨w1.heap.size, 8, none⟩ (.slice va' (L.length + 1) vc')) (by simp only [execOp, h42, h41]; simp [go_sem, c2, f2]) ⟨⟨va', vc', d, h41, hd, row_fromM hrow fun g cs _ h => far g _ _ h (by decide), hb1.set 8 _⟩, ⟨hC.1.set Nx.out, grown_far hC.2.1 Mx.out, hC.2.2.1.far (by have o1 := Nx.out; have o2 := Mx.out; have o3 := Arx.out; have o4 := Fv.out; have o5 := MF.out; have o6 := HBx.out; omega) _, row_kindM hC.2.2.2 hb1 (by decide)⟩, by simp [World.size_setCell], fun p ty cs hp _ _ hne => far p ty cs hp (hne rfl)⟩
    · intro vs wE hC hI hg
      obtain ⟨va', vc', d, hu, hd, ho, hb⟩ := hg 7 (by decide) (fun k => by simp)
      change vs 5 = _ at hu
      clear hg hI
      obtain ⟨hk, hgr, hr, hx⟩ := hC
      change Exit.inBlock 0 (Exit.then _ _) _ (laidBy _ vs _ 8 _) wE
      simp only [laidBy, if_true, dstAt, List.getElem?_toArray, List.getElem?_cons_succ, List.getElem?_cons_zero, Option.bind_some]
      simp only [Act.put, List.setIfInBounds_toArray, List.set_cons_succ, List.set_cons_zero]
      clear hu KC GC XR XB HO HF
      have KC := hid hk
      have GC := hid hgr
      have XR := hid hr
      have XB := hid hb
      have HO := hid ho
      have HF := hid hx
      clear hx
      clear hk hgr hr hb ho
      have HL : (L ++ [d]).length = L.length + 1 := by simp
      rw [← HL] at XB HO
      have HTM : Hid (∀ f ∈ L ++ [d], f.data.size ≤ 200) := fun f hf => (List.mem_append.1 hf).elim (fun q => by have := HM2.out f q; omega) fun q => by
        rw [List.mem_singleton.1 q]
        exact hd.2.2
      obtain ⟨M, hM⟩ : ∃ M, L ++ [d] = M := ⟨_, rfl⟩
      rw [hM] at XB HO HL HTM
      have HLM : Hid (M.length = L.length + 1) := (show _ = _ from HL)
      clear hM HL hd
      have zr0 := XR.out.cell (j := 0) rfl
      have zr1 := XR.out.cell (j := 1) rfl
      have zr2 := XR.out.cell (j := 2) rfl
      have zr3 := XR.out.cell (j := 3) rfl
      have zr4 := XR.out.cell (j := 4) rfl
      have zr5 := XR.out.cell (j := 5) rfl
      have zr6 := XR.out.cell (j := 6) rfl
      have zr7 := XR.out.cell (j := 7) rfl
      have zr8 := XR.out.cell (j := 8) rfl
      have zr9 := XR.out.cell (j := 9) rfl
      have zr10 := XR.out.cell (j := 10) rfl
      have zr11 := XR.out.cell (j := 11) rfl
      have yr0 := XR.out.thaw 0
      have yr1 := XR.out.thaw 1
      have yr2 := XR.out.thaw 2
      have yr3 := XR.out.thaw 3
      have yr4 := XR.out.thaw 4
      have yr5 := XR.out.thaw 5
      have yr6 := XR.out.thaw 6
      have yr7 := XR.out.thaw 7
      have yr8 := XR.out.thaw 8
      have yr9 := XR.out.thaw 9
      have yr10 := XR.out.thaw 10
      have yr11 := XR.out.thaw 11
      have zl0 := XB.out.cell (j := 0) rfl
      have zl1 := XB.out.cell (j := 1) rfl
      have zl2 := XB.out.cell (j := 2) rfl
      have zl3 := XB.out.cell (j := 3) rfl
      have zl4 := XB.out.cell (j := 4) rfl
      have zl5 := XB.out.cell (j := 5) rfl
      have zl6 := XB.out.cell (j := 6) rfl
      have zl7 := XB.out.cell (j := 7) rfl
      have zl8 := XB.out.cell (j := 8) rfl
      have zl9 := XB.out.cell (j := 9) rfl
      have zl10 := XB.out.cell (j := 10) rfl
      have zl11 := XB.out.cell (j := 11) rfl
      have KL := hid ((((((((((((KC.out.set (b := w.heap.size) (j := 0) (v := .int .i64 kd) Nr.out).set (b := w.heap.size) (j := 1) (v := .int .i64 sr) Nr.out).set (b := w.heap.size) (j := 2) (v := .int .i64 ds) Nr.out).set (b := w.heap.size) (j := 3) (v := .int .i64 tm) Nr.out).set (b := w.heap.size) (j := 4) (v := .int .i64 ix) Nr.out).set (b := w.heap.size) (j := 5) (v := .int .i64 lt) Nr.out).set (b := w.heap.size) (j := 6) (v := .int .i64 cm) Nr.out).set (b := w.heap.size) (j := 7) (v := .bool ok) Nr.out).set (b := w.heap.size) (j := 8) (v := .slice va' M.length vc') Nr.out).set (b := w.heap.size) (j := 9) (v := .slice vb zs.length vd) Nr.out).set (b := w.heap.size) (j := 10) (v := .string T) Nr.out).set (b := w.heap.size) (j := 11) (v := .bool la) Nr.out)
      have GL := hid (grown_far (b := w.heap.size) (j := 11) (v := .bool la) (grown_far (b := w.heap.size) (j := 10) (v := .string T) (grown_far (b := w.heap.size) (j := 9) (v := .slice vb zs.length vd) (grown_far (b := w.heap.size) (j := 8) (v := .slice va' M.length vc') (grown_far (b := w.heap.size) (j := 7) (v := .bool ok) (grown_far (b := w.heap.size) (j := 6) (v := .int .i64 cm) (grown_far (b := w.heap.size) (j := 5) (v := .int .i64 lt) (grown_far (b := w.heap.size) (j := 4) (v := .int .i64 ix) (grown_far (b := w.heap.size) (j := 3) (v := .int .i64 tm) (grown_far (b := w.heap.size) (j := 2) (v := .int .i64 ds) (grown_far (b := w.heap.size) (j := 1) (v := .int .i64 sr) (grown_far (b := w.heap.size) (j := 0) (v := .int .i64 kd) GC.out Mr.out) Mr.out) Mr.out) Mr.out) Mr.out) Mr.out) Mr.out) Mr.out) Mr.out) Mr.out) Mr.out) Mr.out)
      have LE := hid (row_kindM (j := 11) (v := .bool la) (row_kindM (j := 10) (v := .string T) (row_kindM (j := 9) (v := .slice vb zs.length vd) (row_kindM (j := 8) (v := .slice va' M.length vc') (row_kindM (j := 7) (v := .bool ok) (row_kindM (j := 6) (v := .int .i64 cm) (row_kindM (j := 5) (v := .int .i64 lt) (row_kindM (j := 4) (v := .int .i64 ix) (row_kindM (j := 3) (v := .int .i64 tm) (row_kindM (j := 2) (v := .int .i64 ds) (row_kindM (j := 1) (v := .int .i64 sr) (row_kindM (j := 0) (v := .int .i64 kd) HO.out XR.out (by decide)) (XR.out.set 0 (.int .i64 kd)) (by decide)) ((XR.out.set 0 (.int .i64 kd)).set 1 (.int .i64 sr)) (by decide)) (((XR.out.set 0 (.int .i64 kd)).set 1 (.int .i64 sr)).set 2 (.int .i64 ds)) (by decide)) ((((XR.out.set 0 (.int .i64 kd)).set 1 (.int .i64 sr)).set 2 (.int .i64 ds)).set 3 (.int .i64 tm)) (by decide)) (((((XR.out.set 0 (.int .i64 kd)).set 1 (.int .i64 sr)).set 2 (.int .i64 ds)).set 3 (.int .i64 tm)).set 4 (.int .i64 ix)) (by decide)) ((((((XR.out.set 0 (.int .i64 kd)).set 1 (.int .i64 sr)).set 2 (.int .i64 ds)).set 3 (.int .i64 tm)).set 4 (.int .i64 ix)).set 5 (.int .i64 lt)) (by decide)) (((((((XR.out.set 0 (.int .i64 kd)).set 1 (.int .i64 sr)).set 2 (.int .i64 ds)).set 3 (.int .i64 tm)).set 4 (.int .i64 ix)).set 5 (.int .i64 lt)).set 6 (.int .i64 cm)) (by decide)) ((((((((XR.out.set 0 (.int .i64 kd)).set 1 (.int .i64 sr)).set 2 (.int .i64 ds)).set 3 (.int .i64 tm)).set 4 (.int .i64 ix)).set 5 (.int .i64 lt)).set 6 (.int .i64 cm)).set 7 (.bool ok)) (by decide)) (((((((((XR.out.set 0 (.int .i64 kd)).set 1 (.int .i64 sr)).set 2 (.int .i64 ds)).set 3 (.int .i64 tm)).set 4 (.int .i64 ix)).set 5 (.int .i64 lt)).set 6 (.int .i64 cm)).set 7 (.bool ok)).set 8 (.slice va' M.length vc')) (by decide)) ((((((((((XR.out.set 0 (.int .i64 kd)).set 1 (.int .i64 sr)).set 2 (.int .i64 ds)).set 3 (.int .i64 tm)).set 4 (.int .i64 ix)).set 5 (.int .i64 lt)).set 6 (.int .i64 cm)).set 7 (.bool ok)).set 8 (.slice va' M.length vc')).set 9 (.slice vb zs.length vd)) (by decide)) (((((((((((XR.out.set 0 (.int .i64 kd)).set 1 (.int .i64 sr)).set 2 (.int .i64 ds)).set 3 (.int .i64 tm)).set 4 (.int .i64 ix)).set 5 (.int .i64 lt)).set 6 (.int .i64 cm)).set 7 (.bool ok)).set 8 (.slice va' M.length vc')).set 9 (.slice vb zs.length vd)).set 10 (.string T)) (by decide))
      have LF := hid (row_kindM (j := 11) (v := .bool la) (row_kindM (j := 10) (v := .string T) (row_kindM (j := 9) (v := .slice vb zs.length vd) (row_kindM (j := 8) (v := .slice va' M.length vc') (row_kindM (j := 7) (v := .bool ok) (row_kindM (j := 6) (v := .int .i64 cm) (row_kindM (j := 5) (v := .int .i64 lt) (row_kindM (j := 4) (v := .int .i64 ix) (row_kindM (j := 3) (v := .int .i64 tm) (row_kindM (j := 2) (v := .int .i64 ds) (row_kindM (j := 1) (v := .int .i64 sr) (row_kindM (j := 0) (v := .int .i64 kd) HF.out XR.out (by decide)) (XR.out.set 0 (.int .i64 kd)) (by decide)) ((XR.out.set 0 (.int .i64 kd)).set 1 (.int .i64 sr)) (by decide)) (((XR.out.set 0 (.int .i64 kd)).set 1 (.int .i64 sr)).set 2 (.int .i64 ds)) (by decide)) ((((XR.out.set 0 (.int .i64 kd)).set 1 (.int .i64 sr)).set 2 (.int .i64 ds)).set 3 (.int .i64 tm)) (by decide)) (((((XR.out.set 0 (.int .i64 kd)).set 1 (.int .i64 sr)).set 2 (.int .i64 ds)).set 3 (.int .i64 tm)).set 4 (.int .i64 ix)) (by decide)) ((((((XR.out.set 0 (.int .i64 kd)).set 1 (.int .i64 sr)).set 2 (.int .i64 ds)).set 3 (.int .i64 tm)).set 4 (.int .i64 ix)).set 5 (.int .i64 lt)) (by decide)) (((((((XR.out.set 0 (.int .i64 kd)).set 1 (.int .i64 sr)).set 2 (.int .i64 ds)).set 3 (.int .i64 tm)).set 4 (.int .i64 ix)).set 5 (.int .i64 lt)).set 6 (.int .i64 cm)) (by decide)) ((((((((XR.out.set 0 (.int .i64 kd)).set 1 (.int .i64 sr)).set 2 (.int .i64 ds)).set 3 (.int .i64 tm)).set 4 (.int .i64 ix)).set 5 (.int .i64 lt)).set 6 (.int .i64 cm)).set 7 (.bool ok)) (by decide)) (((((((((XR.out.set 0 (.int .i64 kd)).set 1 (.int .i64 sr)).set 2 (.int .i64 ds)).set 3 (.int .i64 tm)).set 4 (.int .i64 ix)).set 5 (.int .i64 lt)).set 6 (.int .i64 cm)).set 7 (.bool ok)).set 8 (.slice va' M.length vc')) (by decide)) ((((((((((XR.out.set 0 (.int .i64 kd)).set 1 (.int .i64 sr)).set 2 (.int .i64 ds)).set 3 (.int .i64 tm)).set 4 (.int .i64 ix)).set 5 (.int .i64 lt)).set 6 (.int .i64 cm)).set 7 (.bool ok)).set 8 (.slice va' M.length vc')).set 9 (.slice vb zs.length vd)) (by decide)) (((((((((((XR.out.set 0 (.int .i64 kd)).set 1 (.int .i64 sr)).set 2 (.int .i64 ds)).set 3 (.int .i64 tm)).set 4 (.int .i64 ix)).set 5 (.int .i64 lt)).set 6 (.int .i64 cm)).set 7 (.bool ok)).set 8 (.slice va' M.length vc')).set 9 (.slice vb zs.length vd)).set 10 (.string T)) (by decide))
      clear KC GC XR XB HO HF
      go_wp2
      refine bodyPost_ret (v := .agg #[.int .i64 kd, .int .i64 sr, .int .i64 ds, .int .i64 tm, .int .i64 ix, .int .i64 lt, .int .i64 cm, .bool ok, .slice va' M.length vc', .slice vb zs.length vd, .string T, .bool la]) (by simp [results, Tryz.results34, go_sem, zr0, zr1, zr2, zr3, zr4, zr5, zr6, zr7, zr8, zr9, zr10, zr11]) rfl ?_
      exact ⟨⟨kd, sr, ds, tm, ix, lt, cm, ok, M, zs, T, la⟩, _, _, _, _, rfl, ⟨by have := HLM.out; show M.length ≤ 5; omega, HTM.out, by show zs.length ≤ 6; omega, by show T.size ≤ 100; omega⟩, row_down LE.out MF.out, row_down LF.out MF.out, KL.out, GL.out⟩
  by_cases q5 : y2 = 5
  · subst q5
    clear q0 q1 q2 q3 q4
    go_wp2_with fail
    refine Calls.mono (l01Below_any C 2 (by omega) (by omega) _ K6.out) ?_
    rintro e w3 ⟨y3, rfl, lo3, hi3, k3, q3⟩
    have K8 := hid (k3)
    have G8 := hid (G6.out.trans q3)
    have Xr8 := hid (Xr6.out.cur q3 Nr.out)
    have Xx8 := hid (Xx6.out.cur q3 Nx.out)
    have OE8 := hid (row_pastM OE6.out q3 Fv.out)
    have OF8 := hid (row_pastM OF6.out q3 Fv.out)
    clear k3 q3 K6 G6 zr0_7 zr1_7 zr2_7 zr3_7 zr4_7 zr5_7 zr6_7 zr7_7 zr8_7 zr9_7 zr10_7 zr11_7 yr0_7 yr1_7 yr2_7 yr3_7 yr4_7 yr5_7 yr6_7 yr7_7 yr8_7 yr9_7 yr10_7 yr11_7 zx0_7 zx1_7 zx2_7 zx3_7 zx4_7 zx5_7 zx6_7 zx7_7 zx8_7 zx9_7 zx10_7 zx11_7 yx0_7 yx1_7 yx2_7 yx3_7 yx4_7 yx5_7 yx6_7 yx7_7 yx8_7 yx9_7 yx10_7 yx11_7 Xr6 Xx6 OE6 OF6
    have zr0_9 := Xr8.out.cell (j := 0) rfl
    have zr1_9 := Xr8.out.cell (j := 1) rfl
    have zr2_9 := Xr8.out.cell (j := 2) rfl
    have zr3_9 := Xr8.out.cell (j := 3) rfl
    have zr4_9 := Xr8.out.cell (j := 4) rfl
    have zr5_9 := Xr8.out.cell (j := 5) rfl
    have zr6_9 := Xr8.out.cell (j := 6) rfl
    have zr7_9 := Xr8.out.cell (j := 7) rfl
    have zr8_9 := Xr8.out.cell (j := 8) rfl
    have zr9_9 := Xr8.out.cell (j := 9) rfl
    have zr10_9 := Xr8.out.cell (j := 10) rfl
    have zr11_9 := Xr8.out.cell (j := 11) rfl
    have yr0_9 := Xr8.out.thaw 0
    have yr1_9 := Xr8.out.thaw 1
    have yr2_9 := Xr8.out.thaw 2
    have yr3_9 := Xr8.out.thaw 3
    have yr4_9 := Xr8.out.thaw 4
    have yr5_9 := Xr8.out.thaw 5
    have yr6_9 := Xr8.out.thaw 6
    have yr7_9 := Xr8.out.thaw 7
    have yr8_9 := Xr8.out.thaw 8
    have yr9_9 := Xr8.out.thaw 9
    have yr10_9 := Xr8.out.thaw 10
    have yr11_9 := Xr8.out.thaw 11
    have zx0_9 := Xx8.out.cell (j := 0) rfl
    have zx1_9 := Xx8.out.cell (j := 1) rfl
    have zx2_9 := Xx8.out.cell (j := 2) rfl
    have zx3_9 := Xx8.out.cell (j := 3) rfl
    have zx4_9 := Xx8.out.cell (j := 4) rfl
    have zx5_9 := Xx8.out.cell (j := 5) rfl
    have zx6_9 := Xx8.out.cell (j := 6) rfl
    have zx7_9 := Xx8.out.cell (j := 7) rfl
    have zx8_9 := Xx8.out.cell (j := 8) rfl
    have zx9_9 := Xx8.out.cell (j := 9) rfl
    have zx10_9 := Xx8.out.cell (j := 10) rfl
    have zx11_9 := Xx8.out.cell (j := 11) rfl
    have yx0_9 := Xx8.out.thaw 0
    have yx1_9 := Xx8.out.thaw 1
    have yx2_9 := Xx8.out.thaw 2
    have yx3_9 := Xx8.out.thaw 3
    have yx4_9 := Xx8.out.thaw 4
    have yx5_9 := Xx8.out.thaw 5
    have yx6_9 := Xx8.out.thaw 6
    have yx7_9 := Xx8.out.thaw 7
    have yx8_9 := Xx8.out.thaw 8
    have yx9_9 := Xx8.out.thaw 9
    have yx10_9 := Xx8.out.thaw 10
    have yx11_9 := Xx8.out.thaw 11
    obtain ⟨n9, hn9⟩ : ∃ n : Nat, 60 + y3 = n := ⟨(60 + y3).toNat, by omega⟩
    have hn90 : n9 ≤ 61 := by omega
    go_wp2_with fail
    refine Calls.mono (l01Long_any n9 (by omega) 65 (by decide) (by decide) _) ?_
    rintro e w4 ⟨s4, rfl, hs4, b4⟩
    have K10 := hid (K8.out.below b4)
    have G10 := hid (grown_below G8.out b4)
    have Xr10 := hid (Xr8.out.on b4 Xr8.out.lt)
    have Xx10 := hid (Xx8.out.on b4 Xx8.out.lt)
    have OE10 := hid (row_belowM OE8.out b4)
    have OF10 := hid (row_belowM OF8.out b4)
    clear b4 K8 G8 zr0_9 zr1_9 zr2_9 zr3_9 zr4_9 zr5_9 zr6_9 zr7_9 zr8_9 zr9_9 zr10_9 zr11_9 yr0_9 yr1_9 yr2_9 yr3_9 yr4_9 yr5_9 yr6_9 yr7_9 yr8_9 yr9_9 yr10_9 yr11_9 zx0_9 zx1_9 zx2_9 zx3_9 zx4_9 zx5_9 zx6_9 zx7_9 zx8_9 zx9_9 zx10_9 zx11_9 yx0_9 yx1_9 yx2_9 yx3_9 yx4_9 yx5_9 yx6_9 yx7_9 yx8_9 yx9_9 yx10_9 yx11_9 Xr8 Xx8 OE8 OF8
    have zr0_11 := Xr10.out.cell (j := 0) rfl
    have zr1_11 := Xr10.out.cell (j := 1) rfl
    have zr2_11 := Xr10.out.cell (j := 2) rfl
    have zr3_11 := Xr10.out.cell (j := 3) rfl
    have zr4_11 := Xr10.out.cell (j := 4) rfl
    have zr5_11 := Xr10.out.cell (j := 5) rfl
    have zr6_11 := Xr10.out.cell (j := 6) rfl
    have zr7_11 := Xr10.out.cell (j := 7) rfl
    have zr8_11 := Xr10.out.cell (j := 8) rfl
    have zr9_11 := Xr10.out.cell (j := 9) rfl
    have zr10_11 := Xr10.out.cell (j := 10) rfl
    have zr11_11 := Xr10.out.cell (j := 11) rfl
    have yr0_11 := Xr10.out.thaw 0
    have yr1_11 := Xr10.out.thaw 1
    have yr2_11 := Xr10.out.thaw 2
    have yr3_11 := Xr10.out.thaw 3
    have yr4_11 := Xr10.out.thaw 4
    have yr5_11 := Xr10.out.thaw 5
    have yr6_11 := Xr10.out.thaw 6
    have yr7_11 := Xr10.out.thaw 7
    have yr8_11 := Xr10.out.thaw 8
    have yr9_11 := Xr10.out.thaw 9
    have yr10_11 := Xr10.out.thaw 10
    have yr11_11 := Xr10.out.thaw 11
    have zx0_11 := Xx10.out.cell (j := 0) rfl
    have zx1_11 := Xx10.out.cell (j := 1) rfl
    have zx2_11 := Xx10.out.cell (j := 2) rfl
    have zx3_11 := Xx10.out.cell (j := 3) rfl
    have zx4_11 := Xx10.out.cell (j := 4) rfl
    have zx5_11 := Xx10.out.cell (j := 5) rfl
    have zx6_11 := Xx10.out.cell (j := 6) rfl
    have zx7_11 := Xx10.out.cell (j := 7) rfl
    have zx8_11 := Xx10.out.cell (j := 8) rfl
    have zx9_11 := Xx10.out.cell (j := 9) rfl
    have zx10_11 := Xx10.out.cell (j := 10) rfl
    have zx11_11 := Xx10.out.cell (j := 11) rfl
    have yx0_11 := Xx10.out.thaw 0
    have yx1_11 := Xx10.out.thaw 1
    have yx2_11 := Xx10.out.thaw 2
    have yx3_11 := Xx10.out.thaw 3
    have yx4_11 := Xx10.out.thaw 4
    have yx5_11 := Xx10.out.thaw 5
    have yx6_11 := Xx10.out.thaw 6
    have yx7_11 := Xx10.out.thaw 7
    have yx8_11 := Xx10.out.thaw 8
    have yx9_11 := Xx10.out.thaw 9
    have yx10_11 := Xx10.out.thaw 10
    have yx11_11 := Xx10.out.thaw 11
    have OE12s := hid (row_kindM (j := 10) (v := (.string s4)) OE10.out Xx10.out (by decide))
    have OF12s := hid (row_kindM (j := 10) (v := (.string s4)) OF10.out Xx10.out (by decide))
    have K12 := hid (K10.out.set (b := w1.heap.size) (j := 10) (v := (.string s4)) Nx.out)
    have G12 := hid (grown_far (b := w1.heap.size) (j := 10) (v := (.string s4)) G10.out Mx.out)
    have Xr12 := hid (Xr10.out.far (b := w1.heap.size) (j := 10) (by have := Arx.out; omega) (.string s4))
    have Xx12 : Hid (BlockIs (w4.setCell ⟨w1.heap.size, 10, none⟩ (.string s4)) (w1.heap.size) 39 [.int .i64 kd, .int .i64 sr, .int .i64 ds, .int .i64 tm, .int .i64 ix, .int .i64 lt, .int .i64 cm, .bool ok, .slice va L.length vc, .slice vb zs.length vd, .string s4, .bool la]) := Xx10.out.set 10 (.string s4)
    clear K10 G10 Xr10 Xx10
    have zr0_13 := Xr12.out.cell (j := 0) rfl
    have zr1_13 := Xr12.out.cell (j := 1) rfl
    have zr2_13 := Xr12.out.cell (j := 2) rfl
    have zr3_13 := Xr12.out.cell (j := 3) rfl
    have zr4_13 := Xr12.out.cell (j := 4) rfl
    have zr5_13 := Xr12.out.cell (j := 5) rfl
    have zr6_13 := Xr12.out.cell (j := 6) rfl
    have zr7_13 := Xr12.out.cell (j := 7) rfl
    have zr8_13 := Xr12.out.cell (j := 8) rfl
    have zr9_13 := Xr12.out.cell (j := 9) rfl
    have zr10_13 := Xr12.out.cell (j := 10) rfl
    have zr11_13 := Xr12.out.cell (j := 11) rfl
    have yr0_13 := Xr12.out.thaw 0
    have yr1_13 := Xr12.out.thaw 1
    have yr2_13 := Xr12.out.thaw 2
    have yr3_13 := Xr12.out.thaw 3
    have yr4_13 := Xr12.out.thaw 4
    have yr5_13 := Xr12.out.thaw 5
    have yr6_13 := Xr12.out.thaw 6
    have yr7_13 := Xr12.out.thaw 7
    have yr8_13 := Xr12.out.thaw 8
    have yr9_13 := Xr12.out.thaw 9
    have yr10_13 := Xr12.out.thaw 10
    have yr11_13 := Xr12.out.thaw 11
    have zx0_13 := Xx12.out.cell (j := 0) rfl
    have zx1_13 := Xx12.out.cell (j := 1) rfl
    have zx2_13 := Xx12.out.cell (j := 2) rfl
    have zx3_13 := Xx12.out.cell (j := 3) rfl
    have zx4_13 := Xx12.out.cell (j := 4) rfl
    have zx5_13 := Xx12.out.cell (j := 5) rfl
    have zx6_13 := Xx12.out.cell (j := 6) rfl
    have zx7_13 := Xx12.out.cell (j := 7) rfl
    have zx8_13 := Xx12.out.cell (j := 8) rfl
    have zx9_13 := Xx12.out.cell (j := 9) rfl
    have zx10_13 := Xx12.out.cell (j := 10) rfl
    have zx11_13 := Xx12.out.cell (j := 11) rfl
    have yx0_13 := Xx12.out.thaw 0
    have yx1_13 := Xx12.out.thaw 1
    have yx2_13 := Xx12.out.thaw 2
    have yx3_13 := Xx12.out.thaw 3
    have yx4_13 := Xx12.out.thaw 4
    have yx5_13 := Xx12.out.thaw 5
    have yx6_13 := Xx12.out.thaw 6
    have yx7_13 := Xx12.out.thaw 7
    have yx8_13 := Xx12.out.thaw 8
    have yx9_13 := Xx12.out.thaw 9
    have yx10_13 := Xx12.out.thaw 10
    have yx11_13 := Xx12.out.thaw 11
    clear OE10 OF10
    have LE := hid (row_kindM (j := 11) (v := .bool la) (row_kindM (j := 10) (v := .string s4) (row_kindM (j := 9) (v := .slice vb zs.length vd) (row_kindM (j := 8) (v := .slice va L.length vc) (row_kindM (j := 7) (v := .bool ok) (row_kindM (j := 6) (v := .int .i64 cm) (row_kindM (j := 5) (v := .int .i64 lt) (row_kindM (j := 4) (v := .int .i64 ix) (row_kindM (j := 3) (v := .int .i64 tm) (row_kindM (j := 2) (v := .int .i64 ds) (row_kindM (j := 1) (v := .int .i64 sr) (row_kindM (j := 0) (v := .int .i64 kd) OE12s.out Xr12.out (by decide)) (Xr12.out.set 0 (.int .i64 kd)) (by decide)) ((Xr12.out.set 0 (.int .i64 kd)).set 1 (.int .i64 sr)) (by decide)) (((Xr12.out.set 0 (.int .i64 kd)).set 1 (.int .i64 sr)).set 2 (.int .i64 ds)) (by decide)) ((((Xr12.out.set 0 (.int .i64 kd)).set 1 (.int .i64 sr)).set 2 (.int .i64 ds)).set 3 (.int .i64 tm)) (by decide)) (((((Xr12.out.set 0 (.int .i64 kd)).set 1 (.int .i64 sr)).set 2 (.int .i64 ds)).set 3 (.int .i64 tm)).set 4 (.int .i64 ix)) (by decide)) ((((((Xr12.out.set 0 (.int .i64 kd)).set 1 (.int .i64 sr)).set 2 (.int .i64 ds)).set 3 (.int .i64 tm)).set 4 (.int .i64 ix)).set 5 (.int .i64 lt)) (by decide)) (((((((Xr12.out.set 0 (.int .i64 kd)).set 1 (.int .i64 sr)).set 2 (.int .i64 ds)).set 3 (.int .i64 tm)).set 4 (.int .i64 ix)).set 5 (.int .i64 lt)).set 6 (.int .i64 cm)) (by decide)) ((((((((Xr12.out.set 0 (.int .i64 kd)).set 1 (.int .i64 sr)).set 2 (.int .i64 ds)).set 3 (.int .i64 tm)).set 4 (.int .i64 ix)).set 5 (.int .i64 lt)).set 6 (.int .i64 cm)).set 7 (.bool ok)) (by decide)) (((((((((Xr12.out.set 0 (.int .i64 kd)).set 1 (.int .i64 sr)).set 2 (.int .i64 ds)).set 3 (.int .i64 tm)).set 4 (.int .i64 ix)).set 5 (.int .i64 lt)).set 6 (.int .i64 cm)).set 7 (.bool ok)).set 8 (.slice va L.length vc)) (by decide)) ((((((((((Xr12.out.set 0 (.int .i64 kd)).set 1 (.int .i64 sr)).set 2 (.int .i64 ds)).set 3 (.int .i64 tm)).set 4 (.int .i64 ix)).set 5 (.int .i64 lt)).set 6 (.int .i64 cm)).set 7 (.bool ok)).set 8 (.slice va L.length vc)).set 9 (.slice vb zs.length vd)) (by decide)) (((((((((((Xr12.out.set 0 (.int .i64 kd)).set 1 (.int .i64 sr)).set 2 (.int .i64 ds)).set 3 (.int .i64 tm)).set 4 (.int .i64 ix)).set 5 (.int .i64 lt)).set 6 (.int .i64 cm)).set 7 (.bool ok)).set 8 (.slice va L.length vc)).set 9 (.slice vb zs.length vd)).set 10 (.string s4)) (by decide))
    have LF := hid (row_kindM (j := 11) (v := .bool la) (row_kindM (j := 10) (v := .string s4) (row_kindM (j := 9) (v := .slice vb zs.length vd) (row_kindM (j := 8) (v := .slice va L.length vc) (row_kindM (j := 7) (v := .bool ok) (row_kindM (j := 6) (v := .int .i64 cm) (row_kindM (j := 5) (v := .int .i64 lt) (row_kindM (j := 4) (v := .int .i64 ix) (row_kindM (j := 3) (v := .int .i64 tm) (row_kindM (j := 2) (v := .int .i64 ds) (row_kindM (j := 1) (v := .int .i64 sr) (row_kindM (j := 0) (v := .int .i64 kd) OF12s.out Xr12.out (by decide)) (Xr12.out.set 0 (.int .i64 kd)) (by decide)) ((Xr12.out.set 0 (.int .i64 kd)).set 1 (.int .i64 sr)) (by decide)) (((Xr12.out.set 0 (.int .i64 kd)).set 1 (.int .i64 sr)).set 2 (.int .i64 ds)) (by decide)) ((((Xr12.out.set 0 (.int .i64 kd)).set 1 (.int .i64 sr)).set 2 (.int .i64 ds)).set 3 (.int .i64 tm)) (by decide)) (((((Xr12.out.set 0 (.int .i64 kd)).set 1 (.int .i64 sr)).set 2 (.int .i64 ds)).set 3 (.int .i64 tm)).set 4 (.int .i64 ix)) (by decide)) ((((((Xr12.out.set 0 (.int .i64 kd)).set 1 (.int .i64 sr)).set 2 (.int .i64 ds)).set 3 (.int .i64 tm)).set 4 (.int .i64 ix)).set 5 (.int .i64 lt)) (by decide)) (((((((Xr12.out.set 0 (.int .i64 kd)).set 1 (.int .i64 sr)).set 2 (.int .i64 ds)).set 3 (.int .i64 tm)).set 4 (.int .i64 ix)).set 5 (.int .i64 lt)).set 6 (.int .i64 cm)) (by decide)) ((((((((Xr12.out.set 0 (.int .i64 kd)).set 1 (.int .i64 sr)).set 2 (.int .i64 ds)).set 3 (.int .i64 tm)).set 4 (.int .i64 ix)).set 5 (.int .i64 lt)).set 6 (.int .i64 cm)).set 7 (.bool ok)) (by decide)) (((((((((Xr12.out.set 0 (.int .i64 kd)).set 1 (.int .i64 sr)).set 2 (.int .i64 ds)).set 3 (.int .i64 tm)).set 4 (.int .i64 ix)).set 5 (.int .i64 lt)).set 6 (.int .i64 cm)).set 7 (.bool ok)).set 8 (.slice va L.length vc)) (by decide)) ((((((((((Xr12.out.set 0 (.int .i64 kd)).set 1 (.int .i64 sr)).set 2 (.int .i64 ds)).set 3 (.int .i64 tm)).set 4 (.int .i64 ix)).set 5 (.int .i64 lt)).set 6 (.int .i64 cm)).set 7 (.bool ok)).set 8 (.slice va L.length vc)).set 9 (.slice vb zs.length vd)) (by decide)) (((((((((((Xr12.out.set 0 (.int .i64 kd)).set 1 (.int .i64 sr)).set 2 (.int .i64 ds)).set 3 (.int .i64 tm)).set 4 (.int .i64 ix)).set 5 (.int .i64 lt)).set 6 (.int .i64 cm)).set 7 (.bool ok)).set 8 (.slice va L.length vc)).set 9 (.slice vb zs.length vd)).set 10 (.string s4)) (by decide))
    have KL := hid ((((((((((((K12.out.set (b := w.heap.size) (j := 0) (v := .int .i64 kd) Nr.out).set (b := w.heap.size) (j := 1) (v := .int .i64 sr) Nr.out).set (b := w.heap.size) (j := 2) (v := .int .i64 ds) Nr.out).set (b := w.heap.size) (j := 3) (v := .int .i64 tm) Nr.out).set (b := w.heap.size) (j := 4) (v := .int .i64 ix) Nr.out).set (b := w.heap.size) (j := 5) (v := .int .i64 lt) Nr.out).set (b := w.heap.size) (j := 6) (v := .int .i64 cm) Nr.out).set (b := w.heap.size) (j := 7) (v := .bool ok) Nr.out).set (b := w.heap.size) (j := 8) (v := .slice va L.length vc) Nr.out).set (b := w.heap.size) (j := 9) (v := .slice vb zs.length vd) Nr.out).set (b := w.heap.size) (j := 10) (v := .string s4) Nr.out).set (b := w.heap.size) (j := 11) (v := .bool la) Nr.out)
    have GL := hid (grown_far (b := w.heap.size) (j := 11) (v := .bool la) (grown_far (b := w.heap.size) (j := 10) (v := .string s4) (grown_far (b := w.heap.size) (j := 9) (v := .slice vb zs.length vd) (grown_far (b := w.heap.size) (j := 8) (v := .slice va L.length vc) (grown_far (b := w.heap.size) (j := 7) (v := .bool ok) (grown_far (b := w.heap.size) (j := 6) (v := .int .i64 cm) (grown_far (b := w.heap.size) (j := 5) (v := .int .i64 lt) (grown_far (b := w.heap.size) (j := 4) (v := .int .i64 ix) (grown_far (b := w.heap.size) (j := 3) (v := .int .i64 tm) (grown_far (b := w.heap.size) (j := 2) (v := .int .i64 ds) (grown_far (b := w.heap.size) (j := 1) (v := .int .i64 sr) (grown_far (b := w.heap.size) (j := 0) (v := .int .i64 kd) G12.out Mr.out) Mr.out) Mr.out) Mr.out) Mr.out) Mr.out) Mr.out) Mr.out) Mr.out) Mr.out) Mr.out) Mr.out)
    go_wp2
    refine bodyPost_ret (v := .agg #[.int .i64 kd, .int .i64 sr, .int .i64 ds, .int .i64 tm, .int .i64 ix, .int .i64 lt, .int .i64 cm, .bool ok, .slice va L.length vc, .slice vb zs.length vd, .string s4, .bool la]) (by simp [results, Tryz.results34, go_sem, zr0_13, zr1_13, zr2_13, zr3_13, zr4_13, zr5_13, zr6_13, zr7_13, zr8_13, zr9_13, zr10_13, zr11_13]) rfl ?_
    exact ⟨⟨kd, sr, ds, tm, ix, lt, cm, ok, L, zs, s4, la⟩, _, _, _, _, rfl, ⟨by show L.length ≤ 5; omega, fun f hf => by have := HM2.out f hf; omega, by show zs.length ≤ 6; omega, by show s4.size ≤ 100; omega⟩, row_down LE.out MF.out, row_down LF.out MF.out, KL.out, GL.out⟩
  by_cases q6 : y2 = 6
  · subst q6
    clear q0 q1 q2 q3 q4 q5
    obtain ⟨bG, hbG⟩ : ∃ b, w2.heap.size = b := ⟨_, rfl⟩
    have Fg : Hid (C < bG) := (show _ < _ by have := K6.out.lt; omega)
    have MG : Hid (w.heap.size ≤ bG) := (show _ ≤ _ by have := G6.out.size; omega)
    go_wp2_with fail
    refine Calls.mono (l05AnyConf_any C _ K6.out) ?_
    rintro e w3 ⟨v3, zs3, rfl, hfw3, ho3, k3, q3⟩
    have K8 := hid (k3)
    have G8 := hid (G6.out.trans q3)
    have Xr8 := hid (Xr6.out.cur q3 Nr.out)
    have Xx8 := hid (Xx6.out.cur q3 Nx.out)
    have OE8 := hid (row_pastM OE6.out q3 Fv.out)
    have OF8 := hid (row_pastM OF6.out q3 Fv.out)
    clear k3 q3 K6 G6 zr0_7 zr1_7 zr2_7 zr3_7 zr4_7 zr5_7 zr6_7 zr7_7 zr8_7 zr9_7 zr10_7 zr11_7 yr0_7 yr1_7 yr2_7 yr3_7 yr4_7 yr5_7 yr6_7 yr7_7 yr8_7 yr9_7 yr10_7 yr11_7 zx0_7 zx1_7 zx2_7 zx3_7 zx4_7 zx5_7 zx6_7 zx7_7 zx8_7 zx9_7 zx10_7 zx11_7 yx0_7 yx1_7 yx2_7 yx3_7 yx4_7 yx5_7 yx6_7 yx7_7 yx8_7 yx9_7 yx10_7 yx11_7 Xr6 Xx6 OE6 OF6
    have zr0_9 := Xr8.out.cell (j := 0) rfl
    have zr1_9 := Xr8.out.cell (j := 1) rfl
    have zr2_9 := Xr8.out.cell (j := 2) rfl
    have zr3_9 := Xr8.out.cell (j := 3) rfl
    have zr4_9 := Xr8.out.cell (j := 4) rfl
    have zr5_9 := Xr8.out.cell (j := 5) rfl
    have zr6_9 := Xr8.out.cell (j := 6) rfl
    have zr7_9 := Xr8.out.cell (j := 7) rfl
    have zr8_9 := Xr8.out.cell (j := 8) rfl
    have zr9_9 := Xr8.out.cell (j := 9) rfl
    have zr10_9 := Xr8.out.cell (j := 10) rfl
    have zr11_9 := Xr8.out.cell (j := 11) rfl
    have yr0_9 := Xr8.out.thaw 0
    have yr1_9 := Xr8.out.thaw 1
    have yr2_9 := Xr8.out.thaw 2
    have yr3_9 := Xr8.out.thaw 3
    have yr4_9 := Xr8.out.thaw 4
    have yr5_9 := Xr8.out.thaw 5
    have yr6_9 := Xr8.out.thaw 6
    have yr7_9 := Xr8.out.thaw 7
    have yr8_9 := Xr8.out.thaw 8
    have yr9_9 := Xr8.out.thaw 9
    have yr10_9 := Xr8.out.thaw 10
    have yr11_9 := Xr8.out.thaw 11
    have zx0_9 := Xx8.out.cell (j := 0) rfl
    have zx1_9 := Xx8.out.cell (j := 1) rfl
    have zx2_9 := Xx8.out.cell (j := 2) rfl
    have zx3_9 := Xx8.out.cell (j := 3) rfl
    have zx4_9 := Xx8.out.cell (j := 4) rfl
    have zx5_9 := Xx8.out.cell (j := 5) rfl
    have zx6_9 := Xx8.out.cell (j := 6) rfl
    have zx7_9 := Xx8.out.cell (j := 7) rfl
    have zx8_9 := Xx8.out.cell (j := 8) rfl
    have zx9_9 := Xx8.out.cell (j := 9) rfl
    have zx10_9 := Xx8.out.cell (j := 10) rfl
    have zx11_9 := Xx8.out.cell (j := 11) rfl
    have yx0_9 := Xx8.out.thaw 0
    have yx1_9 := Xx8.out.thaw 1
    have yx2_9 := Xx8.out.thaw 2
    have yx3_9 := Xx8.out.thaw 3
    have yx4_9 := Xx8.out.thaw 4
    have yx5_9 := Xx8.out.thaw 5
    have yx6_9 := Xx8.out.thaw 6
    have yx7_9 := Xx8.out.thaw 7
    have yx8_9 := Xx8.out.thaw 8
    have yx9_9 := Xx8.out.thaw 9
    have yx10_9 := Xx8.out.thaw 10
    have yx11_9 := Xx8.out.thaw 11
    rw [hbG] at ho3
    obtain ⟨vg, vh, rfl⟩ := row_shape ho3
    have HG := hid ho3
    clear ho3 hbG
    obtain ⟨zg, hzg⟩ : ∃ z, zs3 = z := ⟨_, rfl⟩
    rw [hzg] at HG hfw3 ⊢
    clear hzg
    have hzl := hfw3.1
    have OE10s := hid (row_kindM (j := 9) (v := (.slice vg zg.length vh)) OE8.out Xx8.out (by decide))
    have OG10s := hid (row_kindM (j := 9) (v := (.slice vg zg.length vh)) HG.out Xx8.out (by decide))
    have K10 := hid (K8.out.set (b := w1.heap.size) (j := 9) (v := (.slice vg zg.length vh)) Nx.out)
    have G10 := hid (grown_far (b := w1.heap.size) (j := 9) (v := (.slice vg zg.length vh)) G8.out Mx.out)
    have Xr10 := hid (Xr8.out.far (b := w1.heap.size) (j := 9) (by have := Arx.out; omega) (.slice vg zg.length vh))
    have Xx10 : Hid (BlockIs (w3.setCell ⟨w1.heap.size, 9, none⟩ (.slice vg zg.length vh)) (w1.heap.size) 39 [.int .i64 kd, .int .i64 sr, .int .i64 ds, .int .i64 tm, .int .i64 ix, .int .i64 lt, .int .i64 cm, .bool ok, .slice va L.length vc, .slice vg zg.length vh, .string T, .bool la]) := Xx8.out.set 9 (.slice vg zg.length vh)
    clear K8 G8 Xr8 Xx8
    have zr0_11 := Xr10.out.cell (j := 0) rfl
    have zr1_11 := Xr10.out.cell (j := 1) rfl
    have zr2_11 := Xr10.out.cell (j := 2) rfl
    have zr3_11 := Xr10.out.cell (j := 3) rfl
    have zr4_11 := Xr10.out.cell (j := 4) rfl
    have zr5_11 := Xr10.out.cell (j := 5) rfl
    have zr6_11 := Xr10.out.cell (j := 6) rfl
    have zr7_11 := Xr10.out.cell (j := 7) rfl
    have zr8_11 := Xr10.out.cell (j := 8) rfl
    have zr9_11 := Xr10.out.cell (j := 9) rfl
    have zr10_11 := Xr10.out.cell (j := 10) rfl
    have zr11_11 := Xr10.out.cell (j := 11) rfl
    have yr0_11 := Xr10.out.thaw 0
    have yr1_11 := Xr10.out.thaw 1
    have yr2_11 := Xr10.out.thaw 2
    have yr3_11 := Xr10.out.thaw 3
    have yr4_11 := Xr10.out.thaw 4
    have yr5_11 := Xr10.out.thaw 5
    have yr6_11 := Xr10.out.thaw 6
    have yr7_11 := Xr10.out.thaw 7
    have yr8_11 := Xr10.out.thaw 8
    have yr9_11 := Xr10.out.thaw 9
    have yr10_11 := Xr10.out.thaw 10
    have yr11_11 := Xr10.out.thaw 11
    have zx0_11 := Xx10.out.cell (j := 0) rfl
    have zx1_11 := Xx10.out.cell (j := 1) rfl
    have zx2_11 := Xx10.out.cell (j := 2) rfl
    have zx3_11 := Xx10.out.cell (j := 3) rfl
    have zx4_11 := Xx10.out.cell (j := 4) rfl
    have zx5_11 := Xx10.out.cell (j := 5) rfl
    have zx6_11 := Xx10.out.cell (j := 6) rfl
    have zx7_11 := Xx10.out.cell (j := 7) rfl
    have zx8_11 := Xx10.out.cell (j := 8) rfl
    have zx9_11 := Xx10.out.cell (j := 9) rfl
    have zx10_11 := Xx10.out.cell (j := 10) rfl
    have zx11_11 := Xx10.out.cell (j := 11) rfl
    have yx0_11 := Xx10.out.thaw 0
    have yx1_11 := Xx10.out.thaw 1
    have yx2_11 := Xx10.out.thaw 2
    have yx3_11 := Xx10.out.thaw 3
    have yx4_11 := Xx10.out.thaw 4
    have yx5_11 := Xx10.out.thaw 5
    have yx6_11 := Xx10.out.thaw 6
    have yx7_11 := Xx10.out.thaw 7
    have yx8_11 := Xx10.out.thaw 8
    have yx9_11 := Xx10.out.thaw 9
    have yx10_11 := Xx10.out.thaw 10
    have yx11_11 := Xx10.out.thaw 11
    clear OE8 HG
    have LE := hid (row_kindM (j := 11) (v := .bool la) (row_kindM (j := 10) (v := .string T) (row_kindM (j := 9) (v := .slice vg zg.length vh) (row_kindM (j := 8) (v := .slice va L.length vc) (row_kindM (j := 7) (v := .bool ok) (row_kindM (j := 6) (v := .int .i64 cm) (row_kindM (j := 5) (v := .int .i64 lt) (row_kindM (j := 4) (v := .int .i64 ix) (row_kindM (j := 3) (v := .int .i64 tm) (row_kindM (j := 2) (v := .int .i64 ds) (row_kindM (j := 1) (v := .int .i64 sr) (row_kindM (j := 0) (v := .int .i64 kd) OE10s.out Xr10.out (by decide)) (Xr10.out.set 0 (.int .i64 kd)) (by decide)) ((Xr10.out.set 0 (.int .i64 kd)).set 1 (.int .i64 sr)) (by decide)) (((Xr10.out.set 0 (.int .i64 kd)).set 1 (.int .i64 sr)).set 2 (.int .i64 ds)) (by decide)) ((((Xr10.out.set 0 (.int .i64 kd)).set 1 (.int .i64 sr)).set 2 (.int .i64 ds)).set 3 (.int .i64 tm)) (by decide)) (((((Xr10.out.set 0 (.int .i64 kd)).set 1 (.int .i64 sr)).set 2 (.int .i64 ds)).set 3 (.int .i64 tm)).set 4 (.int .i64 ix)) (by decide)) ((((((Xr10.out.set 0 (.int .i64 kd)).set 1 (.int .i64 sr)).set 2 (.int .i64 ds)).set 3 (.int .i64 tm)).set 4 (.int .i64 ix)).set 5 (.int .i64 lt)) (by decide)) (((((((Xr10.out.set 0 (.int .i64 kd)).set 1 (.int .i64 sr)).set 2 (.int .i64 ds)).set 3 (.int .i64 tm)).set 4 (.int .i64 ix)).set 5 (.int .i64 lt)).set 6 (.int .i64 cm)) (by decide)) ((((((((Xr10.out.set 0 (.int .i64 kd)).set 1 (.int .i64 sr)).set 2 (.int .i64 ds)).set 3 (.int .i64 tm)).set 4 (.int .i64 ix)).set 5 (.int .i64 lt)).set 6 (.int .i64 cm)).set 7 (.bool ok)) (by decide)) (((((((((Xr10.out.set 0 (.int .i64 kd)).set 1 (.int .i64 sr)).set 2 (.int .i64 ds)).set 3 (.int .i64 tm)).set 4 (.int .i64 ix)).set 5 (.int .i64 lt)).set 6 (.int .i64 cm)).set 7 (.bool ok)).set 8 (.slice va L.length vc)) (by decide)) ((((((((((Xr10.out.set 0 (.int .i64 kd)).set 1 (.int .i64 sr)).set 2 (.int .i64 ds)).set 3 (.int .i64 tm)).set 4 (.int .i64 ix)).set 5 (.int .i64 lt)).set 6 (.int .i64 cm)).set 7 (.bool ok)).set 8 (.slice va L.length vc)).set 9 (.slice vg zg.length vh)) (by decide)) (((((((((((Xr10.out.set 0 (.int .i64 kd)).set 1 (.int .i64 sr)).set 2 (.int .i64 ds)).set 3 (.int .i64 tm)).set 4 (.int .i64 ix)).set 5 (.int .i64 lt)).set 6 (.int .i64 cm)).set 7 (.bool ok)).set 8 (.slice va L.length vc)).set 9 (.slice vg zg.length vh)).set 10 (.string T)) (by decide))
    have LG := hid (row_kindM (j := 11) (v := .bool la) (row_kindM (j := 10) (v := .string T) (row_kindM (j := 9) (v := .slice vg zg.length vh) (row_kindM (j := 8) (v := .slice va L.length vc) (row_kindM (j := 7) (v := .bool ok) (row_kindM (j := 6) (v := .int .i64 cm) (row_kindM (j := 5) (v := .int .i64 lt) (row_kindM (j := 4) (v := .int .i64 ix) (row_kindM (j := 3) (v := .int .i64 tm) (row_kindM (j := 2) (v := .int .i64 ds) (row_kindM (j := 1) (v := .int .i64 sr) (row_kindM (j := 0) (v := .int .i64 kd) OG10s.out Xr10.out (by decide)) (Xr10.out.set 0 (.int .i64 kd)) (by decide)) ((Xr10.out.set 0 (.int .i64 kd)).set 1 (.int .i64 sr)) (by decide)) (((Xr10.out.set 0 (.int .i64 kd)).set 1 (.int .i64 sr)).set 2 (.int .i64 ds)) (by decide)) ((((Xr10.out.set 0 (.int .i64 kd)).set 1 (.int .i64 sr)).set 2 (.int .i64 ds)).set 3 (.int .i64 tm)) (by decide)) (((((Xr10.out.set 0 (.int .i64 kd)).set 1 (.int .i64 sr)).set 2 (.int .i64 ds)).set 3 (.int .i64 tm)).set 4 (.int .i64 ix)) (by decide)) ((((((Xr10.out.set 0 (.int .i64 kd)).set 1 (.int .i64 sr)).set 2 (.int .i64 ds)).set 3 (.int .i64 tm)).set 4 (.int .i64 ix)).set 5 (.int .i64 lt)) (by decide)) (((((((Xr10.out.set 0 (.int .i64 kd)).set 1 (.int .i64 sr)).set 2 (.int .i64 ds)).set 3 (.int .i64 tm)).set 4 (.int .i64 ix)).set 5 (.int .i64 lt)).set 6 (.int .i64 cm)) (by decide)) ((((((((Xr10.out.set 0 (.int .i64 kd)).set 1 (.int .i64 sr)).set 2 (.int .i64 ds)).set 3 (.int .i64 tm)).set 4 (.int .i64 ix)).set 5 (.int .i64 lt)).set 6 (.int .i64 cm)).set 7 (.bool ok)) (by decide)) (((((((((Xr10.out.set 0 (.int .i64 kd)).set 1 (.int .i64 sr)).set 2 (.int .i64 ds)).set 3 (.int .i64 tm)).set 4 (.int .i64 ix)).set 5 (.int .i64 lt)).set 6 (.int .i64 cm)).set 7 (.bool ok)).set 8 (.slice va L.length vc)) (by decide)) ((((((((((Xr10.out.set 0 (.int .i64 kd)).set 1 (.int .i64 sr)).set 2 (.int .i64 ds)).set 3 (.int .i64 tm)).set 4 (.int .i64 ix)).set 5 (.int .i64 lt)).set 6 (.int .i64 cm)).set 7 (.bool ok)).set 8 (.slice va L.length vc)).set 9 (.slice vg zg.length vh)) (by decide)) (((((((((((Xr10.out.set 0 (.int .i64 kd)).set 1 (.int .i64 sr)).set 2 (.int .i64 ds)).set 3 (.int .i64 tm)).set 4 (.int .i64 ix)).set 5 (.int .i64 lt)).set 6 (.int .i64 cm)).set 7 (.bool ok)).set 8 (.slice va L.length vc)).set 9 (.slice vg zg.length vh)).set 10 (.string T)) (by decide))
    have KL := hid ((((((((((((K10.out.set (b := w.heap.size) (j := 0) (v := .int .i64 kd) Nr.out).set (b := w.heap.size) (j := 1) (v := .int .i64 sr) Nr.out).set (b := w.heap.size) (j := 2) (v := .int .i64 ds) Nr.out).set (b := w.heap.size) (j := 3) (v := .int .i64 tm) Nr.out).set (b := w.heap.size) (j := 4) (v := .int .i64 ix) Nr.out).set (b := w.heap.size) (j := 5) (v := .int .i64 lt) Nr.out).set (b := w.heap.size) (j := 6) (v := .int .i64 cm) Nr.out).set (b := w.heap.size) (j := 7) (v := .bool ok) Nr.out).set (b := w.heap.size) (j := 8) (v := .slice va L.length vc) Nr.out).set (b := w.heap.size) (j := 9) (v := .slice vg zg.length vh) Nr.out).set (b := w.heap.size) (j := 10) (v := .string T) Nr.out).set (b := w.heap.size) (j := 11) (v := .bool la) Nr.out)
    have GL := hid (grown_far (b := w.heap.size) (j := 11) (v := .bool la) (grown_far (b := w.heap.size) (j := 10) (v := .string T) (grown_far (b := w.heap.size) (j := 9) (v := .slice vg zg.length vh) (grown_far (b := w.heap.size) (j := 8) (v := .slice va L.length vc) (grown_far (b := w.heap.size) (j := 7) (v := .bool ok) (grown_far (b := w.heap.size) (j := 6) (v := .int .i64 cm) (grown_far (b := w.heap.size) (j := 5) (v := .int .i64 lt) (grown_far (b := w.heap.size) (j := 4) (v := .int .i64 ix) (grown_far (b := w.heap.size) (j := 3) (v := .int .i64 tm) (grown_far (b := w.heap.size) (j := 2) (v := .int .i64 ds) (grown_far (b := w.heap.size) (j := 1) (v := .int .i64 sr) (grown_far (b := w.heap.size) (j := 0) (v := .int .i64 kd) G10.out Mr.out) Mr.out) Mr.out) Mr.out) Mr.out) Mr.out) Mr.out) Mr.out) Mr.out) Mr.out) Mr.out) Mr.out)
    go_wp2
    refine bodyPost_ret (v := .agg #[.int .i64 kd, .int .i64 sr, .int .i64 ds, .int .i64 tm, .int .i64 ix, .int .i64 lt, .int .i64 cm, .bool ok, .slice va L.length vc, .slice vg zg.length vh, .string T, .bool la]) (by simp [results, Tryz.results34, go_sem, zr0_11, zr1_11, zr2_11, zr3_11, zr4_11, zr5_11, zr6_11, zr7_11, zr8_11, zr9_11, zr10_11, zr11_11]) rfl ?_
    exact ⟨⟨kd, sr, ds, tm, ix, lt, cm, ok, L, zg, T, la⟩, _, _, _, _, rfl, ⟨by show L.length ≤ 5; omega, fun f hf => by have := HM2.out f hf; omega, by show zg.length ≤ 6; omega, by show T.size ≤ 100; omega⟩, row_down LE.out MF.out, row_down LG.out MG.out, KL.out, GL.out⟩
  by_cases q7 : y2 = 7
  · subst q7
    clear q0 q1 q2 q3 q4 q5 q6
    have OE8s := hid (row_kindM (j := 11) (v := (.bool true)) OE6.out Xx6.out (by decide))
    have OF8s := hid (row_kindM (j := 11) (v := (.bool true)) OF6.out Xx6.out (by decide))
    have K8 := hid (K6.out.set (b := w1.heap.size) (j := 11) (v := (.bool true)) Nx.out)
    have G8 := hid (grown_far (b := w1.heap.size) (j := 11) (v := (.bool true)) G6.out Mx.out)
    have Xr8 := hid (Xr6.out.far (b := w1.heap.size) (j := 11) (by have := Arx.out; omega) (.bool true))
    have Xx8 : Hid (BlockIs (w2.setCell ⟨w1.heap.size, 11, none⟩ (.bool true)) (w1.heap.size) 39 [.int .i64 kd, .int .i64 sr, .int .i64 ds, .int .i64 tm, .int .i64 ix, .int .i64 lt, .int .i64 cm, .bool ok, .slice va L.length vc, .slice vb zs.length vd, .string T, .bool true]) := Xx6.out.set 11 (.bool true)
    clear K6 G6 Xr6 Xx6
    have zr0_9 := Xr8.out.cell (j := 0) rfl
    have zr1_9 := Xr8.out.cell (j := 1) rfl
    have zr2_9 := Xr8.out.cell (j := 2) rfl
    have zr3_9 := Xr8.out.cell (j := 3) rfl
    have zr4_9 := Xr8.out.cell (j := 4) rfl
    have zr5_9 := Xr8.out.cell (j := 5) rfl
    have zr6_9 := Xr8.out.cell (j := 6) rfl
    have zr7_9 := Xr8.out.cell (j := 7) rfl
    have zr8_9 := Xr8.out.cell (j := 8) rfl
    have zr9_9 := Xr8.out.cell (j := 9) rfl
    have zr10_9 := Xr8.out.cell (j := 10) rfl
    have zr11_9 := Xr8.out.cell (j := 11) rfl
    have yr0_9 := Xr8.out.thaw 0
    have yr1_9 := Xr8.out.thaw 1
    have yr2_9 := Xr8.out.thaw 2
    have yr3_9 := Xr8.out.thaw 3
    have yr4_9 := Xr8.out.thaw 4
    have yr5_9 := Xr8.out.thaw 5
    have yr6_9 := Xr8.out.thaw 6
    have yr7_9 := Xr8.out.thaw 7
    have yr8_9 := Xr8.out.thaw 8
    have yr9_9 := Xr8.out.thaw 9
    have yr10_9 := Xr8.out.thaw 10
    have yr11_9 := Xr8.out.thaw 11
    have zx0_9 := Xx8.out.cell (j := 0) rfl
    have zx1_9 := Xx8.out.cell (j := 1) rfl
    have zx2_9 := Xx8.out.cell (j := 2) rfl
    have zx3_9 := Xx8.out.cell (j := 3) rfl
    have zx4_9 := Xx8.out.cell (j := 4) rfl
    have zx5_9 := Xx8.out.cell (j := 5) rfl
    have zx6_9 := Xx8.out.cell (j := 6) rfl
    have zx7_9 := Xx8.out.cell (j := 7) rfl
    have zx8_9 := Xx8.out.cell (j := 8) rfl
    have zx9_9 := Xx8.out.cell (j := 9) rfl
    have zx10_9 := Xx8.out.cell (j := 10) rfl
    have zx11_9 := Xx8.out.cell (j := 11) rfl
    have yx0_9 := Xx8.out.thaw 0
    have yx1_9 := Xx8.out.thaw 1
    have yx2_9 := Xx8.out.thaw 2
    have yx3_9 := Xx8.out.thaw 3
    have yx4_9 := Xx8.out.thaw 4
    have yx5_9 := Xx8.out.thaw 5
    have yx6_9 := Xx8.out.thaw 6
    have yx7_9 := Xx8.out.thaw 7
    have yx8_9 := Xx8.out.thaw 8
    have yx9_9 := Xx8.out.thaw 9
    have yx10_9 := Xx8.out.thaw 10
    have yx11_9 := Xx8.out.thaw 11
    clear OE6 OF6
    have LE := hid (row_kindM (j := 11) (v := .bool true) (row_kindM (j := 10) (v := .string T) (row_kindM (j := 9) (v := .slice vb zs.length vd) (row_kindM (j := 8) (v := .slice va L.length vc) (row_kindM (j := 7) (v := .bool ok) (row_kindM (j := 6) (v := .int .i64 cm) (row_kindM (j := 5) (v := .int .i64 lt) (row_kindM (j := 4) (v := .int .i64 ix) (row_kindM (j := 3) (v := .int .i64 tm) (row_kindM (j := 2) (v := .int .i64 ds) (row_kindM (j := 1) (v := .int .i64 sr) (row_kindM (j := 0) (v := .int .i64 kd) OE8s.out Xr8.out (by decide)) (Xr8.out.set 0 (.int .i64 kd)) (by decide)) ((Xr8.out.set 0 (.int .i64 kd)).set 1 (.int .i64 sr)) (by decide)) (((Xr8.out.set 0 (.int .i64 kd)).set 1 (.int .i64 sr)).set 2 (.int .i64 ds)) (by decide)) ((((Xr8.out.set 0 (.int .i64 kd)).set 1 (.int .i64 sr)).set 2 (.int .i64 ds)).set 3 (.int .i64 tm)) (by decide)) (((((Xr8.out.set 0 (.int .i64 kd)).set 1 (.int .i64 sr)).set 2 (.int .i64 ds)).set 3 (.int .i64 tm)).set 4 (.int .i64 ix)) (by decide)) ((((((Xr8.out.set 0 (.int .i64 kd)).set 1 (.int .i64 sr)).set 2 (.int .i64 ds)).set 3 (.int .i64 tm)).set 4 (.int .i64 ix)).set 5 (.int .i64 lt)) (by decide)) (((((((Xr8.out.set 0 (.int .i64 kd)).set 1 (.int .i64 sr)).set 2 (.int .i64 ds)).set 3 (.int .i64 tm)).set 4 (.int .i64 ix)).set 5 (.int .i64 lt)).set 6 (.int .i64 cm)) (by decide)) ((((((((Xr8.out.set 0 (.int .i64 kd)).set 1 (.int .i64 sr)).set 2 (.int .i64 ds)).set 3 (.int .i64 tm)).set 4 (.int .i64 ix)).set 5 (.int .i64 lt)).set 6 (.int .i64 cm)).set 7 (.bool ok)) (by decide)) (((((((((Xr8.out.set 0 (.int .i64 kd)).set 1 (.int .i64 sr)).set 2 (.int .i64 ds)).set 3 (.int .i64 tm)).set 4 (.int .i64 ix)).set 5 (.int .i64 lt)).set 6 (.int .i64 cm)).set 7 (.bool ok)).set 8 (.slice va L.length vc)) (by decide)) ((((((((((Xr8.out.set 0 (.int .i64 kd)).set 1 (.int .i64 sr)).set 2 (.int .i64 ds)).set 3 (.int .i64 tm)).set 4 (.int .i64 ix)).set 5 (.int .i64 lt)).set 6 (.int .i64 cm)).set 7 (.bool ok)).set 8 (.slice va L.length vc)).set 9 (.slice vb zs.length vd)) (by decide)) (((((((((((Xr8.out.set 0 (.int .i64 kd)).set 1 (.int .i64 sr)).set 2 (.int .i64 ds)).set 3 (.int .i64 tm)).set 4 (.int .i64 ix)).set 5 (.int .i64 lt)).set 6 (.int .i64 cm)).set 7 (.bool ok)).set 8 (.slice va L.length vc)).set 9 (.slice vb zs.length vd)).set 10 (.string T)) (by decide))
    have LF := hid (row_kindM (j := 11) (v := .bool true) (row_kindM (j := 10) (v := .string T) (row_kindM (j := 9) (v := .slice vb zs.length vd) (row_kindM (j := 8) (v := .slice va L.length vc) (row_kindM (j := 7) (v := .bool ok) (row_kindM (j := 6) (v := .int .i64 cm) (row_kindM (j := 5) (v := .int .i64 lt) (row_kindM (j := 4) (v := .int .i64 ix) (row_kindM (j := 3) (v := .int .i64 tm) (row_kindM (j := 2) (v := .int .i64 ds) (row_kindM (j := 1) (v := .int .i64 sr) (row_kindM (j := 0) (v := .int .i64 kd) OF8s.out Xr8.out (by decide)) (Xr8.out.set 0 (.int .i64 kd)) (by decide)) ((Xr8.out.set 0 (.int .i64 kd)).set 1 (.int .i64 sr)) (by decide)) (((Xr8.out.set 0 (.int .i64 kd)).set 1 (.int .i64 sr)).set 2 (.int .i64 ds)) (by decide)) ((((Xr8.out.set 0 (.int .i64 kd)).set 1 (.int .i64 sr)).set 2 (.int .i64 ds)).set 3 (.int .i64 tm)) (by decide)) (((((Xr8.out.set 0 (.int .i64 kd)).set 1 (.int .i64 sr)).set 2 (.int .i64 ds)).set 3 (.int .i64 tm)).set 4 (.int .i64 ix)) (by decide)) ((((((Xr8.out.set 0 (.int .i64 kd)).set 1 (.int .i64 sr)).set 2 (.int .i64 ds)).set 3 (.int .i64 tm)).set 4 (.int .i64 ix)).set 5 (.int .i64 lt)) (by decide)) (((((((Xr8.out.set 0 (.int .i64 kd)).set 1 (.int .i64 sr)).set 2 (.int .i64 ds)).set 3 (.int .i64 tm)).set 4 (.int .i64 ix)).set 5 (.int .i64 lt)).set 6 (.int .i64 cm)) (by decide)) ((((((((Xr8.out.set 0 (.int .i64 kd)).set 1 (.int .i64 sr)).set 2 (.int .i64 ds)).set 3 (.int .i64 tm)).set 4 (.int .i64 ix)).set 5 (.int .i64 lt)).set 6 (.int .i64 cm)).set 7 (.bool ok)) (by decide)) (((((((((Xr8.out.set 0 (.int .i64 kd)).set 1 (.int .i64 sr)).set 2 (.int .i64 ds)).set 3 (.int .i64 tm)).set 4 (.int .i64 ix)).set 5 (.int .i64 lt)).set 6 (.int .i64 cm)).set 7 (.bool ok)).set 8 (.slice va L.length vc)) (by decide)) ((((((((((Xr8.out.set 0 (.int .i64 kd)).set 1 (.int .i64 sr)).set 2 (.int .i64 ds)).set 3 (.int .i64 tm)).set 4 (.int .i64 ix)).set 5 (.int .i64 lt)).set 6 (.int .i64 cm)).set 7 (.bool ok)).set 8 (.slice va L.length vc)).set 9 (.slice vb zs.length vd)) (by decide)) (((((((((((Xr8.out.set 0 (.int .i64 kd)).set 1 (.int .i64 sr)).set 2 (.int .i64 ds)).set 3 (.int .i64 tm)).set 4 (.int .i64 ix)).set 5 (.int .i64 lt)).set 6 (.int .i64 cm)).set 7 (.bool ok)).set 8 (.slice va L.length vc)).set 9 (.slice vb zs.length vd)).set 10 (.string T)) (by decide))
    have KL := hid ((((((((((((K8.out.set (b := w.heap.size) (j := 0) (v := .int .i64 kd) Nr.out).set (b := w.heap.size) (j := 1) (v := .int .i64 sr) Nr.out).set (b := w.heap.size) (j := 2) (v := .int .i64 ds) Nr.out).set (b := w.heap.size) (j := 3) (v := .int .i64 tm) Nr.out).set (b := w.heap.size) (j := 4) (v := .int .i64 ix) Nr.out).set (b := w.heap.size) (j := 5) (v := .int .i64 lt) Nr.out).set (b := w.heap.size) (j := 6) (v := .int .i64 cm) Nr.out).set (b := w.heap.size) (j := 7) (v := .bool ok) Nr.out).set (b := w.heap.size) (j := 8) (v := .slice va L.length vc) Nr.out).set (b := w.heap.size) (j := 9) (v := .slice vb zs.length vd) Nr.out).set (b := w.heap.size) (j := 10) (v := .string T) Nr.out).set (b := w.heap.size) (j := 11) (v := .bool true) Nr.out)
    have GL := hid (grown_far (b := w.heap.size) (j := 11) (v := .bool true) (grown_far (b := w.heap.size) (j := 10) (v := .string T) (grown_far (b := w.heap.size) (j := 9) (v := .slice vb zs.length vd) (grown_far (b := w.heap.size) (j := 8) (v := .slice va L.length vc) (grown_far (b := w.heap.size) (j := 7) (v := .bool ok) (grown_far (b := w.heap.size) (j := 6) (v := .int .i64 cm) (grown_far (b := w.heap.size) (j := 5) (v := .int .i64 lt) (grown_far (b := w.heap.size) (j := 4) (v := .int .i64 ix) (grown_far (b := w.heap.size) (j := 3) (v := .int .i64 tm) (grown_far (b := w.heap.size) (j := 2) (v := .int .i64 ds) (grown_far (b := w.heap.size) (j := 1) (v := .int .i64 sr) (grown_far (b := w.heap.size) (j := 0) (v := .int .i64 kd) G8.out Mr.out) Mr.out) Mr.out) Mr.out) Mr.out) Mr.out) Mr.out) Mr.out) Mr.out) Mr.out) Mr.out) Mr.out)
    go_wp2
    refine bodyPost_ret (v := .agg #[.int .i64 kd, .int .i64 sr, .int .i64 ds, .int .i64 tm, .int .i64 ix, .int .i64 lt, .int .i64 cm, .bool ok, .slice va L.length vc, .slice vb zs.length vd, .string T, .bool true]) (by simp [results, Tryz.results34, go_sem, zr0_9, zr1_9, zr2_9, zr3_9, zr4_9, zr5_9, zr6_9, zr7_9, zr8_9, zr9_9, zr10_9, zr11_9]) rfl ?_
    exact ⟨⟨kd, sr, ds, tm, ix, lt, cm, ok, L, zs, T, true⟩, _, _, _, _, rfl, ⟨by show L.length ≤ 5; omega, fun f hf => by have := HM2.out f hf; omega, by show zs.length ≤ 6; omega, by show T.size ≤ 100; omega⟩, row_down LE.out MF.out, row_down LF.out MF.out, KL.out, GL.out⟩
  have q0' : (y2 == 0) = false := by simpa using q0
  have q1' : (y2 == 1) = false := by simpa using q1
  have q2' : (y2 == 2) = false := by simpa using q2
  have q3' : (y2 == 3) = false := by simpa using q3
  have q4' : (y2 == 4) = false := by simpa using q4
  have q5' : (y2 == 5) = false := by simpa using q5
  have q6' : (y2 == 6) = false := by simpa using q6
  have q7' : (y2 == 7) = false := by simpa using q7
  have LE := hid (row_kindM (j := 11) (v := .bool la) (row_kindM (j := 10) (v := .string T) (row_kindM (j := 9) (v := .slice vb zs.length vd) (row_kindM (j := 8) (v := .slice va L.length vc) (row_kindM (j := 7) (v := .bool ok) (row_kindM (j := 6) (v := .int .i64 cm) (row_kindM (j := 5) (v := .int .i64 lt) (row_kindM (j := 4) (v := .int .i64 ix) (row_kindM (j := 3) (v := .int .i64 tm) (row_kindM (j := 2) (v := .int .i64 ds) (row_kindM (j := 1) (v := .int .i64 sr) (row_kindM (j := 0) (v := .int .i64 kd) OE6.out Xr6.out (by decide)) (Xr6.out.set 0 (.int .i64 kd)) (by decide)) ((Xr6.out.set 0 (.int .i64 kd)).set 1 (.int .i64 sr)) (by decide)) (((Xr6.out.set 0 (.int .i64 kd)).set 1 (.int .i64 sr)).set 2 (.int .i64 ds)) (by decide)) ((((Xr6.out.set 0 (.int .i64 kd)).set 1 (.int .i64 sr)).set 2 (.int .i64 ds)).set 3 (.int .i64 tm)) (by decide)) (((((Xr6.out.set 0 (.int .i64 kd)).set 1 (.int .i64 sr)).set 2 (.int .i64 ds)).set 3 (.int .i64 tm)).set 4 (.int .i64 ix)) (by decide)) ((((((Xr6.out.set 0 (.int .i64 kd)).set 1 (.int .i64 sr)).set 2 (.int .i64 ds)).set 3 (.int .i64 tm)).set 4 (.int .i64 ix)).set 5 (.int .i64 lt)) (by decide)) (((((((Xr6.out.set 0 (.int .i64 kd)).set 1 (.int .i64 sr)).set 2 (.int .i64 ds)).set 3 (.int .i64 tm)).set 4 (.int .i64 ix)).set 5 (.int .i64 lt)).set 6 (.int .i64 cm)) (by decide)) ((((((((Xr6.out.set 0 (.int .i64 kd)).set 1 (.int .i64 sr)).set 2 (.int .i64 ds)).set 3 (.int .i64 tm)).set 4 (.int .i64 ix)).set 5 (.int .i64 lt)).set 6 (.int .i64 cm)).set 7 (.bool ok)) (by decide)) (((((((((Xr6.out.set 0 (.int .i64 kd)).set 1 (.int .i64 sr)).set 2 (.int .i64 ds)).set 3 (.int .i64 tm)).set 4 (.int .i64 ix)).set 5 (.int .i64 lt)).set 6 (.int .i64 cm)).set 7 (.bool ok)).set 8 (.slice va L.length vc)) (by decide)) ((((((((((Xr6.out.set 0 (.int .i64 kd)).set 1 (.int .i64 sr)).set 2 (.int .i64 ds)).set 3 (.int .i64 tm)).set 4 (.int .i64 ix)).set 5 (.int .i64 lt)).set 6 (.int .i64 cm)).set 7 (.bool ok)).set 8 (.slice va L.length vc)).set 9 (.slice vb zs.length vd)) (by decide)) (((((((((((Xr6.out.set 0 (.int .i64 kd)).set 1 (.int .i64 sr)).set 2 (.int .i64 ds)).set 3 (.int .i64 tm)).set 4 (.int .i64 ix)).set 5 (.int .i64 lt)).set 6 (.int .i64 cm)).set 7 (.bool ok)).set 8 (.slice va L.length vc)).set 9 (.slice vb zs.length vd)).set 10 (.string T)) (by decide))
  have LF := hid (row_kindM (j := 11) (v := .bool la) (row_kindM (j := 10) (v := .string T) (row_kindM (j := 9) (v := .slice vb zs.length vd) (row_kindM (j := 8) (v := .slice va L.length vc) (row_kindM (j := 7) (v := .bool ok) (row_kindM (j := 6) (v := .int .i64 cm) (row_kindM (j := 5) (v := .int .i64 lt) (row_kindM (j := 4) (v := .int .i64 ix) (row_kindM (j := 3) (v := .int .i64 tm) (row_kindM (j := 2) (v := .int .i64 ds) (row_kindM (j := 1) (v := .int .i64 sr) (row_kindM (j := 0) (v := .int .i64 kd) OF6.out Xr6.out (by decide)) (Xr6.out.set 0 (.int .i64 kd)) (by decide)) ((Xr6.out.set 0 (.int .i64 kd)).set 1 (.int .i64 sr)) (by decide)) (((Xr6.out.set 0 (.int .i64 kd)).set 1 (.int .i64 sr)).set 2 (.int .i64 ds)) (by decide)) ((((Xr6.out.set 0 (.int .i64 kd)).set 1 (.int .i64 sr)).set 2 (.int .i64 ds)).set 3 (.int .i64 tm)) (by decide)) (((((Xr6.out.set 0 (.int .i64 kd)).set 1 (.int .i64 sr)).set 2 (.int .i64 ds)).set 3 (.int .i64 tm)).set 4 (.int .i64 ix)) (by decide)) ((((((Xr6.out.set 0 (.int .i64 kd)).set 1 (.int .i64 sr)).set 2 (.int .i64 ds)).set 3 (.int .i64 tm)).set 4 (.int .i64 ix)).set 5 (.int .i64 lt)) (by decide)) (((((((Xr6.out.set 0 (.int .i64 kd)).set 1 (.int .i64 sr)).set 2 (.int .i64 ds)).set 3 (.int .i64 tm)).set 4 (.int .i64 ix)).set 5 (.int .i64 lt)).set 6 (.int .i64 cm)) (by decide)) ((((((((Xr6.out.set 0 (.int .i64 kd)).set 1 (.int .i64 sr)).set 2 (.int .i64 ds)).set 3 (.int .i64 tm)).set 4 (.int .i64 ix)).set 5 (.int .i64 lt)).set 6 (.int .i64 cm)).set 7 (.bool ok)) (by decide)) (((((((((Xr6.out.set 0 (.int .i64 kd)).set 1 (.int .i64 sr)).set 2 (.int .i64 ds)).set 3 (.int .i64 tm)).set 4 (.int .i64 ix)).set 5 (.int .i64 lt)).set 6 (.int .i64 cm)).set 7 (.bool ok)).set 8 (.slice va L.length vc)) (by decide)) ((((((((((Xr6.out.set 0 (.int .i64 kd)).set 1 (.int .i64 sr)).set 2 (.int .i64 ds)).set 3 (.int .i64 tm)).set 4 (.int .i64 ix)).set 5 (.int .i64 lt)).set 6 (.int .i64 cm)).set 7 (.bool ok)).set 8 (.slice va L.length vc)).set 9 (.slice vb zs.length vd)) (by decide)) (((((((((((Xr6.out.set 0 (.int .i64 kd)).set 1 (.int .i64 sr)).set 2 (.int .i64 ds)).set 3 (.int .i64 tm)).set 4 (.int .i64 ix)).set 5 (.int .i64 lt)).set 6 (.int .i64 cm)).set 7 (.bool ok)).set 8 (.slice va L.length vc)).set 9 (.slice vb zs.length vd)).set 10 (.string T)) (by decide))
  have KL := hid ((((((((((((K6.out.set (b := w.heap.size) (j := 0) (v := .int .i64 kd) Nr.out).set (b := w.heap.size) (j := 1) (v := .int .i64 sr) Nr.out).set (b := w.heap.size) (j := 2) (v := .int .i64 ds) Nr.out).set (b := w.heap.size) (j := 3) (v := .int .i64 tm) Nr.out).set (b := w.heap.size) (j := 4) (v := .int .i64 ix) Nr.out).set (b := w.heap.size) (j := 5) (v := .int .i64 lt) Nr.out).set (b := w.heap.size) (j := 6) (v := .int .i64 cm) Nr.out).set (b := w.heap.size) (j := 7) (v := .bool ok) Nr.out).set (b := w.heap.size) (j := 8) (v := .slice va L.length vc) Nr.out).set (b := w.heap.size) (j := 9) (v := .slice vb zs.length vd) Nr.out).set (b := w.heap.size) (j := 10) (v := .string T) Nr.out).set (b := w.heap.size) (j := 11) (v := .bool la) Nr.out)
  have GL := hid (grown_far (b := w.heap.size) (j := 11) (v := .bool la) (grown_far (b := w.heap.size) (j := 10) (v := .string T) (grown_far (b := w.heap.size) (j := 9) (v := .slice vb zs.length vd) (grown_far (b := w.heap.size) (j := 8) (v := .slice va L.length vc) (grown_far (b := w.heap.size) (j := 7) (v := .bool ok) (grown_far (b := w.heap.size) (j := 6) (v := .int .i64 cm) (grown_far (b := w.heap.size) (j := 5) (v := .int .i64 lt) (grown_far (b := w.heap.size) (j := 4) (v := .int .i64 ix) (grown_far (b := w.heap.size) (j := 3) (v := .int .i64 tm) (grown_far (b := w.heap.size) (j := 2) (v := .int .i64 ds) (grown_far (b := w.heap.size) (j := 1) (v := .int .i64 sr) (grown_far (b := w.heap.size) (j := 0) (v := .int .i64 kd) G6.out Mr.out) Mr.out) Mr.out) Mr.out) Mr.out) Mr.out) Mr.out) Mr.out) Mr.out) Mr.out) Mr.out) Mr.out)
  go_wp2
  refine bodyPost_ret (v := .agg #[.int .i64 kd, .int .i64 sr, .int .i64 ds, .int .i64 tm, .int .i64 ix, .int .i64 lt, .int .i64 cm, .bool ok, .slice va L.length vc, .slice vb zs.length vd, .string T, .bool la]) (by simp [results, Tryz.results34, go_sem, zr0_7, zr1_7, zr2_7, zr3_7, zr4_7, zr5_7, zr6_7, zr7_7, zr8_7, zr9_7, zr10_7, zr11_7]) rfl ?_
  exact ⟨⟨kd, sr, ds, tm, ix, lt, cm, ok, L, zs, T, la⟩, _, _, _, _, rfl, ⟨by show L.length ≤ 5; omega, fun f hf => by have := HM2.out f hf; omega, by show zs.length ≤ 6; omega, by show T.size ≤ 100; omega⟩, row_down LE.out MF.out, row_down LF.out MF.out, KL.out, GL.out⟩
end Go.Proofs.YtohmfmajgehadaaGreatDoor
