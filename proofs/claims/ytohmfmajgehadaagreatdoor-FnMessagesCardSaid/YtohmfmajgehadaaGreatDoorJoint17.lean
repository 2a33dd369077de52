/-
  The walk of spec.l05Any: some entry, whose data are short.
  The walk of spec.l05AnyConf: some list of few numbers, in memory of its own.
-/
import Derived.Test.YtohmfmajgehadaaGreatDoorJoint14
import Derived.Test.YtohmfmajgehadaaGreatDoorJoint16
import Derived.Test.YtohmfmajgehadaaGreatDoorJoint6
namespace Go.Proofs.YtohmfmajgehadaaGreatDoor
open Go.RowKit


set_option maxRecDepth 1000000 in
set_option maxHeartbeats 2000000 in
theorem l05Any_any (C : Nat) (w : World) (hc : CurAt w C) :
    Calls Tryz.prog 77 #[.pointer (some ⟨C, 0, none⟩)] w fun e w' => ∃ d : EntD, e = .returned (.agg #[.int .i64 d.term, .int .i64 d.kind, .string d.data]) ∧ d.Tame ∧ CurAt w' C ∧ w.grownBy w' (some C) := by
  have hCl := hc.lt
  have K0 := hid hc
  have G0 := hid (World.grownBy.refl w (some C))
  clear hc
  have be := below_more (Below.refl w.heap.size w) (.cells #[.int .i64 0, .int .i64 0, .string ⟨#[]⟩] 57)
  have hx1 : BlockIs (w.alloc (.cells #[.int .i64 0, .int .i64 0, .string ⟨#[]⟩] 57)) w.heap.size 57 [.int .i64 0, .int .i64 0, .string ⟨#[]⟩] := heap_alloc_new w _
  have K1 := hid (K0.out.below be)
  have G1 := hid (grown_below G0.out be)
  have Xr1 := hid hx1
  have Nr : Hid (C < w.heap.size) := (show _ < _ by omega)
  have Mr : Hid (w.heap.size ≤ w.heap.size) := (show _ ≤ _ by omega)
  clear be hx1  K0 G0
  obtain ⟨W0, hW0⟩ : ∃ W, w.alloc (.cells #[.int .i64 0, .int .i64 0, .string ⟨#[]⟩] 57) = W := ⟨_, rfl⟩
  rw [hW0] at K1 G1 Xr1
  have zr0_2 := Xr1.out.cell (j := 0) rfl
  have zr1_2 := Xr1.out.cell (j := 1) rfl
  have zr2_2 := Xr1.out.cell (j := 2) rfl
  have yr0_2 := Xr1.out.thaw 0
  have yr1_2 := Xr1.out.thaw 1
  have yr2_2 := Xr1.out.thaw 2
  go_enter Tryz.func77, Tryz.ntmps77
  go_wp2_with fail
  refine Calls.mono (l01Below_any C 9 (by omega) (by omega) _ K1.out) ?_
  rintro e w1 ⟨tm1, rfl, ha1, hb1, k1, q1⟩
  have K3 := hid (k1)
  have G3 := hid (G1.out.trans q1)
  have Xr3 := hid (Xr1.out.cur q1 Nr.out)
  clear k1 q1 K1 G1 zr0_2 zr1_2 zr2_2 yr0_2 yr1_2 yr2_2 Xr1
  have zr0_4 := Xr3.out.cell (j := 0) rfl
  have zr1_4 := Xr3.out.cell (j := 1) rfl
  have zr2_4 := Xr3.out.cell (j := 2) rfl
  have yr0_4 := Xr3.out.thaw 0
  have yr1_4 := Xr3.out.thaw 1
  have yr2_4 := Xr3.out.thaw 2
  go_wp2_with fail
  refine Calls.mono (l05Right_any C tm1 _ K3.out) ?_
  rintro e w2 ⟨d2, rfl, hs2, k2, q2⟩
  have K5 := hid (k2)
  have G5 := hid (G3.out.trans q2)
  have Xr5 := hid (Xr3.out.cur q2 Nr.out)
  clear k2 q2 K3 G3 zr0_4 zr1_4 zr2_4 yr0_4 yr1_4 yr2_4 Xr3
  have zr0_6 := Xr5.out.cell (j := 0) rfl
  have zr1_6 := Xr5.out.cell (j := 1) rfl
  have zr2_6 := Xr5.out.cell (j := 2) rfl
  have yr0_6 := Xr5.out.thaw 0
  have yr1_6 := Xr5.out.thaw 1
  have yr2_6 := Xr5.out.thaw 2
  obtain ⟨tm, kd, dt⟩ := d2
  obtain ⟨hs3, hs4, hs5, hs6, _⟩ := hs2
  dsimp only at hs3 hs4 hs5 hs6 ⊢
  have htm : 0 ≤ tm ∧ tm ≤ 9 := by omega
  clear hs3
  have ba := below_more (Below.refl w2.heap.size w2) (.cells #[.int .i64 tm, .int .i64 kd, .string dt] 57)
  have Me := hid G5.out.size
  have Ne := hid (Nat.lt_of_lt_of_le hCl G5.out.size)
  have hx : BlockIs (w2.alloc (.cells #[.int .i64 tm, .int .i64 kd, .string dt] 57)) w2.heap.size 57 [.int .i64 tm, .int .i64 kd, .string dt] := heap_alloc_new w2 _
  have Are := hid Xr5.out.lt
  have K7 := hid (K5.out.below ba)
  have G7 := hid (grown_below G5.out ba)
  have Xr7 := hid (Xr5.out.on ba Xr5.out.lt)
  have Xe7 := hid hx
  clear hx
  clear ba K5 G5 zr0_6 zr1_6 zr2_6 yr0_6 yr1_6 yr2_6 Xr5
  have zr0_8 := Xr7.out.cell (j := 0) rfl
  have zr1_8 := Xr7.out.cell (j := 1) rfl
  have zr2_8 := Xr7.out.cell (j := 2) rfl
  have yr0_8 := Xr7.out.thaw 0
  have yr1_8 := Xr7.out.thaw 1
  have yr2_8 := Xr7.out.thaw 2
  have ze0_8 := Xe7.out.cell (j := 0) rfl
  have ze1_8 := Xe7.out.cell (j := 1) rfl
  have ze2_8 := Xe7.out.cell (j := 2) rfl
  have ye0_8 := Xe7.out.thaw 0
  have ye1_8 := Xe7.out.thaw 1
  have ye2_8 := Xe7.out.thaw 2
  go_wp2_with fail
  refine Calls.mono (l01Below_any C 30 (by omega) (by omega) _ K7.out) ?_
  rintro e w3 ⟨y3, rfl, hy3, hz3, k3, q3⟩
  have K9 := hid (k3)
  have G9 := hid (G7.out.trans q3)
  have Xr9 := hid (Xr7.out.cur q3 Nr.out)
  have Xe9 := hid (Xe7.out.cur q3 Ne.out)
  clear k3 q3 K7 G7 zr0_8 zr1_8 zr2_8 yr0_8 yr1_8 yr2_8 ze0_8 ze1_8 ze2_8 ye0_8 ye1_8 ye2_8 Xr7 Xe7
  have zr0_10 := Xr9.out.cell (j := 0) rfl
  have zr1_10 := Xr9.out.cell (j := 1) rfl
  have zr2_10 := Xr9.out.cell (j := 2) rfl
  have yr0_10 := Xr9.out.thaw 0
  have yr1_10 := Xr9.out.thaw 1
  have yr2_10 := Xr9.out.thaw 2
  have ze0_10 := Xe9.out.cell (j := 0) rfl
  have ze1_10 := Xe9.out.cell (j := 1) rfl
  have ze2_10 := Xe9.out.cell (j := 2) rfl
  have ye0_10 := Xe9.out.thaw 0
  have ye1_10 := Xe9.out.thaw 1
  have ye2_10 := Xe9.out.thaw 2
  by_cases y0 : y3 = 0
  · subst y0
    go_wp2_with fail
    refine Calls.mono (pickI_any C [-1, 100000, 100001] (by decide) (by decide) 3 _ _ rfl K9.out) ?_
    rintro e w4 ⟨x4, rfl, hx4, k4, q4⟩
    have K11 := hid (k4)
    have G11 := hid (G9.out.trans q4)
    have Xr11 := hid (Xr9.out.cur q4 Nr.out)
    have Xe11 := hid (Xe9.out.cur q4 Ne.out)
    clear k4 q4 K9 G9 zr0_10 zr1_10 zr2_10 yr0_10 yr1_10 yr2_10 ze0_10 ze1_10 ze2_10 ye0_10 ye1_10 ye2_10 Xr9 Xe9
    have zr0_12 := Xr11.out.cell (j := 0) rfl
    have zr1_12 := Xr11.out.cell (j := 1) rfl
    have zr2_12 := Xr11.out.cell (j := 2) rfl
    have yr0_12 := Xr11.out.thaw 0
    have yr1_12 := Xr11.out.thaw 1
    have yr2_12 := Xr11.out.thaw 2
    have ze0_12 := Xe11.out.cell (j := 0) rfl
    have ze1_12 := Xe11.out.cell (j := 1) rfl
    have ze2_12 := Xe11.out.cell (j := 2) rfl
    have ye0_12 := Xe11.out.thaw 0
    have ye1_12 := Xe11.out.thaw 1
    have ye2_12 := Xe11.out.thaw 2
    have K13 := hid (K11.out.set (b := w2.heap.size) (j := 0) (v := (.int .i64 x4)) Ne.out)
    have G13 := hid (grown_far (b := w2.heap.size) (j := 0) (v := (.int .i64 x4)) G11.out Me.out)
    have Xr13 := hid (Xr11.out.far (b := w2.heap.size) (j := 0) (by have := Are.out; omega) (.int .i64 x4))
    have Xe13 : Hid (BlockIs (w4.setCell ⟨w2.heap.size, 0, none⟩ (.int .i64 x4)) (w2.heap.size) 57 [.int .i64 x4, .int .i64 kd, .string dt]) := Xe11.out.set 0 (.int .i64 x4)
    clear K11 G11 Xr11 Xe11
    have zr0_14 := Xr13.out.cell (j := 0) rfl
    have zr1_14 := Xr13.out.cell (j := 1) rfl
    have zr2_14 := Xr13.out.cell (j := 2) rfl
    have yr0_14 := Xr13.out.thaw 0
    have yr1_14 := Xr13.out.thaw 1
    have yr2_14 := Xr13.out.thaw 2
    have ze0_14 := Xe13.out.cell (j := 0) rfl
    have ze1_14 := Xe13.out.cell (j := 1) rfl
    have ze2_14 := Xe13.out.cell (j := 2) rfl
    have ye0_14 := Xe13.out.thaw 0
    have ye1_14 := Xe13.out.thaw 1
    have ye2_14 := Xe13.out.thaw 2
    have KL := hid (((K13.out.set (b := w.heap.size) (j := 0) (v := .int .i64 x4) Nr.out).set (b := w.heap.size) (j := 1) (v := .int .i64 kd) Nr.out).set (b := w.heap.size) (j := 2) (v := .string dt) Nr.out)
    have GL := hid (grown_far (b := w.heap.size) (j := 2) (v := .string dt) (grown_far (b := w.heap.size) (j := 1) (v := .int .i64 kd) (grown_far (b := w.heap.size) (j := 0) (v := .int .i64 x4) G13.out Mr.out) Mr.out) Mr.out)
    go_wp2
    refine bodyPost_ret (v := .agg #[.int .i64 x4, .int .i64 kd, .string dt]) (by simp [results, Tryz.results77, go_sem, zr0_14, zr1_14, zr2_14]) rfl ?_
    exact ⟨⟨x4, kd, dt⟩, rfl, tame_mk (by simp at hx4; omega) (by omega) (by omega), KL.out, GL.out⟩
  by_cases y1 : y3 = 1
  · subst y1
    clear y0
    go_wp2_with fail
    refine Calls.mono (pickI_any C [0, 4, 1, 2] (by decide) (by decide) 3 _ _ rfl K9.out) ?_
    rintro e w4 ⟨x4, rfl, hx4, k4, q4⟩
    have K11 := hid (k4)
    have G11 := hid (G9.out.trans q4)
    have Xr11 := hid (Xr9.out.cur q4 Nr.out)
    have Xe11 := hid (Xe9.out.cur q4 Ne.out)
    clear k4 q4 K9 G9 zr0_10 zr1_10 zr2_10 yr0_10 yr1_10 yr2_10 ze0_10 ze1_10 ze2_10 ye0_10 ye1_10 ye2_10 Xr9 Xe9
    have zr0_12 := Xr11.out.cell (j := 0) rfl
    have zr1_12 := Xr11.out.cell (j := 1) rfl
    have zr2_12 := Xr11.out.cell (j := 2) rfl
    have yr0_12 := Xr11.out.thaw 0
    have yr1_12 := Xr11.out.thaw 1
    have yr2_12 := Xr11.out.thaw 2
    have ze0_12 := Xe11.out.cell (j := 0) rfl
    have ze1_12 := Xe11.out.cell (j := 1) rfl
    have ze2_12 := Xe11.out.cell (j := 2) rfl
    have ye0_12 := Xe11.out.thaw 0
    have ye1_12 := Xe11.out.thaw 1
    have ye2_12 := Xe11.out.thaw 2
    have K13 := hid (K11.out.set (b := w2.heap.size) (j := 1) (v := (.int .i64 x4)) Ne.out)
    have G13 := hid (grown_far (b := w2.heap.size) (j := 1) (v := (.int .i64 x4)) G11.out Me.out)
    have Xr13 := hid (Xr11.out.far (b := w2.heap.size) (j := 1) (by have := Are.out; omega) (.int .i64 x4))
    have Xe13 : Hid (BlockIs (w4.setCell ⟨w2.heap.size, 1, none⟩ (.int .i64 x4)) (w2.heap.size) 57 [.int .i64 tm, .int .i64 x4, .string dt]) := Xe11.out.set 1 (.int .i64 x4)
    clear K11 G11 Xr11 Xe11
    have zr0_14 := Xr13.out.cell (j := 0) rfl
    have zr1_14 := Xr13.out.cell (j := 1) rfl
    have zr2_14 := Xr13.out.cell (j := 2) rfl
    have yr0_14 := Xr13.out.thaw 0
    have yr1_14 := Xr13.out.thaw 1
    have yr2_14 := Xr13.out.thaw 2
    have ze0_14 := Xe13.out.cell (j := 0) rfl
    have ze1_14 := Xe13.out.cell (j := 1) rfl
    have ze2_14 := Xe13.out.cell (j := 2) rfl
    have ye0_14 := Xe13.out.thaw 0
    have ye1_14 := Xe13.out.thaw 1
    have ye2_14 := Xe13.out.thaw 2
    have KL := hid (((K13.out.set (b := w.heap.size) (j := 0) (v := .int .i64 tm) Nr.out).set (b := w.heap.size) (j := 1) (v := .int .i64 x4) Nr.out).set (b := w.heap.size) (j := 2) (v := .string dt) Nr.out)
    have GL := hid (grown_far (b := w.heap.size) (j := 2) (v := .string dt) (grown_far (b := w.heap.size) (j := 1) (v := .int .i64 x4) (grown_far (b := w.heap.size) (j := 0) (v := .int .i64 tm) G13.out Mr.out) Mr.out) Mr.out)
    go_wp2
    refine bodyPost_ret (v := .agg #[.int .i64 tm, .int .i64 x4, .string dt]) (by simp [results, Tryz.results77, go_sem, zr0_14, zr1_14, zr2_14]) rfl ?_
    exact ⟨⟨tm, x4, dt⟩, rfl, tame_mk (by omega) (by simp at hx4; omega) (by omega), KL.out, GL.out⟩
  by_cases y2 : y3 = 2
  · subst y2
    clear y0 y1
    go_wp2_with fail
    refine Calls.mono (l01Below_any C 2 (by omega) (by omega) _ K9.out) ?_
    rintro e w4 ⟨x4, rfl, hx4, hw4, k4, q4⟩
    have K11 := hid (k4)
    have G11 := hid (G9.out.trans q4)
    have Xr11 := hid (Xr9.out.cur q4 Nr.out)
    have Xe11 := hid (Xe9.out.cur q4 Ne.out)
    clear k4 q4 K9 G9 zr0_10 zr1_10 zr2_10 yr0_10 yr1_10 yr2_10 ze0_10 ze1_10 ze2_10 ye0_10 ye1_10 ye2_10 Xr9 Xe9
    have zr0_12 := Xr11.out.cell (j := 0) rfl
    have zr1_12 := Xr11.out.cell (j := 1) rfl
    have zr2_12 := Xr11.out.cell (j := 2) rfl
    have yr0_12 := Xr11.out.thaw 0
    have yr1_12 := Xr11.out.thaw 1
    have yr2_12 := Xr11.out.thaw 2
    have ze0_12 := Xe11.out.cell (j := 0) rfl
    have ze1_12 := Xe11.out.cell (j := 1) rfl
    have ze2_12 := Xe11.out.cell (j := 2) rfl
    have ye0_12 := Xe11.out.thaw 0
    have ye1_12 := Xe11.out.thaw 1
    have ye2_12 := Xe11.out.thaw 2
    obtain ⟨n9, hn9⟩ : ∃ n : Nat, 120 + x4 = (n : Int) := ⟨(120 + x4).toNat, by omega⟩
    have hn10 : n9 ≤ 200 := by omega
    go_wp2_with fail
    refine Calls.mono (l01Long_any n9 (by omega) 65 (by omega) (by omega) _) ?_
    rintro e w5 ⟨T, rfl, hT, b5⟩
    have K13 := hid (K11.out.below b5)
    have G13 := hid (grown_below G11.out b5)
    have Xr13 := hid (Xr11.out.on b5 Xr11.out.lt)
    have Xe13 := hid (Xe11.out.on b5 Xe11.out.lt)
    clear b5 K11 G11 zr0_12 zr1_12 zr2_12 yr0_12 yr1_12 yr2_12 ze0_12 ze1_12 ze2_12 ye0_12 ye1_12 ye2_12 Xr11 Xe11
    have zr0_14 := Xr13.out.cell (j := 0) rfl
    have zr1_14 := Xr13.out.cell (j := 1) rfl
    have zr2_14 := Xr13.out.cell (j := 2) rfl
    have yr0_14 := Xr13.out.thaw 0
    have yr1_14 := Xr13.out.thaw 1
    have yr2_14 := Xr13.out.thaw 2
    have ze0_14 := Xe13.out.cell (j := 0) rfl
    have ze1_14 := Xe13.out.cell (j := 1) rfl
    have ze2_14 := Xe13.out.cell (j := 2) rfl
    have ye0_14 := Xe13.out.thaw 0
    have ye1_14 := Xe13.out.thaw 1
    have ye2_14 := Xe13.out.thaw 2
    have K15 := hid (K13.out.set (b := w2.heap.size) (j := 0) (v := (.int .i64 0)) Ne.out)
    have G15 := hid (grown_far (b := w2.heap.size) (j := 0) (v := (.int .i64 0)) G13.out Me.out)
    have Xr15 := hid (Xr13.out.far (b := w2.heap.size) (j := 0) (by have := Are.out; omega) (.int .i64 0))
    have Xe15 : Hid (BlockIs (w5.setCell ⟨w2.heap.size, 0, none⟩ (.int .i64 0)) (w2.heap.size) 57 [.int .i64 0, .int .i64 kd, .string dt]) := Xe13.out.set 0 (.int .i64 0)
    clear K13 G13 Xr13 Xe13
    have zr0_16 := Xr15.out.cell (j := 0) rfl
    have zr1_16 := Xr15.out.cell (j := 1) rfl
    have zr2_16 := Xr15.out.cell (j := 2) rfl
    have yr0_16 := Xr15.out.thaw 0
    have yr1_16 := Xr15.out.thaw 1
    have yr2_16 := Xr15.out.thaw 2
    have ze0_16 := Xe15.out.cell (j := 0) rfl
    have ze1_16 := Xe15.out.cell (j := 1) rfl
    have ze2_16 := Xe15.out.cell (j := 2) rfl
    have ye0_16 := Xe15.out.thaw 0
    have ye1_16 := Xe15.out.thaw 1
    have ye2_16 := Xe15.out.thaw 2
    have K17 := hid (K15.out.set (b := w2.heap.size) (j := 1) (v := (.int .i64 3)) Ne.out)
    have G17 := hid (grown_far (b := w2.heap.size) (j := 1) (v := (.int .i64 3)) G15.out Me.out)
    have Xr17 := hid (Xr15.out.far (b := w2.heap.size) (j := 1) (by have := Are.out; omega) (.int .i64 3))
    have Xe17 : Hid (BlockIs ((w5.setCell ⟨w2.heap.size, 0, none⟩ (.int .i64 0)).setCell ⟨w2.heap.size, 1, none⟩ (.int .i64 3)) (w2.heap.size) 57 [.int .i64 0, .int .i64 3, .string dt]) := Xe15.out.set 1 (.int .i64 3)
    clear K15 G15 Xr15 Xe15
    have zr0_18 := Xr17.out.cell (j := 0) rfl
    have zr1_18 := Xr17.out.cell (j := 1) rfl
    have zr2_18 := Xr17.out.cell (j := 2) rfl
    have yr0_18 := Xr17.out.thaw 0
    have yr1_18 := Xr17.out.thaw 1
    have yr2_18 := Xr17.out.thaw 2
    have ze0_18 := Xe17.out.cell (j := 0) rfl
    have ze1_18 := Xe17.out.cell (j := 1) rfl
    have ze2_18 := Xe17.out.cell (j := 2) rfl
    have ye0_18 := Xe17.out.thaw 0
    have ye1_18 := Xe17.out.thaw 1
    have ye2_18 := Xe17.out.thaw 2
    have K19 := hid (K17.out.set (b := w2.heap.size) (j := 2) (v := (.string T)) Ne.out)
    have G19 := hid (grown_far (b := w2.heap.size) (j := 2) (v := (.string T)) G17.out Me.out)
    have Xr19 := hid (Xr17.out.far (b := w2.heap.size) (j := 2) (by have := Are.out; omega) (.string T))
    have Xe19 : Hid (BlockIs (((w5.setCell ⟨w2.heap.size, 0, none⟩ (.int .i64 0)).setCell ⟨w2.heap.size, 1, none⟩ (.int .i64 3)).setCell ⟨w2.heap.size, 2, none⟩ (.string T)) (w2.heap.size) 57 [.int .i64 0, .int .i64 3, .string T]) := Xe17.out.set 2 (.string T)
    clear K17 G17 Xr17 Xe17
    have zr0_20 := Xr19.out.cell (j := 0) rfl
    have zr1_20 := Xr19.out.cell (j := 1) rfl
    have zr2_20 := Xr19.out.cell (j := 2) rfl
    have yr0_20 := Xr19.out.thaw 0
    have yr1_20 := Xr19.out.thaw 1
    have yr2_20 := Xr19.out.thaw 2
    have ze0_20 := Xe19.out.cell (j := 0) rfl
    have ze1_20 := Xe19.out.cell (j := 1) rfl
    have ze2_20 := Xe19.out.cell (j := 2) rfl
    have ye0_20 := Xe19.out.thaw 0
    have ye1_20 := Xe19.out.thaw 1
    have ye2_20 := Xe19.out.thaw 2
    have KL := hid (((K19.out.set (b := w.heap.size) (j := 0) (v := .int .i64 0) Nr.out).set (b := w.heap.size) (j := 1) (v := .int .i64 3) Nr.out).set (b := w.heap.size) (j := 2) (v := .string T) Nr.out)
    have GL := hid (grown_far (b := w.heap.size) (j := 2) (v := .string T) (grown_far (b := w.heap.size) (j := 1) (v := .int .i64 3) (grown_far (b := w.heap.size) (j := 0) (v := .int .i64 0) G19.out Mr.out) Mr.out) Mr.out)
    go_wp2
    refine bodyPost_ret (v := .agg #[.int .i64 0, .int .i64 3, .string T]) (by simp [results, Tryz.results77, go_sem, zr0_20, zr1_20, zr2_20]) rfl ?_
    exact ⟨⟨0, 3, T⟩, rfl, tame_mk (by omega) (by omega) (by omega), KL.out, GL.out⟩
  have y0' : (y3 == 0) = false := by simpa using y0
  have y1' : (y3 == 1) = false := by simpa using y1
  have y2' : (y3 == 2) = false := by simpa using y2
  have KL := hid (((K9.out.set (b := w.heap.size) (j := 0) (v := .int .i64 tm) Nr.out).set (b := w.heap.size) (j := 1) (v := .int .i64 kd) Nr.out).set (b := w.heap.size) (j := 2) (v := .string dt) Nr.out)
  have GL := hid (grown_far (b := w.heap.size) (j := 2) (v := .string dt) (grown_far (b := w.heap.size) (j := 1) (v := .int .i64 kd) (grown_far (b := w.heap.size) (j := 0) (v := .int .i64 tm) G9.out Mr.out) Mr.out) Mr.out)
  go_wp2
  refine bodyPost_ret (v := .agg #[.int .i64 tm, .int .i64 kd, .string dt]) (by simp [results, Tryz.results77, go_sem, zr0_10, zr1_10, zr2_10]) rfl ?_
  exact ⟨⟨tm, kd, dt⟩, rfl, tame_mk (by omega) (by omega) (by omega), KL.out, GL.out⟩
end Go.Proofs.YtohmfmajgehadaaGreatDoor

namespace Go.Proofs.YtohmfmajgehadaaGreatDoor
open Go.RowKit

set_option maxRecDepth 1000000 in
set_option maxHeartbeats 1000000 in
theorem l05AnyConf_any (C : Nat) (w : World) (hc : CurAt w C) : Calls Tryz.prog 79 #[.pointer (some ⟨C, 0, none⟩)] w (ConfDid w C) := by
  obtain ⟨i0, hi, hz0, hz1, hz2⟩ := info_parts places_info3
  have hCl := hc.lt
  have K0 := hid hc
  clear hc
  go_enter Tryz.func79, Tryz.ntmps79
  go_wp2_with fail
  refine (l05Conf_any C w K0.out).mono ?_
  rintro e w1 ⟨v, zs, rfl, HZ, ⟨hz5, _⟩, hown, k1, q1⟩
  obtain ⟨a1, c1, rfl⟩ := row_shape hown
  have K1 := hid k1
  have G1 := hid q1
  have HZ1 := hid HZ
  have HO1 := hid hown
  clear k1 q1 hown HZ
  go_wp2_with fail
  refine (l01Below_any C 12 (by omega) (by omega) _ K1.out).mono ?_
  rintro e w2 ⟨y, rfl, y0, y1, k2, q2⟩
  have K2 := hid k2
  have G2 := hid (G1.out.trans q2)
  have HO2 := hid (kept_cur3 HO1.out q2 hCl)
  clear k2 q2 HO1 K1 G1
  by_cases h0 : y = 0
  · subst h0
    go_wp2_with fail
    refine Calls.mono (pickI_any C [0, 4, 5, 1] (by decide) (by decide) 3 _ _ rfl K2.out) ?_
    rintro e w3 ⟨x, rfl, hx, k3, q3⟩
    have hown3 := kept_cur3 HO2.out q3 hCl
    have hsz3 := (G2.out.trans q3).size
    have hxb : -10 ≤ x ∧ x ≤ 10 := by simp at hx; omega
    have K3 := hid k3
    have G3 := hid (G2.out.trans q3)
    clear k3 q3 hx K2 G2 HO2
    go_wp2_with (at_builtin; refine wpList_append_own _ rfl (.tmp 10) (.tmp 14) 36 rfl w.heap.size 3 i0 (.int .i64 0) 1 8 Tryz.underlying36 hi hz0 hz1 hz2 rfl (by decide) _ _ _ rfl (hown3.alloc _) ⟨w3.heap.size, 0, none⟩ 1 1 [.int .i64 x] rfl rfl (one_new _ _ _) (by intro u hu; simp at hu; subst hu; rfl) (by unfold maxLen; omega) (by omega) (by simp; omega) ?_)
    intro v' w4 hown' hgrow _
    obtain ⟨r2, r3, r4⟩ := places_step hCl (Nat.le_refl _) G3.out K3.out (World.grownBy.refl w3 (some C)) hown' hgrow (fun j hj => (hown3.lt j hj).1)
    have R2 : Hid (w4.ownsRow w.heap.size 3 1 v' (zs ++ [x]).length (is (zs ++ [x]))) := by show World.ownsRow _ _ _ _ _ _ _; rw [show (zs ++ [x]).length = zs.length + 1 by simp]; exact r2
    have RZ := hid (HZ1.out.more hz5 hxb)
    have R3 := hid r3
    have R4 := hid r4
    clear hown' hgrow hown3 r2 r3 r4
    go_wp2
    go_ret
    exact ⟨_, zs ++ [x], rfl, RZ.out, R2.out, R3.out, R4.out⟩
  · by_cases h1 : y = 1
    · subst h1
      have HN : Hid ((w2.alloc (.cells #[] 3)).ownsRow w2.heap.size 3 1 (.slice (some ⟨w2.heap.size, 0, none⟩) 0 0) 0 []) := World.ownsRow_made w2 #[] 0 (Nat.le_refl _) (Nat.zero_le _) rfl
      have K3 := hid (K2.out.kept (World.grownBy_alloc w2 (.cells #[] 3) none) (fun j h => by cases h))
      have G3 := hid (G2.out.trans (World.grownBy_alloc w2 (.cells #[] 3) (some C)))
      have hsz := hid G2.out.size
      go_wp2
      go_ret
      exact ⟨_, [], rfl, ⟨by simp, fun z hz => by simp at hz⟩, row_down HN.out hsz.out, K3.out, G3.out⟩
    · go_wp2
      go_ret
      exact ⟨_, zs, rfl, HZ1.out, HO2.out, K2.out, G2.out⟩
end Go.Proofs.YtohmfmajgehadaaGreatDoor
