/-
  The walk of spec.l10Cell: some frame, whose body is short.
-/
import Derived.Test.YtneociicjidcnaaDoorDataCell
import Derived.Test.YtneociicjidcnaaDoorDrawInt
import Derived.Test.YtneociicjidcnaaDoorCurText
import Derived.Test.YtneociicjidcnaaDoorCurLong
namespace Go.Proofs.YtneociicjidcnaaDoor
open Go.RowKit

set_option maxRecDepth 1000000 in
set_option maxHeartbeats 4000000 in
theorem l10Cell_any (C : Nat) (w : World) (hc : CurAt w C) :
    Calls Tryd.prog 20 #[.pointer (some ⟨C, 0, none⟩)] w fun e w' => ∃ d : CellD, e = .returned (.agg #[.int .i64 d.dst, .int .i64 d.src, .int .i64 d.kd, .string d.body]) ∧ d.body.size ≤ 61 ∧ CurAt w' C ∧ w.grownBy w' (some C) := by
  have hCl := hc.lt
  have K0 := hid hc
  have G0 := hid (World.grownBy.refl w (some C))
  clear hc
  have be := below_more (Below.refl w.heap.size w) (.cells #[.int .i64 0, .int .i64 0, .int .i64 0, .string ⟨#[]⟩] 25)
  have hx1 : BlockIs (w.alloc (.cells #[.int .i64 0, .int .i64 0, .int .i64 0, .string ⟨#[]⟩] 25)) w.heap.size 25 [.int .i64 0, .int .i64 0, .int .i64 0, .string ⟨#[]⟩] := heap_alloc_new w _
  have K1 := hid (K0.out.below be)
  have G1 := hid (grown_below G0.out be)
  have Xr1 := hid hx1
  have Nr : Hid (C < w.heap.size) := (show _ < _ by omega)
  have Mr : Hid (w.heap.size ≤ w.heap.size) := (show _ ≤ _ by omega)
  clear be hx1  K0 G0
  obtain ⟨W0, hW0⟩ : ∃ W, w.alloc (.cells #[.int .i64 0, .int .i64 0, .int .i64 0, .string ⟨#[]⟩] 25) = W := ⟨_, rfl⟩
  rw [hW0] at K1 G1 Xr1
  have zr0_2 := Xr1.out.cell (j := 0) rfl
  have zr1_2 := Xr1.out.cell (j := 1) rfl
  have zr2_2 := Xr1.out.cell (j := 2) rfl
  have zr3_2 := Xr1.out.cell (j := 3) rfl
  have yr0_2 := Xr1.out.thaw 0
  have yr1_2 := Xr1.out.thaw 1
  have yr2_2 := Xr1.out.thaw 2
  have yr3_2 := Xr1.out.thaw 3
  go_enter Tryd.func20, Tryd.ntmps20
  go_wp2_with fail
  refine Calls.mono (l01Below_any C 4 (by omega) (by omega) _ K1.out) ?_
  rintro e w1 ⟨y1, rfl, lo1, hi1, k1, q1⟩
  have K3 := hid (k1)
  have G3 := hid (G1.out.trans q1)
  have Xr3 := hid (Xr1.out.cur q1 Nr.out)
  clear k1 q1 K1 G1 zr0_2 zr1_2 zr2_2 zr3_2 yr0_2 yr1_2 yr2_2 yr3_2 Xr1
  have zr0_4 := Xr3.out.cell (j := 0) rfl
  have zr1_4 := Xr3.out.cell (j := 1) rfl
  have zr2_4 := Xr3.out.cell (j := 2) rfl
  have zr3_4 := Xr3.out.cell (j := 3) rfl
  have yr0_4 := Xr3.out.thaw 0
  have yr1_4 := Xr3.out.thaw 1
  have yr2_4 := Xr3.out.thaw 2
  have yr3_4 := Xr3.out.thaw 3
  go_wp2_with fail
  refine Calls.mono (l01Below_any C 3 (by omega) (by omega) _ K3.out) ?_
  rintro e w2 ⟨y2, rfl, lo2, hi2, k2, q2⟩
  have K5 := hid (k2)
  have G5 := hid (G3.out.trans q2)
  have Xr5 := hid (Xr3.out.cur q2 Nr.out)
  clear k2 q2 K3 G3 zr0_4 zr1_4 zr2_4 zr3_4 yr0_4 yr1_4 yr2_4 yr3_4 Xr3
  have zr0_6 := Xr5.out.cell (j := 0) rfl
  have zr1_6 := Xr5.out.cell (j := 1) rfl
  have zr2_6 := Xr5.out.cell (j := 2) rfl
  have zr3_6 := Xr5.out.cell (j := 3) rfl
  have yr0_6 := Xr5.out.thaw 0
  have yr1_6 := Xr5.out.thaw 1
  have yr2_6 := Xr5.out.thaw 2
  have yr3_6 := Xr5.out.thaw 3
  go_wp2_with fail
  refine Calls.mono (l01Below_any C 3 (by omega) (by omega) _ K5.out) ?_
  rintro e w3 ⟨y3, rfl, lo3, hi3, k3, q3⟩
  have K7 := hid (k3)
  have G7 := hid (G5.out.trans q3)
  have Xr7 := hid (Xr5.out.cur q3 Nr.out)
  clear k3 q3 K5 G5 zr0_6 zr1_6 zr2_6 zr3_6 yr0_6 yr1_6 yr2_6 yr3_6 Xr5
  have zr0_8 := Xr7.out.cell (j := 0) rfl
  have zr1_8 := Xr7.out.cell (j := 1) rfl
  have zr2_8 := Xr7.out.cell (j := 2) rfl
  have zr3_8 := Xr7.out.cell (j := 3) rfl
  have yr0_8 := Xr7.out.thaw 0
  have yr1_8 := Xr7.out.thaw 1
  have yr2_8 := Xr7.out.thaw 2
  have yr3_8 := Xr7.out.thaw 3
  go_wp2_with fail
  refine Calls.mono (l01Below_any C 9 (by omega) (by omega) _ K7.out) ?_
  rintro e w4 ⟨y4, rfl, lo4, hi4, k4, q4⟩
  have K9 := hid (k4)
  have G9 := hid (G7.out.trans q4)
  have Xr9 := hid (Xr7.out.cur q4 Nr.out)
  clear k4 q4 K7 G7 zr0_8 zr1_8 zr2_8 zr3_8 yr0_8 yr1_8 yr2_8 yr3_8 Xr7
  have zr0_10 := Xr9.out.cell (j := 0) rfl
  have zr1_10 := Xr9.out.cell (j := 1) rfl
  have zr2_10 := Xr9.out.cell (j := 2) rfl
  have zr3_10 := Xr9.out.cell (j := 3) rfl
  have yr0_10 := Xr9.out.thaw 0
  have yr1_10 := Xr9.out.thaw 1
  have yr2_10 := Xr9.out.thaw 2
  have yr3_10 := Xr9.out.thaw 3
  obtain ⟨n4, rfl⟩ : ∃ n : Nat, y4 = n := ⟨y4.toNat, by omega⟩
  go_wp2_with fail
  refine Calls.mono (l01Text_any C n4 (by omega) _ K9.out) ?_
  rintro e w5 ⟨s5, rfl, hs5, k5, q5⟩
  have K11 := hid (k5)
  have G11 := hid (G9.out.trans q5)
  have Xr11 := hid (Xr9.out.cur q5 Nr.out)
  clear k5 q5 K9 G9 zr0_10 zr1_10 zr2_10 zr3_10 yr0_10 yr1_10 yr2_10 yr3_10 Xr9
  have zr0_12 := Xr11.out.cell (j := 0) rfl
  have zr1_12 := Xr11.out.cell (j := 1) rfl
  have zr2_12 := Xr11.out.cell (j := 2) rfl
  have zr3_12 := Xr11.out.cell (j := 3) rfl
  have yr0_12 := Xr11.out.thaw 0
  have yr1_12 := Xr11.out.thaw 1
  have yr2_12 := Xr11.out.thaw 2
  have yr3_12 := Xr11.out.thaw 3
  have hs : s5.size ≤ 61 := by omega
  clear hs5
  have ba := below_more (Below.refl w5.heap.size w5) (.cells #[.int .i64 y1, .int .i64 (1 + y2), .int .i64 (1 + y3), .string s5] 25)
  have Mx := hid G11.out.size
  have Nx := hid (Nat.lt_of_lt_of_le hCl G11.out.size)
  have hx : BlockIs (w5.alloc (.cells #[.int .i64 y1, .int .i64 (1 + y2), .int .i64 (1 + y3), .string s5] 25)) w5.heap.size 25 [.int .i64 y1, .int .i64 (1 + y2), .int .i64 (1 + y3), .string s5] := heap_alloc_new w5 _
  have Arx := hid Xr11.out.lt
  have K13 := hid (K11.out.below ba)
  have G13 := hid (grown_below G11.out ba)
  have Xr13 := hid (Xr11.out.on ba Xr11.out.lt)
  have Xx13 := hid hx
  clear hx
  clear ba K11 G11 zr0_12 zr1_12 zr2_12 zr3_12 yr0_12 yr1_12 yr2_12 yr3_12 Xr11
  have zr0_14 := Xr13.out.cell (j := 0) rfl
  have zr1_14 := Xr13.out.cell (j := 1) rfl
  have zr2_14 := Xr13.out.cell (j := 2) rfl
  have zr3_14 := Xr13.out.cell (j := 3) rfl
  have yr0_14 := Xr13.out.thaw 0
  have yr1_14 := Xr13.out.thaw 1
  have yr2_14 := Xr13.out.thaw 2
  have yr3_14 := Xr13.out.thaw 3
  have zx0_14 := Xx13.out.cell (j := 0) rfl
  have zx1_14 := Xx13.out.cell (j := 1) rfl
  have zx2_14 := Xx13.out.cell (j := 2) rfl
  have zx3_14 := Xx13.out.cell (j := 3) rfl
  have yx0_14 := Xx13.out.thaw 0
  have yx1_14 := Xx13.out.thaw 1
  have yx2_14 := Xx13.out.thaw 2
  have yx3_14 := Xx13.out.thaw 3
  go_wp2_with fail
  refine Calls.mono (l01Below_any C 16 (by omega) (by omega) _ K13.out) ?_
  rintro e w6 ⟨y6, rfl, lo6, hi6, k6, q6⟩
  have K15 := hid (k6)
  have G15 := hid (G13.out.trans q6)
  have Xr15 := hid (Xr13.out.cur q6 Nr.out)
  have Xx15 := hid (Xx13.out.cur q6 Nx.out)
  clear k6 q6 K13 G13 zr0_14 zr1_14 zr2_14 zr3_14 yr0_14 yr1_14 yr2_14 yr3_14 zx0_14 zx1_14 zx2_14 zx3_14 yx0_14 yx1_14 yx2_14 yx3_14 Xr13 Xx13
  have zr0_16 := Xr15.out.cell (j := 0) rfl
  have zr1_16 := Xr15.out.cell (j := 1) rfl
  have zr2_16 := Xr15.out.cell (j := 2) rfl
  have zr3_16 := Xr15.out.cell (j := 3) rfl
  have yr0_16 := Xr15.out.thaw 0
  have yr1_16 := Xr15.out.thaw 1
  have yr2_16 := Xr15.out.thaw 2
  have yr3_16 := Xr15.out.thaw 3
  have zx0_16 := Xx15.out.cell (j := 0) rfl
  have zx1_16 := Xx15.out.cell (j := 1) rfl
  have zx2_16 := Xx15.out.cell (j := 2) rfl
  have zx3_16 := Xx15.out.cell (j := 3) rfl
  have yx0_16 := Xx15.out.thaw 0
  have yx1_16 := Xx15.out.thaw 1
  have yx2_16 := Xx15.out.thaw 2
  have yx3_16 := Xx15.out.thaw 3
  by_cases h0 : y6 = 0
  · subst h0
    go_wp2_with fail
    refine Calls.mono (pickI_any C [-1, 99, 100] (by decide) (by decide) 3 _ _ rfl K15.out) ?_
    rintro e w7 ⟨v7, rfl, hv7, k7, q7⟩
    have K17 := hid (k7)
    have G17 := hid (G15.out.trans q7)
    have Xr17 := hid (Xr15.out.cur q7 Nr.out)
    have Xx17 := hid (Xx15.out.cur q7 Nx.out)
    clear k7 q7 K15 G15 zr0_16 zr1_16 zr2_16 zr3_16 yr0_16 yr1_16 yr2_16 yr3_16 zx0_16 zx1_16 zx2_16 zx3_16 yx0_16 yx1_16 yx2_16 yx3_16 Xr15 Xx15
    have zr0_18 := Xr17.out.cell (j := 0) rfl
    have zr1_18 := Xr17.out.cell (j := 1) rfl
    have zr2_18 := Xr17.out.cell (j := 2) rfl
    have zr3_18 := Xr17.out.cell (j := 3) rfl
    have yr0_18 := Xr17.out.thaw 0
    have yr1_18 := Xr17.out.thaw 1
    have yr2_18 := Xr17.out.thaw 2
    have yr3_18 := Xr17.out.thaw 3
    have zx0_18 := Xx17.out.cell (j := 0) rfl
    have zx1_18 := Xx17.out.cell (j := 1) rfl
    have zx2_18 := Xx17.out.cell (j := 2) rfl
    have zx3_18 := Xx17.out.cell (j := 3) rfl
    have yx0_18 := Xx17.out.thaw 0
    have yx1_18 := Xx17.out.thaw 1
    have yx2_18 := Xx17.out.thaw 2
    have yx3_18 := Xx17.out.thaw 3
    have K19 := hid (K17.out.set (b := w5.heap.size) (j := 0) (v := (.int .i64 v7)) Nx.out)
    have G19 := hid (grown_far (b := w5.heap.size) (j := 0) (v := (.int .i64 v7)) G17.out Mx.out)
    have Xr19 := hid (Xr17.out.far (b := w5.heap.size) (j := 0) (by have := Arx.out; omega) (.int .i64 v7))
    have Xx19 : Hid (BlockIs (w7.setCell ⟨w5.heap.size, 0, none⟩ (.int .i64 v7)) (w5.heap.size) 25 [.int .i64 v7, .int .i64 (1 + y2), .int .i64 (1 + y3), .string s5]) := Xx17.out.set 0 (.int .i64 v7)
    clear K17 G17 Xr17 Xx17
    have zr0_20 := Xr19.out.cell (j := 0) rfl
    have zr1_20 := Xr19.out.cell (j := 1) rfl
    have zr2_20 := Xr19.out.cell (j := 2) rfl
    have zr3_20 := Xr19.out.cell (j := 3) rfl
    have yr0_20 := Xr19.out.thaw 0
    have yr1_20 := Xr19.out.thaw 1
    have yr2_20 := Xr19.out.thaw 2
    have yr3_20 := Xr19.out.thaw 3
    have zx0_20 := Xx19.out.cell (j := 0) rfl
    have zx1_20 := Xx19.out.cell (j := 1) rfl
    have zx2_20 := Xx19.out.cell (j := 2) rfl
    have zx3_20 := Xx19.out.cell (j := 3) rfl
    have yx0_20 := Xx19.out.thaw 0
    have yx1_20 := Xx19.out.thaw 1
    have yx2_20 := Xx19.out.thaw 2
    have yx3_20 := Xx19.out.thaw 3
    have KL := hid ((((K19.out.set (b := w.heap.size) (j := 0) (v := .int .i64 v7) Nr.out).set (b := w.heap.size) (j := 1) (v := .int .i64 (1 + y2)) Nr.out).set (b := w.heap.size) (j := 2) (v := .int .i64 (1 + y3)) Nr.out).set (b := w.heap.size) (j := 3) (v := .string s5) Nr.out)
    have GL := hid (grown_far (b := w.heap.size) (j := 3) (v := .string s5) (grown_far (b := w.heap.size) (j := 2) (v := .int .i64 (1 + y3)) (grown_far (b := w.heap.size) (j := 1) (v := .int .i64 (1 + y2)) (grown_far (b := w.heap.size) (j := 0) (v := .int .i64 v7) G19.out Mr.out) Mr.out) Mr.out) Mr.out)
    go_wp2
    refine bodyPost_ret (v := .agg #[.int .i64 v7, .int .i64 (1 + y2), .int .i64 (1 + y3), .string s5]) (by simp [results, Tryd.results20, go_sem, zr0_20, zr1_20, zr2_20, zr3_20]) rfl ?_
    exact ⟨⟨v7, (1 + y2), (1 + y3), s5⟩, rfl, hs, KL.out, GL.out⟩
  by_cases h1 : y6 = 1
  · subst h1
    go_wp2_with fail
    refine Calls.mono (pickI_any C [0, 99, 100] (by decide) (by decide) 3 _ _ rfl K15.out) ?_
    rintro e w7 ⟨v7, rfl, hv7, k7, q7⟩
    have K17 := hid (k7)
    have G17 := hid (G15.out.trans q7)
    have Xr17 := hid (Xr15.out.cur q7 Nr.out)
    have Xx17 := hid (Xx15.out.cur q7 Nx.out)
    clear k7 q7 K15 G15 zr0_16 zr1_16 zr2_16 zr3_16 yr0_16 yr1_16 yr2_16 yr3_16 zx0_16 zx1_16 zx2_16 zx3_16 yx0_16 yx1_16 yx2_16 yx3_16 Xr15 Xx15
    have zr0_18 := Xr17.out.cell (j := 0) rfl
    have zr1_18 := Xr17.out.cell (j := 1) rfl
    have zr2_18 := Xr17.out.cell (j := 2) rfl
    have zr3_18 := Xr17.out.cell (j := 3) rfl
    have yr0_18 := Xr17.out.thaw 0
    have yr1_18 := Xr17.out.thaw 1
    have yr2_18 := Xr17.out.thaw 2
    have yr3_18 := Xr17.out.thaw 3
    have zx0_18 := Xx17.out.cell (j := 0) rfl
    have zx1_18 := Xx17.out.cell (j := 1) rfl
    have zx2_18 := Xx17.out.cell (j := 2) rfl
    have zx3_18 := Xx17.out.cell (j := 3) rfl
    have yx0_18 := Xx17.out.thaw 0
    have yx1_18 := Xx17.out.thaw 1
    have yx2_18 := Xx17.out.thaw 2
    have yx3_18 := Xx17.out.thaw 3
    have K19 := hid (K17.out.set (b := w5.heap.size) (j := 1) (v := (.int .i64 v7)) Nx.out)
    have G19 := hid (grown_far (b := w5.heap.size) (j := 1) (v := (.int .i64 v7)) G17.out Mx.out)
    have Xr19 := hid (Xr17.out.far (b := w5.heap.size) (j := 1) (by have := Arx.out; omega) (.int .i64 v7))
    have Xx19 : Hid (BlockIs (w7.setCell ⟨w5.heap.size, 1, none⟩ (.int .i64 v7)) (w5.heap.size) 25 [.int .i64 y1, .int .i64 v7, .int .i64 (1 + y3), .string s5]) := Xx17.out.set 1 (.int .i64 v7)
    clear K17 G17 Xr17 Xx17
    have zr0_20 := Xr19.out.cell (j := 0) rfl
    have zr1_20 := Xr19.out.cell (j := 1) rfl
    have zr2_20 := Xr19.out.cell (j := 2) rfl
    have zr3_20 := Xr19.out.cell (j := 3) rfl
    have yr0_20 := Xr19.out.thaw 0
    have yr1_20 := Xr19.out.thaw 1
    have yr2_20 := Xr19.out.thaw 2
    have yr3_20 := Xr19.out.thaw 3
    have zx0_20 := Xx19.out.cell (j := 0) rfl
    have zx1_20 := Xx19.out.cell (j := 1) rfl
    have zx2_20 := Xx19.out.cell (j := 2) rfl
    have zx3_20 := Xx19.out.cell (j := 3) rfl
    have yx0_20 := Xx19.out.thaw 0
    have yx1_20 := Xx19.out.thaw 1
    have yx2_20 := Xx19.out.thaw 2
    have yx3_20 := Xx19.out.thaw 3
    have KL := hid ((((K19.out.set (b := w.heap.size) (j := 0) (v := .int .i64 y1) Nr.out).set (b := w.heap.size) (j := 1) (v := .int .i64 v7) Nr.out).set (b := w.heap.size) (j := 2) (v := .int .i64 (1 + y3)) Nr.out).set (b := w.heap.size) (j := 3) (v := .string s5) Nr.out)
    have GL := hid (grown_far (b := w.heap.size) (j := 3) (v := .string s5) (grown_far (b := w.heap.size) (j := 2) (v := .int .i64 (1 + y3)) (grown_far (b := w.heap.size) (j := 1) (v := .int .i64 v7) (grown_far (b := w.heap.size) (j := 0) (v := .int .i64 y1) G19.out Mr.out) Mr.out) Mr.out) Mr.out)
    go_wp2
    refine bodyPost_ret (v := .agg #[.int .i64 y1, .int .i64 v7, .int .i64 (1 + y3), .string s5]) (by simp [results, Tryd.results20, go_sem, zr0_20, zr1_20, zr2_20, zr3_20]) rfl ?_
    exact ⟨⟨y1, v7, (1 + y3), s5⟩, rfl, hs, KL.out, GL.out⟩
  by_cases h2 : y6 = 2
  · subst h2
    go_wp2_with fail
    refine Calls.mono (l01Below_any C 5 (by omega) (by omega) _ K15.out) ?_
    rintro e w7 ⟨y7, rfl, lo7, hi7, k7, q7⟩
    have K17 := hid (k7)
    have G17 := hid (G15.out.trans q7)
    have Xr17 := hid (Xr15.out.cur q7 Nr.out)
    have Xx17 := hid (Xx15.out.cur q7 Nx.out)
    clear k7 q7 K15 G15 zr0_16 zr1_16 zr2_16 zr3_16 yr0_16 yr1_16 yr2_16 yr3_16 zx0_16 zx1_16 zx2_16 zx3_16 yx0_16 yx1_16 yx2_16 yx3_16 Xr15 Xx15
    have zr0_18 := Xr17.out.cell (j := 0) rfl
    have zr1_18 := Xr17.out.cell (j := 1) rfl
    have zr2_18 := Xr17.out.cell (j := 2) rfl
    have zr3_18 := Xr17.out.cell (j := 3) rfl
    have yr0_18 := Xr17.out.thaw 0
    have yr1_18 := Xr17.out.thaw 1
    have yr2_18 := Xr17.out.thaw 2
    have yr3_18 := Xr17.out.thaw 3
    have zx0_18 := Xx17.out.cell (j := 0) rfl
    have zx1_18 := Xx17.out.cell (j := 1) rfl
    have zx2_18 := Xx17.out.cell (j := 2) rfl
    have zx3_18 := Xx17.out.cell (j := 3) rfl
    have yx0_18 := Xx17.out.thaw 0
    have yx1_18 := Xx17.out.thaw 1
    have yx2_18 := Xx17.out.thaw 2
    have yx3_18 := Xx17.out.thaw 3
    have K19 := hid (K17.out.set (b := w5.heap.size) (j := 2) (v := (.int .i64 y7)) Nx.out)
    have G19 := hid (grown_far (b := w5.heap.size) (j := 2) (v := (.int .i64 y7)) G17.out Mx.out)
    have Xr19 := hid (Xr17.out.far (b := w5.heap.size) (j := 2) (by have := Arx.out; omega) (.int .i64 y7))
    have Xx19 : Hid (BlockIs (w7.setCell ⟨w5.heap.size, 2, none⟩ (.int .i64 y7)) (w5.heap.size) 25 [.int .i64 y1, .int .i64 (1 + y2), .int .i64 y7, .string s5]) := Xx17.out.set 2 (.int .i64 y7)
    clear K17 G17 Xr17 Xx17
    have zr0_20 := Xr19.out.cell (j := 0) rfl
    have zr1_20 := Xr19.out.cell (j := 1) rfl
    have zr2_20 := Xr19.out.cell (j := 2) rfl
    have zr3_20 := Xr19.out.cell (j := 3) rfl
    have yr0_20 := Xr19.out.thaw 0
    have yr1_20 := Xr19.out.thaw 1
    have yr2_20 := Xr19.out.thaw 2
    have yr3_20 := Xr19.out.thaw 3
    have zx0_20 := Xx19.out.cell (j := 0) rfl
    have zx1_20 := Xx19.out.cell (j := 1) rfl
    have zx2_20 := Xx19.out.cell (j := 2) rfl
    have zx3_20 := Xx19.out.cell (j := 3) rfl
    have yx0_20 := Xx19.out.thaw 0
    have yx1_20 := Xx19.out.thaw 1
    have yx2_20 := Xx19.out.thaw 2
    have yx3_20 := Xx19.out.thaw 3
    have KL := hid ((((K19.out.set (b := w.heap.size) (j := 0) (v := .int .i64 y1) Nr.out).set (b := w.heap.size) (j := 1) (v := .int .i64 (1 + y2)) Nr.out).set (b := w.heap.size) (j := 2) (v := .int .i64 y7) Nr.out).set (b := w.heap.size) (j := 3) (v := .string s5) Nr.out)
    have GL := hid (grown_far (b := w.heap.size) (j := 3) (v := .string s5) (grown_far (b := w.heap.size) (j := 2) (v := .int .i64 y7) (grown_far (b := w.heap.size) (j := 1) (v := .int .i64 (1 + y2)) (grown_far (b := w.heap.size) (j := 0) (v := .int .i64 y1) G19.out Mr.out) Mr.out) Mr.out) Mr.out)
    go_wp2
    refine bodyPost_ret (v := .agg #[.int .i64 y1, .int .i64 (1 + y2), .int .i64 y7, .string s5]) (by simp [results, Tryd.results20, go_sem, zr0_20, zr1_20, zr2_20, zr3_20]) rfl ?_
    exact ⟨⟨y1, (1 + y2), y7, s5⟩, rfl, hs, KL.out, GL.out⟩
  by_cases h3 : y6 = 3
  · subst h3
    go_wp2_with fail
    refine Calls.mono (l01Below_any C 2 (by omega) (by omega) _ K15.out) ?_
    rintro e w7 ⟨y7, rfl, lo7, hi7, k7, q7⟩
    have K17 := hid (k7)
    have G17 := hid (G15.out.trans q7)
    have Xr17 := hid (Xr15.out.cur q7 Nr.out)
    have Xx17 := hid (Xx15.out.cur q7 Nx.out)
    clear k7 q7 K15 G15 zr0_16 zr1_16 zr2_16 zr3_16 yr0_16 yr1_16 yr2_16 yr3_16 zx0_16 zx1_16 zx2_16 zx3_16 yx0_16 yx1_16 yx2_16 yx3_16 Xr15 Xx15
    have zr0_18 := Xr17.out.cell (j := 0) rfl
    have zr1_18 := Xr17.out.cell (j := 1) rfl
    have zr2_18 := Xr17.out.cell (j := 2) rfl
    have zr3_18 := Xr17.out.cell (j := 3) rfl
    have yr0_18 := Xr17.out.thaw 0
    have yr1_18 := Xr17.out.thaw 1
    have yr2_18 := Xr17.out.thaw 2
    have yr3_18 := Xr17.out.thaw 3
    have zx0_18 := Xx17.out.cell (j := 0) rfl
    have zx1_18 := Xx17.out.cell (j := 1) rfl
    have zx2_18 := Xx17.out.cell (j := 2) rfl
    have zx3_18 := Xx17.out.cell (j := 3) rfl
    have yx0_18 := Xx17.out.thaw 0
    have yx1_18 := Xx17.out.thaw 1
    have yx2_18 := Xx17.out.thaw 2
    have yx3_18 := Xx17.out.thaw 3
    obtain ⟨n9, hn9⟩ : ∃ n : Nat, 60 + y7 = n := ⟨(60 + y7).toNat, by omega⟩
    go_wp2_with fail
    refine Calls.mono (l01Long_any n9 (by omega) 65 (by omega) (by omega) _) ?_
    rintro e w8 ⟨S8, rfl, hS8, b8⟩
    have K19 := hid (K17.out.below b8)
    have G19 := hid (grown_below G17.out b8)
    have Xr19 := hid (Xr17.out.on b8 Xr17.out.lt)
    have Xx19 := hid (Xx17.out.on b8 Xx17.out.lt)
    clear b8 K17 G17 zr0_18 zr1_18 zr2_18 zr3_18 yr0_18 yr1_18 yr2_18 yr3_18 zx0_18 zx1_18 zx2_18 zx3_18 yx0_18 yx1_18 yx2_18 yx3_18 Xr17 Xx17
    have zr0_20 := Xr19.out.cell (j := 0) rfl
    have zr1_20 := Xr19.out.cell (j := 1) rfl
    have zr2_20 := Xr19.out.cell (j := 2) rfl
    have zr3_20 := Xr19.out.cell (j := 3) rfl
    have yr0_20 := Xr19.out.thaw 0
    have yr1_20 := Xr19.out.thaw 1
    have yr2_20 := Xr19.out.thaw 2
    have yr3_20 := Xr19.out.thaw 3
    have zx0_20 := Xx19.out.cell (j := 0) rfl
    have zx1_20 := Xx19.out.cell (j := 1) rfl
    have zx2_20 := Xx19.out.cell (j := 2) rfl
    have zx3_20 := Xx19.out.cell (j := 3) rfl
    have yx0_20 := Xx19.out.thaw 0
    have yx1_20 := Xx19.out.thaw 1
    have yx2_20 := Xx19.out.thaw 2
    have yx3_20 := Xx19.out.thaw 3
    have hs9 : S8.size ≤ 61 := by omega
    have K21 := hid (K19.out.set (b := w5.heap.size) (j := 3) (v := (.string S8)) Nx.out)
    have G21 := hid (grown_far (b := w5.heap.size) (j := 3) (v := (.string S8)) G19.out Mx.out)
    have Xr21 := hid (Xr19.out.far (b := w5.heap.size) (j := 3) (by have := Arx.out; omega) (.string S8))
    have Xx21 : Hid (BlockIs (w8.setCell ⟨w5.heap.size, 3, none⟩ (.string S8)) (w5.heap.size) 25 [.int .i64 y1, .int .i64 (1 + y2), .int .i64 (1 + y3), .string S8]) := Xx19.out.set 3 (.string S8)
    clear K19 G19 Xr19 Xx19
    have zr0_22 := Xr21.out.cell (j := 0) rfl
    have zr1_22 := Xr21.out.cell (j := 1) rfl
    have zr2_22 := Xr21.out.cell (j := 2) rfl
    have zr3_22 := Xr21.out.cell (j := 3) rfl
    have yr0_22 := Xr21.out.thaw 0
    have yr1_22 := Xr21.out.thaw 1
    have yr2_22 := Xr21.out.thaw 2
    have yr3_22 := Xr21.out.thaw 3
    have zx0_22 := Xx21.out.cell (j := 0) rfl
    have zx1_22 := Xx21.out.cell (j := 1) rfl
    have zx2_22 := Xx21.out.cell (j := 2) rfl
    have zx3_22 := Xx21.out.cell (j := 3) rfl
    have yx0_22 := Xx21.out.thaw 0
    have yx1_22 := Xx21.out.thaw 1
    have yx2_22 := Xx21.out.thaw 2
    have yx3_22 := Xx21.out.thaw 3
    have KL := hid ((((K21.out.set (b := w.heap.size) (j := 0) (v := .int .i64 y1) Nr.out).set (b := w.heap.size) (j := 1) (v := .int .i64 (1 + y2)) Nr.out).set (b := w.heap.size) (j := 2) (v := .int .i64 (1 + y3)) Nr.out).set (b := w.heap.size) (j := 3) (v := .string S8) Nr.out)
    have GL := hid (grown_far (b := w.heap.size) (j := 3) (v := .string S8) (grown_far (b := w.heap.size) (j := 2) (v := .int .i64 (1 + y3)) (grown_far (b := w.heap.size) (j := 1) (v := .int .i64 (1 + y2)) (grown_far (b := w.heap.size) (j := 0) (v := .int .i64 y1) G21.out Mr.out) Mr.out) Mr.out) Mr.out)
    go_wp2
    refine bodyPost_ret (v := .agg #[.int .i64 y1, .int .i64 (1 + y2), .int .i64 (1 + y3), .string S8]) (by simp [results, Tryd.results20, go_sem, zr0_22, zr1_22, zr2_22, zr3_22]) rfl ?_
    exact ⟨⟨y1, (1 + y2), (1 + y3), S8⟩, rfl, hs9, KL.out, GL.out⟩
  have g0 : (y6 == 0) = false := by simpa using h0
  have g1 : (y6 == 1) = false := by simpa using h1
  have g2 : (y6 == 2) = false := by simpa using h2
  have g3 : (y6 == 3) = false := by simpa using h3
  have KL := hid ((((K15.out.set (b := w.heap.size) (j := 0) (v := .int .i64 y1) Nr.out).set (b := w.heap.size) (j := 1) (v := .int .i64 (1 + y2)) Nr.out).set (b := w.heap.size) (j := 2) (v := .int .i64 (1 + y3)) Nr.out).set (b := w.heap.size) (j := 3) (v := .string s5) Nr.out)
  have GL := hid (grown_far (b := w.heap.size) (j := 3) (v := .string s5) (grown_far (b := w.heap.size) (j := 2) (v := .int .i64 (1 + y3)) (grown_far (b := w.heap.size) (j := 1) (v := .int .i64 (1 + y2)) (grown_far (b := w.heap.size) (j := 0) (v := .int .i64 y1) G15.out Mr.out) Mr.out) Mr.out) Mr.out)
  go_wp2
  refine bodyPost_ret (v := .agg #[.int .i64 y1, .int .i64 (1 + y2), .int .i64 (1 + y3), .string s5]) (by simp [results, Tryd.results20, go_sem, zr0_16, zr1_16, zr2_16, zr3_16]) rfl ?_
  exact ⟨⟨y1, (1 + y2), (1 + y3), s5⟩, rfl, hs, KL.out, GL.out⟩
end Go.Proofs.YtneociicjidcnaaDoor
