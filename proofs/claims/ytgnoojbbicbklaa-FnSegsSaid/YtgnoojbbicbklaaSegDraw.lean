/-
  The walk of spec.l12Seg: some segment, whose body is short.
-/
import Derived.Test.YtgnoojbbicbklaaNumDraw
import Derived.Test.YtgnoojbbicbklaaHasS
import Derived.Test.YtgnoojbbicbklaaCurText
namespace Go.Proofs.Ytgnoojbbicbklaa
open Go.RowKit

set_option maxRecDepth 1000000 in
set_option maxHeartbeats 4000000 in
theorem l12Seg_any (C : Nat) (w : World) (hc : CurAt w C) :
    Calls Try.prog 43 #[.pointer (some ⟨C, 0, none⟩)] w fun e w' => ∃ d : SegD, e = .returned (.agg #[.int .i64 d.num, .int .i64 d.ack, .int .i64 d.flags, .string d.body]) ∧ d.body.size ≤ 9 ∧ CurAt w' C ∧ w.grownBy w' (some C) := by
  have hCl := hc.lt
  have K0 := hid hc
  have G0 := hid (World.grownBy.refl w (some C))
  clear hc
  have be := below_more (Below.refl w.heap.size w) (.cells #[.int .i64 0, .int .i64 0, .int .i64 0, .string ⟨#[]⟩] 30)
  have hx1 : BlockIs (w.alloc (.cells #[.int .i64 0, .int .i64 0, .int .i64 0, .string ⟨#[]⟩] 30)) w.heap.size 30 [.int .i64 0, .int .i64 0, .int .i64 0, .string ⟨#[]⟩] := heap_alloc_new w _
  have K1 := hid (K0.out.below be)
  have G1 := hid (grown_below G0.out be)
  have Xr1 := hid hx1
  have Nr : Hid (C < w.heap.size) := (show _ < _ by omega)
  have Mr : Hid (w.heap.size ≤ w.heap.size) := (show _ ≤ _ by omega)
  clear be hx1  K0 G0
  obtain ⟨W0, hW0⟩ : ∃ W, w.alloc (.cells #[.int .i64 0, .int .i64 0, .int .i64 0, .string ⟨#[]⟩] 30) = W := ⟨_, rfl⟩
  rw [hW0] at K1 G1 Xr1
  have zr0_2 := Xr1.out.cell (j := 0) rfl
  have zr1_2 := Xr1.out.cell (j := 1) rfl
  have zr2_2 := Xr1.out.cell (j := 2) rfl
  have zr3_2 := Xr1.out.cell (j := 3) rfl
  have yr0_2 := Xr1.out.thaw 0
  have yr1_2 := Xr1.out.thaw 1
  have yr2_2 := Xr1.out.thaw 2
  have yr3_2 := Xr1.out.thaw 3
  go_enter Try.func43, Try.ntmps43
  go_wp2_with fail
  refine Calls.mono (l12Num_any C _ K1.out) ?_
  rintro e w1 ⟨y1, rfl, k1, q1⟩
  have K3 := hid (k1)
  have G3 := hid (G1.out.trans q1)
  have Xr3 := hid (Xr1.out.cur q1 Nr.out)
  clear k1 q1 K1 G1 zr0_2 zr1_2 zr2_2 zr3_2 yr0_2 yr1_2 yr2_2 yr3_2 Xr1
  have zr0_4 := Xr3.out.cell (j := 0) rfl
  have zr1_4 := Xr3.out.cell (j := 1) rfl
  have zr2_4 := Xr3.out.cell (j := 2) rfl
  have zr3_4 := Xr3.out.cell (j := 3) rfl
  have yr0_4 := Xr3.out.thaw 0
  have yr1_4 := Xr3.out.thaw 1
  have yr2_4 := Xr3.out.thaw 2
  have yr3_4 := Xr3.out.thaw 3
  go_wp2_with fail
  refine Calls.mono (pickI_any C [1, 2, 2, 2, 3, 6] (by decide) (by decide) 3 _ _ rfl K3.out) ?_
  rintro e w2 ⟨v2, rfl, hv2, k2, q2⟩
  have K5 := hid (k2)
  have G5 := hid (G3.out.trans q2)
  have Xr5 := hid (Xr3.out.cur q2 Nr.out)
  clear k2 q2 K3 G3 zr0_4 zr1_4 zr2_4 zr3_4 yr0_4 yr1_4 yr2_4 yr3_4 Xr3
  have zr0_6 := Xr5.out.cell (j := 0) rfl
  have zr1_6 := Xr5.out.cell (j := 1) rfl
  have zr2_6 := Xr5.out.cell (j := 2) rfl
  have zr3_6 := Xr5.out.cell (j := 3) rfl
  have yr0_6 := Xr5.out.thaw 0
  have yr1_6 := Xr5.out.thaw 1
  have yr2_6 := Xr5.out.thaw 2
  have yr3_6 := Xr5.out.thaw 3
  have hf : 0 ≤ v2 ∧ v2 ≤ 7 := by simp at hv2; omega
  obtain ⟨hf1, hf2⟩ := hf
  clear hv2
  have ba := below_more (Below.refl w2.heap.size w2) (.cells #[.int .i64 y1, .int .i64 0, .int .i64 v2, .string ⟨#[]⟩] 30)
  have Mx := hid G5.out.size
  have Nx := hid (Nat.lt_of_lt_of_le hCl G5.out.size)
  have hx : BlockIs (w2.alloc (.cells #[.int .i64 y1, .int .i64 0, .int .i64 v2, .string ⟨#[]⟩] 30)) w2.heap.size 30 [.int .i64 y1, .int .i64 0, .int .i64 v2, .string ⟨#[]⟩] := heap_alloc_new w2 _
  have Arx := hid Xr5.out.lt
  have K7 := hid (K5.out.below ba)
  have G7 := hid (grown_below G5.out ba)
  have Xr7 := hid (Xr5.out.on ba Xr5.out.lt)
  have Xx7 := hid hx
  clear hx
  clear ba K5 G5 zr0_6 zr1_6 zr2_6 zr3_6 yr0_6 yr1_6 yr2_6 yr3_6 Xr5
  have zr0_8 := Xr7.out.cell (j := 0) rfl
  have zr1_8 := Xr7.out.cell (j := 1) rfl
  have zr2_8 := Xr7.out.cell (j := 2) rfl
  have zr3_8 := Xr7.out.cell (j := 3) rfl
  have yr0_8 := Xr7.out.thaw 0
  have yr1_8 := Xr7.out.thaw 1
  have yr2_8 := Xr7.out.thaw 2
  have yr3_8 := Xr7.out.thaw 3
  have zx0_8 := Xx7.out.cell (j := 0) rfl
  have zx1_8 := Xx7.out.cell (j := 1) rfl
  have zx2_8 := Xx7.out.cell (j := 2) rfl
  have zx3_8 := Xx7.out.cell (j := 3) rfl
  have yx0_8 := Xx7.out.thaw 0
  have yx1_8 := Xx7.out.thaw 1
  have yx2_8 := Xx7.out.thaw 2
  have yx3_8 := Xx7.out.thaw 3
  have L2 := hid (fun W => l12Has_two y1 0 v2 ⟨#[]⟩ hf1 hf2 W)
  generalize decide (v2 / 2 % 2 = 1) = t2 at L2
  go_wp2_with fail
  refine Calls.mono (L2.out _) ?_
  rintro e w3 ⟨rfl, b3⟩
  have K9 := hid (K7.out.below b3)
  have G9 := hid (grown_below G7.out b3)
  have Xr9 := hid (Xr7.out.on b3 Xr7.out.lt)
  have Xx9 := hid (Xx7.out.on b3 Xx7.out.lt)
  clear b3 K7 G7 zr0_8 zr1_8 zr2_8 zr3_8 yr0_8 yr1_8 yr2_8 yr3_8 zx0_8 zx1_8 zx2_8 zx3_8 yx0_8 yx1_8 yx2_8 yx3_8 Xr7 Xx7
  have zr0_10 := Xr9.out.cell (j := 0) rfl
  have zr1_10 := Xr9.out.cell (j := 1) rfl
  have zr2_10 := Xr9.out.cell (j := 2) rfl
  have zr3_10 := Xr9.out.cell (j := 3) rfl
  have yr0_10 := Xr9.out.thaw 0
  have yr1_10 := Xr9.out.thaw 1
  have yr2_10 := Xr9.out.thaw 2
  have yr3_10 := Xr9.out.thaw 3
  have zx0_10 := Xx9.out.cell (j := 0) rfl
  have zx1_10 := Xx9.out.cell (j := 1) rfl
  have zx2_10 := Xx9.out.cell (j := 2) rfl
  have zx3_10 := Xx9.out.cell (j := 3) rfl
  have yx0_10 := Xx9.out.thaw 0
  have yx1_10 := Xx9.out.thaw 1
  have yx2_10 := Xx9.out.thaw 2
  have yx3_10 := Xx9.out.thaw 3
  clear L2
  cases t2 with
  | false =>
    have L1 := hid (fun W => l12Has_one y1 0 v2 ⟨#[]⟩ hf1 hf2 W)
    generalize decide (v2 % 2 = 1) = t1 at L1
    go_wp2_with fail
    refine Calls.mono (L1.out _) ?_
    rintro e w4 ⟨rfl, b4⟩
    have K11 := hid (K9.out.below b4)
    have G11 := hid (grown_below G9.out b4)
    have Xr11 := hid (Xr9.out.on b4 Xr9.out.lt)
    have Xx11 := hid (Xx9.out.on b4 Xx9.out.lt)
    clear b4 K9 G9 zr0_10 zr1_10 zr2_10 zr3_10 yr0_10 yr1_10 yr2_10 yr3_10 zx0_10 zx1_10 zx2_10 zx3_10 yx0_10 yx1_10 yx2_10 yx3_10 Xr9 Xx9
    have zr0_12 := Xr11.out.cell (j := 0) rfl
    have zr1_12 := Xr11.out.cell (j := 1) rfl
    have zr2_12 := Xr11.out.cell (j := 2) rfl
    have zr3_12 := Xr11.out.cell (j := 3) rfl
    have yr0_12 := Xr11.out.thaw 0
    have yr1_12 := Xr11.out.thaw 1
    have yr2_12 := Xr11.out.thaw 2
    have yr3_12 := Xr11.out.thaw 3
    have zx0_12 := Xx11.out.cell (j := 0) rfl
    have zx1_12 := Xx11.out.cell (j := 1) rfl
    have zx2_12 := Xx11.out.cell (j := 2) rfl
    have zx3_12 := Xx11.out.cell (j := 3) rfl
    have yx0_12 := Xx11.out.thaw 0
    have yx1_12 := Xx11.out.thaw 1
    have yx2_12 := Xx11.out.thaw 2
    have yx3_12 := Xx11.out.thaw 3
    clear L1
    cases t1 with
    | true =>
      have KL := hid ((((K11.out.set (b := w.heap.size) (j := 0) (v := .int .i64 y1) Nr.out).set (b := w.heap.size) (j := 1) (v := .int .i64 0) Nr.out).set (b := w.heap.size) (j := 2) (v := .int .i64 v2) Nr.out).set (b := w.heap.size) (j := 3) (v := .string ⟨#[]⟩) Nr.out)
      have GL := hid (grown_far (b := w.heap.size) (j := 3) (v := .string ⟨#[]⟩) (grown_far (b := w.heap.size) (j := 2) (v := .int .i64 v2) (grown_far (b := w.heap.size) (j := 1) (v := .int .i64 0) (grown_far (b := w.heap.size) (j := 0) (v := .int .i64 y1) G11.out Mr.out) Mr.out) Mr.out) Mr.out)
      go_wp2
      refine bodyPost_ret (v := .agg #[.int .i64 y1, .int .i64 0, .int .i64 v2, .string ⟨#[]⟩]) (by simp [results, Try.results43, go_sem, zr0_12, zr1_12, zr2_12, zr3_12]) rfl ?_
      exact ⟨⟨y1, 0, v2, ⟨#[]⟩⟩, rfl, (Nat.zero_le _), KL.out, GL.out⟩
    | false =>
      go_wp2_with fail
      refine Calls.mono (l01Below_any C 9 (by omega) (by omega) _ K11.out) ?_
      rintro e w5 ⟨y5, rfl, lo5, hi5, k5, q5⟩
      have K13 := hid (k5)
      have G13 := hid (G11.out.trans q5)
      have Xr13 := hid (Xr11.out.cur q5 Nr.out)
      have Xx13 := hid (Xx11.out.cur q5 Nx.out)
      clear k5 q5 K11 G11 zr0_12 zr1_12 zr2_12 zr3_12 yr0_12 yr1_12 yr2_12 yr3_12 zx0_12 zx1_12 zx2_12 zx3_12 yx0_12 yx1_12 yx2_12 yx3_12 Xr11 Xx11
      have zr0_14 := Xr13.out.cell (j := 0) rfl
      have zr1_14 := Xr13.out.cell (j := 1) rfl
      have zr2_14 := Xr13.out.cell (j := 2) rfl
      have zr3_14 := Xr13.out.cell (j := 3) rfl
      have yr0_14 := Xr13.out.thaw 0
      have yr1_14 := Xr13.out.thaw 1
      have yr2_14 := Xr13.out.thaw 2
      have yr3_14 := Xr13.out.thaw 3
      have zx0_14 := Xx13.out.cell (j := 0) rfl
      have zx1_14 := Xx13.out.cell (j := 1) rfl
      have zx2_14 := Xx13.out.cell (j := 2) rfl
      have zx3_14 := Xx13.out.cell (j := 3) rfl
      have yx0_14 := Xx13.out.thaw 0
      have yx1_14 := Xx13.out.thaw 1
      have yx2_14 := Xx13.out.thaw 2
      have yx3_14 := Xx13.out.thaw 3
      obtain ⟨n9, rfl⟩ : ∃ n : Nat, y5 = n := ⟨y5.toNat, by omega⟩
      go_wp2_with fail
      refine Calls.mono (l01Text_any C n9 (by omega) _ K13.out) ?_
      rintro e w6 ⟨s6, rfl, hs6, k6, q6⟩
      have K15 := hid (k6)
      have G15 := hid (G13.out.trans q6)
      have Xr15 := hid (Xr13.out.cur q6 Nr.out)
      have Xx15 := hid (Xx13.out.cur q6 Nx.out)
      clear k6 q6 K13 G13 zr0_14 zr1_14 zr2_14 zr3_14 yr0_14 yr1_14 yr2_14 yr3_14 zx0_14 zx1_14 zx2_14 zx3_14 yx0_14 yx1_14 yx2_14 yx3_14 Xr13 Xx13
      have zr0_16 := Xr15.out.cell (j := 0) rfl
      have zr1_16 := Xr15.out.cell (j := 1) rfl
      have zr2_16 := Xr15.out.cell (j := 2) rfl
      have zr3_16 := Xr15.out.cell (j := 3) rfl
      have yr0_16 := Xr15.out.thaw 0
      have yr1_16 := Xr15.out.thaw 1
      have yr2_16 := Xr15.out.thaw 2
      have yr3_16 := Xr15.out.thaw 3
      have zx0_16 := Xx15.out.cell (j := 0) rfl
      have zx1_16 := Xx15.out.cell (j := 1) rfl
      have zx2_16 := Xx15.out.cell (j := 2) rfl
      have zx3_16 := Xx15.out.cell (j := 3) rfl
      have yx0_16 := Xx15.out.thaw 0
      have yx1_16 := Xx15.out.thaw 1
      have yx2_16 := Xx15.out.thaw 2
      have yx3_16 := Xx15.out.thaw 3
      have hs9 : s6.size ≤ 9 := by omega
      clear hs6
      have K17 := hid (K15.out.set (b := w2.heap.size) (j := 3) (v := (.string s6)) Nx.out)
      have G17 := hid (grown_far (b := w2.heap.size) (j := 3) (v := (.string s6)) G15.out Mx.out)
      have Xr17 := hid (Xr15.out.far (b := w2.heap.size) (j := 3) (by have := Arx.out; omega) (.string s6))
      have Xx17 : Hid (BlockIs (w6.setCell ⟨w2.heap.size, 3, none⟩ (.string s6)) (w2.heap.size) 30 [.int .i64 y1, .int .i64 0, .int .i64 v2, .string s6]) := Xx15.out.set 3 (.string s6)
      clear K15 G15 Xr15 Xx15
      have zr0_18 := Xr17.out.cell (j := 0) rfl
      have zr1_18 := Xr17.out.cell (j := 1) rfl
      have zr2_18 := Xr17.out.cell (j := 2) rfl
      have zr3_18 := Xr17.out.cell (j := 3) rfl
      have yr0_18 := Xr17.out.thaw 0
      have yr1_18 := Xr17.out.thaw 1
      have yr2_18 := Xr17.out.thaw 2
      have yr3_18 := Xr17.out.thaw 3
      have zx0_18 := Xx17.out.cell (j := 0) rfl
      have zx1_18 := Xx17.out.cell (j := 1) rfl
      have zx2_18 := Xx17.out.cell (j := 2) rfl
      have zx3_18 := Xx17.out.cell (j := 3) rfl
      have yx0_18 := Xx17.out.thaw 0
      have yx1_18 := Xx17.out.thaw 1
      have yx2_18 := Xx17.out.thaw 2
      have yx3_18 := Xx17.out.thaw 3
      have KL := hid ((((K17.out.set (b := w.heap.size) (j := 0) (v := .int .i64 y1) Nr.out).set (b := w.heap.size) (j := 1) (v := .int .i64 0) Nr.out).set (b := w.heap.size) (j := 2) (v := .int .i64 v2) Nr.out).set (b := w.heap.size) (j := 3) (v := .string s6) Nr.out)
      have GL := hid (grown_far (b := w.heap.size) (j := 3) (v := .string s6) (grown_far (b := w.heap.size) (j := 2) (v := .int .i64 v2) (grown_far (b := w.heap.size) (j := 1) (v := .int .i64 0) (grown_far (b := w.heap.size) (j := 0) (v := .int .i64 y1) G17.out Mr.out) Mr.out) Mr.out) Mr.out)
      go_wp2
      refine bodyPost_ret (v := .agg #[.int .i64 y1, .int .i64 0, .int .i64 v2, .string s6]) (by simp [results, Try.results43, go_sem, zr0_18, zr1_18, zr2_18, zr3_18]) rfl ?_
      exact ⟨⟨y1, 0, v2, s6⟩, rfl, hs9, KL.out, GL.out⟩
  | true =>
    go_wp2_with fail
    refine Calls.mono (l12Num_any C _ K9.out) ?_
    rintro e w4 ⟨y4, rfl, k4, q4⟩
    have K11 := hid (k4)
    have G11 := hid (G9.out.trans q4)
    have Xr11 := hid (Xr9.out.cur q4 Nr.out)
    have Xx11 := hid (Xx9.out.cur q4 Nx.out)
    clear k4 q4 K9 G9 zr0_10 zr1_10 zr2_10 zr3_10 yr0_10 yr1_10 yr2_10 yr3_10 zx0_10 zx1_10 zx2_10 zx3_10 yx0_10 yx1_10 yx2_10 yx3_10 Xr9 Xx9
    have zr0_12 := Xr11.out.cell (j := 0) rfl
    have zr1_12 := Xr11.out.cell (j := 1) rfl
    have zr2_12 := Xr11.out.cell (j := 2) rfl
    have zr3_12 := Xr11.out.cell (j := 3) rfl
    have yr0_12 := Xr11.out.thaw 0
    have yr1_12 := Xr11.out.thaw 1
    have yr2_12 := Xr11.out.thaw 2
    have yr3_12 := Xr11.out.thaw 3
    have zx0_12 := Xx11.out.cell (j := 0) rfl
    have zx1_12 := Xx11.out.cell (j := 1) rfl
    have zx2_12 := Xx11.out.cell (j := 2) rfl
    have zx3_12 := Xx11.out.cell (j := 3) rfl
    have yx0_12 := Xx11.out.thaw 0
    have yx1_12 := Xx11.out.thaw 1
    have yx2_12 := Xx11.out.thaw 2
    have yx3_12 := Xx11.out.thaw 3
    have K13 := hid (K11.out.set (b := w2.heap.size) (j := 1) (v := (.int .i64 y4)) Nx.out)
    have G13 := hid (grown_far (b := w2.heap.size) (j := 1) (v := (.int .i64 y4)) G11.out Mx.out)
    have Xr13 := hid (Xr11.out.far (b := w2.heap.size) (j := 1) (by have := Arx.out; omega) (.int .i64 y4))
    have Xx13 : Hid (BlockIs (w4.setCell ⟨w2.heap.size, 1, none⟩ (.int .i64 y4)) (w2.heap.size) 30 [.int .i64 y1, .int .i64 y4, .int .i64 v2, .string ⟨#[]⟩]) := Xx11.out.set 1 (.int .i64 y4)
    clear K11 G11 Xr11 Xx11
    have zr0_14 := Xr13.out.cell (j := 0) rfl
    have zr1_14 := Xr13.out.cell (j := 1) rfl
    have zr2_14 := Xr13.out.cell (j := 2) rfl
    have zr3_14 := Xr13.out.cell (j := 3) rfl
    have yr0_14 := Xr13.out.thaw 0
    have yr1_14 := Xr13.out.thaw 1
    have yr2_14 := Xr13.out.thaw 2
    have yr3_14 := Xr13.out.thaw 3
    have zx0_14 := Xx13.out.cell (j := 0) rfl
    have zx1_14 := Xx13.out.cell (j := 1) rfl
    have zx2_14 := Xx13.out.cell (j := 2) rfl
    have zx3_14 := Xx13.out.cell (j := 3) rfl
    have yx0_14 := Xx13.out.thaw 0
    have yx1_14 := Xx13.out.thaw 1
    have yx2_14 := Xx13.out.thaw 2
    have yx3_14 := Xx13.out.thaw 3
    have L1 := hid (fun W => l12Has_one y1 y4 v2 ⟨#[]⟩ hf1 hf2 W)
    generalize decide (v2 % 2 = 1) = t1 at L1
    go_wp2_with fail
    refine Calls.mono (L1.out _) ?_
    rintro e w5 ⟨rfl, b5⟩
    have K15 := hid (K13.out.below b5)
    have G15 := hid (grown_below G13.out b5)
    have Xr15 := hid (Xr13.out.on b5 Xr13.out.lt)
    have Xx15 := hid (Xx13.out.on b5 Xx13.out.lt)
    clear b5 K13 G13 zr0_14 zr1_14 zr2_14 zr3_14 yr0_14 yr1_14 yr2_14 yr3_14 zx0_14 zx1_14 zx2_14 zx3_14 yx0_14 yx1_14 yx2_14 yx3_14 zr0_12 zr1_12 zr2_12 zr3_12 yr0_12 yr1_12 yr2_12 yr3_12 zx0_12 zx1_12 zx2_12 zx3_12 yx0_12 yx1_12 yx2_12 yx3_12 Xr13 Xx13
    have zr0_16 := Xr15.out.cell (j := 0) rfl
    have zr1_16 := Xr15.out.cell (j := 1) rfl
    have zr2_16 := Xr15.out.cell (j := 2) rfl
    have zr3_16 := Xr15.out.cell (j := 3) rfl
    have yr0_16 := Xr15.out.thaw 0
    have yr1_16 := Xr15.out.thaw 1
    have yr2_16 := Xr15.out.thaw 2
    have yr3_16 := Xr15.out.thaw 3
    have zx0_16 := Xx15.out.cell (j := 0) rfl
    have zx1_16 := Xx15.out.cell (j := 1) rfl
    have zx2_16 := Xx15.out.cell (j := 2) rfl
    have zx3_16 := Xx15.out.cell (j := 3) rfl
    have yx0_16 := Xx15.out.thaw 0
    have yx1_16 := Xx15.out.thaw 1
    have yx2_16 := Xx15.out.thaw 2
    have yx3_16 := Xx15.out.thaw 3
    clear L1
    cases t1 with
    | true =>
      have KL := hid ((((K15.out.set (b := w.heap.size) (j := 0) (v := .int .i64 y1) Nr.out).set (b := w.heap.size) (j := 1) (v := .int .i64 y4) Nr.out).set (b := w.heap.size) (j := 2) (v := .int .i64 v2) Nr.out).set (b := w.heap.size) (j := 3) (v := .string ⟨#[]⟩) Nr.out)
      have GL := hid (grown_far (b := w.heap.size) (j := 3) (v := .string ⟨#[]⟩) (grown_far (b := w.heap.size) (j := 2) (v := .int .i64 v2) (grown_far (b := w.heap.size) (j := 1) (v := .int .i64 y4) (grown_far (b := w.heap.size) (j := 0) (v := .int .i64 y1) G15.out Mr.out) Mr.out) Mr.out) Mr.out)
      go_wp2
      refine bodyPost_ret (v := .agg #[.int .i64 y1, .int .i64 y4, .int .i64 v2, .string ⟨#[]⟩]) (by simp [results, Try.results43, go_sem, zr0_16, zr1_16, zr2_16, zr3_16]) rfl ?_
      exact ⟨⟨y1, y4, v2, ⟨#[]⟩⟩, rfl, (Nat.zero_le _), KL.out, GL.out⟩
    | false =>
      go_wp2_with fail
      refine Calls.mono (l01Below_any C 9 (by omega) (by omega) _ K15.out) ?_
      rintro e w6 ⟨y6, rfl, lo6, hi6, k6, q6⟩
      have K17 := hid (k6)
      have G17 := hid (G15.out.trans q6)
      have Xr17 := hid (Xr15.out.cur q6 Nr.out)
      have Xx17 := hid (Xx15.out.cur q6 Nx.out)
      clear k6 q6 K15 G15 zr0_16 zr1_16 zr2_16 zr3_16 yr0_16 yr1_16 yr2_16 yr3_16 zx0_16 zx1_16 zx2_16 zx3_16 yx0_16 yx1_16 yx2_16 yx3_16 Xr15 Xx15
      have zr0_18 := Xr17.out.cell (j := 0) rfl
      have zr1_18 := Xr17.out.cell (j := 1) rfl
      have zr2_18 := Xr17.out.cell (j := 2) rfl
      have zr3_18 := Xr17.out.cell (j := 3) rfl
      have yr0_18 := Xr17.out.thaw 0
      have yr1_18 := Xr17.out.thaw 1
      have yr2_18 := Xr17.out.thaw 2
      have yr3_18 := Xr17.out.thaw 3
      have zx0_18 := Xx17.out.cell (j := 0) rfl
      have zx1_18 := Xx17.out.cell (j := 1) rfl
      have zx2_18 := Xx17.out.cell (j := 2) rfl
      have zx3_18 := Xx17.out.cell (j := 3) rfl
      have yx0_18 := Xx17.out.thaw 0
      have yx1_18 := Xx17.out.thaw 1
      have yx2_18 := Xx17.out.thaw 2
      have yx3_18 := Xx17.out.thaw 3
      obtain ⟨n9, rfl⟩ : ∃ n : Nat, y6 = n := ⟨y6.toNat, by omega⟩
      go_wp2_with fail
      refine Calls.mono (l01Text_any C n9 (by omega) _ K17.out) ?_
      rintro e w7 ⟨s7, rfl, hs7, k7, q7⟩
      have K19 := hid (k7)
      have G19 := hid (G17.out.trans q7)
      have Xr19 := hid (Xr17.out.cur q7 Nr.out)
      have Xx19 := hid (Xx17.out.cur q7 Nx.out)
      clear k7 q7 K17 G17 zr0_18 zr1_18 zr2_18 zr3_18 yr0_18 yr1_18 yr2_18 yr3_18 zx0_18 zx1_18 zx2_18 zx3_18 yx0_18 yx1_18 yx2_18 yx3_18 Xr17 Xx17
      have zr0_20 := Xr19.out.cell (j := 0) rfl
      have zr1_20 := Xr19.out.cell (j := 1) rfl
      have zr2_20 := Xr19.out.cell (j := 2) rfl
      have zr3_20 := Xr19.out.cell (j := 3) rfl
      have yr0_20 := Xr19.out.thaw 0
      have yr1_20 := Xr19.out.thaw 1
      have yr2_20 := Xr19.out.thaw 2
      have yr3_20 := Xr19.out.thaw 3
      have zx0_20 := Xx19.out.cell (j := 0) rfl
      have zx1_20 := Xx19.out.cell (j := 1) rfl
      have zx2_20 := Xx19.out.cell (j := 2) rfl
      have zx3_20 := Xx19.out.cell (j := 3) rfl
      have yx0_20 := Xx19.out.thaw 0
      have yx1_20 := Xx19.out.thaw 1
      have yx2_20 := Xx19.out.thaw 2
      have yx3_20 := Xx19.out.thaw 3
      have hs9 : s7.size ≤ 9 := by omega
      clear hs7
      have K21 := hid (K19.out.set (b := w2.heap.size) (j := 3) (v := (.string s7)) Nx.out)
      have G21 := hid (grown_far (b := w2.heap.size) (j := 3) (v := (.string s7)) G19.out Mx.out)
      have Xr21 := hid (Xr19.out.far (b := w2.heap.size) (j := 3) (by have := Arx.out; omega) (.string s7))
      have Xx21 : Hid (BlockIs (w7.setCell ⟨w2.heap.size, 3, none⟩ (.string s7)) (w2.heap.size) 30 [.int .i64 y1, .int .i64 y4, .int .i64 v2, .string s7]) := Xx19.out.set 3 (.string s7)
      clear K19 G19 Xr19 Xx19
      have zr0_22 := Xr21.out.cell (j := 0) rfl
      have zr1_22 := Xr21.out.cell (j := 1) rfl
      have zr2_22 := Xr21.out.cell (j := 2) rfl
      have zr3_22 := Xr21.out.cell (j := 3) rfl
      have yr0_22 := Xr21.out.thaw 0
      have yr1_22 := Xr21.out.thaw 1
      have yr2_22 := Xr21.out.thaw 2
      have yr3_22 := Xr21.out.thaw 3
      have zx0_22 := Xx21.out.cell (j := 0) rfl
      have zx1_22 := Xx21.out.cell (j := 1) rfl
      have zx2_22 := Xx21.out.cell (j := 2) rfl
      have zx3_22 := Xx21.out.cell (j := 3) rfl
      have yx0_22 := Xx21.out.thaw 0
      have yx1_22 := Xx21.out.thaw 1
      have yx2_22 := Xx21.out.thaw 2
      have yx3_22 := Xx21.out.thaw 3
      have KL := hid ((((K21.out.set (b := w.heap.size) (j := 0) (v := .int .i64 y1) Nr.out).set (b := w.heap.size) (j := 1) (v := .int .i64 y4) Nr.out).set (b := w.heap.size) (j := 2) (v := .int .i64 v2) Nr.out).set (b := w.heap.size) (j := 3) (v := .string s7) Nr.out)
      have GL := hid (grown_far (b := w.heap.size) (j := 3) (v := .string s7) (grown_far (b := w.heap.size) (j := 2) (v := .int .i64 v2) (grown_far (b := w.heap.size) (j := 1) (v := .int .i64 y4) (grown_far (b := w.heap.size) (j := 0) (v := .int .i64 y1) G21.out Mr.out) Mr.out) Mr.out) Mr.out)
      go_wp2
      refine bodyPost_ret (v := .agg #[.int .i64 y1, .int .i64 y4, .int .i64 v2, .string s7]) (by simp [results, Try.results43, go_sem, zr0_22, zr1_22, zr2_22, zr3_22]) rfl ?_
      exact ⟨⟨y1, y4, v2, s7⟩, rfl, hs9, KL.out, GL.out⟩
end Go.Proofs.Ytgnoojbbicbklaa
