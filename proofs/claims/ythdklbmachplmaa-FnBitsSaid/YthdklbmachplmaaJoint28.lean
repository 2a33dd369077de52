/-
  The walk of spec.l11Any: some datagram, whose body is short.
-/
import Derived.Test.YthdklbmachplmaaJoint26
namespace Go.Proofs.Ythdklbmachplmaa
open Go.RowKit

set_option maxRecDepth 1000000 in
set_option maxHeartbeats 4000000 in
theorem l11Any_any (C : Nat) (w : World) (hc : CurAt w C) :
    Calls Try.prog 18 #[.pointer (some ⟨C, 0, none⟩)] w fun e w' => ∃ d : DgramD, e = .returned (.agg #[.int .i64 d.src, .int .i64 d.dst, .int .i64 d.ident, .int .i64 d.place, .bool d.more, .string d.body]) ∧ d.body.size ≤ 161 ∧ CurAt w' C ∧ w.grownBy w' (some C) := by
  have hCl := hc.lt
  have K0 := hid hc
  have G0 := hid (World.grownBy.refl w (some C))
  clear hc
  have be := below_more (Below.refl w.heap.size w) (.cells #[.int .i64 0, .int .i64 0, .int .i64 0, .int .i64 0, .bool false, .string ⟨#[]⟩] 26)
  have hx1 : BlockIs (w.alloc (.cells #[.int .i64 0, .int .i64 0, .int .i64 0, .int .i64 0, .bool false, .string ⟨#[]⟩] 26)) w.heap.size 26 [.int .i64 0, .int .i64 0, .int .i64 0, .int .i64 0, .bool false, .string ⟨#[]⟩] := heap_alloc_new w _
  have K1 := hid (K0.out.below be)
  have G1 := hid (grown_below G0.out be)
  have Xr1 := hid hx1
  have Nr : Hid (C < w.heap.size) := (show _ < _ by omega)
  have Mr : Hid (w.heap.size ≤ w.heap.size) := (show _ ≤ _ by omega)
  clear be hx1  K0 G0
  obtain ⟨W0, hW0⟩ : ∃ W, w.alloc (.cells #[.int .i64 0, .int .i64 0, .int .i64 0, .int .i64 0, .bool false, .string ⟨#[]⟩] 26) = W := ⟨_, rfl⟩
  rw [hW0] at K1 G1 Xr1
  have zr0_2 := Xr1.out.cell (j := 0) rfl
  have zr1_2 := Xr1.out.cell (j := 1) rfl
  have zr2_2 := Xr1.out.cell (j := 2) rfl
  have zr3_2 := Xr1.out.cell (j := 3) rfl
  have zr4_2 := Xr1.out.cell (j := 4) rfl
  have zr5_2 := Xr1.out.cell (j := 5) rfl
  have yr0_2 := Xr1.out.thaw 0
  have yr1_2 := Xr1.out.thaw 1
  have yr2_2 := Xr1.out.thaw 2
  have yr3_2 := Xr1.out.thaw 3
  have yr4_2 := Xr1.out.thaw 4
  have yr5_2 := Xr1.out.thaw 5
  go_enter Try.func18, Try.ntmps18
  go_wp2_with fail
  refine Calls.mono (l11Dgram_any C _ K1.out) ?_
  rintro e w1 ⟨d, rfl, hd, k1, q1⟩
  have K3 := hid (k1)
  have G3 := hid (G1.out.trans q1)
  have Xr3 := hid (Xr1.out.cur q1 Nr.out)
  clear k1 q1 K1 G1 zr0_2 zr1_2 zr2_2 zr3_2 zr4_2 zr5_2 yr0_2 yr1_2 yr2_2 yr3_2 yr4_2 yr5_2 Xr1
  have zr0_4 := Xr3.out.cell (j := 0) rfl
  have zr1_4 := Xr3.out.cell (j := 1) rfl
  have zr2_4 := Xr3.out.cell (j := 2) rfl
  have zr3_4 := Xr3.out.cell (j := 3) rfl
  have zr4_4 := Xr3.out.cell (j := 4) rfl
  have zr5_4 := Xr3.out.cell (j := 5) rfl
  have yr0_4 := Xr3.out.thaw 0
  have yr1_4 := Xr3.out.thaw 1
  have yr2_4 := Xr3.out.thaw 2
  have yr3_4 := Xr3.out.thaw 3
  have yr4_4 := Xr3.out.thaw 4
  have yr5_4 := Xr3.out.thaw 5
  have hs : d.body.size ≤ 161 := by have := hd.2.2.2.2.2; omega
  clear hd
  have ba := below_more (Below.refl w1.heap.size w1) (.cells #[.int .i64 d.src, .int .i64 d.dst, .int .i64 d.ident, .int .i64 d.place, .bool d.more, .string d.body] 26)
  have Mx := hid G3.out.size
  have Nx := hid (Nat.lt_of_lt_of_le hCl G3.out.size)
  have hx : BlockIs (w1.alloc (.cells #[.int .i64 d.src, .int .i64 d.dst, .int .i64 d.ident, .int .i64 d.place, .bool d.more, .string d.body] 26)) w1.heap.size 26 [.int .i64 d.src, .int .i64 d.dst, .int .i64 d.ident, .int .i64 d.place, .bool d.more, .string d.body] := heap_alloc_new w1 _
  have Arx := hid Xr3.out.lt
  have K5 := hid (K3.out.below ba)
  have G5 := hid (grown_below G3.out ba)
  have Xr5 := hid (Xr3.out.on ba Xr3.out.lt)
  have Xx5 := hid hx
  clear hx
  clear ba K3 G3 zr0_4 zr1_4 zr2_4 zr3_4 zr4_4 zr5_4 yr0_4 yr1_4 yr2_4 yr3_4 yr4_4 yr5_4 Xr3
  have zr0_6 := Xr5.out.cell (j := 0) rfl
  have zr1_6 := Xr5.out.cell (j := 1) rfl
  have zr2_6 := Xr5.out.cell (j := 2) rfl
  have zr3_6 := Xr5.out.cell (j := 3) rfl
  have zr4_6 := Xr5.out.cell (j := 4) rfl
  have zr5_6 := Xr5.out.cell (j := 5) rfl
  have yr0_6 := Xr5.out.thaw 0
  have yr1_6 := Xr5.out.thaw 1
  have yr2_6 := Xr5.out.thaw 2
  have yr3_6 := Xr5.out.thaw 3
  have yr4_6 := Xr5.out.thaw 4
  have yr5_6 := Xr5.out.thaw 5
  have zx0_6 := Xx5.out.cell (j := 0) rfl
  have zx1_6 := Xx5.out.cell (j := 1) rfl
  have zx2_6 := Xx5.out.cell (j := 2) rfl
  have zx3_6 := Xx5.out.cell (j := 3) rfl
  have zx4_6 := Xx5.out.cell (j := 4) rfl
  have zx5_6 := Xx5.out.cell (j := 5) rfl
  have yx0_6 := Xx5.out.thaw 0
  have yx1_6 := Xx5.out.thaw 1
  have yx2_6 := Xx5.out.thaw 2
  have yx3_6 := Xx5.out.thaw 3
  have yx4_6 := Xx5.out.thaw 4
  have yx5_6 := Xx5.out.thaw 5
  go_wp2_with fail
  refine Calls.mono (l01Below_any C 16 (by omega) (by omega) _ K5.out) ?_
  rintro e w2 ⟨y2, rfl, lo2, hi2, k2, q2⟩
  have K7 := hid (k2)
  have G7 := hid (G5.out.trans q2)
  have Xr7 := hid (Xr5.out.cur q2 Nr.out)
  have Xx7 := hid (Xx5.out.cur q2 Nx.out)
  clear k2 q2 K5 G5 zr0_6 zr1_6 zr2_6 zr3_6 zr4_6 zr5_6 yr0_6 yr1_6 yr2_6 yr3_6 yr4_6 yr5_6 zx0_6 zx1_6 zx2_6 zx3_6 zx4_6 zx5_6 yx0_6 yx1_6 yx2_6 yx3_6 yx4_6 yx5_6 Xr5 Xx5
  have zr0_8 := Xr7.out.cell (j := 0) rfl
  have zr1_8 := Xr7.out.cell (j := 1) rfl
  have zr2_8 := Xr7.out.cell (j := 2) rfl
  have zr3_8 := Xr7.out.cell (j := 3) rfl
  have zr4_8 := Xr7.out.cell (j := 4) rfl
  have zr5_8 := Xr7.out.cell (j := 5) rfl
  have yr0_8 := Xr7.out.thaw 0
  have yr1_8 := Xr7.out.thaw 1
  have yr2_8 := Xr7.out.thaw 2
  have yr3_8 := Xr7.out.thaw 3
  have yr4_8 := Xr7.out.thaw 4
  have yr5_8 := Xr7.out.thaw 5
  have zx0_8 := Xx7.out.cell (j := 0) rfl
  have zx1_8 := Xx7.out.cell (j := 1) rfl
  have zx2_8 := Xx7.out.cell (j := 2) rfl
  have zx3_8 := Xx7.out.cell (j := 3) rfl
  have zx4_8 := Xx7.out.cell (j := 4) rfl
  have zx5_8 := Xx7.out.cell (j := 5) rfl
  have yx0_8 := Xx7.out.thaw 0
  have yx1_8 := Xx7.out.thaw 1
  have yx2_8 := Xx7.out.thaw 2
  have yx3_8 := Xx7.out.thaw 3
  have yx4_8 := Xx7.out.thaw 4
  have yx5_8 := Xx7.out.thaw 5
  by_cases h0 : y2 = 0
  · subst h0
    go_wp2_with fail
    refine Calls.mono (pickI_any C [0, 99, 100] (by decide) (by decide) 3 _ _ rfl K7.out) ?_
    rintro e w3 ⟨v3, rfl, hv3, k3, q3⟩
    have K9 := hid (k3)
    have G9 := hid (G7.out.trans q3)
    have Xr9 := hid (Xr7.out.cur q3 Nr.out)
    have Xx9 := hid (Xx7.out.cur q3 Nx.out)
    clear k3 q3 K7 G7 zr0_8 zr1_8 zr2_8 zr3_8 zr4_8 zr5_8 yr0_8 yr1_8 yr2_8 yr3_8 yr4_8 yr5_8 zx0_8 zx1_8 zx2_8 zx3_8 zx4_8 zx5_8 yx0_8 yx1_8 yx2_8 yx3_8 yx4_8 yx5_8 Xr7 Xx7
    have zr0_10 := Xr9.out.cell (j := 0) rfl
    have zr1_10 := Xr9.out.cell (j := 1) rfl
    have zr2_10 := Xr9.out.cell (j := 2) rfl
    have zr3_10 := Xr9.out.cell (j := 3) rfl
    have zr4_10 := Xr9.out.cell (j := 4) rfl
    have zr5_10 := Xr9.out.cell (j := 5) rfl
    have yr0_10 := Xr9.out.thaw 0
    have yr1_10 := Xr9.out.thaw 1
    have yr2_10 := Xr9.out.thaw 2
    have yr3_10 := Xr9.out.thaw 3
    have yr4_10 := Xr9.out.thaw 4
    have yr5_10 := Xr9.out.thaw 5
    have zx0_10 := Xx9.out.cell (j := 0) rfl
    have zx1_10 := Xx9.out.cell (j := 1) rfl
    have zx2_10 := Xx9.out.cell (j := 2) rfl
    have zx3_10 := Xx9.out.cell (j := 3) rfl
    have zx4_10 := Xx9.out.cell (j := 4) rfl
    have zx5_10 := Xx9.out.cell (j := 5) rfl
    have yx0_10 := Xx9.out.thaw 0
    have yx1_10 := Xx9.out.thaw 1
    have yx2_10 := Xx9.out.thaw 2
    have yx3_10 := Xx9.out.thaw 3
    have yx4_10 := Xx9.out.thaw 4
    have yx5_10 := Xx9.out.thaw 5
    have K11 := hid (K9.out.set (b := w1.heap.size) (j := 0) (v := (.int .i64 v3)) Nx.out)
    have G11 := hid (grown_far (b := w1.heap.size) (j := 0) (v := (.int .i64 v3)) G9.out Mx.out)
    have Xr11 := hid (Xr9.out.far (b := w1.heap.size) (j := 0) (by have := Arx.out; omega) (.int .i64 v3))
    have Xx11 : Hid (BlockIs (w3.setCell ⟨w1.heap.size, 0, none⟩ (.int .i64 v3)) (w1.heap.size) 26 [.int .i64 v3, .int .i64 d.dst, .int .i64 d.ident, .int .i64 d.place, .bool d.more, .string d.body]) := Xx9.out.set 0 (.int .i64 v3)
    clear K9 G9 Xr9 Xx9
    have zr0_12 := Xr11.out.cell (j := 0) rfl
    have zr1_12 := Xr11.out.cell (j := 1) rfl
    have zr2_12 := Xr11.out.cell (j := 2) rfl
    have zr3_12 := Xr11.out.cell (j := 3) rfl
    have zr4_12 := Xr11.out.cell (j := 4) rfl
    have zr5_12 := Xr11.out.cell (j := 5) rfl
    have yr0_12 := Xr11.out.thaw 0
    have yr1_12 := Xr11.out.thaw 1
    have yr2_12 := Xr11.out.thaw 2
    have yr3_12 := Xr11.out.thaw 3
    have yr4_12 := Xr11.out.thaw 4
    have yr5_12 := Xr11.out.thaw 5
    have zx0_12 := Xx11.out.cell (j := 0) rfl
    have zx1_12 := Xx11.out.cell (j := 1) rfl
    have zx2_12 := Xx11.out.cell (j := 2) rfl
    have zx3_12 := Xx11.out.cell (j := 3) rfl
    have zx4_12 := Xx11.out.cell (j := 4) rfl
    have zx5_12 := Xx11.out.cell (j := 5) rfl
    have yx0_12 := Xx11.out.thaw 0
    have yx1_12 := Xx11.out.thaw 1
    have yx2_12 := Xx11.out.thaw 2
    have yx3_12 := Xx11.out.thaw 3
    have yx4_12 := Xx11.out.thaw 4
    have yx5_12 := Xx11.out.thaw 5
    have KL := hid ((((((K11.out.set (b := w.heap.size) (j := 0) (v := .int .i64 v3) Nr.out).set (b := w.heap.size) (j := 1) (v := .int .i64 d.dst) Nr.out).set (b := w.heap.size) (j := 2) (v := .int .i64 d.ident) Nr.out).set (b := w.heap.size) (j := 3) (v := .int .i64 d.place) Nr.out).set (b := w.heap.size) (j := 4) (v := .bool d.more) Nr.out).set (b := w.heap.size) (j := 5) (v := .string d.body) Nr.out)
    have GL := hid (grown_far (b := w.heap.size) (j := 5) (v := .string d.body) (grown_far (b := w.heap.size) (j := 4) (v := .bool d.more) (grown_far (b := w.heap.size) (j := 3) (v := .int .i64 d.place) (grown_far (b := w.heap.size) (j := 2) (v := .int .i64 d.ident) (grown_far (b := w.heap.size) (j := 1) (v := .int .i64 d.dst) (grown_far (b := w.heap.size) (j := 0) (v := .int .i64 v3) G11.out Mr.out) Mr.out) Mr.out) Mr.out) Mr.out) Mr.out)
    go_wp2
    refine bodyPost_ret (v := .agg #[.int .i64 v3, .int .i64 d.dst, .int .i64 d.ident, .int .i64 d.place, .bool d.more, .string d.body]) (by simp [results, Try.results18, go_sem, zr0_12, zr1_12, zr2_12, zr3_12, zr4_12, zr5_12]) rfl ?_
    exact ⟨⟨v3, d.dst, d.ident, d.place, d.more, d.body⟩, rfl, hs, KL.out, GL.out⟩
  by_cases h1 : y2 = 1
  · subst h1
    go_wp2_with fail
    refine Calls.mono (pickI_any C [-1, 65535, 65536] (by decide) (by decide) 3 _ _ rfl K7.out) ?_
    rintro e w3 ⟨v3, rfl, hv3, k3, q3⟩
    have K9 := hid (k3)
    have G9 := hid (G7.out.trans q3)
    have Xr9 := hid (Xr7.out.cur q3 Nr.out)
    have Xx9 := hid (Xx7.out.cur q3 Nx.out)
    clear k3 q3 K7 G7 zr0_8 zr1_8 zr2_8 zr3_8 zr4_8 zr5_8 yr0_8 yr1_8 yr2_8 yr3_8 yr4_8 yr5_8 zx0_8 zx1_8 zx2_8 zx3_8 zx4_8 zx5_8 yx0_8 yx1_8 yx2_8 yx3_8 yx4_8 yx5_8 Xr7 Xx7
    have zr0_10 := Xr9.out.cell (j := 0) rfl
    have zr1_10 := Xr9.out.cell (j := 1) rfl
    have zr2_10 := Xr9.out.cell (j := 2) rfl
    have zr3_10 := Xr9.out.cell (j := 3) rfl
    have zr4_10 := Xr9.out.cell (j := 4) rfl
    have zr5_10 := Xr9.out.cell (j := 5) rfl
    have yr0_10 := Xr9.out.thaw 0
    have yr1_10 := Xr9.out.thaw 1
    have yr2_10 := Xr9.out.thaw 2
    have yr3_10 := Xr9.out.thaw 3
    have yr4_10 := Xr9.out.thaw 4
    have yr5_10 := Xr9.out.thaw 5
    have zx0_10 := Xx9.out.cell (j := 0) rfl
    have zx1_10 := Xx9.out.cell (j := 1) rfl
    have zx2_10 := Xx9.out.cell (j := 2) rfl
    have zx3_10 := Xx9.out.cell (j := 3) rfl
    have zx4_10 := Xx9.out.cell (j := 4) rfl
    have zx5_10 := Xx9.out.cell (j := 5) rfl
    have yx0_10 := Xx9.out.thaw 0
    have yx1_10 := Xx9.out.thaw 1
    have yx2_10 := Xx9.out.thaw 2
    have yx3_10 := Xx9.out.thaw 3
    have yx4_10 := Xx9.out.thaw 4
    have yx5_10 := Xx9.out.thaw 5
    have K11 := hid (K9.out.set (b := w1.heap.size) (j := 2) (v := (.int .i64 v3)) Nx.out)
    have G11 := hid (grown_far (b := w1.heap.size) (j := 2) (v := (.int .i64 v3)) G9.out Mx.out)
    have Xr11 := hid (Xr9.out.far (b := w1.heap.size) (j := 2) (by have := Arx.out; omega) (.int .i64 v3))
    have Xx11 : Hid (BlockIs (w3.setCell ⟨w1.heap.size, 2, none⟩ (.int .i64 v3)) (w1.heap.size) 26 [.int .i64 d.src, .int .i64 d.dst, .int .i64 v3, .int .i64 d.place, .bool d.more, .string d.body]) := Xx9.out.set 2 (.int .i64 v3)
    clear K9 G9 Xr9 Xx9
    have zr0_12 := Xr11.out.cell (j := 0) rfl
    have zr1_12 := Xr11.out.cell (j := 1) rfl
    have zr2_12 := Xr11.out.cell (j := 2) rfl
    have zr3_12 := Xr11.out.cell (j := 3) rfl
    have zr4_12 := Xr11.out.cell (j := 4) rfl
    have zr5_12 := Xr11.out.cell (j := 5) rfl
    have yr0_12 := Xr11.out.thaw 0
    have yr1_12 := Xr11.out.thaw 1
    have yr2_12 := Xr11.out.thaw 2
    have yr3_12 := Xr11.out.thaw 3
    have yr4_12 := Xr11.out.thaw 4
    have yr5_12 := Xr11.out.thaw 5
    have zx0_12 := Xx11.out.cell (j := 0) rfl
    have zx1_12 := Xx11.out.cell (j := 1) rfl
    have zx2_12 := Xx11.out.cell (j := 2) rfl
    have zx3_12 := Xx11.out.cell (j := 3) rfl
    have zx4_12 := Xx11.out.cell (j := 4) rfl
    have zx5_12 := Xx11.out.cell (j := 5) rfl
    have yx0_12 := Xx11.out.thaw 0
    have yx1_12 := Xx11.out.thaw 1
    have yx2_12 := Xx11.out.thaw 2
    have yx3_12 := Xx11.out.thaw 3
    have yx4_12 := Xx11.out.thaw 4
    have yx5_12 := Xx11.out.thaw 5
    have KL := hid ((((((K11.out.set (b := w.heap.size) (j := 0) (v := .int .i64 d.src) Nr.out).set (b := w.heap.size) (j := 1) (v := .int .i64 d.dst) Nr.out).set (b := w.heap.size) (j := 2) (v := .int .i64 v3) Nr.out).set (b := w.heap.size) (j := 3) (v := .int .i64 d.place) Nr.out).set (b := w.heap.size) (j := 4) (v := .bool d.more) Nr.out).set (b := w.heap.size) (j := 5) (v := .string d.body) Nr.out)
    have GL := hid (grown_far (b := w.heap.size) (j := 5) (v := .string d.body) (grown_far (b := w.heap.size) (j := 4) (v := .bool d.more) (grown_far (b := w.heap.size) (j := 3) (v := .int .i64 d.place) (grown_far (b := w.heap.size) (j := 2) (v := .int .i64 v3) (grown_far (b := w.heap.size) (j := 1) (v := .int .i64 d.dst) (grown_far (b := w.heap.size) (j := 0) (v := .int .i64 d.src) G11.out Mr.out) Mr.out) Mr.out) Mr.out) Mr.out) Mr.out)
    go_wp2
    refine bodyPost_ret (v := .agg #[.int .i64 d.src, .int .i64 d.dst, .int .i64 v3, .int .i64 d.place, .bool d.more, .string d.body]) (by simp [results, Try.results18, go_sem, zr0_12, zr1_12, zr2_12, zr3_12, zr4_12, zr5_12]) rfl ?_
    exact ⟨⟨d.src, d.dst, v3, d.place, d.more, d.body⟩, rfl, hs, KL.out, GL.out⟩
  by_cases h2 : y2 = 2
  · subst h2
    go_wp2_with fail
    refine Calls.mono (pickI_any C [-8, 4, 8, 152, 160] (by decide) (by decide) 3 _ _ rfl K7.out) ?_
    rintro e w3 ⟨v3, rfl, hv3, k3, q3⟩
    have K9 := hid (k3)
    have G9 := hid (G7.out.trans q3)
    have Xr9 := hid (Xr7.out.cur q3 Nr.out)
    have Xx9 := hid (Xx7.out.cur q3 Nx.out)
    clear k3 q3 K7 G7 zr0_8 zr1_8 zr2_8 zr3_8 zr4_8 zr5_8 yr0_8 yr1_8 yr2_8 yr3_8 yr4_8 yr5_8 zx0_8 zx1_8 zx2_8 zx3_8 zx4_8 zx5_8 yx0_8 yx1_8 yx2_8 yx3_8 yx4_8 yx5_8 Xr7 Xx7
    have zr0_10 := Xr9.out.cell (j := 0) rfl
    have zr1_10 := Xr9.out.cell (j := 1) rfl
    have zr2_10 := Xr9.out.cell (j := 2) rfl
    have zr3_10 := Xr9.out.cell (j := 3) rfl
    have zr4_10 := Xr9.out.cell (j := 4) rfl
    have zr5_10 := Xr9.out.cell (j := 5) rfl
    have yr0_10 := Xr9.out.thaw 0
    have yr1_10 := Xr9.out.thaw 1
    have yr2_10 := Xr9.out.thaw 2
    have yr3_10 := Xr9.out.thaw 3
    have yr4_10 := Xr9.out.thaw 4
    have yr5_10 := Xr9.out.thaw 5
    have zx0_10 := Xx9.out.cell (j := 0) rfl
    have zx1_10 := Xx9.out.cell (j := 1) rfl
    have zx2_10 := Xx9.out.cell (j := 2) rfl
    have zx3_10 := Xx9.out.cell (j := 3) rfl
    have zx4_10 := Xx9.out.cell (j := 4) rfl
    have zx5_10 := Xx9.out.cell (j := 5) rfl
    have yx0_10 := Xx9.out.thaw 0
    have yx1_10 := Xx9.out.thaw 1
    have yx2_10 := Xx9.out.thaw 2
    have yx3_10 := Xx9.out.thaw 3
    have yx4_10 := Xx9.out.thaw 4
    have yx5_10 := Xx9.out.thaw 5
    have K11 := hid (K9.out.set (b := w1.heap.size) (j := 3) (v := (.int .i64 v3)) Nx.out)
    have G11 := hid (grown_far (b := w1.heap.size) (j := 3) (v := (.int .i64 v3)) G9.out Mx.out)
    have Xr11 := hid (Xr9.out.far (b := w1.heap.size) (j := 3) (by have := Arx.out; omega) (.int .i64 v3))
    have Xx11 : Hid (BlockIs (w3.setCell ⟨w1.heap.size, 3, none⟩ (.int .i64 v3)) (w1.heap.size) 26 [.int .i64 d.src, .int .i64 d.dst, .int .i64 d.ident, .int .i64 v3, .bool d.more, .string d.body]) := Xx9.out.set 3 (.int .i64 v3)
    clear K9 G9 Xr9 Xx9
    have zr0_12 := Xr11.out.cell (j := 0) rfl
    have zr1_12 := Xr11.out.cell (j := 1) rfl
    have zr2_12 := Xr11.out.cell (j := 2) rfl
    have zr3_12 := Xr11.out.cell (j := 3) rfl
    have zr4_12 := Xr11.out.cell (j := 4) rfl
    have zr5_12 := Xr11.out.cell (j := 5) rfl
    have yr0_12 := Xr11.out.thaw 0
    have yr1_12 := Xr11.out.thaw 1
    have yr2_12 := Xr11.out.thaw 2
    have yr3_12 := Xr11.out.thaw 3
    have yr4_12 := Xr11.out.thaw 4
    have yr5_12 := Xr11.out.thaw 5
    have zx0_12 := Xx11.out.cell (j := 0) rfl
    have zx1_12 := Xx11.out.cell (j := 1) rfl
    have zx2_12 := Xx11.out.cell (j := 2) rfl
    have zx3_12 := Xx11.out.cell (j := 3) rfl
    have zx4_12 := Xx11.out.cell (j := 4) rfl
    have zx5_12 := Xx11.out.cell (j := 5) rfl
    have yx0_12 := Xx11.out.thaw 0
    have yx1_12 := Xx11.out.thaw 1
    have yx2_12 := Xx11.out.thaw 2
    have yx3_12 := Xx11.out.thaw 3
    have yx4_12 := Xx11.out.thaw 4
    have yx5_12 := Xx11.out.thaw 5
    have KL := hid ((((((K11.out.set (b := w.heap.size) (j := 0) (v := .int .i64 d.src) Nr.out).set (b := w.heap.size) (j := 1) (v := .int .i64 d.dst) Nr.out).set (b := w.heap.size) (j := 2) (v := .int .i64 d.ident) Nr.out).set (b := w.heap.size) (j := 3) (v := .int .i64 v3) Nr.out).set (b := w.heap.size) (j := 4) (v := .bool d.more) Nr.out).set (b := w.heap.size) (j := 5) (v := .string d.body) Nr.out)
    have GL := hid (grown_far (b := w.heap.size) (j := 5) (v := .string d.body) (grown_far (b := w.heap.size) (j := 4) (v := .bool d.more) (grown_far (b := w.heap.size) (j := 3) (v := .int .i64 v3) (grown_far (b := w.heap.size) (j := 2) (v := .int .i64 d.ident) (grown_far (b := w.heap.size) (j := 1) (v := .int .i64 d.dst) (grown_far (b := w.heap.size) (j := 0) (v := .int .i64 d.src) G11.out Mr.out) Mr.out) Mr.out) Mr.out) Mr.out) Mr.out)
    go_wp2
    refine bodyPost_ret (v := .agg #[.int .i64 d.src, .int .i64 d.dst, .int .i64 d.ident, .int .i64 v3, .bool d.more, .string d.body]) (by simp [results, Try.results18, go_sem, zr0_12, zr1_12, zr2_12, zr3_12, zr4_12, zr5_12]) rfl ?_
    exact ⟨⟨d.src, d.dst, d.ident, v3, d.more, d.body⟩, rfl, hs, KL.out, GL.out⟩
  by_cases h3 : y2 = 3
  · subst h3
    have K9 := hid (K7.out.set (b := w1.heap.size) (j := 4) (v := (.bool true)) Nx.out)
    have G9 := hid (grown_far (b := w1.heap.size) (j := 4) (v := (.bool true)) G7.out Mx.out)
    have Xr9 := hid (Xr7.out.far (b := w1.heap.size) (j := 4) (by have := Arx.out; omega) (.bool true))
    have Xx9 : Hid (BlockIs (w2.setCell ⟨w1.heap.size, 4, none⟩ (.bool true)) (w1.heap.size) 26 [.int .i64 d.src, .int .i64 d.dst, .int .i64 d.ident, .int .i64 d.place, .bool true, .string d.body]) := Xx7.out.set 4 (.bool true)
    clear K7 G7 Xr7 Xx7
    have zr0_10 := Xr9.out.cell (j := 0) rfl
    have zr1_10 := Xr9.out.cell (j := 1) rfl
    have zr2_10 := Xr9.out.cell (j := 2) rfl
    have zr3_10 := Xr9.out.cell (j := 3) rfl
    have zr4_10 := Xr9.out.cell (j := 4) rfl
    have zr5_10 := Xr9.out.cell (j := 5) rfl
    have yr0_10 := Xr9.out.thaw 0
    have yr1_10 := Xr9.out.thaw 1
    have yr2_10 := Xr9.out.thaw 2
    have yr3_10 := Xr9.out.thaw 3
    have yr4_10 := Xr9.out.thaw 4
    have yr5_10 := Xr9.out.thaw 5
    have zx0_10 := Xx9.out.cell (j := 0) rfl
    have zx1_10 := Xx9.out.cell (j := 1) rfl
    have zx2_10 := Xx9.out.cell (j := 2) rfl
    have zx3_10 := Xx9.out.cell (j := 3) rfl
    have zx4_10 := Xx9.out.cell (j := 4) rfl
    have zx5_10 := Xx9.out.cell (j := 5) rfl
    have yx0_10 := Xx9.out.thaw 0
    have yx1_10 := Xx9.out.thaw 1
    have yx2_10 := Xx9.out.thaw 2
    have yx3_10 := Xx9.out.thaw 3
    have yx4_10 := Xx9.out.thaw 4
    have yx5_10 := Xx9.out.thaw 5
    have KL := hid ((((((K9.out.set (b := w.heap.size) (j := 0) (v := .int .i64 d.src) Nr.out).set (b := w.heap.size) (j := 1) (v := .int .i64 d.dst) Nr.out).set (b := w.heap.size) (j := 2) (v := .int .i64 d.ident) Nr.out).set (b := w.heap.size) (j := 3) (v := .int .i64 d.place) Nr.out).set (b := w.heap.size) (j := 4) (v := .bool true) Nr.out).set (b := w.heap.size) (j := 5) (v := .string d.body) Nr.out)
    have GL := hid (grown_far (b := w.heap.size) (j := 5) (v := .string d.body) (grown_far (b := w.heap.size) (j := 4) (v := .bool true) (grown_far (b := w.heap.size) (j := 3) (v := .int .i64 d.place) (grown_far (b := w.heap.size) (j := 2) (v := .int .i64 d.ident) (grown_far (b := w.heap.size) (j := 1) (v := .int .i64 d.dst) (grown_far (b := w.heap.size) (j := 0) (v := .int .i64 d.src) G9.out Mr.out) Mr.out) Mr.out) Mr.out) Mr.out) Mr.out)
    go_wp2
    refine bodyPost_ret (v := .agg #[.int .i64 d.src, .int .i64 d.dst, .int .i64 d.ident, .int .i64 d.place, .bool true, .string d.body]) (by simp [results, Try.results18, go_sem, zr0_10, zr1_10, zr2_10, zr3_10, zr4_10, zr5_10]) rfl ?_
    exact ⟨⟨d.src, d.dst, d.ident, d.place, true, d.body⟩, rfl, hs, KL.out, GL.out⟩
  by_cases h4 : y2 = 4
  · subst h4
    go_wp2_with fail
    refine Calls.mono (pickI_any C [0, 160, 161] (by decide) (by decide) 3 _ _ rfl K7.out) ?_
    rintro e w3 ⟨v3, rfl, hv3, k3, q3⟩
    have K9 := hid (k3)
    have G9 := hid (G7.out.trans q3)
    have Xr9 := hid (Xr7.out.cur q3 Nr.out)
    have Xx9 := hid (Xx7.out.cur q3 Nx.out)
    clear k3 q3 K7 G7 zr0_8 zr1_8 zr2_8 zr3_8 zr4_8 zr5_8 yr0_8 yr1_8 yr2_8 yr3_8 yr4_8 yr5_8 zx0_8 zx1_8 zx2_8 zx3_8 zx4_8 zx5_8 yx0_8 yx1_8 yx2_8 yx3_8 yx4_8 yx5_8 Xr7 Xx7
    have zr0_10 := Xr9.out.cell (j := 0) rfl
    have zr1_10 := Xr9.out.cell (j := 1) rfl
    have zr2_10 := Xr9.out.cell (j := 2) rfl
    have zr3_10 := Xr9.out.cell (j := 3) rfl
    have zr4_10 := Xr9.out.cell (j := 4) rfl
    have zr5_10 := Xr9.out.cell (j := 5) rfl
    have yr0_10 := Xr9.out.thaw 0
    have yr1_10 := Xr9.out.thaw 1
    have yr2_10 := Xr9.out.thaw 2
    have yr3_10 := Xr9.out.thaw 3
    have yr4_10 := Xr9.out.thaw 4
    have yr5_10 := Xr9.out.thaw 5
    have zx0_10 := Xx9.out.cell (j := 0) rfl
    have zx1_10 := Xx9.out.cell (j := 1) rfl
    have zx2_10 := Xx9.out.cell (j := 2) rfl
    have zx3_10 := Xx9.out.cell (j := 3) rfl
    have zx4_10 := Xx9.out.cell (j := 4) rfl
    have zx5_10 := Xx9.out.cell (j := 5) rfl
    have yx0_10 := Xx9.out.thaw 0
    have yx1_10 := Xx9.out.thaw 1
    have yx2_10 := Xx9.out.thaw 2
    have yx3_10 := Xx9.out.thaw 3
    have yx4_10 := Xx9.out.thaw 4
    have yx5_10 := Xx9.out.thaw 5
    have hvb : 0 ≤ v3 ∧ v3 ≤ 161 := by simp at hv3; omega
    obtain ⟨n9, rfl⟩ : ∃ n : Nat, v3 = n := ⟨v3.toNat, by omega⟩
    clear hv3
    go_wp2_with fail
    refine Calls.mono (l01Long_any n9 (by omega) 67 (by omega) (by omega) _) ?_
    rintro e w4 ⟨S4, rfl, hS4, b4⟩
    have K11 := hid (K9.out.below b4)
    have G11 := hid (grown_below G9.out b4)
    have Xr11 := hid (Xr9.out.on b4 Xr9.out.lt)
    have Xx11 := hid (Xx9.out.on b4 Xx9.out.lt)
    clear b4 K9 G9 zr0_10 zr1_10 zr2_10 zr3_10 zr4_10 zr5_10 yr0_10 yr1_10 yr2_10 yr3_10 yr4_10 yr5_10 zx0_10 zx1_10 zx2_10 zx3_10 zx4_10 zx5_10 yx0_10 yx1_10 yx2_10 yx3_10 yx4_10 yx5_10 Xr9 Xx9
    have zr0_12 := Xr11.out.cell (j := 0) rfl
    have zr1_12 := Xr11.out.cell (j := 1) rfl
    have zr2_12 := Xr11.out.cell (j := 2) rfl
    have zr3_12 := Xr11.out.cell (j := 3) rfl
    have zr4_12 := Xr11.out.cell (j := 4) rfl
    have zr5_12 := Xr11.out.cell (j := 5) rfl
    have yr0_12 := Xr11.out.thaw 0
    have yr1_12 := Xr11.out.thaw 1
    have yr2_12 := Xr11.out.thaw 2
    have yr3_12 := Xr11.out.thaw 3
    have yr4_12 := Xr11.out.thaw 4
    have yr5_12 := Xr11.out.thaw 5
    have zx0_12 := Xx11.out.cell (j := 0) rfl
    have zx1_12 := Xx11.out.cell (j := 1) rfl
    have zx2_12 := Xx11.out.cell (j := 2) rfl
    have zx3_12 := Xx11.out.cell (j := 3) rfl
    have zx4_12 := Xx11.out.cell (j := 4) rfl
    have zx5_12 := Xx11.out.cell (j := 5) rfl
    have yx0_12 := Xx11.out.thaw 0
    have yx1_12 := Xx11.out.thaw 1
    have yx2_12 := Xx11.out.thaw 2
    have yx3_12 := Xx11.out.thaw 3
    have yx4_12 := Xx11.out.thaw 4
    have yx5_12 := Xx11.out.thaw 5
    have hs9 : S4.size ≤ 161 := by omega
    clear hS4
    have K13 := hid (K11.out.set (b := w1.heap.size) (j := 5) (v := (.string S4)) Nx.out)
    have G13 := hid (grown_far (b := w1.heap.size) (j := 5) (v := (.string S4)) G11.out Mx.out)
    have Xr13 := hid (Xr11.out.far (b := w1.heap.size) (j := 5) (by have := Arx.out; omega) (.string S4))
    have Xx13 : Hid (BlockIs (w4.setCell ⟨w1.heap.size, 5, none⟩ (.string S4)) (w1.heap.size) 26 [.int .i64 d.src, .int .i64 d.dst, .int .i64 d.ident, .int .i64 d.place, .bool d.more, .string S4]) := Xx11.out.set 5 (.string S4)
    clear K11 G11 Xr11 Xx11
    have zr0_14 := Xr13.out.cell (j := 0) rfl
    have zr1_14 := Xr13.out.cell (j := 1) rfl
    have zr2_14 := Xr13.out.cell (j := 2) rfl
    have zr3_14 := Xr13.out.cell (j := 3) rfl
    have zr4_14 := Xr13.out.cell (j := 4) rfl
    have zr5_14 := Xr13.out.cell (j := 5) rfl
    have yr0_14 := Xr13.out.thaw 0
    have yr1_14 := Xr13.out.thaw 1
    have yr2_14 := Xr13.out.thaw 2
    have yr3_14 := Xr13.out.thaw 3
    have yr4_14 := Xr13.out.thaw 4
    have yr5_14 := Xr13.out.thaw 5
    have zx0_14 := Xx13.out.cell (j := 0) rfl
    have zx1_14 := Xx13.out.cell (j := 1) rfl
    have zx2_14 := Xx13.out.cell (j := 2) rfl
    have zx3_14 := Xx13.out.cell (j := 3) rfl
    have zx4_14 := Xx13.out.cell (j := 4) rfl
    have zx5_14 := Xx13.out.cell (j := 5) rfl
    have yx0_14 := Xx13.out.thaw 0
    have yx1_14 := Xx13.out.thaw 1
    have yx2_14 := Xx13.out.thaw 2
    have yx3_14 := Xx13.out.thaw 3
    have yx4_14 := Xx13.out.thaw 4
    have yx5_14 := Xx13.out.thaw 5
    have KL := hid ((((((K13.out.set (b := w.heap.size) (j := 0) (v := .int .i64 d.src) Nr.out).set (b := w.heap.size) (j := 1) (v := .int .i64 d.dst) Nr.out).set (b := w.heap.size) (j := 2) (v := .int .i64 d.ident) Nr.out).set (b := w.heap.size) (j := 3) (v := .int .i64 d.place) Nr.out).set (b := w.heap.size) (j := 4) (v := .bool d.more) Nr.out).set (b := w.heap.size) (j := 5) (v := .string S4) Nr.out)
    have GL := hid (grown_far (b := w.heap.size) (j := 5) (v := .string S4) (grown_far (b := w.heap.size) (j := 4) (v := .bool d.more) (grown_far (b := w.heap.size) (j := 3) (v := .int .i64 d.place) (grown_far (b := w.heap.size) (j := 2) (v := .int .i64 d.ident) (grown_far (b := w.heap.size) (j := 1) (v := .int .i64 d.dst) (grown_far (b := w.heap.size) (j := 0) (v := .int .i64 d.src) G13.out Mr.out) Mr.out) Mr.out) Mr.out) Mr.out) Mr.out)
    go_wp2
    refine bodyPost_ret (v := .agg #[.int .i64 d.src, .int .i64 d.dst, .int .i64 d.ident, .int .i64 d.place, .bool d.more, .string S4]) (by simp [results, Try.results18, go_sem, zr0_14, zr1_14, zr2_14, zr3_14, zr4_14, zr5_14]) rfl ?_
    exact ⟨⟨d.src, d.dst, d.ident, d.place, d.more, S4⟩, rfl, hs9, KL.out, GL.out⟩
  have g0 : (y2 == 0) = false := by simpa using h0
  have g1 : (y2 == 1) = false := by simpa using h1
  have g2 : (y2 == 2) = false := by simpa using h2
  have g3 : (y2 == 3) = false := by simpa using h3
  have g4 : (y2 == 4) = false := by simpa using h4
  have KL := hid ((((((K7.out.set (b := w.heap.size) (j := 0) (v := .int .i64 d.src) Nr.out).set (b := w.heap.size) (j := 1) (v := .int .i64 d.dst) Nr.out).set (b := w.heap.size) (j := 2) (v := .int .i64 d.ident) Nr.out).set (b := w.heap.size) (j := 3) (v := .int .i64 d.place) Nr.out).set (b := w.heap.size) (j := 4) (v := .bool d.more) Nr.out).set (b := w.heap.size) (j := 5) (v := .string d.body) Nr.out)
  have GL := hid (grown_far (b := w.heap.size) (j := 5) (v := .string d.body) (grown_far (b := w.heap.size) (j := 4) (v := .bool d.more) (grown_far (b := w.heap.size) (j := 3) (v := .int .i64 d.place) (grown_far (b := w.heap.size) (j := 2) (v := .int .i64 d.ident) (grown_far (b := w.heap.size) (j := 1) (v := .int .i64 d.dst) (grown_far (b := w.heap.size) (j := 0) (v := .int .i64 d.src) G7.out Mr.out) Mr.out) Mr.out) Mr.out) Mr.out) Mr.out)
  go_wp2
  refine bodyPost_ret (v := .agg #[.int .i64 d.src, .int .i64 d.dst, .int .i64 d.ident, .int .i64 d.place, .bool d.more, .string d.body]) (by simp [results, Try.results18, go_sem, zr0_8, zr1_8, zr2_8, zr3_8, zr4_8, zr5_8]) rfl ?_
  exact ⟨⟨d.src, d.dst, d.ident, d.place, d.more, d.body⟩, rfl, hs, KL.out, GL.out⟩
end Go.Proofs.Ythdklbmachplmaa
