/-
  The walk of spec.l11Dgram: some right datagram.
-/
import Derived.Test.YthdklbmachplmaaJoint1
import Derived.Test.YthdklbmachplmaaJoint23
import Derived.Test.YthdklbmachplmaaJoint24
import Derived.Test.YthdklbmachplmaaJoint25
import Derived.Test.YthdklbmachplmaaJoint22
namespace Go.Proofs.Ythdklbmachplmaa
open Go.RowKit

/-- right, and whole -/
def WholeD (d : DgramD) : Prop := (1 ≤ d.src ∧ d.src ≤ 99) ∧ (1 ≤ d.dst ∧ d.dst ≤ 99) ∧ (0 ≤ d.ident ∧ d.ident ≤ 65535) ∧ d.place = 0 ∧ d.more = false ∧ (1 ≤ (d.body.size : Int) ∧ (d.body.size : Int) ≤ 160)
theorem wholeD_mk {a b c : Int} {s : ByteArray} (a1 : 1 ≤ a) (a2 : a ≤ 99) (b1 : 1 ≤ b) (b2 : b ≤ 99) (c1 : 0 ≤ c) (c2 : c ≤ 65535) (hs : 1 ≤ (s.size : Int) ∧ (s.size : Int) ≤ 160) : WholeD ⟨a, b, c, 0, false, s⟩ := ⟨⟨a1, a2⟩, ⟨b1, b2⟩, ⟨c1, c2⟩, rfl, rfl, hs⟩
set_option maxRecDepth 1000000 in
set_option maxHeartbeats 4000000 in
theorem l11Dgram_any (C : Nat) (w : World) (hc : CurAt w C) :
    Calls Try.prog 20 #[.pointer (some ⟨C, 0, none⟩)] w fun e w' => ∃ d : DgramD, e = .returned (.agg #[.int .i64 d.src, .int .i64 d.dst, .int .i64 d.ident, .int .i64 d.place, .bool d.more, .string d.body]) ∧ WholeD d ∧ CurAt w' C ∧ w.grownBy w' (some C) := by
  have hCl := hc.lt
  have K0 := hid hc
  have G0 := hid (World.grownBy.refl w (some C))
  clear hc
  have be := below_more (Below.refl w.heap.size w) (.cells #[.int .i64 0, .int .i64 0, .int .i64 0, .int .i64 0, .bool false, .string ⟨#[]⟩] 26)
  have hx1 : BlockIs (w.alloc (.cells #[.int .i64 0, .int .i64 0, .int .i64 0, .int .i64 0, .bool false, .string ⟨#[]⟩] 26)) w.heap.size 26 [.int .i64 0, .int .i64 0, .int .i64 0, .int .i64 0, .bool false, .string ⟨#[]⟩] := heap_alloc_new w _
  have K1 := hid (K0.out.below be)
  have G1 := hid (grown_below G0.out be)
  have Xr1 := hid hx1
  have Nr : Hid (C < w.heap.size) := (show _ < _ by omega)
  have Mr : Hid (w.heap.size ≤ w.heap.size) := (show _ ≤ _ by omega)
  clear be hx1  K0 G0
  obtain ⟨W0, hW0⟩ : ∃ W, w.alloc (.cells #[.int .i64 0, .int .i64 0, .int .i64 0, .int .i64 0, .bool false, .string ⟨#[]⟩] 26) = W := ⟨_, rfl⟩
  rw [hW0] at K1 G1 Xr1
  have zr0_2 := Xr1.out.cell (j := 0) rfl
  have zr1_2 := Xr1.out.cell (j := 1) rfl
  have zr2_2 := Xr1.out.cell (j := 2) rfl
  have zr3_2 := Xr1.out.cell (j := 3) rfl
  have zr4_2 := Xr1.out.cell (j := 4) rfl
  have zr5_2 := Xr1.out.cell (j := 5) rfl
  have yr0_2 := Xr1.out.thaw 0
  have yr1_2 := Xr1.out.thaw 1
  have yr2_2 := Xr1.out.thaw 2
  have yr3_2 := Xr1.out.thaw 3
  have yr4_2 := Xr1.out.thaw 4
  have yr5_2 := Xr1.out.thaw 5
  go_enter Try.func20, Try.ntmps20
  go_wp2_with fail
  refine Calls.mono (l01Below_any C 3 (by omega) (by omega) _ K1.out) ?_
  rintro e w1 ⟨y1, rfl, lo1, hi1, k1, q1⟩
  have K3 := hid (k1)
  have G3 := hid (G1.out.trans q1)
  have Xr3 := hid (Xr1.out.cur q1 Nr.out)
  clear k1 q1 K1 G1 zr0_2 zr1_2 zr2_2 zr3_2 zr4_2 zr5_2 yr0_2 yr1_2 yr2_2 yr3_2 yr4_2 yr5_2 Xr1
  have zr0_4 := Xr3.out.cell (j := 0) rfl
  have zr1_4 := Xr3.out.cell (j := 1) rfl
  have zr2_4 := Xr3.out.cell (j := 2) rfl
  have zr3_4 := Xr3.out.cell (j := 3) rfl
  have zr4_4 := Xr3.out.cell (j := 4) rfl
  have zr5_4 := Xr3.out.cell (j := 5) rfl
  have yr0_4 := Xr3.out.thaw 0
  have yr1_4 := Xr3.out.thaw 1
  have yr2_4 := Xr3.out.thaw 2
  have yr3_4 := Xr3.out.thaw 3
  have yr4_4 := Xr3.out.thaw 4
  have yr5_4 := Xr3.out.thaw 5
  go_wp2_with fail
  refine Calls.mono (l01Below_any C 3 (by omega) (by omega) _ K3.out) ?_
  rintro e w2 ⟨y2, rfl, lo2, hi2, k2, q2⟩
  have K5 := hid (k2)
  have G5 := hid (G3.out.trans q2)
  have Xr5 := hid (Xr3.out.cur q2 Nr.out)
  clear k2 q2 K3 G3 zr0_4 zr1_4 zr2_4 zr3_4 zr4_4 zr5_4 yr0_4 yr1_4 yr2_4 yr3_4 yr4_4 yr5_4 Xr3
  have zr0_6 := Xr5.out.cell (j := 0) rfl
  have zr1_6 := Xr5.out.cell (j := 1) rfl
  have zr2_6 := Xr5.out.cell (j := 2) rfl
  have zr3_6 := Xr5.out.cell (j := 3) rfl
  have zr4_6 := Xr5.out.cell (j := 4) rfl
  have zr5_6 := Xr5.out.cell (j := 5) rfl
  have yr0_6 := Xr5.out.thaw 0
  have yr1_6 := Xr5.out.thaw 1
  have yr2_6 := Xr5.out.thaw 2
  have yr3_6 := Xr5.out.thaw 3
  have yr4_6 := Xr5.out.thaw 4
  have yr5_6 := Xr5.out.thaw 5
  go_wp2_with fail
  refine Calls.mono (l01Below_any C 4 (by omega) (by omega) _ K5.out) ?_
  rintro e w3 ⟨y3, rfl, lo3, hi3, k3, q3⟩
  have K7 := hid (k3)
  have G7 := hid (G5.out.trans q3)
  have Xr7 := hid (Xr5.out.cur q3 Nr.out)
  clear k3 q3 K5 G5 zr0_6 zr1_6 zr2_6 zr3_6 zr4_6 zr5_6 yr0_6 yr1_6 yr2_6 yr3_6 yr4_6 yr5_6 Xr5
  have zr0_8 := Xr7.out.cell (j := 0) rfl
  have zr1_8 := Xr7.out.cell (j := 1) rfl
  have zr2_8 := Xr7.out.cell (j := 2) rfl
  have zr3_8 := Xr7.out.cell (j := 3) rfl
  have zr4_8 := Xr7.out.cell (j := 4) rfl
  have zr5_8 := Xr7.out.cell (j := 5) rfl
  have yr0_8 := Xr7.out.thaw 0
  have yr1_8 := Xr7.out.thaw 1
  have yr2_8 := Xr7.out.thaw 2
  have yr3_8 := Xr7.out.thaw 3
  have yr4_8 := Xr7.out.thaw 4
  have yr5_8 := Xr7.out.thaw 5
  go_wp2_with fail
  refine Calls.mono (l01Below_any C 30 (by omega) (by omega) _ K7.out) ?_
  rintro e w4 ⟨y4, rfl, lo4, hi4, k4, q4⟩
  have K9 := hid (k4)
  have G9 := hid (G7.out.trans q4)
  have Xr9 := hid (Xr7.out.cur q4 Nr.out)
  clear k4 q4 K7 G7 zr0_8 zr1_8 zr2_8 zr3_8 zr4_8 zr5_8 yr0_8 yr1_8 yr2_8 yr3_8 yr4_8 yr5_8 Xr7
  have zr0_10 := Xr9.out.cell (j := 0) rfl
  have zr1_10 := Xr9.out.cell (j := 1) rfl
  have zr2_10 := Xr9.out.cell (j := 2) rfl
  have zr3_10 := Xr9.out.cell (j := 3) rfl
  have zr4_10 := Xr9.out.cell (j := 4) rfl
  have zr5_10 := Xr9.out.cell (j := 5) rfl
  have yr0_10 := Xr9.out.thaw 0
  have yr1_10 := Xr9.out.thaw 1
  have yr2_10 := Xr9.out.thaw 2
  have yr3_10 := Xr9.out.thaw 3
  have yr4_10 := Xr9.out.thaw 4
  have yr5_10 := Xr9.out.thaw 5
  obtain ⟨n4, hn4⟩ : ∃ n : Nat, 1 + y4 = n := ⟨(1 + y4).toNat, by omega⟩
  go_wp2_with fail
  refine Calls.mono (l01Text_any C n4 (by omega) _ K9.out) ?_
  rintro e w5 ⟨s5, rfl, hs5, k5, q5⟩
  have K11 := hid (k5)
  have G11 := hid (G9.out.trans q5)
  have Xr11 := hid (Xr9.out.cur q5 Nr.out)
  clear k5 q5 K9 G9 zr0_10 zr1_10 zr2_10 zr3_10 zr4_10 zr5_10 yr0_10 yr1_10 yr2_10 yr3_10 yr4_10 yr5_10 Xr9
  have zr0_12 := Xr11.out.cell (j := 0) rfl
  have zr1_12 := Xr11.out.cell (j := 1) rfl
  have zr2_12 := Xr11.out.cell (j := 2) rfl
  have zr3_12 := Xr11.out.cell (j := 3) rfl
  have zr4_12 := Xr11.out.cell (j := 4) rfl
  have zr5_12 := Xr11.out.cell (j := 5) rfl
  have yr0_12 := Xr11.out.thaw 0
  have yr1_12 := Xr11.out.thaw 1
  have yr2_12 := Xr11.out.thaw 2
  have yr3_12 := Xr11.out.thaw 3
  have yr4_12 := Xr11.out.thaw 4
  have yr5_12 := Xr11.out.thaw 5
  have hs : 1 ≤ (s5.size : Int) ∧ (s5.size : Int) ≤ 160 := by omega
  clear hs5
  have ba := below_more (Below.refl w5.heap.size w5) (.cells #[.int .i64 (1 + y1), .int .i64 (1 + y2), .int .i64 y3, .int .i64 0, .bool false, .string s5] 26)
  have Mx := hid G11.out.size
  have Nx := hid (Nat.lt_of_lt_of_le hCl G11.out.size)
  have hx : BlockIs (w5.alloc (.cells #[.int .i64 (1 + y1), .int .i64 (1 + y2), .int .i64 y3, .int .i64 0, .bool false, .string s5] 26)) w5.heap.size 26 [.int .i64 (1 + y1), .int .i64 (1 + y2), .int .i64 y3, .int .i64 0, .bool false, .string s5] := heap_alloc_new w5 _
  have Arx := hid Xr11.out.lt
  have K13 := hid (K11.out.below ba)
  have G13 := hid (grown_below G11.out ba)
  have Xr13 := hid (Xr11.out.on ba Xr11.out.lt)
  have Xx13 := hid hx
  clear hx
  clear ba K11 G11 zr0_12 zr1_12 zr2_12 zr3_12 zr4_12 zr5_12 yr0_12 yr1_12 yr2_12 yr3_12 yr4_12 yr5_12 Xr11
  have zr0_14 := Xr13.out.cell (j := 0) rfl
  have zr1_14 := Xr13.out.cell (j := 1) rfl
  have zr2_14 := Xr13.out.cell (j := 2) rfl
  have zr3_14 := Xr13.out.cell (j := 3) rfl
  have zr4_14 := Xr13.out.cell (j := 4) rfl
  have zr5_14 := Xr13.out.cell (j := 5) rfl
  have yr0_14 := Xr13.out.thaw 0
  have yr1_14 := Xr13.out.thaw 1
  have yr2_14 := Xr13.out.thaw 2
  have yr3_14 := Xr13.out.thaw 3
  have yr4_14 := Xr13.out.thaw 4
  have yr5_14 := Xr13.out.thaw 5
  have zx0_14 := Xx13.out.cell (j := 0) rfl
  have zx1_14 := Xx13.out.cell (j := 1) rfl
  have zx2_14 := Xx13.out.cell (j := 2) rfl
  have zx3_14 := Xx13.out.cell (j := 3) rfl
  have zx4_14 := Xx13.out.cell (j := 4) rfl
  have zx5_14 := Xx13.out.cell (j := 5) rfl
  have yx0_14 := Xx13.out.thaw 0
  have yx1_14 := Xx13.out.thaw 1
  have yx2_14 := Xx13.out.thaw 2
  have yx3_14 := Xx13.out.thaw 3
  have yx4_14 := Xx13.out.thaw 4
  have yx5_14 := Xx13.out.thaw 5
  go_wp2_with fail
  refine Calls.mono (l01Once_any C 4 (by omega) (by omega) _ K13.out) ?_
  rintro e w6 ⟨b6, rfl, k6, q6⟩
  have K15 := hid (k6)
  have G15 := hid (G13.out.trans q6)
  have Xr15 := hid (Xr13.out.cur q6 Nr.out)
  have Xx15 := hid (Xx13.out.cur q6 Nx.out)
  clear k6 q6 K13 G13 zr0_14 zr1_14 zr2_14 zr3_14 zr4_14 zr5_14 yr0_14 yr1_14 yr2_14 yr3_14 yr4_14 yr5_14 zx0_14 zx1_14 zx2_14 zx3_14 zx4_14 zx5_14 yx0_14 yx1_14 yx2_14 yx3_14 yx4_14 yx5_14 Xr13 Xx13
  have zr0_16 := Xr15.out.cell (j := 0) rfl
  have zr1_16 := Xr15.out.cell (j := 1) rfl
  have zr2_16 := Xr15.out.cell (j := 2) rfl
  have zr3_16 := Xr15.out.cell (j := 3) rfl
  have zr4_16 := Xr15.out.cell (j := 4) rfl
  have zr5_16 := Xr15.out.cell (j := 5) rfl
  have yr0_16 := Xr15.out.thaw 0
  have yr1_16 := Xr15.out.thaw 1
  have yr2_16 := Xr15.out.thaw 2
  have yr3_16 := Xr15.out.thaw 3
  have yr4_16 := Xr15.out.thaw 4
  have yr5_16 := Xr15.out.thaw 5
  have zx0_16 := Xx15.out.cell (j := 0) rfl
  have zx1_16 := Xx15.out.cell (j := 1) rfl
  have zx2_16 := Xx15.out.cell (j := 2) rfl
  have zx3_16 := Xx15.out.cell (j := 3) rfl
  have zx4_16 := Xx15.out.cell (j := 4) rfl
  have zx5_16 := Xx15.out.cell (j := 5) rfl
  have yx0_16 := Xx15.out.thaw 0
  have yx1_16 := Xx15.out.thaw 1
  have yx2_16 := Xx15.out.thaw 2
  have yx3_16 := Xx15.out.thaw 3
  have yx4_16 := Xx15.out.thaw 4
  have yx5_16 := Xx15.out.thaw 5
  cases b6 with
  | false =>
    have KL := hid ((((((K15.out.set (b := w.heap.size) (j := 0) (v := .int .i64 (1 + y1)) Nr.out).set (b := w.heap.size) (j := 1) (v := .int .i64 (1 + y2)) Nr.out).set (b := w.heap.size) (j := 2) (v := .int .i64 y3) Nr.out).set (b := w.heap.size) (j := 3) (v := .int .i64 0) Nr.out).set (b := w.heap.size) (j := 4) (v := .bool false) Nr.out).set (b := w.heap.size) (j := 5) (v := .string s5) Nr.out)
    have GL := hid (grown_far (b := w.heap.size) (j := 5) (v := .string s5) (grown_far (b := w.heap.size) (j := 4) (v := .bool false) (grown_far (b := w.heap.size) (j := 3) (v := .int .i64 0) (grown_far (b := w.heap.size) (j := 2) (v := .int .i64 y3) (grown_far (b := w.heap.size) (j := 1) (v := .int .i64 (1 + y2)) (grown_far (b := w.heap.size) (j := 0) (v := .int .i64 (1 + y1)) G15.out Mr.out) Mr.out) Mr.out) Mr.out) Mr.out) Mr.out)
    go_wp2
    refine bodyPost_ret (v := .agg #[.int .i64 (1 + y1), .int .i64 (1 + y2), .int .i64 y3, .int .i64 0, .bool false, .string s5]) (by simp [results, Try.results20, go_sem, zr0_16, zr1_16, zr2_16, zr3_16, zr4_16, zr5_16]) rfl ?_
    exact ⟨⟨(1 + y1), (1 + y2), y3, 0, false, s5⟩, rfl, wholeD_mk (by omega) (by omega) (by omega) (by omega) (by omega) (by omega) hs, KL.out, GL.out⟩
  | true =>
    go_wp2_with fail
    refine Calls.mono (pickI_any C [1, 8, 64, 100, 160] (by decide) (by decide) 3 _ _ rfl K15.out) ?_
    rintro e w7 ⟨v7, rfl, hv7, k7, q7⟩
    have K17 := hid (k7)
    have G17 := hid (G15.out.trans q7)
    have Xr17 := hid (Xr15.out.cur q7 Nr.out)
    have Xx17 := hid (Xx15.out.cur q7 Nx.out)
    clear k7 q7 K15 G15 zr0_16 zr1_16 zr2_16 zr3_16 zr4_16 zr5_16 yr0_16 yr1_16 yr2_16 yr3_16 yr4_16 yr5_16 zx0_16 zx1_16 zx2_16 zx3_16 zx4_16 zx5_16 yx0_16 yx1_16 yx2_16 yx3_16 yx4_16 yx5_16 Xr15 Xx15
    have zr0_18 := Xr17.out.cell (j := 0) rfl
    have zr1_18 := Xr17.out.cell (j := 1) rfl
    have zr2_18 := Xr17.out.cell (j := 2) rfl
    have zr3_18 := Xr17.out.cell (j := 3) rfl
    have zr4_18 := Xr17.out.cell (j := 4) rfl
    have zr5_18 := Xr17.out.cell (j := 5) rfl
    have yr0_18 := Xr17.out.thaw 0
    have yr1_18 := Xr17.out.thaw 1
    have yr2_18 := Xr17.out.thaw 2
    have yr3_18 := Xr17.out.thaw 3
    have yr4_18 := Xr17.out.thaw 4
    have yr5_18 := Xr17.out.thaw 5
    have zx0_18 := Xx17.out.cell (j := 0) rfl
    have zx1_18 := Xx17.out.cell (j := 1) rfl
    have zx2_18 := Xx17.out.cell (j := 2) rfl
    have zx3_18 := Xx17.out.cell (j := 3) rfl
    have zx4_18 := Xx17.out.cell (j := 4) rfl
    have zx5_18 := Xx17.out.cell (j := 5) rfl
    have yx0_18 := Xx17.out.thaw 0
    have yx1_18 := Xx17.out.thaw 1
    have yx2_18 := Xx17.out.thaw 2
    have yx3_18 := Xx17.out.thaw 3
    have yx4_18 := Xx17.out.thaw 4
    have yx5_18 := Xx17.out.thaw 5
    have hvb : 1 ≤ v7 ∧ v7 ≤ 160 := by simp at hv7; omega
    obtain ⟨n9, rfl⟩ : ∃ n : Nat, v7 = n := ⟨v7.toNat, by omega⟩
    clear hv7
    go_wp2_with fail
    refine Calls.mono (l01Long_any n9 (by omega) 66 (by omega) (by omega) _) ?_
    rintro e w8 ⟨S8, rfl, hS8, b8⟩
    have K19 := hid (K17.out.below b8)
    have G19 := hid (grown_below G17.out b8)
    have Xr19 := hid (Xr17.out.on b8 Xr17.out.lt)
    have Xx19 := hid (Xx17.out.on b8 Xx17.out.lt)
    clear b8 K17 G17 zr0_18 zr1_18 zr2_18 zr3_18 zr4_18 zr5_18 yr0_18 yr1_18 yr2_18 yr3_18 yr4_18 yr5_18 zx0_18 zx1_18 zx2_18 zx3_18 zx4_18 zx5_18 yx0_18 yx1_18 yx2_18 yx3_18 yx4_18 yx5_18 Xr17 Xx17
    have zr0_20 := Xr19.out.cell (j := 0) rfl
    have zr1_20 := Xr19.out.cell (j := 1) rfl
    have zr2_20 := Xr19.out.cell (j := 2) rfl
    have zr3_20 := Xr19.out.cell (j := 3) rfl
    have zr4_20 := Xr19.out.cell (j := 4) rfl
    have zr5_20 := Xr19.out.cell (j := 5) rfl
    have yr0_20 := Xr19.out.thaw 0
    have yr1_20 := Xr19.out.thaw 1
    have yr2_20 := Xr19.out.thaw 2
    have yr3_20 := Xr19.out.thaw 3
    have yr4_20 := Xr19.out.thaw 4
    have yr5_20 := Xr19.out.thaw 5
    have zx0_20 := Xx19.out.cell (j := 0) rfl
    have zx1_20 := Xx19.out.cell (j := 1) rfl
    have zx2_20 := Xx19.out.cell (j := 2) rfl
    have zx3_20 := Xx19.out.cell (j := 3) rfl
    have zx4_20 := Xx19.out.cell (j := 4) rfl
    have zx5_20 := Xx19.out.cell (j := 5) rfl
    have yx0_20 := Xx19.out.thaw 0
    have yx1_20 := Xx19.out.thaw 1
    have yx2_20 := Xx19.out.thaw 2
    have yx3_20 := Xx19.out.thaw 3
    have yx4_20 := Xx19.out.thaw 4
    have yx5_20 := Xx19.out.thaw 5
    have hs9 : 1 ≤ (S8.size : Int) ∧ (S8.size : Int) ≤ 160 := by omega
    clear hS8
    have K21 := hid (K19.out.set (b := w5.heap.size) (j := 5) (v := (.string S8)) Nx.out)
    have G21 := hid (grown_far (b := w5.heap.size) (j := 5) (v := (.string S8)) G19.out Mx.out)
    have Xr21 := hid (Xr19.out.far (b := w5.heap.size) (j := 5) (by have := Arx.out; omega) (.string S8))
    have Xx21 : Hid (BlockIs (w8.setCell ⟨w5.heap.size, 5, none⟩ (.string S8)) (w5.heap.size) 26 [.int .i64 (1 + y1), .int .i64 (1 + y2), .int .i64 y3, .int .i64 0, .bool false, .string S8]) := Xx19.out.set 5 (.string S8)
    clear K19 G19 Xr19 Xx19
    have zr0_22 := Xr21.out.cell (j := 0) rfl
    have zr1_22 := Xr21.out.cell (j := 1) rfl
    have zr2_22 := Xr21.out.cell (j := 2) rfl
    have zr3_22 := Xr21.out.cell (j := 3) rfl
    have zr4_22 := Xr21.out.cell (j := 4) rfl
    have zr5_22 := Xr21.out.cell (j := 5) rfl
    have yr0_22 := Xr21.out.thaw 0
    have yr1_22 := Xr21.out.thaw 1
    have yr2_22 := Xr21.out.thaw 2
    have yr3_22 := Xr21.out.thaw 3
    have yr4_22 := Xr21.out.thaw 4
    have yr5_22 := Xr21.out.thaw 5
    have zx0_22 := Xx21.out.cell (j := 0) rfl
    have zx1_22 := Xx21.out.cell (j := 1) rfl
    have zx2_22 := Xx21.out.cell (j := 2) rfl
    have zx3_22 := Xx21.out.cell (j := 3) rfl
    have zx4_22 := Xx21.out.cell (j := 4) rfl
    have zx5_22 := Xx21.out.cell (j := 5) rfl
    have yx0_22 := Xx21.out.thaw 0
    have yx1_22 := Xx21.out.thaw 1
    have yx2_22 := Xx21.out.thaw 2
    have yx3_22 := Xx21.out.thaw 3
    have yx4_22 := Xx21.out.thaw 4
    have yx5_22 := Xx21.out.thaw 5
    have KL := hid ((((((K21.out.set (b := w.heap.size) (j := 0) (v := .int .i64 (1 + y1)) Nr.out).set (b := w.heap.size) (j := 1) (v := .int .i64 (1 + y2)) Nr.out).set (b := w.heap.size) (j := 2) (v := .int .i64 y3) Nr.out).set (b := w.heap.size) (j := 3) (v := .int .i64 0) Nr.out).set (b := w.heap.size) (j := 4) (v := .bool false) Nr.out).set (b := w.heap.size) (j := 5) (v := .string S8) Nr.out)
    have GL := hid (grown_far (b := w.heap.size) (j := 5) (v := .string S8) (grown_far (b := w.heap.size) (j := 4) (v := .bool false) (grown_far (b := w.heap.size) (j := 3) (v := .int .i64 0) (grown_far (b := w.heap.size) (j := 2) (v := .int .i64 y3) (grown_far (b := w.heap.size) (j := 1) (v := .int .i64 (1 + y2)) (grown_far (b := w.heap.size) (j := 0) (v := .int .i64 (1 + y1)) G21.out Mr.out) Mr.out) Mr.out) Mr.out) Mr.out) Mr.out)
    go_wp2
    refine bodyPost_ret (v := .agg #[.int .i64 (1 + y1), .int .i64 (1 + y2), .int .i64 y3, .int .i64 0, .bool false, .string S8]) (by simp [results, Try.results20, go_sem, zr0_22, zr1_22, zr2_22, zr3_22, zr4_22, zr5_22]) rfl ?_
    exact ⟨⟨(1 + y1), (1 + y2), y3, 0, false, S8⟩, rfl, wholeD_mk (by omega) (by omega) (by omega) (by omega) (by omega) (by omega) hs9, KL.out, GL.out⟩
end Go.Proofs.Ythdklbmachplmaa
