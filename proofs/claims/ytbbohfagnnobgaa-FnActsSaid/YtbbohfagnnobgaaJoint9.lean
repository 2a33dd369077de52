/-
  The walk of spec.l03Act: some act, whose texts are short.
-/
import Derived.Test.YtbbohfagnnobgaaJoint4
import Derived.Test.YtbbohfagnnobgaaJoint7
import Derived.Test.YtbbohfagnnobgaaJoint8
import Derived.Test.YtbbohfagnnobgaaJoint1
namespace Go.Proofs.Ytbbohfagnnobgaa
open Go.RowKit

/-- a drawn act is small -/
def ActD.Tiny (a : ActD) : Prop := a.name.size ≤ 10 ∧ a.text.size ≤ 10 ∧ a.to.size ≤ 10
theorem tiny_mk {kd : Int} {a b c : ByteArray} (h1 : a.size ≤ 10) (h2 : b.size ≤ 10) (h3 : c.size ≤ 10) : ActD.Tiny ⟨kd, a, b, c⟩ := ⟨h1, h2, h3⟩

set_option maxRecDepth 1000000 in
set_option maxHeartbeats 4000000 in
theorem l03Act_any (C : Nat) (w : World) (hc : CurAt w C) :
    Calls Try.prog 68 #[.pointer (some ⟨C, 0, none⟩)] w fun e w' => ∃ a : ActD, e = .returned (.agg #[.int .i64 a.kind, .string a.name, .string a.text, .string a.to]) ∧ a.Tiny ∧ CurAt w' C ∧ w.grownBy w' (some C) := by
  have hCl := hc.lt
  have K0 := hid hc
  have G0 := hid (World.grownBy.refl w (some C))
  clear hc
  have be := below_more (Below.refl w.heap.size w) (.cells #[.int .i64 0, .string ⟨#[]⟩, .string ⟨#[]⟩, .string ⟨#[]⟩] 37)
  have hx1 : BlockIs (w.alloc (.cells #[.int .i64 0, .string ⟨#[]⟩, .string ⟨#[]⟩, .string ⟨#[]⟩] 37)) w.heap.size 37 [.int .i64 0, .string ⟨#[]⟩, .string ⟨#[]⟩, .string ⟨#[]⟩] := heap_alloc_new w _
  have K1 := hid (K0.out.below be)
  have G1 := hid (grown_below G0.out be)
  have Xr1 := hid hx1
  have Nr : Hid (C < w.heap.size) := (show _ < _ by omega)
  have Mr : Hid (w.heap.size ≤ w.heap.size) := (show _ ≤ _ by omega)
  clear be hx1  K0 G0
  obtain ⟨W0, hW0⟩ : ∃ W, w.alloc (.cells #[.int .i64 0, .string ⟨#[]⟩, .string ⟨#[]⟩, .string ⟨#[]⟩] 37) = W := ⟨_, rfl⟩
  rw [hW0] at K1 G1 Xr1
  have zr0_2 := Xr1.out.cell (j := 0) rfl
  have zr1_2 := Xr1.out.cell (j := 1) rfl
  have zr2_2 := Xr1.out.cell (j := 2) rfl
  have zr3_2 := Xr1.out.cell (j := 3) rfl
  have yr0_2 := Xr1.out.thaw 0
  have yr1_2 := Xr1.out.thaw 1
  have yr2_2 := Xr1.out.thaw 2
  have yr3_2 := Xr1.out.thaw 3
  go_enter Try.func68, Try.ntmps68
  go_wp2_with fail
  refine Calls.mono (l01Below_any C 4 (by omega) (by omega) _ K1.out) ?_
  rintro e w1 ⟨y1, rfl, hy1, hz1, k1, q1⟩
  have K3 := hid (k1)
  have G3 := hid (G1.out.trans q1)
  have Xr3 := hid (Xr1.out.cur q1 Nr.out)
  clear k1 q1 K1 G1 zr0_2 zr1_2 zr2_2 zr3_2 yr0_2 yr1_2 yr2_2 yr3_2 Xr1
  have zr0_4 := Xr3.out.cell (j := 0) rfl
  have zr1_4 := Xr3.out.cell (j := 1) rfl
  have zr2_4 := Xr3.out.cell (j := 2) rfl
  have zr3_4 := Xr3.out.cell (j := 3) rfl
  have yr0_4 := Xr3.out.thaw 0
  have yr1_4 := Xr3.out.thaw 1
  have yr2_4 := Xr3.out.thaw 2
  have yr3_4 := Xr3.out.thaw 3
  go_wp2_with fail
  refine Calls.mono (l03Named_any C _ K3.out) ?_
  rintro e w2 ⟨s2, rfl, hs2, ht2, k2, q2⟩
  have K5 := hid (k2)
  have G5 := hid (G3.out.trans q2)
  have Xr5 := hid (Xr3.out.cur q2 Nr.out)
  clear k2 q2 K3 G3 zr0_4 zr1_4 zr2_4 zr3_4 yr0_4 yr1_4 yr2_4 yr3_4 Xr3
  have zr0_6 := Xr5.out.cell (j := 0) rfl
  have zr1_6 := Xr5.out.cell (j := 1) rfl
  have zr2_6 := Xr5.out.cell (j := 2) rfl
  have zr3_6 := Xr5.out.cell (j := 3) rfl
  have yr0_6 := Xr5.out.thaw 0
  have yr1_6 := Xr5.out.thaw 1
  have yr2_6 := Xr5.out.thaw 2
  have yr3_6 := Xr5.out.thaw 3
  by_cases k0 : y1 = 0
  · subst k0
    have ba := below_more (Below.refl w2.heap.size w2) (.cells #[.int .i64 1, .string s2, .string ⟨#[]⟩, .string ⟨#[]⟩] 37)
    have Ma := hid G5.out.size
    have Na := hid (Nat.lt_of_lt_of_le hCl G5.out.size)
    have hx : BlockIs (w2.alloc (.cells #[.int .i64 1, .string s2, .string ⟨#[]⟩, .string ⟨#[]⟩] 37)) w2.heap.size 37 [.int .i64 1, .string s2, .string ⟨#[]⟩, .string ⟨#[]⟩] := heap_alloc_new w2 _
    have Ara := hid Xr5.out.lt
    have K7 := hid (K5.out.below ba)
    have G7 := hid (grown_below G5.out ba)
    have Xr7 := hid (Xr5.out.on ba Xr5.out.lt)
    have Xa7 := hid hx
    clear hx
    clear ba K5 G5 zr0_6 zr1_6 zr2_6 zr3_6 yr0_6 yr1_6 yr2_6 yr3_6 Xr5
    have zr0_8 := Xr7.out.cell (j := 0) rfl
    have zr1_8 := Xr7.out.cell (j := 1) rfl
    have zr2_8 := Xr7.out.cell (j := 2) rfl
    have zr3_8 := Xr7.out.cell (j := 3) rfl
    have yr0_8 := Xr7.out.thaw 0
    have yr1_8 := Xr7.out.thaw 1
    have yr2_8 := Xr7.out.thaw 2
    have yr3_8 := Xr7.out.thaw 3
    have za0_8 := Xa7.out.cell (j := 0) rfl
    have za1_8 := Xa7.out.cell (j := 1) rfl
    have za2_8 := Xa7.out.cell (j := 2) rfl
    have za3_8 := Xa7.out.cell (j := 3) rfl
    have ya0_8 := Xa7.out.thaw 0
    have ya1_8 := Xa7.out.thaw 1
    have ya2_8 := Xa7.out.thaw 2
    have ya3_8 := Xa7.out.thaw 3
    go_wp2_with fail
    refine Calls.mono (l01Below_any C 6 (by omega) (by omega) _ K7.out) ?_
    rintro e w3 ⟨x3, rfl, hx3, hw3, k3, q3⟩
    have K9 := hid (k3)
    have G9 := hid (G7.out.trans q3)
    have Xr9 := hid (Xr7.out.cur q3 Nr.out)
    have Xa9 := hid (Xa7.out.cur q3 Na.out)
    clear k3 q3 K7 G7 zr0_8 zr1_8 zr2_8 zr3_8 yr0_8 yr1_8 yr2_8 yr3_8 za0_8 za1_8 za2_8 za3_8 ya0_8 ya1_8 ya2_8 ya3_8 Xr7 Xa7
    obtain ⟨n3, rfl⟩ : ∃ n : Nat, x3 = n := ⟨x3.toNat, by omega⟩
    have zr0_10 := Xr9.out.cell (j := 0) rfl
    have zr1_10 := Xr9.out.cell (j := 1) rfl
    have zr2_10 := Xr9.out.cell (j := 2) rfl
    have zr3_10 := Xr9.out.cell (j := 3) rfl
    have yr0_10 := Xr9.out.thaw 0
    have yr1_10 := Xr9.out.thaw 1
    have yr2_10 := Xr9.out.thaw 2
    have yr3_10 := Xr9.out.thaw 3
    have za0_10 := Xa9.out.cell (j := 0) rfl
    have za1_10 := Xa9.out.cell (j := 1) rfl
    have za2_10 := Xa9.out.cell (j := 2) rfl
    have za3_10 := Xa9.out.cell (j := 3) rfl
    have ya0_10 := Xa9.out.thaw 0
    have ya1_10 := Xa9.out.thaw 1
    have ya2_10 := Xa9.out.thaw 2
    have ya3_10 := Xa9.out.thaw 3
    go_wp2_with fail
    refine Calls.mono (l01Text_any C n3 (by omega) _ K9.out) ?_
    rintro e w4 ⟨t4, rfl, hT4, k4, q4⟩
    have K11 := hid (k4)
    have G11 := hid (G9.out.trans q4)
    have Xr11 := hid (Xr9.out.cur q4 Nr.out)
    have Xa11 := hid (Xa9.out.cur q4 Na.out)
    clear k4 q4 K9 G9 zr0_10 zr1_10 zr2_10 zr3_10 yr0_10 yr1_10 yr2_10 yr3_10 za0_10 za1_10 za2_10 za3_10 ya0_10 ya1_10 ya2_10 ya3_10 Xr9 Xa9
    have zr0_12 := Xr11.out.cell (j := 0) rfl
    have zr1_12 := Xr11.out.cell (j := 1) rfl
    have zr2_12 := Xr11.out.cell (j := 2) rfl
    have zr3_12 := Xr11.out.cell (j := 3) rfl
    have yr0_12 := Xr11.out.thaw 0
    have yr1_12 := Xr11.out.thaw 1
    have yr2_12 := Xr11.out.thaw 2
    have yr3_12 := Xr11.out.thaw 3
    have za0_12 := Xa11.out.cell (j := 0) rfl
    have za1_12 := Xa11.out.cell (j := 1) rfl
    have za2_12 := Xa11.out.cell (j := 2) rfl
    have za3_12 := Xa11.out.cell (j := 3) rfl
    have ya0_12 := Xa11.out.thaw 0
    have ya1_12 := Xa11.out.thaw 1
    have ya2_12 := Xa11.out.thaw 2
    have ya3_12 := Xa11.out.thaw 3
    have K13 := hid (K11.out.set (b := w2.heap.size) (j := 2) (v := (.string t4)) Na.out)
    have G13 := hid (grown_far (b := w2.heap.size) (j := 2) (v := (.string t4)) G11.out Ma.out)
    have Xr13 := hid (Xr11.out.far (b := w2.heap.size) (j := 2) (by have := Ara.out; omega) (.string t4))
    have Xa13 : Hid (BlockIs (w4.setCell ⟨w2.heap.size, 2, none⟩ (.string t4)) (w2.heap.size) 37 [.int .i64 1, .string s2, .string t4, .string ⟨#[]⟩]) := Xa11.out.set 2 (.string t4)
    clear K11 G11 Xr11 Xa11
    have zr0_14 := Xr13.out.cell (j := 0) rfl
    have zr1_14 := Xr13.out.cell (j := 1) rfl
    have zr2_14 := Xr13.out.cell (j := 2) rfl
    have zr3_14 := Xr13.out.cell (j := 3) rfl
    have yr0_14 := Xr13.out.thaw 0
    have yr1_14 := Xr13.out.thaw 1
    have yr2_14 := Xr13.out.thaw 2
    have yr3_14 := Xr13.out.thaw 3
    have za0_14 := Xa13.out.cell (j := 0) rfl
    have za1_14 := Xa13.out.cell (j := 1) rfl
    have za2_14 := Xa13.out.cell (j := 2) rfl
    have za3_14 := Xa13.out.cell (j := 3) rfl
    have ya0_14 := Xa13.out.thaw 0
    have ya1_14 := Xa13.out.thaw 1
    have ya2_14 := Xa13.out.thaw 2
    have ya3_14 := Xa13.out.thaw 3
    go_wp2_with fail
    refine Calls.mono (l01Below_any C 40 (by omega) (by omega) _ K13.out) ?_
    rintro e w5 ⟨z5, rfl, hy5, hz5, k5, q5⟩
    have K15 := hid (k5)
    have G15 := hid (G13.out.trans q5)
    have Xr15 := hid (Xr13.out.cur q5 Nr.out)
    have Xa15 := hid (Xa13.out.cur q5 Na.out)
    clear k5 q5 K13 G13 zr0_14 zr1_14 zr2_14 zr3_14 yr0_14 yr1_14 yr2_14 yr3_14 za0_14 za1_14 za2_14 za3_14 ya0_14 ya1_14 ya2_14 ya3_14 zr0_12 zr1_12 zr2_12 zr3_12 yr0_12 yr1_12 yr2_12 yr3_12 za0_12 za1_12 za2_12 za3_12 ya0_12 ya1_12 ya2_12 ya3_12 Xr13 Xa13
    have zr0_16 := Xr15.out.cell (j := 0) rfl
    have zr1_16 := Xr15.out.cell (j := 1) rfl
    have zr2_16 := Xr15.out.cell (j := 2) rfl
    have zr3_16 := Xr15.out.cell (j := 3) rfl
    have yr0_16 := Xr15.out.thaw 0
    have yr1_16 := Xr15.out.thaw 1
    have yr2_16 := Xr15.out.thaw 2
    have yr3_16 := Xr15.out.thaw 3
    have za0_16 := Xa15.out.cell (j := 0) rfl
    have za1_16 := Xa15.out.cell (j := 1) rfl
    have za2_16 := Xa15.out.cell (j := 2) rfl
    have za3_16 := Xa15.out.cell (j := 3) rfl
    have ya0_16 := Xa15.out.thaw 0
    have ya1_16 := Xa15.out.thaw 1
    have ya2_16 := Xa15.out.thaw 2
    have ya3_16 := Xa15.out.thaw 3
    by_cases h0 : z5 = 0
    · subst h0
      go_wp2_with fail
      refine Calls.mono (pickI_any C [0, 5] (by decide) (by decide) 3 _ _ rfl K15.out) ?_
      rintro e w6 ⟨x6, rfl, hx6, k6, q6⟩
      have K17 := hid (k6)
      have G17 := hid (G15.out.trans q6)
      have Xr17 := hid (Xr15.out.cur q6 Nr.out)
      have Xa17 := hid (Xa15.out.cur q6 Na.out)
      clear k6 q6 K15 G15 zr0_16 zr1_16 zr2_16 zr3_16 yr0_16 yr1_16 yr2_16 yr3_16 za0_16 za1_16 za2_16 za3_16 ya0_16 ya1_16 ya2_16 ya3_16 Xr15 Xa15
      have zr0_18 := Xr17.out.cell (j := 0) rfl
      have zr1_18 := Xr17.out.cell (j := 1) rfl
      have zr2_18 := Xr17.out.cell (j := 2) rfl
      have zr3_18 := Xr17.out.cell (j := 3) rfl
      have yr0_18 := Xr17.out.thaw 0
      have yr1_18 := Xr17.out.thaw 1
      have yr2_18 := Xr17.out.thaw 2
      have yr3_18 := Xr17.out.thaw 3
      have za0_18 := Xa17.out.cell (j := 0) rfl
      have za1_18 := Xa17.out.cell (j := 1) rfl
      have za2_18 := Xa17.out.cell (j := 2) rfl
      have za3_18 := Xa17.out.cell (j := 3) rfl
      have ya0_18 := Xa17.out.thaw 0
      have ya1_18 := Xa17.out.thaw 1
      have ya2_18 := Xa17.out.thaw 2
      have ya3_18 := Xa17.out.thaw 3
      have K19 := hid (K17.out.set (b := w2.heap.size) (j := 0) (v := (.int .i64 x6)) Na.out)
      have G19 := hid (grown_far (b := w2.heap.size) (j := 0) (v := (.int .i64 x6)) G17.out Ma.out)
      have Xr19 := hid (Xr17.out.far (b := w2.heap.size) (j := 0) (by have := Ara.out; omega) (.int .i64 x6))
      have Xa19 : Hid (BlockIs (w6.setCell ⟨w2.heap.size, 0, none⟩ (.int .i64 x6)) (w2.heap.size) 37 [.int .i64 x6, .string s2, .string t4, .string ⟨#[]⟩]) := Xa17.out.set 0 (.int .i64 x6)
      clear K17 G17 Xr17 Xa17
      have zr0_20 := Xr19.out.cell (j := 0) rfl
      have zr1_20 := Xr19.out.cell (j := 1) rfl
      have zr2_20 := Xr19.out.cell (j := 2) rfl
      have zr3_20 := Xr19.out.cell (j := 3) rfl
      have yr0_20 := Xr19.out.thaw 0
      have yr1_20 := Xr19.out.thaw 1
      have yr2_20 := Xr19.out.thaw 2
      have yr3_20 := Xr19.out.thaw 3
      have za0_20 := Xa19.out.cell (j := 0) rfl
      have za1_20 := Xa19.out.cell (j := 1) rfl
      have za2_20 := Xa19.out.cell (j := 2) rfl
      have za3_20 := Xa19.out.cell (j := 3) rfl
      have ya0_20 := Xa19.out.thaw 0
      have ya1_20 := Xa19.out.thaw 1
      have ya2_20 := Xa19.out.thaw 2
      have ya3_20 := Xa19.out.thaw 3
      have KL := hid ((((K19.out.set (b := w.heap.size) (j := 0) (v := .int .i64 x6) Nr.out).set (b := w.heap.size) (j := 1) (v := .string s2) Nr.out).set (b := w.heap.size) (j := 2) (v := .string t4) Nr.out).set (b := w.heap.size) (j := 3) (v := .string ⟨#[]⟩) Nr.out)
      have GL := hid (grown_far (b := w.heap.size) (j := 3) (v := .string ⟨#[]⟩) (grown_far (b := w.heap.size) (j := 2) (v := .string t4) (grown_far (b := w.heap.size) (j := 1) (v := .string s2) (grown_far (b := w.heap.size) (j := 0) (v := .int .i64 x6) G19.out Mr.out) Mr.out) Mr.out) Mr.out)
      go_wp2
      refine bodyPost_ret (v := .agg #[.int .i64 x6, .string s2, .string t4, .string ⟨#[]⟩]) (by simp [results, Try.results68, go_sem, zr0_20, zr1_20, zr2_20, zr3_20]) rfl ?_
      exact ⟨⟨x6, s2, t4, ⟨#[]⟩⟩, rfl, tiny_mk (by first | decide | omega) (by first | decide | omega) (by first | decide | omega), KL.out, GL.out⟩
    by_cases h1 : z5 = 1
    · subst h1
      clear h0
      go_wp2_with fail
      refine Calls.mono (pickS_any C [⟨#[]⟩, ⟨#[49, 50, 51, 52, 53, 54, 55, 56, 57]⟩, ⟨#[110, 101, 119]⟩] (by decide) (by decide) 9 (by decide) 9 _ _ rfl K15.out) ?_
      rintro e w6 ⟨x6, rfl, hx6, k6, q6⟩
      have K17 := hid (k6)
      have G17 := hid (G15.out.trans q6)
      have Xr17 := hid (Xr15.out.cur q6 Nr.out)
      have Xa17 := hid (Xa15.out.cur q6 Na.out)
      clear k6 q6 K15 G15 zr0_16 zr1_16 zr2_16 zr3_16 yr0_16 yr1_16 yr2_16 yr3_16 za0_16 za1_16 za2_16 za3_16 ya0_16 ya1_16 ya2_16 ya3_16 Xr15 Xa15
      have zr0_18 := Xr17.out.cell (j := 0) rfl
      have zr1_18 := Xr17.out.cell (j := 1) rfl
      have zr2_18 := Xr17.out.cell (j := 2) rfl
      have zr3_18 := Xr17.out.cell (j := 3) rfl
      have yr0_18 := Xr17.out.thaw 0
      have yr1_18 := Xr17.out.thaw 1
      have yr2_18 := Xr17.out.thaw 2
      have yr3_18 := Xr17.out.thaw 3
      have za0_18 := Xa17.out.cell (j := 0) rfl
      have za1_18 := Xa17.out.cell (j := 1) rfl
      have za2_18 := Xa17.out.cell (j := 2) rfl
      have za3_18 := Xa17.out.cell (j := 3) rfl
      have ya0_18 := Xa17.out.thaw 0
      have ya1_18 := Xa17.out.thaw 1
      have ya2_18 := Xa17.out.thaw 2
      have ya3_18 := Xa17.out.thaw 3
      have K19 := hid (K17.out.set (b := w2.heap.size) (j := 1) (v := (.string x6)) Na.out)
      have G19 := hid (grown_far (b := w2.heap.size) (j := 1) (v := (.string x6)) G17.out Ma.out)
      have Xr19 := hid (Xr17.out.far (b := w2.heap.size) (j := 1) (by have := Ara.out; omega) (.string x6))
      have Xa19 : Hid (BlockIs (w6.setCell ⟨w2.heap.size, 1, none⟩ (.string x6)) (w2.heap.size) 37 [.int .i64 1, .string x6, .string t4, .string ⟨#[]⟩]) := Xa17.out.set 1 (.string x6)
      clear K17 G17 Xr17 Xa17
      have zr0_20 := Xr19.out.cell (j := 0) rfl
      have zr1_20 := Xr19.out.cell (j := 1) rfl
      have zr2_20 := Xr19.out.cell (j := 2) rfl
      have zr3_20 := Xr19.out.cell (j := 3) rfl
      have yr0_20 := Xr19.out.thaw 0
      have yr1_20 := Xr19.out.thaw 1
      have yr2_20 := Xr19.out.thaw 2
      have yr3_20 := Xr19.out.thaw 3
      have za0_20 := Xa19.out.cell (j := 0) rfl
      have za1_20 := Xa19.out.cell (j := 1) rfl
      have za2_20 := Xa19.out.cell (j := 2) rfl
      have za3_20 := Xa19.out.cell (j := 3) rfl
      have ya0_20 := Xa19.out.thaw 0
      have ya1_20 := Xa19.out.thaw 1
      have ya2_20 := Xa19.out.thaw 2
      have ya3_20 := Xa19.out.thaw 3
      have KL := hid ((((K19.out.set (b := w.heap.size) (j := 0) (v := .int .i64 1) Nr.out).set (b := w.heap.size) (j := 1) (v := .string x6) Nr.out).set (b := w.heap.size) (j := 2) (v := .string t4) Nr.out).set (b := w.heap.size) (j := 3) (v := .string ⟨#[]⟩) Nr.out)
      have GL := hid (grown_far (b := w.heap.size) (j := 3) (v := .string ⟨#[]⟩) (grown_far (b := w.heap.size) (j := 2) (v := .string t4) (grown_far (b := w.heap.size) (j := 1) (v := .string x6) (grown_far (b := w.heap.size) (j := 0) (v := .int .i64 1) G19.out Mr.out) Mr.out) Mr.out) Mr.out)
      go_wp2
      refine bodyPost_ret (v := .agg #[.int .i64 1, .string x6, .string t4, .string ⟨#[]⟩]) (by simp [results, Try.results68, go_sem, zr0_20, zr1_20, zr2_20, zr3_20]) rfl ?_
      exact ⟨⟨1, x6, t4, ⟨#[]⟩⟩, rfl, tiny_mk (by first | decide | omega) (by first | decide | omega) (by first | decide | omega), KL.out, GL.out⟩
    by_cases h2 : z5 = 2
    · subst h2
      clear h0
      clear h1
      have K17 := hid (K15.out.set (b := w2.heap.size) (j := 3) (v := (.string ⟨#[120]⟩)) Na.out)
      have G17 := hid (grown_far (b := w2.heap.size) (j := 3) (v := (.string ⟨#[120]⟩)) G15.out Ma.out)
      have Xr17 := hid (Xr15.out.far (b := w2.heap.size) (j := 3) (by have := Ara.out; omega) (.string ⟨#[120]⟩))
      have Xa17 : Hid (BlockIs (w5.setCell ⟨w2.heap.size, 3, none⟩ (.string ⟨#[120]⟩)) (w2.heap.size) 37 [.int .i64 1, .string s2, .string t4, .string ⟨#[120]⟩]) := Xa15.out.set 3 (.string ⟨#[120]⟩)
      clear K15 G15 Xr15 Xa15
      have zr0_18 := Xr17.out.cell (j := 0) rfl
      have zr1_18 := Xr17.out.cell (j := 1) rfl
      have zr2_18 := Xr17.out.cell (j := 2) rfl
      have zr3_18 := Xr17.out.cell (j := 3) rfl
      have yr0_18 := Xr17.out.thaw 0
      have yr1_18 := Xr17.out.thaw 1
      have yr2_18 := Xr17.out.thaw 2
      have yr3_18 := Xr17.out.thaw 3
      have za0_18 := Xa17.out.cell (j := 0) rfl
      have za1_18 := Xa17.out.cell (j := 1) rfl
      have za2_18 := Xa17.out.cell (j := 2) rfl
      have za3_18 := Xa17.out.cell (j := 3) rfl
      have ya0_18 := Xa17.out.thaw 0
      have ya1_18 := Xa17.out.thaw 1
      have ya2_18 := Xa17.out.thaw 2
      have ya3_18 := Xa17.out.thaw 3
      have KL := hid ((((K17.out.set (b := w.heap.size) (j := 0) (v := .int .i64 1) Nr.out).set (b := w.heap.size) (j := 1) (v := .string s2) Nr.out).set (b := w.heap.size) (j := 2) (v := .string t4) Nr.out).set (b := w.heap.size) (j := 3) (v := .string ⟨#[120]⟩) Nr.out)
      have GL := hid (grown_far (b := w.heap.size) (j := 3) (v := .string ⟨#[120]⟩) (grown_far (b := w.heap.size) (j := 2) (v := .string t4) (grown_far (b := w.heap.size) (j := 1) (v := .string s2) (grown_far (b := w.heap.size) (j := 0) (v := .int .i64 1) G17.out Mr.out) Mr.out) Mr.out) Mr.out)
      go_wp2
      refine bodyPost_ret (v := .agg #[.int .i64 1, .string s2, .string t4, .string ⟨#[120]⟩]) (by simp [results, Try.results68, go_sem, zr0_18, zr1_18, zr2_18, zr3_18]) rfl ?_
      exact ⟨⟨1, s2, t4, ⟨#[120]⟩⟩, rfl, tiny_mk (by first | decide | omega) (by first | decide | omega) (by first | decide | omega), KL.out, GL.out⟩
    by_cases h3 : z5 = 3
    · subst h3
      clear h0
      clear h1
      clear h2
      have K17 := hid (K15.out.set (b := w2.heap.size) (j := 2) (v := (.string ⟨#[120]⟩)) Na.out)
      have G17 := hid (grown_far (b := w2.heap.size) (j := 2) (v := (.string ⟨#[120]⟩)) G15.out Ma.out)
      have Xr17 := hid (Xr15.out.far (b := w2.heap.size) (j := 2) (by have := Ara.out; omega) (.string ⟨#[120]⟩))
      have Xa17 : Hid (BlockIs (w5.setCell ⟨w2.heap.size, 2, none⟩ (.string ⟨#[120]⟩)) (w2.heap.size) 37 [.int .i64 1, .string s2, .string ⟨#[120]⟩, .string ⟨#[]⟩]) := Xa15.out.set 2 (.string ⟨#[120]⟩)
      clear K15 G15 Xr15 Xa15
      have zr0_18 := Xr17.out.cell (j := 0) rfl
      have zr1_18 := Xr17.out.cell (j := 1) rfl
      have zr2_18 := Xr17.out.cell (j := 2) rfl
      have zr3_18 := Xr17.out.cell (j := 3) rfl
      have yr0_18 := Xr17.out.thaw 0
      have yr1_18 := Xr17.out.thaw 1
      have yr2_18 := Xr17.out.thaw 2
      have yr3_18 := Xr17.out.thaw 3
      have za0_18 := Xa17.out.cell (j := 0) rfl
      have za1_18 := Xa17.out.cell (j := 1) rfl
      have za2_18 := Xa17.out.cell (j := 2) rfl
      have za3_18 := Xa17.out.cell (j := 3) rfl
      have ya0_18 := Xa17.out.thaw 0
      have ya1_18 := Xa17.out.thaw 1
      have ya2_18 := Xa17.out.thaw 2
      have ya3_18 := Xa17.out.thaw 3
      have KL := hid ((((K17.out.set (b := w.heap.size) (j := 0) (v := .int .i64 1) Nr.out).set (b := w.heap.size) (j := 1) (v := .string s2) Nr.out).set (b := w.heap.size) (j := 2) (v := .string ⟨#[120]⟩) Nr.out).set (b := w.heap.size) (j := 3) (v := .string ⟨#[]⟩) Nr.out)
      have GL := hid (grown_far (b := w.heap.size) (j := 3) (v := .string ⟨#[]⟩) (grown_far (b := w.heap.size) (j := 2) (v := .string ⟨#[120]⟩) (grown_far (b := w.heap.size) (j := 1) (v := .string s2) (grown_far (b := w.heap.size) (j := 0) (v := .int .i64 1) G17.out Mr.out) Mr.out) Mr.out) Mr.out)
      go_wp2
      refine bodyPost_ret (v := .agg #[.int .i64 1, .string s2, .string ⟨#[120]⟩, .string ⟨#[]⟩]) (by simp [results, Try.results68, go_sem, zr0_18, zr1_18, zr2_18, zr3_18]) rfl ?_
      exact ⟨⟨1, s2, ⟨#[120]⟩, ⟨#[]⟩⟩, rfl, tiny_mk (by first | decide | omega) (by first | decide | omega) (by first | decide | omega), KL.out, GL.out⟩
    have h0' : (z5 == 0) = false := by simpa using h0
    have h1' : (z5 == 1) = false := by simpa using h1
    have h2' : (z5 == 2) = false := by simpa using h2
    have h3' : (z5 == 3) = false := by simpa using h3
    have KL := hid ((((K15.out.set (b := w.heap.size) (j := 0) (v := .int .i64 1) Nr.out).set (b := w.heap.size) (j := 1) (v := .string s2) Nr.out).set (b := w.heap.size) (j := 2) (v := .string t4) Nr.out).set (b := w.heap.size) (j := 3) (v := .string ⟨#[]⟩) Nr.out)
    have GL := hid (grown_far (b := w.heap.size) (j := 3) (v := .string ⟨#[]⟩) (grown_far (b := w.heap.size) (j := 2) (v := .string t4) (grown_far (b := w.heap.size) (j := 1) (v := .string s2) (grown_far (b := w.heap.size) (j := 0) (v := .int .i64 1) G15.out Mr.out) Mr.out) Mr.out) Mr.out)
    go_wp2
    refine bodyPost_ret (v := .agg #[.int .i64 1, .string s2, .string t4, .string ⟨#[]⟩]) (by simp [results, Try.results68, go_sem, zr0_16, zr1_16, zr2_16, zr3_16]) rfl ?_
    exact ⟨⟨1, s2, t4, ⟨#[]⟩⟩, rfl, tiny_mk (by first | decide | omega) (by first | decide | omega) (by first | decide | omega), KL.out, GL.out⟩
  by_cases k2 : y1 = 2
  · subst k2
    clear k0
    have ba := below_more (Below.refl w2.heap.size w2) (.cells #[.int .i64 3, .string s2, .string ⟨#[]⟩, .string ⟨#[]⟩] 37)
    have Ma := hid G5.out.size
    have Na := hid (Nat.lt_of_lt_of_le hCl G5.out.size)
    have hx : BlockIs (w2.alloc (.cells #[.int .i64 3, .string s2, .string ⟨#[]⟩, .string ⟨#[]⟩] 37)) w2.heap.size 37 [.int .i64 3, .string s2, .string ⟨#[]⟩, .string ⟨#[]⟩] := heap_alloc_new w2 _
    have Ara := hid Xr5.out.lt
    have K7 := hid (K5.out.below ba)
    have G7 := hid (grown_below G5.out ba)
    have Xr7 := hid (Xr5.out.on ba Xr5.out.lt)
    have Xa7 := hid hx
    clear hx
    clear ba K5 G5 zr0_6 zr1_6 zr2_6 zr3_6 yr0_6 yr1_6 yr2_6 yr3_6 Xr5
    have zr0_8 := Xr7.out.cell (j := 0) rfl
    have zr1_8 := Xr7.out.cell (j := 1) rfl
    have zr2_8 := Xr7.out.cell (j := 2) rfl
    have zr3_8 := Xr7.out.cell (j := 3) rfl
    have yr0_8 := Xr7.out.thaw 0
    have yr1_8 := Xr7.out.thaw 1
    have yr2_8 := Xr7.out.thaw 2
    have yr3_8 := Xr7.out.thaw 3
    have za0_8 := Xa7.out.cell (j := 0) rfl
    have za1_8 := Xa7.out.cell (j := 1) rfl
    have za2_8 := Xa7.out.cell (j := 2) rfl
    have za3_8 := Xa7.out.cell (j := 3) rfl
    have ya0_8 := Xa7.out.thaw 0
    have ya1_8 := Xa7.out.thaw 1
    have ya2_8 := Xa7.out.thaw 2
    have ya3_8 := Xa7.out.thaw 3
    go_wp2_with fail
    refine Calls.mono (l03Named_any C _ K7.out) ?_
    rintro e w3 ⟨t3, rfl, hT3, hU3, k3, q3⟩
    have K9 := hid (k3)
    have G9 := hid (G7.out.trans q3)
    have Xr9 := hid (Xr7.out.cur q3 Nr.out)
    have Xa9 := hid (Xa7.out.cur q3 Na.out)
    clear k3 q3 K7 G7 zr0_8 zr1_8 zr2_8 zr3_8 yr0_8 yr1_8 yr2_8 yr3_8 za0_8 za1_8 za2_8 za3_8 ya0_8 ya1_8 ya2_8 ya3_8 Xr7 Xa7
    have zr0_10 := Xr9.out.cell (j := 0) rfl
    have zr1_10 := Xr9.out.cell (j := 1) rfl
    have zr2_10 := Xr9.out.cell (j := 2) rfl
    have zr3_10 := Xr9.out.cell (j := 3) rfl
    have yr0_10 := Xr9.out.thaw 0
    have yr1_10 := Xr9.out.thaw 1
    have yr2_10 := Xr9.out.thaw 2
    have yr3_10 := Xr9.out.thaw 3
    have za0_10 := Xa9.out.cell (j := 0) rfl
    have za1_10 := Xa9.out.cell (j := 1) rfl
    have za2_10 := Xa9.out.cell (j := 2) rfl
    have za3_10 := Xa9.out.cell (j := 3) rfl
    have ya0_10 := Xa9.out.thaw 0
    have ya1_10 := Xa9.out.thaw 1
    have ya2_10 := Xa9.out.thaw 2
    have ya3_10 := Xa9.out.thaw 3
    have K11 := hid (K9.out.set (b := w2.heap.size) (j := 3) (v := (.string t3)) Na.out)
    have G11 := hid (grown_far (b := w2.heap.size) (j := 3) (v := (.string t3)) G9.out Ma.out)
    have Xr11 := hid (Xr9.out.far (b := w2.heap.size) (j := 3) (by have := Ara.out; omega) (.string t3))
    have Xa11 : Hid (BlockIs (w3.setCell ⟨w2.heap.size, 3, none⟩ (.string t3)) (w2.heap.size) 37 [.int .i64 3, .string s2, .string ⟨#[]⟩, .string t3]) := Xa9.out.set 3 (.string t3)
    clear K9 G9 Xr9 Xa9
    have zr0_12 := Xr11.out.cell (j := 0) rfl
    have zr1_12 := Xr11.out.cell (j := 1) rfl
    have zr2_12 := Xr11.out.cell (j := 2) rfl
    have zr3_12 := Xr11.out.cell (j := 3) rfl
    have yr0_12 := Xr11.out.thaw 0
    have yr1_12 := Xr11.out.thaw 1
    have yr2_12 := Xr11.out.thaw 2
    have yr3_12 := Xr11.out.thaw 3
    have za0_12 := Xa11.out.cell (j := 0) rfl
    have za1_12 := Xa11.out.cell (j := 1) rfl
    have za2_12 := Xa11.out.cell (j := 2) rfl
    have za3_12 := Xa11.out.cell (j := 3) rfl
    have ya0_12 := Xa11.out.thaw 0
    have ya1_12 := Xa11.out.thaw 1
    have ya2_12 := Xa11.out.thaw 2
    have ya3_12 := Xa11.out.thaw 3
    go_wp2_with fail
    refine Calls.mono (l01Below_any C 40 (by omega) (by omega) _ K11.out) ?_
    rintro e w4 ⟨z4, rfl, hy4, hz4, k4, q4⟩
    have K13 := hid (k4)
    have G13 := hid (G11.out.trans q4)
    have Xr13 := hid (Xr11.out.cur q4 Nr.out)
    have Xa13 := hid (Xa11.out.cur q4 Na.out)
    clear k4 q4 K11 G11 zr0_12 zr1_12 zr2_12 zr3_12 yr0_12 yr1_12 yr2_12 yr3_12 za0_12 za1_12 za2_12 za3_12 ya0_12 ya1_12 ya2_12 ya3_12 zr0_10 zr1_10 zr2_10 zr3_10 yr0_10 yr1_10 yr2_10 yr3_10 za0_10 za1_10 za2_10 za3_10 ya0_10 ya1_10 ya2_10 ya3_10 Xr11 Xa11
    have zr0_14 := Xr13.out.cell (j := 0) rfl
    have zr1_14 := Xr13.out.cell (j := 1) rfl
    have zr2_14 := Xr13.out.cell (j := 2) rfl
    have zr3_14 := Xr13.out.cell (j := 3) rfl
    have yr0_14 := Xr13.out.thaw 0
    have yr1_14 := Xr13.out.thaw 1
    have yr2_14 := Xr13.out.thaw 2
    have yr3_14 := Xr13.out.thaw 3
    have za0_14 := Xa13.out.cell (j := 0) rfl
    have za1_14 := Xa13.out.cell (j := 1) rfl
    have za2_14 := Xa13.out.cell (j := 2) rfl
    have za3_14 := Xa13.out.cell (j := 3) rfl
    have ya0_14 := Xa13.out.thaw 0
    have ya1_14 := Xa13.out.thaw 1
    have ya2_14 := Xa13.out.thaw 2
    have ya3_14 := Xa13.out.thaw 3
    by_cases h0 : z4 = 0
    · subst h0
      go_wp2_with fail
      refine Calls.mono (pickI_any C [0, 5] (by decide) (by decide) 3 _ _ rfl K13.out) ?_
      rintro e w5 ⟨x5, rfl, hx5, k5, q5⟩
      have K15 := hid (k5)
      have G15 := hid (G13.out.trans q5)
      have Xr15 := hid (Xr13.out.cur q5 Nr.out)
      have Xa15 := hid (Xa13.out.cur q5 Na.out)
      clear k5 q5 K13 G13 zr0_14 zr1_14 zr2_14 zr3_14 yr0_14 yr1_14 yr2_14 yr3_14 za0_14 za1_14 za2_14 za3_14 ya0_14 ya1_14 ya2_14 ya3_14 Xr13 Xa13
      have zr0_16 := Xr15.out.cell (j := 0) rfl
      have zr1_16 := Xr15.out.cell (j := 1) rfl
      have zr2_16 := Xr15.out.cell (j := 2) rfl
      have zr3_16 := Xr15.out.cell (j := 3) rfl
      have yr0_16 := Xr15.out.thaw 0
      have yr1_16 := Xr15.out.thaw 1
      have yr2_16 := Xr15.out.thaw 2
      have yr3_16 := Xr15.out.thaw 3
      have za0_16 := Xa15.out.cell (j := 0) rfl
      have za1_16 := Xa15.out.cell (j := 1) rfl
      have za2_16 := Xa15.out.cell (j := 2) rfl
      have za3_16 := Xa15.out.cell (j := 3) rfl
      have ya0_16 := Xa15.out.thaw 0
      have ya1_16 := Xa15.out.thaw 1
      have ya2_16 := Xa15.out.thaw 2
      have ya3_16 := Xa15.out.thaw 3
      have K17 := hid (K15.out.set (b := w2.heap.size) (j := 0) (v := (.int .i64 x5)) Na.out)
      have G17 := hid (grown_far (b := w2.heap.size) (j := 0) (v := (.int .i64 x5)) G15.out Ma.out)
      have Xr17 := hid (Xr15.out.far (b := w2.heap.size) (j := 0) (by have := Ara.out; omega) (.int .i64 x5))
      have Xa17 : Hid (BlockIs (w5.setCell ⟨w2.heap.size, 0, none⟩ (.int .i64 x5)) (w2.heap.size) 37 [.int .i64 x5, .string s2, .string ⟨#[]⟩, .string t3]) := Xa15.out.set 0 (.int .i64 x5)
      clear K15 G15 Xr15 Xa15
      have zr0_18 := Xr17.out.cell (j := 0) rfl
      have zr1_18 := Xr17.out.cell (j := 1) rfl
      have zr2_18 := Xr17.out.cell (j := 2) rfl
      have zr3_18 := Xr17.out.cell (j := 3) rfl
      have yr0_18 := Xr17.out.thaw 0
      have yr1_18 := Xr17.out.thaw 1
      have yr2_18 := Xr17.out.thaw 2
      have yr3_18 := Xr17.out.thaw 3
      have za0_18 := Xa17.out.cell (j := 0) rfl
      have za1_18 := Xa17.out.cell (j := 1) rfl
      have za2_18 := Xa17.out.cell (j := 2) rfl
      have za3_18 := Xa17.out.cell (j := 3) rfl
      have ya0_18 := Xa17.out.thaw 0
      have ya1_18 := Xa17.out.thaw 1
      have ya2_18 := Xa17.out.thaw 2
      have ya3_18 := Xa17.out.thaw 3
      have KL := hid ((((K17.out.set (b := w.heap.size) (j := 0) (v := .int .i64 x5) Nr.out).set (b := w.heap.size) (j := 1) (v := .string s2) Nr.out).set (b := w.heap.size) (j := 2) (v := .string ⟨#[]⟩) Nr.out).set (b := w.heap.size) (j := 3) (v := .string t3) Nr.out)
      have GL := hid (grown_far (b := w.heap.size) (j := 3) (v := .string t3) (grown_far (b := w.heap.size) (j := 2) (v := .string ⟨#[]⟩) (grown_far (b := w.heap.size) (j := 1) (v := .string s2) (grown_far (b := w.heap.size) (j := 0) (v := .int .i64 x5) G17.out Mr.out) Mr.out) Mr.out) Mr.out)
      go_wp2
      refine bodyPost_ret (v := .agg #[.int .i64 x5, .string s2, .string ⟨#[]⟩, .string t3]) (by simp [results, Try.results68, go_sem, zr0_18, zr1_18, zr2_18, zr3_18]) rfl ?_
      exact ⟨⟨x5, s2, ⟨#[]⟩, t3⟩, rfl, tiny_mk (by first | decide | omega) (by first | decide | omega) (by first | decide | omega), KL.out, GL.out⟩
    by_cases h1 : z4 = 1
    · subst h1
      clear h0
      go_wp2_with fail
      refine Calls.mono (pickS_any C [⟨#[]⟩, ⟨#[49, 50, 51, 52, 53, 54, 55, 56, 57]⟩, ⟨#[110, 101, 119]⟩] (by decide) (by decide) 9 (by decide) 9 _ _ rfl K13.out) ?_
      rintro e w5 ⟨x5, rfl, hx5, k5, q5⟩
      have K15 := hid (k5)
      have G15 := hid (G13.out.trans q5)
      have Xr15 := hid (Xr13.out.cur q5 Nr.out)
      have Xa15 := hid (Xa13.out.cur q5 Na.out)
      clear k5 q5 K13 G13 zr0_14 zr1_14 zr2_14 zr3_14 yr0_14 yr1_14 yr2_14 yr3_14 za0_14 za1_14 za2_14 za3_14 ya0_14 ya1_14 ya2_14 ya3_14 Xr13 Xa13
      have zr0_16 := Xr15.out.cell (j := 0) rfl
      have zr1_16 := Xr15.out.cell (j := 1) rfl
      have zr2_16 := Xr15.out.cell (j := 2) rfl
      have zr3_16 := Xr15.out.cell (j := 3) rfl
      have yr0_16 := Xr15.out.thaw 0
      have yr1_16 := Xr15.out.thaw 1
      have yr2_16 := Xr15.out.thaw 2
      have yr3_16 := Xr15.out.thaw 3
      have za0_16 := Xa15.out.cell (j := 0) rfl
      have za1_16 := Xa15.out.cell (j := 1) rfl
      have za2_16 := Xa15.out.cell (j := 2) rfl
      have za3_16 := Xa15.out.cell (j := 3) rfl
      have ya0_16 := Xa15.out.thaw 0
      have ya1_16 := Xa15.out.thaw 1
      have ya2_16 := Xa15.out.thaw 2
      have ya3_16 := Xa15.out.thaw 3
      have K17 := hid (K15.out.set (b := w2.heap.size) (j := 1) (v := (.string x5)) Na.out)
      have G17 := hid (grown_far (b := w2.heap.size) (j := 1) (v := (.string x5)) G15.out Ma.out)
      have Xr17 := hid (Xr15.out.far (b := w2.heap.size) (j := 1) (by have := Ara.out; omega) (.string x5))
      have Xa17 : Hid (BlockIs (w5.setCell ⟨w2.heap.size, 1, none⟩ (.string x5)) (w2.heap.size) 37 [.int .i64 3, .string x5, .string ⟨#[]⟩, .string t3]) := Xa15.out.set 1 (.string x5)
      clear K15 G15 Xr15 Xa15
      have zr0_18 := Xr17.out.cell (j := 0) rfl
      have zr1_18 := Xr17.out.cell (j := 1) rfl
      have zr2_18 := Xr17.out.cell (j := 2) rfl
      have zr3_18 := Xr17.out.cell (j := 3) rfl
      have yr0_18 := Xr17.out.thaw 0
      have yr1_18 := Xr17.out.thaw 1
      have yr2_18 := Xr17.out.thaw 2
      have yr3_18 := Xr17.out.thaw 3
      have za0_18 := Xa17.out.cell (j := 0) rfl
      have za1_18 := Xa17.out.cell (j := 1) rfl
      have za2_18 := Xa17.out.cell (j := 2) rfl
      have za3_18 := Xa17.out.cell (j := 3) rfl
      have ya0_18 := Xa17.out.thaw 0
      have ya1_18 := Xa17.out.thaw 1
      have ya2_18 := Xa17.out.thaw 2
      have ya3_18 := Xa17.out.thaw 3
      have KL := hid ((((K17.out.set (b := w.heap.size) (j := 0) (v := .int .i64 3) Nr.out).set (b := w.heap.size) (j := 1) (v := .string x5) Nr.out).set (b := w.heap.size) (j := 2) (v := .string ⟨#[]⟩) Nr.out).set (b := w.heap.size) (j := 3) (v := .string t3) Nr.out)
      have GL := hid (grown_far (b := w.heap.size) (j := 3) (v := .string t3) (grown_far (b := w.heap.size) (j := 2) (v := .string ⟨#[]⟩) (grown_far (b := w.heap.size) (j := 1) (v := .string x5) (grown_far (b := w.heap.size) (j := 0) (v := .int .i64 3) G17.out Mr.out) Mr.out) Mr.out) Mr.out)
      go_wp2
      refine bodyPost_ret (v := .agg #[.int .i64 3, .string x5, .string ⟨#[]⟩, .string t3]) (by simp [results, Try.results68, go_sem, zr0_18, zr1_18, zr2_18, zr3_18]) rfl ?_
      exact ⟨⟨3, x5, ⟨#[]⟩, t3⟩, rfl, tiny_mk (by first | decide | omega) (by first | decide | omega) (by first | decide | omega), KL.out, GL.out⟩
    by_cases h2 : z4 = 2
    · subst h2
      clear h0
      clear h1
      have K15 := hid (K13.out.set (b := w2.heap.size) (j := 3) (v := (.string ⟨#[120]⟩)) Na.out)
      have G15 := hid (grown_far (b := w2.heap.size) (j := 3) (v := (.string ⟨#[120]⟩)) G13.out Ma.out)
      have Xr15 := hid (Xr13.out.far (b := w2.heap.size) (j := 3) (by have := Ara.out; omega) (.string ⟨#[120]⟩))
      have Xa15 : Hid (BlockIs (w4.setCell ⟨w2.heap.size, 3, none⟩ (.string ⟨#[120]⟩)) (w2.heap.size) 37 [.int .i64 3, .string s2, .string ⟨#[]⟩, .string ⟨#[120]⟩]) := Xa13.out.set 3 (.string ⟨#[120]⟩)
      clear K13 G13 Xr13 Xa13
      have zr0_16 := Xr15.out.cell (j := 0) rfl
      have zr1_16 := Xr15.out.cell (j := 1) rfl
      have zr2_16 := Xr15.out.cell (j := 2) rfl
      have zr3_16 := Xr15.out.cell (j := 3) rfl
      have yr0_16 := Xr15.out.thaw 0
      have yr1_16 := Xr15.out.thaw 1
      have yr2_16 := Xr15.out.thaw 2
      have yr3_16 := Xr15.out.thaw 3
      have za0_16 := Xa15.out.cell (j := 0) rfl
      have za1_16 := Xa15.out.cell (j := 1) rfl
      have za2_16 := Xa15.out.cell (j := 2) rfl
      have za3_16 := Xa15.out.cell (j := 3) rfl
      have ya0_16 := Xa15.out.thaw 0
      have ya1_16 := Xa15.out.thaw 1
      have ya2_16 := Xa15.out.thaw 2
      have ya3_16 := Xa15.out.thaw 3
      have KL := hid ((((K15.out.set (b := w.heap.size) (j := 0) (v := .int .i64 3) Nr.out).set (b := w.heap.size) (j := 1) (v := .string s2) Nr.out).set (b := w.heap.size) (j := 2) (v := .string ⟨#[]⟩) Nr.out).set (b := w.heap.size) (j := 3) (v := .string ⟨#[120]⟩) Nr.out)
      have GL := hid (grown_far (b := w.heap.size) (j := 3) (v := .string ⟨#[120]⟩) (grown_far (b := w.heap.size) (j := 2) (v := .string ⟨#[]⟩) (grown_far (b := w.heap.size) (j := 1) (v := .string s2) (grown_far (b := w.heap.size) (j := 0) (v := .int .i64 3) G15.out Mr.out) Mr.out) Mr.out) Mr.out)
      go_wp2
      refine bodyPost_ret (v := .agg #[.int .i64 3, .string s2, .string ⟨#[]⟩, .string ⟨#[120]⟩]) (by simp [results, Try.results68, go_sem, zr0_16, zr1_16, zr2_16, zr3_16]) rfl ?_
      exact ⟨⟨3, s2, ⟨#[]⟩, ⟨#[120]⟩⟩, rfl, tiny_mk (by first | decide | omega) (by first | decide | omega) (by first | decide | omega), KL.out, GL.out⟩
    by_cases h3 : z4 = 3
    · subst h3
      clear h0
      clear h1
      clear h2
      have K15 := hid (K13.out.set (b := w2.heap.size) (j := 2) (v := (.string ⟨#[120]⟩)) Na.out)
      have G15 := hid (grown_far (b := w2.heap.size) (j := 2) (v := (.string ⟨#[120]⟩)) G13.out Ma.out)
      have Xr15 := hid (Xr13.out.far (b := w2.heap.size) (j := 2) (by have := Ara.out; omega) (.string ⟨#[120]⟩))
      have Xa15 : Hid (BlockIs (w4.setCell ⟨w2.heap.size, 2, none⟩ (.string ⟨#[120]⟩)) (w2.heap.size) 37 [.int .i64 3, .string s2, .string ⟨#[120]⟩, .string t3]) := Xa13.out.set 2 (.string ⟨#[120]⟩)
      clear K13 G13 Xr13 Xa13
      have zr0_16 := Xr15.out.cell (j := 0) rfl
      have zr1_16 := Xr15.out.cell (j := 1) rfl
      have zr2_16 := Xr15.out.cell (j := 2) rfl
      have zr3_16 := Xr15.out.cell (j := 3) rfl
      have yr0_16 := Xr15.out.thaw 0
      have yr1_16 := Xr15.out.thaw 1
      have yr2_16 := Xr15.out.thaw 2
      have yr3_16 := Xr15.out.thaw 3
      have za0_16 := Xa15.out.cell (j := 0) rfl
      have za1_16 := Xa15.out.cell (j := 1) rfl
      have za2_16 := Xa15.out.cell (j := 2) rfl
      have za3_16 := Xa15.out.cell (j := 3) rfl
      have ya0_16 := Xa15.out.thaw 0
      have ya1_16 := Xa15.out.thaw 1
      have ya2_16 := Xa15.out.thaw 2
      have ya3_16 := Xa15.out.thaw 3
      have KL := hid ((((K15.out.set (b := w.heap.size) (j := 0) (v := .int .i64 3) Nr.out).set (b := w.heap.size) (j := 1) (v := .string s2) Nr.out).set (b := w.heap.size) (j := 2) (v := .string ⟨#[120]⟩) Nr.out).set (b := w.heap.size) (j := 3) (v := .string t3) Nr.out)
      have GL := hid (grown_far (b := w.heap.size) (j := 3) (v := .string t3) (grown_far (b := w.heap.size) (j := 2) (v := .string ⟨#[120]⟩) (grown_far (b := w.heap.size) (j := 1) (v := .string s2) (grown_far (b := w.heap.size) (j := 0) (v := .int .i64 3) G15.out Mr.out) Mr.out) Mr.out) Mr.out)
      go_wp2
      refine bodyPost_ret (v := .agg #[.int .i64 3, .string s2, .string ⟨#[120]⟩, .string t3]) (by simp [results, Try.results68, go_sem, zr0_16, zr1_16, zr2_16, zr3_16]) rfl ?_
      exact ⟨⟨3, s2, ⟨#[120]⟩, t3⟩, rfl, tiny_mk (by first | decide | omega) (by first | decide | omega) (by first | decide | omega), KL.out, GL.out⟩
    have h0' : (z4 == 0) = false := by simpa using h0
    have h1' : (z4 == 1) = false := by simpa using h1
    have h2' : (z4 == 2) = false := by simpa using h2
    have h3' : (z4 == 3) = false := by simpa using h3
    have KL := hid ((((K13.out.set (b := w.heap.size) (j := 0) (v := .int .i64 3) Nr.out).set (b := w.heap.size) (j := 1) (v := .string s2) Nr.out).set (b := w.heap.size) (j := 2) (v := .string ⟨#[]⟩) Nr.out).set (b := w.heap.size) (j := 3) (v := .string t3) Nr.out)
    have GL := hid (grown_far (b := w.heap.size) (j := 3) (v := .string t3) (grown_far (b := w.heap.size) (j := 2) (v := .string ⟨#[]⟩) (grown_far (b := w.heap.size) (j := 1) (v := .string s2) (grown_far (b := w.heap.size) (j := 0) (v := .int .i64 3) G13.out Mr.out) Mr.out) Mr.out) Mr.out)
    go_wp2
    refine bodyPost_ret (v := .agg #[.int .i64 3, .string s2, .string ⟨#[]⟩, .string t3]) (by simp [results, Try.results68, go_sem, zr0_14, zr1_14, zr2_14, zr3_14]) rfl ?_
    exact ⟨⟨3, s2, ⟨#[]⟩, t3⟩, rfl, tiny_mk (by first | decide | omega) (by first | decide | omega) (by first | decide | omega), KL.out, GL.out⟩
  obtain ⟨kd, hkd⟩ : ∃ kd, 1 + y1 = kd := ⟨_, rfl⟩
  have hk1 : (kd == 1) = false := by simp; omega
  have hk3 : (kd == 3) = false := by simp; omega
  have hkw : wrap64 kd = kd := IntWalk.wrap64_in _ (by omega)
  have ba := below_more (Below.refl w2.heap.size w2) (.cells #[.int .i64 kd, .string s2, .string ⟨#[]⟩, .string ⟨#[]⟩] 37)
  have Ma := hid G5.out.size
  have Na := hid (Nat.lt_of_lt_of_le hCl G5.out.size)
  have hx : BlockIs (w2.alloc (.cells #[.int .i64 kd, .string s2, .string ⟨#[]⟩, .string ⟨#[]⟩] 37)) w2.heap.size 37 [.int .i64 kd, .string s2, .string ⟨#[]⟩, .string ⟨#[]⟩] := heap_alloc_new w2 _
  have Ara := hid Xr5.out.lt
  have K7 := hid (K5.out.below ba)
  have G7 := hid (grown_below G5.out ba)
  have Xr7 := hid (Xr5.out.on ba Xr5.out.lt)
  have Xa7 := hid hx
  clear hx
  clear ba K5 G5 zr0_6 zr1_6 zr2_6 zr3_6 yr0_6 yr1_6 yr2_6 yr3_6 Xr5
  have zr0_8 := Xr7.out.cell (j := 0) rfl
  have zr1_8 := Xr7.out.cell (j := 1) rfl
  have zr2_8 := Xr7.out.cell (j := 2) rfl
  have zr3_8 := Xr7.out.cell (j := 3) rfl
  have yr0_8 := Xr7.out.thaw 0
  have yr1_8 := Xr7.out.thaw 1
  have yr2_8 := Xr7.out.thaw 2
  have yr3_8 := Xr7.out.thaw 3
  have za0_8 := Xa7.out.cell (j := 0) rfl
  have za1_8 := Xa7.out.cell (j := 1) rfl
  have za2_8 := Xa7.out.cell (j := 2) rfl
  have za3_8 := Xa7.out.cell (j := 3) rfl
  have ya0_8 := Xa7.out.thaw 0
  have ya1_8 := Xa7.out.thaw 1
  have ya2_8 := Xa7.out.thaw 2
  have ya3_8 := Xa7.out.thaw 3
  go_wp2_with fail
  refine Calls.mono (l01Below_any C 40 (by omega) (by omega) _ K7.out) ?_
  rintro e w3 ⟨z3, rfl, hy3, hz3, k3, q3⟩
  have K9 := hid (k3)
  have G9 := hid (G7.out.trans q3)
  have Xr9 := hid (Xr7.out.cur q3 Nr.out)
  have Xa9 := hid (Xa7.out.cur q3 Na.out)
  clear k3 q3 K7 G7 zr0_8 zr1_8 zr2_8 zr3_8 yr0_8 yr1_8 yr2_8 yr3_8 za0_8 za1_8 za2_8 za3_8 ya0_8 ya1_8 ya2_8 ya3_8 Xr7 Xa7
  have zr0_10 := Xr9.out.cell (j := 0) rfl
  have zr1_10 := Xr9.out.cell (j := 1) rfl
  have zr2_10 := Xr9.out.cell (j := 2) rfl
  have zr3_10 := Xr9.out.cell (j := 3) rfl
  have yr0_10 := Xr9.out.thaw 0
  have yr1_10 := Xr9.out.thaw 1
  have yr2_10 := Xr9.out.thaw 2
  have yr3_10 := Xr9.out.thaw 3
  have za0_10 := Xa9.out.cell (j := 0) rfl
  have za1_10 := Xa9.out.cell (j := 1) rfl
  have za2_10 := Xa9.out.cell (j := 2) rfl
  have za3_10 := Xa9.out.cell (j := 3) rfl
  have ya0_10 := Xa9.out.thaw 0
  have ya1_10 := Xa9.out.thaw 1
  have ya2_10 := Xa9.out.thaw 2
  have ya3_10 := Xa9.out.thaw 3
  by_cases h0 : z3 = 0
  · subst h0
    go_wp2_with fail
    refine Calls.mono (pickI_any C [0, 5] (by decide) (by decide) 3 _ _ rfl K9.out) ?_
    rintro e w4 ⟨x4, rfl, hx4, k4, q4⟩
    have K11 := hid (k4)
    have G11 := hid (G9.out.trans q4)
    have Xr11 := hid (Xr9.out.cur q4 Nr.out)
    have Xa11 := hid (Xa9.out.cur q4 Na.out)
    clear k4 q4 K9 G9 zr0_10 zr1_10 zr2_10 zr3_10 yr0_10 yr1_10 yr2_10 yr3_10 za0_10 za1_10 za2_10 za3_10 ya0_10 ya1_10 ya2_10 ya3_10 Xr9 Xa9
    have zr0_12 := Xr11.out.cell (j := 0) rfl
    have zr1_12 := Xr11.out.cell (j := 1) rfl
    have zr2_12 := Xr11.out.cell (j := 2) rfl
    have zr3_12 := Xr11.out.cell (j := 3) rfl
    have yr0_12 := Xr11.out.thaw 0
    have yr1_12 := Xr11.out.thaw 1
    have yr2_12 := Xr11.out.thaw 2
    have yr3_12 := Xr11.out.thaw 3
    have za0_12 := Xa11.out.cell (j := 0) rfl
    have za1_12 := Xa11.out.cell (j := 1) rfl
    have za2_12 := Xa11.out.cell (j := 2) rfl
    have za3_12 := Xa11.out.cell (j := 3) rfl
    have ya0_12 := Xa11.out.thaw 0
    have ya1_12 := Xa11.out.thaw 1
    have ya2_12 := Xa11.out.thaw 2
    have ya3_12 := Xa11.out.thaw 3
    have K13 := hid (K11.out.set (b := w2.heap.size) (j := 0) (v := (.int .i64 x4)) Na.out)
    have G13 := hid (grown_far (b := w2.heap.size) (j := 0) (v := (.int .i64 x4)) G11.out Ma.out)
    have Xr13 := hid (Xr11.out.far (b := w2.heap.size) (j := 0) (by have := Ara.out; omega) (.int .i64 x4))
    have Xa13 : Hid (BlockIs (w4.setCell ⟨w2.heap.size, 0, none⟩ (.int .i64 x4)) (w2.heap.size) 37 [.int .i64 x4, .string s2, .string ⟨#[]⟩, .string ⟨#[]⟩]) := Xa11.out.set 0 (.int .i64 x4)
    clear K11 G11 Xr11 Xa11
    have zr0_14 := Xr13.out.cell (j := 0) rfl
    have zr1_14 := Xr13.out.cell (j := 1) rfl
    have zr2_14 := Xr13.out.cell (j := 2) rfl
    have zr3_14 := Xr13.out.cell (j := 3) rfl
    have yr0_14 := Xr13.out.thaw 0
    have yr1_14 := Xr13.out.thaw 1
    have yr2_14 := Xr13.out.thaw 2
    have yr3_14 := Xr13.out.thaw 3
    have za0_14 := Xa13.out.cell (j := 0) rfl
    have za1_14 := Xa13.out.cell (j := 1) rfl
    have za2_14 := Xa13.out.cell (j := 2) rfl
    have za3_14 := Xa13.out.cell (j := 3) rfl
    have ya0_14 := Xa13.out.thaw 0
    have ya1_14 := Xa13.out.thaw 1
    have ya2_14 := Xa13.out.thaw 2
    have ya3_14 := Xa13.out.thaw 3
    have KL := hid ((((K13.out.set (b := w.heap.size) (j := 0) (v := .int .i64 x4) Nr.out).set (b := w.heap.size) (j := 1) (v := .string s2) Nr.out).set (b := w.heap.size) (j := 2) (v := .string ⟨#[]⟩) Nr.out).set (b := w.heap.size) (j := 3) (v := .string ⟨#[]⟩) Nr.out)
    have GL := hid (grown_far (b := w.heap.size) (j := 3) (v := .string ⟨#[]⟩) (grown_far (b := w.heap.size) (j := 2) (v := .string ⟨#[]⟩) (grown_far (b := w.heap.size) (j := 1) (v := .string s2) (grown_far (b := w.heap.size) (j := 0) (v := .int .i64 x4) G13.out Mr.out) Mr.out) Mr.out) Mr.out)
    go_wp2
    refine bodyPost_ret (v := .agg #[.int .i64 x4, .string s2, .string ⟨#[]⟩, .string ⟨#[]⟩]) (by simp [results, Try.results68, go_sem, zr0_14, zr1_14, zr2_14, zr3_14]) rfl ?_
    exact ⟨⟨x4, s2, ⟨#[]⟩, ⟨#[]⟩⟩, rfl, tiny_mk (by first | decide | omega) (by first | decide | omega) (by first | decide | omega), KL.out, GL.out⟩
  by_cases h1 : z3 = 1
  · subst h1
    clear h0
    go_wp2_with fail
    refine Calls.mono (pickS_any C [⟨#[]⟩, ⟨#[49, 50, 51, 52, 53, 54, 55, 56, 57]⟩, ⟨#[110, 101, 119]⟩] (by decide) (by decide) 9 (by decide) 9 _ _ rfl K9.out) ?_
    rintro e w4 ⟨x4, rfl, hx4, k4, q4⟩
    have K11 := hid (k4)
    have G11 := hid (G9.out.trans q4)
    have Xr11 := hid (Xr9.out.cur q4 Nr.out)
    have Xa11 := hid (Xa9.out.cur q4 Na.out)
    clear k4 q4 K9 G9 zr0_10 zr1_10 zr2_10 zr3_10 yr0_10 yr1_10 yr2_10 yr3_10 za0_10 za1_10 za2_10 za3_10 ya0_10 ya1_10 ya2_10 ya3_10 Xr9 Xa9
    have zr0_12 := Xr11.out.cell (j := 0) rfl
    have zr1_12 := Xr11.out.cell (j := 1) rfl
    have zr2_12 := Xr11.out.cell (j := 2) rfl
    have zr3_12 := Xr11.out.cell (j := 3) rfl
    have yr0_12 := Xr11.out.thaw 0
    have yr1_12 := Xr11.out.thaw 1
    have yr2_12 := Xr11.out.thaw 2
    have yr3_12 := Xr11.out.thaw 3
    have za0_12 := Xa11.out.cell (j := 0) rfl
    have za1_12 := Xa11.out.cell (j := 1) rfl
    have za2_12 := Xa11.out.cell (j := 2) rfl
    have za3_12 := Xa11.out.cell (j := 3) rfl
    have ya0_12 := Xa11.out.thaw 0
    have ya1_12 := Xa11.out.thaw 1
    have ya2_12 := Xa11.out.thaw 2
    have ya3_12 := Xa11.out.thaw 3
    have K13 := hid (K11.out.set (b := w2.heap.size) (j := 1) (v := (.string x4)) Na.out)
    have G13 := hid (grown_far (b := w2.heap.size) (j := 1) (v := (.string x4)) G11.out Ma.out)
    have Xr13 := hid (Xr11.out.far (b := w2.heap.size) (j := 1) (by have := Ara.out; omega) (.string x4))
    have Xa13 : Hid (BlockIs (w4.setCell ⟨w2.heap.size, 1, none⟩ (.string x4)) (w2.heap.size) 37 [.int .i64 kd, .string x4, .string ⟨#[]⟩, .string ⟨#[]⟩]) := Xa11.out.set 1 (.string x4)
    clear K11 G11 Xr11 Xa11
    have zr0_14 := Xr13.out.cell (j := 0) rfl
    have zr1_14 := Xr13.out.cell (j := 1) rfl
    have zr2_14 := Xr13.out.cell (j := 2) rfl
    have zr3_14 := Xr13.out.cell (j := 3) rfl
    have yr0_14 := Xr13.out.thaw 0
    have yr1_14 := Xr13.out.thaw 1
    have yr2_14 := Xr13.out.thaw 2
    have yr3_14 := Xr13.out.thaw 3
    have za0_14 := Xa13.out.cell (j := 0) rfl
    have za1_14 := Xa13.out.cell (j := 1) rfl
    have za2_14 := Xa13.out.cell (j := 2) rfl
    have za3_14 := Xa13.out.cell (j := 3) rfl
    have ya0_14 := Xa13.out.thaw 0
    have ya1_14 := Xa13.out.thaw 1
    have ya2_14 := Xa13.out.thaw 2
    have ya3_14 := Xa13.out.thaw 3
    have KL := hid ((((K13.out.set (b := w.heap.size) (j := 0) (v := .int .i64 kd) Nr.out).set (b := w.heap.size) (j := 1) (v := .string x4) Nr.out).set (b := w.heap.size) (j := 2) (v := .string ⟨#[]⟩) Nr.out).set (b := w.heap.size) (j := 3) (v := .string ⟨#[]⟩) Nr.out)
    have GL := hid (grown_far (b := w.heap.size) (j := 3) (v := .string ⟨#[]⟩) (grown_far (b := w.heap.size) (j := 2) (v := .string ⟨#[]⟩) (grown_far (b := w.heap.size) (j := 1) (v := .string x4) (grown_far (b := w.heap.size) (j := 0) (v := .int .i64 kd) G13.out Mr.out) Mr.out) Mr.out) Mr.out)
    go_wp2
    refine bodyPost_ret (v := .agg #[.int .i64 kd, .string x4, .string ⟨#[]⟩, .string ⟨#[]⟩]) (by simp [results, Try.results68, go_sem, zr0_14, zr1_14, zr2_14, zr3_14]) rfl ?_
    exact ⟨⟨kd, x4, ⟨#[]⟩, ⟨#[]⟩⟩, rfl, tiny_mk (by first | decide | omega) (by first | decide | omega) (by first | decide | omega), KL.out, GL.out⟩
  by_cases h2 : z3 = 2
  · subst h2
    clear h0
    clear h1
    have K11 := hid (K9.out.set (b := w2.heap.size) (j := 3) (v := (.string ⟨#[120]⟩)) Na.out)
    have G11 := hid (grown_far (b := w2.heap.size) (j := 3) (v := (.string ⟨#[120]⟩)) G9.out Ma.out)
    have Xr11 := hid (Xr9.out.far (b := w2.heap.size) (j := 3) (by have := Ara.out; omega) (.string ⟨#[120]⟩))
    have Xa11 : Hid (BlockIs (w3.setCell ⟨w2.heap.size, 3, none⟩ (.string ⟨#[120]⟩)) (w2.heap.size) 37 [.int .i64 kd, .string s2, .string ⟨#[]⟩, .string ⟨#[120]⟩]) := Xa9.out.set 3 (.string ⟨#[120]⟩)
    clear K9 G9 Xr9 Xa9
    have zr0_12 := Xr11.out.cell (j := 0) rfl
    have zr1_12 := Xr11.out.cell (j := 1) rfl
    have zr2_12 := Xr11.out.cell (j := 2) rfl
    have zr3_12 := Xr11.out.cell (j := 3) rfl
    have yr0_12 := Xr11.out.thaw 0
    have yr1_12 := Xr11.out.thaw 1
    have yr2_12 := Xr11.out.thaw 2
    have yr3_12 := Xr11.out.thaw 3
    have za0_12 := Xa11.out.cell (j := 0) rfl
    have za1_12 := Xa11.out.cell (j := 1) rfl
    have za2_12 := Xa11.out.cell (j := 2) rfl
    have za3_12 := Xa11.out.cell (j := 3) rfl
    have ya0_12 := Xa11.out.thaw 0
    have ya1_12 := Xa11.out.thaw 1
    have ya2_12 := Xa11.out.thaw 2
    have ya3_12 := Xa11.out.thaw 3
    have KL := hid ((((K11.out.set (b := w.heap.size) (j := 0) (v := .int .i64 kd) Nr.out).set (b := w.heap.size) (j := 1) (v := .string s2) Nr.out).set (b := w.heap.size) (j := 2) (v := .string ⟨#[]⟩) Nr.out).set (b := w.heap.size) (j := 3) (v := .string ⟨#[120]⟩) Nr.out)
    have GL := hid (grown_far (b := w.heap.size) (j := 3) (v := .string ⟨#[120]⟩) (grown_far (b := w.heap.size) (j := 2) (v := .string ⟨#[]⟩) (grown_far (b := w.heap.size) (j := 1) (v := .string s2) (grown_far (b := w.heap.size) (j := 0) (v := .int .i64 kd) G11.out Mr.out) Mr.out) Mr.out) Mr.out)
    go_wp2
    refine bodyPost_ret (v := .agg #[.int .i64 kd, .string s2, .string ⟨#[]⟩, .string ⟨#[120]⟩]) (by simp [results, Try.results68, go_sem, zr0_12, zr1_12, zr2_12, zr3_12]) rfl ?_
    exact ⟨⟨kd, s2, ⟨#[]⟩, ⟨#[120]⟩⟩, rfl, tiny_mk (by first | decide | omega) (by first | decide | omega) (by first | decide | omega), KL.out, GL.out⟩
  by_cases h3 : z3 = 3
  · subst h3
    clear h0
    clear h1
    clear h2
    have K11 := hid (K9.out.set (b := w2.heap.size) (j := 2) (v := (.string ⟨#[120]⟩)) Na.out)
    have G11 := hid (grown_far (b := w2.heap.size) (j := 2) (v := (.string ⟨#[120]⟩)) G9.out Ma.out)
    have Xr11 := hid (Xr9.out.far (b := w2.heap.size) (j := 2) (by have := Ara.out; omega) (.string ⟨#[120]⟩))
    have Xa11 : Hid (BlockIs (w3.setCell ⟨w2.heap.size, 2, none⟩ (.string ⟨#[120]⟩)) (w2.heap.size) 37 [.int .i64 kd, .string s2, .string ⟨#[120]⟩, .string ⟨#[]⟩]) := Xa9.out.set 2 (.string ⟨#[120]⟩)
    clear K9 G9 Xr9 Xa9
    have zr0_12 := Xr11.out.cell (j := 0) rfl
    have zr1_12 := Xr11.out.cell (j := 1) rfl
    have zr2_12 := Xr11.out.cell (j := 2) rfl
    have zr3_12 := Xr11.out.cell (j := 3) rfl
    have yr0_12 := Xr11.out.thaw 0
    have yr1_12 := Xr11.out.thaw 1
    have yr2_12 := Xr11.out.thaw 2
    have yr3_12 := Xr11.out.thaw 3
    have za0_12 := Xa11.out.cell (j := 0) rfl
    have za1_12 := Xa11.out.cell (j := 1) rfl
    have za2_12 := Xa11.out.cell (j := 2) rfl
    have za3_12 := Xa11.out.cell (j := 3) rfl
    have ya0_12 := Xa11.out.thaw 0
    have ya1_12 := Xa11.out.thaw 1
    have ya2_12 := Xa11.out.thaw 2
    have ya3_12 := Xa11.out.thaw 3
    have KL := hid ((((K11.out.set (b := w.heap.size) (j := 0) (v := .int .i64 kd) Nr.out).set (b := w.heap.size) (j := 1) (v := .string s2) Nr.out).set (b := w.heap.size) (j := 2) (v := .string ⟨#[120]⟩) Nr.out).set (b := w.heap.size) (j := 3) (v := .string ⟨#[]⟩) Nr.out)
    have GL := hid (grown_far (b := w.heap.size) (j := 3) (v := .string ⟨#[]⟩) (grown_far (b := w.heap.size) (j := 2) (v := .string ⟨#[120]⟩) (grown_far (b := w.heap.size) (j := 1) (v := .string s2) (grown_far (b := w.heap.size) (j := 0) (v := .int .i64 kd) G11.out Mr.out) Mr.out) Mr.out) Mr.out)
    go_wp2
    refine bodyPost_ret (v := .agg #[.int .i64 kd, .string s2, .string ⟨#[120]⟩, .string ⟨#[]⟩]) (by simp [results, Try.results68, go_sem, zr0_12, zr1_12, zr2_12, zr3_12]) rfl ?_
    exact ⟨⟨kd, s2, ⟨#[120]⟩, ⟨#[]⟩⟩, rfl, tiny_mk (by first | decide | omega) (by first | decide | omega) (by first | decide | omega), KL.out, GL.out⟩
  have h0' : (z3 == 0) = false := by simpa using h0
  have h1' : (z3 == 1) = false := by simpa using h1
  have h2' : (z3 == 2) = false := by simpa using h2
  have h3' : (z3 == 3) = false := by simpa using h3
  have KL := hid ((((K9.out.set (b := w.heap.size) (j := 0) (v := .int .i64 kd) Nr.out).set (b := w.heap.size) (j := 1) (v := .string s2) Nr.out).set (b := w.heap.size) (j := 2) (v := .string ⟨#[]⟩) Nr.out).set (b := w.heap.size) (j := 3) (v := .string ⟨#[]⟩) Nr.out)
  have GL := hid (grown_far (b := w.heap.size) (j := 3) (v := .string ⟨#[]⟩) (grown_far (b := w.heap.size) (j := 2) (v := .string ⟨#[]⟩) (grown_far (b := w.heap.size) (j := 1) (v := .string s2) (grown_far (b := w.heap.size) (j := 0) (v := .int .i64 kd) G9.out Mr.out) Mr.out) Mr.out) Mr.out)
  go_wp2
  refine bodyPost_ret (v := .agg #[.int .i64 kd, .string s2, .string ⟨#[]⟩, .string ⟨#[]⟩]) (by simp [results, Try.results68, go_sem, zr0_10, zr1_10, zr2_10, zr3_10]) rfl ?_
  exact ⟨⟨kd, s2, ⟨#[]⟩, ⟨#[]⟩⟩, rfl, tiny_mk (by first | decide | omega) (by first | decide | omega) (by first | decide | omega), KL.out, GL.out⟩
end Go.Proofs.Ytbbohfagnnobgaa
