/-
  The walk of spec.l16Right: some command.
-/
import Derived.Test.YtjkgjnpifdafaaaJoint19
namespace Go.Proofs.Ytjkgjnpifdafaaa
open Go.RowKit

set_option maxRecDepth 1000000 in
set_option maxHeartbeats 2000000 in
theorem l16Right_any (C : Nat) (w : World) (hc : CurAt w C) :
    Calls Try.prog 73 #[.pointer (some ⟨C, 0, none⟩)] w fun e w' => ∃ d : CmdD, e = .returned (.agg #[.int .i64 d.op, .int .i64 d.tok, .int .i64 d.seq, .string d.key, .string d.val, .int .i64 d.ver]) ∧ CurAt w' C ∧ w.grownBy w' (some C) := by
  have hCl := hc.lt
  have K0 := hid hc
  have G0 := hid (World.grownBy.refl w (some C))
  clear hc
  have be := below_more (Below.refl w.heap.size w) (.cells #[.int .i64 0, .int .i64 0, .int .i64 0, .string ⟨#[]⟩, .string ⟨#[]⟩, .int .i64 0] 100)
  have hx1 : BlockIs (w.alloc (.cells #[.int .i64 0, .int .i64 0, .int .i64 0, .string ⟨#[]⟩, .string ⟨#[]⟩, .int .i64 0] 100)) w.heap.size 100 [.int .i64 0, .int .i64 0, .int .i64 0, .string ⟨#[]⟩, .string ⟨#[]⟩, .int .i64 0] := heap_alloc_new w _
  have K1 := hid (K0.out.below be)
  have G1 := hid (grown_below G0.out be)
  have Xr1 := hid hx1
  have Nr : Hid (C < w.heap.size) := (show _ < _ by omega)
  have Mr : Hid (w.heap.size ≤ w.heap.size) := (show _ ≤ _ by omega)
  clear be hx1  K0 G0
  obtain ⟨W0, hW0⟩ : ∃ W, w.alloc (.cells #[.int .i64 0, .int .i64 0, .int .i64 0, .string ⟨#[]⟩, .string ⟨#[]⟩, .int .i64 0] 100) = W := ⟨_, rfl⟩
  rw [hW0] at K1 G1 Xr1
  have zr0_2 := Xr1.out.cell (j := 0) rfl
  have zr1_2 := Xr1.out.cell (j := 1) rfl
  have zr2_2 := Xr1.out.cell (j := 2) rfl
  have zr3_2 := Xr1.out.cell (j := 3) rfl
  have zr4_2 := Xr1.out.cell (j := 4) rfl
  have zr5_2 := Xr1.out.cell (j := 5) rfl
  have yr0_2 := Xr1.out.thaw 0
  have yr1_2 := Xr1.out.thaw 1
  have yr2_2 := Xr1.out.thaw 2
  have yr3_2 := Xr1.out.thaw 3
  have yr4_2 := Xr1.out.thaw 4
  have yr5_2 := Xr1.out.thaw 5
  go_enter Try.func73, Try.ntmps73
  have Lr := hid Xr1.out.lt
  have LG := hid G1.out.size
  go_wp2_with fail
  refine Calls.mono (keepNew_any _) ?_
  rintro e w1 ⟨g1, rfl, hg1, hb1, b1⟩
  have K3 := hid (K1.out.below b1)
  have G3 := hid (grown_below G1.out b1)
  have Xr3 := hid (Xr1.out.on b1 Xr1.out.lt)
  clear b1 K1 G1 zr0_2 zr1_2 zr2_2 zr3_2 zr4_2 zr5_2 yr0_2 yr1_2 yr2_2 yr3_2 yr4_2 yr5_2 Xr1
  have Xg := hid hb1
  have Ng : Hid (C < g1) := (show _ < _ by have := LG.out; omega)
  have Mg : Hid (w.heap.size ≤ g1) := (show _ ≤ _ by have := LG.out; omega)
  have Arg : Hid (w.heap.size < g1) := (show _ < _ by have := Lr.out; omega)
  clear hb1 Lr LG
  have ba := below_more (Below.refl w1.heap.size w1) (.cells #[.slice none 0 0, .slice (some ⟨g1, 0, none⟩) 1 1] 110)
  have Mk := hid G3.out.size
  have Nk := hid (Nat.lt_of_lt_of_le hCl G3.out.size)
  have hx : BlockIs (w1.alloc (.cells #[.slice none 0 0, .slice (some ⟨g1, 0, none⟩) 1 1] 110)) w1.heap.size 110 [.slice none 0 0, .slice (some ⟨g1, 0, none⟩) 1 1] := heap_alloc_new w1 _
  have Ark := hid Xr3.out.lt
  have Agk := hid Xg.out.lt
  have K4 := hid (K3.out.below ba)
  have G4 := hid (grown_below G3.out ba)
  have Xr4 := hid (Xr3.out.on ba Xr3.out.lt)
  have Xg4 := hid (Xg.out.on ba Xg.out.lt)
  have Xk4 := hid hx
  clear hx
  clear ba K3 G3 Xr3 Xg
  have zr0_5 := Xr4.out.cell (j := 0) rfl
  have zr1_5 := Xr4.out.cell (j := 1) rfl
  have zr2_5 := Xr4.out.cell (j := 2) rfl
  have zr3_5 := Xr4.out.cell (j := 3) rfl
  have zr4_5 := Xr4.out.cell (j := 4) rfl
  have zr5_5 := Xr4.out.cell (j := 5) rfl
  have yr0_5 := Xr4.out.thaw 0
  have yr1_5 := Xr4.out.thaw 1
  have yr2_5 := Xr4.out.thaw 2
  have yr3_5 := Xr4.out.thaw 3
  have yr4_5 := Xr4.out.thaw 4
  have yr5_5 := Xr4.out.thaw 5
  have zg0_5 := Xg4.out.cell (j := 0) rfl
  have zg1_5 := Xg4.out.cell (j := 1) rfl
  have zg2_5 := Xg4.out.cell (j := 2) rfl
  have zk0_5 := Xk4.out.cell (j := 0) rfl
  have zk1_5 := Xk4.out.cell (j := 1) rfl
  have yk0_5 := Xk4.out.thaw 0
  have yk1_5 := Xk4.out.thaw 1
  go_wp2_with fail
  refine Calls.mono (l01Below_any C 5 (by omega) (by omega) _ K4.out) ?_
  rintro e w2 ⟨x2, rfl, hx2, hy2, k2, q2⟩
  have K6 := hid (k2)
  have G6 := hid (G4.out.trans q2)
  have Xr6 := hid (Xr4.out.cur q2 Nr.out)
  have Xg6 := hid (Xg4.out.cur q2 Ng.out)
  have Xk6 := hid (Xk4.out.cur q2 Nk.out)
  clear k2 q2 K4 G4 zr0_5 zr1_5 zr2_5 zr3_5 zr4_5 zr5_5 yr0_5 yr1_5 yr2_5 yr3_5 yr4_5 yr5_5 zg0_5 zg1_5 zg2_5 zk0_5 zk1_5 yk0_5 yk1_5 Xr4 Xg4 Xk4
  have zr0_7 := Xr6.out.cell (j := 0) rfl
  have zr1_7 := Xr6.out.cell (j := 1) rfl
  have zr2_7 := Xr6.out.cell (j := 2) rfl
  have zr3_7 := Xr6.out.cell (j := 3) rfl
  have zr4_7 := Xr6.out.cell (j := 4) rfl
  have zr5_7 := Xr6.out.cell (j := 5) rfl
  have yr0_7 := Xr6.out.thaw 0
  have yr1_7 := Xr6.out.thaw 1
  have yr2_7 := Xr6.out.thaw 2
  have yr3_7 := Xr6.out.thaw 3
  have yr4_7 := Xr6.out.thaw 4
  have yr5_7 := Xr6.out.thaw 5
  have zg0_7 := Xg6.out.cell (j := 0) rfl
  have zg1_7 := Xg6.out.cell (j := 1) rfl
  have zg2_7 := Xg6.out.cell (j := 2) rfl
  have zk0_7 := Xk6.out.cell (j := 0) rfl
  have zk1_7 := Xk6.out.cell (j := 1) rfl
  have yk0_7 := Xk6.out.thaw 0
  have yk1_7 := Xk6.out.thaw 1
  go_wp2_with fail
  refine Calls.mono (l01Below_any C 4 (by omega) (by omega) _ K6.out) ?_
  rintro e w3 ⟨x3, rfl, hx3, hy3, k3, q3⟩
  have K8 := hid (k3)
  have G8 := hid (G6.out.trans q3)
  have Xr8 := hid (Xr6.out.cur q3 Nr.out)
  have Xg8 := hid (Xg6.out.cur q3 Ng.out)
  have Xk8 := hid (Xk6.out.cur q3 Nk.out)
  clear k3 q3 K6 G6 zr0_7 zr1_7 zr2_7 zr3_7 zr4_7 zr5_7 yr0_7 yr1_7 yr2_7 yr3_7 yr4_7 yr5_7 zg0_7 zg1_7 zg2_7 zk0_7 zk1_7 yk0_7 yk1_7 Xr6 Xg6 Xk6
  have zr0_9 := Xr8.out.cell (j := 0) rfl
  have zr1_9 := Xr8.out.cell (j := 1) rfl
  have zr2_9 := Xr8.out.cell (j := 2) rfl
  have zr3_9 := Xr8.out.cell (j := 3) rfl
  have zr4_9 := Xr8.out.cell (j := 4) rfl
  have zr5_9 := Xr8.out.cell (j := 5) rfl
  have yr0_9 := Xr8.out.thaw 0
  have yr1_9 := Xr8.out.thaw 1
  have yr2_9 := Xr8.out.thaw 2
  have yr3_9 := Xr8.out.thaw 3
  have yr4_9 := Xr8.out.thaw 4
  have yr5_9 := Xr8.out.thaw 5
  have zg0_9 := Xg8.out.cell (j := 0) rfl
  have zg1_9 := Xg8.out.cell (j := 1) rfl
  have zg2_9 := Xg8.out.cell (j := 2) rfl
  have zk0_9 := Xk8.out.cell (j := 0) rfl
  have zk1_9 := Xk8.out.cell (j := 1) rfl
  have yk0_9 := Xk8.out.thaw 0
  have yk1_9 := Xk8.out.thaw 1
  have ba := below_more (Below.refl w3.heap.size w3) (.cells #[.int .i64 (1 + x2), .int .i64 x3, .string ⟨#[]⟩] 113)
  have Mq := hid G8.out.size
  have Nq := hid (Nat.lt_of_lt_of_le hCl G8.out.size)
  have hx : BlockIs (w3.alloc (.cells #[.int .i64 (1 + x2), .int .i64 x3, .string ⟨#[]⟩] 113)) w3.heap.size 113 [.int .i64 (1 + x2), .int .i64 x3, .string ⟨#[]⟩] := heap_alloc_new w3 _
  have Arq := hid Xr8.out.lt
  have Agq := hid Xg8.out.lt
  have Akq := hid Xk8.out.lt
  have K10 := hid (K8.out.below ba)
  have G10 := hid (grown_below G8.out ba)
  have Xr10 := hid (Xr8.out.on ba Xr8.out.lt)
  have Xg10 := hid (Xg8.out.on ba Xg8.out.lt)
  have Xk10 := hid (Xk8.out.on ba Xk8.out.lt)
  have Xq10 := hid hx
  clear hx
  clear ba K8 G8 zr0_9 zr1_9 zr2_9 zr3_9 zr4_9 zr5_9 yr0_9 yr1_9 yr2_9 yr3_9 yr4_9 yr5_9 zg0_9 zg1_9 zg2_9 zk0_9 zk1_9 yk0_9 yk1_9 Xr8 Xg8 Xk8
  have zr0_11 := Xr10.out.cell (j := 0) rfl
  have zr1_11 := Xr10.out.cell (j := 1) rfl
  have zr2_11 := Xr10.out.cell (j := 2) rfl
  have zr3_11 := Xr10.out.cell (j := 3) rfl
  have zr4_11 := Xr10.out.cell (j := 4) rfl
  have zr5_11 := Xr10.out.cell (j := 5) rfl
  have yr0_11 := Xr10.out.thaw 0
  have yr1_11 := Xr10.out.thaw 1
  have yr2_11 := Xr10.out.thaw 2
  have yr3_11 := Xr10.out.thaw 3
  have yr4_11 := Xr10.out.thaw 4
  have yr5_11 := Xr10.out.thaw 5
  have zg0_11 := Xg10.out.cell (j := 0) rfl
  have zg1_11 := Xg10.out.cell (j := 1) rfl
  have zg2_11 := Xg10.out.cell (j := 2) rfl
  have zk0_11 := Xk10.out.cell (j := 0) rfl
  have zk1_11 := Xk10.out.cell (j := 1) rfl
  have yk0_11 := Xk10.out.thaw 0
  have yk1_11 := Xk10.out.thaw 1
  have zq0_11 := Xq10.out.cell (j := 0) rfl
  have zq1_11 := Xq10.out.cell (j := 1) rfl
  have zq2_11 := Xq10.out.cell (j := 2) rfl
  have yq0_11 := Xq10.out.thaw 0
  have yq1_11 := Xq10.out.thaw 1
  have yq2_11 := Xq10.out.thaw 2
  have K12 := hid (K10.out.set (b := w1.heap.size) (j := 0) (v := (.slice (some ⟨w3.heap.size, 0, none⟩) 1 1)) Nk.out)
  have G12 := hid (grown_far (b := w1.heap.size) (j := 0) (v := (.slice (some ⟨w3.heap.size, 0, none⟩) 1 1)) G10.out Mk.out)
  have Xr12 := hid (Xr10.out.far (b := w1.heap.size) (j := 0) (by have := Ark.out; omega) (.slice (some ⟨w3.heap.size, 0, none⟩) 1 1))
  have Xg12 := hid (Xg10.out.far (b := w1.heap.size) (j := 0) (by have := Agk.out; omega) (.slice (some ⟨w3.heap.size, 0, none⟩) 1 1))
  have Xk12 : Hid (BlockIs ((w3.alloc (.cells #[.int .i64 (1 + x2), .int .i64 x3, .string ⟨#[]⟩] 113)).setCell ⟨w1.heap.size, 0, none⟩ (.slice (some ⟨w3.heap.size, 0, none⟩) 1 1)) (w1.heap.size) 110 [.slice (some ⟨w3.heap.size, 0, none⟩) 1 1, .slice (some ⟨g1, 0, none⟩) 1 1]) := Xk10.out.set 0 (.slice (some ⟨w3.heap.size, 0, none⟩) 1 1)
  have Xq12 := hid (Xq10.out.far (b := w1.heap.size) (j := 0) (by have := Akq.out; omega) (.slice (some ⟨w3.heap.size, 0, none⟩) 1 1))
  clear K10 G10 Xr10 Xg10 Xk10 Xq10
  have zr0_13 := Xr12.out.cell (j := 0) rfl
  have zr1_13 := Xr12.out.cell (j := 1) rfl
  have zr2_13 := Xr12.out.cell (j := 2) rfl
  have zr3_13 := Xr12.out.cell (j := 3) rfl
  have zr4_13 := Xr12.out.cell (j := 4) rfl
  have zr5_13 := Xr12.out.cell (j := 5) rfl
  have yr0_13 := Xr12.out.thaw 0
  have yr1_13 := Xr12.out.thaw 1
  have yr2_13 := Xr12.out.thaw 2
  have yr3_13 := Xr12.out.thaw 3
  have yr4_13 := Xr12.out.thaw 4
  have yr5_13 := Xr12.out.thaw 5
  have zg0_13 := Xg12.out.cell (j := 0) rfl
  have zg1_13 := Xg12.out.cell (j := 1) rfl
  have zg2_13 := Xg12.out.cell (j := 2) rfl
  have zk0_13 := Xk12.out.cell (j := 0) rfl
  have zk1_13 := Xk12.out.cell (j := 1) rfl
  have yk0_13 := Xk12.out.thaw 0
  have yk1_13 := Xk12.out.thaw 1
  have zq0_13 := Xq12.out.cell (j := 0) rfl
  have zq1_13 := Xq12.out.cell (j := 1) rfl
  have zq2_13 := Xq12.out.cell (j := 2) rfl
  have yq0_13 := Xq12.out.thaw 0
  have yq1_13 := Xq12.out.thaw 1
  have yq2_13 := Xq12.out.thaw 2
  go_wp2_with fail
  refine Calls.mono (l15Command_any C w3.heap.size 1 g1 1 _ _ 1 (1 + x2) x3 _ (by omega) _ K12.out Xg12.out Ng.out Xq12.out Nq.out) ?_
  rintro e w4 ⟨d4, rfl, k4, q4⟩
  have K14 := hid (k4)
  have G14 := hid (G12.out.trans q4)
  have Xr14 := hid (Xr12.out.cur q4 Nr.out)
  have Xg14 := hid (Xg12.out.cur q4 Ng.out)
  have Xk14 := hid (Xk12.out.cur q4 Nk.out)
  have Xq14 := hid (Xq12.out.cur q4 Nq.out)
  clear k4 q4 K12 G12 zr0_13 zr1_13 zr2_13 zr3_13 zr4_13 zr5_13 yr0_13 yr1_13 yr2_13 yr3_13 yr4_13 yr5_13 zg0_13 zg1_13 zg2_13 zk0_13 zk1_13 yk0_13 yk1_13 zq0_13 zq1_13 zq2_13 yq0_13 yq1_13 yq2_13 zr0_11 zr1_11 zr2_11 zr3_11 zr4_11 zr5_11 yr0_11 yr1_11 yr2_11 yr3_11 yr4_11 yr5_11 zg0_11 zg1_11 zg2_11 zk0_11 zk1_11 yk0_11 yk1_11 zq0_11 zq1_11 zq2_11 yq0_11 yq1_11 yq2_11 Xr12 Xg12 Xk12 Xq12
  have zr0_15 := Xr14.out.cell (j := 0) rfl
  have zr1_15 := Xr14.out.cell (j := 1) rfl
  have zr2_15 := Xr14.out.cell (j := 2) rfl
  have zr3_15 := Xr14.out.cell (j := 3) rfl
  have zr4_15 := Xr14.out.cell (j := 4) rfl
  have zr5_15 := Xr14.out.cell (j := 5) rfl
  have yr0_15 := Xr14.out.thaw 0
  have yr1_15 := Xr14.out.thaw 1
  have yr2_15 := Xr14.out.thaw 2
  have yr3_15 := Xr14.out.thaw 3
  have yr4_15 := Xr14.out.thaw 4
  have yr5_15 := Xr14.out.thaw 5
  have zg0_15 := Xg14.out.cell (j := 0) rfl
  have zg1_15 := Xg14.out.cell (j := 1) rfl
  have zg2_15 := Xg14.out.cell (j := 2) rfl
  have zk0_15 := Xk14.out.cell (j := 0) rfl
  have zk1_15 := Xk14.out.cell (j := 1) rfl
  have yk0_15 := Xk14.out.thaw 0
  have yk1_15 := Xk14.out.thaw 1
  have zq0_15 := Xq14.out.cell (j := 0) rfl
  have zq1_15 := Xq14.out.cell (j := 1) rfl
  have zq2_15 := Xq14.out.cell (j := 2) rfl
  have yq0_15 := Xq14.out.thaw 0
  have yq1_15 := Xq14.out.thaw 1
  have yq2_15 := Xq14.out.thaw 2
  obtain ⟨op, tok, seq, key, val, ver⟩ := d4
  dsimp only
  have ba := below_more (Below.refl w4.heap.size w4) (.cells #[.int .i64 op, .int .i64 tok, .int .i64 seq, .string key, .string val, .int .i64 ver] 100)
  have Mx := hid G14.out.size
  have Nx := hid (Nat.lt_of_lt_of_le hCl G14.out.size)
  have hx : BlockIs (w4.alloc (.cells #[.int .i64 op, .int .i64 tok, .int .i64 seq, .string key, .string val, .int .i64 ver] 100)) w4.heap.size 100 [.int .i64 op, .int .i64 tok, .int .i64 seq, .string key, .string val, .int .i64 ver] := heap_alloc_new w4 _
  have Arx := hid Xr14.out.lt
  have Agx := hid Xg14.out.lt
  have Akx := hid Xk14.out.lt
  have Aqx := hid Xq14.out.lt
  have K16 := hid (K14.out.below ba)
  have G16 := hid (grown_below G14.out ba)
  have Xr16 := hid (Xr14.out.on ba Xr14.out.lt)
  have Xg16 := hid (Xg14.out.on ba Xg14.out.lt)
  have Xk16 := hid (Xk14.out.on ba Xk14.out.lt)
  have Xq16 := hid (Xq14.out.on ba Xq14.out.lt)
  have Xx16 := hid hx
  clear hx
  clear ba K14 G14 zr0_15 zr1_15 zr2_15 zr3_15 zr4_15 zr5_15 yr0_15 yr1_15 yr2_15 yr3_15 yr4_15 yr5_15 zg0_15 zg1_15 zg2_15 zk0_15 zk1_15 yk0_15 yk1_15 zq0_15 zq1_15 zq2_15 yq0_15 yq1_15 yq2_15 Xr14 Xg14 Xk14 Xq14
  have zr0_17 := Xr16.out.cell (j := 0) rfl
  have zr1_17 := Xr16.out.cell (j := 1) rfl
  have zr2_17 := Xr16.out.cell (j := 2) rfl
  have zr3_17 := Xr16.out.cell (j := 3) rfl
  have zr4_17 := Xr16.out.cell (j := 4) rfl
  have zr5_17 := Xr16.out.cell (j := 5) rfl
  have yr0_17 := Xr16.out.thaw 0
  have yr1_17 := Xr16.out.thaw 1
  have yr2_17 := Xr16.out.thaw 2
  have yr3_17 := Xr16.out.thaw 3
  have yr4_17 := Xr16.out.thaw 4
  have yr5_17 := Xr16.out.thaw 5
  have zg0_17 := Xg16.out.cell (j := 0) rfl
  have zg1_17 := Xg16.out.cell (j := 1) rfl
  have zg2_17 := Xg16.out.cell (j := 2) rfl
  have zk0_17 := Xk16.out.cell (j := 0) rfl
  have zk1_17 := Xk16.out.cell (j := 1) rfl
  have yk0_17 := Xk16.out.thaw 0
  have yk1_17 := Xk16.out.thaw 1
  have zq0_17 := Xq16.out.cell (j := 0) rfl
  have zq1_17 := Xq16.out.cell (j := 1) rfl
  have zq2_17 := Xq16.out.cell (j := 2) rfl
  have yq0_17 := Xq16.out.thaw 0
  have yq1_17 := Xq16.out.thaw 1
  have yq2_17 := Xq16.out.thaw 2
  have zx0_17 := Xx16.out.cell (j := 0) rfl
  have zx1_17 := Xx16.out.cell (j := 1) rfl
  have zx2_17 := Xx16.out.cell (j := 2) rfl
  have zx3_17 := Xx16.out.cell (j := 3) rfl
  have zx4_17 := Xx16.out.cell (j := 4) rfl
  have zx5_17 := Xx16.out.cell (j := 5) rfl
  have yx0_17 := Xx16.out.thaw 0
  have yx1_17 := Xx16.out.thaw 1
  have yx2_17 := Xx16.out.thaw 2
  have yx3_17 := Xx16.out.thaw 3
  have yx4_17 := Xx16.out.thaw 4
  have yx5_17 := Xx16.out.thaw 5
  go_wp2_with fail
  refine Calls.mono (commandOk_any ⟨op, tok, seq, key, val, ver⟩ _) ?_
  rintro e w5 ⟨⟨ok5, rfl, _⟩, b5⟩
  have K18 := hid (K16.out.below b5)
  have G18 := hid (grown_below G16.out b5)
  have Xr18 := hid (Xr16.out.on b5 Xr16.out.lt)
  have Xg18 := hid (Xg16.out.on b5 Xg16.out.lt)
  have Xk18 := hid (Xk16.out.on b5 Xk16.out.lt)
  have Xq18 := hid (Xq16.out.on b5 Xq16.out.lt)
  have Xx18 := hid (Xx16.out.on b5 Xx16.out.lt)
  clear b5 K16 G16 zr0_17 zr1_17 zr2_17 zr3_17 zr4_17 zr5_17 yr0_17 yr1_17 yr2_17 yr3_17 yr4_17 yr5_17 zg0_17 zg1_17 zg2_17 zk0_17 zk1_17 yk0_17 yk1_17 zq0_17 zq1_17 zq2_17 yq0_17 yq1_17 yq2_17 zx0_17 zx1_17 zx2_17 zx3_17 zx4_17 zx5_17 yx0_17 yx1_17 yx2_17 yx3_17 yx4_17 yx5_17 Xr16 Xg16 Xk16 Xq16 Xx16
  have zr0_19 := Xr18.out.cell (j := 0) rfl
  have zr1_19 := Xr18.out.cell (j := 1) rfl
  have zr2_19 := Xr18.out.cell (j := 2) rfl
  have zr3_19 := Xr18.out.cell (j := 3) rfl
  have zr4_19 := Xr18.out.cell (j := 4) rfl
  have zr5_19 := Xr18.out.cell (j := 5) rfl
  have yr0_19 := Xr18.out.thaw 0
  have yr1_19 := Xr18.out.thaw 1
  have yr2_19 := Xr18.out.thaw 2
  have yr3_19 := Xr18.out.thaw 3
  have yr4_19 := Xr18.out.thaw 4
  have yr5_19 := Xr18.out.thaw 5
  have zg0_19 := Xg18.out.cell (j := 0) rfl
  have zg1_19 := Xg18.out.cell (j := 1) rfl
  have zg2_19 := Xg18.out.cell (j := 2) rfl
  have zk0_19 := Xk18.out.cell (j := 0) rfl
  have zk1_19 := Xk18.out.cell (j := 1) rfl
  have yk0_19 := Xk18.out.thaw 0
  have yk1_19 := Xk18.out.thaw 1
  have zq0_19 := Xq18.out.cell (j := 0) rfl
  have zq1_19 := Xq18.out.cell (j := 1) rfl
  have zq2_19 := Xq18.out.cell (j := 2) rfl
  have yq0_19 := Xq18.out.thaw 0
  have yq1_19 := Xq18.out.thaw 1
  have yq2_19 := Xq18.out.thaw 2
  have zx0_19 := Xx18.out.cell (j := 0) rfl
  have zx1_19 := Xx18.out.cell (j := 1) rfl
  have zx2_19 := Xx18.out.cell (j := 2) rfl
  have zx3_19 := Xx18.out.cell (j := 3) rfl
  have zx4_19 := Xx18.out.cell (j := 4) rfl
  have zx5_19 := Xx18.out.cell (j := 5) rfl
  have yx0_19 := Xx18.out.thaw 0
  have yx1_19 := Xx18.out.thaw 1
  have yx2_19 := Xx18.out.thaw 2
  have yx3_19 := Xx18.out.thaw 3
  have yx4_19 := Xx18.out.thaw 4
  have yx5_19 := Xx18.out.thaw 5
  cases ok5 with
  | true =>
    have KL := hid ((((((K18.out.set (b := w.heap.size) (j := 0) (v := .int .i64 op) Nr.out).set (b := w.heap.size) (j := 1) (v := .int .i64 tok) Nr.out).set (b := w.heap.size) (j := 2) (v := .int .i64 seq) Nr.out).set (b := w.heap.size) (j := 3) (v := .string key) Nr.out).set (b := w.heap.size) (j := 4) (v := .string val) Nr.out).set (b := w.heap.size) (j := 5) (v := .int .i64 ver) Nr.out)
    have GL := hid (grown_far (b := w.heap.size) (j := 5) (v := .int .i64 ver) (grown_far (b := w.heap.size) (j := 4) (v := .string val) (grown_far (b := w.heap.size) (j := 3) (v := .string key) (grown_far (b := w.heap.size) (j := 2) (v := .int .i64 seq) (grown_far (b := w.heap.size) (j := 1) (v := .int .i64 tok) (grown_far (b := w.heap.size) (j := 0) (v := .int .i64 op) G18.out Mr.out) Mr.out) Mr.out) Mr.out) Mr.out) Mr.out)
    go_wp2
    refine bodyPost_ret (v := .agg #[.int .i64 op, .int .i64 tok, .int .i64 seq, .string key, .string val, .int .i64 ver]) (by simp [results, Try.results73, go_sem, zr0_19, zr1_19, zr2_19, zr3_19, zr4_19, zr5_19]) rfl ?_
    exact ⟨⟨op, tok, seq, key, val, ver⟩, rfl, KL.out, GL.out⟩
  | false =>
    have KL := hid ((((((K18.out.set (b := w.heap.size) (j := 0) (v := .int .i64 3) Nr.out).set (b := w.heap.size) (j := 1) (v := .int .i64 1) Nr.out).set (b := w.heap.size) (j := 2) (v := .int .i64 1) Nr.out).set (b := w.heap.size) (j := 3) (v := .string ⟨#[97]⟩) Nr.out).set (b := w.heap.size) (j := 4) (v := .string ⟨#[]⟩) Nr.out).set (b := w.heap.size) (j := 5) (v := .int .i64 0) Nr.out)
    have GL := hid (grown_far (b := w.heap.size) (j := 5) (v := .int .i64 0) (grown_far (b := w.heap.size) (j := 4) (v := .string ⟨#[]⟩) (grown_far (b := w.heap.size) (j := 3) (v := .string ⟨#[97]⟩) (grown_far (b := w.heap.size) (j := 2) (v := .int .i64 1) (grown_far (b := w.heap.size) (j := 1) (v := .int .i64 1) (grown_far (b := w.heap.size) (j := 0) (v := .int .i64 3) G18.out Mr.out) Mr.out) Mr.out) Mr.out) Mr.out) Mr.out)
    go_wp2
    refine bodyPost_ret (v := .agg #[.int .i64 3, .int .i64 1, .int .i64 1, .string ⟨#[97]⟩, .string ⟨#[]⟩, .int .i64 0]) (by simp [results, Try.results73, go_sem, zr0_19, zr1_19, zr2_19, zr3_19, zr4_19, zr5_19]) rfl ?_
    exact ⟨⟨3, 1, 1, ⟨#[97]⟩, ⟨#[]⟩, 0⟩, rfl, KL.out, GL.out⟩
end Go.Proofs.Ytjkgjnpifdafaaa
