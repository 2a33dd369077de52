/-
  The walk of spec.l15Command: some command, of a keep with one session and one item.
  The walk of spec.l16Right: some command.
-/
import Derived.Test.YtohmfmajgehadaaGreatDoorJoint12
import Derived.Test.YtohmfmajgehadaaGreatDoorJoint10
namespace Go.Proofs.YtohmfmajgehadaaGreatDoor
open Go.RowKit

set_option maxRecDepth 1000000 in
set_option maxHeartbeats 2000000 in
theorem l15Command_any (C : Nat) (gs sc g c : Nat) (k0 v0 : ByteArray) (n0 tk la : Int) (rp : ByteArray) (h0 : 0 ≤ la ∧ la ≤ 1000) (w : World) (hc : CurAt w C) (hg : BlockIs w g 68 [.string k0, .string v0, .int .i64 n0]) (hCg : C < g) (hs : BlockIs w gs 66 [.int .i64 tk, .int .i64 la, .string rp]) (hCs : C < gs) :
    Calls Tryz.prog 23 #[.pointer (some ⟨C, 0, none⟩), .agg #[.slice (some ⟨gs, 0, none⟩) 1 sc, .slice (some ⟨g, 0, none⟩) 1 c]] w fun e w' => ∃ d : CmdD, e = .returned (.agg #[.int .i64 d.op, .int .i64 d.tok, .int .i64 d.seq, .string d.key, .string d.val, .int .i64 d.ver]) ∧ CurAt w' C ∧ w.grownBy w' (some C) := by
  have hCl := hc.lt
  have K0 := hid hc
  have G0 := hid (World.grownBy.refl w (some C))
  clear hc
  have HG := hid hg
  have hgC := hid hCg
  have HS := hid hs
  have hsC := hid hCs
  clear hg hCg hs hCs
  have be := below_more (below_more (Below.refl w.heap.size w) (.cells #[.slice (some ⟨gs, 0, none⟩) 1 sc, .slice (some ⟨g, 0, none⟩) 1 c] 27)) (.cells #[.int .i64 0, .int .i64 0, .int .i64 0, .string ⟨#[]⟩, .string ⟨#[]⟩, .int .i64 0] 53)
  have hx0 : BlockIs (w.alloc (.cells #[.slice (some ⟨gs, 0, none⟩) 1 sc, .slice (some ⟨g, 0, none⟩) 1 c] 27)) w.heap.size 27 [.slice (some ⟨gs, 0, none⟩) 1 sc, .slice (some ⟨g, 0, none⟩) 1 c] := heap_alloc_new w _
  have hx1 := hx0.on (below_more (Below.refl _ _) (.cells #[.int .i64 0, .int .i64 0, .int .i64 0, .string ⟨#[]⟩, .string ⟨#[]⟩, .int .i64 0] 53)) hx0.lt
  have hx2 : BlockIs ((w.alloc (.cells #[.slice (some ⟨gs, 0, none⟩) 1 sc, .slice (some ⟨g, 0, none⟩) 1 c] 27)).alloc (.cells #[.int .i64 0, .int .i64 0, .int .i64 0, .string ⟨#[]⟩, .string ⟨#[]⟩, .int .i64 0] 53)) (w.heap.size + 1) 53 [.int .i64 0, .int .i64 0, .int .i64 0, .string ⟨#[]⟩, .string ⟨#[]⟩, .int .i64 0] := by
    have := heap_alloc_new (w.alloc (.cells #[.slice (some ⟨gs, 0, none⟩) 1 sc, .slice (some ⟨g, 0, none⟩) 1 c] 27)) (.cells #[.int .i64 0, .int .i64 0, .int .i64 0, .string ⟨#[]⟩, .string ⟨#[]⟩, .int .i64 0] 53)
    rw [show (w.alloc (.cells #[.slice (some ⟨gs, 0, none⟩) 1 sc, .slice (some ⟨g, 0, none⟩) 1 c] 27)).heap.size = w.heap.size + 1 by simp [World.alloc, -World.alloc_eq]] at this
    exact this
  have Lg := hid HG.out.lt
  have Lq := hid HS.out.lt
  have K1 := hid (K0.out.below be)
  have G1 := hid (grown_below G0.out be)
  have Xg1 := hid (HG.out.on be HG.out.lt)
  have Xq1 := hid (HS.out.on be HS.out.lt)
  have Xk1 := hid hx1
  have Nk : Hid (C < w.heap.size) := (show _ < _ by omega)
  have Mk : Hid (w.heap.size ≤ w.heap.size) := (show _ ≤ _ by omega)
  have Agk : Hid (g < w.heap.size) := (show _ < _ by have := Lg.out; omega)
  have Aqk : Hid (gs < w.heap.size) := (show _ < _ by have := Lq.out; omega)
  have Xr1 := hid hx2
  have Nr : Hid (C < w.heap.size + 1) := (show _ < _ by omega)
  have Mr : Hid (w.heap.size ≤ w.heap.size + 1) := (show _ ≤ _ by omega)
  have Agr : Hid (g < w.heap.size + 1) := (show _ < _ by have := Lg.out; omega)
  have Aqr : Hid (gs < w.heap.size + 1) := (show _ < _ by have := Lq.out; omega)
  have Akr : Hid (w.heap.size < w.heap.size + 1) := (show _ < _ by omega)
  clear be hx1 hx0 hx2 K0 G0 HG HS Lg Lq
  obtain ⟨W0, hW0⟩ : ∃ W, (w.alloc (.cells #[.slice (some ⟨gs, 0, none⟩) 1 sc, .slice (some ⟨g, 0, none⟩) 1 c] 27)).alloc (.cells #[.int .i64 0, .int .i64 0, .int .i64 0, .string ⟨#[]⟩, .string ⟨#[]⟩, .int .i64 0] 53) = W := ⟨_, rfl⟩
  rw [hW0] at K1 G1 Xg1 Xq1 Xk1 Xr1
  have zg0_2 := Xg1.out.cell (j := 0) rfl
  have zg1_2 := Xg1.out.cell (j := 1) rfl
  have zg2_2 := Xg1.out.cell (j := 2) rfl
  have zq0_2 := Xq1.out.cell (j := 0) rfl
  have zq1_2 := Xq1.out.cell (j := 1) rfl
  have zq2_2 := Xq1.out.cell (j := 2) rfl
  have zk0_2 := Xk1.out.cell (j := 0) rfl
  have zk1_2 := Xk1.out.cell (j := 1) rfl
  have yk0_2 := Xk1.out.thaw 0
  have yk1_2 := Xk1.out.thaw 1
  have zr0_2 := Xr1.out.cell (j := 0) rfl
  have zr1_2 := Xr1.out.cell (j := 1) rfl
  have zr2_2 := Xr1.out.cell (j := 2) rfl
  have zr3_2 := Xr1.out.cell (j := 3) rfl
  have zr4_2 := Xr1.out.cell (j := 4) rfl
  have zr5_2 := Xr1.out.cell (j := 5) rfl
  have yr0_2 := Xr1.out.thaw 0
  have yr1_2 := Xr1.out.thaw 1
  have yr2_2 := Xr1.out.thaw 2
  have yr3_2 := Xr1.out.thaw 3
  have yr4_2 := Xr1.out.thaw 4
  have yr5_2 := Xr1.out.thaw 5
  go_enter Tryz.func23, Tryz.ntmps23
  go_wp2_with fail
  refine Calls.mono (l01Once_any C 16 (by omega) (by omega) _ K1.out) ?_
  rintro e w1 ⟨b1, rfl, k1, q1⟩
  have K3 := hid (k1)
  have G3 := hid (G1.out.trans q1)
  have Xg3 := hid (Xg1.out.cur q1 hgC.out)
  have Xq3 := hid (Xq1.out.cur q1 hsC.out)
  have Xk3 := hid (Xk1.out.cur q1 Nk.out)
  have Xr3 := hid (Xr1.out.cur q1 Nr.out)
  clear k1 q1 K1 G1 zg0_2 zg1_2 zg2_2 zq0_2 zq1_2 zq2_2 zk0_2 zk1_2 yk0_2 yk1_2 zr0_2 zr1_2 zr2_2 zr3_2 zr4_2 zr5_2 yr0_2 yr1_2 yr2_2 yr3_2 yr4_2 yr5_2 Xg1 Xq1 Xk1 Xr1
  have zg0_4 := Xg3.out.cell (j := 0) rfl
  have zg1_4 := Xg3.out.cell (j := 1) rfl
  have zg2_4 := Xg3.out.cell (j := 2) rfl
  have zq0_4 := Xq3.out.cell (j := 0) rfl
  have zq1_4 := Xq3.out.cell (j := 1) rfl
  have zq2_4 := Xq3.out.cell (j := 2) rfl
  have zk0_4 := Xk3.out.cell (j := 0) rfl
  have zk1_4 := Xk3.out.cell (j := 1) rfl
  have yk0_4 := Xk3.out.thaw 0
  have yk1_4 := Xk3.out.thaw 1
  have zr0_4 := Xr3.out.cell (j := 0) rfl
  have zr1_4 := Xr3.out.cell (j := 1) rfl
  have zr2_4 := Xr3.out.cell (j := 2) rfl
  have zr3_4 := Xr3.out.cell (j := 3) rfl
  have zr4_4 := Xr3.out.cell (j := 4) rfl
  have zr5_4 := Xr3.out.cell (j := 5) rfl
  have yr0_4 := Xr3.out.thaw 0
  have yr1_4 := Xr3.out.thaw 1
  have yr2_4 := Xr3.out.thaw 2
  have yr3_4 := Xr3.out.thaw 3
  have yr4_4 := Xr3.out.thaw 4
  have yr5_4 := Xr3.out.thaw 5
  cases b1 with
  | true =>
    have KL := hid ((((((K3.out.set (b := w.heap.size + 1) (j := 0) (v := .int .i64 1) Nr.out).set (b := w.heap.size + 1) (j := 1) (v := .int .i64 0) Nr.out).set (b := w.heap.size + 1) (j := 2) (v := .int .i64 0) Nr.out).set (b := w.heap.size + 1) (j := 3) (v := .string ⟨#[]⟩) Nr.out).set (b := w.heap.size + 1) (j := 4) (v := .string ⟨#[]⟩) Nr.out).set (b := w.heap.size + 1) (j := 5) (v := .int .i64 0) Nr.out)
    have GL := hid (grown_far (b := w.heap.size + 1) (j := 5) (v := .int .i64 0) (grown_far (b := w.heap.size + 1) (j := 4) (v := .string ⟨#[]⟩) (grown_far (b := w.heap.size + 1) (j := 3) (v := .string ⟨#[]⟩) (grown_far (b := w.heap.size + 1) (j := 2) (v := .int .i64 0) (grown_far (b := w.heap.size + 1) (j := 1) (v := .int .i64 0) (grown_far (b := w.heap.size + 1) (j := 0) (v := .int .i64 1) G3.out Mr.out) Mr.out) Mr.out) Mr.out) Mr.out) Mr.out)
    go_wp2
    refine bodyPost_ret (v := .agg #[.int .i64 1, .int .i64 0, .int .i64 0, .string ⟨#[]⟩, .string ⟨#[]⟩, .int .i64 0]) (by simp [results, Tryz.results23, go_sem, zr0_4, zr1_4, zr2_4, zr3_4, zr4_4, zr5_4]) rfl ?_
    exact ⟨⟨1, 0, 0, ⟨#[]⟩, ⟨#[]⟩, 0⟩, rfl, KL.out, GL.out⟩
  | false =>
  go_wp2_with fail
  refine Calls.mono (l15Of_any C (some ⟨gs, 0, none⟩) 1 sc g c k0 v0 n0 _ K3.out Xg3.out hgC.out) ?_
  rintro e w2 ⟨d2, rfl, k2, q2⟩
  have K5 := hid (k2)
  have G5 := hid (G3.out.trans q2)
  have Xg5 := hid (Xg3.out.cur q2 hgC.out)
  have Xq5 := hid (Xq3.out.cur q2 hsC.out)
  have Xk5 := hid (Xk3.out.cur q2 Nk.out)
  have Xr5 := hid (Xr3.out.cur q2 Nr.out)
  clear k2 q2 K3 G3 zg0_4 zg1_4 zg2_4 zq0_4 zq1_4 zq2_4 zk0_4 zk1_4 yk0_4 yk1_4 zr0_4 zr1_4 zr2_4 zr3_4 zr4_4 zr5_4 yr0_4 yr1_4 yr2_4 yr3_4 yr4_4 yr5_4 Xg3 Xq3 Xk3 Xr3
  have zg0_6 := Xg5.out.cell (j := 0) rfl
  have zg1_6 := Xg5.out.cell (j := 1) rfl
  have zg2_6 := Xg5.out.cell (j := 2) rfl
  have zq0_6 := Xq5.out.cell (j := 0) rfl
  have zq1_6 := Xq5.out.cell (j := 1) rfl
  have zq2_6 := Xq5.out.cell (j := 2) rfl
  have zk0_6 := Xk5.out.cell (j := 0) rfl
  have zk1_6 := Xk5.out.cell (j := 1) rfl
  have yk0_6 := Xk5.out.thaw 0
  have yk1_6 := Xk5.out.thaw 1
  have zr0_6 := Xr5.out.cell (j := 0) rfl
  have zr1_6 := Xr5.out.cell (j := 1) rfl
  have zr2_6 := Xr5.out.cell (j := 2) rfl
  have zr3_6 := Xr5.out.cell (j := 3) rfl
  have zr4_6 := Xr5.out.cell (j := 4) rfl
  have zr5_6 := Xr5.out.cell (j := 5) rfl
  have yr0_6 := Xr5.out.thaw 0
  have yr1_6 := Xr5.out.thaw 1
  have yr2_6 := Xr5.out.thaw 2
  have yr3_6 := Xr5.out.thaw 3
  have yr4_6 := Xr5.out.thaw 4
  have yr5_6 := Xr5.out.thaw 5
  obtain ⟨op, tok, seq, key, val, ver⟩ := d2
  dsimp only
  have ba := below_more (Below.refl w2.heap.size w2) (.cells #[.int .i64 op, .int .i64 tok, .int .i64 seq, .string key, .string val, .int .i64 ver] 53)
  have Mx := hid G5.out.size
  have Nx := hid (Nat.lt_of_lt_of_le hCl G5.out.size)
  have hx : BlockIs (w2.alloc (.cells #[.int .i64 op, .int .i64 tok, .int .i64 seq, .string key, .string val, .int .i64 ver] 53)) w2.heap.size 53 [.int .i64 op, .int .i64 tok, .int .i64 seq, .string key, .string val, .int .i64 ver] := heap_alloc_new w2 _
  have Agx := hid Xg5.out.lt
  have Aqx := hid Xq5.out.lt
  have Akx := hid Xk5.out.lt
  have Arx := hid Xr5.out.lt
  have K7 := hid (K5.out.below ba)
  have G7 := hid (grown_below G5.out ba)
  have Xg7 := hid (Xg5.out.on ba Xg5.out.lt)
  have Xq7 := hid (Xq5.out.on ba Xq5.out.lt)
  have Xk7 := hid (Xk5.out.on ba Xk5.out.lt)
  have Xr7 := hid (Xr5.out.on ba Xr5.out.lt)
  have Xx7 := hid hx
  clear hx
  clear ba K5 G5 zg0_6 zg1_6 zg2_6 zq0_6 zq1_6 zq2_6 zk0_6 zk1_6 yk0_6 yk1_6 zr0_6 zr1_6 zr2_6 zr3_6 zr4_6 zr5_6 yr0_6 yr1_6 yr2_6 yr3_6 yr4_6 yr5_6 Xg5 Xq5 Xk5 Xr5
  have zg0_8 := Xg7.out.cell (j := 0) rfl
  have zg1_8 := Xg7.out.cell (j := 1) rfl
  have zg2_8 := Xg7.out.cell (j := 2) rfl
  have zq0_8 := Xq7.out.cell (j := 0) rfl
  have zq1_8 := Xq7.out.cell (j := 1) rfl
  have zq2_8 := Xq7.out.cell (j := 2) rfl
  have zk0_8 := Xk7.out.cell (j := 0) rfl
  have zk1_8 := Xk7.out.cell (j := 1) rfl
  have yk0_8 := Xk7.out.thaw 0
  have yk1_8 := Xk7.out.thaw 1
  have zr0_8 := Xr7.out.cell (j := 0) rfl
  have zr1_8 := Xr7.out.cell (j := 1) rfl
  have zr2_8 := Xr7.out.cell (j := 2) rfl
  have zr3_8 := Xr7.out.cell (j := 3) rfl
  have zr4_8 := Xr7.out.cell (j := 4) rfl
  have zr5_8 := Xr7.out.cell (j := 5) rfl
  have yr0_8 := Xr7.out.thaw 0
  have yr1_8 := Xr7.out.thaw 1
  have yr2_8 := Xr7.out.thaw 2
  have yr3_8 := Xr7.out.thaw 3
  have yr4_8 := Xr7.out.thaw 4
  have yr5_8 := Xr7.out.thaw 5
  have zx0_8 := Xx7.out.cell (j := 0) rfl
  have zx1_8 := Xx7.out.cell (j := 1) rfl
  have zx2_8 := Xx7.out.cell (j := 2) rfl
  have zx3_8 := Xx7.out.cell (j := 3) rfl
  have zx4_8 := Xx7.out.cell (j := 4) rfl
  have zx5_8 := Xx7.out.cell (j := 5) rfl
  have yx0_8 := Xx7.out.thaw 0
  have yx1_8 := Xx7.out.thaw 1
  have yx2_8 := Xx7.out.thaw 2
  have yx3_8 := Xx7.out.thaw 3
  have yx4_8 := Xx7.out.thaw 4
  have yx5_8 := Xx7.out.thaw 5
  have ba := below_more (Below.refl (w2.alloc (.cells #[.int .i64 op, .int .i64 tok, .int .i64 seq, .string key, .string val, .int .i64 ver] 53)).heap.size (w2.alloc (.cells #[.int .i64 op, .int .i64 tok, .int .i64 seq, .string key, .string val, .int .i64 ver] 53))) (.cells #[.int .i64 tk, .int .i64 la, .string rp] 66)
  have hz9 : (w2.alloc (.cells #[.int .i64 op, .int .i64 tok, .int .i64 seq, .string key, .string val, .int .i64 ver] 53)).heap.size = w2.heap.size + 1 := by simp [World.alloc, -World.alloc_eq]
  have Ms : Hid (w.heap.size ≤ w2.heap.size + 1) := (show _ ≤ _ by have := G7.out.size; omega)
  have Ns : Hid (C < w2.heap.size + 1) := (show _ < _ by have := Ms.out; omega)
  have hx : BlockIs ((w2.alloc (.cells #[.int .i64 op, .int .i64 tok, .int .i64 seq, .string key, .string val, .int .i64 ver] 53)).alloc (.cells #[.int .i64 tk, .int .i64 la, .string rp] 66)) (w2.heap.size + 1) 66 [.int .i64 tk, .int .i64 la, .string rp] := by
    have := heap_alloc_new (w2.alloc (.cells #[.int .i64 op, .int .i64 tok, .int .i64 seq, .string key, .string val, .int .i64 ver] 53)) (.cells #[.int .i64 tk, .int .i64 la, .string rp] 66)
    rw [hz9] at this
    exact this
  have Ags : Hid (g < w2.heap.size + 1) := (show _ < _ by have := Xg7.out.lt; omega)
  have Aqs : Hid (gs < w2.heap.size + 1) := (show _ < _ by have := Xq7.out.lt; omega)
  have Aks : Hid (w.heap.size < w2.heap.size + 1) := (show _ < _ by have := Xk7.out.lt; omega)
  have Ars : Hid (w.heap.size + 1 < w2.heap.size + 1) := (show _ < _ by have := Xr7.out.lt; omega)
  have Axs : Hid (w2.heap.size < w2.heap.size + 1) := (show _ < _ by have := Xx7.out.lt; omega)
  clear hz9
  have K9 := hid (K7.out.below ba)
  have G9 := hid (grown_below G7.out ba)
  have Xg9 := hid (Xg7.out.on ba Xg7.out.lt)
  have Xq9 := hid (Xq7.out.on ba Xq7.out.lt)
  have Xk9 := hid (Xk7.out.on ba Xk7.out.lt)
  have Xr9 := hid (Xr7.out.on ba Xr7.out.lt)
  have Xx9 := hid (Xx7.out.on ba Xx7.out.lt)
  have Xs9 := hid hx
  clear hx
  clear ba K7 G7 Xg7 Xq7 Xk7 Xr7 Xx7
  have zg0_10 := Xg9.out.cell (j := 0) rfl
  have zg1_10 := Xg9.out.cell (j := 1) rfl
  have zg2_10 := Xg9.out.cell (j := 2) rfl
  have zq0_10 := Xq9.out.cell (j := 0) rfl
  have zq1_10 := Xq9.out.cell (j := 1) rfl
  have zq2_10 := Xq9.out.cell (j := 2) rfl
  have zk0_10 := Xk9.out.cell (j := 0) rfl
  have zk1_10 := Xk9.out.cell (j := 1) rfl
  have yk0_10 := Xk9.out.thaw 0
  have yk1_10 := Xk9.out.thaw 1
  have zr0_10 := Xr9.out.cell (j := 0) rfl
  have zr1_10 := Xr9.out.cell (j := 1) rfl
  have zr2_10 := Xr9.out.cell (j := 2) rfl
  have zr3_10 := Xr9.out.cell (j := 3) rfl
  have zr4_10 := Xr9.out.cell (j := 4) rfl
  have zr5_10 := Xr9.out.cell (j := 5) rfl
  have yr0_10 := Xr9.out.thaw 0
  have yr1_10 := Xr9.out.thaw 1
  have yr2_10 := Xr9.out.thaw 2
  have yr3_10 := Xr9.out.thaw 3
  have yr4_10 := Xr9.out.thaw 4
  have yr5_10 := Xr9.out.thaw 5
  have zx0_10 := Xx9.out.cell (j := 0) rfl
  have zx1_10 := Xx9.out.cell (j := 1) rfl
  have zx2_10 := Xx9.out.cell (j := 2) rfl
  have zx3_10 := Xx9.out.cell (j := 3) rfl
  have zx4_10 := Xx9.out.cell (j := 4) rfl
  have zx5_10 := Xx9.out.cell (j := 5) rfl
  have yx0_10 := Xx9.out.thaw 0
  have yx1_10 := Xx9.out.thaw 1
  have yx2_10 := Xx9.out.thaw 2
  have yx3_10 := Xx9.out.thaw 3
  have yx4_10 := Xx9.out.thaw 4
  have yx5_10 := Xx9.out.thaw 5
  have zs0_10 := Xs9.out.cell (j := 0) rfl
  have zs1_10 := Xs9.out.cell (j := 1) rfl
  have zs2_10 := Xs9.out.cell (j := 2) rfl
  have ys0_10 := Xs9.out.thaw 0
  have ys1_10 := Xs9.out.thaw 1
  have ys2_10 := Xs9.out.thaw 2
  go_wp2_with fail
  refine Calls.mono (l01Once_any C 4 (by omega) (by omega) _ K9.out) ?_
  rintro e w3 ⟨b3, rfl, k3, q3⟩
  have K11 := hid (k3)
  have G11 := hid (G9.out.trans q3)
  have Xg11 := hid (Xg9.out.cur q3 hgC.out)
  have Xq11 := hid (Xq9.out.cur q3 hsC.out)
  have Xk11 := hid (Xk9.out.cur q3 Nk.out)
  have Xr11 := hid (Xr9.out.cur q3 Nr.out)
  have Xx11 := hid (Xx9.out.cur q3 Nx.out)
  have Xs11 := hid (Xs9.out.cur q3 Ns.out)
  clear k3 q3 K9 G9 zg0_10 zg1_10 zg2_10 zq0_10 zq1_10 zq2_10 zk0_10 zk1_10 yk0_10 yk1_10 zr0_10 zr1_10 zr2_10 zr3_10 zr4_10 zr5_10 yr0_10 yr1_10 yr2_10 yr3_10 yr4_10 yr5_10 zx0_10 zx1_10 zx2_10 zx3_10 zx4_10 zx5_10 yx0_10 yx1_10 yx2_10 yx3_10 yx4_10 yx5_10 zs0_10 zs1_10 zs2_10 ys0_10 ys1_10 ys2_10 zg0_8 zg1_8 zg2_8 zq0_8 zq1_8 zq2_8 zk0_8 zk1_8 yk0_8 yk1_8 zr0_8 zr1_8 zr2_8 zr3_8 zr4_8 zr5_8 yr0_8 yr1_8 yr2_8 yr3_8 yr4_8 yr5_8 zx0_8 zx1_8 zx2_8 zx3_8 zx4_8 zx5_8 yx0_8 yx1_8 yx2_8 yx3_8 yx4_8 yx5_8 Xg9 Xq9 Xk9 Xr9 Xx9 Xs9
  have zg0_12 := Xg11.out.cell (j := 0) rfl
  have zg1_12 := Xg11.out.cell (j := 1) rfl
  have zg2_12 := Xg11.out.cell (j := 2) rfl
  have zq0_12 := Xq11.out.cell (j := 0) rfl
  have zq1_12 := Xq11.out.cell (j := 1) rfl
  have zq2_12 := Xq11.out.cell (j := 2) rfl
  have zk0_12 := Xk11.out.cell (j := 0) rfl
  have zk1_12 := Xk11.out.cell (j := 1) rfl
  have yk0_12 := Xk11.out.thaw 0
  have yk1_12 := Xk11.out.thaw 1
  have zr0_12 := Xr11.out.cell (j := 0) rfl
  have zr1_12 := Xr11.out.cell (j := 1) rfl
  have zr2_12 := Xr11.out.cell (j := 2) rfl
  have zr3_12 := Xr11.out.cell (j := 3) rfl
  have zr4_12 := Xr11.out.cell (j := 4) rfl
  have zr5_12 := Xr11.out.cell (j := 5) rfl
  have yr0_12 := Xr11.out.thaw 0
  have yr1_12 := Xr11.out.thaw 1
  have yr2_12 := Xr11.out.thaw 2
  have yr3_12 := Xr11.out.thaw 3
  have yr4_12 := Xr11.out.thaw 4
  have yr5_12 := Xr11.out.thaw 5
  have zx0_12 := Xx11.out.cell (j := 0) rfl
  have zx1_12 := Xx11.out.cell (j := 1) rfl
  have zx2_12 := Xx11.out.cell (j := 2) rfl
  have zx3_12 := Xx11.out.cell (j := 3) rfl
  have zx4_12 := Xx11.out.cell (j := 4) rfl
  have zx5_12 := Xx11.out.cell (j := 5) rfl
  have yx0_12 := Xx11.out.thaw 0
  have yx1_12 := Xx11.out.thaw 1
  have yx2_12 := Xx11.out.thaw 2
  have yx3_12 := Xx11.out.thaw 3
  have yx4_12 := Xx11.out.thaw 4
  have yx5_12 := Xx11.out.thaw 5
  have zs0_12 := Xs11.out.cell (j := 0) rfl
  have zs1_12 := Xs11.out.cell (j := 1) rfl
  have zs2_12 := Xs11.out.cell (j := 2) rfl
  have ys0_12 := Xs11.out.thaw 0
  have ys1_12 := Xs11.out.thaw 1
  have ys2_12 := Xs11.out.thaw 2
  cases b3 with
  | false =>
    have K13 := hid (K11.out.set (b := w2.heap.size) (j := 1) (v := (.int .i64 tk)) Nx.out)
    have G13 := hid (grown_far (b := w2.heap.size) (j := 1) (v := (.int .i64 tk)) G11.out Mx.out)
    have Xg13 := hid (Xg11.out.far (b := w2.heap.size) (j := 1) (by have := Agx.out; omega) (.int .i64 tk))
    have Xq13 := hid (Xq11.out.far (b := w2.heap.size) (j := 1) (by have := Aqx.out; omega) (.int .i64 tk))
    have Xk13 := hid (Xk11.out.far (b := w2.heap.size) (j := 1) (by have := Akx.out; omega) (.int .i64 tk))
    have Xr13 := hid (Xr11.out.far (b := w2.heap.size) (j := 1) (by have := Arx.out; omega) (.int .i64 tk))
    have Xx13 : Hid (BlockIs (w3.setCell ⟨w2.heap.size, 1, none⟩ (.int .i64 tk)) (w2.heap.size) 53 [.int .i64 op, .int .i64 tk, .int .i64 seq, .string key, .string val, .int .i64 ver]) := Xx11.out.set 1 (.int .i64 tk)
    have Xs13 := hid (Xs11.out.far (b := w2.heap.size) (j := 1) (by have := Axs.out; omega) (.int .i64 tk))
    clear K11 G11 Xg11 Xq11 Xk11 Xr11 Xx11 Xs11
    have zg0_14 := Xg13.out.cell (j := 0) rfl
    have zg1_14 := Xg13.out.cell (j := 1) rfl
    have zg2_14 := Xg13.out.cell (j := 2) rfl
    have zq0_14 := Xq13.out.cell (j := 0) rfl
    have zq1_14 := Xq13.out.cell (j := 1) rfl
    have zq2_14 := Xq13.out.cell (j := 2) rfl
    have zk0_14 := Xk13.out.cell (j := 0) rfl
    have zk1_14 := Xk13.out.cell (j := 1) rfl
    have yk0_14 := Xk13.out.thaw 0
    have yk1_14 := Xk13.out.thaw 1
    have zr0_14 := Xr13.out.cell (j := 0) rfl
    have zr1_14 := Xr13.out.cell (j := 1) rfl
    have zr2_14 := Xr13.out.cell (j := 2) rfl
    have zr3_14 := Xr13.out.cell (j := 3) rfl
    have zr4_14 := Xr13.out.cell (j := 4) rfl
    have zr5_14 := Xr13.out.cell (j := 5) rfl
    have yr0_14 := Xr13.out.thaw 0
    have yr1_14 := Xr13.out.thaw 1
    have yr2_14 := Xr13.out.thaw 2
    have yr3_14 := Xr13.out.thaw 3
    have yr4_14 := Xr13.out.thaw 4
    have yr5_14 := Xr13.out.thaw 5
    have zx0_14 := Xx13.out.cell (j := 0) rfl
    have zx1_14 := Xx13.out.cell (j := 1) rfl
    have zx2_14 := Xx13.out.cell (j := 2) rfl
    have zx3_14 := Xx13.out.cell (j := 3) rfl
    have zx4_14 := Xx13.out.cell (j := 4) rfl
    have zx5_14 := Xx13.out.cell (j := 5) rfl
    have yx0_14 := Xx13.out.thaw 0
    have yx1_14 := Xx13.out.thaw 1
    have yx2_14 := Xx13.out.thaw 2
    have yx3_14 := Xx13.out.thaw 3
    have yx4_14 := Xx13.out.thaw 4
    have yx5_14 := Xx13.out.thaw 5
    have zs0_14 := Xs13.out.cell (j := 0) rfl
    have zs1_14 := Xs13.out.cell (j := 1) rfl
    have zs2_14 := Xs13.out.cell (j := 2) rfl
    have ys0_14 := Xs13.out.thaw 0
    have ys1_14 := Xs13.out.thaw 1
    have ys2_14 := Xs13.out.thaw 2
    have K15 := hid (K13.out.set (b := w2.heap.size) (j := 2) (v := (.int .i64 (la + 1))) Nx.out)
    have G15 := hid (grown_far (b := w2.heap.size) (j := 2) (v := (.int .i64 (la + 1))) G13.out Mx.out)
    have Xg15 := hid (Xg13.out.far (b := w2.heap.size) (j := 2) (by have := Agx.out; omega) (.int .i64 (la + 1)))
    have Xq15 := hid (Xq13.out.far (b := w2.heap.size) (j := 2) (by have := Aqx.out; omega) (.int .i64 (la + 1)))
    have Xk15 := hid (Xk13.out.far (b := w2.heap.size) (j := 2) (by have := Akx.out; omega) (.int .i64 (la + 1)))
    have Xr15 := hid (Xr13.out.far (b := w2.heap.size) (j := 2) (by have := Arx.out; omega) (.int .i64 (la + 1)))
    have Xx15 : Hid (BlockIs ((w3.setCell ⟨w2.heap.size, 1, none⟩ (.int .i64 tk)).setCell ⟨w2.heap.size, 2, none⟩ (.int .i64 (la + 1))) (w2.heap.size) 53 [.int .i64 op, .int .i64 tk, .int .i64 (la + 1), .string key, .string val, .int .i64 ver]) := Xx13.out.set 2 (.int .i64 (la + 1))
    have Xs15 := hid (Xs13.out.far (b := w2.heap.size) (j := 2) (by have := Axs.out; omega) (.int .i64 (la + 1)))
    clear K13 G13 Xg13 Xq13 Xk13 Xr13 Xx13 Xs13
    have zg0_16 := Xg15.out.cell (j := 0) rfl
    have zg1_16 := Xg15.out.cell (j := 1) rfl
    have zg2_16 := Xg15.out.cell (j := 2) rfl
    have zq0_16 := Xq15.out.cell (j := 0) rfl
    have zq1_16 := Xq15.out.cell (j := 1) rfl
    have zq2_16 := Xq15.out.cell (j := 2) rfl
    have zk0_16 := Xk15.out.cell (j := 0) rfl
    have zk1_16 := Xk15.out.cell (j := 1) rfl
    have yk0_16 := Xk15.out.thaw 0
    have yk1_16 := Xk15.out.thaw 1
    have zr0_16 := Xr15.out.cell (j := 0) rfl
    have zr1_16 := Xr15.out.cell (j := 1) rfl
    have zr2_16 := Xr15.out.cell (j := 2) rfl
    have zr3_16 := Xr15.out.cell (j := 3) rfl
    have zr4_16 := Xr15.out.cell (j := 4) rfl
    have zr5_16 := Xr15.out.cell (j := 5) rfl
    have yr0_16 := Xr15.out.thaw 0
    have yr1_16 := Xr15.out.thaw 1
    have yr2_16 := Xr15.out.thaw 2
    have yr3_16 := Xr15.out.thaw 3
    have yr4_16 := Xr15.out.thaw 4
    have yr5_16 := Xr15.out.thaw 5
    have zx0_16 := Xx15.out.cell (j := 0) rfl
    have zx1_16 := Xx15.out.cell (j := 1) rfl
    have zx2_16 := Xx15.out.cell (j := 2) rfl
    have zx3_16 := Xx15.out.cell (j := 3) rfl
    have zx4_16 := Xx15.out.cell (j := 4) rfl
    have zx5_16 := Xx15.out.cell (j := 5) rfl
    have yx0_16 := Xx15.out.thaw 0
    have yx1_16 := Xx15.out.thaw 1
    have yx2_16 := Xx15.out.thaw 2
    have yx3_16 := Xx15.out.thaw 3
    have yx4_16 := Xx15.out.thaw 4
    have yx5_16 := Xx15.out.thaw 5
    have zs0_16 := Xs15.out.cell (j := 0) rfl
    have zs1_16 := Xs15.out.cell (j := 1) rfl
    have zs2_16 := Xs15.out.cell (j := 2) rfl
    have ys0_16 := Xs15.out.thaw 0
    have ys1_16 := Xs15.out.thaw 1
    have ys2_16 := Xs15.out.thaw 2
    go_wp2_with fail
    refine Calls.mono (l01Below_any C 16 (by omega) (by omega) _ K15.out) ?_
    rintro e w4 ⟨y4, rfl, hy4, hz4, k4, q4⟩
    have K17 := hid (k4)
    have G17 := hid (G15.out.trans q4)
    have Xg17 := hid (Xg15.out.cur q4 hgC.out)
    have Xq17 := hid (Xq15.out.cur q4 hsC.out)
    have Xk17 := hid (Xk15.out.cur q4 Nk.out)
    have Xr17 := hid (Xr15.out.cur q4 Nr.out)
    have Xx17 := hid (Xx15.out.cur q4 Nx.out)
    have Xs17 := hid (Xs15.out.cur q4 Ns.out)
    clear k4 q4 K15 G15 zg0_16 zg1_16 zg2_16 zq0_16 zq1_16 zq2_16 zk0_16 zk1_16 yk0_16 yk1_16 zr0_16 zr1_16 zr2_16 zr3_16 zr4_16 zr5_16 yr0_16 yr1_16 yr2_16 yr3_16 yr4_16 yr5_16 zx0_16 zx1_16 zx2_16 zx3_16 zx4_16 zx5_16 yx0_16 yx1_16 yx2_16 yx3_16 yx4_16 yx5_16 zs0_16 zs1_16 zs2_16 ys0_16 ys1_16 ys2_16 zg0_14 zg1_14 zg2_14 zq0_14 zq1_14 zq2_14 zk0_14 zk1_14 yk0_14 yk1_14 zr0_14 zr1_14 zr2_14 zr3_14 zr4_14 zr5_14 yr0_14 yr1_14 yr2_14 yr3_14 yr4_14 yr5_14 zx0_14 zx1_14 zx2_14 zx3_14 zx4_14 zx5_14 yx0_14 yx1_14 yx2_14 yx3_14 yx4_14 yx5_14 zs0_14 zs1_14 zs2_14 ys0_14 ys1_14 ys2_14 zg0_12 zg1_12 zg2_12 zq0_12 zq1_12 zq2_12 zk0_12 zk1_12 yk0_12 yk1_12 zr0_12 zr1_12 zr2_12 zr3_12 zr4_12 zr5_12 yr0_12 yr1_12 yr2_12 yr3_12 yr4_12 yr5_12 zx0_12 zx1_12 zx2_12 zx3_12 zx4_12 zx5_12 yx0_12 yx1_12 yx2_12 yx3_12 yx4_12 yx5_12 zs0_12 zs1_12 zs2_12 ys0_12 ys1_12 ys2_12 Xg15 Xq15 Xk15 Xr15 Xx15 Xs15
    have zg0_18 := Xg17.out.cell (j := 0) rfl
    have zg1_18 := Xg17.out.cell (j := 1) rfl
    have zg2_18 := Xg17.out.cell (j := 2) rfl
    have zq0_18 := Xq17.out.cell (j := 0) rfl
    have zq1_18 := Xq17.out.cell (j := 1) rfl
    have zq2_18 := Xq17.out.cell (j := 2) rfl
    have zk0_18 := Xk17.out.cell (j := 0) rfl
    have zk1_18 := Xk17.out.cell (j := 1) rfl
    have yk0_18 := Xk17.out.thaw 0
    have yk1_18 := Xk17.out.thaw 1
    have zr0_18 := Xr17.out.cell (j := 0) rfl
    have zr1_18 := Xr17.out.cell (j := 1) rfl
    have zr2_18 := Xr17.out.cell (j := 2) rfl
    have zr3_18 := Xr17.out.cell (j := 3) rfl
    have zr4_18 := Xr17.out.cell (j := 4) rfl
    have zr5_18 := Xr17.out.cell (j := 5) rfl
    have yr0_18 := Xr17.out.thaw 0
    have yr1_18 := Xr17.out.thaw 1
    have yr2_18 := Xr17.out.thaw 2
    have yr3_18 := Xr17.out.thaw 3
    have yr4_18 := Xr17.out.thaw 4
    have yr5_18 := Xr17.out.thaw 5
    have zx0_18 := Xx17.out.cell (j := 0) rfl
    have zx1_18 := Xx17.out.cell (j := 1) rfl
    have zx2_18 := Xx17.out.cell (j := 2) rfl
    have zx3_18 := Xx17.out.cell (j := 3) rfl
    have zx4_18 := Xx17.out.cell (j := 4) rfl
    have zx5_18 := Xx17.out.cell (j := 5) rfl
    have yx0_18 := Xx17.out.thaw 0
    have yx1_18 := Xx17.out.thaw 1
    have yx2_18 := Xx17.out.thaw 2
    have yx3_18 := Xx17.out.thaw 3
    have yx4_18 := Xx17.out.thaw 4
    have yx5_18 := Xx17.out.thaw 5
    have zs0_18 := Xs17.out.cell (j := 0) rfl
    have zs1_18 := Xs17.out.cell (j := 1) rfl
    have zs2_18 := Xs17.out.cell (j := 2) rfl
    have ys0_18 := Xs17.out.thaw 0
    have ys1_18 := Xs17.out.thaw 1
    have ys2_18 := Xs17.out.thaw 2
    by_cases y0 : y4 = 0
    · subst y0
      have K19 := hid (K17.out.set (b := w2.heap.size) (j := 2) (v := (.int .i64 la)) Nx.out)
      have G19 := hid (grown_far (b := w2.heap.size) (j := 2) (v := (.int .i64 la)) G17.out Mx.out)
      have Xg19 := hid (Xg17.out.far (b := w2.heap.size) (j := 2) (by have := Agx.out; omega) (.int .i64 la))
      have Xq19 := hid (Xq17.out.far (b := w2.heap.size) (j := 2) (by have := Aqx.out; omega) (.int .i64 la))
      have Xk19 := hid (Xk17.out.far (b := w2.heap.size) (j := 2) (by have := Akx.out; omega) (.int .i64 la))
      have Xr19 := hid (Xr17.out.far (b := w2.heap.size) (j := 2) (by have := Arx.out; omega) (.int .i64 la))
      have Xx19 : Hid (BlockIs (w4.setCell ⟨w2.heap.size, 2, none⟩ (.int .i64 la)) (w2.heap.size) 53 [.int .i64 op, .int .i64 tk, .int .i64 la, .string key, .string val, .int .i64 ver]) := Xx17.out.set 2 (.int .i64 la)
      have Xs19 := hid (Xs17.out.far (b := w2.heap.size) (j := 2) (by have := Axs.out; omega) (.int .i64 la))
      clear K17 G17 Xg17 Xq17 Xk17 Xr17 Xx17 Xs17
      have zg0_20 := Xg19.out.cell (j := 0) rfl
      have zg1_20 := Xg19.out.cell (j := 1) rfl
      have zg2_20 := Xg19.out.cell (j := 2) rfl
      have zq0_20 := Xq19.out.cell (j := 0) rfl
      have zq1_20 := Xq19.out.cell (j := 1) rfl
      have zq2_20 := Xq19.out.cell (j := 2) rfl
      have zk0_20 := Xk19.out.cell (j := 0) rfl
      have zk1_20 := Xk19.out.cell (j := 1) rfl
      have yk0_20 := Xk19.out.thaw 0
      have yk1_20 := Xk19.out.thaw 1
      have zr0_20 := Xr19.out.cell (j := 0) rfl
      have zr1_20 := Xr19.out.cell (j := 1) rfl
      have zr2_20 := Xr19.out.cell (j := 2) rfl
      have zr3_20 := Xr19.out.cell (j := 3) rfl
      have zr4_20 := Xr19.out.cell (j := 4) rfl
      have zr5_20 := Xr19.out.cell (j := 5) rfl
      have yr0_20 := Xr19.out.thaw 0
      have yr1_20 := Xr19.out.thaw 1
      have yr2_20 := Xr19.out.thaw 2
      have yr3_20 := Xr19.out.thaw 3
      have yr4_20 := Xr19.out.thaw 4
      have yr5_20 := Xr19.out.thaw 5
      have zx0_20 := Xx19.out.cell (j := 0) rfl
      have zx1_20 := Xx19.out.cell (j := 1) rfl
      have zx2_20 := Xx19.out.cell (j := 2) rfl
      have zx3_20 := Xx19.out.cell (j := 3) rfl
      have zx4_20 := Xx19.out.cell (j := 4) rfl
      have zx5_20 := Xx19.out.cell (j := 5) rfl
      have yx0_20 := Xx19.out.thaw 0
      have yx1_20 := Xx19.out.thaw 1
      have yx2_20 := Xx19.out.thaw 2
      have yx3_20 := Xx19.out.thaw 3
      have yx4_20 := Xx19.out.thaw 4
      have yx5_20 := Xx19.out.thaw 5
      have zs0_20 := Xs19.out.cell (j := 0) rfl
      have zs1_20 := Xs19.out.cell (j := 1) rfl
      have zs2_20 := Xs19.out.cell (j := 2) rfl
      have ys0_20 := Xs19.out.thaw 0
      have ys1_20 := Xs19.out.thaw 1
      have ys2_20 := Xs19.out.thaw 2
      have KL := hid ((((((K19.out.set (b := w.heap.size + 1) (j := 0) (v := .int .i64 op) Nr.out).set (b := w.heap.size + 1) (j := 1) (v := .int .i64 tk) Nr.out).set (b := w.heap.size + 1) (j := 2) (v := .int .i64 la) Nr.out).set (b := w.heap.size + 1) (j := 3) (v := .string key) Nr.out).set (b := w.heap.size + 1) (j := 4) (v := .string val) Nr.out).set (b := w.heap.size + 1) (j := 5) (v := .int .i64 ver) Nr.out)
      have GL := hid (grown_far (b := w.heap.size + 1) (j := 5) (v := .int .i64 ver) (grown_far (b := w.heap.size + 1) (j := 4) (v := .string val) (grown_far (b := w.heap.size + 1) (j := 3) (v := .string key) (grown_far (b := w.heap.size + 1) (j := 2) (v := .int .i64 la) (grown_far (b := w.heap.size + 1) (j := 1) (v := .int .i64 tk) (grown_far (b := w.heap.size + 1) (j := 0) (v := .int .i64 op) G19.out Mr.out) Mr.out) Mr.out) Mr.out) Mr.out) Mr.out)
      go_wp2
      refine bodyPost_ret (v := .agg #[.int .i64 op, .int .i64 tk, .int .i64 la, .string key, .string val, .int .i64 ver]) (by simp [results, Tryz.results23, go_sem, zr0_20, zr1_20, zr2_20, zr3_20, zr4_20, zr5_20]) rfl ?_
      exact ⟨⟨op, tk, la, key, val, ver⟩, rfl, KL.out, GL.out⟩
    by_cases y1 : y4 = 1
    · subst y1
      clear y0
      go_wp2_with fail
      refine Calls.mono (l01Below_any C 4 (by omega) (by omega) _ K17.out) ?_
      rintro e w5 ⟨m5, rfl, hy5, hz5, k5, q5⟩
      have K19 := hid (k5)
      have G19 := hid (G17.out.trans q5)
      have Xg19 := hid (Xg17.out.cur q5 hgC.out)
      have Xq19 := hid (Xq17.out.cur q5 hsC.out)
      have Xk19 := hid (Xk17.out.cur q5 Nk.out)
      have Xr19 := hid (Xr17.out.cur q5 Nr.out)
      have Xx19 := hid (Xx17.out.cur q5 Nx.out)
      have Xs19 := hid (Xs17.out.cur q5 Ns.out)
      clear k5 q5 K17 G17 zg0_18 zg1_18 zg2_18 zq0_18 zq1_18 zq2_18 zk0_18 zk1_18 yk0_18 yk1_18 zr0_18 zr1_18 zr2_18 zr3_18 zr4_18 zr5_18 yr0_18 yr1_18 yr2_18 yr3_18 yr4_18 yr5_18 zx0_18 zx1_18 zx2_18 zx3_18 zx4_18 zx5_18 yx0_18 yx1_18 yx2_18 yx3_18 yx4_18 yx5_18 zs0_18 zs1_18 zs2_18 ys0_18 ys1_18 ys2_18 Xg17 Xq17 Xk17 Xr17 Xx17 Xs17
      have zg0_20 := Xg19.out.cell (j := 0) rfl
      have zg1_20 := Xg19.out.cell (j := 1) rfl
      have zg2_20 := Xg19.out.cell (j := 2) rfl
      have zq0_20 := Xq19.out.cell (j := 0) rfl
      have zq1_20 := Xq19.out.cell (j := 1) rfl
      have zq2_20 := Xq19.out.cell (j := 2) rfl
      have zk0_20 := Xk19.out.cell (j := 0) rfl
      have zk1_20 := Xk19.out.cell (j := 1) rfl
      have yk0_20 := Xk19.out.thaw 0
      have yk1_20 := Xk19.out.thaw 1
      have zr0_20 := Xr19.out.cell (j := 0) rfl
      have zr1_20 := Xr19.out.cell (j := 1) rfl
      have zr2_20 := Xr19.out.cell (j := 2) rfl
      have zr3_20 := Xr19.out.cell (j := 3) rfl
      have zr4_20 := Xr19.out.cell (j := 4) rfl
      have zr5_20 := Xr19.out.cell (j := 5) rfl
      have yr0_20 := Xr19.out.thaw 0
      have yr1_20 := Xr19.out.thaw 1
      have yr2_20 := Xr19.out.thaw 2
      have yr3_20 := Xr19.out.thaw 3
      have yr4_20 := Xr19.out.thaw 4
      have yr5_20 := Xr19.out.thaw 5
      have zx0_20 := Xx19.out.cell (j := 0) rfl
      have zx1_20 := Xx19.out.cell (j := 1) rfl
      have zx2_20 := Xx19.out.cell (j := 2) rfl
      have zx3_20 := Xx19.out.cell (j := 3) rfl
      have zx4_20 := Xx19.out.cell (j := 4) rfl
      have zx5_20 := Xx19.out.cell (j := 5) rfl
      have yx0_20 := Xx19.out.thaw 0
      have yx1_20 := Xx19.out.thaw 1
      have yx2_20 := Xx19.out.thaw 2
      have yx3_20 := Xx19.out.thaw 3
      have yx4_20 := Xx19.out.thaw 4
      have yx5_20 := Xx19.out.thaw 5
      have zs0_20 := Xs19.out.cell (j := 0) rfl
      have zs1_20 := Xs19.out.cell (j := 1) rfl
      have zs2_20 := Xs19.out.cell (j := 2) rfl
      have ys0_20 := Xs19.out.thaw 0
      have ys1_20 := Xs19.out.thaw 1
      have ys2_20 := Xs19.out.thaw 2
      have K21 := hid (K19.out.set (b := w2.heap.size) (j := 2) (v := (.int .i64 m5)) Nx.out)
      have G21 := hid (grown_far (b := w2.heap.size) (j := 2) (v := (.int .i64 m5)) G19.out Mx.out)
      have Xg21 := hid (Xg19.out.far (b := w2.heap.size) (j := 2) (by have := Agx.out; omega) (.int .i64 m5))
      have Xq21 := hid (Xq19.out.far (b := w2.heap.size) (j := 2) (by have := Aqx.out; omega) (.int .i64 m5))
      have Xk21 := hid (Xk19.out.far (b := w2.heap.size) (j := 2) (by have := Akx.out; omega) (.int .i64 m5))
      have Xr21 := hid (Xr19.out.far (b := w2.heap.size) (j := 2) (by have := Arx.out; omega) (.int .i64 m5))
      have Xx21 : Hid (BlockIs (w5.setCell ⟨w2.heap.size, 2, none⟩ (.int .i64 m5)) (w2.heap.size) 53 [.int .i64 op, .int .i64 tk, .int .i64 m5, .string key, .string val, .int .i64 ver]) := Xx19.out.set 2 (.int .i64 m5)
      have Xs21 := hid (Xs19.out.far (b := w2.heap.size) (j := 2) (by have := Axs.out; omega) (.int .i64 m5))
      clear K19 G19 Xg19 Xq19 Xk19 Xr19 Xx19 Xs19
      have zg0_22 := Xg21.out.cell (j := 0) rfl
      have zg1_22 := Xg21.out.cell (j := 1) rfl
      have zg2_22 := Xg21.out.cell (j := 2) rfl
      have zq0_22 := Xq21.out.cell (j := 0) rfl
      have zq1_22 := Xq21.out.cell (j := 1) rfl
      have zq2_22 := Xq21.out.cell (j := 2) rfl
      have zk0_22 := Xk21.out.cell (j := 0) rfl
      have zk1_22 := Xk21.out.cell (j := 1) rfl
      have yk0_22 := Xk21.out.thaw 0
      have yk1_22 := Xk21.out.thaw 1
      have zr0_22 := Xr21.out.cell (j := 0) rfl
      have zr1_22 := Xr21.out.cell (j := 1) rfl
      have zr2_22 := Xr21.out.cell (j := 2) rfl
      have zr3_22 := Xr21.out.cell (j := 3) rfl
      have zr4_22 := Xr21.out.cell (j := 4) rfl
      have zr5_22 := Xr21.out.cell (j := 5) rfl
      have yr0_22 := Xr21.out.thaw 0
      have yr1_22 := Xr21.out.thaw 1
      have yr2_22 := Xr21.out.thaw 2
      have yr3_22 := Xr21.out.thaw 3
      have yr4_22 := Xr21.out.thaw 4
      have yr5_22 := Xr21.out.thaw 5
      have zx0_22 := Xx21.out.cell (j := 0) rfl
      have zx1_22 := Xx21.out.cell (j := 1) rfl
      have zx2_22 := Xx21.out.cell (j := 2) rfl
      have zx3_22 := Xx21.out.cell (j := 3) rfl
      have zx4_22 := Xx21.out.cell (j := 4) rfl
      have zx5_22 := Xx21.out.cell (j := 5) rfl
      have yx0_22 := Xx21.out.thaw 0
      have yx1_22 := Xx21.out.thaw 1
      have yx2_22 := Xx21.out.thaw 2
      have yx3_22 := Xx21.out.thaw 3
      have yx4_22 := Xx21.out.thaw 4
      have yx5_22 := Xx21.out.thaw 5
      have zs0_22 := Xs21.out.cell (j := 0) rfl
      have zs1_22 := Xs21.out.cell (j := 1) rfl
      have zs2_22 := Xs21.out.cell (j := 2) rfl
      have ys0_22 := Xs21.out.thaw 0
      have ys1_22 := Xs21.out.thaw 1
      have ys2_22 := Xs21.out.thaw 2
      have KL := hid ((((((K21.out.set (b := w.heap.size + 1) (j := 0) (v := .int .i64 op) Nr.out).set (b := w.heap.size + 1) (j := 1) (v := .int .i64 tk) Nr.out).set (b := w.heap.size + 1) (j := 2) (v := .int .i64 m5) Nr.out).set (b := w.heap.size + 1) (j := 3) (v := .string key) Nr.out).set (b := w.heap.size + 1) (j := 4) (v := .string val) Nr.out).set (b := w.heap.size + 1) (j := 5) (v := .int .i64 ver) Nr.out)
      have GL := hid (grown_far (b := w.heap.size + 1) (j := 5) (v := .int .i64 ver) (grown_far (b := w.heap.size + 1) (j := 4) (v := .string val) (grown_far (b := w.heap.size + 1) (j := 3) (v := .string key) (grown_far (b := w.heap.size + 1) (j := 2) (v := .int .i64 m5) (grown_far (b := w.heap.size + 1) (j := 1) (v := .int .i64 tk) (grown_far (b := w.heap.size + 1) (j := 0) (v := .int .i64 op) G21.out Mr.out) Mr.out) Mr.out) Mr.out) Mr.out) Mr.out)
      go_wp2
      refine bodyPost_ret (v := .agg #[.int .i64 op, .int .i64 tk, .int .i64 m5, .string key, .string val, .int .i64 ver]) (by simp [results, Tryz.results23, go_sem, zr0_22, zr1_22, zr2_22, zr3_22, zr4_22, zr5_22]) rfl ?_
      exact ⟨⟨op, tk, m5, key, val, ver⟩, rfl, KL.out, GL.out⟩
    by_cases y2 : y4 = 2
    · subst y2
      clear y0 y1
      go_wp2_with fail
      refine Calls.mono (l01Below_any C 9 (by omega) (by omega) _ K17.out) ?_
      rintro e w5 ⟨m5, rfl, hy5, hz5, k5, q5⟩
      have K19 := hid (k5)
      have G19 := hid (G17.out.trans q5)
      have Xg19 := hid (Xg17.out.cur q5 hgC.out)
      have Xq19 := hid (Xq17.out.cur q5 hsC.out)
      have Xk19 := hid (Xk17.out.cur q5 Nk.out)
      have Xr19 := hid (Xr17.out.cur q5 Nr.out)
      have Xx19 := hid (Xx17.out.cur q5 Nx.out)
      have Xs19 := hid (Xs17.out.cur q5 Ns.out)
      clear k5 q5 K17 G17 zg0_18 zg1_18 zg2_18 zq0_18 zq1_18 zq2_18 zk0_18 zk1_18 yk0_18 yk1_18 zr0_18 zr1_18 zr2_18 zr3_18 zr4_18 zr5_18 yr0_18 yr1_18 yr2_18 yr3_18 yr4_18 yr5_18 zx0_18 zx1_18 zx2_18 zx3_18 zx4_18 zx5_18 yx0_18 yx1_18 yx2_18 yx3_18 yx4_18 yx5_18 zs0_18 zs1_18 zs2_18 ys0_18 ys1_18 ys2_18 Xg17 Xq17 Xk17 Xr17 Xx17 Xs17
      have zg0_20 := Xg19.out.cell (j := 0) rfl
      have zg1_20 := Xg19.out.cell (j := 1) rfl
      have zg2_20 := Xg19.out.cell (j := 2) rfl
      have zq0_20 := Xq19.out.cell (j := 0) rfl
      have zq1_20 := Xq19.out.cell (j := 1) rfl
      have zq2_20 := Xq19.out.cell (j := 2) rfl
      have zk0_20 := Xk19.out.cell (j := 0) rfl
      have zk1_20 := Xk19.out.cell (j := 1) rfl
      have yk0_20 := Xk19.out.thaw 0
      have yk1_20 := Xk19.out.thaw 1
      have zr0_20 := Xr19.out.cell (j := 0) rfl
      have zr1_20 := Xr19.out.cell (j := 1) rfl
      have zr2_20 := Xr19.out.cell (j := 2) rfl
      have zr3_20 := Xr19.out.cell (j := 3) rfl
      have zr4_20 := Xr19.out.cell (j := 4) rfl
      have zr5_20 := Xr19.out.cell (j := 5) rfl
      have yr0_20 := Xr19.out.thaw 0
      have yr1_20 := Xr19.out.thaw 1
      have yr2_20 := Xr19.out.thaw 2
      have yr3_20 := Xr19.out.thaw 3
      have yr4_20 := Xr19.out.thaw 4
      have yr5_20 := Xr19.out.thaw 5
      have zx0_20 := Xx19.out.cell (j := 0) rfl
      have zx1_20 := Xx19.out.cell (j := 1) rfl
      have zx2_20 := Xx19.out.cell (j := 2) rfl
      have zx3_20 := Xx19.out.cell (j := 3) rfl
      have zx4_20 := Xx19.out.cell (j := 4) rfl
      have zx5_20 := Xx19.out.cell (j := 5) rfl
      have yx0_20 := Xx19.out.thaw 0
      have yx1_20 := Xx19.out.thaw 1
      have yx2_20 := Xx19.out.thaw 2
      have yx3_20 := Xx19.out.thaw 3
      have yx4_20 := Xx19.out.thaw 4
      have yx5_20 := Xx19.out.thaw 5
      have zs0_20 := Xs19.out.cell (j := 0) rfl
      have zs1_20 := Xs19.out.cell (j := 1) rfl
      have zs2_20 := Xs19.out.cell (j := 2) rfl
      have ys0_20 := Xs19.out.thaw 0
      have ys1_20 := Xs19.out.thaw 1
      have ys2_20 := Xs19.out.thaw 2
      have K21 := hid (K19.out.set (b := w2.heap.size) (j := 1) (v := (.int .i64 m5)) Nx.out)
      have G21 := hid (grown_far (b := w2.heap.size) (j := 1) (v := (.int .i64 m5)) G19.out Mx.out)
      have Xg21 := hid (Xg19.out.far (b := w2.heap.size) (j := 1) (by have := Agx.out; omega) (.int .i64 m5))
      have Xq21 := hid (Xq19.out.far (b := w2.heap.size) (j := 1) (by have := Aqx.out; omega) (.int .i64 m5))
      have Xk21 := hid (Xk19.out.far (b := w2.heap.size) (j := 1) (by have := Akx.out; omega) (.int .i64 m5))
      have Xr21 := hid (Xr19.out.far (b := w2.heap.size) (j := 1) (by have := Arx.out; omega) (.int .i64 m5))
      have Xx21 : Hid (BlockIs (w5.setCell ⟨w2.heap.size, 1, none⟩ (.int .i64 m5)) (w2.heap.size) 53 [.int .i64 op, .int .i64 m5, .int .i64 (la + 1), .string key, .string val, .int .i64 ver]) := Xx19.out.set 1 (.int .i64 m5)
      have Xs21 := hid (Xs19.out.far (b := w2.heap.size) (j := 1) (by have := Axs.out; omega) (.int .i64 m5))
      clear K19 G19 Xg19 Xq19 Xk19 Xr19 Xx19 Xs19
      have zg0_22 := Xg21.out.cell (j := 0) rfl
      have zg1_22 := Xg21.out.cell (j := 1) rfl
      have zg2_22 := Xg21.out.cell (j := 2) rfl
      have zq0_22 := Xq21.out.cell (j := 0) rfl
      have zq1_22 := Xq21.out.cell (j := 1) rfl
      have zq2_22 := Xq21.out.cell (j := 2) rfl
      have zk0_22 := Xk21.out.cell (j := 0) rfl
      have zk1_22 := Xk21.out.cell (j := 1) rfl
      have yk0_22 := Xk21.out.thaw 0
      have yk1_22 := Xk21.out.thaw 1
      have zr0_22 := Xr21.out.cell (j := 0) rfl
      have zr1_22 := Xr21.out.cell (j := 1) rfl
      have zr2_22 := Xr21.out.cell (j := 2) rfl
      have zr3_22 := Xr21.out.cell (j := 3) rfl
      have zr4_22 := Xr21.out.cell (j := 4) rfl
      have zr5_22 := Xr21.out.cell (j := 5) rfl
      have yr0_22 := Xr21.out.thaw 0
      have yr1_22 := Xr21.out.thaw 1
      have yr2_22 := Xr21.out.thaw 2
      have yr3_22 := Xr21.out.thaw 3
      have yr4_22 := Xr21.out.thaw 4
      have yr5_22 := Xr21.out.thaw 5
      have zx0_22 := Xx21.out.cell (j := 0) rfl
      have zx1_22 := Xx21.out.cell (j := 1) rfl
      have zx2_22 := Xx21.out.cell (j := 2) rfl
      have zx3_22 := Xx21.out.cell (j := 3) rfl
      have zx4_22 := Xx21.out.cell (j := 4) rfl
      have zx5_22 := Xx21.out.cell (j := 5) rfl
      have yx0_22 := Xx21.out.thaw 0
      have yx1_22 := Xx21.out.thaw 1
      have yx2_22 := Xx21.out.thaw 2
      have yx3_22 := Xx21.out.thaw 3
      have yx4_22 := Xx21.out.thaw 4
      have yx5_22 := Xx21.out.thaw 5
      have zs0_22 := Xs21.out.cell (j := 0) rfl
      have zs1_22 := Xs21.out.cell (j := 1) rfl
      have zs2_22 := Xs21.out.cell (j := 2) rfl
      have ys0_22 := Xs21.out.thaw 0
      have ys1_22 := Xs21.out.thaw 1
      have ys2_22 := Xs21.out.thaw 2
      have KL := hid ((((((K21.out.set (b := w.heap.size + 1) (j := 0) (v := .int .i64 op) Nr.out).set (b := w.heap.size + 1) (j := 1) (v := .int .i64 m5) Nr.out).set (b := w.heap.size + 1) (j := 2) (v := .int .i64 (la + 1)) Nr.out).set (b := w.heap.size + 1) (j := 3) (v := .string key) Nr.out).set (b := w.heap.size + 1) (j := 4) (v := .string val) Nr.out).set (b := w.heap.size + 1) (j := 5) (v := .int .i64 ver) Nr.out)
      have GL := hid (grown_far (b := w.heap.size + 1) (j := 5) (v := .int .i64 ver) (grown_far (b := w.heap.size + 1) (j := 4) (v := .string val) (grown_far (b := w.heap.size + 1) (j := 3) (v := .string key) (grown_far (b := w.heap.size + 1) (j := 2) (v := .int .i64 (la + 1)) (grown_far (b := w.heap.size + 1) (j := 1) (v := .int .i64 m5) (grown_far (b := w.heap.size + 1) (j := 0) (v := .int .i64 op) G21.out Mr.out) Mr.out) Mr.out) Mr.out) Mr.out) Mr.out)
      go_wp2
      refine bodyPost_ret (v := .agg #[.int .i64 op, .int .i64 m5, .int .i64 (la + 1), .string key, .string val, .int .i64 ver]) (by simp [results, Tryz.results23, go_sem, zr0_22, zr1_22, zr2_22, zr3_22, zr4_22, zr5_22]) rfl ?_
      exact ⟨⟨op, m5, (la + 1), key, val, ver⟩, rfl, KL.out, GL.out⟩
    have y0' : (y4 == 0) = false := by simpa using y0
    have y1' : (y4 == 1) = false := by simpa using y1
    have y2' : (y4 == 2) = false := by simpa using y2
    have KL := hid ((((((K17.out.set (b := w.heap.size + 1) (j := 0) (v := .int .i64 op) Nr.out).set (b := w.heap.size + 1) (j := 1) (v := .int .i64 tk) Nr.out).set (b := w.heap.size + 1) (j := 2) (v := .int .i64 (la + 1)) Nr.out).set (b := w.heap.size + 1) (j := 3) (v := .string key) Nr.out).set (b := w.heap.size + 1) (j := 4) (v := .string val) Nr.out).set (b := w.heap.size + 1) (j := 5) (v := .int .i64 ver) Nr.out)
    have GL := hid (grown_far (b := w.heap.size + 1) (j := 5) (v := .int .i64 ver) (grown_far (b := w.heap.size + 1) (j := 4) (v := .string val) (grown_far (b := w.heap.size + 1) (j := 3) (v := .string key) (grown_far (b := w.heap.size + 1) (j := 2) (v := .int .i64 (la + 1)) (grown_far (b := w.heap.size + 1) (j := 1) (v := .int .i64 tk) (grown_far (b := w.heap.size + 1) (j := 0) (v := .int .i64 op) G17.out Mr.out) Mr.out) Mr.out) Mr.out) Mr.out) Mr.out)
    go_wp2
    refine bodyPost_ret (v := .agg #[.int .i64 op, .int .i64 tk, .int .i64 (la + 1), .string key, .string val, .int .i64 ver]) (by simp [results, Tryz.results23, go_sem, zr0_18, zr1_18, zr2_18, zr3_18, zr4_18, zr5_18]) rfl ?_
    exact ⟨⟨op, tk, (la + 1), key, val, ver⟩, rfl, KL.out, GL.out⟩
  | true =>
    go_wp2
    refine wp_region_each (N := 63) (by kernel_rfl) (by kernel_rfl) rfl (by kernel_rfl) (fun W => CurAt W C ∧ w.grownBy W (some C) ∧ BlockIs W (g) 68 [.string k0, .string v0, .int .i64 n0] ∧ BlockIs W (gs) 66 [.int .i64 tk, .int .i64 la, .string rp] ∧ BlockIs W (w.heap.size) 27 [.slice (some ⟨gs, 0, none⟩) 1 sc, .slice (some ⟨g, 0, none⟩) 1 c] ∧ BlockIs W (w.heap.size + 1) 53 [.int .i64 0, .int .i64 0, .int .i64 0, .string ⟨#[]⟩, .string ⟨#[]⟩, .int .i64 0] ∧ BlockIs W (w2.heap.size) 53 [.int .i64 op, .int .i64 tok, .int .i64 seq, .string key, .string val, .int .i64 ver] ∧ BlockIs W (w2.heap.size + 1) 66 [.int .i64 tk, .int .i64 la, .string rp]) (fun j v _ _ => match j with | 0 => v = .pointer (some ⟨w.heap.size, 0, none⟩) | 1 => v = .slice (some ⟨gs, 0, none⟩) 1 sc | 2 => v = .pointer (some ⟨C, 0, none⟩) | 3 => v = .pointer (some ⟨w.heap.size, 0, none⟩) | 4 => v = .slice (some ⟨gs, 0, none⟩) 1 sc | 5 => v = .int .i64 1 | 6 => v = .int .i64 0 | 7 => v = .pointer (some ⟨gs, 0, none⟩) | 8 => v = .agg #[.int .i64 tk, .int .i64 la, .string rp] | 9 => True | _ => True) (fun i => i) (fun _ _ => false) (fun _ _ _ => True) (fun _ => 0) (by kernel_rfl) (fun _ _ => rfl) ?_ ⟨K11.out.below (below_drewN (Below.refl _ _) 1), grown_below G11.out (below_drewN (Below.refl _ _) 1), Xg11.out.on (below_drewN (Below.refl _ _) 1) Xg11.out.lt, Xq11.out.on (below_drewN (Below.refl _ _) 1) Xq11.out.lt, Xk11.out.on (below_drewN (Below.refl _ _) 1) Xk11.out.lt, Xr11.out.on (below_drewN (Below.refl _ _) 1) Xr11.out.lt, Xx11.out.on (below_drewN (Below.refl _ _) 1) Xx11.out.lt, Xs11.out.on (below_drewN (Below.refl _ _) 1) Xs11.out.lt⟩ ?_ ?_
    · intro i j v u x y hij hdd hwt hxy hg
      match j, hg with
      | 0, hg => exact hg
      | 1, hg => exact hg
      | 2, hg => exact hg
      | 3, hg => exact hg
      | 4, hg => exact hg
      | 5, hg => exact hg
      | 6, hg => exact hg
      | 7, hg => exact hg
      | 8, hg => exact hg
      | 9, hg => exact hg
      | n + 10, _ => exact trivial
    · refine ⟨?_, ?_, ?_, ?_, ?_, ?_, ?_, ?_, ?_, ?_, trivial⟩
      · intro A W hC hg hb
        have h3 : A.eval (.tmp 3) = .pointer (some ⟨w.heap.size, 0, none⟩) := hb 3 (base_of (by kernel_rfl))
        exact does_value (v := .pointer (some ⟨w.heap.size, 0, none⟩)) (w' := W) (by simp only [execOp, h3]; simp [go_sem]) ⟨rfl, hC, trivial⟩
      · intro A W hC hg hb
        have h29 : A.eval (.tmp 29) = .pointer (some ⟨w.heap.size, 0, none⟩) := hg 0 29 (by decide) rfl (by simp [Op.operands]) (by kernel_rfl) rfl
        have hc0 := (hC.2.2.2.2.1).cell (j := 0) rfl
        exact does_value (v := .slice (some ⟨gs, 0, none⟩) 1 sc) (w' := W) (by simp only [execOp, h29]; simp [go_sem, hc0]) ⟨rfl, hC, trivial⟩
      · intro A W hC hg hb
        have h0 : A.eval (.tmp 0) = .pointer (some ⟨C, 0, none⟩) := hb 0 (base_of (by kernel_rfl))
        exact does_value (v := .pointer (some ⟨C, 0, none⟩)) (w' := W) (by simp only [execOp, h0]; simp [go_sem]) ⟨rfl, hC, trivial⟩
      · intro A W hC hg hb
        have h3 : A.eval (.tmp 3) = .pointer (some ⟨w.heap.size, 0, none⟩) := hb 3 (base_of (by kernel_rfl))
        exact does_value (v := .pointer (some ⟨w.heap.size, 0, none⟩)) (w' := W) (by simp only [execOp, h3]; simp [go_sem]) ⟨rfl, hC, trivial⟩
      · intro A W hC hg hb
        have h32 : A.eval (.tmp 32) = .pointer (some ⟨w.heap.size, 0, none⟩) := hg 3 32 (by decide) rfl (by simp [Op.operands]) (by kernel_rfl) rfl
        have hc0 := (hC.2.2.2.2.1).cell (j := 0) rfl
        exact does_value (v := .slice (some ⟨gs, 0, none⟩) 1 sc) (w' := W) (by simp only [execOp, h32]; simp [go_sem, hc0]) ⟨rfl, hC, trivial⟩
      · intro A W hC hg hb
        have h33 : A.eval (.tmp 33) = .slice (some ⟨gs, 0, none⟩) 1 sc := hg 4 33 (by decide) rfl (by simp [Op.operands, Call.operands]) (by kernel_rfl) rfl
        exact does_value (v := .int .i64 1) (w' := W) (by simp [go_sem] at h33; simp [go_sem, h33]) ⟨rfl, hC, trivial⟩
      · intro A W hC hg hb
        have h31 : A.eval (.tmp 31) = .pointer (some ⟨C, 0, none⟩) := hg 2 31 (by decide) rfl (by simp [Op.operands, Call.operands]) (by kernel_rfl) rfl
        have h34 : A.eval (.tmp 34) = .int .i64 1 := hg 5 34 (by decide) rfl (by simp [Op.operands, Call.operands]) (by kernel_rfl) rfl
        simp [go_sem] at h31 h34
        refine does_enter (f := 22) (args := #[.pointer (some ⟨C, 0, none⟩), .int .i64 1]) (w' := W) (by simp [go_sem, h31, h34]) ?_
        obtain ⟨hk, hgr, hBg, hBq, hBk, hBr, hBx, hBs⟩ := hC
        refine (l01Below_any C 1 (by omega) (by omega) W hk).mono ?_
        rintro e W' ⟨m, rfl, hm0, hm1, k', q'⟩
        obtain rfl : m = 0 := by omega
        exact ⟨_, rfl, rfl, ⟨k', hgr.trans q', hBg.cur q' hgC.out, hBq.cur q' hsC.out, hBk.cur q' Nk.out, hBr.cur q' Nr.out, hBx.cur q' Nx.out, hBs.cur q' Ns.out⟩, trivial⟩
      · intro A W hC hg hb
        have h30 : A.eval (.tmp 30) = .slice (some ⟨gs, 0, none⟩) 1 sc := hg 1 30 (by decide) rfl (by simp [Op.operands]) (by kernel_rfl) rfl
        have h35 : A.eval (.tmp 35) = .int .i64 0 := hg 6 35 (by decide) rfl (by simp [Op.operands]) (by kernel_rfl) rfl
        simp [go_sem] at h30 h35
        exact does_value (v := .pointer (some ⟨gs, 0, none⟩)) (w' := W) (by simp [execOp, go_sem, h30, h35]) ⟨rfl, hC, trivial⟩
      · intro A W hC hg hb
        have h36 : A.eval (.tmp 36) = .pointer (some ⟨gs, 0, none⟩) := hg 7 36 (by decide) rfl (by simp [Op.operands]) (by kernel_rfl) rfl
        have hc0 := (hC.2.2.2.1).cell (j := 0) rfl
        have hc1 := (hC.2.2.2.1).cell (j := 1) rfl
        have hc2 := (hC.2.2.2.1).cell (j := 2) rfl
        exact does_value (v := .agg #[.int .i64 tk, .int .i64 la, .string rp]) (w' := W) (by simp only [execOp, h36]; simp [go_sem, hc0, hc1, hc2]) ⟨rfl, hC, trivial⟩
      · intro A W hC hg hb
        have h6 : A.eval (.tmp 6) = .pointer (some ⟨w2.heap.size + 1, 0, none⟩) := hb 6 (base_of (by kernel_rfl))
        have h37 : A.eval (.tmp 37) = .agg #[.int .i64 tk, .int .i64 la, .string rp] := hg 8 37 (by decide) rfl (by simp [Op.operands]) (by kernel_rfl) rfl
        obtain ⟨hk, hgr, hBg, hBq, hBk, hBr, hBx, hBs⟩ := hC
        have c0 := hBs.cell (j := 0) rfl
        have c1 := hBs.cell (j := 1) rfl
        have c2 := hBs.cell (j := 2) rfl
        have f0 := hBs.thaw 0
        have f1 := hBs.thaw 1
        have f2 := hBs.thaw 2
        refine does_skip (w' := ((W.setCell ⟨w2.heap.size + 1, 0, none⟩ (.int .i64 tk)).setCell ⟨w2.heap.size + 1, 1, none⟩ (.int .i64 la)).setCell ⟨w2.heap.size + 1, 2, none⟩ (.string rp)) (by simp only [execOp, h6, h37]; simp [go_sem, c0, c1, c2, f0, f1, f2]) ⟨trivial, ⟨((hk.set Ns.out).set Ns.out).set Ns.out, grown_far (grown_far (grown_far hgr Ms.out) Ms.out) Ms.out, ((hBg.far (by have := Ags.out; omega) _).far (by have := Ags.out; omega) _).far (by have := Ags.out; omega) _, ((hBq.far (by have := Aqs.out; omega) _).far (by have := Aqs.out; omega) _).far (by have := Aqs.out; omega) _, ((hBk.far (by have := Aks.out; omega) _).far (by have := Aks.out; omega) _).far (by have := Aks.out; omega) _, ((hBr.far (by have := Ars.out; omega) _).far (by have := Ars.out; omega) _).far (by have := Ars.out; omega) _, ((hBx.far (by have := Axs.out; omega) _).far (by have := Axs.out; omega) _).far (by have := Axs.out; omega) _, ((hBs.set 0 _).set 1 _).set 2 _⟩, trivial⟩
    · intro vs w4 hC hg
      clear hg
      change Exit.then _ _ _ (laidBy _ vs _ 10 _) w4
      simp only [laidBy, if_true, dstAt, List.getElem?_toArray, List.getElem?_cons_succ, List.getElem?_cons_zero, Option.bind_some]
      simp only [Act.put, List.setIfInBounds_toArray, List.set_cons_succ, List.set_cons_zero]
      obtain ⟨hk, hgr, hBg, hBq, hBk, hBr, hBx, hBs⟩ := hC
      have K13 := hid hk
      have G13 := hid hgr
      have Xg13 := hid hBg
      have Xq13 := hid hBq
      have Xk13 := hid hBk
      have Xr13 := hid hBr
      have Xx13 := hid hBx
      have Xs13 := hid hBs
      clear hk hgr hBg hBq hBk hBr hBx hBs K11 G11 Xg11 Xq11 Xk11 Xr11 Xx11 Xs11 zg0_12 zg1_12 zg2_12 zq0_12 zq1_12 zq2_12 zk0_12 zk1_12 yk0_12 yk1_12 zr0_12 zr1_12 zr2_12 zr3_12 zr4_12 zr5_12 yr0_12 yr1_12 yr2_12 yr3_12 yr4_12 yr5_12 zx0_12 zx1_12 zx2_12 zx3_12 zx4_12 zx5_12 yx0_12 yx1_12 yx2_12 yx3_12 yx4_12 yx5_12 zs0_12 zs1_12 zs2_12 ys0_12 ys1_12 ys2_12
      have zg0_14 := Xg13.out.cell (j := 0) rfl
      have zg1_14 := Xg13.out.cell (j := 1) rfl
      have zg2_14 := Xg13.out.cell (j := 2) rfl
      have zq0_14 := Xq13.out.cell (j := 0) rfl
      have zq1_14 := Xq13.out.cell (j := 1) rfl
      have zq2_14 := Xq13.out.cell (j := 2) rfl
      have zk0_14 := Xk13.out.cell (j := 0) rfl
      have zk1_14 := Xk13.out.cell (j := 1) rfl
      have yk0_14 := Xk13.out.thaw 0
      have yk1_14 := Xk13.out.thaw 1
      have zr0_14 := Xr13.out.cell (j := 0) rfl
      have zr1_14 := Xr13.out.cell (j := 1) rfl
      have zr2_14 := Xr13.out.cell (j := 2) rfl
      have zr3_14 := Xr13.out.cell (j := 3) rfl
      have zr4_14 := Xr13.out.cell (j := 4) rfl
      have zr5_14 := Xr13.out.cell (j := 5) rfl
      have yr0_14 := Xr13.out.thaw 0
      have yr1_14 := Xr13.out.thaw 1
      have yr2_14 := Xr13.out.thaw 2
      have yr3_14 := Xr13.out.thaw 3
      have yr4_14 := Xr13.out.thaw 4
      have yr5_14 := Xr13.out.thaw 5
      have zx0_14 := Xx13.out.cell (j := 0) rfl
      have zx1_14 := Xx13.out.cell (j := 1) rfl
      have zx2_14 := Xx13.out.cell (j := 2) rfl
      have zx3_14 := Xx13.out.cell (j := 3) rfl
      have zx4_14 := Xx13.out.cell (j := 4) rfl
      have zx5_14 := Xx13.out.cell (j := 5) rfl
      have yx0_14 := Xx13.out.thaw 0
      have yx1_14 := Xx13.out.thaw 1
      have yx2_14 := Xx13.out.thaw 2
      have yx3_14 := Xx13.out.thaw 3
      have yx4_14 := Xx13.out.thaw 4
      have yx5_14 := Xx13.out.thaw 5
      have zs0_14 := Xs13.out.cell (j := 0) rfl
      have zs1_14 := Xs13.out.cell (j := 1) rfl
      have zs2_14 := Xs13.out.cell (j := 2) rfl
      have ys0_14 := Xs13.out.thaw 0
      have ys1_14 := Xs13.out.thaw 1
      have ys2_14 := Xs13.out.thaw 2
      have K15 := hid (K13.out.set (b := w2.heap.size) (j := 1) (v := (.int .i64 tk)) Nx.out)
      have G15 := hid (grown_far (b := w2.heap.size) (j := 1) (v := (.int .i64 tk)) G13.out Mx.out)
      have Xg15 := hid (Xg13.out.far (b := w2.heap.size) (j := 1) (by have := Agx.out; omega) (.int .i64 tk))
      have Xq15 := hid (Xq13.out.far (b := w2.heap.size) (j := 1) (by have := Aqx.out; omega) (.int .i64 tk))
      have Xk15 := hid (Xk13.out.far (b := w2.heap.size) (j := 1) (by have := Akx.out; omega) (.int .i64 tk))
      have Xr15 := hid (Xr13.out.far (b := w2.heap.size) (j := 1) (by have := Arx.out; omega) (.int .i64 tk))
      have Xx15 : Hid (BlockIs (w4.setCell ⟨w2.heap.size, 1, none⟩ (.int .i64 tk)) (w2.heap.size) 53 [.int .i64 op, .int .i64 tk, .int .i64 seq, .string key, .string val, .int .i64 ver]) := Xx13.out.set 1 (.int .i64 tk)
      have Xs15 := hid (Xs13.out.far (b := w2.heap.size) (j := 1) (by have := Axs.out; omega) (.int .i64 tk))
      clear K13 G13 Xg13 Xq13 Xk13 Xr13 Xx13 Xs13
      have zg0_16 := Xg15.out.cell (j := 0) rfl
      have zg1_16 := Xg15.out.cell (j := 1) rfl
      have zg2_16 := Xg15.out.cell (j := 2) rfl
      have zq0_16 := Xq15.out.cell (j := 0) rfl
      have zq1_16 := Xq15.out.cell (j := 1) rfl
      have zq2_16 := Xq15.out.cell (j := 2) rfl
      have zk0_16 := Xk15.out.cell (j := 0) rfl
      have zk1_16 := Xk15.out.cell (j := 1) rfl
      have yk0_16 := Xk15.out.thaw 0
      have yk1_16 := Xk15.out.thaw 1
      have zr0_16 := Xr15.out.cell (j := 0) rfl
      have zr1_16 := Xr15.out.cell (j := 1) rfl
      have zr2_16 := Xr15.out.cell (j := 2) rfl
      have zr3_16 := Xr15.out.cell (j := 3) rfl
      have zr4_16 := Xr15.out.cell (j := 4) rfl
      have zr5_16 := Xr15.out.cell (j := 5) rfl
      have yr0_16 := Xr15.out.thaw 0
      have yr1_16 := Xr15.out.thaw 1
      have yr2_16 := Xr15.out.thaw 2
      have yr3_16 := Xr15.out.thaw 3
      have yr4_16 := Xr15.out.thaw 4
      have yr5_16 := Xr15.out.thaw 5
      have zx0_16 := Xx15.out.cell (j := 0) rfl
      have zx1_16 := Xx15.out.cell (j := 1) rfl
      have zx2_16 := Xx15.out.cell (j := 2) rfl
      have zx3_16 := Xx15.out.cell (j := 3) rfl
      have zx4_16 := Xx15.out.cell (j := 4) rfl
      have zx5_16 := Xx15.out.cell (j := 5) rfl
      have yx0_16 := Xx15.out.thaw 0
      have yx1_16 := Xx15.out.thaw 1
      have yx2_16 := Xx15.out.thaw 2
      have yx3_16 := Xx15.out.thaw 3
      have yx4_16 := Xx15.out.thaw 4
      have yx5_16 := Xx15.out.thaw 5
      have zs0_16 := Xs15.out.cell (j := 0) rfl
      have zs1_16 := Xs15.out.cell (j := 1) rfl
      have zs2_16 := Xs15.out.cell (j := 2) rfl
      have ys0_16 := Xs15.out.thaw 0
      have ys1_16 := Xs15.out.thaw 1
      have ys2_16 := Xs15.out.thaw 2
      have K17 := hid (K15.out.set (b := w2.heap.size) (j := 2) (v := (.int .i64 (la + 1))) Nx.out)
      have G17 := hid (grown_far (b := w2.heap.size) (j := 2) (v := (.int .i64 (la + 1))) G15.out Mx.out)
      have Xg17 := hid (Xg15.out.far (b := w2.heap.size) (j := 2) (by have := Agx.out; omega) (.int .i64 (la + 1)))
      have Xq17 := hid (Xq15.out.far (b := w2.heap.size) (j := 2) (by have := Aqx.out; omega) (.int .i64 (la + 1)))
      have Xk17 := hid (Xk15.out.far (b := w2.heap.size) (j := 2) (by have := Akx.out; omega) (.int .i64 (la + 1)))
      have Xr17 := hid (Xr15.out.far (b := w2.heap.size) (j := 2) (by have := Arx.out; omega) (.int .i64 (la + 1)))
      have Xx17 : Hid (BlockIs ((w4.setCell ⟨w2.heap.size, 1, none⟩ (.int .i64 tk)).setCell ⟨w2.heap.size, 2, none⟩ (.int .i64 (la + 1))) (w2.heap.size) 53 [.int .i64 op, .int .i64 tk, .int .i64 (la + 1), .string key, .string val, .int .i64 ver]) := Xx15.out.set 2 (.int .i64 (la + 1))
      have Xs17 := hid (Xs15.out.far (b := w2.heap.size) (j := 2) (by have := Axs.out; omega) (.int .i64 (la + 1)))
      clear K15 G15 Xg15 Xq15 Xk15 Xr15 Xx15 Xs15
      have zg0_18 := Xg17.out.cell (j := 0) rfl
      have zg1_18 := Xg17.out.cell (j := 1) rfl
      have zg2_18 := Xg17.out.cell (j := 2) rfl
      have zq0_18 := Xq17.out.cell (j := 0) rfl
      have zq1_18 := Xq17.out.cell (j := 1) rfl
      have zq2_18 := Xq17.out.cell (j := 2) rfl
      have zk0_18 := Xk17.out.cell (j := 0) rfl
      have zk1_18 := Xk17.out.cell (j := 1) rfl
      have yk0_18 := Xk17.out.thaw 0
      have yk1_18 := Xk17.out.thaw 1
      have zr0_18 := Xr17.out.cell (j := 0) rfl
      have zr1_18 := Xr17.out.cell (j := 1) rfl
      have zr2_18 := Xr17.out.cell (j := 2) rfl
      have zr3_18 := Xr17.out.cell (j := 3) rfl
      have zr4_18 := Xr17.out.cell (j := 4) rfl
      have zr5_18 := Xr17.out.cell (j := 5) rfl
      have yr0_18 := Xr17.out.thaw 0
      have yr1_18 := Xr17.out.thaw 1
      have yr2_18 := Xr17.out.thaw 2
      have yr3_18 := Xr17.out.thaw 3
      have yr4_18 := Xr17.out.thaw 4
      have yr5_18 := Xr17.out.thaw 5
      have zx0_18 := Xx17.out.cell (j := 0) rfl
      have zx1_18 := Xx17.out.cell (j := 1) rfl
      have zx2_18 := Xx17.out.cell (j := 2) rfl
      have zx3_18 := Xx17.out.cell (j := 3) rfl
      have zx4_18 := Xx17.out.cell (j := 4) rfl
      have zx5_18 := Xx17.out.cell (j := 5) rfl
      have yx0_18 := Xx17.out.thaw 0
      have yx1_18 := Xx17.out.thaw 1
      have yx2_18 := Xx17.out.thaw 2
      have yx3_18 := Xx17.out.thaw 3
      have yx4_18 := Xx17.out.thaw 4
      have yx5_18 := Xx17.out.thaw 5
      have zs0_18 := Xs17.out.cell (j := 0) rfl
      have zs1_18 := Xs17.out.cell (j := 1) rfl
      have zs2_18 := Xs17.out.cell (j := 2) rfl
      have ys0_18 := Xs17.out.thaw 0
      have ys1_18 := Xs17.out.thaw 1
      have ys2_18 := Xs17.out.thaw 2
      go_wp2_with fail
      refine Calls.mono (l01Below_any C 16 (by omega) (by omega) _ K17.out) ?_
      rintro e w5 ⟨y5, rfl, hy5, hz5, k5, q5⟩
      have K19 := hid (k5)
      have G19 := hid (G17.out.trans q5)
      have Xg19 := hid (Xg17.out.cur q5 hgC.out)
      have Xq19 := hid (Xq17.out.cur q5 hsC.out)
      have Xk19 := hid (Xk17.out.cur q5 Nk.out)
      have Xr19 := hid (Xr17.out.cur q5 Nr.out)
      have Xx19 := hid (Xx17.out.cur q5 Nx.out)
      have Xs19 := hid (Xs17.out.cur q5 Ns.out)
      clear k5 q5 K17 G17 zg0_18 zg1_18 zg2_18 zq0_18 zq1_18 zq2_18 zk0_18 zk1_18 yk0_18 yk1_18 zr0_18 zr1_18 zr2_18 zr3_18 zr4_18 zr5_18 yr0_18 yr1_18 yr2_18 yr3_18 yr4_18 yr5_18 zx0_18 zx1_18 zx2_18 zx3_18 zx4_18 zx5_18 yx0_18 yx1_18 yx2_18 yx3_18 yx4_18 yx5_18 zs0_18 zs1_18 zs2_18 ys0_18 ys1_18 ys2_18 zg0_16 zg1_16 zg2_16 zq0_16 zq1_16 zq2_16 zk0_16 zk1_16 yk0_16 yk1_16 zr0_16 zr1_16 zr2_16 zr3_16 zr4_16 zr5_16 yr0_16 yr1_16 yr2_16 yr3_16 yr4_16 yr5_16 zx0_16 zx1_16 zx2_16 zx3_16 zx4_16 zx5_16 yx0_16 yx1_16 yx2_16 yx3_16 yx4_16 yx5_16 zs0_16 zs1_16 zs2_16 ys0_16 ys1_16 ys2_16 zg0_14 zg1_14 zg2_14 zq0_14 zq1_14 zq2_14 zk0_14 zk1_14 yk0_14 yk1_14 zr0_14 zr1_14 zr2_14 zr3_14 zr4_14 zr5_14 yr0_14 yr1_14 yr2_14 yr3_14 yr4_14 yr5_14 zx0_14 zx1_14 zx2_14 zx3_14 zx4_14 zx5_14 yx0_14 yx1_14 yx2_14 yx3_14 yx4_14 yx5_14 zs0_14 zs1_14 zs2_14 ys0_14 ys1_14 ys2_14 Xg17 Xq17 Xk17 Xr17 Xx17 Xs17
      have zg0_20 := Xg19.out.cell (j := 0) rfl
      have zg1_20 := Xg19.out.cell (j := 1) rfl
      have zg2_20 := Xg19.out.cell (j := 2) rfl
      have zq0_20 := Xq19.out.cell (j := 0) rfl
      have zq1_20 := Xq19.out.cell (j := 1) rfl
      have zq2_20 := Xq19.out.cell (j := 2) rfl
      have zk0_20 := Xk19.out.cell (j := 0) rfl
      have zk1_20 := Xk19.out.cell (j := 1) rfl
      have yk0_20 := Xk19.out.thaw 0
      have yk1_20 := Xk19.out.thaw 1
      have zr0_20 := Xr19.out.cell (j := 0) rfl
      have zr1_20 := Xr19.out.cell (j := 1) rfl
      have zr2_20 := Xr19.out.cell (j := 2) rfl
      have zr3_20 := Xr19.out.cell (j := 3) rfl
      have zr4_20 := Xr19.out.cell (j := 4) rfl
      have zr5_20 := Xr19.out.cell (j := 5) rfl
      have yr0_20 := Xr19.out.thaw 0
      have yr1_20 := Xr19.out.thaw 1
      have yr2_20 := Xr19.out.thaw 2
      have yr3_20 := Xr19.out.thaw 3
      have yr4_20 := Xr19.out.thaw 4
      have yr5_20 := Xr19.out.thaw 5
      have zx0_20 := Xx19.out.cell (j := 0) rfl
      have zx1_20 := Xx19.out.cell (j := 1) rfl
      have zx2_20 := Xx19.out.cell (j := 2) rfl
      have zx3_20 := Xx19.out.cell (j := 3) rfl
      have zx4_20 := Xx19.out.cell (j := 4) rfl
      have zx5_20 := Xx19.out.cell (j := 5) rfl
      have yx0_20 := Xx19.out.thaw 0
      have yx1_20 := Xx19.out.thaw 1
      have yx2_20 := Xx19.out.thaw 2
      have yx3_20 := Xx19.out.thaw 3
      have yx4_20 := Xx19.out.thaw 4
      have yx5_20 := Xx19.out.thaw 5
      have zs0_20 := Xs19.out.cell (j := 0) rfl
      have zs1_20 := Xs19.out.cell (j := 1) rfl
      have zs2_20 := Xs19.out.cell (j := 2) rfl
      have ys0_20 := Xs19.out.thaw 0
      have ys1_20 := Xs19.out.thaw 1
      have ys2_20 := Xs19.out.thaw 2
      by_cases y0 : y5 = 0
      · subst y0
        have K21 := hid (K19.out.set (b := w2.heap.size) (j := 2) (v := (.int .i64 la)) Nx.out)
        have G21 := hid (grown_far (b := w2.heap.size) (j := 2) (v := (.int .i64 la)) G19.out Mx.out)
        have Xg21 := hid (Xg19.out.far (b := w2.heap.size) (j := 2) (by have := Agx.out; omega) (.int .i64 la))
        have Xq21 := hid (Xq19.out.far (b := w2.heap.size) (j := 2) (by have := Aqx.out; omega) (.int .i64 la))
        have Xk21 := hid (Xk19.out.far (b := w2.heap.size) (j := 2) (by have := Akx.out; omega) (.int .i64 la))
        have Xr21 := hid (Xr19.out.far (b := w2.heap.size) (j := 2) (by have := Arx.out; omega) (.int .i64 la))
        have Xx21 : Hid (BlockIs (w5.setCell ⟨w2.heap.size, 2, none⟩ (.int .i64 la)) (w2.heap.size) 53 [.int .i64 op, .int .i64 tk, .int .i64 la, .string key, .string val, .int .i64 ver]) := Xx19.out.set 2 (.int .i64 la)
        have Xs21 := hid (Xs19.out.far (b := w2.heap.size) (j := 2) (by have := Axs.out; omega) (.int .i64 la))
        clear K19 G19 Xg19 Xq19 Xk19 Xr19 Xx19 Xs19
        have zg0_22 := Xg21.out.cell (j := 0) rfl
        have zg1_22 := Xg21.out.cell (j := 1) rfl
        have zg2_22 := Xg21.out.cell (j := 2) rfl
        have zq0_22 := Xq21.out.cell (j := 0) rfl
        have zq1_22 := Xq21.out.cell (j := 1) rfl
        have zq2_22 := Xq21.out.cell (j := 2) rfl
        have zk0_22 := Xk21.out.cell (j := 0) rfl
        have zk1_22 := Xk21.out.cell (j := 1) rfl
        have yk0_22 := Xk21.out.thaw 0
        have yk1_22 := Xk21.out.thaw 1
        have zr0_22 := Xr21.out.cell (j := 0) rfl
        have zr1_22 := Xr21.out.cell (j := 1) rfl
        have zr2_22 := Xr21.out.cell (j := 2) rfl
        have zr3_22 := Xr21.out.cell (j := 3) rfl
        have zr4_22 := Xr21.out.cell (j := 4) rfl
        have zr5_22 := Xr21.out.cell (j := 5) rfl
        have yr0_22 := Xr21.out.thaw 0
        have yr1_22 := Xr21.out.thaw 1
        have yr2_22 := Xr21.out.thaw 2
        have yr3_22 := Xr21.out.thaw 3
        have yr4_22 := Xr21.out.thaw 4
        have yr5_22 := Xr21.out.thaw 5
        have zx0_22 := Xx21.out.cell (j := 0) rfl
        have zx1_22 := Xx21.out.cell (j := 1) rfl
        have zx2_22 := Xx21.out.cell (j := 2) rfl
        have zx3_22 := Xx21.out.cell (j := 3) rfl
        have zx4_22 := Xx21.out.cell (j := 4) rfl
        have zx5_22 := Xx21.out.cell (j := 5) rfl
        have yx0_22 := Xx21.out.thaw 0
        have yx1_22 := Xx21.out.thaw 1
        have yx2_22 := Xx21.out.thaw 2
        have yx3_22 := Xx21.out.thaw 3
        have yx4_22 := Xx21.out.thaw 4
        have yx5_22 := Xx21.out.thaw 5
        have zs0_22 := Xs21.out.cell (j := 0) rfl
        have zs1_22 := Xs21.out.cell (j := 1) rfl
        have zs2_22 := Xs21.out.cell (j := 2) rfl
        have ys0_22 := Xs21.out.thaw 0
        have ys1_22 := Xs21.out.thaw 1
        have ys2_22 := Xs21.out.thaw 2
        have KL := hid ((((((K21.out.set (b := w.heap.size + 1) (j := 0) (v := .int .i64 op) Nr.out).set (b := w.heap.size + 1) (j := 1) (v := .int .i64 tk) Nr.out).set (b := w.heap.size + 1) (j := 2) (v := .int .i64 la) Nr.out).set (b := w.heap.size + 1) (j := 3) (v := .string key) Nr.out).set (b := w.heap.size + 1) (j := 4) (v := .string val) Nr.out).set (b := w.heap.size + 1) (j := 5) (v := .int .i64 ver) Nr.out)
        have GL := hid (grown_far (b := w.heap.size + 1) (j := 5) (v := .int .i64 ver) (grown_far (b := w.heap.size + 1) (j := 4) (v := .string val) (grown_far (b := w.heap.size + 1) (j := 3) (v := .string key) (grown_far (b := w.heap.size + 1) (j := 2) (v := .int .i64 la) (grown_far (b := w.heap.size + 1) (j := 1) (v := .int .i64 tk) (grown_far (b := w.heap.size + 1) (j := 0) (v := .int .i64 op) G21.out Mr.out) Mr.out) Mr.out) Mr.out) Mr.out) Mr.out)
        go_wp2
        refine bodyPost_ret (v := .agg #[.int .i64 op, .int .i64 tk, .int .i64 la, .string key, .string val, .int .i64 ver]) (by simp [results, Tryz.results23, go_sem, zr0_22, zr1_22, zr2_22, zr3_22, zr4_22, zr5_22]) rfl ?_
        exact ⟨⟨op, tk, la, key, val, ver⟩, rfl, KL.out, GL.out⟩
      by_cases y1 : y5 = 1
      · subst y1
        clear y0
        go_wp2_with fail
        refine Calls.mono (l01Below_any C 4 (by omega) (by omega) _ K19.out) ?_
        rintro e w6 ⟨m6, rfl, hy6, hz6, k6, q6⟩
        have K21 := hid (k6)
        have G21 := hid (G19.out.trans q6)
        have Xg21 := hid (Xg19.out.cur q6 hgC.out)
        have Xq21 := hid (Xq19.out.cur q6 hsC.out)
        have Xk21 := hid (Xk19.out.cur q6 Nk.out)
        have Xr21 := hid (Xr19.out.cur q6 Nr.out)
        have Xx21 := hid (Xx19.out.cur q6 Nx.out)
        have Xs21 := hid (Xs19.out.cur q6 Ns.out)
        clear k6 q6 K19 G19 zg0_20 zg1_20 zg2_20 zq0_20 zq1_20 zq2_20 zk0_20 zk1_20 yk0_20 yk1_20 zr0_20 zr1_20 zr2_20 zr3_20 zr4_20 zr5_20 yr0_20 yr1_20 yr2_20 yr3_20 yr4_20 yr5_20 zx0_20 zx1_20 zx2_20 zx3_20 zx4_20 zx5_20 yx0_20 yx1_20 yx2_20 yx3_20 yx4_20 yx5_20 zs0_20 zs1_20 zs2_20 ys0_20 ys1_20 ys2_20 Xg19 Xq19 Xk19 Xr19 Xx19 Xs19
        have zg0_22 := Xg21.out.cell (j := 0) rfl
        have zg1_22 := Xg21.out.cell (j := 1) rfl
        have zg2_22 := Xg21.out.cell (j := 2) rfl
        have zq0_22 := Xq21.out.cell (j := 0) rfl
        have zq1_22 := Xq21.out.cell (j := 1) rfl
        have zq2_22 := Xq21.out.cell (j := 2) rfl
        have zk0_22 := Xk21.out.cell (j := 0) rfl
        have zk1_22 := Xk21.out.cell (j := 1) rfl
        have yk0_22 := Xk21.out.thaw 0
        have yk1_22 := Xk21.out.thaw 1
        have zr0_22 := Xr21.out.cell (j := 0) rfl
        have zr1_22 := Xr21.out.cell (j := 1) rfl
        have zr2_22 := Xr21.out.cell (j := 2) rfl
        have zr3_22 := Xr21.out.cell (j := 3) rfl
        have zr4_22 := Xr21.out.cell (j := 4) rfl
        have zr5_22 := Xr21.out.cell (j := 5) rfl
        have yr0_22 := Xr21.out.thaw 0
        have yr1_22 := Xr21.out.thaw 1
        have yr2_22 := Xr21.out.thaw 2
        have yr3_22 := Xr21.out.thaw 3
        have yr4_22 := Xr21.out.thaw 4
        have yr5_22 := Xr21.out.thaw 5
        have zx0_22 := Xx21.out.cell (j := 0) rfl
        have zx1_22 := Xx21.out.cell (j := 1) rfl
        have zx2_22 := Xx21.out.cell (j := 2) rfl
        have zx3_22 := Xx21.out.cell (j := 3) rfl
        have zx4_22 := Xx21.out.cell (j := 4) rfl
        have zx5_22 := Xx21.out.cell (j := 5) rfl
        have yx0_22 := Xx21.out.thaw 0
        have yx1_22 := Xx21.out.thaw 1
        have yx2_22 := Xx21.out.thaw 2
        have yx3_22 := Xx21.out.thaw 3
        have yx4_22 := Xx21.out.thaw 4
        have yx5_22 := Xx21.out.thaw 5
        have zs0_22 := Xs21.out.cell (j := 0) rfl
        have zs1_22 := Xs21.out.cell (j := 1) rfl
        have zs2_22 := Xs21.out.cell (j := 2) rfl
        have ys0_22 := Xs21.out.thaw 0
        have ys1_22 := Xs21.out.thaw 1
        have ys2_22 := Xs21.out.thaw 2
        have K23 := hid (K21.out.set (b := w2.heap.size) (j := 2) (v := (.int .i64 m6)) Nx.out)
        have G23 := hid (grown_far (b := w2.heap.size) (j := 2) (v := (.int .i64 m6)) G21.out Mx.out)
        have Xg23 := hid (Xg21.out.far (b := w2.heap.size) (j := 2) (by have := Agx.out; omega) (.int .i64 m6))
        have Xq23 := hid (Xq21.out.far (b := w2.heap.size) (j := 2) (by have := Aqx.out; omega) (.int .i64 m6))
        have Xk23 := hid (Xk21.out.far (b := w2.heap.size) (j := 2) (by have := Akx.out; omega) (.int .i64 m6))
        have Xr23 := hid (Xr21.out.far (b := w2.heap.size) (j := 2) (by have := Arx.out; omega) (.int .i64 m6))
        have Xx23 : Hid (BlockIs (w6.setCell ⟨w2.heap.size, 2, none⟩ (.int .i64 m6)) (w2.heap.size) 53 [.int .i64 op, .int .i64 tk, .int .i64 m6, .string key, .string val, .int .i64 ver]) := Xx21.out.set 2 (.int .i64 m6)
        have Xs23 := hid (Xs21.out.far (b := w2.heap.size) (j := 2) (by have := Axs.out; omega) (.int .i64 m6))
        clear K21 G21 Xg21 Xq21 Xk21 Xr21 Xx21 Xs21
        have zg0_24 := Xg23.out.cell (j := 0) rfl
        have zg1_24 := Xg23.out.cell (j := 1) rfl
        have zg2_24 := Xg23.out.cell (j := 2) rfl
        have zq0_24 := Xq23.out.cell (j := 0) rfl
        have zq1_24 := Xq23.out.cell (j := 1) rfl
        have zq2_24 := Xq23.out.cell (j := 2) rfl
        have zk0_24 := Xk23.out.cell (j := 0) rfl
        have zk1_24 := Xk23.out.cell (j := 1) rfl
        have yk0_24 := Xk23.out.thaw 0
        have yk1_24 := Xk23.out.thaw 1
        have zr0_24 := Xr23.out.cell (j := 0) rfl
        have zr1_24 := Xr23.out.cell (j := 1) rfl
        have zr2_24 := Xr23.out.cell (j := 2) rfl
        have zr3_24 := Xr23.out.cell (j := 3) rfl
        have zr4_24 := Xr23.out.cell (j := 4) rfl
        have zr5_24 := Xr23.out.cell (j := 5) rfl
        have yr0_24 := Xr23.out.thaw 0
        have yr1_24 := Xr23.out.thaw 1
        have yr2_24 := Xr23.out.thaw 2
        have yr3_24 := Xr23.out.thaw 3
        have yr4_24 := Xr23.out.thaw 4
        have yr5_24 := Xr23.out.thaw 5
        have zx0_24 := Xx23.out.cell (j := 0) rfl
        have zx1_24 := Xx23.out.cell (j := 1) rfl
        have zx2_24 := Xx23.out.cell (j := 2) rfl
        have zx3_24 := Xx23.out.cell (j := 3) rfl
        have zx4_24 := Xx23.out.cell (j := 4) rfl
        have zx5_24 := Xx23.out.cell (j := 5) rfl
        have yx0_24 := Xx23.out.thaw 0
        have yx1_24 := Xx23.out.thaw 1
        have yx2_24 := Xx23.out.thaw 2
        have yx3_24 := Xx23.out.thaw 3
        have yx4_24 := Xx23.out.thaw 4
        have yx5_24 := Xx23.out.thaw 5
        have zs0_24 := Xs23.out.cell (j := 0) rfl
        have zs1_24 := Xs23.out.cell (j := 1) rfl
        have zs2_24 := Xs23.out.cell (j := 2) rfl
        have ys0_24 := Xs23.out.thaw 0
        have ys1_24 := Xs23.out.thaw 1
        have ys2_24 := Xs23.out.thaw 2
        have KL := hid ((((((K23.out.set (b := w.heap.size + 1) (j := 0) (v := .int .i64 op) Nr.out).set (b := w.heap.size + 1) (j := 1) (v := .int .i64 tk) Nr.out).set (b := w.heap.size + 1) (j := 2) (v := .int .i64 m6) Nr.out).set (b := w.heap.size + 1) (j := 3) (v := .string key) Nr.out).set (b := w.heap.size + 1) (j := 4) (v := .string val) Nr.out).set (b := w.heap.size + 1) (j := 5) (v := .int .i64 ver) Nr.out)
        have GL := hid (grown_far (b := w.heap.size + 1) (j := 5) (v := .int .i64 ver) (grown_far (b := w.heap.size + 1) (j := 4) (v := .string val) (grown_far (b := w.heap.size + 1) (j := 3) (v := .string key) (grown_far (b := w.heap.size + 1) (j := 2) (v := .int .i64 m6) (grown_far (b := w.heap.size + 1) (j := 1) (v := .int .i64 tk) (grown_far (b := w.heap.size + 1) (j := 0) (v := .int .i64 op) G23.out Mr.out) Mr.out) Mr.out) Mr.out) Mr.out) Mr.out)
        go_wp2
        refine bodyPost_ret (v := .agg #[.int .i64 op, .int .i64 tk, .int .i64 m6, .string key, .string val, .int .i64 ver]) (by simp [results, Tryz.results23, go_sem, zr0_24, zr1_24, zr2_24, zr3_24, zr4_24, zr5_24]) rfl ?_
        exact ⟨⟨op, tk, m6, key, val, ver⟩, rfl, KL.out, GL.out⟩
      by_cases y2 : y5 = 2
      · subst y2
        clear y0 y1
        go_wp2_with fail
        refine Calls.mono (l01Below_any C 9 (by omega) (by omega) _ K19.out) ?_
        rintro e w6 ⟨m6, rfl, hy6, hz6, k6, q6⟩
        have K21 := hid (k6)
        have G21 := hid (G19.out.trans q6)
        have Xg21 := hid (Xg19.out.cur q6 hgC.out)
        have Xq21 := hid (Xq19.out.cur q6 hsC.out)
        have Xk21 := hid (Xk19.out.cur q6 Nk.out)
        have Xr21 := hid (Xr19.out.cur q6 Nr.out)
        have Xx21 := hid (Xx19.out.cur q6 Nx.out)
        have Xs21 := hid (Xs19.out.cur q6 Ns.out)
        clear k6 q6 K19 G19 zg0_20 zg1_20 zg2_20 zq0_20 zq1_20 zq2_20 zk0_20 zk1_20 yk0_20 yk1_20 zr0_20 zr1_20 zr2_20 zr3_20 zr4_20 zr5_20 yr0_20 yr1_20 yr2_20 yr3_20 yr4_20 yr5_20 zx0_20 zx1_20 zx2_20 zx3_20 zx4_20 zx5_20 yx0_20 yx1_20 yx2_20 yx3_20 yx4_20 yx5_20 zs0_20 zs1_20 zs2_20 ys0_20 ys1_20 ys2_20 Xg19 Xq19 Xk19 Xr19 Xx19 Xs19
        have zg0_22 := Xg21.out.cell (j := 0) rfl
        have zg1_22 := Xg21.out.cell (j := 1) rfl
        have zg2_22 := Xg21.out.cell (j := 2) rfl
        have zq0_22 := Xq21.out.cell (j := 0) rfl
        have zq1_22 := Xq21.out.cell (j := 1) rfl
        have zq2_22 := Xq21.out.cell (j := 2) rfl
        have zk0_22 := Xk21.out.cell (j := 0) rfl
        have zk1_22 := Xk21.out.cell (j := 1) rfl
        have yk0_22 := Xk21.out.thaw 0
        have yk1_22 := Xk21.out.thaw 1
        have zr0_22 := Xr21.out.cell (j := 0) rfl
        have zr1_22 := Xr21.out.cell (j := 1) rfl
        have zr2_22 := Xr21.out.cell (j := 2) rfl
        have zr3_22 := Xr21.out.cell (j := 3) rfl
        have zr4_22 := Xr21.out.cell (j := 4) rfl
        have zr5_22 := Xr21.out.cell (j := 5) rfl
        have yr0_22 := Xr21.out.thaw 0
        have yr1_22 := Xr21.out.thaw 1
        have yr2_22 := Xr21.out.thaw 2
        have yr3_22 := Xr21.out.thaw 3
        have yr4_22 := Xr21.out.thaw 4
        have yr5_22 := Xr21.out.thaw 5
        have zx0_22 := Xx21.out.cell (j := 0) rfl
        have zx1_22 := Xx21.out.cell (j := 1) rfl
        have zx2_22 := Xx21.out.cell (j := 2) rfl
        have zx3_22 := Xx21.out.cell (j := 3) rfl
        have zx4_22 := Xx21.out.cell (j := 4) rfl
        have zx5_22 := Xx21.out.cell (j := 5) rfl
        have yx0_22 := Xx21.out.thaw 0
        have yx1_22 := Xx21.out.thaw 1
        have yx2_22 := Xx21.out.thaw 2
        have yx3_22 := Xx21.out.thaw 3
        have yx4_22 := Xx21.out.thaw 4
        have yx5_22 := Xx21.out.thaw 5
        have zs0_22 := Xs21.out.cell (j := 0) rfl
        have zs1_22 := Xs21.out.cell (j := 1) rfl
        have zs2_22 := Xs21.out.cell (j := 2) rfl
        have ys0_22 := Xs21.out.thaw 0
        have ys1_22 := Xs21.out.thaw 1
        have ys2_22 := Xs21.out.thaw 2
        have K23 := hid (K21.out.set (b := w2.heap.size) (j := 1) (v := (.int .i64 m6)) Nx.out)
        have G23 := hid (grown_far (b := w2.heap.size) (j := 1) (v := (.int .i64 m6)) G21.out Mx.out)
        have Xg23 := hid (Xg21.out.far (b := w2.heap.size) (j := 1) (by have := Agx.out; omega) (.int .i64 m6))
        have Xq23 := hid (Xq21.out.far (b := w2.heap.size) (j := 1) (by have := Aqx.out; omega) (.int .i64 m6))
        have Xk23 := hid (Xk21.out.far (b := w2.heap.size) (j := 1) (by have := Akx.out; omega) (.int .i64 m6))
        have Xr23 := hid (Xr21.out.far (b := w2.heap.size) (j := 1) (by have := Arx.out; omega) (.int .i64 m6))
        have Xx23 : Hid (BlockIs (w6.setCell ⟨w2.heap.size, 1, none⟩ (.int .i64 m6)) (w2.heap.size) 53 [.int .i64 op, .int .i64 m6, .int .i64 (la + 1), .string key, .string val, .int .i64 ver]) := Xx21.out.set 1 (.int .i64 m6)
        have Xs23 := hid (Xs21.out.far (b := w2.heap.size) (j := 1) (by have := Axs.out; omega) (.int .i64 m6))
        clear K21 G21 Xg21 Xq21 Xk21 Xr21 Xx21 Xs21
        have zg0_24 := Xg23.out.cell (j := 0) rfl
        have zg1_24 := Xg23.out.cell (j := 1) rfl
        have zg2_24 := Xg23.out.cell (j := 2) rfl
        have zq0_24 := Xq23.out.cell (j := 0) rfl
        have zq1_24 := Xq23.out.cell (j := 1) rfl
        have zq2_24 := Xq23.out.cell (j := 2) rfl
        have zk0_24 := Xk23.out.cell (j := 0) rfl
        have zk1_24 := Xk23.out.cell (j := 1) rfl
        have yk0_24 := Xk23.out.thaw 0
        have yk1_24 := Xk23.out.thaw 1
        have zr0_24 := Xr23.out.cell (j := 0) rfl
        have zr1_24 := Xr23.out.cell (j := 1) rfl
        have zr2_24 := Xr23.out.cell (j := 2) rfl
        have zr3_24 := Xr23.out.cell (j := 3) rfl
        have zr4_24 := Xr23.out.cell (j := 4) rfl
        have zr5_24 := Xr23.out.cell (j := 5) rfl
        have yr0_24 := Xr23.out.thaw 0
        have yr1_24 := Xr23.out.thaw 1
        have yr2_24 := Xr23.out.thaw 2
        have yr3_24 := Xr23.out.thaw 3
        have yr4_24 := Xr23.out.thaw 4
        have yr5_24 := Xr23.out.thaw 5
        have zx0_24 := Xx23.out.cell (j := 0) rfl
        have zx1_24 := Xx23.out.cell (j := 1) rfl
        have zx2_24 := Xx23.out.cell (j := 2) rfl
        have zx3_24 := Xx23.out.cell (j := 3) rfl
        have zx4_24 := Xx23.out.cell (j := 4) rfl
        have zx5_24 := Xx23.out.cell (j := 5) rfl
        have yx0_24 := Xx23.out.thaw 0
        have yx1_24 := Xx23.out.thaw 1
        have yx2_24 := Xx23.out.thaw 2
        have yx3_24 := Xx23.out.thaw 3
        have yx4_24 := Xx23.out.thaw 4
        have yx5_24 := Xx23.out.thaw 5
        have zs0_24 := Xs23.out.cell (j := 0) rfl
        have zs1_24 := Xs23.out.cell (j := 1) rfl
        have zs2_24 := Xs23.out.cell (j := 2) rfl
        have ys0_24 := Xs23.out.thaw 0
        have ys1_24 := Xs23.out.thaw 1
        have ys2_24 := Xs23.out.thaw 2
        have KL := hid ((((((K23.out.set (b := w.heap.size + 1) (j := 0) (v := .int .i64 op) Nr.out).set (b := w.heap.size + 1) (j := 1) (v := .int .i64 m6) Nr.out).set (b := w.heap.size + 1) (j := 2) (v := .int .i64 (la + 1)) Nr.out).set (b := w.heap.size + 1) (j := 3) (v := .string key) Nr.out).set (b := w.heap.size + 1) (j := 4) (v := .string val) Nr.out).set (b := w.heap.size + 1) (j := 5) (v := .int .i64 ver) Nr.out)
        have GL := hid (grown_far (b := w.heap.size + 1) (j := 5) (v := .int .i64 ver) (grown_far (b := w.heap.size + 1) (j := 4) (v := .string val) (grown_far (b := w.heap.size + 1) (j := 3) (v := .string key) (grown_far (b := w.heap.size + 1) (j := 2) (v := .int .i64 (la + 1)) (grown_far (b := w.heap.size + 1) (j := 1) (v := .int .i64 m6) (grown_far (b := w.heap.size + 1) (j := 0) (v := .int .i64 op) G23.out Mr.out) Mr.out) Mr.out) Mr.out) Mr.out) Mr.out)
        go_wp2
        refine bodyPost_ret (v := .agg #[.int .i64 op, .int .i64 m6, .int .i64 (la + 1), .string key, .string val, .int .i64 ver]) (by simp [results, Tryz.results23, go_sem, zr0_24, zr1_24, zr2_24, zr3_24, zr4_24, zr5_24]) rfl ?_
        exact ⟨⟨op, m6, (la + 1), key, val, ver⟩, rfl, KL.out, GL.out⟩
      have y0' : (y5 == 0) = false := by simpa using y0
      have y1' : (y5 == 1) = false := by simpa using y1
      have y2' : (y5 == 2) = false := by simpa using y2
      have KL := hid ((((((K19.out.set (b := w.heap.size + 1) (j := 0) (v := .int .i64 op) Nr.out).set (b := w.heap.size + 1) (j := 1) (v := .int .i64 tk) Nr.out).set (b := w.heap.size + 1) (j := 2) (v := .int .i64 (la + 1)) Nr.out).set (b := w.heap.size + 1) (j := 3) (v := .string key) Nr.out).set (b := w.heap.size + 1) (j := 4) (v := .string val) Nr.out).set (b := w.heap.size + 1) (j := 5) (v := .int .i64 ver) Nr.out)
      have GL := hid (grown_far (b := w.heap.size + 1) (j := 5) (v := .int .i64 ver) (grown_far (b := w.heap.size + 1) (j := 4) (v := .string val) (grown_far (b := w.heap.size + 1) (j := 3) (v := .string key) (grown_far (b := w.heap.size + 1) (j := 2) (v := .int .i64 (la + 1)) (grown_far (b := w.heap.size + 1) (j := 1) (v := .int .i64 tk) (grown_far (b := w.heap.size + 1) (j := 0) (v := .int .i64 op) G19.out Mr.out) Mr.out) Mr.out) Mr.out) Mr.out) Mr.out)
      go_wp2
      refine bodyPost_ret (v := .agg #[.int .i64 op, .int .i64 tk, .int .i64 (la + 1), .string key, .string val, .int .i64 ver]) (by simp [results, Tryz.results23, go_sem, zr0_20, zr1_20, zr2_20, zr3_20, zr4_20, zr5_20]) rfl ?_
      exact ⟨⟨op, tk, (la + 1), key, val, ver⟩, rfl, KL.out, GL.out⟩
end Go.Proofs.YtohmfmajgehadaaGreatDoor

namespace Go.Proofs.YtohmfmajgehadaaGreatDoor
open Go.RowKit

set_option maxRecDepth 1000000 in
set_option maxHeartbeats 2000000 in
theorem l16Right_any (C : Nat) (w : World) (hc : CurAt w C) :
    Calls Tryz.prog 146 #[.pointer (some ⟨C, 0, none⟩)] w fun e w' => ∃ d : CmdD, e = .returned (.agg #[.int .i64 d.op, .int .i64 d.tok, .int .i64 d.seq, .string d.key, .string d.val, .int .i64 d.ver]) ∧ CurAt w' C ∧ w.grownBy w' (some C) := by
  have hCl := hc.lt
  have K0 := hid hc
  have G0 := hid (World.grownBy.refl w (some C))
  clear hc
  have be := below_more (Below.refl w.heap.size w) (.cells #[.int .i64 0, .int .i64 0, .int .i64 0, .string ⟨#[]⟩, .string ⟨#[]⟩, .int .i64 0] 53)
  have hx1 : BlockIs (w.alloc (.cells #[.int .i64 0, .int .i64 0, .int .i64 0, .string ⟨#[]⟩, .string ⟨#[]⟩, .int .i64 0] 53)) w.heap.size 53 [.int .i64 0, .int .i64 0, .int .i64 0, .string ⟨#[]⟩, .string ⟨#[]⟩, .int .i64 0] := heap_alloc_new w _
  have K1 := hid (K0.out.below be)
  have G1 := hid (grown_below G0.out be)
  have Xr1 := hid hx1
  have Nr : Hid (C < w.heap.size) := (show _ < _ by omega)
  have Mr : Hid (w.heap.size ≤ w.heap.size) := (show _ ≤ _ by omega)
  clear be hx1  K0 G0
  obtain ⟨W0, hW0⟩ : ∃ W, w.alloc (.cells #[.int .i64 0, .int .i64 0, .int .i64 0, .string ⟨#[]⟩, .string ⟨#[]⟩, .int .i64 0] 53) = W := ⟨_, rfl⟩
  rw [hW0] at K1 G1 Xr1
  have zr0_2 := Xr1.out.cell (j := 0) rfl
  have zr1_2 := Xr1.out.cell (j := 1) rfl
  have zr2_2 := Xr1.out.cell (j := 2) rfl
  have zr3_2 := Xr1.out.cell (j := 3) rfl
  have zr4_2 := Xr1.out.cell (j := 4) rfl
  have zr5_2 := Xr1.out.cell (j := 5) rfl
  have yr0_2 := Xr1.out.thaw 0
  have yr1_2 := Xr1.out.thaw 1
  have yr2_2 := Xr1.out.thaw 2
  have yr3_2 := Xr1.out.thaw 3
  have yr4_2 := Xr1.out.thaw 4
  have yr5_2 := Xr1.out.thaw 5
  go_enter Tryz.func146, Tryz.ntmps146
  have Lr := hid Xr1.out.lt
  have LG := hid G1.out.size
  go_wp2_with fail
  refine Calls.mono (keepNew_any _) ?_
  rintro e w1 ⟨g1, rfl, hg1, hb1, b1⟩
  have K3 := hid (K1.out.below b1)
  have G3 := hid (grown_below G1.out b1)
  have Xr3 := hid (Xr1.out.on b1 Xr1.out.lt)
  clear b1 K1 G1 zr0_2 zr1_2 zr2_2 zr3_2 zr4_2 zr5_2 yr0_2 yr1_2 yr2_2 yr3_2 yr4_2 yr5_2 Xr1
  have Xg := hid hb1
  have Ng : Hid (C < g1) := (show _ < _ by have := LG.out; omega)
  have Mg : Hid (w.heap.size ≤ g1) := (show _ ≤ _ by have := LG.out; omega)
  have Arg : Hid (w.heap.size < g1) := (show _ < _ by have := Lr.out; omega)
  clear hb1 Lr LG
  have ba := below_more (Below.refl w1.heap.size w1) (.cells #[.slice none 0 0, .slice (some ⟨g1, 0, none⟩) 1 1] 27)
  have Mk := hid G3.out.size
  have Nk := hid (Nat.lt_of_lt_of_le hCl G3.out.size)
  have hx : BlockIs (w1.alloc (.cells #[.slice none 0 0, .slice (some ⟨g1, 0, none⟩) 1 1] 27)) w1.heap.size 27 [.slice none 0 0, .slice (some ⟨g1, 0, none⟩) 1 1] := heap_alloc_new w1 _
  have Ark := hid Xr3.out.lt
  have Agk := hid Xg.out.lt
  have K4 := hid (K3.out.below ba)
  have G4 := hid (grown_below G3.out ba)
  have Xr4 := hid (Xr3.out.on ba Xr3.out.lt)
  have Xg4 := hid (Xg.out.on ba Xg.out.lt)
  have Xk4 := hid hx
  clear hx
  clear ba K3 G3 Xr3 Xg
  have zr0_5 := Xr4.out.cell (j := 0) rfl
  have zr1_5 := Xr4.out.cell (j := 1) rfl
  have zr2_5 := Xr4.out.cell (j := 2) rfl
  have zr3_5 := Xr4.out.cell (j := 3) rfl
  have zr4_5 := Xr4.out.cell (j := 4) rfl
  have zr5_5 := Xr4.out.cell (j := 5) rfl
  have yr0_5 := Xr4.out.thaw 0
  have yr1_5 := Xr4.out.thaw 1
  have yr2_5 := Xr4.out.thaw 2
  have yr3_5 := Xr4.out.thaw 3
  have yr4_5 := Xr4.out.thaw 4
  have yr5_5 := Xr4.out.thaw 5
  have zg0_5 := Xg4.out.cell (j := 0) rfl
  have zg1_5 := Xg4.out.cell (j := 1) rfl
  have zg2_5 := Xg4.out.cell (j := 2) rfl
  have zk0_5 := Xk4.out.cell (j := 0) rfl
  have zk1_5 := Xk4.out.cell (j := 1) rfl
  have yk0_5 := Xk4.out.thaw 0
  have yk1_5 := Xk4.out.thaw 1
  go_wp2_with fail
  refine Calls.mono (l01Below_any C 5 (by omega) (by omega) _ K4.out) ?_
  rintro e w2 ⟨x2, rfl, hx2, hy2, k2, q2⟩
  have K6 := hid (k2)
  have G6 := hid (G4.out.trans q2)
  have Xr6 := hid (Xr4.out.cur q2 Nr.out)
  have Xg6 := hid (Xg4.out.cur q2 Ng.out)
  have Xk6 := hid (Xk4.out.cur q2 Nk.out)
  clear k2 q2 K4 G4 zr0_5 zr1_5 zr2_5 zr3_5 zr4_5 zr5_5 yr0_5 yr1_5 yr2_5 yr3_5 yr4_5 yr5_5 zg0_5 zg1_5 zg2_5 zk0_5 zk1_5 yk0_5 yk1_5 Xr4 Xg4 Xk4
  have zr0_7 := Xr6.out.cell (j := 0) rfl
  have zr1_7 := Xr6.out.cell (j := 1) rfl
  have zr2_7 := Xr6.out.cell (j := 2) rfl
  have zr3_7 := Xr6.out.cell (j := 3) rfl
  have zr4_7 := Xr6.out.cell (j := 4) rfl
  have zr5_7 := Xr6.out.cell (j := 5) rfl
  have yr0_7 := Xr6.out.thaw 0
  have yr1_7 := Xr6.out.thaw 1
  have yr2_7 := Xr6.out.thaw 2
  have yr3_7 := Xr6.out.thaw 3
  have yr4_7 := Xr6.out.thaw 4
  have yr5_7 := Xr6.out.thaw 5
  have zg0_7 := Xg6.out.cell (j := 0) rfl
  have zg1_7 := Xg6.out.cell (j := 1) rfl
  have zg2_7 := Xg6.out.cell (j := 2) rfl
  have zk0_7 := Xk6.out.cell (j := 0) rfl
  have zk1_7 := Xk6.out.cell (j := 1) rfl
  have yk0_7 := Xk6.out.thaw 0
  have yk1_7 := Xk6.out.thaw 1
  go_wp2_with fail
  refine Calls.mono (l01Below_any C 4 (by omega) (by omega) _ K6.out) ?_
  rintro e w3 ⟨x3, rfl, hx3, hy3, k3, q3⟩
  have K8 := hid (k3)
  have G8 := hid (G6.out.trans q3)
  have Xr8 := hid (Xr6.out.cur q3 Nr.out)
  have Xg8 := hid (Xg6.out.cur q3 Ng.out)
  have Xk8 := hid (Xk6.out.cur q3 Nk.out)
  clear k3 q3 K6 G6 zr0_7 zr1_7 zr2_7 zr3_7 zr4_7 zr5_7 yr0_7 yr1_7 yr2_7 yr3_7 yr4_7 yr5_7 zg0_7 zg1_7 zg2_7 zk0_7 zk1_7 yk0_7 yk1_7 Xr6 Xg6 Xk6
  have zr0_9 := Xr8.out.cell (j := 0) rfl
  have zr1_9 := Xr8.out.cell (j := 1) rfl
  have zr2_9 := Xr8.out.cell (j := 2) rfl
  have zr3_9 := Xr8.out.cell (j := 3) rfl
  have zr4_9 := Xr8.out.cell (j := 4) rfl
  have zr5_9 := Xr8.out.cell (j := 5) rfl
  have yr0_9 := Xr8.out.thaw 0
  have yr1_9 := Xr8.out.thaw 1
  have yr2_9 := Xr8.out.thaw 2
  have yr3_9 := Xr8.out.thaw 3
  have yr4_9 := Xr8.out.thaw 4
  have yr5_9 := Xr8.out.thaw 5
  have zg0_9 := Xg8.out.cell (j := 0) rfl
  have zg1_9 := Xg8.out.cell (j := 1) rfl
  have zg2_9 := Xg8.out.cell (j := 2) rfl
  have zk0_9 := Xk8.out.cell (j := 0) rfl
  have zk1_9 := Xk8.out.cell (j := 1) rfl
  have yk0_9 := Xk8.out.thaw 0
  have yk1_9 := Xk8.out.thaw 1
  have ba := below_more (Below.refl w3.heap.size w3) (.cells #[.int .i64 (1 + x2), .int .i64 x3, .string ⟨#[]⟩] 66)
  have Mq := hid G8.out.size
  have Nq := hid (Nat.lt_of_lt_of_le hCl G8.out.size)
  have hx : BlockIs (w3.alloc (.cells #[.int .i64 (1 + x2), .int .i64 x3, .string ⟨#[]⟩] 66)) w3.heap.size 66 [.int .i64 (1 + x2), .int .i64 x3, .string ⟨#[]⟩] := heap_alloc_new w3 _
  have Arq := hid Xr8.out.lt
  have Agq := hid Xg8.out.lt
  have Akq := hid Xk8.out.lt
  have K10 := hid (K8.out.below ba)
  have G10 := hid (grown_below G8.out ba)
  have Xr10 := hid (Xr8.out.on ba Xr8.out.lt)
  have Xg10 := hid (Xg8.out.on ba Xg8.out.lt)
  have Xk10 := hid (Xk8.out.on ba Xk8.out.lt)
  have Xq10 := hid hx
  clear hx
  clear ba K8 G8 zr0_9 zr1_9 zr2_9 zr3_9 zr4_9 zr5_9 yr0_9 yr1_9 yr2_9 yr3_9 yr4_9 yr5_9 zg0_9 zg1_9 zg2_9 zk0_9 zk1_9 yk0_9 yk1_9 Xr8 Xg8 Xk8
  have zr0_11 := Xr10.out.cell (j := 0) rfl
  have zr1_11 := Xr10.out.cell (j := 1) rfl
  have zr2_11 := Xr10.out.cell (j := 2) rfl
  have zr3_11 := Xr10.out.cell (j := 3) rfl
  have zr4_11 := Xr10.out.cell (j := 4) rfl
  have zr5_11 := Xr10.out.cell (j := 5) rfl
  have yr0_11 := Xr10.out.thaw 0
  have yr1_11 := Xr10.out.thaw 1
  have yr2_11 := Xr10.out.thaw 2
  have yr3_11 := Xr10.out.thaw 3
  have yr4_11 := Xr10.out.thaw 4
  have yr5_11 := Xr10.out.thaw 5
  have zg0_11 := Xg10.out.cell (j := 0) rfl
  have zg1_11 := Xg10.out.cell (j := 1) rfl
  have zg2_11 := Xg10.out.cell (j := 2) rfl
  have zk0_11 := Xk10.out.cell (j := 0) rfl
  have zk1_11 := Xk10.out.cell (j := 1) rfl
  have yk0_11 := Xk10.out.thaw 0
  have yk1_11 := Xk10.out.thaw 1
  have zq0_11 := Xq10.out.cell (j := 0) rfl
  have zq1_11 := Xq10.out.cell (j := 1) rfl
  have zq2_11 := Xq10.out.cell (j := 2) rfl
  have yq0_11 := Xq10.out.thaw 0
  have yq1_11 := Xq10.out.thaw 1
  have yq2_11 := Xq10.out.thaw 2
  have K12 := hid (K10.out.set (b := w1.heap.size) (j := 0) (v := (.slice (some ⟨w3.heap.size, 0, none⟩) 1 1)) Nk.out)
  have G12 := hid (grown_far (b := w1.heap.size) (j := 0) (v := (.slice (some ⟨w3.heap.size, 0, none⟩) 1 1)) G10.out Mk.out)
  have Xr12 := hid (Xr10.out.far (b := w1.heap.size) (j := 0) (by have := Ark.out; omega) (.slice (some ⟨w3.heap.size, 0, none⟩) 1 1))
  have Xg12 := hid (Xg10.out.far (b := w1.heap.size) (j := 0) (by have := Agk.out; omega) (.slice (some ⟨w3.heap.size, 0, none⟩) 1 1))
  have Xk12 : Hid (BlockIs ((w3.alloc (.cells #[.int .i64 (1 + x2), .int .i64 x3, .string ⟨#[]⟩] 66)).setCell ⟨w1.heap.size, 0, none⟩ (.slice (some ⟨w3.heap.size, 0, none⟩) 1 1)) (w1.heap.size) 27 [.slice (some ⟨w3.heap.size, 0, none⟩) 1 1, .slice (some ⟨g1, 0, none⟩) 1 1]) := Xk10.out.set 0 (.slice (some ⟨w3.heap.size, 0, none⟩) 1 1)
  have Xq12 := hid (Xq10.out.far (b := w1.heap.size) (j := 0) (by have := Akq.out; omega) (.slice (some ⟨w3.heap.size, 0, none⟩) 1 1))
  clear K10 G10 Xr10 Xg10 Xk10 Xq10
  have zr0_13 := Xr12.out.cell (j := 0) rfl
  have zr1_13 := Xr12.out.cell (j := 1) rfl
  have zr2_13 := Xr12.out.cell (j := 2) rfl
  have zr3_13 := Xr12.out.cell (j := 3) rfl
  have zr4_13 := Xr12.out.cell (j := 4) rfl
  have zr5_13 := Xr12.out.cell (j := 5) rfl
  have yr0_13 := Xr12.out.thaw 0
  have yr1_13 := Xr12.out.thaw 1
  have yr2_13 := Xr12.out.thaw 2
  have yr3_13 := Xr12.out.thaw 3
  have yr4_13 := Xr12.out.thaw 4
  have yr5_13 := Xr12.out.thaw 5
  have zg0_13 := Xg12.out.cell (j := 0) rfl
  have zg1_13 := Xg12.out.cell (j := 1) rfl
  have zg2_13 := Xg12.out.cell (j := 2) rfl
  have zk0_13 := Xk12.out.cell (j := 0) rfl
  have zk1_13 := Xk12.out.cell (j := 1) rfl
  have yk0_13 := Xk12.out.thaw 0
  have yk1_13 := Xk12.out.thaw 1
  have zq0_13 := Xq12.out.cell (j := 0) rfl
  have zq1_13 := Xq12.out.cell (j := 1) rfl
  have zq2_13 := Xq12.out.cell (j := 2) rfl
  have yq0_13 := Xq12.out.thaw 0
  have yq1_13 := Xq12.out.thaw 1
  have yq2_13 := Xq12.out.thaw 2
  go_wp2_with fail
  refine Calls.mono (l15Command_any C w3.heap.size 1 g1 1 _ _ 1 (1 + x2) x3 _ (by omega) _ K12.out Xg12.out Ng.out Xq12.out Nq.out) ?_
  rintro e w4 ⟨d4, rfl, k4, q4⟩
  have K14 := hid (k4)
  have G14 := hid (G12.out.trans q4)
  have Xr14 := hid (Xr12.out.cur q4 Nr.out)
  have Xg14 := hid (Xg12.out.cur q4 Ng.out)
  have Xk14 := hid (Xk12.out.cur q4 Nk.out)
  have Xq14 := hid (Xq12.out.cur q4 Nq.out)
  clear k4 q4 K12 G12 zr0_13 zr1_13 zr2_13 zr3_13 zr4_13 zr5_13 yr0_13 yr1_13 yr2_13 yr3_13 yr4_13 yr5_13 zg0_13 zg1_13 zg2_13 zk0_13 zk1_13 yk0_13 yk1_13 zq0_13 zq1_13 zq2_13 yq0_13 yq1_13 yq2_13 zr0_11 zr1_11 zr2_11 zr3_11 zr4_11 zr5_11 yr0_11 yr1_11 yr2_11 yr3_11 yr4_11 yr5_11 zg0_11 zg1_11 zg2_11 zk0_11 zk1_11 yk0_11 yk1_11 zq0_11 zq1_11 zq2_11 yq0_11 yq1_11 yq2_11 Xr12 Xg12 Xk12 Xq12
  have zr0_15 := Xr14.out.cell (j := 0) rfl
  have zr1_15 := Xr14.out.cell (j := 1) rfl
  have zr2_15 := Xr14.out.cell (j := 2) rfl
  have zr3_15 := Xr14.out.cell (j := 3) rfl
  have zr4_15 := Xr14.out.cell (j := 4) rfl
  have zr5_15 := Xr14.out.cell (j := 5) rfl
  have yr0_15 := Xr14.out.thaw 0
  have yr1_15 := Xr14.out.thaw 1
  have yr2_15 := Xr14.out.thaw 2
  have yr3_15 := Xr14.out.thaw 3
  have yr4_15 := Xr14.out.thaw 4
  have yr5_15 := Xr14.out.thaw 5
  have zg0_15 := Xg14.out.cell (j := 0) rfl
  have zg1_15 := Xg14.out.cell (j := 1) rfl
  have zg2_15 := Xg14.out.cell (j := 2) rfl
  have zk0_15 := Xk14.out.cell (j := 0) rfl
  have zk1_15 := Xk14.out.cell (j := 1) rfl
  have yk0_15 := Xk14.out.thaw 0
  have yk1_15 := Xk14.out.thaw 1
  have zq0_15 := Xq14.out.cell (j := 0) rfl
  have zq1_15 := Xq14.out.cell (j := 1) rfl
  have zq2_15 := Xq14.out.cell (j := 2) rfl
  have yq0_15 := Xq14.out.thaw 0
  have yq1_15 := Xq14.out.thaw 1
  have yq2_15 := Xq14.out.thaw 2
  obtain ⟨op, tok, seq, key, val, ver⟩ := d4
  dsimp only
  have ba := below_more (Below.refl w4.heap.size w4) (.cells #[.int .i64 op, .int .i64 tok, .int .i64 seq, .string key, .string val, .int .i64 ver] 53)
  have Mx := hid G14.out.size
  have Nx := hid (Nat.lt_of_lt_of_le hCl G14.out.size)
  have hx : BlockIs (w4.alloc (.cells #[.int .i64 op, .int .i64 tok, .int .i64 seq, .string key, .string val, .int .i64 ver] 53)) w4.heap.size 53 [.int .i64 op, .int .i64 tok, .int .i64 seq, .string key, .string val, .int .i64 ver] := heap_alloc_new w4 _
  have Arx := hid Xr14.out.lt
  have Agx := hid Xg14.out.lt
  have Akx := hid Xk14.out.lt
  have Aqx := hid Xq14.out.lt
  have K16 := hid (K14.out.below ba)
  have G16 := hid (grown_below G14.out ba)
  have Xr16 := hid (Xr14.out.on ba Xr14.out.lt)
  have Xg16 := hid (Xg14.out.on ba Xg14.out.lt)
  have Xk16 := hid (Xk14.out.on ba Xk14.out.lt)
  have Xq16 := hid (Xq14.out.on ba Xq14.out.lt)
  have Xx16 := hid hx
  clear hx
  clear ba K14 G14 zr0_15 zr1_15 zr2_15 zr3_15 zr4_15 zr5_15 yr0_15 yr1_15 yr2_15 yr3_15 yr4_15 yr5_15 zg0_15 zg1_15 zg2_15 zk0_15 zk1_15 yk0_15 yk1_15 zq0_15 zq1_15 zq2_15 yq0_15 yq1_15 yq2_15 Xr14 Xg14 Xk14 Xq14
  have zr0_17 := Xr16.out.cell (j := 0) rfl
  have zr1_17 := Xr16.out.cell (j := 1) rfl
  have zr2_17 := Xr16.out.cell (j := 2) rfl
  have zr3_17 := Xr16.out.cell (j := 3) rfl
  have zr4_17 := Xr16.out.cell (j := 4) rfl
  have zr5_17 := Xr16.out.cell (j := 5) rfl
  have yr0_17 := Xr16.out.thaw 0
  have yr1_17 := Xr16.out.thaw 1
  have yr2_17 := Xr16.out.thaw 2
  have yr3_17 := Xr16.out.thaw 3
  have yr4_17 := Xr16.out.thaw 4
  have yr5_17 := Xr16.out.thaw 5
  have zg0_17 := Xg16.out.cell (j := 0) rfl
  have zg1_17 := Xg16.out.cell (j := 1) rfl
  have zg2_17 := Xg16.out.cell (j := 2) rfl
  have zk0_17 := Xk16.out.cell (j := 0) rfl
  have zk1_17 := Xk16.out.cell (j := 1) rfl
  have yk0_17 := Xk16.out.thaw 0
  have yk1_17 := Xk16.out.thaw 1
  have zq0_17 := Xq16.out.cell (j := 0) rfl
  have zq1_17 := Xq16.out.cell (j := 1) rfl
  have zq2_17 := Xq16.out.cell (j := 2) rfl
  have yq0_17 := Xq16.out.thaw 0
  have yq1_17 := Xq16.out.thaw 1
  have yq2_17 := Xq16.out.thaw 2
  have zx0_17 := Xx16.out.cell (j := 0) rfl
  have zx1_17 := Xx16.out.cell (j := 1) rfl
  have zx2_17 := Xx16.out.cell (j := 2) rfl
  have zx3_17 := Xx16.out.cell (j := 3) rfl
  have zx4_17 := Xx16.out.cell (j := 4) rfl
  have zx5_17 := Xx16.out.cell (j := 5) rfl
  have yx0_17 := Xx16.out.thaw 0
  have yx1_17 := Xx16.out.thaw 1
  have yx2_17 := Xx16.out.thaw 2
  have yx3_17 := Xx16.out.thaw 3
  have yx4_17 := Xx16.out.thaw 4
  have yx5_17 := Xx16.out.thaw 5
  go_wp2_with fail
  refine Calls.mono (commandOk_any ⟨op, tok, seq, key, val, ver⟩ _) ?_
  rintro e w5 ⟨⟨ok5, rfl, _⟩, b5⟩
  have K18 := hid (K16.out.below b5)
  have G18 := hid (grown_below G16.out b5)
  have Xr18 := hid (Xr16.out.on b5 Xr16.out.lt)
  have Xg18 := hid (Xg16.out.on b5 Xg16.out.lt)
  have Xk18 := hid (Xk16.out.on b5 Xk16.out.lt)
  have Xq18 := hid (Xq16.out.on b5 Xq16.out.lt)
  have Xx18 := hid (Xx16.out.on b5 Xx16.out.lt)
  clear b5 K16 G16 zr0_17 zr1_17 zr2_17 zr3_17 zr4_17 zr5_17 yr0_17 yr1_17 yr2_17 yr3_17 yr4_17 yr5_17 zg0_17 zg1_17 zg2_17 zk0_17 zk1_17 yk0_17 yk1_17 zq0_17 zq1_17 zq2_17 yq0_17 yq1_17 yq2_17 zx0_17 zx1_17 zx2_17 zx3_17 zx4_17 zx5_17 yx0_17 yx1_17 yx2_17 yx3_17 yx4_17 yx5_17 Xr16 Xg16 Xk16 Xq16 Xx16
  have zr0_19 := Xr18.out.cell (j := 0) rfl
  have zr1_19 := Xr18.out.cell (j := 1) rfl
  have zr2_19 := Xr18.out.cell (j := 2) rfl
  have zr3_19 := Xr18.out.cell (j := 3) rfl
  have zr4_19 := Xr18.out.cell (j := 4) rfl
  have zr5_19 := Xr18.out.cell (j := 5) rfl
  have yr0_19 := Xr18.out.thaw 0
  have yr1_19 := Xr18.out.thaw 1
  have yr2_19 := Xr18.out.thaw 2
  have yr3_19 := Xr18.out.thaw 3
  have yr4_19 := Xr18.out.thaw 4
  have yr5_19 := Xr18.out.thaw 5
  have zg0_19 := Xg18.out.cell (j := 0) rfl
  have zg1_19 := Xg18.out.cell (j := 1) rfl
  have zg2_19 := Xg18.out.cell (j := 2) rfl
  have zk0_19 := Xk18.out.cell (j := 0) rfl
  have zk1_19 := Xk18.out.cell (j := 1) rfl
  have yk0_19 := Xk18.out.thaw 0
  have yk1_19 := Xk18.out.thaw 1
  have zq0_19 := Xq18.out.cell (j := 0) rfl
  have zq1_19 := Xq18.out.cell (j := 1) rfl
  have zq2_19 := Xq18.out.cell (j := 2) rfl
  have yq0_19 := Xq18.out.thaw 0
  have yq1_19 := Xq18.out.thaw 1
  have yq2_19 := Xq18.out.thaw 2
  have zx0_19 := Xx18.out.cell (j := 0) rfl
  have zx1_19 := Xx18.out.cell (j := 1) rfl
  have zx2_19 := Xx18.out.cell (j := 2) rfl
  have zx3_19 := Xx18.out.cell (j := 3) rfl
  have zx4_19 := Xx18.out.cell (j := 4) rfl
  have zx5_19 := Xx18.out.cell (j := 5) rfl
  have yx0_19 := Xx18.out.thaw 0
  have yx1_19 := Xx18.out.thaw 1
  have yx2_19 := Xx18.out.thaw 2
  have yx3_19 := Xx18.out.thaw 3
  have yx4_19 := Xx18.out.thaw 4
  have yx5_19 := Xx18.out.thaw 5
  cases ok5 with
  | true =>
    have KL := hid ((((((K18.out.set (b := w.heap.size) (j := 0) (v := .int .i64 op) Nr.out).set (b := w.heap.size) (j := 1) (v := .int .i64 tok) Nr.out).set (b := w.heap.size) (j := 2) (v := .int .i64 seq) Nr.out).set (b := w.heap.size) (j := 3) (v := .string key) Nr.out).set (b := w.heap.size) (j := 4) (v := .string val) Nr.out).set (b := w.heap.size) (j := 5) (v := .int .i64 ver) Nr.out)
    have GL := hid (grown_far (b := w.heap.size) (j := 5) (v := .int .i64 ver) (grown_far (b := w.heap.size) (j := 4) (v := .string val) (grown_far (b := w.heap.size) (j := 3) (v := .string key) (grown_far (b := w.heap.size) (j := 2) (v := .int .i64 seq) (grown_far (b := w.heap.size) (j := 1) (v := .int .i64 tok) (grown_far (b := w.heap.size) (j := 0) (v := .int .i64 op) G18.out Mr.out) Mr.out) Mr.out) Mr.out) Mr.out) Mr.out)
    go_wp2
    refine bodyPost_ret (v := .agg #[.int .i64 op, .int .i64 tok, .int .i64 seq, .string key, .string val, .int .i64 ver]) (by simp [results, Tryz.results146, go_sem, zr0_19, zr1_19, zr2_19, zr3_19, zr4_19, zr5_19]) rfl ?_
    exact ⟨⟨op, tok, seq, key, val, ver⟩, rfl, KL.out, GL.out⟩
  | false =>
    have KL := hid ((((((K18.out.set (b := w.heap.size) (j := 0) (v := .int .i64 3) Nr.out).set (b := w.heap.size) (j := 1) (v := .int .i64 1) Nr.out).set (b := w.heap.size) (j := 2) (v := .int .i64 1) Nr.out).set (b := w.heap.size) (j := 3) (v := .string ⟨#[97]⟩) Nr.out).set (b := w.heap.size) (j := 4) (v := .string ⟨#[]⟩) Nr.out).set (b := w.heap.size) (j := 5) (v := .int .i64 0) Nr.out)
    have GL := hid (grown_far (b := w.heap.size) (j := 5) (v := .int .i64 0) (grown_far (b := w.heap.size) (j := 4) (v := .string ⟨#[]⟩) (grown_far (b := w.heap.size) (j := 3) (v := .string ⟨#[97]⟩) (grown_far (b := w.heap.size) (j := 2) (v := .int .i64 1) (grown_far (b := w.heap.size) (j := 1) (v := .int .i64 1) (grown_far (b := w.heap.size) (j := 0) (v := .int .i64 3) G18.out Mr.out) Mr.out) Mr.out) Mr.out) Mr.out) Mr.out)
    go_wp2
    refine bodyPost_ret (v := .agg #[.int .i64 3, .int .i64 1, .int .i64 1, .string ⟨#[97]⟩, .string ⟨#[]⟩, .int .i64 0]) (by simp [results, Tryz.results146, go_sem, zr0_19, zr1_19, zr2_19, zr3_19, zr4_19, zr5_19]) rfl ?_
    exact ⟨⟨3, 1, 1, ⟨#[97]⟩, ⟨#[]⟩, 0⟩, rfl, KL.out, GL.out⟩
end Go.Proofs.YtohmfmajgehadaaGreatDoor
