/-
  The walk of spec.l15AnyCommand: some command, of any keep that lies in memory of the caller's own.
  The walk of spec.l01Text: a text of at most so many bytes.
-/
import Derived.Test.YtihgkocfgjihhaaDoorJoint11
import Derived.Test.YtihgkocfgjihhaaDoorJoint19
import Derived.Test.YtihgkocfgjihhaaDoorJoint2
namespace Go.Proofs.YtihgkocfgjihhaaDoor
open Go.RowKit

def AnyCmdDid (C : Nat) (w : World) (e : Ending) (w' : World) : Prop := ∃ d : CommandD, e = .returned (.agg #[.int .i64 d.op, .int .i64 d.token, .int .i64 d.seq, .string d.key, .string d.val, .int .i64 d.ver]) ∧ CurAt w' C ∧ w.grownBy w' (some C)
set_option maxRecDepth 1000000 in
set_option maxHeartbeats 2000000 in
theorem l15AnyCommand_any (C lo : Nat) (va vb : Option Addr) (vc vd : Nat) (ls : List SessionD) (li : List ItemD) (hl : ls.length ≤ 1048576) (hl2 : li.length ≤ 1048576) (hif : ∀ e ∈ li, itemFine e = true) (hla : ∀ s ∈ ls, (0 ≤ s.token ∧ s.token ≤ 1000000) ∧ 0 ≤ s.last ∧ s.last ≤ 999999) (w : World) (hc : CurAt w C) (hr : KRows w lo (.slice va ls.length vc) (.slice vb li.length vd) ls li) (hCr : C < lo) :
    Calls Tryd.prog 35 #[.pointer (some ⟨C, 0, none⟩), .agg #[.slice va ls.length vc, .slice vb li.length vd]] w fun e w' => AnyCmdDid C w e w' := by
  have hCl := hc.lt
  have K0 := hid hc
  have G0 := hid (World.grownBy.refl w (some C))
  clear hc
  have HR := hid hr
  have HRC := hid hCr
  have HAH := hid hr.ahead
  clear hr hCr
  have be := below_more (below_more (Below.refl w.heap.size w) (.cells #[.slice va ls.length vc, .slice vb li.length vd] 27)) (.cells #[.int .i64 0, .int .i64 0, .int .i64 0, .string ⟨#[]⟩, .string ⟨#[]⟩, .int .i64 0] 37)
  have hx0 : BlockIs (w.alloc (.cells #[.slice va ls.length vc, .slice vb li.length vd] 27)) w.heap.size 27 [.slice va ls.length vc, .slice vb li.length vd] := heap_alloc_new w _
  have hx1 := hx0.on (below_more (Below.refl _ _) (.cells #[.int .i64 0, .int .i64 0, .int .i64 0, .string ⟨#[]⟩, .string ⟨#[]⟩, .int .i64 0] 37)) hx0.lt
  have hx2 : BlockIs ((w.alloc (.cells #[.slice va ls.length vc, .slice vb li.length vd] 27)).alloc (.cells #[.int .i64 0, .int .i64 0, .int .i64 0, .string ⟨#[]⟩, .string ⟨#[]⟩, .int .i64 0] 37)) (w.heap.size + 1) 37 [.int .i64 0, .int .i64 0, .int .i64 0, .string ⟨#[]⟩, .string ⟨#[]⟩, .int .i64 0] := by
    have := heap_alloc_new (w.alloc (.cells #[.slice va ls.length vc, .slice vb li.length vd] 27)) (.cells #[.int .i64 0, .int .i64 0, .int .i64 0, .string ⟨#[]⟩, .string ⟨#[]⟩, .int .i64 0] 37)
    rw [show (w.alloc (.cells #[.slice va ls.length vc, .slice vb li.length vd] 27)).heap.size = w.heap.size + 1 by simp [World.alloc, -World.alloc_eq]] at this
    exact this
  have K1 := hid (K0.out.below be)
  have G1 := hid (grown_below G0.out be)
  have Rk1 := hid (HR.out.on be)
  have Xk1 := hid hx1
  have Nk : Hid (C < w.heap.size) := (show _ < _ by omega)
  have Mk : Hid (w.heap.size ≤ w.heap.size) := (show _ ≤ _ by omega)
  have Xr1 := hid hx2
  have Nr : Hid (C < w.heap.size + 1) := (show _ < _ by omega)
  have Mr : Hid (w.heap.size ≤ w.heap.size + 1) := (show _ ≤ _ by omega)
  have Akr : Hid (w.heap.size < w.heap.size + 1) := (show _ < _ by omega)
  clear be hx1 hx0 hx2 K0 G0 HR
  obtain ⟨W0, hW0⟩ : ∃ W, (w.alloc (.cells #[.slice va ls.length vc, .slice vb li.length vd] 27)).alloc (.cells #[.int .i64 0, .int .i64 0, .int .i64 0, .string ⟨#[]⟩, .string ⟨#[]⟩, .int .i64 0] 37) = W := ⟨_, rfl⟩
  rw [hW0] at K1 G1 Xk1 Xr1
  have zk0_2 := Xk1.out.cell (j := 0) rfl
  have zk1_2 := Xk1.out.cell (j := 1) rfl
  have yk0_2 := Xk1.out.thaw 0
  have yk1_2 := Xk1.out.thaw 1
  have zr0_2 := Xr1.out.cell (j := 0) rfl
  have zr1_2 := Xr1.out.cell (j := 1) rfl
  have zr2_2 := Xr1.out.cell (j := 2) rfl
  have zr3_2 := Xr1.out.cell (j := 3) rfl
  have zr4_2 := Xr1.out.cell (j := 4) rfl
  have zr5_2 := Xr1.out.cell (j := 5) rfl
  have yr0_2 := Xr1.out.thaw 0
  have yr1_2 := Xr1.out.thaw 1
  have yr2_2 := Xr1.out.thaw 2
  have yr3_2 := Xr1.out.thaw 3
  have yr4_2 := Xr1.out.thaw 4
  have yr5_2 := Xr1.out.thaw 5
  rw [hW0] at Rk1
  go_enter Tryd.func35, Tryd.ntmps35
  go_wp2_with fail
  refine Calls.mono (l15Command_any C lo va vb vc vd ls li hl hl2 hif hla _ K1.out Rk1.out HRC.out) ?_
  rintro e w1 ⟨d1, rfl, hok1, k1, q1⟩
  have K3 := hid (k1)
  have G3 := hid (G1.out.trans q1)
  have Xk3 := hid (Xk1.out.cur q1 Nk.out)
  have Xr3 := hid (Xr1.out.cur q1 Nr.out)
  have Rk3 := hid (Rk1.out.cur q1 HRC.out)
  clear k1 q1 K1 G1 zk0_2 zk1_2 yk0_2 yk1_2 zr0_2 zr1_2 zr2_2 zr3_2 zr4_2 zr5_2 yr0_2 yr1_2 yr2_2 yr3_2 yr4_2 yr5_2 Xk1 Xr1 Rk1
  have zk0_4 := Xk3.out.cell (j := 0) rfl
  have zk1_4 := Xk3.out.cell (j := 1) rfl
  have yk0_4 := Xk3.out.thaw 0
  have yk1_4 := Xk3.out.thaw 1
  have zr0_4 := Xr3.out.cell (j := 0) rfl
  have zr1_4 := Xr3.out.cell (j := 1) rfl
  have zr2_4 := Xr3.out.cell (j := 2) rfl
  have zr3_4 := Xr3.out.cell (j := 3) rfl
  have zr4_4 := Xr3.out.cell (j := 4) rfl
  have zr5_4 := Xr3.out.cell (j := 5) rfl
  have yr0_4 := Xr3.out.thaw 0
  have yr1_4 := Xr3.out.thaw 1
  have yr2_4 := Xr3.out.thaw 2
  have yr3_4 := Xr3.out.thaw 3
  have yr4_4 := Xr3.out.thaw 4
  have yr5_4 := Xr3.out.thaw 5
  obtain ⟨op, tk, sq, key, val, ver⟩ := d1
  dsimp only at hok1 ⊢
  clear hok1
  have ba := below_more (Below.refl w1.heap.size w1) (.cells #[.int .i64 op, .int .i64 tk, .int .i64 sq, .string key, .string val, .int .i64 ver] 37)
  have Mx := hid G3.out.size
  have Nx := hid (Nat.lt_of_lt_of_le hCl G3.out.size)
  have hx : BlockIs (w1.alloc (.cells #[.int .i64 op, .int .i64 tk, .int .i64 sq, .string key, .string val, .int .i64 ver] 37)) w1.heap.size 37 [.int .i64 op, .int .i64 tk, .int .i64 sq, .string key, .string val, .int .i64 ver] := heap_alloc_new w1 _
  have Akx := hid Xk3.out.lt
  have Arx := hid Xr3.out.lt
  have K5 := hid (K3.out.below ba)
  have G5 := hid (grown_below G3.out ba)
  have Xk5 := hid (Xk3.out.on ba Xk3.out.lt)
  have Xr5 := hid (Xr3.out.on ba Xr3.out.lt)
  have Rk5 := hid (Rk3.out.on ba)
  have Xx5 := hid hx
  clear hx
  clear ba K3 G3 zk0_4 zk1_4 yk0_4 yk1_4 zr0_4 zr1_4 zr2_4 zr3_4 zr4_4 zr5_4 yr0_4 yr1_4 yr2_4 yr3_4 yr4_4 yr5_4 Xk3 Xr3 Rk3
  have zk0_6 := Xk5.out.cell (j := 0) rfl
  have zk1_6 := Xk5.out.cell (j := 1) rfl
  have yk0_6 := Xk5.out.thaw 0
  have yk1_6 := Xk5.out.thaw 1
  have zr0_6 := Xr5.out.cell (j := 0) rfl
  have zr1_6 := Xr5.out.cell (j := 1) rfl
  have zr2_6 := Xr5.out.cell (j := 2) rfl
  have zr3_6 := Xr5.out.cell (j := 3) rfl
  have zr4_6 := Xr5.out.cell (j := 4) rfl
  have zr5_6 := Xr5.out.cell (j := 5) rfl
  have yr0_6 := Xr5.out.thaw 0
  have yr1_6 := Xr5.out.thaw 1
  have yr2_6 := Xr5.out.thaw 2
  have yr3_6 := Xr5.out.thaw 3
  have yr4_6 := Xr5.out.thaw 4
  have yr5_6 := Xr5.out.thaw 5
  have zx0_6 := Xx5.out.cell (j := 0) rfl
  have zx1_6 := Xx5.out.cell (j := 1) rfl
  have zx2_6 := Xx5.out.cell (j := 2) rfl
  have zx3_6 := Xx5.out.cell (j := 3) rfl
  have zx4_6 := Xx5.out.cell (j := 4) rfl
  have zx5_6 := Xx5.out.cell (j := 5) rfl
  have yx0_6 := Xx5.out.thaw 0
  have yx1_6 := Xx5.out.thaw 1
  have yx2_6 := Xx5.out.thaw 2
  have yx3_6 := Xx5.out.thaw 3
  have yx4_6 := Xx5.out.thaw 4
  have yx5_6 := Xx5.out.thaw 5
  go_wp2_with fail
  refine Calls.mono (l01Below_any C 16 (by omega) (by omega) _ K5.out) ?_
  rintro e w2 ⟨y2, rfl, hy2, hz2, k2, q2⟩
  have K7 := hid (k2)
  have G7 := hid (G5.out.trans q2)
  have Xk7 := hid (Xk5.out.cur q2 Nk.out)
  have Xr7 := hid (Xr5.out.cur q2 Nr.out)
  have Xx7 := hid (Xx5.out.cur q2 Nx.out)
  have Rk7 := hid (Rk5.out.cur q2 HRC.out)
  clear k2 q2 K5 G5 zk0_6 zk1_6 yk0_6 yk1_6 zr0_6 zr1_6 zr2_6 zr3_6 zr4_6 zr5_6 yr0_6 yr1_6 yr2_6 yr3_6 yr4_6 yr5_6 zx0_6 zx1_6 zx2_6 zx3_6 zx4_6 zx5_6 yx0_6 yx1_6 yx2_6 yx3_6 yx4_6 yx5_6 Xk5 Xr5 Xx5 Rk5
  have zk0_8 := Xk7.out.cell (j := 0) rfl
  have zk1_8 := Xk7.out.cell (j := 1) rfl
  have yk0_8 := Xk7.out.thaw 0
  have yk1_8 := Xk7.out.thaw 1
  have zr0_8 := Xr7.out.cell (j := 0) rfl
  have zr1_8 := Xr7.out.cell (j := 1) rfl
  have zr2_8 := Xr7.out.cell (j := 2) rfl
  have zr3_8 := Xr7.out.cell (j := 3) rfl
  have zr4_8 := Xr7.out.cell (j := 4) rfl
  have zr5_8 := Xr7.out.cell (j := 5) rfl
  have yr0_8 := Xr7.out.thaw 0
  have yr1_8 := Xr7.out.thaw 1
  have yr2_8 := Xr7.out.thaw 2
  have yr3_8 := Xr7.out.thaw 3
  have yr4_8 := Xr7.out.thaw 4
  have yr5_8 := Xr7.out.thaw 5
  have zx0_8 := Xx7.out.cell (j := 0) rfl
  have zx1_8 := Xx7.out.cell (j := 1) rfl
  have zx2_8 := Xx7.out.cell (j := 2) rfl
  have zx3_8 := Xx7.out.cell (j := 3) rfl
  have zx4_8 := Xx7.out.cell (j := 4) rfl
  have zx5_8 := Xx7.out.cell (j := 5) rfl
  have yx0_8 := Xx7.out.thaw 0
  have yx1_8 := Xx7.out.thaw 1
  have yx2_8 := Xx7.out.thaw 2
  have yx3_8 := Xx7.out.thaw 3
  have yx4_8 := Xx7.out.thaw 4
  have yx5_8 := Xx7.out.thaw 5
  by_cases q0 : y2 = 0
  · subst q0
    go_wp2_with fail
    refine Calls.mono (l01Below_any C 7 (by omega) (by omega) _ K7.out) ?_
    rintro e w3 ⟨m3, rfl, hu3, hv3, k3, q3⟩
    have K9 := hid (k3)
    have G9 := hid (G7.out.trans q3)
    have Xk9 := hid (Xk7.out.cur q3 Nk.out)
    have Xr9 := hid (Xr7.out.cur q3 Nr.out)
    have Xx9 := hid (Xx7.out.cur q3 Nx.out)
    have Rk9 := hid (Rk7.out.cur q3 HRC.out)
    clear k3 q3 K7 G7 zk0_8 zk1_8 yk0_8 yk1_8 zr0_8 zr1_8 zr2_8 zr3_8 zr4_8 zr5_8 yr0_8 yr1_8 yr2_8 yr3_8 yr4_8 yr5_8 zx0_8 zx1_8 zx2_8 zx3_8 zx4_8 zx5_8 yx0_8 yx1_8 yx2_8 yx3_8 yx4_8 yx5_8 Xk7 Xr7 Xx7 Rk7
    have zk0_10 := Xk9.out.cell (j := 0) rfl
    have zk1_10 := Xk9.out.cell (j := 1) rfl
    have yk0_10 := Xk9.out.thaw 0
    have yk1_10 := Xk9.out.thaw 1
    have zr0_10 := Xr9.out.cell (j := 0) rfl
    have zr1_10 := Xr9.out.cell (j := 1) rfl
    have zr2_10 := Xr9.out.cell (j := 2) rfl
    have zr3_10 := Xr9.out.cell (j := 3) rfl
    have zr4_10 := Xr9.out.cell (j := 4) rfl
    have zr5_10 := Xr9.out.cell (j := 5) rfl
    have yr0_10 := Xr9.out.thaw 0
    have yr1_10 := Xr9.out.thaw 1
    have yr2_10 := Xr9.out.thaw 2
    have yr3_10 := Xr9.out.thaw 3
    have yr4_10 := Xr9.out.thaw 4
    have yr5_10 := Xr9.out.thaw 5
    have zx0_10 := Xx9.out.cell (j := 0) rfl
    have zx1_10 := Xx9.out.cell (j := 1) rfl
    have zx2_10 := Xx9.out.cell (j := 2) rfl
    have zx3_10 := Xx9.out.cell (j := 3) rfl
    have zx4_10 := Xx9.out.cell (j := 4) rfl
    have zx5_10 := Xx9.out.cell (j := 5) rfl
    have yx0_10 := Xx9.out.thaw 0
    have yx1_10 := Xx9.out.thaw 1
    have yx2_10 := Xx9.out.thaw 2
    have yx3_10 := Xx9.out.thaw 3
    have yx4_10 := Xx9.out.thaw 4
    have yx5_10 := Xx9.out.thaw 5
    have Rk11s := hid (Rk9.out.behind (b := w1.heap.size) (j := 0) HAH.out Mx.out (.int .i64 m3))
    have K11 := hid (K9.out.set (b := w1.heap.size) (j := 0) (v := (.int .i64 m3)) Nx.out)
    have G11 := hid (grown_far (b := w1.heap.size) (j := 0) (v := (.int .i64 m3)) G9.out Mx.out)
    have Xk11 := hid (Xk9.out.far (b := w1.heap.size) (j := 0) (by have := Akx.out; omega) (.int .i64 m3))
    have Xr11 := hid (Xr9.out.far (b := w1.heap.size) (j := 0) (by have := Arx.out; omega) (.int .i64 m3))
    have Xx11 : Hid (BlockIs (w3.setCell ⟨w1.heap.size, 0, none⟩ (.int .i64 m3)) (w1.heap.size) 37 [.int .i64 m3, .int .i64 tk, .int .i64 sq, .string key, .string val, .int .i64 ver]) := Xx9.out.set 0 (.int .i64 m3)
    clear K9 G9 Xk9 Xr9 Xx9
    have zk0_12 := Xk11.out.cell (j := 0) rfl
    have zk1_12 := Xk11.out.cell (j := 1) rfl
    have yk0_12 := Xk11.out.thaw 0
    have yk1_12 := Xk11.out.thaw 1
    have zr0_12 := Xr11.out.cell (j := 0) rfl
    have zr1_12 := Xr11.out.cell (j := 1) rfl
    have zr2_12 := Xr11.out.cell (j := 2) rfl
    have zr3_12 := Xr11.out.cell (j := 3) rfl
    have zr4_12 := Xr11.out.cell (j := 4) rfl
    have zr5_12 := Xr11.out.cell (j := 5) rfl
    have yr0_12 := Xr11.out.thaw 0
    have yr1_12 := Xr11.out.thaw 1
    have yr2_12 := Xr11.out.thaw 2
    have yr3_12 := Xr11.out.thaw 3
    have yr4_12 := Xr11.out.thaw 4
    have yr5_12 := Xr11.out.thaw 5
    have zx0_12 := Xx11.out.cell (j := 0) rfl
    have zx1_12 := Xx11.out.cell (j := 1) rfl
    have zx2_12 := Xx11.out.cell (j := 2) rfl
    have zx3_12 := Xx11.out.cell (j := 3) rfl
    have zx4_12 := Xx11.out.cell (j := 4) rfl
    have zx5_12 := Xx11.out.cell (j := 5) rfl
    have yx0_12 := Xx11.out.thaw 0
    have yx1_12 := Xx11.out.thaw 1
    have yx2_12 := Xx11.out.thaw 2
    have yx3_12 := Xx11.out.thaw 3
    have yx4_12 := Xx11.out.thaw 4
    have yx5_12 := Xx11.out.thaw 5
    clear Rk9
    have KL := hid ((((((K11.out.set (b := w.heap.size + 1) (j := 0) (v := .int .i64 m3) Nr.out).set (b := w.heap.size + 1) (j := 1) (v := .int .i64 tk) Nr.out).set (b := w.heap.size + 1) (j := 2) (v := .int .i64 sq) Nr.out).set (b := w.heap.size + 1) (j := 3) (v := .string key) Nr.out).set (b := w.heap.size + 1) (j := 4) (v := .string val) Nr.out).set (b := w.heap.size + 1) (j := 5) (v := .int .i64 ver) Nr.out)
    have GL := hid (grown_far (b := w.heap.size + 1) (j := 5) (v := .int .i64 ver) (grown_far (b := w.heap.size + 1) (j := 4) (v := .string val) (grown_far (b := w.heap.size + 1) (j := 3) (v := .string key) (grown_far (b := w.heap.size + 1) (j := 2) (v := .int .i64 sq) (grown_far (b := w.heap.size + 1) (j := 1) (v := .int .i64 tk) (grown_far (b := w.heap.size + 1) (j := 0) (v := .int .i64 m3) G11.out Mr.out) Mr.out) Mr.out) Mr.out) Mr.out) Mr.out)
    go_wp2
    refine bodyPost_ret (v := .agg #[.int .i64 m3, .int .i64 tk, .int .i64 sq, .string key, .string val, .int .i64 ver]) (by simp [results, Tryd.results35, go_sem, zr0_12, zr1_12, zr2_12, zr3_12, zr4_12, zr5_12]) rfl ?_
    exact ⟨⟨m3, tk, sq, key, val, ver⟩, rfl, KL.out, GL.out⟩
  by_cases q1 : y2 = 1
  · subst q1
    clear q0
    go_wp2_with fail
    refine Calls.mono (pickI_any C [-1, 1000000, 1000001] (by decide) (by decide) 3 _ _ rfl K7.out) ?_
    rintro e w3 ⟨m3, rfl, hm3, k3, q3⟩
    have K9 := hid (k3)
    have G9 := hid (G7.out.trans q3)
    have Xk9 := hid (Xk7.out.cur q3 Nk.out)
    have Xr9 := hid (Xr7.out.cur q3 Nr.out)
    have Xx9 := hid (Xx7.out.cur q3 Nx.out)
    have Rk9 := hid (Rk7.out.cur q3 HRC.out)
    clear k3 q3 K7 G7 zk0_8 zk1_8 yk0_8 yk1_8 zr0_8 zr1_8 zr2_8 zr3_8 zr4_8 zr5_8 yr0_8 yr1_8 yr2_8 yr3_8 yr4_8 yr5_8 zx0_8 zx1_8 zx2_8 zx3_8 zx4_8 zx5_8 yx0_8 yx1_8 yx2_8 yx3_8 yx4_8 yx5_8 Xk7 Xr7 Xx7 Rk7
    have zk0_10 := Xk9.out.cell (j := 0) rfl
    have zk1_10 := Xk9.out.cell (j := 1) rfl
    have yk0_10 := Xk9.out.thaw 0
    have yk1_10 := Xk9.out.thaw 1
    have zr0_10 := Xr9.out.cell (j := 0) rfl
    have zr1_10 := Xr9.out.cell (j := 1) rfl
    have zr2_10 := Xr9.out.cell (j := 2) rfl
    have zr3_10 := Xr9.out.cell (j := 3) rfl
    have zr4_10 := Xr9.out.cell (j := 4) rfl
    have zr5_10 := Xr9.out.cell (j := 5) rfl
    have yr0_10 := Xr9.out.thaw 0
    have yr1_10 := Xr9.out.thaw 1
    have yr2_10 := Xr9.out.thaw 2
    have yr3_10 := Xr9.out.thaw 3
    have yr4_10 := Xr9.out.thaw 4
    have yr5_10 := Xr9.out.thaw 5
    have zx0_10 := Xx9.out.cell (j := 0) rfl
    have zx1_10 := Xx9.out.cell (j := 1) rfl
    have zx2_10 := Xx9.out.cell (j := 2) rfl
    have zx3_10 := Xx9.out.cell (j := 3) rfl
    have zx4_10 := Xx9.out.cell (j := 4) rfl
    have zx5_10 := Xx9.out.cell (j := 5) rfl
    have yx0_10 := Xx9.out.thaw 0
    have yx1_10 := Xx9.out.thaw 1
    have yx2_10 := Xx9.out.thaw 2
    have yx3_10 := Xx9.out.thaw 3
    have yx4_10 := Xx9.out.thaw 4
    have yx5_10 := Xx9.out.thaw 5
    have Rk11s := hid (Rk9.out.behind (b := w1.heap.size) (j := 1) HAH.out Mx.out (.int .i64 m3))
    have K11 := hid (K9.out.set (b := w1.heap.size) (j := 1) (v := (.int .i64 m3)) Nx.out)
    have G11 := hid (grown_far (b := w1.heap.size) (j := 1) (v := (.int .i64 m3)) G9.out Mx.out)
    have Xk11 := hid (Xk9.out.far (b := w1.heap.size) (j := 1) (by have := Akx.out; omega) (.int .i64 m3))
    have Xr11 := hid (Xr9.out.far (b := w1.heap.size) (j := 1) (by have := Arx.out; omega) (.int .i64 m3))
    have Xx11 : Hid (BlockIs (w3.setCell ⟨w1.heap.size, 1, none⟩ (.int .i64 m3)) (w1.heap.size) 37 [.int .i64 op, .int .i64 m3, .int .i64 sq, .string key, .string val, .int .i64 ver]) := Xx9.out.set 1 (.int .i64 m3)
    clear K9 G9 Xk9 Xr9 Xx9
    have zk0_12 := Xk11.out.cell (j := 0) rfl
    have zk1_12 := Xk11.out.cell (j := 1) rfl
    have yk0_12 := Xk11.out.thaw 0
    have yk1_12 := Xk11.out.thaw 1
    have zr0_12 := Xr11.out.cell (j := 0) rfl
    have zr1_12 := Xr11.out.cell (j := 1) rfl
    have zr2_12 := Xr11.out.cell (j := 2) rfl
    have zr3_12 := Xr11.out.cell (j := 3) rfl
    have zr4_12 := Xr11.out.cell (j := 4) rfl
    have zr5_12 := Xr11.out.cell (j := 5) rfl
    have yr0_12 := Xr11.out.thaw 0
    have yr1_12 := Xr11.out.thaw 1
    have yr2_12 := Xr11.out.thaw 2
    have yr3_12 := Xr11.out.thaw 3
    have yr4_12 := Xr11.out.thaw 4
    have yr5_12 := Xr11.out.thaw 5
    have zx0_12 := Xx11.out.cell (j := 0) rfl
    have zx1_12 := Xx11.out.cell (j := 1) rfl
    have zx2_12 := Xx11.out.cell (j := 2) rfl
    have zx3_12 := Xx11.out.cell (j := 3) rfl
    have zx4_12 := Xx11.out.cell (j := 4) rfl
    have zx5_12 := Xx11.out.cell (j := 5) rfl
    have yx0_12 := Xx11.out.thaw 0
    have yx1_12 := Xx11.out.thaw 1
    have yx2_12 := Xx11.out.thaw 2
    have yx3_12 := Xx11.out.thaw 3
    have yx4_12 := Xx11.out.thaw 4
    have yx5_12 := Xx11.out.thaw 5
    clear Rk9
    have KL := hid ((((((K11.out.set (b := w.heap.size + 1) (j := 0) (v := .int .i64 op) Nr.out).set (b := w.heap.size + 1) (j := 1) (v := .int .i64 m3) Nr.out).set (b := w.heap.size + 1) (j := 2) (v := .int .i64 sq) Nr.out).set (b := w.heap.size + 1) (j := 3) (v := .string key) Nr.out).set (b := w.heap.size + 1) (j := 4) (v := .string val) Nr.out).set (b := w.heap.size + 1) (j := 5) (v := .int .i64 ver) Nr.out)
    have GL := hid (grown_far (b := w.heap.size + 1) (j := 5) (v := .int .i64 ver) (grown_far (b := w.heap.size + 1) (j := 4) (v := .string val) (grown_far (b := w.heap.size + 1) (j := 3) (v := .string key) (grown_far (b := w.heap.size + 1) (j := 2) (v := .int .i64 sq) (grown_far (b := w.heap.size + 1) (j := 1) (v := .int .i64 m3) (grown_far (b := w.heap.size + 1) (j := 0) (v := .int .i64 op) G11.out Mr.out) Mr.out) Mr.out) Mr.out) Mr.out) Mr.out)
    go_wp2
    refine bodyPost_ret (v := .agg #[.int .i64 op, .int .i64 m3, .int .i64 sq, .string key, .string val, .int .i64 ver]) (by simp [results, Tryd.results35, go_sem, zr0_12, zr1_12, zr2_12, zr3_12, zr4_12, zr5_12]) rfl ?_
    exact ⟨⟨op, m3, sq, key, val, ver⟩, rfl, KL.out, GL.out⟩
  by_cases q2 : y2 = 2
  · subst q2
    clear q0 q1
    go_wp2_with fail
    refine Calls.mono (pickS_any C [⟨#[]⟩, ⟨#[49, 50, 51, 52, 53, 54, 55, 56]⟩, ⟨#[49, 50, 51, 52, 53, 54, 55, 56, 57]⟩] (by decide) (by decide) 9 (by decide) 9 _ _ rfl K7.out) ?_
    rintro e w3 ⟨m3, rfl, hm3, k3, q3⟩
    have K9 := hid (k3)
    have G9 := hid (G7.out.trans q3)
    have Xk9 := hid (Xk7.out.cur q3 Nk.out)
    have Xr9 := hid (Xr7.out.cur q3 Nr.out)
    have Xx9 := hid (Xx7.out.cur q3 Nx.out)
    have Rk9 := hid (Rk7.out.cur q3 HRC.out)
    clear k3 q3 K7 G7 zk0_8 zk1_8 yk0_8 yk1_8 zr0_8 zr1_8 zr2_8 zr3_8 zr4_8 zr5_8 yr0_8 yr1_8 yr2_8 yr3_8 yr4_8 yr5_8 zx0_8 zx1_8 zx2_8 zx3_8 zx4_8 zx5_8 yx0_8 yx1_8 yx2_8 yx3_8 yx4_8 yx5_8 Xk7 Xr7 Xx7 Rk7
    have zk0_10 := Xk9.out.cell (j := 0) rfl
    have zk1_10 := Xk9.out.cell (j := 1) rfl
    have yk0_10 := Xk9.out.thaw 0
    have yk1_10 := Xk9.out.thaw 1
    have zr0_10 := Xr9.out.cell (j := 0) rfl
    have zr1_10 := Xr9.out.cell (j := 1) rfl
    have zr2_10 := Xr9.out.cell (j := 2) rfl
    have zr3_10 := Xr9.out.cell (j := 3) rfl
    have zr4_10 := Xr9.out.cell (j := 4) rfl
    have zr5_10 := Xr9.out.cell (j := 5) rfl
    have yr0_10 := Xr9.out.thaw 0
    have yr1_10 := Xr9.out.thaw 1
    have yr2_10 := Xr9.out.thaw 2
    have yr3_10 := Xr9.out.thaw 3
    have yr4_10 := Xr9.out.thaw 4
    have yr5_10 := Xr9.out.thaw 5
    have zx0_10 := Xx9.out.cell (j := 0) rfl
    have zx1_10 := Xx9.out.cell (j := 1) rfl
    have zx2_10 := Xx9.out.cell (j := 2) rfl
    have zx3_10 := Xx9.out.cell (j := 3) rfl
    have zx4_10 := Xx9.out.cell (j := 4) rfl
    have zx5_10 := Xx9.out.cell (j := 5) rfl
    have yx0_10 := Xx9.out.thaw 0
    have yx1_10 := Xx9.out.thaw 1
    have yx2_10 := Xx9.out.thaw 2
    have yx3_10 := Xx9.out.thaw 3
    have yx4_10 := Xx9.out.thaw 4
    have yx5_10 := Xx9.out.thaw 5
    have Rk11s := hid (Rk9.out.behind (b := w1.heap.size) (j := 3) HAH.out Mx.out (.string m3))
    have K11 := hid (K9.out.set (b := w1.heap.size) (j := 3) (v := (.string m3)) Nx.out)
    have G11 := hid (grown_far (b := w1.heap.size) (j := 3) (v := (.string m3)) G9.out Mx.out)
    have Xk11 := hid (Xk9.out.far (b := w1.heap.size) (j := 3) (by have := Akx.out; omega) (.string m3))
    have Xr11 := hid (Xr9.out.far (b := w1.heap.size) (j := 3) (by have := Arx.out; omega) (.string m3))
    have Xx11 : Hid (BlockIs (w3.setCell ⟨w1.heap.size, 3, none⟩ (.string m3)) (w1.heap.size) 37 [.int .i64 op, .int .i64 tk, .int .i64 sq, .string m3, .string val, .int .i64 ver]) := Xx9.out.set 3 (.string m3)
    clear K9 G9 Xk9 Xr9 Xx9
    have zk0_12 := Xk11.out.cell (j := 0) rfl
    have zk1_12 := Xk11.out.cell (j := 1) rfl
    have yk0_12 := Xk11.out.thaw 0
    have yk1_12 := Xk11.out.thaw 1
    have zr0_12 := Xr11.out.cell (j := 0) rfl
    have zr1_12 := Xr11.out.cell (j := 1) rfl
    have zr2_12 := Xr11.out.cell (j := 2) rfl
    have zr3_12 := Xr11.out.cell (j := 3) rfl
    have zr4_12 := Xr11.out.cell (j := 4) rfl
    have zr5_12 := Xr11.out.cell (j := 5) rfl
    have yr0_12 := Xr11.out.thaw 0
    have yr1_12 := Xr11.out.thaw 1
    have yr2_12 := Xr11.out.thaw 2
    have yr3_12 := Xr11.out.thaw 3
    have yr4_12 := Xr11.out.thaw 4
    have yr5_12 := Xr11.out.thaw 5
    have zx0_12 := Xx11.out.cell (j := 0) rfl
    have zx1_12 := Xx11.out.cell (j := 1) rfl
    have zx2_12 := Xx11.out.cell (j := 2) rfl
    have zx3_12 := Xx11.out.cell (j := 3) rfl
    have zx4_12 := Xx11.out.cell (j := 4) rfl
    have zx5_12 := Xx11.out.cell (j := 5) rfl
    have yx0_12 := Xx11.out.thaw 0
    have yx1_12 := Xx11.out.thaw 1
    have yx2_12 := Xx11.out.thaw 2
    have yx3_12 := Xx11.out.thaw 3
    have yx4_12 := Xx11.out.thaw 4
    have yx5_12 := Xx11.out.thaw 5
    clear Rk9
    have KL := hid ((((((K11.out.set (b := w.heap.size + 1) (j := 0) (v := .int .i64 op) Nr.out).set (b := w.heap.size + 1) (j := 1) (v := .int .i64 tk) Nr.out).set (b := w.heap.size + 1) (j := 2) (v := .int .i64 sq) Nr.out).set (b := w.heap.size + 1) (j := 3) (v := .string m3) Nr.out).set (b := w.heap.size + 1) (j := 4) (v := .string val) Nr.out).set (b := w.heap.size + 1) (j := 5) (v := .int .i64 ver) Nr.out)
    have GL := hid (grown_far (b := w.heap.size + 1) (j := 5) (v := .int .i64 ver) (grown_far (b := w.heap.size + 1) (j := 4) (v := .string val) (grown_far (b := w.heap.size + 1) (j := 3) (v := .string m3) (grown_far (b := w.heap.size + 1) (j := 2) (v := .int .i64 sq) (grown_far (b := w.heap.size + 1) (j := 1) (v := .int .i64 tk) (grown_far (b := w.heap.size + 1) (j := 0) (v := .int .i64 op) G11.out Mr.out) Mr.out) Mr.out) Mr.out) Mr.out) Mr.out)
    go_wp2
    refine bodyPost_ret (v := .agg #[.int .i64 op, .int .i64 tk, .int .i64 sq, .string m3, .string val, .int .i64 ver]) (by simp [results, Tryd.results35, go_sem, zr0_12, zr1_12, zr2_12, zr3_12, zr4_12, zr5_12]) rfl ?_
    exact ⟨⟨op, tk, sq, m3, val, ver⟩, rfl, KL.out, GL.out⟩
  by_cases q3 : y2 = 3
  · subst q3
    clear q0 q1 q2
    go_wp2_with fail
    refine Calls.mono (pickI_any C [0, 20, 21] (by decide) (by decide) 3 _ _ rfl K7.out) ?_
    rintro e w3 ⟨m3, rfl, hm3, k3, q3⟩
    have K9 := hid (k3)
    have G9 := hid (G7.out.trans q3)
    have Xk9 := hid (Xk7.out.cur q3 Nk.out)
    have Xr9 := hid (Xr7.out.cur q3 Nr.out)
    have Xx9 := hid (Xx7.out.cur q3 Nx.out)
    have Rk9 := hid (Rk7.out.cur q3 HRC.out)
    clear k3 q3 K7 G7 zk0_8 zk1_8 yk0_8 yk1_8 zr0_8 zr1_8 zr2_8 zr3_8 zr4_8 zr5_8 yr0_8 yr1_8 yr2_8 yr3_8 yr4_8 yr5_8 zx0_8 zx1_8 zx2_8 zx3_8 zx4_8 zx5_8 yx0_8 yx1_8 yx2_8 yx3_8 yx4_8 yx5_8 Xk7 Xr7 Xx7 Rk7
    obtain ⟨n3, hn3, rfl⟩ : ∃ n : Nat, n ≤ 21 ∧ m3 = (n : Int) := by
      simp only [List.mem_cons, List.not_mem_nil, or_false] at hm3
      exact ⟨m3.toNat, by omega, by omega⟩
    clear hm3
    have zk0_10 := Xk9.out.cell (j := 0) rfl
    have zk1_10 := Xk9.out.cell (j := 1) rfl
    have yk0_10 := Xk9.out.thaw 0
    have yk1_10 := Xk9.out.thaw 1
    have zr0_10 := Xr9.out.cell (j := 0) rfl
    have zr1_10 := Xr9.out.cell (j := 1) rfl
    have zr2_10 := Xr9.out.cell (j := 2) rfl
    have zr3_10 := Xr9.out.cell (j := 3) rfl
    have zr4_10 := Xr9.out.cell (j := 4) rfl
    have zr5_10 := Xr9.out.cell (j := 5) rfl
    have yr0_10 := Xr9.out.thaw 0
    have yr1_10 := Xr9.out.thaw 1
    have yr2_10 := Xr9.out.thaw 2
    have yr3_10 := Xr9.out.thaw 3
    have yr4_10 := Xr9.out.thaw 4
    have yr5_10 := Xr9.out.thaw 5
    have zx0_10 := Xx9.out.cell (j := 0) rfl
    have zx1_10 := Xx9.out.cell (j := 1) rfl
    have zx2_10 := Xx9.out.cell (j := 2) rfl
    have zx3_10 := Xx9.out.cell (j := 3) rfl
    have zx4_10 := Xx9.out.cell (j := 4) rfl
    have zx5_10 := Xx9.out.cell (j := 5) rfl
    have yx0_10 := Xx9.out.thaw 0
    have yx1_10 := Xx9.out.thaw 1
    have yx2_10 := Xx9.out.thaw 2
    have yx3_10 := Xx9.out.thaw 3
    have yx4_10 := Xx9.out.thaw 4
    have yx5_10 := Xx9.out.thaw 5
    go_wp2_with fail
    refine Calls.mono (l01Long_any n3 (by omega) 66 (by decide) (by decide) _) ?_
    rintro e w4 ⟨m4, rfl, hs4, b4⟩
    have K11 := hid (K9.out.below b4)
    have G11 := hid (grown_below G9.out b4)
    have Xk11 := hid (Xk9.out.on b4 Xk9.out.lt)
    have Xr11 := hid (Xr9.out.on b4 Xr9.out.lt)
    have Xx11 := hid (Xx9.out.on b4 Xx9.out.lt)
    have Rk11 := hid (Rk9.out.on b4)
    clear b4 K9 G9 zk0_10 zk1_10 yk0_10 yk1_10 zr0_10 zr1_10 zr2_10 zr3_10 zr4_10 zr5_10 yr0_10 yr1_10 yr2_10 yr3_10 yr4_10 yr5_10 zx0_10 zx1_10 zx2_10 zx3_10 zx4_10 zx5_10 yx0_10 yx1_10 yx2_10 yx3_10 yx4_10 yx5_10 Xk9 Xr9 Xx9 Rk9
    have zk0_12 := Xk11.out.cell (j := 0) rfl
    have zk1_12 := Xk11.out.cell (j := 1) rfl
    have yk0_12 := Xk11.out.thaw 0
    have yk1_12 := Xk11.out.thaw 1
    have zr0_12 := Xr11.out.cell (j := 0) rfl
    have zr1_12 := Xr11.out.cell (j := 1) rfl
    have zr2_12 := Xr11.out.cell (j := 2) rfl
    have zr3_12 := Xr11.out.cell (j := 3) rfl
    have zr4_12 := Xr11.out.cell (j := 4) rfl
    have zr5_12 := Xr11.out.cell (j := 5) rfl
    have yr0_12 := Xr11.out.thaw 0
    have yr1_12 := Xr11.out.thaw 1
    have yr2_12 := Xr11.out.thaw 2
    have yr3_12 := Xr11.out.thaw 3
    have yr4_12 := Xr11.out.thaw 4
    have yr5_12 := Xr11.out.thaw 5
    have zx0_12 := Xx11.out.cell (j := 0) rfl
    have zx1_12 := Xx11.out.cell (j := 1) rfl
    have zx2_12 := Xx11.out.cell (j := 2) rfl
    have zx3_12 := Xx11.out.cell (j := 3) rfl
    have zx4_12 := Xx11.out.cell (j := 4) rfl
    have zx5_12 := Xx11.out.cell (j := 5) rfl
    have yx0_12 := Xx11.out.thaw 0
    have yx1_12 := Xx11.out.thaw 1
    have yx2_12 := Xx11.out.thaw 2
    have yx3_12 := Xx11.out.thaw 3
    have yx4_12 := Xx11.out.thaw 4
    have yx5_12 := Xx11.out.thaw 5
    have Rk13s := hid (Rk11.out.behind (b := w1.heap.size) (j := 4) HAH.out Mx.out (.string m4))
    have K13 := hid (K11.out.set (b := w1.heap.size) (j := 4) (v := (.string m4)) Nx.out)
    have G13 := hid (grown_far (b := w1.heap.size) (j := 4) (v := (.string m4)) G11.out Mx.out)
    have Xk13 := hid (Xk11.out.far (b := w1.heap.size) (j := 4) (by have := Akx.out; omega) (.string m4))
    have Xr13 := hid (Xr11.out.far (b := w1.heap.size) (j := 4) (by have := Arx.out; omega) (.string m4))
    have Xx13 : Hid (BlockIs (w4.setCell ⟨w1.heap.size, 4, none⟩ (.string m4)) (w1.heap.size) 37 [.int .i64 op, .int .i64 tk, .int .i64 sq, .string key, .string m4, .int .i64 ver]) := Xx11.out.set 4 (.string m4)
    clear K11 G11 Xk11 Xr11 Xx11
    have zk0_14 := Xk13.out.cell (j := 0) rfl
    have zk1_14 := Xk13.out.cell (j := 1) rfl
    have yk0_14 := Xk13.out.thaw 0
    have yk1_14 := Xk13.out.thaw 1
    have zr0_14 := Xr13.out.cell (j := 0) rfl
    have zr1_14 := Xr13.out.cell (j := 1) rfl
    have zr2_14 := Xr13.out.cell (j := 2) rfl
    have zr3_14 := Xr13.out.cell (j := 3) rfl
    have zr4_14 := Xr13.out.cell (j := 4) rfl
    have zr5_14 := Xr13.out.cell (j := 5) rfl
    have yr0_14 := Xr13.out.thaw 0
    have yr1_14 := Xr13.out.thaw 1
    have yr2_14 := Xr13.out.thaw 2
    have yr3_14 := Xr13.out.thaw 3
    have yr4_14 := Xr13.out.thaw 4
    have yr5_14 := Xr13.out.thaw 5
    have zx0_14 := Xx13.out.cell (j := 0) rfl
    have zx1_14 := Xx13.out.cell (j := 1) rfl
    have zx2_14 := Xx13.out.cell (j := 2) rfl
    have zx3_14 := Xx13.out.cell (j := 3) rfl
    have zx4_14 := Xx13.out.cell (j := 4) rfl
    have zx5_14 := Xx13.out.cell (j := 5) rfl
    have yx0_14 := Xx13.out.thaw 0
    have yx1_14 := Xx13.out.thaw 1
    have yx2_14 := Xx13.out.thaw 2
    have yx3_14 := Xx13.out.thaw 3
    have yx4_14 := Xx13.out.thaw 4
    have yx5_14 := Xx13.out.thaw 5
    clear Rk11
    have KL := hid ((((((K13.out.set (b := w.heap.size + 1) (j := 0) (v := .int .i64 op) Nr.out).set (b := w.heap.size + 1) (j := 1) (v := .int .i64 tk) Nr.out).set (b := w.heap.size + 1) (j := 2) (v := .int .i64 sq) Nr.out).set (b := w.heap.size + 1) (j := 3) (v := .string key) Nr.out).set (b := w.heap.size + 1) (j := 4) (v := .string m4) Nr.out).set (b := w.heap.size + 1) (j := 5) (v := .int .i64 ver) Nr.out)
    have GL := hid (grown_far (b := w.heap.size + 1) (j := 5) (v := .int .i64 ver) (grown_far (b := w.heap.size + 1) (j := 4) (v := .string m4) (grown_far (b := w.heap.size + 1) (j := 3) (v := .string key) (grown_far (b := w.heap.size + 1) (j := 2) (v := .int .i64 sq) (grown_far (b := w.heap.size + 1) (j := 1) (v := .int .i64 tk) (grown_far (b := w.heap.size + 1) (j := 0) (v := .int .i64 op) G13.out Mr.out) Mr.out) Mr.out) Mr.out) Mr.out) Mr.out)
    go_wp2
    refine bodyPost_ret (v := .agg #[.int .i64 op, .int .i64 tk, .int .i64 sq, .string key, .string m4, .int .i64 ver]) (by simp [results, Tryd.results35, go_sem, zr0_14, zr1_14, zr2_14, zr3_14, zr4_14, zr5_14]) rfl ?_
    exact ⟨⟨op, tk, sq, key, m4, ver⟩, rfl, KL.out, GL.out⟩
  by_cases q4 : y2 = 4
  · subst q4
    clear q0 q1 q2 q3
    go_wp2_with fail
    refine Calls.mono (pickI_any C [-1, 0, 1, 1000000001] (by decide) (by decide) 3 _ _ rfl K7.out) ?_
    rintro e w3 ⟨m3, rfl, hm3, k3, q3⟩
    have K9 := hid (k3)
    have G9 := hid (G7.out.trans q3)
    have Xk9 := hid (Xk7.out.cur q3 Nk.out)
    have Xr9 := hid (Xr7.out.cur q3 Nr.out)
    have Xx9 := hid (Xx7.out.cur q3 Nx.out)
    have Rk9 := hid (Rk7.out.cur q3 HRC.out)
    clear k3 q3 K7 G7 zk0_8 zk1_8 yk0_8 yk1_8 zr0_8 zr1_8 zr2_8 zr3_8 zr4_8 zr5_8 yr0_8 yr1_8 yr2_8 yr3_8 yr4_8 yr5_8 zx0_8 zx1_8 zx2_8 zx3_8 zx4_8 zx5_8 yx0_8 yx1_8 yx2_8 yx3_8 yx4_8 yx5_8 Xk7 Xr7 Xx7 Rk7
    have zk0_10 := Xk9.out.cell (j := 0) rfl
    have zk1_10 := Xk9.out.cell (j := 1) rfl
    have yk0_10 := Xk9.out.thaw 0
    have yk1_10 := Xk9.out.thaw 1
    have zr0_10 := Xr9.out.cell (j := 0) rfl
    have zr1_10 := Xr9.out.cell (j := 1) rfl
    have zr2_10 := Xr9.out.cell (j := 2) rfl
    have zr3_10 := Xr9.out.cell (j := 3) rfl
    have zr4_10 := Xr9.out.cell (j := 4) rfl
    have zr5_10 := Xr9.out.cell (j := 5) rfl
    have yr0_10 := Xr9.out.thaw 0
    have yr1_10 := Xr9.out.thaw 1
    have yr2_10 := Xr9.out.thaw 2
    have yr3_10 := Xr9.out.thaw 3
    have yr4_10 := Xr9.out.thaw 4
    have yr5_10 := Xr9.out.thaw 5
    have zx0_10 := Xx9.out.cell (j := 0) rfl
    have zx1_10 := Xx9.out.cell (j := 1) rfl
    have zx2_10 := Xx9.out.cell (j := 2) rfl
    have zx3_10 := Xx9.out.cell (j := 3) rfl
    have zx4_10 := Xx9.out.cell (j := 4) rfl
    have zx5_10 := Xx9.out.cell (j := 5) rfl
    have yx0_10 := Xx9.out.thaw 0
    have yx1_10 := Xx9.out.thaw 1
    have yx2_10 := Xx9.out.thaw 2
    have yx3_10 := Xx9.out.thaw 3
    have yx4_10 := Xx9.out.thaw 4
    have yx5_10 := Xx9.out.thaw 5
    have Rk11s := hid (Rk9.out.behind (b := w1.heap.size) (j := 5) HAH.out Mx.out (.int .i64 m3))
    have K11 := hid (K9.out.set (b := w1.heap.size) (j := 5) (v := (.int .i64 m3)) Nx.out)
    have G11 := hid (grown_far (b := w1.heap.size) (j := 5) (v := (.int .i64 m3)) G9.out Mx.out)
    have Xk11 := hid (Xk9.out.far (b := w1.heap.size) (j := 5) (by have := Akx.out; omega) (.int .i64 m3))
    have Xr11 := hid (Xr9.out.far (b := w1.heap.size) (j := 5) (by have := Arx.out; omega) (.int .i64 m3))
    have Xx11 : Hid (BlockIs (w3.setCell ⟨w1.heap.size, 5, none⟩ (.int .i64 m3)) (w1.heap.size) 37 [.int .i64 op, .int .i64 tk, .int .i64 sq, .string key, .string val, .int .i64 m3]) := Xx9.out.set 5 (.int .i64 m3)
    clear K9 G9 Xk9 Xr9 Xx9
    have zk0_12 := Xk11.out.cell (j := 0) rfl
    have zk1_12 := Xk11.out.cell (j := 1) rfl
    have yk0_12 := Xk11.out.thaw 0
    have yk1_12 := Xk11.out.thaw 1
    have zr0_12 := Xr11.out.cell (j := 0) rfl
    have zr1_12 := Xr11.out.cell (j := 1) rfl
    have zr2_12 := Xr11.out.cell (j := 2) rfl
    have zr3_12 := Xr11.out.cell (j := 3) rfl
    have zr4_12 := Xr11.out.cell (j := 4) rfl
    have zr5_12 := Xr11.out.cell (j := 5) rfl
    have yr0_12 := Xr11.out.thaw 0
    have yr1_12 := Xr11.out.thaw 1
    have yr2_12 := Xr11.out.thaw 2
    have yr3_12 := Xr11.out.thaw 3
    have yr4_12 := Xr11.out.thaw 4
    have yr5_12 := Xr11.out.thaw 5
    have zx0_12 := Xx11.out.cell (j := 0) rfl
    have zx1_12 := Xx11.out.cell (j := 1) rfl
    have zx2_12 := Xx11.out.cell (j := 2) rfl
    have zx3_12 := Xx11.out.cell (j := 3) rfl
    have zx4_12 := Xx11.out.cell (j := 4) rfl
    have zx5_12 := Xx11.out.cell (j := 5) rfl
    have yx0_12 := Xx11.out.thaw 0
    have yx1_12 := Xx11.out.thaw 1
    have yx2_12 := Xx11.out.thaw 2
    have yx3_12 := Xx11.out.thaw 3
    have yx4_12 := Xx11.out.thaw 4
    have yx5_12 := Xx11.out.thaw 5
    clear Rk9
    have KL := hid ((((((K11.out.set (b := w.heap.size + 1) (j := 0) (v := .int .i64 op) Nr.out).set (b := w.heap.size + 1) (j := 1) (v := .int .i64 tk) Nr.out).set (b := w.heap.size + 1) (j := 2) (v := .int .i64 sq) Nr.out).set (b := w.heap.size + 1) (j := 3) (v := .string key) Nr.out).set (b := w.heap.size + 1) (j := 4) (v := .string val) Nr.out).set (b := w.heap.size + 1) (j := 5) (v := .int .i64 m3) Nr.out)
    have GL := hid (grown_far (b := w.heap.size + 1) (j := 5) (v := .int .i64 m3) (grown_far (b := w.heap.size + 1) (j := 4) (v := .string val) (grown_far (b := w.heap.size + 1) (j := 3) (v := .string key) (grown_far (b := w.heap.size + 1) (j := 2) (v := .int .i64 sq) (grown_far (b := w.heap.size + 1) (j := 1) (v := .int .i64 tk) (grown_far (b := w.heap.size + 1) (j := 0) (v := .int .i64 op) G11.out Mr.out) Mr.out) Mr.out) Mr.out) Mr.out) Mr.out)
    go_wp2
    refine bodyPost_ret (v := .agg #[.int .i64 op, .int .i64 tk, .int .i64 sq, .string key, .string val, .int .i64 m3]) (by simp [results, Tryd.results35, go_sem, zr0_12, zr1_12, zr2_12, zr3_12, zr4_12, zr5_12]) rfl ?_
    exact ⟨⟨op, tk, sq, key, val, m3⟩, rfl, KL.out, GL.out⟩
  have q0' : (y2 == 0) = false := by simpa using q0
  have q1' : (y2 == 1) = false := by simpa using q1
  have q2' : (y2 == 2) = false := by simpa using q2
  have q3' : (y2 == 3) = false := by simpa using q3
  have q4' : (y2 == 4) = false := by simpa using q4
  have KL := hid ((((((K7.out.set (b := w.heap.size + 1) (j := 0) (v := .int .i64 op) Nr.out).set (b := w.heap.size + 1) (j := 1) (v := .int .i64 tk) Nr.out).set (b := w.heap.size + 1) (j := 2) (v := .int .i64 sq) Nr.out).set (b := w.heap.size + 1) (j := 3) (v := .string key) Nr.out).set (b := w.heap.size + 1) (j := 4) (v := .string val) Nr.out).set (b := w.heap.size + 1) (j := 5) (v := .int .i64 ver) Nr.out)
  have GL := hid (grown_far (b := w.heap.size + 1) (j := 5) (v := .int .i64 ver) (grown_far (b := w.heap.size + 1) (j := 4) (v := .string val) (grown_far (b := w.heap.size + 1) (j := 3) (v := .string key) (grown_far (b := w.heap.size + 1) (j := 2) (v := .int .i64 sq) (grown_far (b := w.heap.size + 1) (j := 1) (v := .int .i64 tk) (grown_far (b := w.heap.size + 1) (j := 0) (v := .int .i64 op) G7.out Mr.out) Mr.out) Mr.out) Mr.out) Mr.out) Mr.out)
  go_wp2
  refine bodyPost_ret (v := .agg #[.int .i64 op, .int .i64 tk, .int .i64 sq, .string key, .string val, .int .i64 ver]) (by simp [results, Tryd.results35, go_sem, zr0_8, zr1_8, zr2_8, zr3_8, zr4_8, zr5_8]) rfl ?_
  exact ⟨⟨op, tk, sq, key, val, ver⟩, rfl, KL.out, GL.out⟩
end Go.Proofs.YtihgkocfgjihhaaDoor

namespace Go.Proofs.YtihgkocfgjihhaaDoor
open Go.RowKit

theorem curText_info5 : (Tryd.prog.info? 5).map (fun i => (i.zero, i.size, i.bytes)) = some (some (.int .u8 0), 1, 1) := by kernel_rfl

/-- the row and the cursor behind a round -/
theorem text_step {C k : Nat} {l : List UInt8} {w wr w2 w1 : World} {v v' : Value} {B : Obj} {x : Int} (hC : C < w.heap.size) (x0 : 0 ≤ x) (x1 : x ≤ 255) (hl : l.length = k)
    (hown : wr.ownsRow w.heap.size 5 1 v k (cs l)) (hgr : w.grownBy wr (some C)) (k2 : CurAt w2 C) (q2 : wr.grownBy w2 (some C))
    (hown' : w1.ownsRow w.heap.size 5 1 v' (k + 1) (cs l ++ [.int .u8 x])) (hgrow : (w2.alloc B).grownBy w1 v.ownBlock) :
    (∃ l', l'.length = k + 1 ∧ w1.ownsRow w.heap.size 5 1 v' (k + 1) (cs l')) ∧ CurAt w1 C ∧ w.grownBy w1 (some C) := by
  have hr : ∀ j, v.ownBlock = some j → w.heap.size ≤ j := fun j hj => (hown.lt j hj).1
  refine ⟨⟨l ++ [UInt8.ofNat x.toNat], by simp [hl], by rw [cs_append, ← cs_one x0 x1]; exact hown'⟩, ?_, ?_⟩
  · exact (k2.kept (World.grownBy_alloc w2 B none) (fun j h => by cases h)).kept hgrow (fun j hj => by have := hr j hj; omega)
  · have q3 : w.grownBy w2 (some C) := hgr.trans q2
    have q4 : w.grownBy (w2.alloc B) (some C) := q3.trans (World.grownBy_alloc w2 B (some C))
    refine ⟨hgrow.os.trans q4.os, hgrow.tape.trans q4.tape, hgrow.output.trans q4.output, Nat.le_trans q4.size hgrow.size, fun j hj hne => ?_⟩
    rw [hgrow.block j (by have := q4.size; omega) (fun e => by have := hr j e.symm; omega)]
    exact q4.block j hj hne

theorem kept_cur {w w2 : World} {base C : Nat} {v : Value} {n : Nat} {xs : List Value} (h : w.ownsRow base 5 1 v n xs) (hg : w.grownBy w2 (some C)) (hC : C < base) : w2.ownsRow base 5 1 v n xs := by
  refine h.kept hg ?_
  cases hv : v.ownBlock with
  | none => exact Or.inl rfl
  | some g =>
    refine Or.inr fun e => ?_
    have := (h.lt g hv).1
    simp at e
    omega

set_option maxRecDepth 1000000 in
set_option maxHeartbeats 1000000 in
theorem l01Text_any (C : Nat) (n : Nat) (hn : n ≤ 5000) (w : World) (hc : CurAt w C) :
    Calls Tryd.prog 60 #[.pointer (some ⟨C, 0, none⟩), .int .i64 n] w fun e w' => ∃ s : ByteArray, e = .returned (.string s) ∧ s.size = n ∧ CurAt w' C ∧ w.grownBy w' (some C) := by
  obtain ⟨i0, hi, hz0, hz1, hz2⟩ := info_parts curText_info5
  have hCl := hc.lt
  have HC := (show Hid (CurAt w C) from hc)
  clear hc
  have g0 : ¬ (5000 : Int) < (n : Int) := by omega
  go_enter Tryd.func60, Tryd.ntmps60
  go_wp2
  go_loopw [5, 6] (fun v i wr => ∃ (k : Nat) (l : List UInt8), k ≤ n ∧ i = .int .i64 k ∧ l.length = k ∧ wr.ownsRow w.heap.size 5 1 v k (cs l) ∧ Hid (CurAt wr C) ∧ Hid (w.grownBy wr (some C))) (fun _ i _ => n - (intOf i).toNat)
  case atStart => exact ⟨0, [], Nat.zero_le _, rfl, rfl, World.ownsRow_made w #[] 0 (Nat.le_refl _) (Nat.zero_le _) rfl, HC.out.kept (World.grownBy_alloc w _ none) (fun j h => by cases h), World.grownBy_alloc w _ (some C)⟩
  case round =>
    obtain ⟨k, l, hk, rfl, hl, hown, KC, GC⟩ := hrel
    have hsz := GC.out.size
    by_cases hlt : k < n
    · go_wp2_with fail
      refine (l01Byte_any C _ KC.out).mono ?_
      rintro e w2 ⟨x, rfl, x0, x1, k2, q2⟩
      have hown2 := kept_cur hown q2 hCl
      have hsz2 := q2.size
      have K2 := (show Hid (CurAt w2 C) from k2)
      have Q2 := (show Hid (wr.grownBy w2 (some C)) from q2)
      have HL := (show Hid _ from hl)
      clear k2 q2 hl
      go_wp2_with (at_builtin; refine wpList_append_own _ rfl (.tmp 15) (.tmp 19) 22 rfl w.heap.size 5 i0 (.int .u8 0) 1 1 Tryd.underlying22 hi hz0 hz1 hz2 rfl (by decide) _ _ _ rfl (hown2.alloc _) ⟨w2.heap.size, 0, none⟩ 1 1 [.int .u8 x] rfl rfl (one_new _ _ _) (by intro u hu; simp at hu; subst hu; rfl) (by unfold maxLen; omega) (by omega) (by simp; omega) ?_)
      intro v' w1 hown' hgrow _
      obtain ⟨⟨l', r1, r2⟩, r3, r4⟩ := text_step hCl x0 x1 HL.out hown GC.out K2.out Q2.out hown' hgrow
      have R1 := (show Hid _ from r1)
      have R3 := (show Hid (CurAt w1 C) from r3)
      have R4 := (show Hid (w.grownBy w1 (some C)) from r4)
      clear hown' hgrow hown hown2 r1 r3 r4
      go_wp2
      go_roundw
      case rel => exact ⟨k + 1, l', by omega, by go_num, R1.out, r2, R3, R4⟩
      case measure => simp [intOf]; omega
    · have HL : Hid (l.length = n) := by show _ = _; omega
      have hown2 : wr.ownsRow w.heap.size 5 1 u5 l.length (cs l) := by rw [hl]; exact hown
      have hcv := text_of_row (P := Tryd.prog) Tryd.underlying22 Tryd.underlying5 Tryd.underlying9 hown2
      clear hown hown2 hl
      go_wp2
      go_ret
      exact ⟨_, rfl, by simp [ByteArray.size, HL.out], KC.out, GC.out⟩
end Go.Proofs.YtihgkocfgjihhaaDoor
