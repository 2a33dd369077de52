/-
  The walk of spec.l15Command: some command, of any keep that lies in memory of the caller's own.
  The walk of spec.l15Copy: a keep is laid anew, in memory of its own.
-/
import Derived.Test.YtoanhjjigbjecaaGreatDoorJoint6
import Derived.Test.YtoanhjjigbjecaaGreatDoorJoint7
import Derived.Test.YtoanhjjigbjecaaGreatDoorJoint1
namespace Go.Proofs.YtoanhjjigbjecaaGreatDoor
open Go.RowKit

def CmdDid (C : Nat) (w : World) (e : Ending) (w' : World) : Prop := ∃ d : CommandD, e = .returned (.agg #[.int .i64 d.op, .int .i64 d.token, .int .i64 d.seq, .string d.key, .string d.val, .int .i64 d.ver]) ∧ commandOk d = true ∧ CurAt w' C ∧ w.grownBy w' (some C)
set_option maxRecDepth 1000000 in
set_option maxHeartbeats 4000000 in
theorem l15Command_any (C lo : Nat) (va vb : Option Addr) (vc vd : Nat) (ls : List SessionD) (li : List ItemD) (hl : ls.length ≤ 1048576) (hl2 : li.length ≤ 1048576) (hif : ∀ e ∈ li, itemFine e = true) (hla : ∀ s ∈ ls, (0 ≤ s.token ∧ s.token ≤ 1000000) ∧ 0 ≤ s.last ∧ s.last ≤ 999999) (w : World) (hc : CurAt w C) (hr : KRows w lo (.slice va ls.length vc) (.slice vb li.length vd) ls li) (hCr : C < lo) :
    Calls Tryz.prog 54 #[.pointer (some ⟨C, 0, none⟩), .agg #[.slice va ls.length vc, .slice vb li.length vd]] w fun e w' => CmdDid C w e w' := by
  have hCl := hc.lt
  have K0 := hid hc
  have G0 := hid (World.grownBy.refl w (some C))
  clear hc
  have HR := hid hr
  have HRC := hid hCr
  have HAH := hid hr.ahead
  have HLA := hid hla
  clear hr hCr hla
  by_cases hne : ls = []
  · subst hne
    have HR2 : Hid (KRows w lo (.slice va 0 vc) (.slice vb li.length vd) [] li) := HR
    clear HR
    have be := below_more (below_more (Below.refl w.heap.size w) (.cells #[.slice va 0 vc, .slice vb li.length vd] 56)) (.cells #[.int .i64 0, .int .i64 0, .int .i64 0, .string ⟨#[]⟩, .string ⟨#[]⟩, .int .i64 0] 94)
    have hx0 : BlockIs (w.alloc (.cells #[.slice va 0 vc, .slice vb li.length vd] 56)) w.heap.size 56 [.slice va 0 vc, .slice vb li.length vd] := heap_alloc_new w _
    have hx1 := hx0.on (below_more (Below.refl _ _) (.cells #[.int .i64 0, .int .i64 0, .int .i64 0, .string ⟨#[]⟩, .string ⟨#[]⟩, .int .i64 0] 94)) hx0.lt
    have hx2 : BlockIs ((w.alloc (.cells #[.slice va 0 vc, .slice vb li.length vd] 56)).alloc (.cells #[.int .i64 0, .int .i64 0, .int .i64 0, .string ⟨#[]⟩, .string ⟨#[]⟩, .int .i64 0] 94)) (w.heap.size + 1) 94 [.int .i64 0, .int .i64 0, .int .i64 0, .string ⟨#[]⟩, .string ⟨#[]⟩, .int .i64 0] := by
      have := heap_alloc_new (w.alloc (.cells #[.slice va 0 vc, .slice vb li.length vd] 56)) (.cells #[.int .i64 0, .int .i64 0, .int .i64 0, .string ⟨#[]⟩, .string ⟨#[]⟩, .int .i64 0] 94)
      rw [show (w.alloc (.cells #[.slice va 0 vc, .slice vb li.length vd] 56)).heap.size = w.heap.size + 1 by simp [World.alloc, -World.alloc_eq]] at this
      exact this
    have K1 := hid (K0.out.below be)
    have G1 := hid (grown_below G0.out be)
    have Rk1 := hid (HR2.out.on be)
    have Xk1 := hid hx1
    have Nk : Hid (C < w.heap.size) := (show _ < _ by omega)
    have Mk : Hid (w.heap.size ≤ w.heap.size) := (show _ ≤ _ by omega)
    have Xr1 := hid hx2
    have Nr : Hid (C < w.heap.size + 1) := (show _ < _ by omega)
    have Mr : Hid (w.heap.size ≤ w.heap.size + 1) := (show _ ≤ _ by omega)
    have Akr : Hid (w.heap.size < w.heap.size + 1) := (show _ < _ by omega)
    clear be hx1 hx0 hx2 K0 G0 HR2
    obtain ⟨W0, hW0⟩ : ∃ W, (w.alloc (.cells #[.slice va 0 vc, .slice vb li.length vd] 56)).alloc (.cells #[.int .i64 0, .int .i64 0, .int .i64 0, .string ⟨#[]⟩, .string ⟨#[]⟩, .int .i64 0] 94) = W := ⟨_, rfl⟩
    rw [hW0] at K1 G1 Xk1 Xr1
    have zk0_2 := Xk1.out.cell (j := 0) rfl
    have zk1_2 := Xk1.out.cell (j := 1) rfl
    have yk0_2 := Xk1.out.thaw 0
    have yk1_2 := Xk1.out.thaw 1
    have zr0_2 := Xr1.out.cell (j := 0) rfl
    have zr1_2 := Xr1.out.cell (j := 1) rfl
    have zr2_2 := Xr1.out.cell (j := 2) rfl
    have zr3_2 := Xr1.out.cell (j := 3) rfl
    have zr4_2 := Xr1.out.cell (j := 4) rfl
    have zr5_2 := Xr1.out.cell (j := 5) rfl
    have yr0_2 := Xr1.out.thaw 0
    have yr1_2 := Xr1.out.thaw 1
    have yr2_2 := Xr1.out.thaw 2
    have yr3_2 := Xr1.out.thaw 3
    have yr4_2 := Xr1.out.thaw 4
    have yr5_2 := Xr1.out.thaw 5
    go_enter Tryz.func54, Tryz.ntmps54
    have KL := hid ((((((K1.out.set (b := w.heap.size + 1) (j := 0) (v := .int .i64 1) Nr.out).set (b := w.heap.size + 1) (j := 1) (v := .int .i64 0) Nr.out).set (b := w.heap.size + 1) (j := 2) (v := .int .i64 0) Nr.out).set (b := w.heap.size + 1) (j := 3) (v := .string ⟨#[]⟩) Nr.out).set (b := w.heap.size + 1) (j := 4) (v := .string ⟨#[]⟩) Nr.out).set (b := w.heap.size + 1) (j := 5) (v := .int .i64 0) Nr.out)
    have GL := hid (grown_far (b := w.heap.size + 1) (j := 5) (v := .int .i64 0) (grown_far (b := w.heap.size + 1) (j := 4) (v := .string ⟨#[]⟩) (grown_far (b := w.heap.size + 1) (j := 3) (v := .string ⟨#[]⟩) (grown_far (b := w.heap.size + 1) (j := 2) (v := .int .i64 0) (grown_far (b := w.heap.size + 1) (j := 1) (v := .int .i64 0) (grown_far (b := w.heap.size + 1) (j := 0) (v := .int .i64 1) G1.out Mr.out) Mr.out) Mr.out) Mr.out) Mr.out) Mr.out)
    go_wp2
    refine bodyPost_ret (v := .agg #[.int .i64 1, .int .i64 0, .int .i64 0, .string ⟨#[]⟩, .string ⟨#[]⟩, .int .i64 0]) (by simp [results, Tryz.results54, go_sem, zr0_2, zr1_2, zr2_2, zr3_2, zr4_2, zr5_2]) rfl ?_
    exact ⟨⟨1, 0, 0, ⟨#[]⟩, ⟨#[]⟩, 0⟩, rfl, ((by decide)), KL.out, GL.out⟩
  have hpos : 0 < ls.length := List.length_pos_iff.2 hne
  have hz0 : ¬ (ls.length : Int) = 0 := by omega
  obtain ⟨g, rr, hva, _, _⟩ := row_blockK hpos HR.out.1
  subst hva
  have be := below_more (below_more (Below.refl w.heap.size w) (.cells #[.slice (some ⟨g, 0, none⟩) ls.length vc, .slice vb li.length vd] 56)) (.cells #[.int .i64 0, .int .i64 0, .int .i64 0, .string ⟨#[]⟩, .string ⟨#[]⟩, .int .i64 0] 94)
  have hx0 : BlockIs (w.alloc (.cells #[.slice (some ⟨g, 0, none⟩) ls.length vc, .slice vb li.length vd] 56)) w.heap.size 56 [.slice (some ⟨g, 0, none⟩) ls.length vc, .slice vb li.length vd] := heap_alloc_new w _
  have hx1 := hx0.on (below_more (Below.refl _ _) (.cells #[.int .i64 0, .int .i64 0, .int .i64 0, .string ⟨#[]⟩, .string ⟨#[]⟩, .int .i64 0] 94)) hx0.lt
  have hx2 : BlockIs ((w.alloc (.cells #[.slice (some ⟨g, 0, none⟩) ls.length vc, .slice vb li.length vd] 56)).alloc (.cells #[.int .i64 0, .int .i64 0, .int .i64 0, .string ⟨#[]⟩, .string ⟨#[]⟩, .int .i64 0] 94)) (w.heap.size + 1) 94 [.int .i64 0, .int .i64 0, .int .i64 0, .string ⟨#[]⟩, .string ⟨#[]⟩, .int .i64 0] := by
    have := heap_alloc_new (w.alloc (.cells #[.slice (some ⟨g, 0, none⟩) ls.length vc, .slice vb li.length vd] 56)) (.cells #[.int .i64 0, .int .i64 0, .int .i64 0, .string ⟨#[]⟩, .string ⟨#[]⟩, .int .i64 0] 94)
    rw [show (w.alloc (.cells #[.slice (some ⟨g, 0, none⟩) ls.length vc, .slice vb li.length vd] 56)).heap.size = w.heap.size + 1 by simp [World.alloc, -World.alloc_eq]] at this
    exact this
  have K1 := hid (K0.out.below be)
  have G1 := hid (grown_below G0.out be)
  have Rk1 := hid (HR.out.on be)
  have Xk1 := hid hx1
  have Nk : Hid (C < w.heap.size) := (show _ < _ by omega)
  have Mk : Hid (w.heap.size ≤ w.heap.size) := (show _ ≤ _ by omega)
  have Xr1 := hid hx2
  have Nr : Hid (C < w.heap.size + 1) := (show _ < _ by omega)
  have Mr : Hid (w.heap.size ≤ w.heap.size + 1) := (show _ ≤ _ by omega)
  have Akr : Hid (w.heap.size < w.heap.size + 1) := (show _ < _ by omega)
  clear be hx1 hx0 hx2 K0 G0 HR
  obtain ⟨W0, hW0⟩ : ∃ W, (w.alloc (.cells #[.slice (some ⟨g, 0, none⟩) ls.length vc, .slice vb li.length vd] 56)).alloc (.cells #[.int .i64 0, .int .i64 0, .int .i64 0, .string ⟨#[]⟩, .string ⟨#[]⟩, .int .i64 0] 94) = W := ⟨_, rfl⟩
  rw [hW0] at K1 G1 Xk1 Xr1
  have zk0_2 := Xk1.out.cell (j := 0) rfl
  have zk1_2 := Xk1.out.cell (j := 1) rfl
  have yk0_2 := Xk1.out.thaw 0
  have yk1_2 := Xk1.out.thaw 1
  have zr0_2 := Xr1.out.cell (j := 0) rfl
  have zr1_2 := Xr1.out.cell (j := 1) rfl
  have zr2_2 := Xr1.out.cell (j := 2) rfl
  have zr3_2 := Xr1.out.cell (j := 3) rfl
  have zr4_2 := Xr1.out.cell (j := 4) rfl
  have zr5_2 := Xr1.out.cell (j := 5) rfl
  have yr0_2 := Xr1.out.thaw 0
  have yr1_2 := Xr1.out.thaw 1
  have yr2_2 := Xr1.out.thaw 2
  have yr3_2 := Xr1.out.thaw 3
  have yr4_2 := Xr1.out.thaw 4
  have yr5_2 := Xr1.out.thaw 5
  rw [hW0] at Rk1
  go_enter Tryz.func54, Tryz.ntmps54
  go_wp2_with fail
  refine Calls.mono (l01Once_any C 16 (by omega) (by omega) _ K1.out) ?_
  rintro e w1 ⟨b1, rfl, k1, q1⟩
  have K3 := hid (k1)
  have G3 := hid (G1.out.trans q1)
  have Xk3 := hid (Xk1.out.cur q1 Nk.out)
  have Xr3 := hid (Xr1.out.cur q1 Nr.out)
  have Rk3 := hid (Rk1.out.cur q1 HRC.out)
  clear k1 q1 K1 G1 zk0_2 zk1_2 yk0_2 yk1_2 zr0_2 zr1_2 zr2_2 zr3_2 zr4_2 zr5_2 yr0_2 yr1_2 yr2_2 yr3_2 yr4_2 yr5_2 Xk1 Xr1 Rk1
  have zk0_4 := Xk3.out.cell (j := 0) rfl
  have zk1_4 := Xk3.out.cell (j := 1) rfl
  have yk0_4 := Xk3.out.thaw 0
  have yk1_4 := Xk3.out.thaw 1
  have zr0_4 := Xr3.out.cell (j := 0) rfl
  have zr1_4 := Xr3.out.cell (j := 1) rfl
  have zr2_4 := Xr3.out.cell (j := 2) rfl
  have zr3_4 := Xr3.out.cell (j := 3) rfl
  have zr4_4 := Xr3.out.cell (j := 4) rfl
  have zr5_4 := Xr3.out.cell (j := 5) rfl
  have yr0_4 := Xr3.out.thaw 0
  have yr1_4 := Xr3.out.thaw 1
  have yr2_4 := Xr3.out.thaw 2
  have yr3_4 := Xr3.out.thaw 3
  have yr4_4 := Xr3.out.thaw 4
  have yr5_4 := Xr3.out.thaw 5
  cases b1 with
  | true =>
    have KL := hid ((((((K3.out.set (b := w.heap.size + 1) (j := 0) (v := .int .i64 1) Nr.out).set (b := w.heap.size + 1) (j := 1) (v := .int .i64 0) Nr.out).set (b := w.heap.size + 1) (j := 2) (v := .int .i64 0) Nr.out).set (b := w.heap.size + 1) (j := 3) (v := .string ⟨#[]⟩) Nr.out).set (b := w.heap.size + 1) (j := 4) (v := .string ⟨#[]⟩) Nr.out).set (b := w.heap.size + 1) (j := 5) (v := .int .i64 0) Nr.out)
    have GL := hid (grown_far (b := w.heap.size + 1) (j := 5) (v := .int .i64 0) (grown_far (b := w.heap.size + 1) (j := 4) (v := .string ⟨#[]⟩) (grown_far (b := w.heap.size + 1) (j := 3) (v := .string ⟨#[]⟩) (grown_far (b := w.heap.size + 1) (j := 2) (v := .int .i64 0) (grown_far (b := w.heap.size + 1) (j := 1) (v := .int .i64 0) (grown_far (b := w.heap.size + 1) (j := 0) (v := .int .i64 1) G3.out Mr.out) Mr.out) Mr.out) Mr.out) Mr.out) Mr.out)
    go_wp2
    refine bodyPost_ret (v := .agg #[.int .i64 1, .int .i64 0, .int .i64 0, .string ⟨#[]⟩, .string ⟨#[]⟩, .int .i64 0]) (by simp [results, Tryz.results54, go_sem, zr0_4, zr1_4, zr2_4, zr3_4, zr4_4, zr5_4]) rfl ?_
    exact ⟨⟨1, 0, 0, ⟨#[]⟩, ⟨#[]⟩, 0⟩, rfl, ((by decide)), KL.out, GL.out⟩
  | false =>
  go_wp2_with fail
  refine Calls.mono (l15Of_any C lo (some ⟨g, 0, none⟩) vb vc vd ls li hl2 hif _ K3.out Rk3.out HRC.out) ?_
  rintro e w2 ⟨d2, rfl, hok2, k2, q2⟩
  have K5 := hid (k2)
  have G5 := hid (G3.out.trans q2)
  have Xk5 := hid (Xk3.out.cur q2 Nk.out)
  have Xr5 := hid (Xr3.out.cur q2 Nr.out)
  have Rk5 := hid (Rk3.out.cur q2 HRC.out)
  clear k2 q2 K3 G3 zk0_4 zk1_4 yk0_4 yk1_4 zr0_4 zr1_4 zr2_4 zr3_4 zr4_4 zr5_4 yr0_4 yr1_4 yr2_4 yr3_4 yr4_4 yr5_4 Xk3 Xr3 Rk3
  have zk0_6 := Xk5.out.cell (j := 0) rfl
  have zk1_6 := Xk5.out.cell (j := 1) rfl
  have yk0_6 := Xk5.out.thaw 0
  have yk1_6 := Xk5.out.thaw 1
  have zr0_6 := Xr5.out.cell (j := 0) rfl
  have zr1_6 := Xr5.out.cell (j := 1) rfl
  have zr2_6 := Xr5.out.cell (j := 2) rfl
  have zr3_6 := Xr5.out.cell (j := 3) rfl
  have zr4_6 := Xr5.out.cell (j := 4) rfl
  have zr5_6 := Xr5.out.cell (j := 5) rfl
  have yr0_6 := Xr5.out.thaw 0
  have yr1_6 := Xr5.out.thaw 1
  have yr2_6 := Xr5.out.thaw 2
  have yr3_6 := Xr5.out.thaw 3
  have yr4_6 := Xr5.out.thaw 4
  have yr5_6 := Xr5.out.thaw 5
  obtain ⟨op, t0, s0, key, val, ver⟩ := d2
  dsimp only at hok2 ⊢
  have HOK := hid hok2
  clear hok2
  have ba := below_more (Below.refl w2.heap.size w2) (.cells #[.int .i64 op, .int .i64 0, .int .i64 0, .string key, .string val, .int .i64 ver] 94)
  have Mx := hid G5.out.size
  have Nx := hid (Nat.lt_of_lt_of_le hCl G5.out.size)
  have hx : BlockIs (w2.alloc (.cells #[.int .i64 op, .int .i64 0, .int .i64 0, .string key, .string val, .int .i64 ver] 94)) w2.heap.size 94 [.int .i64 op, .int .i64 0, .int .i64 0, .string key, .string val, .int .i64 ver] := heap_alloc_new w2 _
  have Akx := hid Xk5.out.lt
  have Arx := hid Xr5.out.lt
  have K7 := hid (K5.out.below ba)
  have G7 := hid (grown_below G5.out ba)
  have Xk7 := hid (Xk5.out.on ba Xk5.out.lt)
  have Xr7 := hid (Xr5.out.on ba Xr5.out.lt)
  have Rk7 := hid (Rk5.out.on ba)
  have Xx7 := hid hx
  clear hx
  clear ba K5 G5 zk0_6 zk1_6 yk0_6 yk1_6 zr0_6 zr1_6 zr2_6 zr3_6 zr4_6 zr5_6 yr0_6 yr1_6 yr2_6 yr3_6 yr4_6 yr5_6 Xk5 Xr5 Rk5
  have zk0_8 := Xk7.out.cell (j := 0) rfl
  have zk1_8 := Xk7.out.cell (j := 1) rfl
  have yk0_8 := Xk7.out.thaw 0
  have yk1_8 := Xk7.out.thaw 1
  have zr0_8 := Xr7.out.cell (j := 0) rfl
  have zr1_8 := Xr7.out.cell (j := 1) rfl
  have zr2_8 := Xr7.out.cell (j := 2) rfl
  have zr3_8 := Xr7.out.cell (j := 3) rfl
  have zr4_8 := Xr7.out.cell (j := 4) rfl
  have zr5_8 := Xr7.out.cell (j := 5) rfl
  have yr0_8 := Xr7.out.thaw 0
  have yr1_8 := Xr7.out.thaw 1
  have yr2_8 := Xr7.out.thaw 2
  have yr3_8 := Xr7.out.thaw 3
  have yr4_8 := Xr7.out.thaw 4
  have yr5_8 := Xr7.out.thaw 5
  have zx0_8 := Xx7.out.cell (j := 0) rfl
  have zx1_8 := Xx7.out.cell (j := 1) rfl
  have zx2_8 := Xx7.out.cell (j := 2) rfl
  have zx3_8 := Xx7.out.cell (j := 3) rfl
  have zx4_8 := Xx7.out.cell (j := 4) rfl
  have zx5_8 := Xx7.out.cell (j := 5) rfl
  have yx0_8 := Xx7.out.thaw 0
  have yx1_8 := Xx7.out.thaw 1
  have yx2_8 := Xx7.out.thaw 2
  have yx3_8 := Xx7.out.thaw 3
  have yx4_8 := Xx7.out.thaw 4
  have yx5_8 := Xx7.out.thaw 5
  obtain ⟨tk, la, rp, hla, hcs⟩ : ∃ (tk la : Int) (rp : ByteArray), ((0 ≤ tk ∧ tk ≤ 1000000) ∧ 0 ≤ la ∧ la ≤ 999999) ∧ ∃ k : Nat, k + 1 = ls.length ∧ (w2.alloc (.cells #[.int .i64 op, .int .i64 0, .int .i64 0, .string key, .string val, .int .i64 ver] 94)).cell? ⟨g, k * 3, none⟩ = some (.int .i64 tk) ∧ (w2.alloc (.cells #[.int .i64 op, .int .i64 0, .int .i64 0, .string key, .string val, .int .i64 ver] 94)).cell? ⟨g, k * 3 + 1, none⟩ = some (.int .i64 la) ∧ (w2.alloc (.cells #[.int .i64 op, .int .i64 0, .int .i64 0, .string key, .string val, .int .i64 ver] 94)).cell? ⟨g, k * 3 + 2, none⟩ = some (.string rp) := by
    obtain ⟨g', r', eg, _, hb⟩ := row_blockK hpos Rk7.out.1
    cases eg
    have hk : ls.length - 1 < ls.length := by omega
    exact ⟨_, _, _, HLA.out _ (List.getElem_mem hk), ls.length - 1, by omega, hb.cell (row_at sessionEnc 3 (fun _ => rfl) ls r' (ls.length - 1) 0 hk (by omega)), hb.cell (row_at sessionEnc 3 (fun _ => rfl) ls r' (ls.length - 1) 1 hk (by omega)), hb.cell (row_at sessionEnc 3 (fun _ => rfl) ls r' (ls.length - 1) 2 hk (by omega))⟩
  obtain ⟨k9, hk9, c90, c91, c92⟩ := hcs
  have hk1 : (ls.length : Int) - 1 = (k9 : Int) := by omega
  have hk2 : (k9 : Int) < (ls.length : Int) := by omega
  have hk3 : (0 : Int) ≤ (k9 : Int) := by omega
  have ba := below_more (Below.refl (w2.alloc (.cells #[.int .i64 op, .int .i64 0, .int .i64 0, .string key, .string val, .int .i64 ver] 94)).heap.size (w2.alloc (.cells #[.int .i64 op, .int .i64 0, .int .i64 0, .string key, .string val, .int .i64 ver] 94))) (.cells #[.int .i64 tk, .int .i64 la, .string rp] 86)
  have hz9 : (w2.alloc (.cells #[.int .i64 op, .int .i64 0, .int .i64 0, .string key, .string val, .int .i64 ver] 94)).heap.size = w2.heap.size + 1 := by simp [World.alloc, -World.alloc_eq]
  have Ms : Hid (w.heap.size ≤ w2.heap.size + 1) := (show _ ≤ _ by have := G7.out.size; omega)
  have Ns : Hid (C < w2.heap.size + 1) := (show _ < _ by have := Ms.out; omega)
  have hx : BlockIs ((w2.alloc (.cells #[.int .i64 op, .int .i64 0, .int .i64 0, .string key, .string val, .int .i64 ver] 94)).alloc (.cells #[.int .i64 tk, .int .i64 la, .string rp] 86)) (w2.heap.size + 1) 86 [.int .i64 tk, .int .i64 la, .string rp] := by
    have := heap_alloc_new (w2.alloc (.cells #[.int .i64 op, .int .i64 0, .int .i64 0, .string key, .string val, .int .i64 ver] 94)) (.cells #[.int .i64 tk, .int .i64 la, .string rp] 86)
    rw [hz9] at this
    exact this
  have Aks : Hid (w.heap.size < w2.heap.size + 1) := (show _ < _ by have := Xk7.out.lt; omega)
  have Ars : Hid (w.heap.size + 1 < w2.heap.size + 1) := (show _ < _ by have := Xr7.out.lt; omega)
  have Axs : Hid (w2.heap.size < w2.heap.size + 1) := (show _ < _ by have := Xx7.out.lt; omega)
  clear hz9
  have K9 := hid (K7.out.below ba)
  have G9 := hid (grown_below G7.out ba)
  have Xk9 := hid (Xk7.out.on ba Xk7.out.lt)
  have Xr9 := hid (Xr7.out.on ba Xr7.out.lt)
  have Xx9 := hid (Xx7.out.on ba Xx7.out.lt)
  have Rk9 := hid (Rk7.out.on ba)
  have Xs9 := hid hx
  clear hx
  clear ba K7 G7 Xk7 Xr7 Xx7 Rk7
  have zk0_10 := Xk9.out.cell (j := 0) rfl
  have zk1_10 := Xk9.out.cell (j := 1) rfl
  have yk0_10 := Xk9.out.thaw 0
  have yk1_10 := Xk9.out.thaw 1
  have zr0_10 := Xr9.out.cell (j := 0) rfl
  have zr1_10 := Xr9.out.cell (j := 1) rfl
  have zr2_10 := Xr9.out.cell (j := 2) rfl
  have zr3_10 := Xr9.out.cell (j := 3) rfl
  have zr4_10 := Xr9.out.cell (j := 4) rfl
  have zr5_10 := Xr9.out.cell (j := 5) rfl
  have yr0_10 := Xr9.out.thaw 0
  have yr1_10 := Xr9.out.thaw 1
  have yr2_10 := Xr9.out.thaw 2
  have yr3_10 := Xr9.out.thaw 3
  have yr4_10 := Xr9.out.thaw 4
  have yr5_10 := Xr9.out.thaw 5
  have zx0_10 := Xx9.out.cell (j := 0) rfl
  have zx1_10 := Xx9.out.cell (j := 1) rfl
  have zx2_10 := Xx9.out.cell (j := 2) rfl
  have zx3_10 := Xx9.out.cell (j := 3) rfl
  have zx4_10 := Xx9.out.cell (j := 4) rfl
  have zx5_10 := Xx9.out.cell (j := 5) rfl
  have yx0_10 := Xx9.out.thaw 0
  have yx1_10 := Xx9.out.thaw 1
  have yx2_10 := Xx9.out.thaw 2
  have yx3_10 := Xx9.out.thaw 3
  have yx4_10 := Xx9.out.thaw 4
  have yx5_10 := Xx9.out.thaw 5
  have zs0_10 := Xs9.out.cell (j := 0) rfl
  have zs1_10 := Xs9.out.cell (j := 1) rfl
  have zs2_10 := Xs9.out.cell (j := 2) rfl
  have ys0_10 := Xs9.out.thaw 0
  have ys1_10 := Xs9.out.thaw 1
  have ys2_10 := Xs9.out.thaw 2
  go_wp2_with fail
  refine Calls.mono (l01Once_any C 4 (by omega) (by omega) _ K9.out) ?_
  rintro e w3 ⟨b3, rfl, k3, q3⟩
  have K11 := hid (k3)
  have G11 := hid (G9.out.trans q3)
  have Xk11 := hid (Xk9.out.cur q3 Nk.out)
  have Xr11 := hid (Xr9.out.cur q3 Nr.out)
  have Xx11 := hid (Xx9.out.cur q3 Nx.out)
  have Xs11 := hid (Xs9.out.cur q3 Ns.out)
  have Rk11 := hid (Rk9.out.cur q3 HRC.out)
  clear k3 q3 K9 G9 zk0_10 zk1_10 yk0_10 yk1_10 zr0_10 zr1_10 zr2_10 zr3_10 zr4_10 zr5_10 yr0_10 yr1_10 yr2_10 yr3_10 yr4_10 yr5_10 zx0_10 zx1_10 zx2_10 zx3_10 zx4_10 zx5_10 yx0_10 yx1_10 yx2_10 yx3_10 yx4_10 yx5_10 zs0_10 zs1_10 zs2_10 ys0_10 ys1_10 ys2_10 zk0_8 zk1_8 yk0_8 yk1_8 zr0_8 zr1_8 zr2_8 zr3_8 zr4_8 zr5_8 yr0_8 yr1_8 yr2_8 yr3_8 yr4_8 yr5_8 zx0_8 zx1_8 zx2_8 zx3_8 zx4_8 zx5_8 yx0_8 yx1_8 yx2_8 yx3_8 yx4_8 yx5_8 c90 c91 c92 Xk9 Xr9 Xx9 Xs9 Rk9
  have zk0_12 := Xk11.out.cell (j := 0) rfl
  have zk1_12 := Xk11.out.cell (j := 1) rfl
  have yk0_12 := Xk11.out.thaw 0
  have yk1_12 := Xk11.out.thaw 1
  have zr0_12 := Xr11.out.cell (j := 0) rfl
  have zr1_12 := Xr11.out.cell (j := 1) rfl
  have zr2_12 := Xr11.out.cell (j := 2) rfl
  have zr3_12 := Xr11.out.cell (j := 3) rfl
  have zr4_12 := Xr11.out.cell (j := 4) rfl
  have zr5_12 := Xr11.out.cell (j := 5) rfl
  have yr0_12 := Xr11.out.thaw 0
  have yr1_12 := Xr11.out.thaw 1
  have yr2_12 := Xr11.out.thaw 2
  have yr3_12 := Xr11.out.thaw 3
  have yr4_12 := Xr11.out.thaw 4
  have yr5_12 := Xr11.out.thaw 5
  have zx0_12 := Xx11.out.cell (j := 0) rfl
  have zx1_12 := Xx11.out.cell (j := 1) rfl
  have zx2_12 := Xx11.out.cell (j := 2) rfl
  have zx3_12 := Xx11.out.cell (j := 3) rfl
  have zx4_12 := Xx11.out.cell (j := 4) rfl
  have zx5_12 := Xx11.out.cell (j := 5) rfl
  have yx0_12 := Xx11.out.thaw 0
  have yx1_12 := Xx11.out.thaw 1
  have yx2_12 := Xx11.out.thaw 2
  have yx3_12 := Xx11.out.thaw 3
  have yx4_12 := Xx11.out.thaw 4
  have yx5_12 := Xx11.out.thaw 5
  have zs0_12 := Xs11.out.cell (j := 0) rfl
  have zs1_12 := Xs11.out.cell (j := 1) rfl
  have zs2_12 := Xs11.out.cell (j := 2) rfl
  have ys0_12 := Xs11.out.thaw 0
  have ys1_12 := Xs11.out.thaw 1
  have ys2_12 := Xs11.out.thaw 2
  cases b3 with
  | false =>
    have Rk13s := hid (Rk11.out.behind (b := w2.heap.size) (j := 1) HAH.out Mx.out (.int .i64 tk))
    have K13 := hid (K11.out.set (b := w2.heap.size) (j := 1) (v := (.int .i64 tk)) Nx.out)
    have G13 := hid (grown_far (b := w2.heap.size) (j := 1) (v := (.int .i64 tk)) G11.out Mx.out)
    have Xk13 := hid (Xk11.out.far (b := w2.heap.size) (j := 1) (by have := Akx.out; omega) (.int .i64 tk))
    have Xr13 := hid (Xr11.out.far (b := w2.heap.size) (j := 1) (by have := Arx.out; omega) (.int .i64 tk))
    have Xx13 : Hid (BlockIs (w3.setCell ⟨w2.heap.size, 1, none⟩ (.int .i64 tk)) (w2.heap.size) 94 [.int .i64 op, .int .i64 tk, .int .i64 0, .string key, .string val, .int .i64 ver]) := Xx11.out.set 1 (.int .i64 tk)
    have Xs13 := hid (Xs11.out.far (b := w2.heap.size) (j := 1) (by have := Axs.out; omega) (.int .i64 tk))
    clear K11 G11 Xk11 Xr11 Xx11 Xs11
    have zk0_14 := Xk13.out.cell (j := 0) rfl
    have zk1_14 := Xk13.out.cell (j := 1) rfl
    have yk0_14 := Xk13.out.thaw 0
    have yk1_14 := Xk13.out.thaw 1
    have zr0_14 := Xr13.out.cell (j := 0) rfl
    have zr1_14 := Xr13.out.cell (j := 1) rfl
    have zr2_14 := Xr13.out.cell (j := 2) rfl
    have zr3_14 := Xr13.out.cell (j := 3) rfl
    have zr4_14 := Xr13.out.cell (j := 4) rfl
    have zr5_14 := Xr13.out.cell (j := 5) rfl
    have yr0_14 := Xr13.out.thaw 0
    have yr1_14 := Xr13.out.thaw 1
    have yr2_14 := Xr13.out.thaw 2
    have yr3_14 := Xr13.out.thaw 3
    have yr4_14 := Xr13.out.thaw 4
    have yr5_14 := Xr13.out.thaw 5
    have zx0_14 := Xx13.out.cell (j := 0) rfl
    have zx1_14 := Xx13.out.cell (j := 1) rfl
    have zx2_14 := Xx13.out.cell (j := 2) rfl
    have zx3_14 := Xx13.out.cell (j := 3) rfl
    have zx4_14 := Xx13.out.cell (j := 4) rfl
    have zx5_14 := Xx13.out.cell (j := 5) rfl
    have yx0_14 := Xx13.out.thaw 0
    have yx1_14 := Xx13.out.thaw 1
    have yx2_14 := Xx13.out.thaw 2
    have yx3_14 := Xx13.out.thaw 3
    have yx4_14 := Xx13.out.thaw 4
    have yx5_14 := Xx13.out.thaw 5
    have zs0_14 := Xs13.out.cell (j := 0) rfl
    have zs1_14 := Xs13.out.cell (j := 1) rfl
    have zs2_14 := Xs13.out.cell (j := 2) rfl
    have ys0_14 := Xs13.out.thaw 0
    have ys1_14 := Xs13.out.thaw 1
    have ys2_14 := Xs13.out.thaw 2
    clear Rk11
    have Rk15s := hid (Rk13s.out.behind (b := w2.heap.size) (j := 2) HAH.out Mx.out (.int .i64 (la + 1)))
    have K15 := hid (K13.out.set (b := w2.heap.size) (j := 2) (v := (.int .i64 (la + 1))) Nx.out)
    have G15 := hid (grown_far (b := w2.heap.size) (j := 2) (v := (.int .i64 (la + 1))) G13.out Mx.out)
    have Xk15 := hid (Xk13.out.far (b := w2.heap.size) (j := 2) (by have := Akx.out; omega) (.int .i64 (la + 1)))
    have Xr15 := hid (Xr13.out.far (b := w2.heap.size) (j := 2) (by have := Arx.out; omega) (.int .i64 (la + 1)))
    have Xx15 : Hid (BlockIs ((w3.setCell ⟨w2.heap.size, 1, none⟩ (.int .i64 tk)).setCell ⟨w2.heap.size, 2, none⟩ (.int .i64 (la + 1))) (w2.heap.size) 94 [.int .i64 op, .int .i64 tk, .int .i64 (la + 1), .string key, .string val, .int .i64 ver]) := Xx13.out.set 2 (.int .i64 (la + 1))
    have Xs15 := hid (Xs13.out.far (b := w2.heap.size) (j := 2) (by have := Axs.out; omega) (.int .i64 (la + 1)))
    clear K13 G13 Xk13 Xr13 Xx13 Xs13
    have zk0_16 := Xk15.out.cell (j := 0) rfl
    have zk1_16 := Xk15.out.cell (j := 1) rfl
    have yk0_16 := Xk15.out.thaw 0
    have yk1_16 := Xk15.out.thaw 1
    have zr0_16 := Xr15.out.cell (j := 0) rfl
    have zr1_16 := Xr15.out.cell (j := 1) rfl
    have zr2_16 := Xr15.out.cell (j := 2) rfl
    have zr3_16 := Xr15.out.cell (j := 3) rfl
    have zr4_16 := Xr15.out.cell (j := 4) rfl
    have zr5_16 := Xr15.out.cell (j := 5) rfl
    have yr0_16 := Xr15.out.thaw 0
    have yr1_16 := Xr15.out.thaw 1
    have yr2_16 := Xr15.out.thaw 2
    have yr3_16 := Xr15.out.thaw 3
    have yr4_16 := Xr15.out.thaw 4
    have yr5_16 := Xr15.out.thaw 5
    have zx0_16 := Xx15.out.cell (j := 0) rfl
    have zx1_16 := Xx15.out.cell (j := 1) rfl
    have zx2_16 := Xx15.out.cell (j := 2) rfl
    have zx3_16 := Xx15.out.cell (j := 3) rfl
    have zx4_16 := Xx15.out.cell (j := 4) rfl
    have zx5_16 := Xx15.out.cell (j := 5) rfl
    have yx0_16 := Xx15.out.thaw 0
    have yx1_16 := Xx15.out.thaw 1
    have yx2_16 := Xx15.out.thaw 2
    have yx3_16 := Xx15.out.thaw 3
    have yx4_16 := Xx15.out.thaw 4
    have yx5_16 := Xx15.out.thaw 5
    have zs0_16 := Xs15.out.cell (j := 0) rfl
    have zs1_16 := Xs15.out.cell (j := 1) rfl
    have zs2_16 := Xs15.out.cell (j := 2) rfl
    have ys0_16 := Xs15.out.thaw 0
    have ys1_16 := Xs15.out.thaw 1
    have ys2_16 := Xs15.out.thaw 2
    clear Rk13s
    go_wp2_with fail
    refine Calls.mono (l01Below_any C 16 (by omega) (by omega) _ K15.out) ?_
    rintro e w4 ⟨y4, rfl, hy4, hz4, k4, q4⟩
    have K17 := hid (k4)
    have G17 := hid (G15.out.trans q4)
    have Xk17 := hid (Xk15.out.cur q4 Nk.out)
    have Xr17 := hid (Xr15.out.cur q4 Nr.out)
    have Xx17 := hid (Xx15.out.cur q4 Nx.out)
    have Xs17 := hid (Xs15.out.cur q4 Ns.out)
    have Rk17 := hid (Rk15s.out.cur q4 HRC.out)
    clear k4 q4 K15 G15 zk0_16 zk1_16 yk0_16 yk1_16 zr0_16 zr1_16 zr2_16 zr3_16 zr4_16 zr5_16 yr0_16 yr1_16 yr2_16 yr3_16 yr4_16 yr5_16 zx0_16 zx1_16 zx2_16 zx3_16 zx4_16 zx5_16 yx0_16 yx1_16 yx2_16 yx3_16 yx4_16 yx5_16 zs0_16 zs1_16 zs2_16 ys0_16 ys1_16 ys2_16 zk0_14 zk1_14 yk0_14 yk1_14 zr0_14 zr1_14 zr2_14 zr3_14 zr4_14 zr5_14 yr0_14 yr1_14 yr2_14 yr3_14 yr4_14 yr5_14 zx0_14 zx1_14 zx2_14 zx3_14 zx4_14 zx5_14 yx0_14 yx1_14 yx2_14 yx3_14 yx4_14 yx5_14 zs0_14 zs1_14 zs2_14 ys0_14 ys1_14 ys2_14 zk0_12 zk1_12 yk0_12 yk1_12 zr0_12 zr1_12 zr2_12 zr3_12 zr4_12 zr5_12 yr0_12 yr1_12 yr2_12 yr3_12 yr4_12 yr5_12 zx0_12 zx1_12 zx2_12 zx3_12 zx4_12 zx5_12 yx0_12 yx1_12 yx2_12 yx3_12 yx4_12 yx5_12 zs0_12 zs1_12 zs2_12 ys0_12 ys1_12 ys2_12 Xk15 Xr15 Xx15 Xs15 Rk15s
    have zk0_18 := Xk17.out.cell (j := 0) rfl
    have zk1_18 := Xk17.out.cell (j := 1) rfl
    have yk0_18 := Xk17.out.thaw 0
    have yk1_18 := Xk17.out.thaw 1
    have zr0_18 := Xr17.out.cell (j := 0) rfl
    have zr1_18 := Xr17.out.cell (j := 1) rfl
    have zr2_18 := Xr17.out.cell (j := 2) rfl
    have zr3_18 := Xr17.out.cell (j := 3) rfl
    have zr4_18 := Xr17.out.cell (j := 4) rfl
    have zr5_18 := Xr17.out.cell (j := 5) rfl
    have yr0_18 := Xr17.out.thaw 0
    have yr1_18 := Xr17.out.thaw 1
    have yr2_18 := Xr17.out.thaw 2
    have yr3_18 := Xr17.out.thaw 3
    have yr4_18 := Xr17.out.thaw 4
    have yr5_18 := Xr17.out.thaw 5
    have zx0_18 := Xx17.out.cell (j := 0) rfl
    have zx1_18 := Xx17.out.cell (j := 1) rfl
    have zx2_18 := Xx17.out.cell (j := 2) rfl
    have zx3_18 := Xx17.out.cell (j := 3) rfl
    have zx4_18 := Xx17.out.cell (j := 4) rfl
    have zx5_18 := Xx17.out.cell (j := 5) rfl
    have yx0_18 := Xx17.out.thaw 0
    have yx1_18 := Xx17.out.thaw 1
    have yx2_18 := Xx17.out.thaw 2
    have yx3_18 := Xx17.out.thaw 3
    have yx4_18 := Xx17.out.thaw 4
    have yx5_18 := Xx17.out.thaw 5
    have zs0_18 := Xs17.out.cell (j := 0) rfl
    have zs1_18 := Xs17.out.cell (j := 1) rfl
    have zs2_18 := Xs17.out.cell (j := 2) rfl
    have ys0_18 := Xs17.out.thaw 0
    have ys1_18 := Xs17.out.thaw 1
    have ys2_18 := Xs17.out.thaw 2
    by_cases y0 : y4 = 0
    · subst y0
      have Rk19s := hid (Rk17.out.behind (b := w2.heap.size) (j := 2) HAH.out Mx.out (.int .i64 la))
      have K19 := hid (K17.out.set (b := w2.heap.size) (j := 2) (v := (.int .i64 la)) Nx.out)
      have G19 := hid (grown_far (b := w2.heap.size) (j := 2) (v := (.int .i64 la)) G17.out Mx.out)
      have Xk19 := hid (Xk17.out.far (b := w2.heap.size) (j := 2) (by have := Akx.out; omega) (.int .i64 la))
      have Xr19 := hid (Xr17.out.far (b := w2.heap.size) (j := 2) (by have := Arx.out; omega) (.int .i64 la))
      have Xx19 : Hid (BlockIs (w4.setCell ⟨w2.heap.size, 2, none⟩ (.int .i64 la)) (w2.heap.size) 94 [.int .i64 op, .int .i64 tk, .int .i64 la, .string key, .string val, .int .i64 ver]) := Xx17.out.set 2 (.int .i64 la)
      have Xs19 := hid (Xs17.out.far (b := w2.heap.size) (j := 2) (by have := Axs.out; omega) (.int .i64 la))
      clear K17 G17 Xk17 Xr17 Xx17 Xs17
      have zk0_20 := Xk19.out.cell (j := 0) rfl
      have zk1_20 := Xk19.out.cell (j := 1) rfl
      have yk0_20 := Xk19.out.thaw 0
      have yk1_20 := Xk19.out.thaw 1
      have zr0_20 := Xr19.out.cell (j := 0) rfl
      have zr1_20 := Xr19.out.cell (j := 1) rfl
      have zr2_20 := Xr19.out.cell (j := 2) rfl
      have zr3_20 := Xr19.out.cell (j := 3) rfl
      have zr4_20 := Xr19.out.cell (j := 4) rfl
      have zr5_20 := Xr19.out.cell (j := 5) rfl
      have yr0_20 := Xr19.out.thaw 0
      have yr1_20 := Xr19.out.thaw 1
      have yr2_20 := Xr19.out.thaw 2
      have yr3_20 := Xr19.out.thaw 3
      have yr4_20 := Xr19.out.thaw 4
      have yr5_20 := Xr19.out.thaw 5
      have zx0_20 := Xx19.out.cell (j := 0) rfl
      have zx1_20 := Xx19.out.cell (j := 1) rfl
      have zx2_20 := Xx19.out.cell (j := 2) rfl
      have zx3_20 := Xx19.out.cell (j := 3) rfl
      have zx4_20 := Xx19.out.cell (j := 4) rfl
      have zx5_20 := Xx19.out.cell (j := 5) rfl
      have yx0_20 := Xx19.out.thaw 0
      have yx1_20 := Xx19.out.thaw 1
      have yx2_20 := Xx19.out.thaw 2
      have yx3_20 := Xx19.out.thaw 3
      have yx4_20 := Xx19.out.thaw 4
      have yx5_20 := Xx19.out.thaw 5
      have zs0_20 := Xs19.out.cell (j := 0) rfl
      have zs1_20 := Xs19.out.cell (j := 1) rfl
      have zs2_20 := Xs19.out.cell (j := 2) rfl
      have ys0_20 := Xs19.out.thaw 0
      have ys1_20 := Xs19.out.thaw 1
      have ys2_20 := Xs19.out.thaw 2
      clear Rk17
      have KL := hid ((((((K19.out.set (b := w.heap.size + 1) (j := 0) (v := .int .i64 op) Nr.out).set (b := w.heap.size + 1) (j := 1) (v := .int .i64 tk) Nr.out).set (b := w.heap.size + 1) (j := 2) (v := .int .i64 la) Nr.out).set (b := w.heap.size + 1) (j := 3) (v := .string key) Nr.out).set (b := w.heap.size + 1) (j := 4) (v := .string val) Nr.out).set (b := w.heap.size + 1) (j := 5) (v := .int .i64 ver) Nr.out)
      have GL := hid (grown_far (b := w.heap.size + 1) (j := 5) (v := .int .i64 ver) (grown_far (b := w.heap.size + 1) (j := 4) (v := .string val) (grown_far (b := w.heap.size + 1) (j := 3) (v := .string key) (grown_far (b := w.heap.size + 1) (j := 2) (v := .int .i64 la) (grown_far (b := w.heap.size + 1) (j := 1) (v := .int .i64 tk) (grown_far (b := w.heap.size + 1) (j := 0) (v := .int .i64 op) G19.out Mr.out) Mr.out) Mr.out) Mr.out) Mr.out) Mr.out)
      go_wp2
      refine bodyPost_ret (v := .agg #[.int .i64 op, .int .i64 tk, .int .i64 la, .string key, .string val, .int .i64 ver]) (by simp [results, Tryz.results54, go_sem, zr0_20, zr1_20, zr2_20, zr3_20, zr4_20, zr5_20]) rfl ?_
      exact ⟨⟨op, tk, la, key, val, ver⟩, rfl, (HOK.out _ _ (by show (0 : Int) ≤ tk; omega) (by show tk ≤ (1000000 : Int); omega) (by show (0 : Int) ≤ la; omega) (by show la ≤ (1000000 : Int); omega)), KL.out, GL.out⟩
    by_cases y1 : y4 = 1
    · subst y1
      clear y0
      go_wp2_with fail
      refine Calls.mono (l01Below_any C 4 (by omega) (by omega) _ K17.out) ?_
      rintro e w5 ⟨m5, rfl, hy5, hz5, k5, q5⟩
      have K19 := hid (k5)
      have G19 := hid (G17.out.trans q5)
      have Xk19 := hid (Xk17.out.cur q5 Nk.out)
      have Xr19 := hid (Xr17.out.cur q5 Nr.out)
      have Xx19 := hid (Xx17.out.cur q5 Nx.out)
      have Xs19 := hid (Xs17.out.cur q5 Ns.out)
      have Rk19 := hid (Rk17.out.cur q5 HRC.out)
      clear k5 q5 K17 G17 zk0_18 zk1_18 yk0_18 yk1_18 zr0_18 zr1_18 zr2_18 zr3_18 zr4_18 zr5_18 yr0_18 yr1_18 yr2_18 yr3_18 yr4_18 yr5_18 zx0_18 zx1_18 zx2_18 zx3_18 zx4_18 zx5_18 yx0_18 yx1_18 yx2_18 yx3_18 yx4_18 yx5_18 zs0_18 zs1_18 zs2_18 ys0_18 ys1_18 ys2_18 Xk17 Xr17 Xx17 Xs17 Rk17
      have zk0_20 := Xk19.out.cell (j := 0) rfl
      have zk1_20 := Xk19.out.cell (j := 1) rfl
      have yk0_20 := Xk19.out.thaw 0
      have yk1_20 := Xk19.out.thaw 1
      have zr0_20 := Xr19.out.cell (j := 0) rfl
      have zr1_20 := Xr19.out.cell (j := 1) rfl
      have zr2_20 := Xr19.out.cell (j := 2) rfl
      have zr3_20 := Xr19.out.cell (j := 3) rfl
      have zr4_20 := Xr19.out.cell (j := 4) rfl
      have zr5_20 := Xr19.out.cell (j := 5) rfl
      have yr0_20 := Xr19.out.thaw 0
      have yr1_20 := Xr19.out.thaw 1
      have yr2_20 := Xr19.out.thaw 2
      have yr3_20 := Xr19.out.thaw 3
      have yr4_20 := Xr19.out.thaw 4
      have yr5_20 := Xr19.out.thaw 5
      have zx0_20 := Xx19.out.cell (j := 0) rfl
      have zx1_20 := Xx19.out.cell (j := 1) rfl
      have zx2_20 := Xx19.out.cell (j := 2) rfl
      have zx3_20 := Xx19.out.cell (j := 3) rfl
      have zx4_20 := Xx19.out.cell (j := 4) rfl
      have zx5_20 := Xx19.out.cell (j := 5) rfl
      have yx0_20 := Xx19.out.thaw 0
      have yx1_20 := Xx19.out.thaw 1
      have yx2_20 := Xx19.out.thaw 2
      have yx3_20 := Xx19.out.thaw 3
      have yx4_20 := Xx19.out.thaw 4
      have yx5_20 := Xx19.out.thaw 5
      have zs0_20 := Xs19.out.cell (j := 0) rfl
      have zs1_20 := Xs19.out.cell (j := 1) rfl
      have zs2_20 := Xs19.out.cell (j := 2) rfl
      have ys0_20 := Xs19.out.thaw 0
      have ys1_20 := Xs19.out.thaw 1
      have ys2_20 := Xs19.out.thaw 2
      have Rk21s := hid (Rk19.out.behind (b := w2.heap.size) (j := 2) HAH.out Mx.out (.int .i64 m5))
      have K21 := hid (K19.out.set (b := w2.heap.size) (j := 2) (v := (.int .i64 m5)) Nx.out)
      have G21 := hid (grown_far (b := w2.heap.size) (j := 2) (v := (.int .i64 m5)) G19.out Mx.out)
      have Xk21 := hid (Xk19.out.far (b := w2.heap.size) (j := 2) (by have := Akx.out; omega) (.int .i64 m5))
      have Xr21 := hid (Xr19.out.far (b := w2.heap.size) (j := 2) (by have := Arx.out; omega) (.int .i64 m5))
      have Xx21 : Hid (BlockIs (w5.setCell ⟨w2.heap.size, 2, none⟩ (.int .i64 m5)) (w2.heap.size) 94 [.int .i64 op, .int .i64 tk, .int .i64 m5, .string key, .string val, .int .i64 ver]) := Xx19.out.set 2 (.int .i64 m5)
      have Xs21 := hid (Xs19.out.far (b := w2.heap.size) (j := 2) (by have := Axs.out; omega) (.int .i64 m5))
      clear K19 G19 Xk19 Xr19 Xx19 Xs19
      have zk0_22 := Xk21.out.cell (j := 0) rfl
      have zk1_22 := Xk21.out.cell (j := 1) rfl
      have yk0_22 := Xk21.out.thaw 0
      have yk1_22 := Xk21.out.thaw 1
      have zr0_22 := Xr21.out.cell (j := 0) rfl
      have zr1_22 := Xr21.out.cell (j := 1) rfl
      have zr2_22 := Xr21.out.cell (j := 2) rfl
      have zr3_22 := Xr21.out.cell (j := 3) rfl
      have zr4_22 := Xr21.out.cell (j := 4) rfl
      have zr5_22 := Xr21.out.cell (j := 5) rfl
      have yr0_22 := Xr21.out.thaw 0
      have yr1_22 := Xr21.out.thaw 1
      have yr2_22 := Xr21.out.thaw 2
      have yr3_22 := Xr21.out.thaw 3
      have yr4_22 := Xr21.out.thaw 4
      have yr5_22 := Xr21.out.thaw 5
      have zx0_22 := Xx21.out.cell (j := 0) rfl
      have zx1_22 := Xx21.out.cell (j := 1) rfl
      have zx2_22 := Xx21.out.cell (j := 2) rfl
      have zx3_22 := Xx21.out.cell (j := 3) rfl
      have zx4_22 := Xx21.out.cell (j := 4) rfl
      have zx5_22 := Xx21.out.cell (j := 5) rfl
      have yx0_22 := Xx21.out.thaw 0
      have yx1_22 := Xx21.out.thaw 1
      have yx2_22 := Xx21.out.thaw 2
      have yx3_22 := Xx21.out.thaw 3
      have yx4_22 := Xx21.out.thaw 4
      have yx5_22 := Xx21.out.thaw 5
      have zs0_22 := Xs21.out.cell (j := 0) rfl
      have zs1_22 := Xs21.out.cell (j := 1) rfl
      have zs2_22 := Xs21.out.cell (j := 2) rfl
      have ys0_22 := Xs21.out.thaw 0
      have ys1_22 := Xs21.out.thaw 1
      have ys2_22 := Xs21.out.thaw 2
      clear Rk19
      have KL := hid ((((((K21.out.set (b := w.heap.size + 1) (j := 0) (v := .int .i64 op) Nr.out).set (b := w.heap.size + 1) (j := 1) (v := .int .i64 tk) Nr.out).set (b := w.heap.size + 1) (j := 2) (v := .int .i64 m5) Nr.out).set (b := w.heap.size + 1) (j := 3) (v := .string key) Nr.out).set (b := w.heap.size + 1) (j := 4) (v := .string val) Nr.out).set (b := w.heap.size + 1) (j := 5) (v := .int .i64 ver) Nr.out)
      have GL := hid (grown_far (b := w.heap.size + 1) (j := 5) (v := .int .i64 ver) (grown_far (b := w.heap.size + 1) (j := 4) (v := .string val) (grown_far (b := w.heap.size + 1) (j := 3) (v := .string key) (grown_far (b := w.heap.size + 1) (j := 2) (v := .int .i64 m5) (grown_far (b := w.heap.size + 1) (j := 1) (v := .int .i64 tk) (grown_far (b := w.heap.size + 1) (j := 0) (v := .int .i64 op) G21.out Mr.out) Mr.out) Mr.out) Mr.out) Mr.out) Mr.out)
      go_wp2
      refine bodyPost_ret (v := .agg #[.int .i64 op, .int .i64 tk, .int .i64 m5, .string key, .string val, .int .i64 ver]) (by simp [results, Tryz.results54, go_sem, zr0_22, zr1_22, zr2_22, zr3_22, zr4_22, zr5_22]) rfl ?_
      exact ⟨⟨op, tk, m5, key, val, ver⟩, rfl, (HOK.out _ _ (by show (0 : Int) ≤ tk; omega) (by show tk ≤ (1000000 : Int); omega) (by show (0 : Int) ≤ m5; omega) (by show m5 ≤ (1000000 : Int); omega)), KL.out, GL.out⟩
    by_cases y2 : y4 = 2
    · subst y2
      clear y0 y1
      go_wp2_with fail
      refine Calls.mono (l01Below_any C 9 (by omega) (by omega) _ K17.out) ?_
      rintro e w5 ⟨m5, rfl, hy5, hz5, k5, q5⟩
      have K19 := hid (k5)
      have G19 := hid (G17.out.trans q5)
      have Xk19 := hid (Xk17.out.cur q5 Nk.out)
      have Xr19 := hid (Xr17.out.cur q5 Nr.out)
      have Xx19 := hid (Xx17.out.cur q5 Nx.out)
      have Xs19 := hid (Xs17.out.cur q5 Ns.out)
      have Rk19 := hid (Rk17.out.cur q5 HRC.out)
      clear k5 q5 K17 G17 zk0_18 zk1_18 yk0_18 yk1_18 zr0_18 zr1_18 zr2_18 zr3_18 zr4_18 zr5_18 yr0_18 yr1_18 yr2_18 yr3_18 yr4_18 yr5_18 zx0_18 zx1_18 zx2_18 zx3_18 zx4_18 zx5_18 yx0_18 yx1_18 yx2_18 yx3_18 yx4_18 yx5_18 zs0_18 zs1_18 zs2_18 ys0_18 ys1_18 ys2_18 Xk17 Xr17 Xx17 Xs17 Rk17
      have zk0_20 := Xk19.out.cell (j := 0) rfl
      have zk1_20 := Xk19.out.cell (j := 1) rfl
      have yk0_20 := Xk19.out.thaw 0
      have yk1_20 := Xk19.out.thaw 1
      have zr0_20 := Xr19.out.cell (j := 0) rfl
      have zr1_20 := Xr19.out.cell (j := 1) rfl
      have zr2_20 := Xr19.out.cell (j := 2) rfl
      have zr3_20 := Xr19.out.cell (j := 3) rfl
      have zr4_20 := Xr19.out.cell (j := 4) rfl
      have zr5_20 := Xr19.out.cell (j := 5) rfl
      have yr0_20 := Xr19.out.thaw 0
      have yr1_20 := Xr19.out.thaw 1
      have yr2_20 := Xr19.out.thaw 2
      have yr3_20 := Xr19.out.thaw 3
      have yr4_20 := Xr19.out.thaw 4
      have yr5_20 := Xr19.out.thaw 5
      have zx0_20 := Xx19.out.cell (j := 0) rfl
      have zx1_20 := Xx19.out.cell (j := 1) rfl
      have zx2_20 := Xx19.out.cell (j := 2) rfl
      have zx3_20 := Xx19.out.cell (j := 3) rfl
      have zx4_20 := Xx19.out.cell (j := 4) rfl
      have zx5_20 := Xx19.out.cell (j := 5) rfl
      have yx0_20 := Xx19.out.thaw 0
      have yx1_20 := Xx19.out.thaw 1
      have yx2_20 := Xx19.out.thaw 2
      have yx3_20 := Xx19.out.thaw 3
      have yx4_20 := Xx19.out.thaw 4
      have yx5_20 := Xx19.out.thaw 5
      have zs0_20 := Xs19.out.cell (j := 0) rfl
      have zs1_20 := Xs19.out.cell (j := 1) rfl
      have zs2_20 := Xs19.out.cell (j := 2) rfl
      have ys0_20 := Xs19.out.thaw 0
      have ys1_20 := Xs19.out.thaw 1
      have ys2_20 := Xs19.out.thaw 2
      have Rk21s := hid (Rk19.out.behind (b := w2.heap.size) (j := 1) HAH.out Mx.out (.int .i64 m5))
      have K21 := hid (K19.out.set (b := w2.heap.size) (j := 1) (v := (.int .i64 m5)) Nx.out)
      have G21 := hid (grown_far (b := w2.heap.size) (j := 1) (v := (.int .i64 m5)) G19.out Mx.out)
      have Xk21 := hid (Xk19.out.far (b := w2.heap.size) (j := 1) (by have := Akx.out; omega) (.int .i64 m5))
      have Xr21 := hid (Xr19.out.far (b := w2.heap.size) (j := 1) (by have := Arx.out; omega) (.int .i64 m5))
      have Xx21 : Hid (BlockIs (w5.setCell ⟨w2.heap.size, 1, none⟩ (.int .i64 m5)) (w2.heap.size) 94 [.int .i64 op, .int .i64 m5, .int .i64 (la + 1), .string key, .string val, .int .i64 ver]) := Xx19.out.set 1 (.int .i64 m5)
      have Xs21 := hid (Xs19.out.far (b := w2.heap.size) (j := 1) (by have := Axs.out; omega) (.int .i64 m5))
      clear K19 G19 Xk19 Xr19 Xx19 Xs19
      have zk0_22 := Xk21.out.cell (j := 0) rfl
      have zk1_22 := Xk21.out.cell (j := 1) rfl
      have yk0_22 := Xk21.out.thaw 0
      have yk1_22 := Xk21.out.thaw 1
      have zr0_22 := Xr21.out.cell (j := 0) rfl
      have zr1_22 := Xr21.out.cell (j := 1) rfl
      have zr2_22 := Xr21.out.cell (j := 2) rfl
      have zr3_22 := Xr21.out.cell (j := 3) rfl
      have zr4_22 := Xr21.out.cell (j := 4) rfl
      have zr5_22 := Xr21.out.cell (j := 5) rfl
      have yr0_22 := Xr21.out.thaw 0
      have yr1_22 := Xr21.out.thaw 1
      have yr2_22 := Xr21.out.thaw 2
      have yr3_22 := Xr21.out.thaw 3
      have yr4_22 := Xr21.out.thaw 4
      have yr5_22 := Xr21.out.thaw 5
      have zx0_22 := Xx21.out.cell (j := 0) rfl
      have zx1_22 := Xx21.out.cell (j := 1) rfl
      have zx2_22 := Xx21.out.cell (j := 2) rfl
      have zx3_22 := Xx21.out.cell (j := 3) rfl
      have zx4_22 := Xx21.out.cell (j := 4) rfl
      have zx5_22 := Xx21.out.cell (j := 5) rfl
      have yx0_22 := Xx21.out.thaw 0
      have yx1_22 := Xx21.out.thaw 1
      have yx2_22 := Xx21.out.thaw 2
      have yx3_22 := Xx21.out.thaw 3
      have yx4_22 := Xx21.out.thaw 4
      have yx5_22 := Xx21.out.thaw 5
      have zs0_22 := Xs21.out.cell (j := 0) rfl
      have zs1_22 := Xs21.out.cell (j := 1) rfl
      have zs2_22 := Xs21.out.cell (j := 2) rfl
      have ys0_22 := Xs21.out.thaw 0
      have ys1_22 := Xs21.out.thaw 1
      have ys2_22 := Xs21.out.thaw 2
      clear Rk19
      have KL := hid ((((((K21.out.set (b := w.heap.size + 1) (j := 0) (v := .int .i64 op) Nr.out).set (b := w.heap.size + 1) (j := 1) (v := .int .i64 m5) Nr.out).set (b := w.heap.size + 1) (j := 2) (v := .int .i64 (la + 1)) Nr.out).set (b := w.heap.size + 1) (j := 3) (v := .string key) Nr.out).set (b := w.heap.size + 1) (j := 4) (v := .string val) Nr.out).set (b := w.heap.size + 1) (j := 5) (v := .int .i64 ver) Nr.out)
      have GL := hid (grown_far (b := w.heap.size + 1) (j := 5) (v := .int .i64 ver) (grown_far (b := w.heap.size + 1) (j := 4) (v := .string val) (grown_far (b := w.heap.size + 1) (j := 3) (v := .string key) (grown_far (b := w.heap.size + 1) (j := 2) (v := .int .i64 (la + 1)) (grown_far (b := w.heap.size + 1) (j := 1) (v := .int .i64 m5) (grown_far (b := w.heap.size + 1) (j := 0) (v := .int .i64 op) G21.out Mr.out) Mr.out) Mr.out) Mr.out) Mr.out) Mr.out)
      go_wp2
      refine bodyPost_ret (v := .agg #[.int .i64 op, .int .i64 m5, .int .i64 (la + 1), .string key, .string val, .int .i64 ver]) (by simp [results, Tryz.results54, go_sem, zr0_22, zr1_22, zr2_22, zr3_22, zr4_22, zr5_22]) rfl ?_
      exact ⟨⟨op, m5, (la + 1), key, val, ver⟩, rfl, (HOK.out _ _ (by show (0 : Int) ≤ m5; omega) (by show m5 ≤ (1000000 : Int); omega) (by show (0 : Int) ≤ (la + 1); omega) (by show (la + 1) ≤ (1000000 : Int); omega)), KL.out, GL.out⟩
    have y0' : (y4 == 0) = false := by simpa using y0
    have y1' : (y4 == 1) = false := by simpa using y1
    have y2' : (y4 == 2) = false := by simpa using y2
    have KL := hid ((((((K17.out.set (b := w.heap.size + 1) (j := 0) (v := .int .i64 op) Nr.out).set (b := w.heap.size + 1) (j := 1) (v := .int .i64 tk) Nr.out).set (b := w.heap.size + 1) (j := 2) (v := .int .i64 (la + 1)) Nr.out).set (b := w.heap.size + 1) (j := 3) (v := .string key) Nr.out).set (b := w.heap.size + 1) (j := 4) (v := .string val) Nr.out).set (b := w.heap.size + 1) (j := 5) (v := .int .i64 ver) Nr.out)
    have GL := hid (grown_far (b := w.heap.size + 1) (j := 5) (v := .int .i64 ver) (grown_far (b := w.heap.size + 1) (j := 4) (v := .string val) (grown_far (b := w.heap.size + 1) (j := 3) (v := .string key) (grown_far (b := w.heap.size + 1) (j := 2) (v := .int .i64 (la + 1)) (grown_far (b := w.heap.size + 1) (j := 1) (v := .int .i64 tk) (grown_far (b := w.heap.size + 1) (j := 0) (v := .int .i64 op) G17.out Mr.out) Mr.out) Mr.out) Mr.out) Mr.out) Mr.out)
    go_wp2
    refine bodyPost_ret (v := .agg #[.int .i64 op, .int .i64 tk, .int .i64 (la + 1), .string key, .string val, .int .i64 ver]) (by simp [results, Tryz.results54, go_sem, zr0_18, zr1_18, zr2_18, zr3_18, zr4_18, zr5_18]) rfl ?_
    exact ⟨⟨op, tk, (la + 1), key, val, ver⟩, rfl, (HOK.out _ _ (by show (0 : Int) ≤ tk; omega) (by show tk ≤ (1000000 : Int); omega) (by show (0 : Int) ≤ (la + 1); omega) (by show (la + 1) ≤ (1000000 : Int); omega)), KL.out, GL.out⟩
  | true =>
    go_wp2
    refine wp_region_each (N := 63) (by kernel_rfl) (by kernel_rfl) rfl (by kernel_rfl) (fun W => CurAt W C ∧ w.grownBy W (some C) ∧ KRows W lo (.slice (some ⟨g, 0, none⟩) ls.length vc) (.slice vb li.length vd) ls li ∧ (∃ cs, cs.length = 3 ∧ BlockIs W (w2.heap.size + 1) 86 cs) ∧ BlockIs W (w.heap.size) 56 [.slice (some ⟨g, 0, none⟩) ls.length vc, .slice vb li.length vd] ∧ BlockIs W (w.heap.size + 1) 94 [.int .i64 0, .int .i64 0, .int .i64 0, .string ⟨#[]⟩, .string ⟨#[]⟩, .int .i64 0] ∧ BlockIs W (w2.heap.size) 94 [.int .i64 op, .int .i64 0, .int .i64 0, .string key, .string val, .int .i64 ver]) (fun j v _ W => match j with | 0 => v = .pointer (some ⟨w.heap.size, 0, none⟩) | 1 => v = .slice (some ⟨g, 0, none⟩) ls.length vc | 2 => v = .pointer (some ⟨C, 0, none⟩) | 3 => v = .pointer (some ⟨w.heap.size, 0, none⟩) | 4 => v = .slice (some ⟨g, 0, none⟩) ls.length vc | 5 => v = .int .i64 (ls.length : Int) | 6 => ∃ m : Nat, m < ls.length ∧ v = .int .i64 (m : Int) | 7 => ∃ m : Nat, m < ls.length ∧ v = .pointer (some ⟨g, m * 3, none⟩) | 8 => ∃ (m : Nat) (hm : m < ls.length), v = .agg #[.int .i64 ls[m].token, .int .i64 ls[m].last, .string ls[m].reply] | 9 => ∃ (m : Nat) (hm : m < ls.length), BlockIs W (w2.heap.size + 1) 86 [.int .i64 ls[m].token, .int .i64 ls[m].last, .string ls[m].reply] | _ => True) (fun i => i) (fun _ _ => false) (fun i X9 Y9 => i ≠ 9 → ∀ b ty cs, BlockIs X9 b ty cs → C < b → BlockIs Y9 b ty cs) (fun _ => 0) (by kernel_rfl) (fun _ _ => rfl) ?_ ⟨K11.out.below (below_drewN (Below.refl _ _) 1), grown_below G11.out (below_drewN (Below.refl _ _) 1), Rk11.out.on (below_drewN (Below.refl _ _) 1), ⟨_, rfl, Xs11.out.on (below_drewN (Below.refl _ _) 1) Xs11.out.lt⟩, Xk11.out.on (below_drewN (Below.refl _ _) 1) Xk11.out.lt, Xr11.out.on (below_drewN (Below.refl _ _) 1) Xr11.out.lt, Xx11.out.on (below_drewN (Below.refl _ _) 1) Xx11.out.lt⟩ ?_ ?_
    · intro i j v u x y hij hdd hwt hxy hg
      match j, hg with
      | 0, hg => exact hg
      | 1, hg => exact hg
      | 2, hg => exact hg
      | 3, hg => exact hg
      | 4, hg => exact hg
      | 5, hg => exact hg
      | 6, hg => exact hg
      | 7, hg => exact hg
      | 8, hg => exact hg
      | 9, hg =>
        obtain ⟨m, hm, h9⟩ := hg
        exact ⟨m, hm, hxy hij _ _ _ h9 Ns.out⟩
      | n + 10, _ => exact trivial
    · refine ⟨?_, ?_, ?_, ?_, ?_, ?_, ?_, ?_, ?_, ?_, trivial⟩
      · intro A W hC hg hb
        have h3 : A.eval (.tmp 3) = .pointer (some ⟨w.heap.size, 0, none⟩) := hb 3 (base_of (by kernel_rfl))
        exact does_value (v := .pointer (some ⟨w.heap.size, 0, none⟩)) (w' := W) (by simp only [execOp, h3]; simp [go_sem]) ⟨rfl, hC, fun _ _ _ _ h _ => h⟩
      · intro A W hC hg hb
        have h29 : A.eval (.tmp 29) = .pointer (some ⟨w.heap.size, 0, none⟩) := hg 0 29 (by decide) rfl (by simp [Op.operands]) (by kernel_rfl) rfl
        obtain ⟨hk, hgr, hR, ⟨cs, hcl, hS⟩, hBk, hBr, hBx⟩ := hC
        have hc0 := hBk.cell (j := 0) rfl
        exact does_value (v := .slice (some ⟨g, 0, none⟩) ls.length vc) (w' := W) (by simp only [execOp, h29]; simp [go_sem, hc0]) ⟨rfl, ⟨hk, hgr, hR, ⟨cs, hcl, hS⟩, hBk, hBr, hBx⟩, fun _ _ _ _ h _ => h⟩
      · intro A W hC hg hb
        have h0 : A.eval (.tmp 0) = .pointer (some ⟨C, 0, none⟩) := hb 0 (base_of (by kernel_rfl))
        exact does_value (v := .pointer (some ⟨C, 0, none⟩)) (w' := W) (by simp only [execOp, h0]; simp [go_sem]) ⟨rfl, hC, fun _ _ _ _ h _ => h⟩
      · intro A W hC hg hb
        have h3 : A.eval (.tmp 3) = .pointer (some ⟨w.heap.size, 0, none⟩) := hb 3 (base_of (by kernel_rfl))
        exact does_value (v := .pointer (some ⟨w.heap.size, 0, none⟩)) (w' := W) (by simp only [execOp, h3]; simp [go_sem]) ⟨rfl, hC, fun _ _ _ _ h _ => h⟩
      · intro A W hC hg hb
        have h32 : A.eval (.tmp 32) = .pointer (some ⟨w.heap.size, 0, none⟩) := hg 3 32 (by decide) rfl (by simp [Op.operands]) (by kernel_rfl) rfl
        obtain ⟨hk, hgr, hR, ⟨cs, hcl, hS⟩, hBk, hBr, hBx⟩ := hC
        have hc0 := hBk.cell (j := 0) rfl
        exact does_value (v := .slice (some ⟨g, 0, none⟩) ls.length vc) (w' := W) (by simp only [execOp, h32]; simp [go_sem, hc0]) ⟨rfl, ⟨hk, hgr, hR, ⟨cs, hcl, hS⟩, hBk, hBr, hBx⟩, fun _ _ _ _ h _ => h⟩
      · intro A W hC hg hb
        have h33 : A.eval (.tmp 33) = .slice (some ⟨g, 0, none⟩) ls.length vc := hg 4 33 (by decide) rfl (by simp [Op.operands, Call.operands]) (by kernel_rfl) rfl
        exact does_value (v := .int .i64 (ls.length : Int)) (w' := W) (by simp [go_sem] at h33; simp [go_sem, h33]) ⟨rfl, hC, fun _ _ _ _ h _ => h⟩
      · intro A W hC hg hb
        have h31 : A.eval (.tmp 31) = .pointer (some ⟨C, 0, none⟩) := hg 2 31 (by decide) rfl (by simp [Op.operands, Call.operands]) (by kernel_rfl) rfl
        have h34 : A.eval (.tmp 34) = .int .i64 (ls.length : Int) := hg 5 34 (by decide) rfl (by simp [Op.operands, Call.operands]) (by kernel_rfl) rfl
        simp [go_sem] at h31 h34
        refine does_enter (f := 20) (args := #[.pointer (some ⟨C, 0, none⟩), .int .i64 (ls.length : Int)]) (w' := W) (by simp [go_sem, h31, h34]) ?_
        obtain ⟨hk, hgr, hR, ⟨cs, hcl, hS⟩, hBk, hBr, hBx⟩ := hC
        refine (l01Below_any C (ls.length : Int) (by omega) (by omega) W hk).mono ?_
        rintro e W' ⟨m, rfl, hm0, hm1, k', q'⟩
        obtain ⟨m, rfl⟩ := Int.eq_ofNat_of_zero_le hm0
        exact ⟨_, rfl, ⟨m, by omega, rfl⟩, ⟨k', hgr.trans q', hR.cur q' HRC.out, ⟨cs, hcl, hS.cur q' Ns.out⟩, hBk.cur q' Nk.out, hBr.cur q' Nr.out, hBx.cur q' Nx.out⟩, fun _ b ty cs h hb => h.cur q' hb⟩
      · intro A W hC hg hb
        have h30 : A.eval (.tmp 30) = .slice (some ⟨g, 0, none⟩) ls.length vc := hg 1 30 (by decide) rfl (by simp [Op.operands]) (by kernel_rfl) rfl
        have g6 := hg 6 35 (by decide) rfl (by simp [Op.operands]) (by kernel_rfl) rfl
        obtain ⟨m, hm, e6⟩ := g6
        have hm1 : (m : Int) < (ls.length : Int) := by omega
        have hm2 : (0 : Int) ≤ (m : Int) := by omega
        simp [go_sem] at h30 e6
        exact does_value (v := .pointer (some ⟨g, m * 3, none⟩)) (w' := W) (by simp [execOp, go_sem, h30, e6, hm1, hm2]) ⟨⟨m, hm, rfl⟩, hC, fun _ _ _ _ h _ => h⟩
      · intro A W hC hg hb
        have g7 := hg 7 36 (by decide) rfl (by simp [Op.operands]) (by kernel_rfl) rfl
        obtain ⟨m, hm, e7⟩ := g7
        obtain ⟨hk, hgr, hR, ⟨cs, hcl, hS⟩, hBk, hBr, hBx⟩ := hC
        obtain ⟨g', r', eg, _, hb⟩ := row_blockK hpos hR.1
        cases eg
        have hc0 : W.cell? ⟨g, m * 3, none⟩ = some (.int .i64 ls[m].token) := hb.cell (row_at sessionEnc 3 (fun _ => rfl) ls r' m 0 hm (by omega))
        have hc1 := hb.cell (j := m * 3 + 1) (row_at sessionEnc 3 (fun _ => rfl) ls r' m 1 hm (by omega))
        have hc2 := hb.cell (j := m * 3 + 2) (row_at sessionEnc 3 (fun _ => rfl) ls r' m 2 hm (by omega))
        exact does_value (v := .agg #[.int .i64 ls[m].token, .int .i64 ls[m].last, .string ls[m].reply]) (w' := W) (by simp only [execOp, e7]; simp [go_sem, hc0, hc1, hc2]) ⟨⟨m, hm, rfl⟩, ⟨hk, hgr, hR, ⟨cs, hcl, hS⟩, hBk, hBr, hBx⟩, fun _ _ _ _ h _ => h⟩
      · intro A W hC hg hb
        have h6 : A.eval (.tmp 6) = .pointer (some ⟨w2.heap.size + 1, 0, none⟩) := hb 6 (base_of (by kernel_rfl))
        have g8 := hg 8 37 (by decide) rfl (by simp [Op.operands]) (by kernel_rfl) rfl
        obtain ⟨m, hm, e8⟩ := g8
        obtain ⟨hk, hgr, hR, ⟨cs, hcl, hS⟩, hBk, hBr, hBx⟩ := hC
        match cs, hcl with
        | [a0, a1, a2], _ =>
          have c0 := hS.cell (j := 0) rfl
          have c1 := hS.cell (j := 1) rfl
          have c2 := hS.cell (j := 2) rfl
          have f0 := hS.thaw 0
          have f1 := hS.thaw 1
          have f2 := hS.thaw 2
          have hX3 := ((hS.set 0 (.int .i64 ls[m].token)).set 1 (.int .i64 ls[m].last)).set 2 (.string ls[m].reply)
          exact does_skip (w' := (((W.setCell ⟨w2.heap.size + 1, 0, none⟩ (.int .i64 ls[m].token)).setCell ⟨w2.heap.size + 1, 1, none⟩ (.int .i64 ls[m].last)).setCell ⟨w2.heap.size + 1, 2, none⟩ (.string ls[m].reply))) (by simp only [execOp, h6, e8]; simp [go_sem, c0, c1, c2, f0, f1, f2]) ⟨⟨m, hm, hX3⟩, ⟨((hk.set Ns.out).set Ns.out).set Ns.out, grown_far (grown_far (grown_far hgr Ms.out) Ms.out) Ms.out, ((hR.behind HAH.out Ms.out _).behind HAH.out Ms.out _).behind HAH.out Ms.out _, ⟨_, rfl, hX3⟩, ((hBk.far (by have := Aks.out; omega) _).far (by have := Aks.out; omega) _).far (by have := Aks.out; omega) _, ((hBr.far (by have := Ars.out; omega) _).far (by have := Ars.out; omega) _).far (by have := Ars.out; omega) _, ((hBx.far (by have := Axs.out; omega) _).far (by have := Axs.out; omega) _).far (by have := Axs.out; omega) _⟩, fun hne => absurd rfl hne⟩
    · intro vs w4 hC hg
      obtain ⟨m, hm, hSm⟩ := hg 9 (by decide) (fun k => by simp)
      clear hg
      change Exit.then _ _ _ (laidBy _ vs _ 10 _) w4
      simp only [laidBy, if_true, dstAt, List.getElem?_toArray, List.getElem?_cons_succ, List.getElem?_cons_zero, Option.bind_some]
      simp only [Act.put, List.setIfInBounds_toArray, List.set_cons_succ, List.set_cons_zero]
      obtain ⟨hk, hgr, hR, _, hBk, hBr, hBx⟩ := hC
      have hlm := HLA.out _ (List.getElem_mem hm)
      obtain ⟨tk2, htk2⟩ : ∃ z, ls[m].token = z := ⟨_, rfl⟩
      obtain ⟨la2, hla2⟩ : ∃ z, ls[m].last = z := ⟨_, rfl⟩
      obtain ⟨rp2, hrp2⟩ : ∃ z, ls[m].reply = z := ⟨_, rfl⟩
      rw [htk2, hla2, hrp2] at hSm
      rw [htk2, hla2] at hlm
      clear htk2 hla2 hrp2
      have K13 := hid hk
      have G13 := hid hgr
      have Rk13 := hid hR
      have Xk13 := hid hBk
      have Xr13 := hid hBr
      have Xx13 := hid hBx
      have Xs13 := hid hSm
      clear hk hgr hR hSm hBk hBr hBx K11 G11 Rk11 Xk11 Xr11 Xx11 Xs11 zk0_12 zk1_12 yk0_12 yk1_12 zr0_12 zr1_12 zr2_12 zr3_12 zr4_12 zr5_12 yr0_12 yr1_12 yr2_12 yr3_12 yr4_12 yr5_12 zx0_12 zx1_12 zx2_12 zx3_12 zx4_12 zx5_12 yx0_12 yx1_12 yx2_12 yx3_12 yx4_12 yx5_12 zs0_12 zs1_12 zs2_12 ys0_12 ys1_12 ys2_12
      have zk0_14 := Xk13.out.cell (j := 0) rfl
      have zk1_14 := Xk13.out.cell (j := 1) rfl
      have yk0_14 := Xk13.out.thaw 0
      have yk1_14 := Xk13.out.thaw 1
      have zr0_14 := Xr13.out.cell (j := 0) rfl
      have zr1_14 := Xr13.out.cell (j := 1) rfl
      have zr2_14 := Xr13.out.cell (j := 2) rfl
      have zr3_14 := Xr13.out.cell (j := 3) rfl
      have zr4_14 := Xr13.out.cell (j := 4) rfl
      have zr5_14 := Xr13.out.cell (j := 5) rfl
      have yr0_14 := Xr13.out.thaw 0
      have yr1_14 := Xr13.out.thaw 1
      have yr2_14 := Xr13.out.thaw 2
      have yr3_14 := Xr13.out.thaw 3
      have yr4_14 := Xr13.out.thaw 4
      have yr5_14 := Xr13.out.thaw 5
      have zx0_14 := Xx13.out.cell (j := 0) rfl
      have zx1_14 := Xx13.out.cell (j := 1) rfl
      have zx2_14 := Xx13.out.cell (j := 2) rfl
      have zx3_14 := Xx13.out.cell (j := 3) rfl
      have zx4_14 := Xx13.out.cell (j := 4) rfl
      have zx5_14 := Xx13.out.cell (j := 5) rfl
      have yx0_14 := Xx13.out.thaw 0
      have yx1_14 := Xx13.out.thaw 1
      have yx2_14 := Xx13.out.thaw 2
      have yx3_14 := Xx13.out.thaw 3
      have yx4_14 := Xx13.out.thaw 4
      have yx5_14 := Xx13.out.thaw 5
      have zs0_14 := Xs13.out.cell (j := 0) rfl
      have zs1_14 := Xs13.out.cell (j := 1) rfl
      have zs2_14 := Xs13.out.cell (j := 2) rfl
      have ys0_14 := Xs13.out.thaw 0
      have ys1_14 := Xs13.out.thaw 1
      have ys2_14 := Xs13.out.thaw 2
      have Rk15s := hid (Rk13.out.behind (b := w2.heap.size) (j := 1) HAH.out Mx.out (.int .i64 tk2))
      have K15 := hid (K13.out.set (b := w2.heap.size) (j := 1) (v := (.int .i64 tk2)) Nx.out)
      have G15 := hid (grown_far (b := w2.heap.size) (j := 1) (v := (.int .i64 tk2)) G13.out Mx.out)
      have Xk15 := hid (Xk13.out.far (b := w2.heap.size) (j := 1) (by have := Akx.out; omega) (.int .i64 tk2))
      have Xr15 := hid (Xr13.out.far (b := w2.heap.size) (j := 1) (by have := Arx.out; omega) (.int .i64 tk2))
      have Xx15 : Hid (BlockIs (w4.setCell ⟨w2.heap.size, 1, none⟩ (.int .i64 tk2)) (w2.heap.size) 94 [.int .i64 op, .int .i64 tk2, .int .i64 0, .string key, .string val, .int .i64 ver]) := Xx13.out.set 1 (.int .i64 tk2)
      have Xs15 := hid (Xs13.out.far (b := w2.heap.size) (j := 1) (by have := Axs.out; omega) (.int .i64 tk2))
      clear K13 G13 Xk13 Xr13 Xx13 Xs13
      have zk0_16 := Xk15.out.cell (j := 0) rfl
      have zk1_16 := Xk15.out.cell (j := 1) rfl
      have yk0_16 := Xk15.out.thaw 0
      have yk1_16 := Xk15.out.thaw 1
      have zr0_16 := Xr15.out.cell (j := 0) rfl
      have zr1_16 := Xr15.out.cell (j := 1) rfl
      have zr2_16 := Xr15.out.cell (j := 2) rfl
      have zr3_16 := Xr15.out.cell (j := 3) rfl
      have zr4_16 := Xr15.out.cell (j := 4) rfl
      have zr5_16 := Xr15.out.cell (j := 5) rfl
      have yr0_16 := Xr15.out.thaw 0
      have yr1_16 := Xr15.out.thaw 1
      have yr2_16 := Xr15.out.thaw 2
      have yr3_16 := Xr15.out.thaw 3
      have yr4_16 := Xr15.out.thaw 4
      have yr5_16 := Xr15.out.thaw 5
      have zx0_16 := Xx15.out.cell (j := 0) rfl
      have zx1_16 := Xx15.out.cell (j := 1) rfl
      have zx2_16 := Xx15.out.cell (j := 2) rfl
      have zx3_16 := Xx15.out.cell (j := 3) rfl
      have zx4_16 := Xx15.out.cell (j := 4) rfl
      have zx5_16 := Xx15.out.cell (j := 5) rfl
      have yx0_16 := Xx15.out.thaw 0
      have yx1_16 := Xx15.out.thaw 1
      have yx2_16 := Xx15.out.thaw 2
      have yx3_16 := Xx15.out.thaw 3
      have yx4_16 := Xx15.out.thaw 4
      have yx5_16 := Xx15.out.thaw 5
      have zs0_16 := Xs15.out.cell (j := 0) rfl
      have zs1_16 := Xs15.out.cell (j := 1) rfl
      have zs2_16 := Xs15.out.cell (j := 2) rfl
      have ys0_16 := Xs15.out.thaw 0
      have ys1_16 := Xs15.out.thaw 1
      have ys2_16 := Xs15.out.thaw 2
      clear Rk13
      have Rk17s := hid (Rk15s.out.behind (b := w2.heap.size) (j := 2) HAH.out Mx.out (.int .i64 (la2 + 1)))
      have K17 := hid (K15.out.set (b := w2.heap.size) (j := 2) (v := (.int .i64 (la2 + 1))) Nx.out)
      have G17 := hid (grown_far (b := w2.heap.size) (j := 2) (v := (.int .i64 (la2 + 1))) G15.out Mx.out)
      have Xk17 := hid (Xk15.out.far (b := w2.heap.size) (j := 2) (by have := Akx.out; omega) (.int .i64 (la2 + 1)))
      have Xr17 := hid (Xr15.out.far (b := w2.heap.size) (j := 2) (by have := Arx.out; omega) (.int .i64 (la2 + 1)))
      have Xx17 : Hid (BlockIs ((w4.setCell ⟨w2.heap.size, 1, none⟩ (.int .i64 tk2)).setCell ⟨w2.heap.size, 2, none⟩ (.int .i64 (la2 + 1))) (w2.heap.size) 94 [.int .i64 op, .int .i64 tk2, .int .i64 (la2 + 1), .string key, .string val, .int .i64 ver]) := Xx15.out.set 2 (.int .i64 (la2 + 1))
      have Xs17 := hid (Xs15.out.far (b := w2.heap.size) (j := 2) (by have := Axs.out; omega) (.int .i64 (la2 + 1)))
      clear K15 G15 Xk15 Xr15 Xx15 Xs15
      have zk0_18 := Xk17.out.cell (j := 0) rfl
      have zk1_18 := Xk17.out.cell (j := 1) rfl
      have yk0_18 := Xk17.out.thaw 0
      have yk1_18 := Xk17.out.thaw 1
      have zr0_18 := Xr17.out.cell (j := 0) rfl
      have zr1_18 := Xr17.out.cell (j := 1) rfl
      have zr2_18 := Xr17.out.cell (j := 2) rfl
      have zr3_18 := Xr17.out.cell (j := 3) rfl
      have zr4_18 := Xr17.out.cell (j := 4) rfl
      have zr5_18 := Xr17.out.cell (j := 5) rfl
      have yr0_18 := Xr17.out.thaw 0
      have yr1_18 := Xr17.out.thaw 1
      have yr2_18 := Xr17.out.thaw 2
      have yr3_18 := Xr17.out.thaw 3
      have yr4_18 := Xr17.out.thaw 4
      have yr5_18 := Xr17.out.thaw 5
      have zx0_18 := Xx17.out.cell (j := 0) rfl
      have zx1_18 := Xx17.out.cell (j := 1) rfl
      have zx2_18 := Xx17.out.cell (j := 2) rfl
      have zx3_18 := Xx17.out.cell (j := 3) rfl
      have zx4_18 := Xx17.out.cell (j := 4) rfl
      have zx5_18 := Xx17.out.cell (j := 5) rfl
      have yx0_18 := Xx17.out.thaw 0
      have yx1_18 := Xx17.out.thaw 1
      have yx2_18 := Xx17.out.thaw 2
      have yx3_18 := Xx17.out.thaw 3
      have yx4_18 := Xx17.out.thaw 4
      have yx5_18 := Xx17.out.thaw 5
      have zs0_18 := Xs17.out.cell (j := 0) rfl
      have zs1_18 := Xs17.out.cell (j := 1) rfl
      have zs2_18 := Xs17.out.cell (j := 2) rfl
      have ys0_18 := Xs17.out.thaw 0
      have ys1_18 := Xs17.out.thaw 1
      have ys2_18 := Xs17.out.thaw 2
      clear Rk15s
      go_wp2_with fail
      refine Calls.mono (l01Below_any C 16 (by omega) (by omega) _ K17.out) ?_
      rintro e w5 ⟨y5, rfl, hy5, hz5, k5, q5⟩
      have K19 := hid (k5)
      have G19 := hid (G17.out.trans q5)
      have Xk19 := hid (Xk17.out.cur q5 Nk.out)
      have Xr19 := hid (Xr17.out.cur q5 Nr.out)
      have Xx19 := hid (Xx17.out.cur q5 Nx.out)
      have Xs19 := hid (Xs17.out.cur q5 Ns.out)
      have Rk19 := hid (Rk17s.out.cur q5 HRC.out)
      clear k5 q5 K17 G17 zk0_18 zk1_18 yk0_18 yk1_18 zr0_18 zr1_18 zr2_18 zr3_18 zr4_18 zr5_18 yr0_18 yr1_18 yr2_18 yr3_18 yr4_18 yr5_18 zx0_18 zx1_18 zx2_18 zx3_18 zx4_18 zx5_18 yx0_18 yx1_18 yx2_18 yx3_18 yx4_18 yx5_18 zs0_18 zs1_18 zs2_18 ys0_18 ys1_18 ys2_18 zk0_16 zk1_16 yk0_16 yk1_16 zr0_16 zr1_16 zr2_16 zr3_16 zr4_16 zr5_16 yr0_16 yr1_16 yr2_16 yr3_16 yr4_16 yr5_16 zx0_16 zx1_16 zx2_16 zx3_16 zx4_16 zx5_16 yx0_16 yx1_16 yx2_16 yx3_16 yx4_16 yx5_16 zs0_16 zs1_16 zs2_16 ys0_16 ys1_16 ys2_16 zk0_14 zk1_14 yk0_14 yk1_14 zr0_14 zr1_14 zr2_14 zr3_14 zr4_14 zr5_14 yr0_14 yr1_14 yr2_14 yr3_14 yr4_14 yr5_14 zx0_14 zx1_14 zx2_14 zx3_14 zx4_14 zx5_14 yx0_14 yx1_14 yx2_14 yx3_14 yx4_14 yx5_14 zs0_14 zs1_14 zs2_14 ys0_14 ys1_14 ys2_14 Xk17 Xr17 Xx17 Xs17 Rk17s
      have zk0_20 := Xk19.out.cell (j := 0) rfl
      have zk1_20 := Xk19.out.cell (j := 1) rfl
      have yk0_20 := Xk19.out.thaw 0
      have yk1_20 := Xk19.out.thaw 1
      have zr0_20 := Xr19.out.cell (j := 0) rfl
      have zr1_20 := Xr19.out.cell (j := 1) rfl
      have zr2_20 := Xr19.out.cell (j := 2) rfl
      have zr3_20 := Xr19.out.cell (j := 3) rfl
      have zr4_20 := Xr19.out.cell (j := 4) rfl
      have zr5_20 := Xr19.out.cell (j := 5) rfl
      have yr0_20 := Xr19.out.thaw 0
      have yr1_20 := Xr19.out.thaw 1
      have yr2_20 := Xr19.out.thaw 2
      have yr3_20 := Xr19.out.thaw 3
      have yr4_20 := Xr19.out.thaw 4
      have yr5_20 := Xr19.out.thaw 5
      have zx0_20 := Xx19.out.cell (j := 0) rfl
      have zx1_20 := Xx19.out.cell (j := 1) rfl
      have zx2_20 := Xx19.out.cell (j := 2) rfl
      have zx3_20 := Xx19.out.cell (j := 3) rfl
      have zx4_20 := Xx19.out.cell (j := 4) rfl
      have zx5_20 := Xx19.out.cell (j := 5) rfl
      have yx0_20 := Xx19.out.thaw 0
      have yx1_20 := Xx19.out.thaw 1
      have yx2_20 := Xx19.out.thaw 2
      have yx3_20 := Xx19.out.thaw 3
      have yx4_20 := Xx19.out.thaw 4
      have yx5_20 := Xx19.out.thaw 5
      have zs0_20 := Xs19.out.cell (j := 0) rfl
      have zs1_20 := Xs19.out.cell (j := 1) rfl
      have zs2_20 := Xs19.out.cell (j := 2) rfl
      have ys0_20 := Xs19.out.thaw 0
      have ys1_20 := Xs19.out.thaw 1
      have ys2_20 := Xs19.out.thaw 2
      by_cases y0 : y5 = 0
      · subst y0
        have Rk21s := hid (Rk19.out.behind (b := w2.heap.size) (j := 2) HAH.out Mx.out (.int .i64 la2))
        have K21 := hid (K19.out.set (b := w2.heap.size) (j := 2) (v := (.int .i64 la2)) Nx.out)
        have G21 := hid (grown_far (b := w2.heap.size) (j := 2) (v := (.int .i64 la2)) G19.out Mx.out)
        have Xk21 := hid (Xk19.out.far (b := w2.heap.size) (j := 2) (by have := Akx.out; omega) (.int .i64 la2))
        have Xr21 := hid (Xr19.out.far (b := w2.heap.size) (j := 2) (by have := Arx.out; omega) (.int .i64 la2))
        have Xx21 : Hid (BlockIs (w5.setCell ⟨w2.heap.size, 2, none⟩ (.int .i64 la2)) (w2.heap.size) 94 [.int .i64 op, .int .i64 tk2, .int .i64 la2, .string key, .string val, .int .i64 ver]) := Xx19.out.set 2 (.int .i64 la2)
        have Xs21 := hid (Xs19.out.far (b := w2.heap.size) (j := 2) (by have := Axs.out; omega) (.int .i64 la2))
        clear K19 G19 Xk19 Xr19 Xx19 Xs19
        have zk0_22 := Xk21.out.cell (j := 0) rfl
        have zk1_22 := Xk21.out.cell (j := 1) rfl
        have yk0_22 := Xk21.out.thaw 0
        have yk1_22 := Xk21.out.thaw 1
        have zr0_22 := Xr21.out.cell (j := 0) rfl
        have zr1_22 := Xr21.out.cell (j := 1) rfl
        have zr2_22 := Xr21.out.cell (j := 2) rfl
        have zr3_22 := Xr21.out.cell (j := 3) rfl
        have zr4_22 := Xr21.out.cell (j := 4) rfl
        have zr5_22 := Xr21.out.cell (j := 5) rfl
        have yr0_22 := Xr21.out.thaw 0
        have yr1_22 := Xr21.out.thaw 1
        have yr2_22 := Xr21.out.thaw 2
        have yr3_22 := Xr21.out.thaw 3
        have yr4_22 := Xr21.out.thaw 4
        have yr5_22 := Xr21.out.thaw 5
        have zx0_22 := Xx21.out.cell (j := 0) rfl
        have zx1_22 := Xx21.out.cell (j := 1) rfl
        have zx2_22 := Xx21.out.cell (j := 2) rfl
        have zx3_22 := Xx21.out.cell (j := 3) rfl
        have zx4_22 := Xx21.out.cell (j := 4) rfl
        have zx5_22 := Xx21.out.cell (j := 5) rfl
        have yx0_22 := Xx21.out.thaw 0
        have yx1_22 := Xx21.out.thaw 1
        have yx2_22 := Xx21.out.thaw 2
        have yx3_22 := Xx21.out.thaw 3
        have yx4_22 := Xx21.out.thaw 4
        have yx5_22 := Xx21.out.thaw 5
        have zs0_22 := Xs21.out.cell (j := 0) rfl
        have zs1_22 := Xs21.out.cell (j := 1) rfl
        have zs2_22 := Xs21.out.cell (j := 2) rfl
        have ys0_22 := Xs21.out.thaw 0
        have ys1_22 := Xs21.out.thaw 1
        have ys2_22 := Xs21.out.thaw 2
        clear Rk19
        have KL := hid ((((((K21.out.set (b := w.heap.size + 1) (j := 0) (v := .int .i64 op) Nr.out).set (b := w.heap.size + 1) (j := 1) (v := .int .i64 tk2) Nr.out).set (b := w.heap.size + 1) (j := 2) (v := .int .i64 la2) Nr.out).set (b := w.heap.size + 1) (j := 3) (v := .string key) Nr.out).set (b := w.heap.size + 1) (j := 4) (v := .string val) Nr.out).set (b := w.heap.size + 1) (j := 5) (v := .int .i64 ver) Nr.out)
        have GL := hid (grown_far (b := w.heap.size + 1) (j := 5) (v := .int .i64 ver) (grown_far (b := w.heap.size + 1) (j := 4) (v := .string val) (grown_far (b := w.heap.size + 1) (j := 3) (v := .string key) (grown_far (b := w.heap.size + 1) (j := 2) (v := .int .i64 la2) (grown_far (b := w.heap.size + 1) (j := 1) (v := .int .i64 tk2) (grown_far (b := w.heap.size + 1) (j := 0) (v := .int .i64 op) G21.out Mr.out) Mr.out) Mr.out) Mr.out) Mr.out) Mr.out)
        go_wp2
        refine bodyPost_ret (v := .agg #[.int .i64 op, .int .i64 tk2, .int .i64 la2, .string key, .string val, .int .i64 ver]) (by simp [results, Tryz.results54, go_sem, zr0_22, zr1_22, zr2_22, zr3_22, zr4_22, zr5_22]) rfl ?_
        exact ⟨⟨op, tk2, la2, key, val, ver⟩, rfl, (HOK.out _ _ (by show (0 : Int) ≤ tk2; omega) (by show tk2 ≤ (1000000 : Int); omega) (by show (0 : Int) ≤ la2; omega) (by show la2 ≤ (1000000 : Int); omega)), KL.out, GL.out⟩
      by_cases y1 : y5 = 1
      · subst y1
        clear y0
        go_wp2_with fail
        refine Calls.mono (l01Below_any C 4 (by omega) (by omega) _ K19.out) ?_
        rintro e w6 ⟨m6, rfl, hy6, hz6, k6, q6⟩
        have K21 := hid (k6)
        have G21 := hid (G19.out.trans q6)
        have Xk21 := hid (Xk19.out.cur q6 Nk.out)
        have Xr21 := hid (Xr19.out.cur q6 Nr.out)
        have Xx21 := hid (Xx19.out.cur q6 Nx.out)
        have Xs21 := hid (Xs19.out.cur q6 Ns.out)
        have Rk21 := hid (Rk19.out.cur q6 HRC.out)
        clear k6 q6 K19 G19 zk0_20 zk1_20 yk0_20 yk1_20 zr0_20 zr1_20 zr2_20 zr3_20 zr4_20 zr5_20 yr0_20 yr1_20 yr2_20 yr3_20 yr4_20 yr5_20 zx0_20 zx1_20 zx2_20 zx3_20 zx4_20 zx5_20 yx0_20 yx1_20 yx2_20 yx3_20 yx4_20 yx5_20 zs0_20 zs1_20 zs2_20 ys0_20 ys1_20 ys2_20 Xk19 Xr19 Xx19 Xs19 Rk19
        have zk0_22 := Xk21.out.cell (j := 0) rfl
        have zk1_22 := Xk21.out.cell (j := 1) rfl
        have yk0_22 := Xk21.out.thaw 0
        have yk1_22 := Xk21.out.thaw 1
        have zr0_22 := Xr21.out.cell (j := 0) rfl
        have zr1_22 := Xr21.out.cell (j := 1) rfl
        have zr2_22 := Xr21.out.cell (j := 2) rfl
        have zr3_22 := Xr21.out.cell (j := 3) rfl
        have zr4_22 := Xr21.out.cell (j := 4) rfl
        have zr5_22 := Xr21.out.cell (j := 5) rfl
        have yr0_22 := Xr21.out.thaw 0
        have yr1_22 := Xr21.out.thaw 1
        have yr2_22 := Xr21.out.thaw 2
        have yr3_22 := Xr21.out.thaw 3
        have yr4_22 := Xr21.out.thaw 4
        have yr5_22 := Xr21.out.thaw 5
        have zx0_22 := Xx21.out.cell (j := 0) rfl
        have zx1_22 := Xx21.out.cell (j := 1) rfl
        have zx2_22 := Xx21.out.cell (j := 2) rfl
        have zx3_22 := Xx21.out.cell (j := 3) rfl
        have zx4_22 := Xx21.out.cell (j := 4) rfl
        have zx5_22 := Xx21.out.cell (j := 5) rfl
        have yx0_22 := Xx21.out.thaw 0
        have yx1_22 := Xx21.out.thaw 1
        have yx2_22 := Xx21.out.thaw 2
        have yx3_22 := Xx21.out.thaw 3
        have yx4_22 := Xx21.out.thaw 4
        have yx5_22 := Xx21.out.thaw 5
        have zs0_22 := Xs21.out.cell (j := 0) rfl
        have zs1_22 := Xs21.out.cell (j := 1) rfl
        have zs2_22 := Xs21.out.cell (j := 2) rfl
        have ys0_22 := Xs21.out.thaw 0
        have ys1_22 := Xs21.out.thaw 1
        have ys2_22 := Xs21.out.thaw 2
        have Rk23s := hid (Rk21.out.behind (b := w2.heap.size) (j := 2) HAH.out Mx.out (.int .i64 m6))
        have K23 := hid (K21.out.set (b := w2.heap.size) (j := 2) (v := (.int .i64 m6)) Nx.out)
        have G23 := hid (grown_far (b := w2.heap.size) (j := 2) (v := (.int .i64 m6)) G21.out Mx.out)
        have Xk23 := hid (Xk21.out.far (b := w2.heap.size) (j := 2) (by have := Akx.out; omega) (.int .i64 m6))
        have Xr23 := hid (Xr21.out.far (b := w2.heap.size) (j := 2) (by have := Arx.out; omega) (.int .i64 m6))
        have Xx23 : Hid (BlockIs (w6.setCell ⟨w2.heap.size, 2, none⟩ (.int .i64 m6)) (w2.heap.size) 94 [.int .i64 op, .int .i64 tk2, .int .i64 m6, .string key, .string val, .int .i64 ver]) := Xx21.out.set 2 (.int .i64 m6)
        have Xs23 := hid (Xs21.out.far (b := w2.heap.size) (j := 2) (by have := Axs.out; omega) (.int .i64 m6))
        clear K21 G21 Xk21 Xr21 Xx21 Xs21
        have zk0_24 := Xk23.out.cell (j := 0) rfl
        have zk1_24 := Xk23.out.cell (j := 1) rfl
        have yk0_24 := Xk23.out.thaw 0
        have yk1_24 := Xk23.out.thaw 1
        have zr0_24 := Xr23.out.cell (j := 0) rfl
        have zr1_24 := Xr23.out.cell (j := 1) rfl
        have zr2_24 := Xr23.out.cell (j := 2) rfl
        have zr3_24 := Xr23.out.cell (j := 3) rfl
        have zr4_24 := Xr23.out.cell (j := 4) rfl
        have zr5_24 := Xr23.out.cell (j := 5) rfl
        have yr0_24 := Xr23.out.thaw 0
        have yr1_24 := Xr23.out.thaw 1
        have yr2_24 := Xr23.out.thaw 2
        have yr3_24 := Xr23.out.thaw 3
        have yr4_24 := Xr23.out.thaw 4
        have yr5_24 := Xr23.out.thaw 5
        have zx0_24 := Xx23.out.cell (j := 0) rfl
        have zx1_24 := Xx23.out.cell (j := 1) rfl
        have zx2_24 := Xx23.out.cell (j := 2) rfl
        have zx3_24 := Xx23.out.cell (j := 3) rfl
        have zx4_24 := Xx23.out.cell (j := 4) rfl
        have zx5_24 := Xx23.out.cell (j := 5) rfl
        have yx0_24 := Xx23.out.thaw 0
        have yx1_24 := Xx23.out.thaw 1
        have yx2_24 := Xx23.out.thaw 2
        have yx3_24 := Xx23.out.thaw 3
        have yx4_24 := Xx23.out.thaw 4
        have yx5_24 := Xx23.out.thaw 5
        have zs0_24 := Xs23.out.cell (j := 0) rfl
        have zs1_24 := Xs23.out.cell (j := 1) rfl
        have zs2_24 := Xs23.out.cell (j := 2) rfl
        have ys0_24 := Xs23.out.thaw 0
        have ys1_24 := Xs23.out.thaw 1
        have ys2_24 := Xs23.out.thaw 2
        clear Rk21
        have KL := hid ((((((K23.out.set (b := w.heap.size + 1) (j := 0) (v := .int .i64 op) Nr.out).set (b := w.heap.size + 1) (j := 1) (v := .int .i64 tk2) Nr.out).set (b := w.heap.size + 1) (j := 2) (v := .int .i64 m6) Nr.out).set (b := w.heap.size + 1) (j := 3) (v := .string key) Nr.out).set (b := w.heap.size + 1) (j := 4) (v := .string val) Nr.out).set (b := w.heap.size + 1) (j := 5) (v := .int .i64 ver) Nr.out)
        have GL := hid (grown_far (b := w.heap.size + 1) (j := 5) (v := .int .i64 ver) (grown_far (b := w.heap.size + 1) (j := 4) (v := .string val) (grown_far (b := w.heap.size + 1) (j := 3) (v := .string key) (grown_far (b := w.heap.size + 1) (j := 2) (v := .int .i64 m6) (grown_far (b := w.heap.size + 1) (j := 1) (v := .int .i64 tk2) (grown_far (b := w.heap.size + 1) (j := 0) (v := .int .i64 op) G23.out Mr.out) Mr.out) Mr.out) Mr.out) Mr.out) Mr.out)
        go_wp2
        refine bodyPost_ret (v := .agg #[.int .i64 op, .int .i64 tk2, .int .i64 m6, .string key, .string val, .int .i64 ver]) (by simp [results, Tryz.results54, go_sem, zr0_24, zr1_24, zr2_24, zr3_24, zr4_24, zr5_24]) rfl ?_
        exact ⟨⟨op, tk2, m6, key, val, ver⟩, rfl, (HOK.out _ _ (by show (0 : Int) ≤ tk2; omega) (by show tk2 ≤ (1000000 : Int); omega) (by show (0 : Int) ≤ m6; omega) (by show m6 ≤ (1000000 : Int); omega)), KL.out, GL.out⟩
      by_cases y2 : y5 = 2
      · subst y2
        clear y0 y1
        go_wp2_with fail
        refine Calls.mono (l01Below_any C 9 (by omega) (by omega) _ K19.out) ?_
        rintro e w6 ⟨m6, rfl, hy6, hz6, k6, q6⟩
        have K21 := hid (k6)
        have G21 := hid (G19.out.trans q6)
        have Xk21 := hid (Xk19.out.cur q6 Nk.out)
        have Xr21 := hid (Xr19.out.cur q6 Nr.out)
        have Xx21 := hid (Xx19.out.cur q6 Nx.out)
        have Xs21 := hid (Xs19.out.cur q6 Ns.out)
        have Rk21 := hid (Rk19.out.cur q6 HRC.out)
        clear k6 q6 K19 G19 zk0_20 zk1_20 yk0_20 yk1_20 zr0_20 zr1_20 zr2_20 zr3_20 zr4_20 zr5_20 yr0_20 yr1_20 yr2_20 yr3_20 yr4_20 yr5_20 zx0_20 zx1_20 zx2_20 zx3_20 zx4_20 zx5_20 yx0_20 yx1_20 yx2_20 yx3_20 yx4_20 yx5_20 zs0_20 zs1_20 zs2_20 ys0_20 ys1_20 ys2_20 Xk19 Xr19 Xx19 Xs19 Rk19
        have zk0_22 := Xk21.out.cell (j := 0) rfl
        have zk1_22 := Xk21.out.cell (j := 1) rfl
        have yk0_22 := Xk21.out.thaw 0
        have yk1_22 := Xk21.out.thaw 1
        have zr0_22 := Xr21.out.cell (j := 0) rfl
        have zr1_22 := Xr21.out.cell (j := 1) rfl
        have zr2_22 := Xr21.out.cell (j := 2) rfl
        have zr3_22 := Xr21.out.cell (j := 3) rfl
        have zr4_22 := Xr21.out.cell (j := 4) rfl
        have zr5_22 := Xr21.out.cell (j := 5) rfl
        have yr0_22 := Xr21.out.thaw 0
        have yr1_22 := Xr21.out.thaw 1
        have yr2_22 := Xr21.out.thaw 2
        have yr3_22 := Xr21.out.thaw 3
        have yr4_22 := Xr21.out.thaw 4
        have yr5_22 := Xr21.out.thaw 5
        have zx0_22 := Xx21.out.cell (j := 0) rfl
        have zx1_22 := Xx21.out.cell (j := 1) rfl
        have zx2_22 := Xx21.out.cell (j := 2) rfl
        have zx3_22 := Xx21.out.cell (j := 3) rfl
        have zx4_22 := Xx21.out.cell (j := 4) rfl
        have zx5_22 := Xx21.out.cell (j := 5) rfl
        have yx0_22 := Xx21.out.thaw 0
        have yx1_22 := Xx21.out.thaw 1
        have yx2_22 := Xx21.out.thaw 2
        have yx3_22 := Xx21.out.thaw 3
        have yx4_22 := Xx21.out.thaw 4
        have yx5_22 := Xx21.out.thaw 5
        have zs0_22 := Xs21.out.cell (j := 0) rfl
        have zs1_22 := Xs21.out.cell (j := 1) rfl
        have zs2_22 := Xs21.out.cell (j := 2) rfl
        have ys0_22 := Xs21.out.thaw 0
        have ys1_22 := Xs21.out.thaw 1
        have ys2_22 := Xs21.out.thaw 2
        have Rk23s := hid (Rk21.out.behind (b := w2.heap.size) (j := 1) HAH.out Mx.out (.int .i64 m6))
        have K23 := hid (K21.out.set (b := w2.heap.size) (j := 1) (v := (.int .i64 m6)) Nx.out)
        have G23 := hid (grown_far (b := w2.heap.size) (j := 1) (v := (.int .i64 m6)) G21.out Mx.out)
        have Xk23 := hid (Xk21.out.far (b := w2.heap.size) (j := 1) (by have := Akx.out; omega) (.int .i64 m6))
        have Xr23 := hid (Xr21.out.far (b := w2.heap.size) (j := 1) (by have := Arx.out; omega) (.int .i64 m6))
        have Xx23 : Hid (BlockIs (w6.setCell ⟨w2.heap.size, 1, none⟩ (.int .i64 m6)) (w2.heap.size) 94 [.int .i64 op, .int .i64 m6, .int .i64 (la2 + 1), .string key, .string val, .int .i64 ver]) := Xx21.out.set 1 (.int .i64 m6)
        have Xs23 := hid (Xs21.out.far (b := w2.heap.size) (j := 1) (by have := Axs.out; omega) (.int .i64 m6))
        clear K21 G21 Xk21 Xr21 Xx21 Xs21
        have zk0_24 := Xk23.out.cell (j := 0) rfl
        have zk1_24 := Xk23.out.cell (j := 1) rfl
        have yk0_24 := Xk23.out.thaw 0
        have yk1_24 := Xk23.out.thaw 1
        have zr0_24 := Xr23.out.cell (j := 0) rfl
        have zr1_24 := Xr23.out.cell (j := 1) rfl
        have zr2_24 := Xr23.out.cell (j := 2) rfl
        have zr3_24 := Xr23.out.cell (j := 3) rfl
        have zr4_24 := Xr23.out.cell (j := 4) rfl
        have zr5_24 := Xr23.out.cell (j := 5) rfl
        have yr0_24 := Xr23.out.thaw 0
        have yr1_24 := Xr23.out.thaw 1
        have yr2_24 := Xr23.out.thaw 2
        have yr3_24 := Xr23.out.thaw 3
        have yr4_24 := Xr23.out.thaw 4
        have yr5_24 := Xr23.out.thaw 5
        have zx0_24 := Xx23.out.cell (j := 0) rfl
        have zx1_24 := Xx23.out.cell (j := 1) rfl
        have zx2_24 := Xx23.out.cell (j := 2) rfl
        have zx3_24 := Xx23.out.cell (j := 3) rfl
        have zx4_24 := Xx23.out.cell (j := 4) rfl
        have zx5_24 := Xx23.out.cell (j := 5) rfl
        have yx0_24 := Xx23.out.thaw 0
        have yx1_24 := Xx23.out.thaw 1
        have yx2_24 := Xx23.out.thaw 2
        have yx3_24 := Xx23.out.thaw 3
        have yx4_24 := Xx23.out.thaw 4
        have yx5_24 := Xx23.out.thaw 5
        have zs0_24 := Xs23.out.cell (j := 0) rfl
        have zs1_24 := Xs23.out.cell (j := 1) rfl
        have zs2_24 := Xs23.out.cell (j := 2) rfl
        have ys0_24 := Xs23.out.thaw 0
        have ys1_24 := Xs23.out.thaw 1
        have ys2_24 := Xs23.out.thaw 2
        clear Rk21
        have KL := hid ((((((K23.out.set (b := w.heap.size + 1) (j := 0) (v := .int .i64 op) Nr.out).set (b := w.heap.size + 1) (j := 1) (v := .int .i64 m6) Nr.out).set (b := w.heap.size + 1) (j := 2) (v := .int .i64 (la2 + 1)) Nr.out).set (b := w.heap.size + 1) (j := 3) (v := .string key) Nr.out).set (b := w.heap.size + 1) (j := 4) (v := .string val) Nr.out).set (b := w.heap.size + 1) (j := 5) (v := .int .i64 ver) Nr.out)
        have GL := hid (grown_far (b := w.heap.size + 1) (j := 5) (v := .int .i64 ver) (grown_far (b := w.heap.size + 1) (j := 4) (v := .string val) (grown_far (b := w.heap.size + 1) (j := 3) (v := .string key) (grown_far (b := w.heap.size + 1) (j := 2) (v := .int .i64 (la2 + 1)) (grown_far (b := w.heap.size + 1) (j := 1) (v := .int .i64 m6) (grown_far (b := w.heap.size + 1) (j := 0) (v := .int .i64 op) G23.out Mr.out) Mr.out) Mr.out) Mr.out) Mr.out) Mr.out)
        go_wp2
        refine bodyPost_ret (v := .agg #[.int .i64 op, .int .i64 m6, .int .i64 (la2 + 1), .string key, .string val, .int .i64 ver]) (by simp [results, Tryz.results54, go_sem, zr0_24, zr1_24, zr2_24, zr3_24, zr4_24, zr5_24]) rfl ?_
        exact ⟨⟨op, m6, (la2 + 1), key, val, ver⟩, rfl, (HOK.out _ _ (by show (0 : Int) ≤ m6; omega) (by show m6 ≤ (1000000 : Int); omega) (by show (0 : Int) ≤ (la2 + 1); omega) (by show (la2 + 1) ≤ (1000000 : Int); omega)), KL.out, GL.out⟩
      have y0' : (y5 == 0) = false := by simpa using y0
      have y1' : (y5 == 1) = false := by simpa using y1
      have y2' : (y5 == 2) = false := by simpa using y2
      have KL := hid ((((((K19.out.set (b := w.heap.size + 1) (j := 0) (v := .int .i64 op) Nr.out).set (b := w.heap.size + 1) (j := 1) (v := .int .i64 tk2) Nr.out).set (b := w.heap.size + 1) (j := 2) (v := .int .i64 (la2 + 1)) Nr.out).set (b := w.heap.size + 1) (j := 3) (v := .string key) Nr.out).set (b := w.heap.size + 1) (j := 4) (v := .string val) Nr.out).set (b := w.heap.size + 1) (j := 5) (v := .int .i64 ver) Nr.out)
      have GL := hid (grown_far (b := w.heap.size + 1) (j := 5) (v := .int .i64 ver) (grown_far (b := w.heap.size + 1) (j := 4) (v := .string val) (grown_far (b := w.heap.size + 1) (j := 3) (v := .string key) (grown_far (b := w.heap.size + 1) (j := 2) (v := .int .i64 (la2 + 1)) (grown_far (b := w.heap.size + 1) (j := 1) (v := .int .i64 tk2) (grown_far (b := w.heap.size + 1) (j := 0) (v := .int .i64 op) G19.out Mr.out) Mr.out) Mr.out) Mr.out) Mr.out) Mr.out)
      go_wp2
      refine bodyPost_ret (v := .agg #[.int .i64 op, .int .i64 tk2, .int .i64 (la2 + 1), .string key, .string val, .int .i64 ver]) (by simp [results, Tryz.results54, go_sem, zr0_20, zr1_20, zr2_20, zr3_20, zr4_20, zr5_20]) rfl ?_
      exact ⟨⟨op, tk2, (la2 + 1), key, val, ver⟩, rfl, (HOK.out _ _ (by show (0 : Int) ≤ tk2; omega) (by show tk2 ≤ (1000000 : Int); omega) (by show (0 : Int) ≤ (la2 + 1); omega) (by show (la2 + 1) ≤ (1000000 : Int); omega)), KL.out, GL.out⟩
end Go.Proofs.YtoanhjjigbjecaaGreatDoor

namespace Go.Proofs.YtoanhjjigbjecaaGreatDoor
open Go.RowKit

set_option maxRecDepth 1000000 in
set_option maxHeartbeats 4000000 in
theorem l15Copy_any (ao bo : Option Addr) (ls : List SessionD) (li : List ItemD) (ac bc : Nat) (hl : ls.length ≤ 1048576) (hl2 : li.length ≤ 1048576) (w : World) (ha : SessionsAt w ao ls) (hi : ItemsAt w bo li) :
    Calls Tryz.prog 85 #[.agg #[.slice ao ls.length ac, .slice bo li.length bc]] w fun e w' => ∃ va vc vb vd, e = .returned (.agg #[.slice va ls.length vc, .slice vb li.length vd]) ∧ KRows w' w.heap.size (.slice va ls.length vc) (.slice vb li.length vd) ls li ∧ Below w.heap.size w w' := by
  have hx0 : BlockIs ((w.alloc (.cells #[.slice ao ls.length ac, .slice bo li.length bc] 56)).alloc (.cells #[.slice none 0 0, .slice none 0 0] 56)) w.heap.size 56 [.slice ao ls.length ac, .slice bo li.length bc] := by
    show ((w.heap.push _).push _)[w.heap.size]? = some _
    rw [Array.getElem?_push, if_neg (by simp), Array.getElem?_push, if_pos rfl]
  have hx1 : BlockIs ((w.alloc (.cells #[.slice ao ls.length ac, .slice bo li.length bc] 56)).alloc (.cells #[.slice none 0 0, .slice none 0 0] 56)) (w.heap.size + 1) 56 [.slice none 0 0, .slice none 0 0] := by
    show ((w.heap.push _).push _)[w.heap.size + 1]? = some _
    rw [Array.getElem?_push, if_pos (by simp)]
  have hb0 := below_more (below_more (Below.refl w.heap.size w) (.cells #[.slice ao ls.length ac, .slice bo li.length bc] 56)) (.cells #[.slice none 0 0, .slice none 0 0] 56)
  obtain ⟨WW, hWW⟩ : ∃ WW, (w.alloc (.cells #[.slice ao ls.length ac, .slice bo li.length bc] 56)).alloc (.cells #[.slice none 0 0, .slice none 0 0] 56) = WW := ⟨_, rfl⟩
  rw [hWW] at hx0 hx1 hb0
  have X0 := hid hx0
  have X1 := hid hx1
  have B0 := hid hb0
  have HA := hid ha
  have HI := hid hi
  clear hx0 hx1 hb0 ha hi
  go_enter Tryz.func85, Tryz.ntmps85
  go_wp2
  refine wp_region_each (N := 12) (by kernel_rfl) (by kernel_rfl) rfl (by kernel_rfl) (fun W => Below w.heap.size w W ∧ BlockIs W (w.heap.size) 56 [.slice ao ls.length ac, .slice bo li.length bc] ∧ ∃ cs, cs.length = 2 ∧ BlockIs W (w.heap.size + 1) 56 cs) (fun j v _ W => match j with | 0 => v.ownBlock ≠ none ∧ W.ownsRow (w.heap.size + 1 + 1) 86 3 v 0 (sessionCells []) | 1 => v = .pointer (some ⟨w.heap.size, 0, none⟩) | 2 => v = .slice ao ls.length ac | 3 => ∃ va vc, v = .slice va ls.length vc ∧ W.ownsRow (w.heap.size + 1 + 1) 86 3 (.slice va ls.length vc) ls.length (sessionCells ls) | 4 => v.ownBlock ≠ none ∧ W.ownsRow (w.heap.size + 1 + 1) 89 3 v 0 (itemCells []) | 5 => v = .pointer (some ⟨w.heap.size, 1, none⟩) | 6 => v = .slice bo li.length bc | 7 => ∃ vb vd, v = .slice vb li.length vd ∧ W.ownsRow (w.heap.size + 1 + 1) 89 3 (.slice vb li.length vd) li.length (itemCells li) | 8 => ∃ va vc vb vd, v = .agg #[.slice va ls.length vc, .slice vb li.length vd] ∧ W.ownsRow (w.heap.size + 1 + 1) 86 3 (.slice va ls.length vc) ls.length (sessionCells ls) ∧ W.ownsRow (w.heap.size + 1 + 1) 89 3 (.slice vb li.length vd) li.length (itemCells li) | 9 => ∃ va vc vb vd, BlockIs W (w.heap.size + 1) 56 [.slice va ls.length vc, .slice vb li.length vd] ∧ W.ownsRow (w.heap.size + 1 + 1) 86 3 (.slice va ls.length vc) ls.length (sessionCells ls) ∧ W.ownsRow (w.heap.size + 1 + 1) 89 3 (.slice vb li.length vd) li.length (itemCells li) | _ => True) (fun i => i) (fun j i => decide ((j, i) ∈ ([(0, 3), (4, 7)] : List (Nat × Nat)))) (fun i x y => x.heap.size ≤ y.heap.size ∧ ∀ g ty cs, BlockIs x g ty cs → (i = 3 → ty ≠ 86) → (i = 7 → ty ≠ 89) → (i = 9 → ty ≠ 56) → BlockIs y g ty cs) (fun _ => 0) (by kernel_rfl) (fun _ _ => rfl) ?_ ⟨below_drewN B0.out 1, X0.out.on (below_drewN (Below.refl _ _) 1) X0.out.lt, _, rfl, X1.out.on (below_drewN (Below.refl _ _) 1) X1.out.lt⟩ ?_ ?_
  · intro i j v u x y hij hdd hwt hxy hg
    match j, hg with
    | 0, hg =>
      simp at hdd
      exact ⟨hg.1, row_ext hg.2 fun g cs h => hxy.2 _ _ _ h (fun e => absurd e hdd) (fun _ => by decide) (fun _ => by decide)⟩
    | 1, hg => exact hg
    | 2, hg => exact hg
    | 3, hg =>
      obtain ⟨va, vc, e1, e2⟩ := hg
      exact ⟨va, vc, e1, row_ext e2 fun g cs h => hxy.2 _ _ _ h (fun e => absurd e hij) (fun _ => by decide) (fun _ => by decide)⟩
    | 4, hg =>
      simp at hdd
      exact ⟨hg.1, row_ext hg.2 fun g cs h => hxy.2 _ _ _ h (fun _ => by decide) (fun e => absurd e hdd) (fun _ => by decide)⟩
    | 5, hg => exact hg
    | 6, hg => exact hg
    | 7, hg =>
      obtain ⟨va, vc, e1, e2⟩ := hg
      exact ⟨va, vc, e1, row_ext e2 fun g cs h => hxy.2 _ _ _ h (fun _ => by decide) (fun e => absurd e hij) (fun _ => by decide)⟩
    | 8, hg =>
      obtain ⟨va, vc, vb, vd, e1, e2, e3⟩ := hg
      have h3 : i ≠ 3 := by rintro rfl; exact Bool.noConfusion (hwt.symm.trans (by kernel_rfl : waitsB _ 8 3 = true))
      have h7 : i ≠ 7 := by rintro rfl; exact Bool.noConfusion (hwt.symm.trans (by kernel_rfl : waitsB _ 8 7 = true))
      exact ⟨va, vc, vb, vd, e1, row_ext e2 fun g cs h => hxy.2 _ _ _ h (fun e => absurd e h3) (fun e => absurd e h7) (fun _ => by decide), row_ext e3 fun g cs h => hxy.2 _ _ _ h (fun e => absurd e h3) (fun e => absurd e h7) (fun _ => by decide)⟩
    | 9, hg =>
      obtain ⟨va, vc, vb, vd, e1, e2, e3⟩ := hg
      have h3 : i ≠ 3 := by rintro rfl; exact Bool.noConfusion (hwt.symm.trans (by kernel_rfl : waitsB _ 9 3 = true))
      have h7 : i ≠ 7 := by rintro rfl; exact Bool.noConfusion (hwt.symm.trans (by kernel_rfl : waitsB _ 9 7 = true))
      exact ⟨va, vc, vb, vd, hxy.2 _ _ _ e1 (fun e => absurd e h3) (fun e => absurd e h7) (fun e => absurd e hij), row_ext e2 fun g cs h => hxy.2 _ _ _ h (fun e => absurd e h3) (fun e => absurd e h7) (fun _ => by decide), row_ext e3 fun g cs h => hxy.2 _ _ _ h (fun e => absurd e h3) (fun e => absurd e h7) (fun _ => by decide)⟩
    | n + 10, _ => exact trivial
  · refine ⟨?_, ?_, ?_, ?_, ?_, ?_, ?_, ?_, ?_, ?_, trivial⟩
    · intro A W hC hg hb
      obtain ⟨k1, k2, cs, k3, k4⟩ := hC
      have hbm := below_more (Below.refl W.heap.size W) (.cells #[] 86)
      exact does_value (v := .slice (some ⟨W.heap.size, 0, none⟩) 0 0) (w' := W.alloc (.cells #[] 86)) (by simp [execOp, go_sem]) ⟨⟨by simp [Value.ownBlock], sessionR_nil W _ k4.lt⟩, ⟨below_more k1 _, k2.on hbm k2.lt, cs, k3, k4.on hbm k4.lt⟩, hbm.size, fun _ _ _ h _ _ _ => h.on hbm h.lt⟩
    · intro A W hC hg hb
      have h1 : A.eval (.tmp 1) = .pointer (some ⟨w.heap.size, 0, none⟩) := hb 1 (base_of (by kernel_rfl))
      exact does_value (v := .pointer (some ⟨w.heap.size, 0, none⟩)) (w' := W) (by simp only [execOp, h1]; simp [go_sem]) ⟨rfl, hC, Nat.le_refl _, fun _ _ _ h _ _ _ => h⟩
    · intro A W hC hg hb
      have h4 : A.eval (.tmp 4) = .pointer (some ⟨w.heap.size, 0, none⟩) := hg 1 4 (by decide) rfl (by simp [Op.operands]) (by kernel_rfl) rfl
      have hc := hC.2.1.cell (j := 0) rfl
      exact does_value (v := .slice ao ls.length ac) (w' := W) (by simp only [execOp, h4]; simp [go_sem, hc]) ⟨rfl, hC, Nat.le_refl _, fun _ _ _ h _ _ _ => h⟩
    · intro A W hC hg hb
      have g0 := hg 0 3 (by decide) rfl (by simp [Op.operands, Call.operands]) (by kernel_rfl) rfl
      have h5 : A.eval (.tmp 5) = .slice ao ls.length ac := hg 2 5 (by decide) rfl (by simp [Op.operands, Call.operands]) (by kernel_rfl) rfl
      obtain ⟨hnn, hr0⟩ := g0
      obtain ⟨va, vc, hv⟩ := row_shape hr0
      rw [hv] at hr0
      obtain ⟨k1, k2, cs, k3, k4⟩ := hC
      obtain ⟨v', W', hr, h2, h3'⟩ := append_sessions (L := []) (c := ac) (by simp; omega) (Nat.le_trans (show _ ≤ _ from k4.lt) (Nat.le_refl _)) hr0 (HA.out.on k1)
      rw [List.nil_append] at h2
      obtain ⟨va', vc', rfl⟩ := row_shape h2
      have hk : ∀ q ty cs, BlockIs W q ty cs → ty ≠ 86 → BlockIs W' q ty cs := fun q ty cs hq hne => block_grown hq hr0 h3' hne
      refine does_value (v := .slice va' ls.length vc') (w' := W') (by simp only [execOp, resolve, invoke, builtin, Sem.run_bind, Sem.run_pure, Result.andThen_ok, List.map_toArray, List.map_cons, List.map_nil, hv, h5, hr]) ⟨⟨va', vc', rfl, h2⟩, ⟨k1.grown h3' k1.size (fun j hj => by have := (hr0.lt j hj).1; omega), hk _ _ _ k2 (by decide), cs, k3, hk _ _ _ k4 (by decide)⟩, h3'.size, fun q ty cs hq n3 n7 _ => hk q ty cs hq (n3 rfl)⟩
    · intro A W hC hg hb
      obtain ⟨k1, k2, cs, k3, k4⟩ := hC
      have hbm := below_more (Below.refl W.heap.size W) (.cells #[] 89)
      exact does_value (v := .slice (some ⟨W.heap.size, 0, none⟩) 0 0) (w' := W.alloc (.cells #[] 89)) (by simp [execOp, go_sem]) ⟨⟨by simp [Value.ownBlock], itemR_nil W _ k4.lt⟩, ⟨below_more k1 _, k2.on hbm k2.lt, cs, k3, k4.on hbm k4.lt⟩, hbm.size, fun _ _ _ h _ _ _ => h.on hbm h.lt⟩
    · intro A W hC hg hb
      have h1 : A.eval (.tmp 1) = .pointer (some ⟨w.heap.size, 0, none⟩) := hb 1 (base_of (by kernel_rfl))
      exact does_value (v := .pointer (some ⟨w.heap.size, 1, none⟩)) (w' := W) (by simp only [execOp, h1]; simp [go_sem]) ⟨rfl, hC, Nat.le_refl _, fun _ _ _ h _ _ _ => h⟩
    · intro A W hC hg hb
      have h8 : A.eval (.tmp 8) = .pointer (some ⟨w.heap.size, 1, none⟩) := hg 5 8 (by decide) rfl (by simp [Op.operands]) (by kernel_rfl) rfl
      have hc := hC.2.1.cell (j := 1) rfl
      exact does_value (v := .slice bo li.length bc) (w' := W) (by simp only [execOp, h8]; simp [go_sem, hc]) ⟨rfl, hC, Nat.le_refl _, fun _ _ _ h _ _ _ => h⟩
    · intro A W hC hg hb
      have g4 := hg 4 7 (by decide) rfl (by simp [Op.operands, Call.operands]) (by kernel_rfl) rfl
      have h9 : A.eval (.tmp 9) = .slice bo li.length bc := hg 6 9 (by decide) rfl (by simp [Op.operands, Call.operands]) (by kernel_rfl) rfl
      obtain ⟨hnn, hr0⟩ := g4
      obtain ⟨va, vc, hv⟩ := row_shape hr0
      rw [hv] at hr0
      obtain ⟨k1, k2, cs, k3, k4⟩ := hC
      obtain ⟨v', W', hr, h2, h3'⟩ := append_items (L := []) (c := bc) (by simp; omega) (Nat.le_trans (show _ ≤ _ from k4.lt) (Nat.le_refl _)) hr0 (HI.out.on k1)
      rw [List.nil_append] at h2
      obtain ⟨va', vc', rfl⟩ := row_shape h2
      have hk : ∀ q ty cs, BlockIs W q ty cs → ty ≠ 89 → BlockIs W' q ty cs := fun q ty cs hq hne => block_grown hq hr0 h3' hne
      refine does_value (v := .slice va' li.length vc') (w' := W') (by simp only [execOp, resolve, invoke, builtin, Sem.run_bind, Sem.run_pure, Result.andThen_ok, List.map_toArray, List.map_cons, List.map_nil, hv, h9, hr]) ⟨⟨va', vc', rfl, h2⟩, ⟨k1.grown h3' k1.size (fun j hj => by have := (hr0.lt j hj).1; omega), hk _ _ _ k2 (by decide), cs, k3, hk _ _ _ k4 (by decide)⟩, h3'.size, fun q ty cs hq n3 n7 _ => hk q ty cs hq (n7 rfl)⟩
    · intro A W hC hg hb
      have g3 := hg 3 6 (by decide) rfl (by simp [Op.operands]) (by kernel_rfl) rfl
      have g7 := hg 7 10 (by decide) rfl (by simp [Op.operands]) (by kernel_rfl) rfl
      obtain ⟨va, vc, e3, hs3⟩ := g3
      obtain ⟨vb, vd, e7, hs7⟩ := g7
      simp [go_sem] at e3 e7
      refine does_value (v := .agg #[.slice va ls.length vc, .slice vb li.length vd]) (w' := W) (by simp [execOp, go_sem, e3, e7]) ⟨⟨va, vc, vb, vd, rfl, hs3, hs7⟩, hC, Nat.le_refl _, fun _ _ _ h _ _ _ => h⟩
    · intro A W hC hg hb
      have h2 : A.eval (.tmp 2) = .pointer (some ⟨w.heap.size + 1, 0, none⟩) := hb 2 (base_of (by kernel_rfl))
      have g8 := hg 8 11 (by decide) rfl (by simp [Op.operands]) (by kernel_rfl) rfl
      obtain ⟨va, vc, vb, vd, e8, hs3, hs7⟩ := g8
      obtain ⟨k1, k2, cs, k3, k4⟩ := hC
      match cs, k3 with
      | [a0, a1], _ =>
        have c0 := k4.cell (j := 0) rfl
        have c1 := k4.cell (j := 1) rfl
        have f0 := k4.thaw 0
        have f1 := k4.thaw 1
        have hX3 := (k4.set 0 (.slice va ls.length vc)).set 1 (.slice vb li.length vd)
        have far : ∀ q ty cs, BlockIs W q ty cs → w.heap.size + 1 ≠ q → BlockIs ((W.setCell ⟨w.heap.size + 1, 0, none⟩ (.slice va ls.length vc)).setCell ⟨w.heap.size + 1, 1, none⟩ (.slice vb li.length vd)) q ty cs := fun q ty cs hq hne => (hq.far hne _).far hne _
        have far2 : ∀ q ty cs, BlockIs W q ty cs → ty ≠ 56 → BlockIs ((W.setCell ⟨w.heap.size + 1, 0, none⟩ (.slice va ls.length vc)).setCell ⟨w.heap.size + 1, 1, none⟩ (.slice vb li.length vd)) q ty cs := fun q ty cs hq hne => far q ty cs hq (by intro e; subst e; exact hne (block_one hq k4).1)
        refine does_skip (w' := ((W.setCell ⟨w.heap.size + 1, 0, none⟩ (.slice va ls.length vc)).setCell ⟨w.heap.size + 1, 1, none⟩ (.slice vb li.length vd))) (by simp only [execOp, h2, e8]; simp [go_sem, c0, c1, f0, f1]) ⟨⟨va, vc, vb, vd, hX3, ?_, ?_⟩, ⟨(k1.setCell (by show _ ≤ _ + 1; omega) _).setCell (by show _ ≤ _ + 1; omega) _, far _ _ _ k2 (by omega), _, rfl, hX3⟩, ?_, fun q ty cs hq _ _ hne => far2 q ty cs hq (hne rfl)⟩
        · exact row_ext hs3 (fun g r h => far2 g _ _ h (by decide))
        · exact row_ext hs7 (fun g r h => far2 g _ _ h (by decide))
        · simp [World.size_setCell]
  · intro vs w4 hC hg
    obtain ⟨va, vc, vb, vd, g1, g2, g3⟩ := hg 9 (by decide) (fun k => by simp)
    clear hg
    change Exit.then _ _ _ (laidBy _ vs _ 10 _) w4
    simp only [laidBy, if_true, dstAt, List.getElem?_toArray, List.getElem?_cons_succ, List.getElem?_cons_zero, Option.bind_some]
    simp only [Act.put, List.setIfInBounds_toArray, List.set_cons_succ, List.set_cons_zero]
    have c0 := g1.cell (j := 0) rfl
    have c1 := g1.cell (j := 1) rfl
    have BL := hid hC.1
    have G2 := hid (KRows.down (lo' := w.heap.size) ⟨g2, g3⟩ (by omega))
    clear hC g1 g2 g3
    go_wp2
    refine bodyPost_ret (v := .agg #[.slice va ls.length vc, .slice vb li.length vd]) (by simp [results, Tryz.results85, go_sem, c0, c1]) rfl ⟨va, vc, vb, vd, rfl, G2.out, BL.out⟩
end Go.Proofs.YtoanhjjigbjecaaGreatDoor
