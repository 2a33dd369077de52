/-
  The walk of spec.l15Of: some command, of any keep that lies in memory of the caller's own.
-/
import Derived.Test.YtoanhjjigbjecaaGreatDoorJoint5
import Derived.Test.YtoanhjjigbjecaaGreatDoorJoint3
import Derived.Test.YtoanhjjigbjecaaGreatDoorJoint1
import Derived.Test.YtoanhjjigbjecaaGreatDoorJoint4
namespace Go.Proofs.YtoanhjjigbjecaaGreatDoor
open Go.RowKit

theorem pickM_any (C : Nat) (zs : List ByteArray) (h0 : 0 < zs.length) (h1 : zs.length ≤ 1000000) (t : TypeId) (w : World) (g : Nat) (hg : w.heap.size = g) (hc : CurAt w C) :
    Calls Tryz.prog 106 #[.pointer (some ⟨C, 0, none⟩), .slice (some ⟨g, 0, none⟩) zs.length zs.length] (w.alloc (.cells (zs.map Value.string).toArray t)) fun e w' => ∃ s : ByteArray, e = .returned (.string s) ∧ s ∈ zs ∧ CurAt w' C ∧ w.grownBy w' (some C) := by
  subst hg
  refine (l01Pick_any C w.heap.size zs zs.length h0 h1 hc.lt _ (hc.kept (World.grownBy_alloc _ _ none) (fun _ e => by cases e)) (strs_at zs w t)).mono ?_
  rintro e w' ⟨j, hj, rfl, hk, hg⟩
  exact ⟨_, rfl, List.getElem_mem hj, hk, (World.grownBy_alloc w _ (some C)).trans hg⟩
theorem op_in {op : Int} (h : op ∈ [2, 2, 2, 3, 3, 4, 5, 5]) : op = 2 ∨ op = 3 ∨ op = 4 ∨ op = 5 := by
  simp only [List.mem_cons, List.not_mem_nil, or_false] at h
  omega
theorem key_in {s : ByteArray} (h : s ∈ ([⟨#[97]⟩, ⟨#[98]⟩, ⟨#[99]⟩, ⟨#[114, 111, 111, 116]⟩, ⟨#[120, 49]⟩] : List ByteArray)) : 1 ≤ s.size ∧ s.size ≤ 8 := by
  simp only [List.mem_cons, List.not_mem_nil, or_false] at h
  rcases h with rfl | rfl | rfl | rfl | rfl <;> decide
theorem val_in {s : ByteArray} (h : s ∈ ([⟨#[]⟩, ⟨#[49]⟩, ⟨#[116, 119, 111]⟩, ⟨#[116, 104, 114, 101, 101]⟩] : List ByteArray)) : s.size ≤ 20 := by
  simp only [List.mem_cons, List.not_mem_nil, or_false] at h
  rcases h with rfl | rfl | rfl | rfl <;> decide
/-- right, whatever its Token and Seq are within their bounds -/
def OkFor (op : Int) (key val : ByteArray) (ver : Int) : Prop := ∀ t q : Int, 0 ≤ t → t ≤ 1000000 → 0 ≤ q → q ≤ 1000000 → commandOk ⟨op, t, q, key, val, ver⟩ = true
theorem cmd_ok {op ver : Int} {key val : ByteArray} (hk : 1 ≤ key.size ∧ key.size ≤ 8) (h : (op = 2 ∧ val.size ≤ 20 ∧ ver = 0) ∨ ((op = 3 ∨ op = 4) ∧ val.size = 0 ∧ ver = 0) ∨ (op = 5 ∧ val.size ≤ 20 ∧ 1 ≤ ver ∧ ver ≤ 1000000000)) : OkFor op key val ver := by
  intro t q h1 h2 h3 h4
  simp only [commandOk, within, Bool.and_eq_true, decide_eq_true_eq]
  refine ⟨⟨h1, h2⟩, ⟨h3, h4⟩, by omega, ?_⟩
  rw [if_neg (by omega)]
  simp only [Bool.and_eq_true, decide_eq_true_eq]
  refine ⟨by omega, by omega, ?_⟩
  rcases h with ⟨rfl, _, rfl⟩ | ⟨h, h5, rfl⟩ | ⟨rfl, _, h6, h7⟩
  · rfl
  · rw [if_neg (by omega), if_neg (by omega)]
    simp [h5]
  · rw [if_neg (by decide), if_pos rfl]
    simp only [Bool.and_eq_true, decide_eq_true_eq]
    exact ⟨h6, h7⟩
def OfDid (C : Nat) (w : World) (e : Ending) (w' : World) : Prop := ∃ d : CommandD, e = .returned (.agg #[.int .i64 d.op, .int .i64 0, .int .i64 0, .string d.key, .string d.val, .int .i64 d.ver]) ∧ OkFor d.op d.key d.val d.ver ∧ CurAt w' C ∧ w.grownBy w' (some C)
set_option maxRecDepth 1000000 in
set_option maxHeartbeats 2000000 in
theorem l15Of_any (C lo : Nat) (va vb : Option Addr) (vc vd : Nat) (ls : List SessionD) (li : List ItemD) (hl : li.length ≤ 1048576) (hif : ∀ e ∈ li, itemFine e = true) (w : World) (hc : CurAt w C) (hr : KRows w lo (.slice va ls.length vc) (.slice vb li.length vd) ls li) (hCr : C < lo) :
    Calls Tryz.prog 87 #[.pointer (some ⟨C, 0, none⟩), .agg #[.slice va ls.length vc, .slice vb li.length vd]] w fun e w' => OfDid C w e w' := by
  have hCl := hc.lt
  have K0 := hid hc
  have G0 := hid (World.grownBy.refl w (some C))
  clear hc
  have HR := hid hr
  have HRC := hid hCr
  have HAH := hid hr.ahead
  clear hr hCr
  have be := below_more (below_more (Below.refl w.heap.size w) (.cells #[.slice va ls.length vc, .slice vb li.length vd] 56)) (.cells #[.int .i64 0, .int .i64 0, .int .i64 0, .string ⟨#[]⟩, .string ⟨#[]⟩, .int .i64 0] 94)
  have hx0 : BlockIs (w.alloc (.cells #[.slice va ls.length vc, .slice vb li.length vd] 56)) w.heap.size 56 [.slice va ls.length vc, .slice vb li.length vd] := heap_alloc_new w _
  have hx1 := hx0.on (below_more (Below.refl _ _) (.cells #[.int .i64 0, .int .i64 0, .int .i64 0, .string ⟨#[]⟩, .string ⟨#[]⟩, .int .i64 0] 94)) hx0.lt
  have hx2 : BlockIs ((w.alloc (.cells #[.slice va ls.length vc, .slice vb li.length vd] 56)).alloc (.cells #[.int .i64 0, .int .i64 0, .int .i64 0, .string ⟨#[]⟩, .string ⟨#[]⟩, .int .i64 0] 94)) (w.heap.size + 1) 94 [.int .i64 0, .int .i64 0, .int .i64 0, .string ⟨#[]⟩, .string ⟨#[]⟩, .int .i64 0] := by
    have := heap_alloc_new (w.alloc (.cells #[.slice va ls.length vc, .slice vb li.length vd] 56)) (.cells #[.int .i64 0, .int .i64 0, .int .i64 0, .string ⟨#[]⟩, .string ⟨#[]⟩, .int .i64 0] 94)
    rw [show (w.alloc (.cells #[.slice va ls.length vc, .slice vb li.length vd] 56)).heap.size = w.heap.size + 1 by simp [World.alloc, -World.alloc_eq]] at this
    exact this
  have K1 := hid (K0.out.below be)
  have G1 := hid (grown_below G0.out be)
  have Rk1 := hid (HR.out.on be)
  have Xk1 := hid hx1
  have Nk : Hid (C < w.heap.size) := (show _ < _ by omega)
  have Mk : Hid (w.heap.size ≤ w.heap.size) := (show _ ≤ _ by omega)
  have Xr1 := hid hx2
  have Nr : Hid (C < w.heap.size + 1) := (show _ < _ by omega)
  have Mr : Hid (w.heap.size ≤ w.heap.size + 1) := (show _ ≤ _ by omega)
  have Akr : Hid (w.heap.size < w.heap.size + 1) := (show _ < _ by omega)
  clear be hx1 hx0 hx2 K0 G0 HR
  obtain ⟨W0, hW0⟩ : ∃ W, (w.alloc (.cells #[.slice va ls.length vc, .slice vb li.length vd] 56)).alloc (.cells #[.int .i64 0, .int .i64 0, .int .i64 0, .string ⟨#[]⟩, .string ⟨#[]⟩, .int .i64 0] 94) = W := ⟨_, rfl⟩
  rw [hW0] at K1 G1 Xk1 Xr1
  have zk0_2 := Xk1.out.cell (j := 0) rfl
  have zk1_2 := Xk1.out.cell (j := 1) rfl
  have yk0_2 := Xk1.out.thaw 0
  have yk1_2 := Xk1.out.thaw 1
  have zr0_2 := Xr1.out.cell (j := 0) rfl
  have zr1_2 := Xr1.out.cell (j := 1) rfl
  have zr2_2 := Xr1.out.cell (j := 2) rfl
  have zr3_2 := Xr1.out.cell (j := 3) rfl
  have zr4_2 := Xr1.out.cell (j := 4) rfl
  have zr5_2 := Xr1.out.cell (j := 5) rfl
  have yr0_2 := Xr1.out.thaw 0
  have yr1_2 := Xr1.out.thaw 1
  have yr2_2 := Xr1.out.thaw 2
  have yr3_2 := Xr1.out.thaw 3
  have yr4_2 := Xr1.out.thaw 4
  have yr5_2 := Xr1.out.thaw 5
  rw [hW0] at Rk1
  go_enter Tryz.func87, Tryz.ntmps87
  go_wp2_with fail
  refine Calls.mono (pickI_any C [2, 2, 2, 3, 3, 4, 5, 5] (by decide) (by decide) 3 _ _ rfl K1.out) ?_
  rintro e w1 ⟨op1, rfl, hop1, k1, q1⟩
  have K3 := hid (k1)
  have G3 := hid (G1.out.trans q1)
  have Xk3 := hid (Xk1.out.cur q1 Nk.out)
  have Xr3 := hid (Xr1.out.cur q1 Nr.out)
  have Rk3 := hid (Rk1.out.cur q1 HRC.out)
  clear k1 q1 K1 G1 zk0_2 zk1_2 yk0_2 yk1_2 zr0_2 zr1_2 zr2_2 zr3_2 zr4_2 zr5_2 yr0_2 yr1_2 yr2_2 yr3_2 yr4_2 yr5_2 Xk1 Xr1 Rk1
  go_wp2_with fail
  refine Calls.mono (pickM_any C [⟨#[97]⟩, ⟨#[98]⟩, ⟨#[99]⟩, ⟨#[114, 111, 111, 116]⟩, ⟨#[120, 49]⟩] (by decide) (by decide) 9 _ _ rfl K3.out) ?_
  rintro e w2 ⟨key2, rfl, hkm2, k2, q2⟩
  have K4 := hid (k2)
  have G4 := hid (G3.out.trans q2)
  have Xk4 := hid (Xk3.out.cur q2 Nk.out)
  have Xr4 := hid (Xr3.out.cur q2 Nr.out)
  have Rk4 := hid (Rk3.out.cur q2 HRC.out)
  clear k2 q2 K3 G3 Xk3 Xr3 Rk3
  have zk0_5 := Xk4.out.cell (j := 0) rfl
  have zk1_5 := Xk4.out.cell (j := 1) rfl
  have yk0_5 := Xk4.out.thaw 0
  have yk1_5 := Xk4.out.thaw 1
  have zr0_5 := Xr4.out.cell (j := 0) rfl
  have zr1_5 := Xr4.out.cell (j := 1) rfl
  have zr2_5 := Xr4.out.cell (j := 2) rfl
  have zr3_5 := Xr4.out.cell (j := 3) rfl
  have zr4_5 := Xr4.out.cell (j := 4) rfl
  have zr5_5 := Xr4.out.cell (j := 5) rfl
  have yr0_5 := Xr4.out.thaw 0
  have yr1_5 := Xr4.out.thaw 1
  have yr2_5 := Xr4.out.thaw 2
  have yr3_5 := Xr4.out.thaw 3
  have yr4_5 := Xr4.out.thaw 4
  have yr5_5 := Xr4.out.thaw 5
  have hky := key_in hkm2
  have hop := op_in hop1
  clear hkm2 hop1
  have ba := below_more (Below.refl w2.heap.size w2) (.cells #[.int .i64 op1, .int .i64 0, .int .i64 0, .string key2, .string ⟨#[]⟩, .int .i64 0] 94)
  have Mx := hid G4.out.size
  have Nx := hid (Nat.lt_of_lt_of_le hCl G4.out.size)
  have hx : BlockIs (w2.alloc (.cells #[.int .i64 op1, .int .i64 0, .int .i64 0, .string key2, .string ⟨#[]⟩, .int .i64 0] 94)) w2.heap.size 94 [.int .i64 op1, .int .i64 0, .int .i64 0, .string key2, .string ⟨#[]⟩, .int .i64 0] := heap_alloc_new w2 _
  have Akx := hid Xk4.out.lt
  have Arx := hid Xr4.out.lt
  have K6 := hid (K4.out.below ba)
  have G6 := hid (grown_below G4.out ba)
  have Xk6 := hid (Xk4.out.on ba Xk4.out.lt)
  have Xr6 := hid (Xr4.out.on ba Xr4.out.lt)
  have Rk6 := hid (Rk4.out.on ba)
  have Xx6 := hid hx
  clear hx
  clear ba K4 G4 zk0_5 zk1_5 yk0_5 yk1_5 zr0_5 zr1_5 zr2_5 zr3_5 zr4_5 zr5_5 yr0_5 yr1_5 yr2_5 yr3_5 yr4_5 yr5_5 Xk4 Xr4 Rk4
  have zk0_7 := Xk6.out.cell (j := 0) rfl
  have zk1_7 := Xk6.out.cell (j := 1) rfl
  have yk0_7 := Xk6.out.thaw 0
  have yk1_7 := Xk6.out.thaw 1
  have zr0_7 := Xr6.out.cell (j := 0) rfl
  have zr1_7 := Xr6.out.cell (j := 1) rfl
  have zr2_7 := Xr6.out.cell (j := 2) rfl
  have zr3_7 := Xr6.out.cell (j := 3) rfl
  have zr4_7 := Xr6.out.cell (j := 4) rfl
  have zr5_7 := Xr6.out.cell (j := 5) rfl
  have yr0_7 := Xr6.out.thaw 0
  have yr1_7 := Xr6.out.thaw 1
  have yr2_7 := Xr6.out.thaw 2
  have yr3_7 := Xr6.out.thaw 3
  have yr4_7 := Xr6.out.thaw 4
  have yr5_7 := Xr6.out.thaw 5
  have zx0_7 := Xx6.out.cell (j := 0) rfl
  have zx1_7 := Xx6.out.cell (j := 1) rfl
  have zx2_7 := Xx6.out.cell (j := 2) rfl
  have zx3_7 := Xx6.out.cell (j := 3) rfl
  have zx4_7 := Xx6.out.cell (j := 4) rfl
  have zx5_7 := Xx6.out.cell (j := 5) rfl
  have yx0_7 := Xx6.out.thaw 0
  have yx1_7 := Xx6.out.thaw 1
  have yx2_7 := Xx6.out.thaw 2
  have yx3_7 := Xx6.out.thaw 3
  have yx4_7 := Xx6.out.thaw 4
  have yx5_7 := Xx6.out.thaw 5
  have CIO := hid (fun W hW => specItemOf_any va vb ls.length vc vd li key2 hl W hW)
  obtain ⟨it, hit⟩ : ∃ it, (itemOf li key2).1 = it := ⟨_, rfl⟩
  obtain ⟨ok3, hok⟩ : ∃ q, (itemOf li key2).2 = q := ⟨_, rfl⟩
  rw [hit, hok] at CIO
  have HVR : Hid (ok3 = true → 1 ≤ it.ver ∧ it.ver ≤ 1000000000) := (show _ → _ from fun q => by have h9 := item_bounds (hif _ (itemOf_true (hok.trans q)).1); rw [hit] at h9; omega)
  clear hit hok
  go_wp2_with fail
  refine Calls.mono (CIO.out _ (itemR_at Rk6.out.2)) ?_
  rintro e w3 ⟨rfl, b3⟩
  have K8 := hid (K6.out.below b3)
  have G8 := hid (grown_below G6.out b3)
  have Xk8 := hid (Xk6.out.on b3 Xk6.out.lt)
  have Xr8 := hid (Xr6.out.on b3 Xr6.out.lt)
  have Xx8 := hid (Xx6.out.on b3 Xx6.out.lt)
  have Rk8 := hid (Rk6.out.on b3)
  clear b3 K6 G6 zk0_7 zk1_7 yk0_7 yk1_7 zr0_7 zr1_7 zr2_7 zr3_7 zr4_7 zr5_7 yr0_7 yr1_7 yr2_7 yr3_7 yr4_7 yr5_7 zx0_7 zx1_7 zx2_7 zx3_7 zx4_7 zx5_7 yx0_7 yx1_7 yx2_7 yx3_7 yx4_7 yx5_7 Xk6 Xr6 Xx6 Rk6
  obtain ⟨a3, b3, x3⟩ := it
  dsimp only
  have ba := below_more (Below.refl w3.heap.size w3) (.cells #[.string a3, .string b3, .int .i64 x3] 89)
  have Mi := hid G8.out.size
  have Ni := hid (Nat.lt_of_lt_of_le hCl G8.out.size)
  have hx : BlockIs (w3.alloc (.cells #[.string a3, .string b3, .int .i64 x3] 89)) w3.heap.size 89 [.string a3, .string b3, .int .i64 x3] := heap_alloc_new w3 _
  have Aki := hid Xk8.out.lt
  have Ari := hid Xr8.out.lt
  have Axi := hid Xx8.out.lt
  have K9 := hid (K8.out.below ba)
  have G9 := hid (grown_below G8.out ba)
  have Xk9 := hid (Xk8.out.on ba Xk8.out.lt)
  have Xr9 := hid (Xr8.out.on ba Xr8.out.lt)
  have Xx9 := hid (Xx8.out.on ba Xx8.out.lt)
  have Rk9 := hid (Rk8.out.on ba)
  have Xi9 := hid hx
  clear hx
  clear ba K8 G8 Xk8 Xr8 Xx8 Rk8
  have zk0_10 := Xk9.out.cell (j := 0) rfl
  have zk1_10 := Xk9.out.cell (j := 1) rfl
  have yk0_10 := Xk9.out.thaw 0
  have yk1_10 := Xk9.out.thaw 1
  have zr0_10 := Xr9.out.cell (j := 0) rfl
  have zr1_10 := Xr9.out.cell (j := 1) rfl
  have zr2_10 := Xr9.out.cell (j := 2) rfl
  have zr3_10 := Xr9.out.cell (j := 3) rfl
  have zr4_10 := Xr9.out.cell (j := 4) rfl
  have zr5_10 := Xr9.out.cell (j := 5) rfl
  have yr0_10 := Xr9.out.thaw 0
  have yr1_10 := Xr9.out.thaw 1
  have yr2_10 := Xr9.out.thaw 2
  have yr3_10 := Xr9.out.thaw 3
  have yr4_10 := Xr9.out.thaw 4
  have yr5_10 := Xr9.out.thaw 5
  have zx0_10 := Xx9.out.cell (j := 0) rfl
  have zx1_10 := Xx9.out.cell (j := 1) rfl
  have zx2_10 := Xx9.out.cell (j := 2) rfl
  have zx3_10 := Xx9.out.cell (j := 3) rfl
  have zx4_10 := Xx9.out.cell (j := 4) rfl
  have zx5_10 := Xx9.out.cell (j := 5) rfl
  have yx0_10 := Xx9.out.thaw 0
  have yx1_10 := Xx9.out.thaw 1
  have yx2_10 := Xx9.out.thaw 2
  have yx3_10 := Xx9.out.thaw 3
  have yx4_10 := Xx9.out.thaw 4
  have yx5_10 := Xx9.out.thaw 5
  have zi0_10 := Xi9.out.cell (j := 0) rfl
  have zi1_10 := Xi9.out.cell (j := 1) rfl
  have zi2_10 := Xi9.out.cell (j := 2) rfl
  have yi0_10 := Xi9.out.thaw 0
  have yi1_10 := Xi9.out.thaw 1
  have yi2_10 := Xi9.out.thaw 2
  by_cases h2 : op1 = 2
  · subst h2
    go_wp2_with fail
    refine Calls.mono (pickM_any C [⟨#[]⟩, ⟨#[49]⟩, ⟨#[116, 119, 111]⟩, ⟨#[116, 104, 114, 101, 101]⟩] (by decide) (by decide) 9 _ _ (by simp [World.alloc, -World.alloc_eq]) K9.out) ?_
    rintro e w4 ⟨val4, rfl, hvm4, k4, q4⟩
    have K11 := hid (k4)
    have G11 := hid (G9.out.trans q4)
    have Xk11 := hid (Xk9.out.cur q4 Nk.out)
    have Xr11 := hid (Xr9.out.cur q4 Nr.out)
    have Xx11 := hid (Xx9.out.cur q4 Nx.out)
    have Xi11 := hid (Xi9.out.cur q4 Ni.out)
    have Rk11 := hid (Rk9.out.cur q4 HRC.out)
    clear k4 q4 K9 G9 zk0_10 zk1_10 yk0_10 yk1_10 zr0_10 zr1_10 zr2_10 zr3_10 zr4_10 zr5_10 yr0_10 yr1_10 yr2_10 yr3_10 yr4_10 yr5_10 zx0_10 zx1_10 zx2_10 zx3_10 zx4_10 zx5_10 yx0_10 yx1_10 yx2_10 yx3_10 yx4_10 yx5_10 zi0_10 zi1_10 zi2_10 yi0_10 yi1_10 yi2_10 Xk9 Xr9 Xx9 Xi9 Rk9
    have zk0_12 := Xk11.out.cell (j := 0) rfl
    have zk1_12 := Xk11.out.cell (j := 1) rfl
    have yk0_12 := Xk11.out.thaw 0
    have yk1_12 := Xk11.out.thaw 1
    have zr0_12 := Xr11.out.cell (j := 0) rfl
    have zr1_12 := Xr11.out.cell (j := 1) rfl
    have zr2_12 := Xr11.out.cell (j := 2) rfl
    have zr3_12 := Xr11.out.cell (j := 3) rfl
    have zr4_12 := Xr11.out.cell (j := 4) rfl
    have zr5_12 := Xr11.out.cell (j := 5) rfl
    have yr0_12 := Xr11.out.thaw 0
    have yr1_12 := Xr11.out.thaw 1
    have yr2_12 := Xr11.out.thaw 2
    have yr3_12 := Xr11.out.thaw 3
    have yr4_12 := Xr11.out.thaw 4
    have yr5_12 := Xr11.out.thaw 5
    have zx0_12 := Xx11.out.cell (j := 0) rfl
    have zx1_12 := Xx11.out.cell (j := 1) rfl
    have zx2_12 := Xx11.out.cell (j := 2) rfl
    have zx3_12 := Xx11.out.cell (j := 3) rfl
    have zx4_12 := Xx11.out.cell (j := 4) rfl
    have zx5_12 := Xx11.out.cell (j := 5) rfl
    have yx0_12 := Xx11.out.thaw 0
    have yx1_12 := Xx11.out.thaw 1
    have yx2_12 := Xx11.out.thaw 2
    have yx3_12 := Xx11.out.thaw 3
    have yx4_12 := Xx11.out.thaw 4
    have yx5_12 := Xx11.out.thaw 5
    have zi0_12 := Xi11.out.cell (j := 0) rfl
    have zi1_12 := Xi11.out.cell (j := 1) rfl
    have zi2_12 := Xi11.out.cell (j := 2) rfl
    have yi0_12 := Xi11.out.thaw 0
    have yi1_12 := Xi11.out.thaw 1
    have yi2_12 := Xi11.out.thaw 2
    have hvl := val_in hvm4
    clear hvm4
    have Rk13s := hid (Rk11.out.behind (b := w2.heap.size) (j := 4) HAH.out Mx.out (.string val4))
    have K13 := hid (K11.out.set (b := w2.heap.size) (j := 4) (v := (.string val4)) Nx.out)
    have G13 := hid (grown_far (b := w2.heap.size) (j := 4) (v := (.string val4)) G11.out Mx.out)
    have Xk13 := hid (Xk11.out.far (b := w2.heap.size) (j := 4) (by have := Akx.out; omega) (.string val4))
    have Xr13 := hid (Xr11.out.far (b := w2.heap.size) (j := 4) (by have := Arx.out; omega) (.string val4))
    have Xx13 : Hid (BlockIs (w4.setCell ⟨w2.heap.size, 4, none⟩ (.string val4)) (w2.heap.size) 94 [.int .i64 2, .int .i64 0, .int .i64 0, .string key2, .string val4, .int .i64 0]) := Xx11.out.set 4 (.string val4)
    have Xi13 := hid (Xi11.out.far (b := w2.heap.size) (j := 4) (by have := Axi.out; omega) (.string val4))
    clear K11 G11 Xk11 Xr11 Xx11 Xi11
    have zk0_14 := Xk13.out.cell (j := 0) rfl
    have zk1_14 := Xk13.out.cell (j := 1) rfl
    have yk0_14 := Xk13.out.thaw 0
    have yk1_14 := Xk13.out.thaw 1
    have zr0_14 := Xr13.out.cell (j := 0) rfl
    have zr1_14 := Xr13.out.cell (j := 1) rfl
    have zr2_14 := Xr13.out.cell (j := 2) rfl
    have zr3_14 := Xr13.out.cell (j := 3) rfl
    have zr4_14 := Xr13.out.cell (j := 4) rfl
    have zr5_14 := Xr13.out.cell (j := 5) rfl
    have yr0_14 := Xr13.out.thaw 0
    have yr1_14 := Xr13.out.thaw 1
    have yr2_14 := Xr13.out.thaw 2
    have yr3_14 := Xr13.out.thaw 3
    have yr4_14 := Xr13.out.thaw 4
    have yr5_14 := Xr13.out.thaw 5
    have zx0_14 := Xx13.out.cell (j := 0) rfl
    have zx1_14 := Xx13.out.cell (j := 1) rfl
    have zx2_14 := Xx13.out.cell (j := 2) rfl
    have zx3_14 := Xx13.out.cell (j := 3) rfl
    have zx4_14 := Xx13.out.cell (j := 4) rfl
    have zx5_14 := Xx13.out.cell (j := 5) rfl
    have yx0_14 := Xx13.out.thaw 0
    have yx1_14 := Xx13.out.thaw 1
    have yx2_14 := Xx13.out.thaw 2
    have yx3_14 := Xx13.out.thaw 3
    have yx4_14 := Xx13.out.thaw 4
    have yx5_14 := Xx13.out.thaw 5
    have zi0_14 := Xi13.out.cell (j := 0) rfl
    have zi1_14 := Xi13.out.cell (j := 1) rfl
    have zi2_14 := Xi13.out.cell (j := 2) rfl
    have yi0_14 := Xi13.out.thaw 0
    have yi1_14 := Xi13.out.thaw 1
    have yi2_14 := Xi13.out.thaw 2
    clear Rk11
    have KL := hid ((((((K13.out.set (b := w.heap.size + 1) (j := 0) (v := .int .i64 2) Nr.out).set (b := w.heap.size + 1) (j := 1) (v := .int .i64 0) Nr.out).set (b := w.heap.size + 1) (j := 2) (v := .int .i64 0) Nr.out).set (b := w.heap.size + 1) (j := 3) (v := .string key2) Nr.out).set (b := w.heap.size + 1) (j := 4) (v := .string val4) Nr.out).set (b := w.heap.size + 1) (j := 5) (v := .int .i64 0) Nr.out)
    have GL := hid (grown_far (b := w.heap.size + 1) (j := 5) (v := .int .i64 0) (grown_far (b := w.heap.size + 1) (j := 4) (v := .string val4) (grown_far (b := w.heap.size + 1) (j := 3) (v := .string key2) (grown_far (b := w.heap.size + 1) (j := 2) (v := .int .i64 0) (grown_far (b := w.heap.size + 1) (j := 1) (v := .int .i64 0) (grown_far (b := w.heap.size + 1) (j := 0) (v := .int .i64 2) G13.out Mr.out) Mr.out) Mr.out) Mr.out) Mr.out) Mr.out)
    go_wp2
    refine bodyPost_ret (v := .agg #[.int .i64 2, .int .i64 0, .int .i64 0, .string key2, .string val4, .int .i64 0]) (by simp [results, Tryz.results87, go_sem, zr0_14, zr1_14, zr2_14, zr3_14, zr4_14, zr5_14]) rfl ?_
    exact ⟨⟨2, 0, 0, key2, val4, 0⟩, rfl, cmd_ok (op := 2) (ver := 0) (key := key2) (val := val4) hky (Or.inl ⟨rfl, hvl, rfl⟩), KL.out, GL.out⟩
  by_cases h5 : op1 = 5
  · subst h5
    clear h2
    go_wp2_with fail
    refine Calls.mono (pickM_any C [⟨#[]⟩, ⟨#[49]⟩, ⟨#[116, 119, 111]⟩, ⟨#[116, 104, 114, 101, 101]⟩] (by decide) (by decide) 9 _ _ (by simp [World.alloc, -World.alloc_eq]) K9.out) ?_
    rintro e w4 ⟨val4, rfl, hvm4, k4, q4⟩
    have K11 := hid (k4)
    have G11 := hid (G9.out.trans q4)
    have Xk11 := hid (Xk9.out.cur q4 Nk.out)
    have Xr11 := hid (Xr9.out.cur q4 Nr.out)
    have Xx11 := hid (Xx9.out.cur q4 Nx.out)
    have Xi11 := hid (Xi9.out.cur q4 Ni.out)
    have Rk11 := hid (Rk9.out.cur q4 HRC.out)
    clear k4 q4 K9 G9 zk0_10 zk1_10 yk0_10 yk1_10 zr0_10 zr1_10 zr2_10 zr3_10 zr4_10 zr5_10 yr0_10 yr1_10 yr2_10 yr3_10 yr4_10 yr5_10 zx0_10 zx1_10 zx2_10 zx3_10 zx4_10 zx5_10 yx0_10 yx1_10 yx2_10 yx3_10 yx4_10 yx5_10 zi0_10 zi1_10 zi2_10 yi0_10 yi1_10 yi2_10 Xk9 Xr9 Xx9 Xi9 Rk9
    have zk0_12 := Xk11.out.cell (j := 0) rfl
    have zk1_12 := Xk11.out.cell (j := 1) rfl
    have yk0_12 := Xk11.out.thaw 0
    have yk1_12 := Xk11.out.thaw 1
    have zr0_12 := Xr11.out.cell (j := 0) rfl
    have zr1_12 := Xr11.out.cell (j := 1) rfl
    have zr2_12 := Xr11.out.cell (j := 2) rfl
    have zr3_12 := Xr11.out.cell (j := 3) rfl
    have zr4_12 := Xr11.out.cell (j := 4) rfl
    have zr5_12 := Xr11.out.cell (j := 5) rfl
    have yr0_12 := Xr11.out.thaw 0
    have yr1_12 := Xr11.out.thaw 1
    have yr2_12 := Xr11.out.thaw 2
    have yr3_12 := Xr11.out.thaw 3
    have yr4_12 := Xr11.out.thaw 4
    have yr5_12 := Xr11.out.thaw 5
    have zx0_12 := Xx11.out.cell (j := 0) rfl
    have zx1_12 := Xx11.out.cell (j := 1) rfl
    have zx2_12 := Xx11.out.cell (j := 2) rfl
    have zx3_12 := Xx11.out.cell (j := 3) rfl
    have zx4_12 := Xx11.out.cell (j := 4) rfl
    have zx5_12 := Xx11.out.cell (j := 5) rfl
    have yx0_12 := Xx11.out.thaw 0
    have yx1_12 := Xx11.out.thaw 1
    have yx2_12 := Xx11.out.thaw 2
    have yx3_12 := Xx11.out.thaw 3
    have yx4_12 := Xx11.out.thaw 4
    have yx5_12 := Xx11.out.thaw 5
    have zi0_12 := Xi11.out.cell (j := 0) rfl
    have zi1_12 := Xi11.out.cell (j := 1) rfl
    have zi2_12 := Xi11.out.cell (j := 2) rfl
    have yi0_12 := Xi11.out.thaw 0
    have yi1_12 := Xi11.out.thaw 1
    have yi2_12 := Xi11.out.thaw 2
    have hvl := val_in hvm4
    clear hvm4
    have Rk13s := hid (Rk11.out.behind (b := w2.heap.size) (j := 4) HAH.out Mx.out (.string val4))
    have K13 := hid (K11.out.set (b := w2.heap.size) (j := 4) (v := (.string val4)) Nx.out)
    have G13 := hid (grown_far (b := w2.heap.size) (j := 4) (v := (.string val4)) G11.out Mx.out)
    have Xk13 := hid (Xk11.out.far (b := w2.heap.size) (j := 4) (by have := Akx.out; omega) (.string val4))
    have Xr13 := hid (Xr11.out.far (b := w2.heap.size) (j := 4) (by have := Arx.out; omega) (.string val4))
    have Xx13 : Hid (BlockIs (w4.setCell ⟨w2.heap.size, 4, none⟩ (.string val4)) (w2.heap.size) 94 [.int .i64 5, .int .i64 0, .int .i64 0, .string key2, .string val4, .int .i64 0]) := Xx11.out.set 4 (.string val4)
    have Xi13 := hid (Xi11.out.far (b := w2.heap.size) (j := 4) (by have := Axi.out; omega) (.string val4))
    clear K11 G11 Xk11 Xr11 Xx11 Xi11
    have zk0_14 := Xk13.out.cell (j := 0) rfl
    have zk1_14 := Xk13.out.cell (j := 1) rfl
    have yk0_14 := Xk13.out.thaw 0
    have yk1_14 := Xk13.out.thaw 1
    have zr0_14 := Xr13.out.cell (j := 0) rfl
    have zr1_14 := Xr13.out.cell (j := 1) rfl
    have zr2_14 := Xr13.out.cell (j := 2) rfl
    have zr3_14 := Xr13.out.cell (j := 3) rfl
    have zr4_14 := Xr13.out.cell (j := 4) rfl
    have zr5_14 := Xr13.out.cell (j := 5) rfl
    have yr0_14 := Xr13.out.thaw 0
    have yr1_14 := Xr13.out.thaw 1
    have yr2_14 := Xr13.out.thaw 2
    have yr3_14 := Xr13.out.thaw 3
    have yr4_14 := Xr13.out.thaw 4
    have yr5_14 := Xr13.out.thaw 5
    have zx0_14 := Xx13.out.cell (j := 0) rfl
    have zx1_14 := Xx13.out.cell (j := 1) rfl
    have zx2_14 := Xx13.out.cell (j := 2) rfl
    have zx3_14 := Xx13.out.cell (j := 3) rfl
    have zx4_14 := Xx13.out.cell (j := 4) rfl
    have zx5_14 := Xx13.out.cell (j := 5) rfl
    have yx0_14 := Xx13.out.thaw 0
    have yx1_14 := Xx13.out.thaw 1
    have yx2_14 := Xx13.out.thaw 2
    have yx3_14 := Xx13.out.thaw 3
    have yx4_14 := Xx13.out.thaw 4
    have yx5_14 := Xx13.out.thaw 5
    have zi0_14 := Xi13.out.cell (j := 0) rfl
    have zi1_14 := Xi13.out.cell (j := 1) rfl
    have zi2_14 := Xi13.out.cell (j := 2) rfl
    have yi0_14 := Xi13.out.thaw 0
    have yi1_14 := Xi13.out.thaw 1
    have yi2_14 := Xi13.out.thaw 2
    clear Rk11
    go_wp2_with fail
    refine Calls.mono (l01Below_any C 20 (by omega) (by omega) _ K13.out) ?_
    rintro e w5 ⟨y5, rfl, hy5, hz5, k5, q5⟩
    have K15 := hid (k5)
    have G15 := hid (G13.out.trans q5)
    have Xk15 := hid (Xk13.out.cur q5 Nk.out)
    have Xr15 := hid (Xr13.out.cur q5 Nr.out)
    have Xx15 := hid (Xx13.out.cur q5 Nx.out)
    have Xi15 := hid (Xi13.out.cur q5 Ni.out)
    have Rk15 := hid (Rk13s.out.cur q5 HRC.out)
    clear k5 q5 K13 G13 zk0_14 zk1_14 yk0_14 yk1_14 zr0_14 zr1_14 zr2_14 zr3_14 zr4_14 zr5_14 yr0_14 yr1_14 yr2_14 yr3_14 yr4_14 yr5_14 zx0_14 zx1_14 zx2_14 zx3_14 zx4_14 zx5_14 yx0_14 yx1_14 yx2_14 yx3_14 yx4_14 yx5_14 zi0_14 zi1_14 zi2_14 yi0_14 yi1_14 yi2_14 zk0_12 zk1_12 yk0_12 yk1_12 zr0_12 zr1_12 zr2_12 zr3_12 zr4_12 zr5_12 yr0_12 yr1_12 yr2_12 yr3_12 yr4_12 yr5_12 zx0_12 zx1_12 zx2_12 zx3_12 zx4_12 zx5_12 yx0_12 yx1_12 yx2_12 yx3_12 yx4_12 yx5_12 zi0_12 zi1_12 zi2_12 yi0_12 yi1_12 yi2_12 Xk13 Xr13 Xx13 Xi13 Rk13s
    have zk0_16 := Xk15.out.cell (j := 0) rfl
    have zk1_16 := Xk15.out.cell (j := 1) rfl
    have yk0_16 := Xk15.out.thaw 0
    have yk1_16 := Xk15.out.thaw 1
    have zr0_16 := Xr15.out.cell (j := 0) rfl
    have zr1_16 := Xr15.out.cell (j := 1) rfl
    have zr2_16 := Xr15.out.cell (j := 2) rfl
    have zr3_16 := Xr15.out.cell (j := 3) rfl
    have zr4_16 := Xr15.out.cell (j := 4) rfl
    have zr5_16 := Xr15.out.cell (j := 5) rfl
    have yr0_16 := Xr15.out.thaw 0
    have yr1_16 := Xr15.out.thaw 1
    have yr2_16 := Xr15.out.thaw 2
    have yr3_16 := Xr15.out.thaw 3
    have yr4_16 := Xr15.out.thaw 4
    have yr5_16 := Xr15.out.thaw 5
    have zx0_16 := Xx15.out.cell (j := 0) rfl
    have zx1_16 := Xx15.out.cell (j := 1) rfl
    have zx2_16 := Xx15.out.cell (j := 2) rfl
    have zx3_16 := Xx15.out.cell (j := 3) rfl
    have zx4_16 := Xx15.out.cell (j := 4) rfl
    have zx5_16 := Xx15.out.cell (j := 5) rfl
    have yx0_16 := Xx15.out.thaw 0
    have yx1_16 := Xx15.out.thaw 1
    have yx2_16 := Xx15.out.thaw 2
    have yx3_16 := Xx15.out.thaw 3
    have yx4_16 := Xx15.out.thaw 4
    have yx5_16 := Xx15.out.thaw 5
    have zi0_16 := Xi15.out.cell (j := 0) rfl
    have zi1_16 := Xi15.out.cell (j := 1) rfl
    have zi2_16 := Xi15.out.cell (j := 2) rfl
    have yi0_16 := Xi15.out.thaw 0
    have yi1_16 := Xi15.out.thaw 1
    have yi2_16 := Xi15.out.thaw 2
    have Rk17s := hid (Rk15.out.behind (b := w2.heap.size) (j := 5) HAH.out Mx.out (.int .i64 (1 + y5)))
    have K17 := hid (K15.out.set (b := w2.heap.size) (j := 5) (v := (.int .i64 (1 + y5))) Nx.out)
    have G17 := hid (grown_far (b := w2.heap.size) (j := 5) (v := (.int .i64 (1 + y5))) G15.out Mx.out)
    have Xk17 := hid (Xk15.out.far (b := w2.heap.size) (j := 5) (by have := Akx.out; omega) (.int .i64 (1 + y5)))
    have Xr17 := hid (Xr15.out.far (b := w2.heap.size) (j := 5) (by have := Arx.out; omega) (.int .i64 (1 + y5)))
    have Xx17 : Hid (BlockIs (w5.setCell ⟨w2.heap.size, 5, none⟩ (.int .i64 (1 + y5))) (w2.heap.size) 94 [.int .i64 5, .int .i64 0, .int .i64 0, .string key2, .string val4, .int .i64 (1 + y5)]) := Xx15.out.set 5 (.int .i64 (1 + y5))
    have Xi17 := hid (Xi15.out.far (b := w2.heap.size) (j := 5) (by have := Axi.out; omega) (.int .i64 (1 + y5)))
    clear K15 G15 Xk15 Xr15 Xx15 Xi15
    have zk0_18 := Xk17.out.cell (j := 0) rfl
    have zk1_18 := Xk17.out.cell (j := 1) rfl
    have yk0_18 := Xk17.out.thaw 0
    have yk1_18 := Xk17.out.thaw 1
    have zr0_18 := Xr17.out.cell (j := 0) rfl
    have zr1_18 := Xr17.out.cell (j := 1) rfl
    have zr2_18 := Xr17.out.cell (j := 2) rfl
    have zr3_18 := Xr17.out.cell (j := 3) rfl
    have zr4_18 := Xr17.out.cell (j := 4) rfl
    have zr5_18 := Xr17.out.cell (j := 5) rfl
    have yr0_18 := Xr17.out.thaw 0
    have yr1_18 := Xr17.out.thaw 1
    have yr2_18 := Xr17.out.thaw 2
    have yr3_18 := Xr17.out.thaw 3
    have yr4_18 := Xr17.out.thaw 4
    have yr5_18 := Xr17.out.thaw 5
    have zx0_18 := Xx17.out.cell (j := 0) rfl
    have zx1_18 := Xx17.out.cell (j := 1) rfl
    have zx2_18 := Xx17.out.cell (j := 2) rfl
    have zx3_18 := Xx17.out.cell (j := 3) rfl
    have zx4_18 := Xx17.out.cell (j := 4) rfl
    have zx5_18 := Xx17.out.cell (j := 5) rfl
    have yx0_18 := Xx17.out.thaw 0
    have yx1_18 := Xx17.out.thaw 1
    have yx2_18 := Xx17.out.thaw 2
    have yx3_18 := Xx17.out.thaw 3
    have yx4_18 := Xx17.out.thaw 4
    have yx5_18 := Xx17.out.thaw 5
    have zi0_18 := Xi17.out.cell (j := 0) rfl
    have zi1_18 := Xi17.out.cell (j := 1) rfl
    have zi2_18 := Xi17.out.cell (j := 2) rfl
    have yi0_18 := Xi17.out.thaw 0
    have yi1_18 := Xi17.out.thaw 1
    have yi2_18 := Xi17.out.thaw 2
    clear Rk15
    cases ok3 with
    | false =>
      have KL := hid ((((((K17.out.set (b := w.heap.size + 1) (j := 0) (v := .int .i64 5) Nr.out).set (b := w.heap.size + 1) (j := 1) (v := .int .i64 0) Nr.out).set (b := w.heap.size + 1) (j := 2) (v := .int .i64 0) Nr.out).set (b := w.heap.size + 1) (j := 3) (v := .string key2) Nr.out).set (b := w.heap.size + 1) (j := 4) (v := .string val4) Nr.out).set (b := w.heap.size + 1) (j := 5) (v := .int .i64 (1 + y5)) Nr.out)
      have GL := hid (grown_far (b := w.heap.size + 1) (j := 5) (v := .int .i64 (1 + y5)) (grown_far (b := w.heap.size + 1) (j := 4) (v := .string val4) (grown_far (b := w.heap.size + 1) (j := 3) (v := .string key2) (grown_far (b := w.heap.size + 1) (j := 2) (v := .int .i64 0) (grown_far (b := w.heap.size + 1) (j := 1) (v := .int .i64 0) (grown_far (b := w.heap.size + 1) (j := 0) (v := .int .i64 5) G17.out Mr.out) Mr.out) Mr.out) Mr.out) Mr.out) Mr.out)
      go_wp2
      refine bodyPost_ret (v := .agg #[.int .i64 5, .int .i64 0, .int .i64 0, .string key2, .string val4, .int .i64 (1 + y5)]) (by simp [results, Tryz.results87, go_sem, zr0_18, zr1_18, zr2_18, zr3_18, zr4_18, zr5_18]) rfl ?_
      exact ⟨⟨5, 0, 0, key2, val4, (1 + y5)⟩, rfl, cmd_ok (op := 5) (ver := (1 + y5)) (key := key2) (val := val4) hky (Or.inr (Or.inr ⟨rfl, hvl, by omega, by omega⟩)), KL.out, GL.out⟩
    | true =>
      go_wp2_with fail
      refine Calls.mono (l01Once_any C 3 (by omega) (by omega) _ K17.out) ?_
      rintro e w6 ⟨o6, rfl, k6, q6⟩
      have K19 := hid (k6)
      have G19 := hid (G17.out.trans q6)
      have Xk19 := hid (Xk17.out.cur q6 Nk.out)
      have Xr19 := hid (Xr17.out.cur q6 Nr.out)
      have Xx19 := hid (Xx17.out.cur q6 Nx.out)
      have Xi19 := hid (Xi17.out.cur q6 Ni.out)
      have Rk19 := hid (Rk17s.out.cur q6 HRC.out)
      clear k6 q6 K17 G17 zk0_18 zk1_18 yk0_18 yk1_18 zr0_18 zr1_18 zr2_18 zr3_18 zr4_18 zr5_18 yr0_18 yr1_18 yr2_18 yr3_18 yr4_18 yr5_18 zx0_18 zx1_18 zx2_18 zx3_18 zx4_18 zx5_18 yx0_18 yx1_18 yx2_18 yx3_18 yx4_18 yx5_18 zi0_18 zi1_18 zi2_18 yi0_18 yi1_18 yi2_18 zk0_16 zk1_16 yk0_16 yk1_16 zr0_16 zr1_16 zr2_16 zr3_16 zr4_16 zr5_16 yr0_16 yr1_16 yr2_16 yr3_16 yr4_16 yr5_16 zx0_16 zx1_16 zx2_16 zx3_16 zx4_16 zx5_16 yx0_16 yx1_16 yx2_16 yx3_16 yx4_16 yx5_16 zi0_16 zi1_16 zi2_16 yi0_16 yi1_16 yi2_16 Xk17 Xr17 Xx17 Xi17 Rk17s
      have zk0_20 := Xk19.out.cell (j := 0) rfl
      have zk1_20 := Xk19.out.cell (j := 1) rfl
      have yk0_20 := Xk19.out.thaw 0
      have yk1_20 := Xk19.out.thaw 1
      have zr0_20 := Xr19.out.cell (j := 0) rfl
      have zr1_20 := Xr19.out.cell (j := 1) rfl
      have zr2_20 := Xr19.out.cell (j := 2) rfl
      have zr3_20 := Xr19.out.cell (j := 3) rfl
      have zr4_20 := Xr19.out.cell (j := 4) rfl
      have zr5_20 := Xr19.out.cell (j := 5) rfl
      have yr0_20 := Xr19.out.thaw 0
      have yr1_20 := Xr19.out.thaw 1
      have yr2_20 := Xr19.out.thaw 2
      have yr3_20 := Xr19.out.thaw 3
      have yr4_20 := Xr19.out.thaw 4
      have yr5_20 := Xr19.out.thaw 5
      have zx0_20 := Xx19.out.cell (j := 0) rfl
      have zx1_20 := Xx19.out.cell (j := 1) rfl
      have zx2_20 := Xx19.out.cell (j := 2) rfl
      have zx3_20 := Xx19.out.cell (j := 3) rfl
      have zx4_20 := Xx19.out.cell (j := 4) rfl
      have zx5_20 := Xx19.out.cell (j := 5) rfl
      have yx0_20 := Xx19.out.thaw 0
      have yx1_20 := Xx19.out.thaw 1
      have yx2_20 := Xx19.out.thaw 2
      have yx3_20 := Xx19.out.thaw 3
      have yx4_20 := Xx19.out.thaw 4
      have yx5_20 := Xx19.out.thaw 5
      have zi0_20 := Xi19.out.cell (j := 0) rfl
      have zi1_20 := Xi19.out.cell (j := 1) rfl
      have zi2_20 := Xi19.out.cell (j := 2) rfl
      have yi0_20 := Xi19.out.thaw 0
      have yi1_20 := Xi19.out.thaw 1
      have yi2_20 := Xi19.out.thaw 2
      cases o6 with
      | true =>
        have KL := hid ((((((K19.out.set (b := w.heap.size + 1) (j := 0) (v := .int .i64 5) Nr.out).set (b := w.heap.size + 1) (j := 1) (v := .int .i64 0) Nr.out).set (b := w.heap.size + 1) (j := 2) (v := .int .i64 0) Nr.out).set (b := w.heap.size + 1) (j := 3) (v := .string key2) Nr.out).set (b := w.heap.size + 1) (j := 4) (v := .string val4) Nr.out).set (b := w.heap.size + 1) (j := 5) (v := .int .i64 (1 + y5)) Nr.out)
        have GL := hid (grown_far (b := w.heap.size + 1) (j := 5) (v := .int .i64 (1 + y5)) (grown_far (b := w.heap.size + 1) (j := 4) (v := .string val4) (grown_far (b := w.heap.size + 1) (j := 3) (v := .string key2) (grown_far (b := w.heap.size + 1) (j := 2) (v := .int .i64 0) (grown_far (b := w.heap.size + 1) (j := 1) (v := .int .i64 0) (grown_far (b := w.heap.size + 1) (j := 0) (v := .int .i64 5) G19.out Mr.out) Mr.out) Mr.out) Mr.out) Mr.out) Mr.out)
        go_wp2
        refine bodyPost_ret (v := .agg #[.int .i64 5, .int .i64 0, .int .i64 0, .string key2, .string val4, .int .i64 (1 + y5)]) (by simp [results, Tryz.results87, go_sem, zr0_20, zr1_20, zr2_20, zr3_20, zr4_20, zr5_20]) rfl ?_
        exact ⟨⟨5, 0, 0, key2, val4, (1 + y5)⟩, rfl, cmd_ok (op := 5) (ver := (1 + y5)) (key := key2) (val := val4) hky (Or.inr (Or.inr ⟨rfl, hvl, by omega, by omega⟩)), KL.out, GL.out⟩
      | false =>
        have Rk21s := hid (Rk19.out.behind (b := w2.heap.size) (j := 5) HAH.out Mx.out (.int .i64 x3))
        have K21 := hid (K19.out.set (b := w2.heap.size) (j := 5) (v := (.int .i64 x3)) Nx.out)
        have G21 := hid (grown_far (b := w2.heap.size) (j := 5) (v := (.int .i64 x3)) G19.out Mx.out)
        have Xk21 := hid (Xk19.out.far (b := w2.heap.size) (j := 5) (by have := Akx.out; omega) (.int .i64 x3))
        have Xr21 := hid (Xr19.out.far (b := w2.heap.size) (j := 5) (by have := Arx.out; omega) (.int .i64 x3))
        have Xx21 : Hid (BlockIs (w6.setCell ⟨w2.heap.size, 5, none⟩ (.int .i64 x3)) (w2.heap.size) 94 [.int .i64 5, .int .i64 0, .int .i64 0, .string key2, .string val4, .int .i64 x3]) := Xx19.out.set 5 (.int .i64 x3)
        have Xi21 := hid (Xi19.out.far (b := w2.heap.size) (j := 5) (by have := Axi.out; omega) (.int .i64 x3))
        clear K19 G19 Xk19 Xr19 Xx19 Xi19
        have zk0_22 := Xk21.out.cell (j := 0) rfl
        have zk1_22 := Xk21.out.cell (j := 1) rfl
        have yk0_22 := Xk21.out.thaw 0
        have yk1_22 := Xk21.out.thaw 1
        have zr0_22 := Xr21.out.cell (j := 0) rfl
        have zr1_22 := Xr21.out.cell (j := 1) rfl
        have zr2_22 := Xr21.out.cell (j := 2) rfl
        have zr3_22 := Xr21.out.cell (j := 3) rfl
        have zr4_22 := Xr21.out.cell (j := 4) rfl
        have zr5_22 := Xr21.out.cell (j := 5) rfl
        have yr0_22 := Xr21.out.thaw 0
        have yr1_22 := Xr21.out.thaw 1
        have yr2_22 := Xr21.out.thaw 2
        have yr3_22 := Xr21.out.thaw 3
        have yr4_22 := Xr21.out.thaw 4
        have yr5_22 := Xr21.out.thaw 5
        have zx0_22 := Xx21.out.cell (j := 0) rfl
        have zx1_22 := Xx21.out.cell (j := 1) rfl
        have zx2_22 := Xx21.out.cell (j := 2) rfl
        have zx3_22 := Xx21.out.cell (j := 3) rfl
        have zx4_22 := Xx21.out.cell (j := 4) rfl
        have zx5_22 := Xx21.out.cell (j := 5) rfl
        have yx0_22 := Xx21.out.thaw 0
        have yx1_22 := Xx21.out.thaw 1
        have yx2_22 := Xx21.out.thaw 2
        have yx3_22 := Xx21.out.thaw 3
        have yx4_22 := Xx21.out.thaw 4
        have yx5_22 := Xx21.out.thaw 5
        have zi0_22 := Xi21.out.cell (j := 0) rfl
        have zi1_22 := Xi21.out.cell (j := 1) rfl
        have zi2_22 := Xi21.out.cell (j := 2) rfl
        have yi0_22 := Xi21.out.thaw 0
        have yi1_22 := Xi21.out.thaw 1
        have yi2_22 := Xi21.out.thaw 2
        clear Rk19
        have KL := hid ((((((K21.out.set (b := w.heap.size + 1) (j := 0) (v := .int .i64 5) Nr.out).set (b := w.heap.size + 1) (j := 1) (v := .int .i64 0) Nr.out).set (b := w.heap.size + 1) (j := 2) (v := .int .i64 0) Nr.out).set (b := w.heap.size + 1) (j := 3) (v := .string key2) Nr.out).set (b := w.heap.size + 1) (j := 4) (v := .string val4) Nr.out).set (b := w.heap.size + 1) (j := 5) (v := .int .i64 x3) Nr.out)
        have GL := hid (grown_far (b := w.heap.size + 1) (j := 5) (v := .int .i64 x3) (grown_far (b := w.heap.size + 1) (j := 4) (v := .string val4) (grown_far (b := w.heap.size + 1) (j := 3) (v := .string key2) (grown_far (b := w.heap.size + 1) (j := 2) (v := .int .i64 0) (grown_far (b := w.heap.size + 1) (j := 1) (v := .int .i64 0) (grown_far (b := w.heap.size + 1) (j := 0) (v := .int .i64 5) G21.out Mr.out) Mr.out) Mr.out) Mr.out) Mr.out) Mr.out)
        go_wp2
        refine bodyPost_ret (v := .agg #[.int .i64 5, .int .i64 0, .int .i64 0, .string key2, .string val4, .int .i64 x3]) (by simp [results, Tryz.results87, go_sem, zr0_22, zr1_22, zr2_22, zr3_22, zr4_22, zr5_22]) rfl ?_
        exact ⟨⟨5, 0, 0, key2, val4, x3⟩, rfl, cmd_ok (op := 5) (ver := x3) (key := key2) (val := val4) hky (Or.inr (Or.inr ⟨rfl, hvl, (by have h9 := HVR.out; first | exact h9 trivial | exact h9 rfl)⟩)), KL.out, GL.out⟩
  have h2' : (op1 == 2) = false := by simpa using h2
  have h5' : (op1 == 5) = false := by simpa using h5
  have KL := hid ((((((K9.out.set (b := w.heap.size + 1) (j := 0) (v := .int .i64 op1) Nr.out).set (b := w.heap.size + 1) (j := 1) (v := .int .i64 0) Nr.out).set (b := w.heap.size + 1) (j := 2) (v := .int .i64 0) Nr.out).set (b := w.heap.size + 1) (j := 3) (v := .string key2) Nr.out).set (b := w.heap.size + 1) (j := 4) (v := .string ⟨#[]⟩) Nr.out).set (b := w.heap.size + 1) (j := 5) (v := .int .i64 0) Nr.out)
  have GL := hid (grown_far (b := w.heap.size + 1) (j := 5) (v := .int .i64 0) (grown_far (b := w.heap.size + 1) (j := 4) (v := .string ⟨#[]⟩) (grown_far (b := w.heap.size + 1) (j := 3) (v := .string key2) (grown_far (b := w.heap.size + 1) (j := 2) (v := .int .i64 0) (grown_far (b := w.heap.size + 1) (j := 1) (v := .int .i64 0) (grown_far (b := w.heap.size + 1) (j := 0) (v := .int .i64 op1) G9.out Mr.out) Mr.out) Mr.out) Mr.out) Mr.out) Mr.out)
  go_wp2
  refine bodyPost_ret (v := .agg #[.int .i64 op1, .int .i64 0, .int .i64 0, .string key2, .string ⟨#[]⟩, .int .i64 0]) (by simp [results, Tryz.results87, go_sem, zr0_10, zr1_10, zr2_10, zr3_10, zr4_10, zr5_10]) rfl ?_
  exact ⟨⟨op1, 0, 0, key2, ⟨#[]⟩, 0⟩, rfl, cmd_ok (op := op1) (ver := 0) (key := key2) (val := ⟨#[]⟩) hky (Or.inr (Or.inl ⟨by omega, rfl, rfl⟩)), KL.out, GL.out⟩
end Go.Proofs.YtoanhjjigbjecaaGreatDoor
