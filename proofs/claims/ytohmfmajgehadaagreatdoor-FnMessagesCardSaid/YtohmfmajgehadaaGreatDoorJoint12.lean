/-
  The walks of spec.KeepNew, spec.ItemOf: a new keep; an item of a keep that has one.
  The walk of spec.l15Of: some command.
-/
import Derived.Test.YtohmfmajgehadaaGreatDoorJoint5
import Derived.Deep.LoopGhost
import Derived.WalkSmall
import Derived.WalkKit
import Derived.Test.YtohmfmajgehadaaGreatDoorJoint9
namespace Go.Proofs.YtohmfmajgehadaaGreatDoor
open Go.RowKit

set_option maxRecDepth 1000000 in
set_option maxHeartbeats 1000000 in
theorem keepNew_any (w : World) :
    Calls Tryz.prog 55 #[] w fun e w' => ∃ g, e = .returned (.agg #[.slice none 0 0, .slice (some ⟨g, 0, none⟩) 1 1]) ∧ w.heap.size ≤ g ∧ BlockIs w' g 68 [.string ⟨#[114, 111, 111, 116]⟩, .string ⟨#[]⟩, .int .i64 1] ∧ Below w.heap.size w w' := by
  have hs : (w.alloc (.cells #[.slice none 0 0, .slice (some ⟨w.heap.size + 1, 0, none⟩) 1 1] 27)).heap.size = w.heap.size + 1 := by simp [World.alloc, -World.alloc_eq]
  have h2 := heap_alloc_new (w.alloc (.cells #[.slice none 0 0, .slice (some ⟨w.heap.size + 1, 0, none⟩) 1 1] 27)) (.cells #[.string ⟨#[114, 111, 111, 116]⟩, .string ⟨#[]⟩, .int .i64 1] 68)
  rw [hs] at h2
  have H := hid (And.intro (below_more (below_more (Below.refl _ w) (.cells #[.slice none 0 0, .slice (some ⟨w.heap.size + 1, 0, none⟩) 1 1] 27)) (.cells #[.string ⟨#[114, 111, 111, 116]⟩, .string ⟨#[]⟩, .int .i64 1] 68)) (show BlockIs _ (w.heap.size + 1) 68 [.string ⟨#[114, 111, 111, 116]⟩, .string ⟨#[]⟩, .int .i64 1] from h2))
  clear hs h2
  go_enter Tryz.func55, Tryz.ntmps55
  go_wp2
  refine bodyPost_ret (v := .agg #[.slice none 0 0, .slice (some ⟨w.heap.size + 1, 0, none⟩) 1 1]) (by simp [results, Tryz.results55, go_sem]) rfl ⟨_, rfl, Nat.le_succ _, H.out.2, H.out.1⟩

/-- an item, or none -/
def ItemDid (w : World) (n0 : Int) (e : Ending) (w' : World) : Prop := ∃ (a b : ByteArray) (x : Int) (ok : Bool), e = .returned (.tuple #[.agg #[.string a, .string b, .int .i64 x], .bool ok]) ∧ (x = n0 ∨ x = 0) ∧ Below w.heap.size w w'

set_option maxRecDepth 1000000 in
set_option maxHeartbeats 1000000 in
theorem itemOf_any (so : Option Addr) (sl sc g c : Nat) (k0 v0 key : ByteArray) (n0 : Int) (w : World) (hg : BlockIs w g 68 [.string k0, .string v0, .int .i64 n0]) :
    Calls Tryz.prog 104 #[.agg #[.slice so sl sc, .slice (some ⟨g, 0, none⟩) 1 c], .string key] w (ItemDid w n0) := by
  have hx0 : BlockIs (w.alloc (.cells #[.slice so sl sc, .slice (some ⟨g, 0, none⟩) 1 c] 27)) w.heap.size 27 [.slice so sl sc, .slice (some ⟨g, 0, none⟩) 1 c] := heap_alloc_new w _
  have hs : (w.alloc (.cells #[.slice so sl sc, .slice (some ⟨g, 0, none⟩) 1 c] 27)).heap.size = w.heap.size + 1 := by simp [World.alloc, -World.alloc_eq]
  obtain ⟨W1, hW1⟩ : ∃ W, (w.alloc (.cells #[.slice so sl sc, .slice (some ⟨g, 0, none⟩) 1 c] 27)).alloc (.cells #[.string ⟨#[]⟩, .string ⟨#[]⟩, .int .i64 0] 68) = W := ⟨_, rfl⟩
  have h1 : BlockIs W1 w.heap.size 27 [.slice so sl sc, .slice (some ⟨g, 0, none⟩) 1 c] := by rw [← hW1]; exact hx0.on (below_more (Below.refl _ _) _) hx0.lt
  have h2 : BlockIs W1 (w.heap.size + 1) 68 [.string ⟨#[]⟩, .string ⟨#[]⟩, .int .i64 0] := by
    rw [← hW1]
    have := heap_alloc_new (w.alloc (.cells #[.slice so sl sc, .slice (some ⟨g, 0, none⟩) 1 c] 27)) (.cells #[.string ⟨#[]⟩, .string ⟨#[]⟩, .int .i64 0] 68)
    rw [hs] at this
    exact this
  have hb : Below w.heap.size w W1 := by rw [← hW1]; exact below_more (below_more (Below.refl _ w) _) _
  have h3 := hg.on hb hg.lt
  have c1 := h1.cell (j := 1) rfl
  have d0 := h2.cell (j := 0) rfl
  have d1 := h2.cell (j := 1) rfl
  have d2 := h2.cell (j := 2) rfl
  have f0 := h2.thaw 0
  have f1 := h2.thaw 1
  have f2 := h2.thaw 2
  have e0 := h3.cell (j := 0) rfl
  have e1 := h3.cell (j := 1) rfl
  have e2 := h3.cell (j := 2) rfl
  have HB := hid hb
  clear hx0 hs h1 h2 hb h3 hg
  go_enter Tryz.func104, Tryz.ntmps104
  go_wp2
  go_loopg [6] 1 (fun q i wr => ∃ (k : Nat), k + q = 1 ∧ i = .int .i64 k ∧ wr = W1)
  case atStart => exact ⟨0, by omega, rfl, rfl⟩
  case round =>
    obtain ⟨k, hkq, rfl, rfl⟩ := hrel
    cases gk with
    | zero =>
      obtain rfl : k = 1 := by omega
      have BL := hid (((HB.out.setCell (p := ⟨w.heap.size + 1, 0, none⟩) (Nat.le_succ _) (.string ⟨#[]⟩)).setCell (p := ⟨w.heap.size + 1, 1, none⟩) (Nat.le_succ _) (.string ⟨#[]⟩)).setCell (p := ⟨w.heap.size + 1, 2, none⟩) (Nat.le_succ _) (.int .i64 0))
      go_wp2
      refine bodyPost_ret (v := .tuple #[.agg #[.string ⟨#[]⟩, .string ⟨#[]⟩, .int .i64 0], .bool false]) (by simp [results, Tryz.results104, go_sem, d0, d1, d2]) rfl ⟨_, _, _, _, rfl, Or.inr rfl, BL.out⟩
    | succ q =>
      obtain rfl : k = 0 := by omega
      cases hq : (k0.toList == key.toList) with
      | true =>
        have BL := hid (((HB.out.setCell (p := ⟨w.heap.size + 1, 0, none⟩) (Nat.le_succ _) (.string k0)).setCell (p := ⟨w.heap.size + 1, 1, none⟩) (Nat.le_succ _) (.string v0)).setCell (p := ⟨w.heap.size + 1, 2, none⟩) (Nat.le_succ _) (.int .i64 n0))
        go_wp2
        refine bodyPost_ret (v := .tuple #[.agg #[.string k0, .string v0, .int .i64 n0], .bool true]) (by simp [results, Tryz.results104, go_sem, d0, d1, d2]) rfl ⟨_, _, _, _, rfl, Or.inl rfl, BL.out⟩
      | false =>
        go_wp2
        go_roundg q
        case measure => omega
        case rel => exact ⟨1, by omega, by go_num, rfl⟩
end Go.Proofs.YtohmfmajgehadaaGreatDoor

namespace Go.Proofs.YtohmfmajgehadaaGreatDoor
open Go.RowKit

set_option maxRecDepth 1000000 in
set_option maxHeartbeats 1000000 in
theorem l15Of_any (C : Nat) (so : Option Addr) (sl sc g c : Nat) (k0 v0 : ByteArray) (n0 : Int) (w : World) (hc : CurAt w C) (hg : BlockIs w g 68 [.string k0, .string v0, .int .i64 n0]) (hCg : C < g) :
    Calls Tryz.prog 56 #[.pointer (some ⟨C, 0, none⟩), .agg #[.slice so sl sc, .slice (some ⟨g, 0, none⟩) 1 c]] w fun e w' => ∃ d : CmdD, e = .returned (.agg #[.int .i64 d.op, .int .i64 d.tok, .int .i64 d.seq, .string d.key, .string d.val, .int .i64 d.ver]) ∧ CurAt w' C ∧ w.grownBy w' (some C) := by
  have hCl := hc.lt
  have K0 := hid hc
  have G0 := hid (World.grownBy.refl w (some C))
  clear hc
  have HG := hid hg
  have hgC := hid hCg
  clear hg hCg
  have be := below_more (below_more (Below.refl w.heap.size w) (.cells #[.slice so sl sc, .slice (some ⟨g, 0, none⟩) 1 c] 27)) (.cells #[.int .i64 0, .int .i64 0, .int .i64 0, .string ⟨#[]⟩, .string ⟨#[]⟩, .int .i64 0] 53)
  have hx0 : BlockIs (w.alloc (.cells #[.slice so sl sc, .slice (some ⟨g, 0, none⟩) 1 c] 27)) w.heap.size 27 [.slice so sl sc, .slice (some ⟨g, 0, none⟩) 1 c] := heap_alloc_new w _
  have hx1 := hx0.on (below_more (Below.refl _ _) (.cells #[.int .i64 0, .int .i64 0, .int .i64 0, .string ⟨#[]⟩, .string ⟨#[]⟩, .int .i64 0] 53)) hx0.lt
  have hx2 : BlockIs ((w.alloc (.cells #[.slice so sl sc, .slice (some ⟨g, 0, none⟩) 1 c] 27)).alloc (.cells #[.int .i64 0, .int .i64 0, .int .i64 0, .string ⟨#[]⟩, .string ⟨#[]⟩, .int .i64 0] 53)) (w.heap.size + 1) 53 [.int .i64 0, .int .i64 0, .int .i64 0, .string ⟨#[]⟩, .string ⟨#[]⟩, .int .i64 0] := by
    have := heap_alloc_new (w.alloc (.cells #[.slice so sl sc, .slice (some ⟨g, 0, none⟩) 1 c] 27)) (.cells #[.int .i64 0, .int .i64 0, .int .i64 0, .string ⟨#[]⟩, .string ⟨#[]⟩, .int .i64 0] 53)
    rw [show (w.alloc (.cells #[.slice so sl sc, .slice (some ⟨g, 0, none⟩) 1 c] 27)).heap.size = w.heap.size + 1 by simp [World.alloc, -World.alloc_eq]] at this
    exact this
  have Lg := hid HG.out.lt
  have K1 := hid (K0.out.below be)
  have G1 := hid (grown_below G0.out be)
  have Xg1 := hid (HG.out.on be HG.out.lt)
  have Xk1 := hid hx1
  have Nk : Hid (C < w.heap.size) := (show _ < _ by omega)
  have Mk : Hid (w.heap.size ≤ w.heap.size) := (show _ ≤ _ by omega)
  have Agk : Hid (g < w.heap.size) := (show _ < _ by have := Lg.out; omega)
  have Xr1 := hid hx2
  have Nr : Hid (C < w.heap.size + 1) := (show _ < _ by omega)
  have Mr : Hid (w.heap.size ≤ w.heap.size + 1) := (show _ ≤ _ by omega)
  have Agr : Hid (g < w.heap.size + 1) := (show _ < _ by have := Lg.out; omega)
  have Akr : Hid (w.heap.size < w.heap.size + 1) := (show _ < _ by omega)
  clear be hx1 hx0 hx2 K0 G0 HG Lg
  obtain ⟨W0, hW0⟩ : ∃ W, (w.alloc (.cells #[.slice so sl sc, .slice (some ⟨g, 0, none⟩) 1 c] 27)).alloc (.cells #[.int .i64 0, .int .i64 0, .int .i64 0, .string ⟨#[]⟩, .string ⟨#[]⟩, .int .i64 0] 53) = W := ⟨_, rfl⟩
  rw [hW0] at K1 G1 Xg1 Xk1 Xr1
  have zg0_2 := Xg1.out.cell (j := 0) rfl
  have zg1_2 := Xg1.out.cell (j := 1) rfl
  have zg2_2 := Xg1.out.cell (j := 2) rfl
  have zk0_2 := Xk1.out.cell (j := 0) rfl
  have zk1_2 := Xk1.out.cell (j := 1) rfl
  have yk0_2 := Xk1.out.thaw 0
  have yk1_2 := Xk1.out.thaw 1
  have zr0_2 := Xr1.out.cell (j := 0) rfl
  have zr1_2 := Xr1.out.cell (j := 1) rfl
  have zr2_2 := Xr1.out.cell (j := 2) rfl
  have zr3_2 := Xr1.out.cell (j := 3) rfl
  have zr4_2 := Xr1.out.cell (j := 4) rfl
  have zr5_2 := Xr1.out.cell (j := 5) rfl
  have yr0_2 := Xr1.out.thaw 0
  have yr1_2 := Xr1.out.thaw 1
  have yr2_2 := Xr1.out.thaw 2
  have yr3_2 := Xr1.out.thaw 3
  have yr4_2 := Xr1.out.thaw 4
  have yr5_2 := Xr1.out.thaw 5
  go_enter Tryz.func56, Tryz.ntmps56
  go_wp2_with fail
  refine Calls.mono (pickI_any C [2, 2, 2, 3, 3, 4, 5, 5] (by decide) (by decide) 3 _ _ rfl K1.out) ?_
  rintro e w1 ⟨op1, rfl, _, k1, q1⟩
  have K3 := hid (k1)
  have G3 := hid (G1.out.trans q1)
  have Xg3 := hid (Xg1.out.cur q1 hgC.out)
  have Xk3 := hid (Xk1.out.cur q1 Nk.out)
  have Xr3 := hid (Xr1.out.cur q1 Nr.out)
  clear k1 q1 K1 G1 zg0_2 zg1_2 zg2_2 zk0_2 zk1_2 yk0_2 yk1_2 zr0_2 zr1_2 zr2_2 zr3_2 zr4_2 zr5_2 yr0_2 yr1_2 yr2_2 yr3_2 yr4_2 yr5_2 Xg1 Xk1 Xr1
  go_wp2_with fail
  refine Calls.mono (pickS_any C [⟨#[97]⟩, ⟨#[98]⟩, ⟨#[99]⟩, ⟨#[114, 111, 111, 116]⟩, ⟨#[120, 49]⟩] (by decide) (by decide) 4 (by decide) 9 _ _ rfl K3.out) ?_
  rintro e w2 ⟨key2, rfl, _, k2, q2⟩
  have K4 := hid (k2)
  have G4 := hid (G3.out.trans q2)
  have Xg4 := hid (Xg3.out.cur q2 hgC.out)
  have Xk4 := hid (Xk3.out.cur q2 Nk.out)
  have Xr4 := hid (Xr3.out.cur q2 Nr.out)
  clear k2 q2 K3 G3 Xg3 Xk3 Xr3
  have zg0_5 := Xg4.out.cell (j := 0) rfl
  have zg1_5 := Xg4.out.cell (j := 1) rfl
  have zg2_5 := Xg4.out.cell (j := 2) rfl
  have zk0_5 := Xk4.out.cell (j := 0) rfl
  have zk1_5 := Xk4.out.cell (j := 1) rfl
  have yk0_5 := Xk4.out.thaw 0
  have yk1_5 := Xk4.out.thaw 1
  have zr0_5 := Xr4.out.cell (j := 0) rfl
  have zr1_5 := Xr4.out.cell (j := 1) rfl
  have zr2_5 := Xr4.out.cell (j := 2) rfl
  have zr3_5 := Xr4.out.cell (j := 3) rfl
  have zr4_5 := Xr4.out.cell (j := 4) rfl
  have zr5_5 := Xr4.out.cell (j := 5) rfl
  have yr0_5 := Xr4.out.thaw 0
  have yr1_5 := Xr4.out.thaw 1
  have yr2_5 := Xr4.out.thaw 2
  have yr3_5 := Xr4.out.thaw 3
  have yr4_5 := Xr4.out.thaw 4
  have yr5_5 := Xr4.out.thaw 5
  have ba := below_more (Below.refl w2.heap.size w2) (.cells #[.int .i64 op1, .int .i64 0, .int .i64 0, .string key2, .string ⟨#[]⟩, .int .i64 0] 53)
  have Mx := hid G4.out.size
  have Nx := hid (Nat.lt_of_lt_of_le hCl G4.out.size)
  have hx : BlockIs (w2.alloc (.cells #[.int .i64 op1, .int .i64 0, .int .i64 0, .string key2, .string ⟨#[]⟩, .int .i64 0] 53)) w2.heap.size 53 [.int .i64 op1, .int .i64 0, .int .i64 0, .string key2, .string ⟨#[]⟩, .int .i64 0] := heap_alloc_new w2 _
  have Agx := hid Xg4.out.lt
  have Akx := hid Xk4.out.lt
  have Arx := hid Xr4.out.lt
  have K6 := hid (K4.out.below ba)
  have G6 := hid (grown_below G4.out ba)
  have Xg6 := hid (Xg4.out.on ba Xg4.out.lt)
  have Xk6 := hid (Xk4.out.on ba Xk4.out.lt)
  have Xr6 := hid (Xr4.out.on ba Xr4.out.lt)
  have Xx6 := hid hx
  clear hx
  clear ba K4 G4 zg0_5 zg1_5 zg2_5 zk0_5 zk1_5 yk0_5 yk1_5 zr0_5 zr1_5 zr2_5 zr3_5 zr4_5 zr5_5 yr0_5 yr1_5 yr2_5 yr3_5 yr4_5 yr5_5 Xg4 Xk4 Xr4
  have zg0_7 := Xg6.out.cell (j := 0) rfl
  have zg1_7 := Xg6.out.cell (j := 1) rfl
  have zg2_7 := Xg6.out.cell (j := 2) rfl
  have zk0_7 := Xk6.out.cell (j := 0) rfl
  have zk1_7 := Xk6.out.cell (j := 1) rfl
  have yk0_7 := Xk6.out.thaw 0
  have yk1_7 := Xk6.out.thaw 1
  have zr0_7 := Xr6.out.cell (j := 0) rfl
  have zr1_7 := Xr6.out.cell (j := 1) rfl
  have zr2_7 := Xr6.out.cell (j := 2) rfl
  have zr3_7 := Xr6.out.cell (j := 3) rfl
  have zr4_7 := Xr6.out.cell (j := 4) rfl
  have zr5_7 := Xr6.out.cell (j := 5) rfl
  have yr0_7 := Xr6.out.thaw 0
  have yr1_7 := Xr6.out.thaw 1
  have yr2_7 := Xr6.out.thaw 2
  have yr3_7 := Xr6.out.thaw 3
  have yr4_7 := Xr6.out.thaw 4
  have yr5_7 := Xr6.out.thaw 5
  have zx0_7 := Xx6.out.cell (j := 0) rfl
  have zx1_7 := Xx6.out.cell (j := 1) rfl
  have zx2_7 := Xx6.out.cell (j := 2) rfl
  have zx3_7 := Xx6.out.cell (j := 3) rfl
  have zx4_7 := Xx6.out.cell (j := 4) rfl
  have zx5_7 := Xx6.out.cell (j := 5) rfl
  have yx0_7 := Xx6.out.thaw 0
  have yx1_7 := Xx6.out.thaw 1
  have yx2_7 := Xx6.out.thaw 2
  have yx3_7 := Xx6.out.thaw 3
  have yx4_7 := Xx6.out.thaw 4
  have yx5_7 := Xx6.out.thaw 5
  go_wp2_with fail
  refine Calls.mono (itemOf_any so sl sc g c k0 v0 key2 n0 _ Xg6.out) ?_
  rintro e w3 ⟨a3, b3, x3, ok3, rfl, _, b3⟩
  have K8 := hid (K6.out.below b3)
  have G8 := hid (grown_below G6.out b3)
  have Xg8 := hid (Xg6.out.on b3 Xg6.out.lt)
  have Xk8 := hid (Xk6.out.on b3 Xk6.out.lt)
  have Xr8 := hid (Xr6.out.on b3 Xr6.out.lt)
  have Xx8 := hid (Xx6.out.on b3 Xx6.out.lt)
  clear b3 K6 G6 zg0_7 zg1_7 zg2_7 zk0_7 zk1_7 yk0_7 yk1_7 zr0_7 zr1_7 zr2_7 zr3_7 zr4_7 zr5_7 yr0_7 yr1_7 yr2_7 yr3_7 yr4_7 yr5_7 zx0_7 zx1_7 zx2_7 zx3_7 zx4_7 zx5_7 yx0_7 yx1_7 yx2_7 yx3_7 yx4_7 yx5_7 Xg6 Xk6 Xr6 Xx6
  have ba := below_more (Below.refl w3.heap.size w3) (.cells #[.string a3, .string b3, .int .i64 x3] 68)
  have Mi := hid G8.out.size
  have Ni := hid (Nat.lt_of_lt_of_le hCl G8.out.size)
  have hx : BlockIs (w3.alloc (.cells #[.string a3, .string b3, .int .i64 x3] 68)) w3.heap.size 68 [.string a3, .string b3, .int .i64 x3] := heap_alloc_new w3 _
  have Agi := hid Xg8.out.lt
  have Aki := hid Xk8.out.lt
  have Ari := hid Xr8.out.lt
  have Axi := hid Xx8.out.lt
  have K9 := hid (K8.out.below ba)
  have G9 := hid (grown_below G8.out ba)
  have Xg9 := hid (Xg8.out.on ba Xg8.out.lt)
  have Xk9 := hid (Xk8.out.on ba Xk8.out.lt)
  have Xr9 := hid (Xr8.out.on ba Xr8.out.lt)
  have Xx9 := hid (Xx8.out.on ba Xx8.out.lt)
  have Xi9 := hid hx
  clear hx
  clear ba K8 G8 Xg8 Xk8 Xr8 Xx8
  have zg0_10 := Xg9.out.cell (j := 0) rfl
  have zg1_10 := Xg9.out.cell (j := 1) rfl
  have zg2_10 := Xg9.out.cell (j := 2) rfl
  have zk0_10 := Xk9.out.cell (j := 0) rfl
  have zk1_10 := Xk9.out.cell (j := 1) rfl
  have yk0_10 := Xk9.out.thaw 0
  have yk1_10 := Xk9.out.thaw 1
  have zr0_10 := Xr9.out.cell (j := 0) rfl
  have zr1_10 := Xr9.out.cell (j := 1) rfl
  have zr2_10 := Xr9.out.cell (j := 2) rfl
  have zr3_10 := Xr9.out.cell (j := 3) rfl
  have zr4_10 := Xr9.out.cell (j := 4) rfl
  have zr5_10 := Xr9.out.cell (j := 5) rfl
  have yr0_10 := Xr9.out.thaw 0
  have yr1_10 := Xr9.out.thaw 1
  have yr2_10 := Xr9.out.thaw 2
  have yr3_10 := Xr9.out.thaw 3
  have yr4_10 := Xr9.out.thaw 4
  have yr5_10 := Xr9.out.thaw 5
  have zx0_10 := Xx9.out.cell (j := 0) rfl
  have zx1_10 := Xx9.out.cell (j := 1) rfl
  have zx2_10 := Xx9.out.cell (j := 2) rfl
  have zx3_10 := Xx9.out.cell (j := 3) rfl
  have zx4_10 := Xx9.out.cell (j := 4) rfl
  have zx5_10 := Xx9.out.cell (j := 5) rfl
  have yx0_10 := Xx9.out.thaw 0
  have yx1_10 := Xx9.out.thaw 1
  have yx2_10 := Xx9.out.thaw 2
  have yx3_10 := Xx9.out.thaw 3
  have yx4_10 := Xx9.out.thaw 4
  have yx5_10 := Xx9.out.thaw 5
  have zi0_10 := Xi9.out.cell (j := 0) rfl
  have zi1_10 := Xi9.out.cell (j := 1) rfl
  have zi2_10 := Xi9.out.cell (j := 2) rfl
  have yi0_10 := Xi9.out.thaw 0
  have yi1_10 := Xi9.out.thaw 1
  have yi2_10 := Xi9.out.thaw 2
  by_cases h2 : op1 = 2
  · subst h2
    go_wp2_with fail
    refine Calls.mono (pickS_any C [⟨#[]⟩, ⟨#[49]⟩, ⟨#[116, 119, 111]⟩, ⟨#[116, 104, 114, 101, 101]⟩] (by decide) (by decide) 5 (by decide) 9 _ _ (by simp [World.alloc, -World.alloc_eq]) K9.out) ?_
    rintro e w4 ⟨val4, rfl, _, k4, q4⟩
    have K11 := hid (k4)
    have G11 := hid (G9.out.trans q4)
    have Xg11 := hid (Xg9.out.cur q4 hgC.out)
    have Xk11 := hid (Xk9.out.cur q4 Nk.out)
    have Xr11 := hid (Xr9.out.cur q4 Nr.out)
    have Xx11 := hid (Xx9.out.cur q4 Nx.out)
    have Xi11 := hid (Xi9.out.cur q4 Ni.out)
    clear k4 q4 K9 G9 zg0_10 zg1_10 zg2_10 zk0_10 zk1_10 yk0_10 yk1_10 zr0_10 zr1_10 zr2_10 zr3_10 zr4_10 zr5_10 yr0_10 yr1_10 yr2_10 yr3_10 yr4_10 yr5_10 zx0_10 zx1_10 zx2_10 zx3_10 zx4_10 zx5_10 yx0_10 yx1_10 yx2_10 yx3_10 yx4_10 yx5_10 zi0_10 zi1_10 zi2_10 yi0_10 yi1_10 yi2_10 Xg9 Xk9 Xr9 Xx9 Xi9
    have zg0_12 := Xg11.out.cell (j := 0) rfl
    have zg1_12 := Xg11.out.cell (j := 1) rfl
    have zg2_12 := Xg11.out.cell (j := 2) rfl
    have zk0_12 := Xk11.out.cell (j := 0) rfl
    have zk1_12 := Xk11.out.cell (j := 1) rfl
    have yk0_12 := Xk11.out.thaw 0
    have yk1_12 := Xk11.out.thaw 1
    have zr0_12 := Xr11.out.cell (j := 0) rfl
    have zr1_12 := Xr11.out.cell (j := 1) rfl
    have zr2_12 := Xr11.out.cell (j := 2) rfl
    have zr3_12 := Xr11.out.cell (j := 3) rfl
    have zr4_12 := Xr11.out.cell (j := 4) rfl
    have zr5_12 := Xr11.out.cell (j := 5) rfl
    have yr0_12 := Xr11.out.thaw 0
    have yr1_12 := Xr11.out.thaw 1
    have yr2_12 := Xr11.out.thaw 2
    have yr3_12 := Xr11.out.thaw 3
    have yr4_12 := Xr11.out.thaw 4
    have yr5_12 := Xr11.out.thaw 5
    have zx0_12 := Xx11.out.cell (j := 0) rfl
    have zx1_12 := Xx11.out.cell (j := 1) rfl
    have zx2_12 := Xx11.out.cell (j := 2) rfl
    have zx3_12 := Xx11.out.cell (j := 3) rfl
    have zx4_12 := Xx11.out.cell (j := 4) rfl
    have zx5_12 := Xx11.out.cell (j := 5) rfl
    have yx0_12 := Xx11.out.thaw 0
    have yx1_12 := Xx11.out.thaw 1
    have yx2_12 := Xx11.out.thaw 2
    have yx3_12 := Xx11.out.thaw 3
    have yx4_12 := Xx11.out.thaw 4
    have yx5_12 := Xx11.out.thaw 5
    have zi0_12 := Xi11.out.cell (j := 0) rfl
    have zi1_12 := Xi11.out.cell (j := 1) rfl
    have zi2_12 := Xi11.out.cell (j := 2) rfl
    have yi0_12 := Xi11.out.thaw 0
    have yi1_12 := Xi11.out.thaw 1
    have yi2_12 := Xi11.out.thaw 2
    have K13 := hid (K11.out.set (b := w2.heap.size) (j := 4) (v := (.string val4)) Nx.out)
    have G13 := hid (grown_far (b := w2.heap.size) (j := 4) (v := (.string val4)) G11.out Mx.out)
    have Xg13 := hid (Xg11.out.far (b := w2.heap.size) (j := 4) (by have := Agx.out; omega) (.string val4))
    have Xk13 := hid (Xk11.out.far (b := w2.heap.size) (j := 4) (by have := Akx.out; omega) (.string val4))
    have Xr13 := hid (Xr11.out.far (b := w2.heap.size) (j := 4) (by have := Arx.out; omega) (.string val4))
    have Xx13 : Hid (BlockIs (w4.setCell ⟨w2.heap.size, 4, none⟩ (.string val4)) (w2.heap.size) 53 [.int .i64 2, .int .i64 0, .int .i64 0, .string key2, .string val4, .int .i64 0]) := Xx11.out.set 4 (.string val4)
    have Xi13 := hid (Xi11.out.far (b := w2.heap.size) (j := 4) (by have := Axi.out; omega) (.string val4))
    clear K11 G11 Xg11 Xk11 Xr11 Xx11 Xi11
    have zg0_14 := Xg13.out.cell (j := 0) rfl
    have zg1_14 := Xg13.out.cell (j := 1) rfl
    have zg2_14 := Xg13.out.cell (j := 2) rfl
    have zk0_14 := Xk13.out.cell (j := 0) rfl
    have zk1_14 := Xk13.out.cell (j := 1) rfl
    have yk0_14 := Xk13.out.thaw 0
    have yk1_14 := Xk13.out.thaw 1
    have zr0_14 := Xr13.out.cell (j := 0) rfl
    have zr1_14 := Xr13.out.cell (j := 1) rfl
    have zr2_14 := Xr13.out.cell (j := 2) rfl
    have zr3_14 := Xr13.out.cell (j := 3) rfl
    have zr4_14 := Xr13.out.cell (j := 4) rfl
    have zr5_14 := Xr13.out.cell (j := 5) rfl
    have yr0_14 := Xr13.out.thaw 0
    have yr1_14 := Xr13.out.thaw 1
    have yr2_14 := Xr13.out.thaw 2
    have yr3_14 := Xr13.out.thaw 3
    have yr4_14 := Xr13.out.thaw 4
    have yr5_14 := Xr13.out.thaw 5
    have zx0_14 := Xx13.out.cell (j := 0) rfl
    have zx1_14 := Xx13.out.cell (j := 1) rfl
    have zx2_14 := Xx13.out.cell (j := 2) rfl
    have zx3_14 := Xx13.out.cell (j := 3) rfl
    have zx4_14 := Xx13.out.cell (j := 4) rfl
    have zx5_14 := Xx13.out.cell (j := 5) rfl
    have yx0_14 := Xx13.out.thaw 0
    have yx1_14 := Xx13.out.thaw 1
    have yx2_14 := Xx13.out.thaw 2
    have yx3_14 := Xx13.out.thaw 3
    have yx4_14 := Xx13.out.thaw 4
    have yx5_14 := Xx13.out.thaw 5
    have zi0_14 := Xi13.out.cell (j := 0) rfl
    have zi1_14 := Xi13.out.cell (j := 1) rfl
    have zi2_14 := Xi13.out.cell (j := 2) rfl
    have yi0_14 := Xi13.out.thaw 0
    have yi1_14 := Xi13.out.thaw 1
    have yi2_14 := Xi13.out.thaw 2
    have KL := hid ((((((K13.out.set (b := w.heap.size + 1) (j := 0) (v := .int .i64 2) Nr.out).set (b := w.heap.size + 1) (j := 1) (v := .int .i64 0) Nr.out).set (b := w.heap.size + 1) (j := 2) (v := .int .i64 0) Nr.out).set (b := w.heap.size + 1) (j := 3) (v := .string key2) Nr.out).set (b := w.heap.size + 1) (j := 4) (v := .string val4) Nr.out).set (b := w.heap.size + 1) (j := 5) (v := .int .i64 0) Nr.out)
    have GL := hid (grown_far (b := w.heap.size + 1) (j := 5) (v := .int .i64 0) (grown_far (b := w.heap.size + 1) (j := 4) (v := .string val4) (grown_far (b := w.heap.size + 1) (j := 3) (v := .string key2) (grown_far (b := w.heap.size + 1) (j := 2) (v := .int .i64 0) (grown_far (b := w.heap.size + 1) (j := 1) (v := .int .i64 0) (grown_far (b := w.heap.size + 1) (j := 0) (v := .int .i64 2) G13.out Mr.out) Mr.out) Mr.out) Mr.out) Mr.out) Mr.out)
    go_wp2
    refine bodyPost_ret (v := .agg #[.int .i64 2, .int .i64 0, .int .i64 0, .string key2, .string val4, .int .i64 0]) (by simp [results, Tryz.results56, go_sem, zr0_14, zr1_14, zr2_14, zr3_14, zr4_14, zr5_14]) rfl ?_
    exact ⟨⟨2, 0, 0, key2, val4, 0⟩, rfl, KL.out, GL.out⟩
  by_cases h5 : op1 = 5
  · subst h5
    clear h2
    go_wp2_with fail
    refine Calls.mono (pickS_any C [⟨#[]⟩, ⟨#[49]⟩, ⟨#[116, 119, 111]⟩, ⟨#[116, 104, 114, 101, 101]⟩] (by decide) (by decide) 5 (by decide) 9 _ _ (by simp [World.alloc, -World.alloc_eq]) K9.out) ?_
    rintro e w4 ⟨val4, rfl, _, k4, q4⟩
    have K11 := hid (k4)
    have G11 := hid (G9.out.trans q4)
    have Xg11 := hid (Xg9.out.cur q4 hgC.out)
    have Xk11 := hid (Xk9.out.cur q4 Nk.out)
    have Xr11 := hid (Xr9.out.cur q4 Nr.out)
    have Xx11 := hid (Xx9.out.cur q4 Nx.out)
    have Xi11 := hid (Xi9.out.cur q4 Ni.out)
    clear k4 q4 K9 G9 zg0_10 zg1_10 zg2_10 zk0_10 zk1_10 yk0_10 yk1_10 zr0_10 zr1_10 zr2_10 zr3_10 zr4_10 zr5_10 yr0_10 yr1_10 yr2_10 yr3_10 yr4_10 yr5_10 zx0_10 zx1_10 zx2_10 zx3_10 zx4_10 zx5_10 yx0_10 yx1_10 yx2_10 yx3_10 yx4_10 yx5_10 zi0_10 zi1_10 zi2_10 yi0_10 yi1_10 yi2_10 Xg9 Xk9 Xr9 Xx9 Xi9
    have zg0_12 := Xg11.out.cell (j := 0) rfl
    have zg1_12 := Xg11.out.cell (j := 1) rfl
    have zg2_12 := Xg11.out.cell (j := 2) rfl
    have zk0_12 := Xk11.out.cell (j := 0) rfl
    have zk1_12 := Xk11.out.cell (j := 1) rfl
    have yk0_12 := Xk11.out.thaw 0
    have yk1_12 := Xk11.out.thaw 1
    have zr0_12 := Xr11.out.cell (j := 0) rfl
    have zr1_12 := Xr11.out.cell (j := 1) rfl
    have zr2_12 := Xr11.out.cell (j := 2) rfl
    have zr3_12 := Xr11.out.cell (j := 3) rfl
    have zr4_12 := Xr11.out.cell (j := 4) rfl
    have zr5_12 := Xr11.out.cell (j := 5) rfl
    have yr0_12 := Xr11.out.thaw 0
    have yr1_12 := Xr11.out.thaw 1
    have yr2_12 := Xr11.out.thaw 2
    have yr3_12 := Xr11.out.thaw 3
    have yr4_12 := Xr11.out.thaw 4
    have yr5_12 := Xr11.out.thaw 5
    have zx0_12 := Xx11.out.cell (j := 0) rfl
    have zx1_12 := Xx11.out.cell (j := 1) rfl
    have zx2_12 := Xx11.out.cell (j := 2) rfl
    have zx3_12 := Xx11.out.cell (j := 3) rfl
    have zx4_12 := Xx11.out.cell (j := 4) rfl
    have zx5_12 := Xx11.out.cell (j := 5) rfl
    have yx0_12 := Xx11.out.thaw 0
    have yx1_12 := Xx11.out.thaw 1
    have yx2_12 := Xx11.out.thaw 2
    have yx3_12 := Xx11.out.thaw 3
    have yx4_12 := Xx11.out.thaw 4
    have yx5_12 := Xx11.out.thaw 5
    have zi0_12 := Xi11.out.cell (j := 0) rfl
    have zi1_12 := Xi11.out.cell (j := 1) rfl
    have zi2_12 := Xi11.out.cell (j := 2) rfl
    have yi0_12 := Xi11.out.thaw 0
    have yi1_12 := Xi11.out.thaw 1
    have yi2_12 := Xi11.out.thaw 2
    have K13 := hid (K11.out.set (b := w2.heap.size) (j := 4) (v := (.string val4)) Nx.out)
    have G13 := hid (grown_far (b := w2.heap.size) (j := 4) (v := (.string val4)) G11.out Mx.out)
    have Xg13 := hid (Xg11.out.far (b := w2.heap.size) (j := 4) (by have := Agx.out; omega) (.string val4))
    have Xk13 := hid (Xk11.out.far (b := w2.heap.size) (j := 4) (by have := Akx.out; omega) (.string val4))
    have Xr13 := hid (Xr11.out.far (b := w2.heap.size) (j := 4) (by have := Arx.out; omega) (.string val4))
    have Xx13 : Hid (BlockIs (w4.setCell ⟨w2.heap.size, 4, none⟩ (.string val4)) (w2.heap.size) 53 [.int .i64 5, .int .i64 0, .int .i64 0, .string key2, .string val4, .int .i64 0]) := Xx11.out.set 4 (.string val4)
    have Xi13 := hid (Xi11.out.far (b := w2.heap.size) (j := 4) (by have := Axi.out; omega) (.string val4))
    clear K11 G11 Xg11 Xk11 Xr11 Xx11 Xi11
    have zg0_14 := Xg13.out.cell (j := 0) rfl
    have zg1_14 := Xg13.out.cell (j := 1) rfl
    have zg2_14 := Xg13.out.cell (j := 2) rfl
    have zk0_14 := Xk13.out.cell (j := 0) rfl
    have zk1_14 := Xk13.out.cell (j := 1) rfl
    have yk0_14 := Xk13.out.thaw 0
    have yk1_14 := Xk13.out.thaw 1
    have zr0_14 := Xr13.out.cell (j := 0) rfl
    have zr1_14 := Xr13.out.cell (j := 1) rfl
    have zr2_14 := Xr13.out.cell (j := 2) rfl
    have zr3_14 := Xr13.out.cell (j := 3) rfl
    have zr4_14 := Xr13.out.cell (j := 4) rfl
    have zr5_14 := Xr13.out.cell (j := 5) rfl
    have yr0_14 := Xr13.out.thaw 0
    have yr1_14 := Xr13.out.thaw 1
    have yr2_14 := Xr13.out.thaw 2
    have yr3_14 := Xr13.out.thaw 3
    have yr4_14 := Xr13.out.thaw 4
    have yr5_14 := Xr13.out.thaw 5
    have zx0_14 := Xx13.out.cell (j := 0) rfl
    have zx1_14 := Xx13.out.cell (j := 1) rfl
    have zx2_14 := Xx13.out.cell (j := 2) rfl
    have zx3_14 := Xx13.out.cell (j := 3) rfl
    have zx4_14 := Xx13.out.cell (j := 4) rfl
    have zx5_14 := Xx13.out.cell (j := 5) rfl
    have yx0_14 := Xx13.out.thaw 0
    have yx1_14 := Xx13.out.thaw 1
    have yx2_14 := Xx13.out.thaw 2
    have yx3_14 := Xx13.out.thaw 3
    have yx4_14 := Xx13.out.thaw 4
    have yx5_14 := Xx13.out.thaw 5
    have zi0_14 := Xi13.out.cell (j := 0) rfl
    have zi1_14 := Xi13.out.cell (j := 1) rfl
    have zi2_14 := Xi13.out.cell (j := 2) rfl
    have yi0_14 := Xi13.out.thaw 0
    have yi1_14 := Xi13.out.thaw 1
    have yi2_14 := Xi13.out.thaw 2
    go_wp2_with fail
    refine Calls.mono (l01Below_any C 20 (by omega) (by omega) _ K13.out) ?_
    rintro e w5 ⟨y5, rfl, hy5, hz5, k5, q5⟩
    have K15 := hid (k5)
    have G15 := hid (G13.out.trans q5)
    have Xg15 := hid (Xg13.out.cur q5 hgC.out)
    have Xk15 := hid (Xk13.out.cur q5 Nk.out)
    have Xr15 := hid (Xr13.out.cur q5 Nr.out)
    have Xx15 := hid (Xx13.out.cur q5 Nx.out)
    have Xi15 := hid (Xi13.out.cur q5 Ni.out)
    clear k5 q5 K13 G13 zg0_14 zg1_14 zg2_14 zk0_14 zk1_14 yk0_14 yk1_14 zr0_14 zr1_14 zr2_14 zr3_14 zr4_14 zr5_14 yr0_14 yr1_14 yr2_14 yr3_14 yr4_14 yr5_14 zx0_14 zx1_14 zx2_14 zx3_14 zx4_14 zx5_14 yx0_14 yx1_14 yx2_14 yx3_14 yx4_14 yx5_14 zi0_14 zi1_14 zi2_14 yi0_14 yi1_14 yi2_14 zg0_12 zg1_12 zg2_12 zk0_12 zk1_12 yk0_12 yk1_12 zr0_12 zr1_12 zr2_12 zr3_12 zr4_12 zr5_12 yr0_12 yr1_12 yr2_12 yr3_12 yr4_12 yr5_12 zx0_12 zx1_12 zx2_12 zx3_12 zx4_12 zx5_12 yx0_12 yx1_12 yx2_12 yx3_12 yx4_12 yx5_12 zi0_12 zi1_12 zi2_12 yi0_12 yi1_12 yi2_12 Xg13 Xk13 Xr13 Xx13 Xi13
    have zg0_16 := Xg15.out.cell (j := 0) rfl
    have zg1_16 := Xg15.out.cell (j := 1) rfl
    have zg2_16 := Xg15.out.cell (j := 2) rfl
    have zk0_16 := Xk15.out.cell (j := 0) rfl
    have zk1_16 := Xk15.out.cell (j := 1) rfl
    have yk0_16 := Xk15.out.thaw 0
    have yk1_16 := Xk15.out.thaw 1
    have zr0_16 := Xr15.out.cell (j := 0) rfl
    have zr1_16 := Xr15.out.cell (j := 1) rfl
    have zr2_16 := Xr15.out.cell (j := 2) rfl
    have zr3_16 := Xr15.out.cell (j := 3) rfl
    have zr4_16 := Xr15.out.cell (j := 4) rfl
    have zr5_16 := Xr15.out.cell (j := 5) rfl
    have yr0_16 := Xr15.out.thaw 0
    have yr1_16 := Xr15.out.thaw 1
    have yr2_16 := Xr15.out.thaw 2
    have yr3_16 := Xr15.out.thaw 3
    have yr4_16 := Xr15.out.thaw 4
    have yr5_16 := Xr15.out.thaw 5
    have zx0_16 := Xx15.out.cell (j := 0) rfl
    have zx1_16 := Xx15.out.cell (j := 1) rfl
    have zx2_16 := Xx15.out.cell (j := 2) rfl
    have zx3_16 := Xx15.out.cell (j := 3) rfl
    have zx4_16 := Xx15.out.cell (j := 4) rfl
    have zx5_16 := Xx15.out.cell (j := 5) rfl
    have yx0_16 := Xx15.out.thaw 0
    have yx1_16 := Xx15.out.thaw 1
    have yx2_16 := Xx15.out.thaw 2
    have yx3_16 := Xx15.out.thaw 3
    have yx4_16 := Xx15.out.thaw 4
    have yx5_16 := Xx15.out.thaw 5
    have zi0_16 := Xi15.out.cell (j := 0) rfl
    have zi1_16 := Xi15.out.cell (j := 1) rfl
    have zi2_16 := Xi15.out.cell (j := 2) rfl
    have yi0_16 := Xi15.out.thaw 0
    have yi1_16 := Xi15.out.thaw 1
    have yi2_16 := Xi15.out.thaw 2
    have K17 := hid (K15.out.set (b := w2.heap.size) (j := 5) (v := (.int .i64 (1 + y5))) Nx.out)
    have G17 := hid (grown_far (b := w2.heap.size) (j := 5) (v := (.int .i64 (1 + y5))) G15.out Mx.out)
    have Xg17 := hid (Xg15.out.far (b := w2.heap.size) (j := 5) (by have := Agx.out; omega) (.int .i64 (1 + y5)))
    have Xk17 := hid (Xk15.out.far (b := w2.heap.size) (j := 5) (by have := Akx.out; omega) (.int .i64 (1 + y5)))
    have Xr17 := hid (Xr15.out.far (b := w2.heap.size) (j := 5) (by have := Arx.out; omega) (.int .i64 (1 + y5)))
    have Xx17 : Hid (BlockIs (w5.setCell ⟨w2.heap.size, 5, none⟩ (.int .i64 (1 + y5))) (w2.heap.size) 53 [.int .i64 5, .int .i64 0, .int .i64 0, .string key2, .string val4, .int .i64 (1 + y5)]) := Xx15.out.set 5 (.int .i64 (1 + y5))
    have Xi17 := hid (Xi15.out.far (b := w2.heap.size) (j := 5) (by have := Axi.out; omega) (.int .i64 (1 + y5)))
    clear K15 G15 Xg15 Xk15 Xr15 Xx15 Xi15
    have zg0_18 := Xg17.out.cell (j := 0) rfl
    have zg1_18 := Xg17.out.cell (j := 1) rfl
    have zg2_18 := Xg17.out.cell (j := 2) rfl
    have zk0_18 := Xk17.out.cell (j := 0) rfl
    have zk1_18 := Xk17.out.cell (j := 1) rfl
    have yk0_18 := Xk17.out.thaw 0
    have yk1_18 := Xk17.out.thaw 1
    have zr0_18 := Xr17.out.cell (j := 0) rfl
    have zr1_18 := Xr17.out.cell (j := 1) rfl
    have zr2_18 := Xr17.out.cell (j := 2) rfl
    have zr3_18 := Xr17.out.cell (j := 3) rfl
    have zr4_18 := Xr17.out.cell (j := 4) rfl
    have zr5_18 := Xr17.out.cell (j := 5) rfl
    have yr0_18 := Xr17.out.thaw 0
    have yr1_18 := Xr17.out.thaw 1
    have yr2_18 := Xr17.out.thaw 2
    have yr3_18 := Xr17.out.thaw 3
    have yr4_18 := Xr17.out.thaw 4
    have yr5_18 := Xr17.out.thaw 5
    have zx0_18 := Xx17.out.cell (j := 0) rfl
    have zx1_18 := Xx17.out.cell (j := 1) rfl
    have zx2_18 := Xx17.out.cell (j := 2) rfl
    have zx3_18 := Xx17.out.cell (j := 3) rfl
    have zx4_18 := Xx17.out.cell (j := 4) rfl
    have zx5_18 := Xx17.out.cell (j := 5) rfl
    have yx0_18 := Xx17.out.thaw 0
    have yx1_18 := Xx17.out.thaw 1
    have yx2_18 := Xx17.out.thaw 2
    have yx3_18 := Xx17.out.thaw 3
    have yx4_18 := Xx17.out.thaw 4
    have yx5_18 := Xx17.out.thaw 5
    have zi0_18 := Xi17.out.cell (j := 0) rfl
    have zi1_18 := Xi17.out.cell (j := 1) rfl
    have zi2_18 := Xi17.out.cell (j := 2) rfl
    have yi0_18 := Xi17.out.thaw 0
    have yi1_18 := Xi17.out.thaw 1
    have yi2_18 := Xi17.out.thaw 2
    cases ok3 with
    | false =>
      have KL := hid ((((((K17.out.set (b := w.heap.size + 1) (j := 0) (v := .int .i64 5) Nr.out).set (b := w.heap.size + 1) (j := 1) (v := .int .i64 0) Nr.out).set (b := w.heap.size + 1) (j := 2) (v := .int .i64 0) Nr.out).set (b := w.heap.size + 1) (j := 3) (v := .string key2) Nr.out).set (b := w.heap.size + 1) (j := 4) (v := .string val4) Nr.out).set (b := w.heap.size + 1) (j := 5) (v := .int .i64 (1 + y5)) Nr.out)
      have GL := hid (grown_far (b := w.heap.size + 1) (j := 5) (v := .int .i64 (1 + y5)) (grown_far (b := w.heap.size + 1) (j := 4) (v := .string val4) (grown_far (b := w.heap.size + 1) (j := 3) (v := .string key2) (grown_far (b := w.heap.size + 1) (j := 2) (v := .int .i64 0) (grown_far (b := w.heap.size + 1) (j := 1) (v := .int .i64 0) (grown_far (b := w.heap.size + 1) (j := 0) (v := .int .i64 5) G17.out Mr.out) Mr.out) Mr.out) Mr.out) Mr.out) Mr.out)
      go_wp2
      refine bodyPost_ret (v := .agg #[.int .i64 5, .int .i64 0, .int .i64 0, .string key2, .string val4, .int .i64 (1 + y5)]) (by simp [results, Tryz.results56, go_sem, zr0_18, zr1_18, zr2_18, zr3_18, zr4_18, zr5_18]) rfl ?_
      exact ⟨⟨5, 0, 0, key2, val4, (1 + y5)⟩, rfl, KL.out, GL.out⟩
    | true =>
      go_wp2_with fail
      refine Calls.mono (l01Once_any C 3 (by omega) (by omega) _ K17.out) ?_
      rintro e w6 ⟨o6, rfl, k6, q6⟩
      have K19 := hid (k6)
      have G19 := hid (G17.out.trans q6)
      have Xg19 := hid (Xg17.out.cur q6 hgC.out)
      have Xk19 := hid (Xk17.out.cur q6 Nk.out)
      have Xr19 := hid (Xr17.out.cur q6 Nr.out)
      have Xx19 := hid (Xx17.out.cur q6 Nx.out)
      have Xi19 := hid (Xi17.out.cur q6 Ni.out)
      clear k6 q6 K17 G17 zg0_18 zg1_18 zg2_18 zk0_18 zk1_18 yk0_18 yk1_18 zr0_18 zr1_18 zr2_18 zr3_18 zr4_18 zr5_18 yr0_18 yr1_18 yr2_18 yr3_18 yr4_18 yr5_18 zx0_18 zx1_18 zx2_18 zx3_18 zx4_18 zx5_18 yx0_18 yx1_18 yx2_18 yx3_18 yx4_18 yx5_18 zi0_18 zi1_18 zi2_18 yi0_18 yi1_18 yi2_18 zg0_16 zg1_16 zg2_16 zk0_16 zk1_16 yk0_16 yk1_16 zr0_16 zr1_16 zr2_16 zr3_16 zr4_16 zr5_16 yr0_16 yr1_16 yr2_16 yr3_16 yr4_16 yr5_16 zx0_16 zx1_16 zx2_16 zx3_16 zx4_16 zx5_16 yx0_16 yx1_16 yx2_16 yx3_16 yx4_16 yx5_16 zi0_16 zi1_16 zi2_16 yi0_16 yi1_16 yi2_16 Xg17 Xk17 Xr17 Xx17 Xi17
      have zg0_20 := Xg19.out.cell (j := 0) rfl
      have zg1_20 := Xg19.out.cell (j := 1) rfl
      have zg2_20 := Xg19.out.cell (j := 2) rfl
      have zk0_20 := Xk19.out.cell (j := 0) rfl
      have zk1_20 := Xk19.out.cell (j := 1) rfl
      have yk0_20 := Xk19.out.thaw 0
      have yk1_20 := Xk19.out.thaw 1
      have zr0_20 := Xr19.out.cell (j := 0) rfl
      have zr1_20 := Xr19.out.cell (j := 1) rfl
      have zr2_20 := Xr19.out.cell (j := 2) rfl
      have zr3_20 := Xr19.out.cell (j := 3) rfl
      have zr4_20 := Xr19.out.cell (j := 4) rfl
      have zr5_20 := Xr19.out.cell (j := 5) rfl
      have yr0_20 := Xr19.out.thaw 0
      have yr1_20 := Xr19.out.thaw 1
      have yr2_20 := Xr19.out.thaw 2
      have yr3_20 := Xr19.out.thaw 3
      have yr4_20 := Xr19.out.thaw 4
      have yr5_20 := Xr19.out.thaw 5
      have zx0_20 := Xx19.out.cell (j := 0) rfl
      have zx1_20 := Xx19.out.cell (j := 1) rfl
      have zx2_20 := Xx19.out.cell (j := 2) rfl
      have zx3_20 := Xx19.out.cell (j := 3) rfl
      have zx4_20 := Xx19.out.cell (j := 4) rfl
      have zx5_20 := Xx19.out.cell (j := 5) rfl
      have yx0_20 := Xx19.out.thaw 0
      have yx1_20 := Xx19.out.thaw 1
      have yx2_20 := Xx19.out.thaw 2
      have yx3_20 := Xx19.out.thaw 3
      have yx4_20 := Xx19.out.thaw 4
      have yx5_20 := Xx19.out.thaw 5
      have zi0_20 := Xi19.out.cell (j := 0) rfl
      have zi1_20 := Xi19.out.cell (j := 1) rfl
      have zi2_20 := Xi19.out.cell (j := 2) rfl
      have yi0_20 := Xi19.out.thaw 0
      have yi1_20 := Xi19.out.thaw 1
      have yi2_20 := Xi19.out.thaw 2
      cases o6 with
      | true =>
        have KL := hid ((((((K19.out.set (b := w.heap.size + 1) (j := 0) (v := .int .i64 5) Nr.out).set (b := w.heap.size + 1) (j := 1) (v := .int .i64 0) Nr.out).set (b := w.heap.size + 1) (j := 2) (v := .int .i64 0) Nr.out).set (b := w.heap.size + 1) (j := 3) (v := .string key2) Nr.out).set (b := w.heap.size + 1) (j := 4) (v := .string val4) Nr.out).set (b := w.heap.size + 1) (j := 5) (v := .int .i64 (1 + y5)) Nr.out)
        have GL := hid (grown_far (b := w.heap.size + 1) (j := 5) (v := .int .i64 (1 + y5)) (grown_far (b := w.heap.size + 1) (j := 4) (v := .string val4) (grown_far (b := w.heap.size + 1) (j := 3) (v := .string key2) (grown_far (b := w.heap.size + 1) (j := 2) (v := .int .i64 0) (grown_far (b := w.heap.size + 1) (j := 1) (v := .int .i64 0) (grown_far (b := w.heap.size + 1) (j := 0) (v := .int .i64 5) G19.out Mr.out) Mr.out) Mr.out) Mr.out) Mr.out) Mr.out)
        go_wp2
        refine bodyPost_ret (v := .agg #[.int .i64 5, .int .i64 0, .int .i64 0, .string key2, .string val4, .int .i64 (1 + y5)]) (by simp [results, Tryz.results56, go_sem, zr0_20, zr1_20, zr2_20, zr3_20, zr4_20, zr5_20]) rfl ?_
        exact ⟨⟨5, 0, 0, key2, val4, (1 + y5)⟩, rfl, KL.out, GL.out⟩
      | false =>
        have K21 := hid (K19.out.set (b := w2.heap.size) (j := 5) (v := (.int .i64 x3)) Nx.out)
        have G21 := hid (grown_far (b := w2.heap.size) (j := 5) (v := (.int .i64 x3)) G19.out Mx.out)
        have Xg21 := hid (Xg19.out.far (b := w2.heap.size) (j := 5) (by have := Agx.out; omega) (.int .i64 x3))
        have Xk21 := hid (Xk19.out.far (b := w2.heap.size) (j := 5) (by have := Akx.out; omega) (.int .i64 x3))
        have Xr21 := hid (Xr19.out.far (b := w2.heap.size) (j := 5) (by have := Arx.out; omega) (.int .i64 x3))
        have Xx21 : Hid (BlockIs (w6.setCell ⟨w2.heap.size, 5, none⟩ (.int .i64 x3)) (w2.heap.size) 53 [.int .i64 5, .int .i64 0, .int .i64 0, .string key2, .string val4, .int .i64 x3]) := Xx19.out.set 5 (.int .i64 x3)
        have Xi21 := hid (Xi19.out.far (b := w2.heap.size) (j := 5) (by have := Axi.out; omega) (.int .i64 x3))
        clear K19 G19 Xg19 Xk19 Xr19 Xx19 Xi19
        have zg0_22 := Xg21.out.cell (j := 0) rfl
        have zg1_22 := Xg21.out.cell (j := 1) rfl
        have zg2_22 := Xg21.out.cell (j := 2) rfl
        have zk0_22 := Xk21.out.cell (j := 0) rfl
        have zk1_22 := Xk21.out.cell (j := 1) rfl
        have yk0_22 := Xk21.out.thaw 0
        have yk1_22 := Xk21.out.thaw 1
        have zr0_22 := Xr21.out.cell (j := 0) rfl
        have zr1_22 := Xr21.out.cell (j := 1) rfl
        have zr2_22 := Xr21.out.cell (j := 2) rfl
        have zr3_22 := Xr21.out.cell (j := 3) rfl
        have zr4_22 := Xr21.out.cell (j := 4) rfl
        have zr5_22 := Xr21.out.cell (j := 5) rfl
        have yr0_22 := Xr21.out.thaw 0
        have yr1_22 := Xr21.out.thaw 1
        have yr2_22 := Xr21.out.thaw 2
        have yr3_22 := Xr21.out.thaw 3
        have yr4_22 := Xr21.out.thaw 4
        have yr5_22 := Xr21.out.thaw 5
        have zx0_22 := Xx21.out.cell (j := 0) rfl
        have zx1_22 := Xx21.out.cell (j := 1) rfl
        have zx2_22 := Xx21.out.cell (j := 2) rfl
        have zx3_22 := Xx21.out.cell (j := 3) rfl
        have zx4_22 := Xx21.out.cell (j := 4) rfl
        have zx5_22 := Xx21.out.cell (j := 5) rfl
        have yx0_22 := Xx21.out.thaw 0
        have yx1_22 := Xx21.out.thaw 1
        have yx2_22 := Xx21.out.thaw 2
        have yx3_22 := Xx21.out.thaw 3
        have yx4_22 := Xx21.out.thaw 4
        have yx5_22 := Xx21.out.thaw 5
        have zi0_22 := Xi21.out.cell (j := 0) rfl
        have zi1_22 := Xi21.out.cell (j := 1) rfl
        have zi2_22 := Xi21.out.cell (j := 2) rfl
        have yi0_22 := Xi21.out.thaw 0
        have yi1_22 := Xi21.out.thaw 1
        have yi2_22 := Xi21.out.thaw 2
        have KL := hid ((((((K21.out.set (b := w.heap.size + 1) (j := 0) (v := .int .i64 5) Nr.out).set (b := w.heap.size + 1) (j := 1) (v := .int .i64 0) Nr.out).set (b := w.heap.size + 1) (j := 2) (v := .int .i64 0) Nr.out).set (b := w.heap.size + 1) (j := 3) (v := .string key2) Nr.out).set (b := w.heap.size + 1) (j := 4) (v := .string val4) Nr.out).set (b := w.heap.size + 1) (j := 5) (v := .int .i64 x3) Nr.out)
        have GL := hid (grown_far (b := w.heap.size + 1) (j := 5) (v := .int .i64 x3) (grown_far (b := w.heap.size + 1) (j := 4) (v := .string val4) (grown_far (b := w.heap.size + 1) (j := 3) (v := .string key2) (grown_far (b := w.heap.size + 1) (j := 2) (v := .int .i64 0) (grown_far (b := w.heap.size + 1) (j := 1) (v := .int .i64 0) (grown_far (b := w.heap.size + 1) (j := 0) (v := .int .i64 5) G21.out Mr.out) Mr.out) Mr.out) Mr.out) Mr.out) Mr.out)
        go_wp2
        refine bodyPost_ret (v := .agg #[.int .i64 5, .int .i64 0, .int .i64 0, .string key2, .string val4, .int .i64 x3]) (by simp [results, Tryz.results56, go_sem, zr0_22, zr1_22, zr2_22, zr3_22, zr4_22, zr5_22]) rfl ?_
        exact ⟨⟨5, 0, 0, key2, val4, x3⟩, rfl, KL.out, GL.out⟩
  have h2' : (op1 == 2) = false := by simpa using h2
  have h5' : (op1 == 5) = false := by simpa using h5
  have KL := hid ((((((K9.out.set (b := w.heap.size + 1) (j := 0) (v := .int .i64 op1) Nr.out).set (b := w.heap.size + 1) (j := 1) (v := .int .i64 0) Nr.out).set (b := w.heap.size + 1) (j := 2) (v := .int .i64 0) Nr.out).set (b := w.heap.size + 1) (j := 3) (v := .string key2) Nr.out).set (b := w.heap.size + 1) (j := 4) (v := .string ⟨#[]⟩) Nr.out).set (b := w.heap.size + 1) (j := 5) (v := .int .i64 0) Nr.out)
  have GL := hid (grown_far (b := w.heap.size + 1) (j := 5) (v := .int .i64 0) (grown_far (b := w.heap.size + 1) (j := 4) (v := .string ⟨#[]⟩) (grown_far (b := w.heap.size + 1) (j := 3) (v := .string key2) (grown_far (b := w.heap.size + 1) (j := 2) (v := .int .i64 0) (grown_far (b := w.heap.size + 1) (j := 1) (v := .int .i64 0) (grown_far (b := w.heap.size + 1) (j := 0) (v := .int .i64 op1) G9.out Mr.out) Mr.out) Mr.out) Mr.out) Mr.out) Mr.out)
  go_wp2
  refine bodyPost_ret (v := .agg #[.int .i64 op1, .int .i64 0, .int .i64 0, .string key2, .string ⟨#[]⟩, .int .i64 0]) (by simp [results, Tryz.results56, go_sem, zr0_10, zr1_10, zr2_10, zr3_10, zr4_10, zr5_10]) rfl ?_
  exact ⟨⟨op1, 0, 0, key2, ⟨#[]⟩, 0⟩, rfl, KL.out, GL.out⟩
end Go.Proofs.YtohmfmajgehadaaGreatDoor
