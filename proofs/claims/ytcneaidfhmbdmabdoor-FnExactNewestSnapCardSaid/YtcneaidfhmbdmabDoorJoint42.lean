/-
  The walk of impl.snapReader's method conf; the closure that impl.ReadSnap defers.
-/
import Derived.Test.YtcneaidfhmbdmabDoorJoint41
import Derived.Test.YtcneaidfhmbdmabDoorJoint1
import Derived.Defers
import Derived.Recover
namespace Go.Proofs.YtcneaidfhmbdmabDoor
open Go.RowKit Go.Sort

set_option maxRecDepth 1000000 in
set_option maxHeartbeats 1000000 in
theorem conf_yes (b : Nat) (s : ByteArray) (k x y : Nat) (hs : s.size ≤ 1048576) (h : rs s (k : Int) = some (x, y)) (hc : confOk (intsOf (s.extract x y).data.toList) = true) (w : World) (hr : RdIs w b s k) :
    Calls Tryd.prog 70 #[.pointer (some ⟨b, 0, none⟩)] w fun e w' => ∃ v, e = .returned v ∧ w'.ownsRow w.heap.size 3 1 v (intsOf (s.extract x y).data.toList).length (intCells (intsOf (s.extract x y).data.toList)) ∧ RdIs w' b s y ∧ w.grownBy w' (some b) := by
  have HR := hid hr
  have cS := hid (fun w hr => short_yes b s k x y hs h w hr)
  clear hr h
  obtain ⟨T, hT⟩ : ∃ T, s.extract x y = T := ⟨_, rfl⟩
  rw [hT] at cS hc ⊢
  have HC := hid hc
  clear hc hT
  go_enter Tryd.func70, Tryd.ntmps70
  go_wp2_with fail
  refine (cS.out _ HR.out).mono ?_
  rintro e w1 ⟨rfl, hr1, hg1⟩
  have R1 := hid hr1
  have G1 := hid hg1
  clear hr1 hg1 cS HR
  go_wp2_with fail
  refine (implReadConf_any T _).mono ?_
  rintro e w2 ⟨v, rfl, ho, b2⟩
  rw [readConf_yes HC.out] at ho ⊢
  have R2 : Hid (RdIs w2 b s y) := R1.out.on b2 R1.out.lt
  have HO := hid (row_down ho G1.out.size)
  have G2 := hid (G1.out.trans (grown_of_below b2 (some b)))
  clear ho b2 R1 G1
  go_wp2_with fail
  refine (need_yes _ _).mono ?_
  rintro e w3 ⟨rfl, hw⟩
  rw [hw]
  clear hw w3
  go_wp2
  go_ret
  exact ⟨v, rfl, HO.out, R2.out, G2.out⟩

set_option maxRecDepth 1000000 in
set_option maxHeartbeats 1000000 in
theorem conf_none (b : Nat) (s : ByteArray) (k : Nat) (hs : s.size ≤ 1048576) (h : rs s (k : Int) = none) (w : World) (hr : RdIs w b s k) :
    Calls Tryd.prog 70 #[.pointer (some ⟨b, 0, none⟩)] w fun e w' => e = .panicked [noSnapP] ∧ w.grownBy w' (some b) := by
  have HR := hid hr
  have cS := hid (fun w hr => short_no b s k hs h w hr)
  clear hr h
  go_enter Tryd.func70, Tryd.ntmps70
  go_wp2_with fail
  refine (cS.out _ HR.out).mono ?_
  rintro e w1 ⟨rfl, hg1⟩
  have G1 := hid hg1
  clear hg1 cS HR
  go_wp2
  exact ⟨rfl, rfl, G1.out⟩

set_option maxRecDepth 1000000 in
set_option maxHeartbeats 1000000 in
theorem conf_no (b : Nat) (s : ByteArray) (k x y : Nat) (hs : s.size ≤ 1048576) (h : rs s (k : Int) = some (x, y)) (hc : confOk (intsOf (s.extract x y).data.toList) = false) (w : World) (hr : RdIs w b s k) :
    Calls Tryd.prog 70 #[.pointer (some ⟨b, 0, none⟩)] w fun e w' => e = .panicked [noSnapP] ∧ w.grownBy w' (some b) := by
  have HR := hid hr
  have cS := hid (fun w hr => short_yes b s k x y hs h w hr)
  clear hr h
  obtain ⟨T, hT⟩ : ∃ T, s.extract x y = T := ⟨_, rfl⟩
  rw [hT] at cS hc
  have HC := hid hc
  clear hc hT
  go_enter Tryd.func70, Tryd.ntmps70
  go_wp2_with fail
  refine (cS.out _ HR.out).mono ?_
  rintro e w1 ⟨rfl, _, hg1⟩
  have G1 := hid hg1
  clear hg1 cS HR
  go_wp2_with fail
  refine (implReadConf_any T _).mono ?_
  rintro e w2 ⟨v, rfl, _, b2⟩
  rw [readConf_no HC.out]
  have G2 := hid (G1.out.trans (grown_of_below b2 (some b)))
  clear b2 G1
  go_wp2_with fail
  refine (need_no _ _).mono ?_
  rintro e w3 ⟨rfl, hw⟩
  rw [hw]
  clear hw w3
  go_wp2
  exact ⟨rfl, rfl, G2.out⟩

set_option maxRecDepth 1000000 in
/-- the closure that ReadSnap defers, where a reader panicked: what was read is given up -/
theorem catch_panicking (p q : Nat) (cs : List Value) (x : Value) (w : World) (hp : BlockIs w p 28 cs) (hl : cs.length = 4) (hq : BlockIs w q 4 [x]) (hpq : p ≠ q) :
    CallsD Tryd.prog 67 #[.pointer (some ⟨p, 0, none⟩), .pointer (some ⟨q, 0, none⟩)] (.panicking [noSnapP]) w fun e u' w' =>
      e = .returned (.tuple #[]) ∧ u' = .panicking [{ v := .iface 95 (.agg #[]), recovered := true }] ∧ w' = (((((w.alloc (.cells #[] 95)).setCell ⟨p, 0, none⟩ (.int .i64 0)).setCell ⟨p, 1, none⟩ (.int .i64 0)).setCell ⟨p, 2, none⟩ (.slice none 0 0)).setCell ⟨p, 3, none⟩ (.string ByteArray.empty)).setCell ⟨q, 0, none⟩ (.bool false) := by
  obtain ⟨c0, c1, c2, c3, rfl⟩ : ∃ c0 c1 c2 c3, cs = [c0, c1, c2, c3] := by
    match cs, hl with
    | [c0, c1, c2, c3], _ => exact ⟨c0, c1, c2, c3, rfl⟩
  have hB := below_more (Below.refl w.heap.size w) (.cells #[] 95)
  have hp1 := hp.on hB hp.lt
  have hq1 := hq.on hB hq.lt
  have d0 := hp1.cell (j := 0) rfl
  have d1 := hp1.cell (j := 1) rfl
  have d2 := hp1.cell (j := 2) rfl
  have d3 := hp1.cell (j := 3) rfl
  have f0 := hp1.thaw 0
  have f1 := hp1.thaw 1
  have f2 := hp1.thaw 2
  have f3 := hp1.thaw 3
  have e0 := hq1.cell (j := 0) rfl
  have g0 := hq1.thaw 0
  have has : ∀ w, (Instr.typeAssert (.iface 95 (.agg #[])) 20 95 true).run Tryd.prog w = .ok (.tuple #[.agg #[], .bool true]) w := fun w => by kernel_rfl
  refine callsD_of_wpS Tryd.func67 rfl fun c₀ cs hu => ?_
  apply wpS_seq
  apply wpS_region
  simp [wpOpsS, go_sem, recoverD, hu, has, Tryd.ntmps67, Exit.thenS]
  apply wpS_seq
  apply wpS_region
  simp [wpOpsS, go_sem, Exit.thenS]
  refine wpS_cond (t := true) (by simp [Act.eval, Array.replicate]) ?_
  simp only [if_true]
  apply wpS_region
  have hqp : ¬ q = p := fun e => hpq e.symm
  simp [wpOpsS, go_sem, d0, d1, d2, d3, f0, f1, f2, f3, e0, g0, bodyPostS, results, Tryd.results67]
  rfl

set_option maxRecDepth 1000000 in
/-- the same, where all was read -/
theorem catch_idle (p q : Nat) (w : World) :
    CallsD Tryd.prog 67 #[.pointer (some ⟨p, 0, none⟩), .pointer (some ⟨q, 0, none⟩)] .returning w fun e u' w' => e = .returned (.tuple #[]) ∧ u' = .returning ∧ w' = w.alloc (.cells #[] 95) := by
  have has : ∀ w, (Instr.typeAssert .nilIface 20 95 true).run Tryd.prog w = .ok (.tuple #[.agg #[], .bool false]) w := fun w => by kernel_rfl
  refine callsD_of_wpS Tryd.func67 rfl fun c₀ cs hu => ?_
  apply wpS_seq
  apply wpS_region
  simp [wpOpsS, go_sem, recoverD, hu, has, Tryd.ntmps67, Exit.thenS]
  apply wpS_seq
  apply wpS_region
  simp [wpOpsS, go_sem, Exit.thenS]
  refine wpS_cond (t := false) (by simp [Act.eval, Array.replicate]) ?_
  simp only [Bool.false_eq_true, if_false]
  refine wpS_of_wp (wp_skip ?_)
  cases c₀
  simp_all [bodyPostS, results, Tryd.results67]
end Go.Proofs.YtcneaidfhmbdmabDoor
