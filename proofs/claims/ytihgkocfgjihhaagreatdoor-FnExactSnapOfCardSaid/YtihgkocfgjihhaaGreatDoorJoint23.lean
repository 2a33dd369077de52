/-
  The walks of laws.eqItem, eqItemS: what is alike is found alike.
  The walk of laws.eqKeep: two keeps that are alike are found alike.
-/
import Derived.Test.YtihgkocfgjihhaaGreatDoorJoint1
import Derived.Test.YtihgkocfgjihhaaGreatDoorRows
import Derived.Lib.QuietBelow
import Derived.Test.YtihgkocfgjihhaaGreatDoorJoint22
namespace Go.Proofs.YtihgkocfgjihhaaGreatDoor
open Go.RowKit Go.Sort

set_option maxRecDepth 1000000 in
theorem eqItem_same (f : ItemD) (w : World) :
    Calls Tryz.prog 154 #[.agg #[.string f.key, .string f.val, .int .i64 f.ver], .agg #[.string f.key, .string f.val, .int .i64 f.ver]] w fun e w' => e = .returned (.bool true) ∧ Below w.heap.size w w' := by
  have hb : Hid (∀ (o p : Obj), Below w.heap.size w ((w.alloc o).alloc p)) := fun o p => ((Below.refl _ w).alloc (Nat.le_refl _) _).alloc (by simp [World.alloc, -World.alloc_eq]) _
  go_enter Tryz.func154, Tryz.ntmps154
  go_wp2
  go_ret
  exact ⟨rfl, hb.out _ _⟩

set_option maxRecDepth 1000000 in
set_option maxHeartbeats 1000000 in
theorem eqItemS_same (ao bo : Option Addr) (l : List ItemD) (cap cap' : Nat) (hl : l.length ≤ 140737488355328) (w : World) (ha : ItemsAt w ao l) (hb : ItemsAt w bo l) :
    Calls Tryz.prog 104 #[.slice ao l.length cap, .slice bo l.length cap'] w fun e w' => e = .returned (.bool true) ∧ Below w.heap.size w w' := by
  have HA := hid ha
  have HB := hid hb
  clear ha hb
  go_enter Tryz.func104, Tryz.ntmps104
  go_wp2
  go_loopg [5] l.length (fun g i wr => ∃ (k : Nat), k + g = l.length ∧ i = .int .i64 k ∧ Hid (Below w.heap.size w wr))
  case atStart => exact ⟨0, by omega, rfl, (show Below _ _ _ from Below.refl _ _)⟩
  case round =>
    obtain ⟨k, hkg, rfl, BR⟩ := hrel
    cases gk with
    | zero =>
      have hlt : ¬ (k : Int) < (l.length : Int) := by omega
      go_wp2
      go_ret
      exact ⟨rfl, BR.out⟩
    | succ g =>
      have hlt : k < l.length := by omega
      have hlt' : (k : Int) < (l.length : Int) := by omega
      have hne : l ≠ [] := by intro e; rw [e] at hlt; simp at hlt
      obtain ⟨b, off, rfl, hc⟩ := HA.out.on BR.out hne
      obtain ⟨x0, x1, x2⟩ := hc k hlt
      obtain ⟨b', off', rfl, hc'⟩ := HB.out.on BR.out hne
      obtain ⟨y0, y1, y2⟩ := hc' k hlt
      have X0 := cell_regrown x0
      have Y0 := cell_regrown y0
      have X1 := cell_regrown x1
      have Y1 := cell_regrown y1
      have X2 := cell_regrown x2
      have Y2 := cell_regrown y2
      clear hc hc' x0 x1 x2 y0 y1 y2
      have C' := fun d os => Calls.regrown_of (w := wr) (d := d) (os := os) (eqItem_same l[k] _)
      have C := hid C'
      clear C'
      go_wp2
      refine wp_region_quiet_below (by kernel_rfl) (by kernel_rfl) ?_
      repeat (first | go_big_quiet_step (first | (go_at_call 154; exact C.out _ _) | fail) | quiet_step (first | (go_at_call 154; exact C.out _ _) | fail))
      refine wpQuiet_nil ?_
      intro _ hw'
      obtain ⟨⟨dq, osq⟩, hw''⟩ := hw'
      subst hw''
      have BQ : Hid (Below w.heap.size w (grow (redrawn wr dq) osq)) := BR.out.trans ((below_regrown wr dq osq).mono BR.out.size)
      generalize grow (redrawn wr dq) osq = wq at BQ ⊢
      clear X0 X1 X2 Y0 Y1 Y2 C
      go_wp2
      go_roundg g
      case measure => omega
      case rel => exact ⟨k + 1, by omega, by go_num, BQ⟩
end Go.Proofs.YtihgkocfgjihhaaGreatDoor

namespace Go.Proofs.YtihgkocfgjihhaaGreatDoor
open Go.RowKit Go.Sort

set_option maxRecDepth 1000000 in
set_option maxHeartbeats 1000000 in
theorem eqKeep_same (ao ao' bo bo' : Option Addr) (ls : List SessionD) (li : List ItemD) (ac ac' bc bc' : Nat) (hl : ls.length ≤ 140737488355328) (hl' : li.length ≤ 140737488355328) (w : World) (ha : SessionsAt w ao ls) (ha' : SessionsAt w ao' ls) (hb : ItemsAt w bo li) (hb' : ItemsAt w bo' li) :
    Calls Tryz.prog 49 #[.agg #[.slice ao ls.length ac, .slice bo li.length bc], .agg #[.slice ao' ls.length ac', .slice bo' li.length bc']] w fun e w' => e = .returned (.bool true) ∧ Below w.heap.size w w' := by
  have C := hid (fun w ha hb => eqSessionS_same ao ao' ls ac ac' hl w ha hb)
  have D := hid (fun w ha hb => eqItemS_same bo bo' li bc bc' hl' w ha hb)
  obtain ⟨W0, hW0⟩ : ∃ W0, (w.alloc (.cells #[.slice ao ls.length ac, .slice bo li.length bc] 67)).alloc (.cells #[.slice ao' ls.length ac', .slice bo' li.length bc'] 67) = W0 := ⟨_, rfl⟩
  have HBB := hid (below_more (below_more (Below.refl w.heap.size w) (.cells #[.slice ao ls.length ac, .slice bo li.length bc] 67)) (.cells #[.slice ao' ls.length ac', .slice bo' li.length bc'] 67))
  have K0 : BlockIs W0 w.heap.size 67 [.slice ao ls.length ac, .slice bo li.length bc] := by
    rw [← hW0]
    show ((w.heap.push _).push _)[w.heap.size]? = some _
    rw [Array.getElem?_push, if_neg (by simp), Array.getElem?_push, if_pos rfl]
  have K1 : BlockIs W0 (w.heap.size + 1) 67 [.slice ao' ls.length ac', .slice bo' li.length bc'] := by
    rw [← hW0]
    show ((w.heap.push _).push _)[w.heap.size + 1]? = some _
    rw [Array.getElem?_push, if_pos (by simp)]
  rw [hW0] at HBB
  have HA := hid (ha.on HBB.out)
  have HA' := hid (ha'.on HBB.out)
  have HI := hid (hb.on HBB.out)
  have HI' := hid (hb'.on HBB.out)
  clear ha hb ha' hb'
  have HK0 := hid K0
  have HK1 := hid K1
  have c0 := K0.cell (j := 0) rfl
  have c1 := K0.cell (j := 1) rfl
  have d0 := K1.cell (j := 0) rfl
  have d1 := K1.cell (j := 1) rfl
  clear K0 K1
  go_enter Tryz.func49, Tryz.ntmps49
  go_wp2_with fail
  refine (C.out _ HA.out HA'.out).mono ?_
  rintro e w1 ⟨rfl, b1⟩
  have J0 := HK0.out.on b1 HK0.out.lt
  have J1 := HK1.out.on b1 HK1.out.lt
  have c1 := J0.cell (j := 1) rfl
  have d1 := J1.cell (j := 1) rfl
  have B1 := hid (below_via HBB.out b1)
  have HI1 := hid (HI.out.on b1)
  have HI1' := hid (HI'.out.on b1)
  clear b1 C J0 J1
  go_wp2_with fail
  refine (D.out _ HI1.out HI1'.out).mono ?_
  rintro e w2 ⟨rfl, b2⟩
  have B2 := hid (below_via B1.out b2)
  clear b2 D
  go_wp2
  go_ret
  exact ⟨rfl, B2.out⟩
end Go.Proofs.YtihgkocfgjihhaaGreatDoor
