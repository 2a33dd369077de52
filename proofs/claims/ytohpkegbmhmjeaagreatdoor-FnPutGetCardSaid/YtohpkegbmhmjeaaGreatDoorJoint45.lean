/-
  The walk of impl.KeepOk: a keep that is right.
  The walk of impl.CommandOk: what it answers.
-/
import Derived.Test.YtohpkegbmhmjeaaGreatDoorJoint44
import Derived.Test.YtohpkegbmhmjeaaGreatDoorJoint1
import Derived.Test.YtohpkegbmhmjeaaGreatDoorJoint42
import Derived.Deep.QuietTactic
import Derived.BigQuiet
import Derived.Lib.QuietBelow
import Derived.Test.YtohpkegbmhmjeaaGreatDoorRows
namespace Go.Proofs.YtohpkegbmhmjeaaGreatDoor
open Go.RowKit

set_option maxRecDepth 1000000 in
set_option maxHeartbeats 1000000 in
theorem implKeepOk_any (ao bo : Option Addr) (ls : List SessionD) (li : List ItemD) (ac bc : Nat) (hl : ls.length ≤ 1048576) (hl' : li.length ≤ 1048576) (w : World) (ha : SessionsAt w ao ls) (hi : ItemsAt w bo li) :
    Calls Tryz.prog 7 #[.agg #[.slice ao ls.length ac, .slice bo li.length bc]] w fun e w' => e = .returned (.bool (keepOk ls li)) ∧ Below w.heap.size w w' := by
  have HI := hid hi
  have HB := hid (below_more (Below.refl w.heap.size w) (.cells #[.slice ao ls.length ac, .slice bo li.length bc] 27))
  have HX := hid (show BlockIs (w.alloc (.cells #[.slice ao ls.length ac, .slice bo li.length bc] 27)) w.heap.size 27 [.slice ao ls.length ac, .slice bo li.length bc] from heap_alloc_new w _)
  have C := hid (fun w ha => sessionsOk_any ao ls ac hl w ha)
  have D := hid (fun w hi => itemsOk_any bo li bc hl' w hi)
  have HA := hid ha
  clear ha hi
  go_enter Tryz.func7, Tryz.ntmps7
  go_wp2_with fail
  refine (C.out _ (HA.out.on HB.out)).mono ?_
  rintro e w1 ⟨rfl, b1⟩
  have B1 := hid (below_via HB.out b1)
  have c1 := (HX.out.on b1 HX.out.lt).cell (j := 1) rfl
  clear b1
  cases hs : sessionsRight ls with
  | false =>
    have HR : Hid (keepOk ls li = false) := by show _ = _; rw [keepOk, hs]; rfl
    clear hs
    go_wp2
    go_ret
    exact ⟨by rw [HR.out]; rfl, B1.out⟩
  | true =>
    have HR : Hid (keepOk ls li = itemsRight li) := by show _ = _; rw [keepOk, hs]; rfl
    clear hs
    go_wp2_with fail
    refine (D.out _ (HI.out.on B1.out)).mono ?_
    rintro e w2 ⟨rfl, b2⟩
    have B2 := hid (below_via B1.out b2)
    clear b2
    go_wp2
    go_ret
    exact ⟨by rw [HR.out]; rfl, B2.out⟩
end Go.Proofs.YtohpkegbmhmjeaaGreatDoor

namespace Go.Proofs.YtohpkegbmhmjeaaGreatDoor
open Go.RowKit

set_option maxRecDepth 1000000 in
set_option maxHeartbeats 2000000 in
theorem implCommandOk_any (d : CommandD) (w : World) :
    Calls Tryz.prog 25 #[.agg #[.int .i64 d.op, .int .i64 d.token, .int .i64 d.seq, .string d.key, .string d.val, .int .i64 d.ver]] w fun e w' => e = .returned (.bool (commandOk d)) ∧ Below w.heap.size w w' := by
  obtain ⟨op, tok, seq, key, val, ver⟩ := d
  dsimp only
  have HB := hid (below_more (Below.refl w.heap.size w) (.cells #[.int .i64 op, .int .i64 tok, .int .i64 seq, .string key, .string val, .int .i64 ver] 29))
  have hx : BlockIs (w.alloc (.cells #[.int .i64 op, .int .i64 tok, .int .i64 seq, .string key, .string val, .int .i64 ver] 29)) w.heap.size 29 [.int .i64 op, .int .i64 tok, .int .i64 seq, .string key, .string val, .int .i64 ver] := heap_alloc_new w _
  obtain ⟨W, hW⟩ : ∃ W, w.alloc (.cells #[.int .i64 op, .int .i64 tok, .int .i64 seq, .string key, .string val, .int .i64 ver] 29) = W := ⟨_, rfl⟩
  rw [hW] at HB hx
  have c0 := hx.cell (j := 0) rfl
  have c1 := hx.cell (j := 1) rfl
  have c2 := hx.cell (j := 2) rfl
  have c3 := hx.cell (j := 3) rfl
  have c4 := hx.cell (j := 4) rfl
  have c5 := hx.cell (j := 5) rfl
  clear hx
  have hk := empty_text key
  have hv := empty_text val
  have cS := hid (fun x w => seqOk_any x w)
  have cK := hid (fun x w => keyOk_any x w)
  have cV := hid (fun x w => valOk_any x w)
  have cR := hid (fun x w => verOk_any x w)
  by_cases hop : op = 1
  · subst hop
    by_cases t0 : tok = 0
    rotate_left
    · skip
      have HR : Hid (commandOk ⟨1, tok, seq, key, val, ver⟩ = false) := by show _ = _; simp [commandOk, t0]
      go_enter Tryz.func25, Tryz.ntmps25
      go_wp2_with (first | (go_at_call 42; with_reducible refine Calls.mono (cS.out _ _) ?_; rintro e w1 ⟨rfl, hw⟩; rw [hw]; clear hw w1) | (go_at_call 43; with_reducible refine Calls.mono (cK.out _ _) ?_; rintro e w1 ⟨rfl, hw⟩; rw [hw]; clear hw w1) | (go_at_call 44; with_reducible refine Calls.mono (cV.out _ _) ?_; rintro e w1 ⟨rfl, hw⟩; rw [hw]; clear hw w1) | (go_at_call 45; with_reducible refine Calls.mono (cR.out _ _) ?_; rintro e w1 ⟨rfl, hw⟩; rw [hw]; clear hw w1) | fail)
      go_ret
      exact ⟨by rw [HR.out]; rfl, HB.out⟩
    subst t0
    by_cases q0 : seq = 0
    rotate_left
    · skip
      have HR : Hid (commandOk ⟨1, 0, seq, key, val, ver⟩ = false) := by show _ = _; simp [commandOk, q0]
      go_enter Tryz.func25, Tryz.ntmps25
      go_wp2_with (first | (go_at_call 42; with_reducible refine Calls.mono (cS.out _ _) ?_; rintro e w1 ⟨rfl, hw⟩; rw [hw]; clear hw w1) | (go_at_call 43; with_reducible refine Calls.mono (cK.out _ _) ?_; rintro e w1 ⟨rfl, hw⟩; rw [hw]; clear hw w1) | (go_at_call 44; with_reducible refine Calls.mono (cV.out _ _) ?_; rintro e w1 ⟨rfl, hw⟩; rw [hw]; clear hw w1) | (go_at_call 45; with_reducible refine Calls.mono (cR.out _ _) ?_; rintro e w1 ⟨rfl, hw⟩; rw [hw]; clear hw w1) | fail)
      go_ret
      exact ⟨by rw [HR.out]; rfl, HB.out⟩
    subst q0
    by_cases y0 : key.size = 0
    rotate_left
    · rw [decide_eq_false y0] at hk
      have HR : Hid (commandOk ⟨1, 0, 0, key, val, ver⟩ = false) := by show _ = _; simp [commandOk, y0]
      go_enter Tryz.func25, Tryz.ntmps25
      go_wp2_with (first | (go_at_call 42; with_reducible refine Calls.mono (cS.out _ _) ?_; rintro e w1 ⟨rfl, hw⟩; rw [hw]; clear hw w1) | (go_at_call 43; with_reducible refine Calls.mono (cK.out _ _) ?_; rintro e w1 ⟨rfl, hw⟩; rw [hw]; clear hw w1) | (go_at_call 44; with_reducible refine Calls.mono (cV.out _ _) ?_; rintro e w1 ⟨rfl, hw⟩; rw [hw]; clear hw w1) | (go_at_call 45; with_reducible refine Calls.mono (cR.out _ _) ?_; rintro e w1 ⟨rfl, hw⟩; rw [hw]; clear hw w1) | fail)
      go_ret
      exact ⟨by rw [HR.out]; rfl, HB.out⟩
    rw [decide_eq_true y0] at hk
    by_cases v0 : val.size = 0
    rotate_left
    · rw [decide_eq_false v0] at hv
      have HR : Hid (commandOk ⟨1, 0, 0, key, val, ver⟩ = false) := by show _ = _; simp [commandOk, v0]
      go_enter Tryz.func25, Tryz.ntmps25
      go_wp2_with (first | (go_at_call 42; with_reducible refine Calls.mono (cS.out _ _) ?_; rintro e w1 ⟨rfl, hw⟩; rw [hw]; clear hw w1) | (go_at_call 43; with_reducible refine Calls.mono (cK.out _ _) ?_; rintro e w1 ⟨rfl, hw⟩; rw [hw]; clear hw w1) | (go_at_call 44; with_reducible refine Calls.mono (cV.out _ _) ?_; rintro e w1 ⟨rfl, hw⟩; rw [hw]; clear hw w1) | (go_at_call 45; with_reducible refine Calls.mono (cR.out _ _) ?_; rintro e w1 ⟨rfl, hw⟩; rw [hw]; clear hw w1) | fail)
      go_ret
      exact ⟨by rw [HR.out]; rfl, HB.out⟩
    rw [decide_eq_true v0] at hv
    have z1 : within 0 0 1000000 = true := by decide
    have z2 : within 1 1 5 = true := by decide
    by_cases r0 : ver = 0
    · subst r0
      have HR : Hid (commandOk ⟨1, 0, 0, key, val, 0⟩ = true) := by show _ = _; simp [commandOk, y0, v0, z1, z2]
      go_enter Tryz.func25, Tryz.ntmps25
      go_wp2_with (first | (go_at_call 42; with_reducible refine Calls.mono (cS.out _ _) ?_; rintro e w1 ⟨rfl, hw⟩; rw [hw]; clear hw w1) | (go_at_call 43; with_reducible refine Calls.mono (cK.out _ _) ?_; rintro e w1 ⟨rfl, hw⟩; rw [hw]; clear hw w1) | (go_at_call 44; with_reducible refine Calls.mono (cV.out _ _) ?_; rintro e w1 ⟨rfl, hw⟩; rw [hw]; clear hw w1) | (go_at_call 45; with_reducible refine Calls.mono (cR.out _ _) ?_; rintro e w1 ⟨rfl, hw⟩; rw [hw]; clear hw w1) | fail)
      go_ret
      exact ⟨by rw [HR.out]; rfl, HB.out⟩
    have HR : Hid (commandOk ⟨1, 0, 0, key, val, ver⟩ = false) := by show _ = _; simp [commandOk, r0]
    go_enter Tryz.func25, Tryz.ntmps25
    go_wp2_with (first | (go_at_call 42; with_reducible refine Calls.mono (cS.out _ _) ?_; rintro e w1 ⟨rfl, hw⟩; rw [hw]; clear hw w1) | (go_at_call 43; with_reducible refine Calls.mono (cK.out _ _) ?_; rintro e w1 ⟨rfl, hw⟩; rw [hw]; clear hw w1) | (go_at_call 44; with_reducible refine Calls.mono (cV.out _ _) ?_; rintro e w1 ⟨rfl, hw⟩; rw [hw]; clear hw w1) | (go_at_call 45; with_reducible refine Calls.mono (cR.out _ _) ?_; rintro e w1 ⟨rfl, hw⟩; rw [hw]; clear hw w1) | fail)
    go_ret
    exact ⟨by rw [HR.out]; rfl, HB.out⟩
  by_cases h1 : 0 ≤ tok ∧ tok ≤ 1000000
  rotate_left
  · have e1 := within_no (x := tok) (a := 0) (b := 1000000) (by omega)
    have HR : Hid (commandOk ⟨op, tok, seq, key, val, ver⟩ = false) := by show _ = _; simp [commandOk, hop, e1]
    go_enter Tryz.func25, Tryz.ntmps25
    go_wp2_with (first | (go_at_call 42; with_reducible refine Calls.mono (cS.out _ _) ?_; rintro e w1 ⟨rfl, hw⟩; rw [hw]; clear hw w1) | (go_at_call 43; with_reducible refine Calls.mono (cK.out _ _) ?_; rintro e w1 ⟨rfl, hw⟩; rw [hw]; clear hw w1) | (go_at_call 44; with_reducible refine Calls.mono (cV.out _ _) ?_; rintro e w1 ⟨rfl, hw⟩; rw [hw]; clear hw w1) | (go_at_call 45; with_reducible refine Calls.mono (cR.out _ _) ?_; rintro e w1 ⟨rfl, hw⟩; rw [hw]; clear hw w1) | fail)
    go_ret
    exact ⟨by rw [HR.out]; rfl, HB.out⟩
  have e1 := within_yes (x := tok) (a := 0) (b := 1000000) h1.1 h1.2
  by_cases h2 : 0 ≤ seq ∧ seq ≤ 1000000
  rotate_left
  · have e2 := within_no (x := seq) (a := 0) (b := 1000000) (by omega)
    have HR : Hid (commandOk ⟨op, tok, seq, key, val, ver⟩ = false) := by show _ = _; simp [commandOk, hop, e1, e2]
    go_enter Tryz.func25, Tryz.ntmps25
    go_wp2_with (first | (go_at_call 42; with_reducible refine Calls.mono (cS.out _ _) ?_; rintro e w1 ⟨rfl, hw⟩; rw [hw]; clear hw w1) | (go_at_call 43; with_reducible refine Calls.mono (cK.out _ _) ?_; rintro e w1 ⟨rfl, hw⟩; rw [hw]; clear hw w1) | (go_at_call 44; with_reducible refine Calls.mono (cV.out _ _) ?_; rintro e w1 ⟨rfl, hw⟩; rw [hw]; clear hw w1) | (go_at_call 45; with_reducible refine Calls.mono (cR.out _ _) ?_; rintro e w1 ⟨rfl, hw⟩; rw [hw]; clear hw w1) | fail)
    go_ret
    exact ⟨by rw [HR.out]; rfl, HB.out⟩
  have e2 := within_yes (x := seq) (a := 0) (b := 1000000) h2.1 h2.2
  by_cases hkl : 1 ≤ (key.size : Int) ∧ (key.size : Int) ≤ 8
  rotate_left
  · have e4 := within_no (x := (key.size : Int)) (a := 1) (b := 8) (by omega)
    have HR : Hid (commandOk ⟨op, tok, seq, key, val, ver⟩ = false) := by show _ = _; simp [commandOk, hop, e1, e2, e4]
    go_enter Tryz.func25, Tryz.ntmps25
    go_wp2_with (first | (go_at_call 42; with_reducible refine Calls.mono (cS.out _ _) ?_; rintro e w1 ⟨rfl, hw⟩; rw [hw]; clear hw w1) | (go_at_call 43; with_reducible refine Calls.mono (cK.out _ _) ?_; rintro e w1 ⟨rfl, hw⟩; rw [hw]; clear hw w1) | (go_at_call 44; with_reducible refine Calls.mono (cV.out _ _) ?_; rintro e w1 ⟨rfl, hw⟩; rw [hw]; clear hw w1) | (go_at_call 45; with_reducible refine Calls.mono (cR.out _ _) ?_; rintro e w1 ⟨rfl, hw⟩; rw [hw]; clear hw w1) | fail)
    go_ret
    exact ⟨by rw [HR.out]; rfl, HB.out⟩
  have e4 := within_yes (x := (key.size : Int)) (a := 1) (b := 8) hkl.1 hkl.2
  by_cases op2 : op = 2
  · subst op2
    have e3 : within 2 1 5 = true := by decide
    by_cases hvl : 20 < (val.size : Int)
    · have n20 : ¬ (val.size : Int) ≤ 20 := by omega
      have HR : Hid (commandOk ⟨2, tok, seq, key, val, ver⟩ = false) := by show _ = _; simp [commandOk, e1, e2, e4, e3, n20]
      go_enter Tryz.func25, Tryz.ntmps25
      go_wp2_with (first | (go_at_call 42; with_reducible refine Calls.mono (cS.out _ _) ?_; rintro e w1 ⟨rfl, hw⟩; rw [hw]; clear hw w1) | (go_at_call 43; with_reducible refine Calls.mono (cK.out _ _) ?_; rintro e w1 ⟨rfl, hw⟩; rw [hw]; clear hw w1) | (go_at_call 44; with_reducible refine Calls.mono (cV.out _ _) ?_; rintro e w1 ⟨rfl, hw⟩; rw [hw]; clear hw w1) | (go_at_call 45; with_reducible refine Calls.mono (cR.out _ _) ?_; rintro e w1 ⟨rfl, hw⟩; rw [hw]; clear hw w1) | fail)
      go_ret
      exact ⟨by rw [HR.out]; rfl, HB.out⟩
    have y20 : (val.size : Int) ≤ 20 := by omega
    have HR : Hid (commandOk ⟨2, tok, seq, key, val, ver⟩ = decide (ver = 0)) := by show _ = _; simp [commandOk, e1, e2, e4, e3, y20]
    go_enter Tryz.func25, Tryz.ntmps25
    go_wp2_with (first | (go_at_call 42; with_reducible refine Calls.mono (cS.out _ _) ?_; rintro e w1 ⟨rfl, hw⟩; rw [hw]; clear hw w1) | (go_at_call 43; with_reducible refine Calls.mono (cK.out _ _) ?_; rintro e w1 ⟨rfl, hw⟩; rw [hw]; clear hw w1) | (go_at_call 44; with_reducible refine Calls.mono (cV.out _ _) ?_; rintro e w1 ⟨rfl, hw⟩; rw [hw]; clear hw w1) | (go_at_call 45; with_reducible refine Calls.mono (cR.out _ _) ?_; rintro e w1 ⟨rfl, hw⟩; rw [hw]; clear hw w1) | fail)
    go_ret
    exact ⟨by rw [HR.out]; rfl, HB.out⟩
  by_cases op5 : op = 5
  · subst op5
    have e3 : within 5 1 5 = true := by decide
    by_cases hvl : 20 < (val.size : Int)
    · have n20 : ¬ (val.size : Int) ≤ 20 := by omega
      have HR : Hid (commandOk ⟨5, tok, seq, key, val, ver⟩ = false) := by show _ = _; simp [commandOk, e1, e2, e4, e3, n20]
      go_enter Tryz.func25, Tryz.ntmps25
      go_wp2_with (first | (go_at_call 42; with_reducible refine Calls.mono (cS.out _ _) ?_; rintro e w1 ⟨rfl, hw⟩; rw [hw]; clear hw w1) | (go_at_call 43; with_reducible refine Calls.mono (cK.out _ _) ?_; rintro e w1 ⟨rfl, hw⟩; rw [hw]; clear hw w1) | (go_at_call 44; with_reducible refine Calls.mono (cV.out _ _) ?_; rintro e w1 ⟨rfl, hw⟩; rw [hw]; clear hw w1) | (go_at_call 45; with_reducible refine Calls.mono (cR.out _ _) ?_; rintro e w1 ⟨rfl, hw⟩; rw [hw]; clear hw w1) | fail)
      go_ret
      exact ⟨by rw [HR.out]; rfl, HB.out⟩
    have y20 : (val.size : Int) ≤ 20 := by omega
    have HR : Hid (commandOk ⟨5, tok, seq, key, val, ver⟩ = within ver 1 1000000000) := by show _ = _; simp [commandOk, e1, e2, e4, e3, y20]
    go_enter Tryz.func25, Tryz.ntmps25
    go_wp2_with (first | (go_at_call 42; with_reducible refine Calls.mono (cS.out _ _) ?_; rintro e w1 ⟨rfl, hw⟩; rw [hw]; clear hw w1) | (go_at_call 43; with_reducible refine Calls.mono (cK.out _ _) ?_; rintro e w1 ⟨rfl, hw⟩; rw [hw]; clear hw w1) | (go_at_call 44; with_reducible refine Calls.mono (cV.out _ _) ?_; rintro e w1 ⟨rfl, hw⟩; rw [hw]; clear hw w1) | (go_at_call 45; with_reducible refine Calls.mono (cR.out _ _) ?_; rintro e w1 ⟨rfl, hw⟩; rw [hw]; clear hw w1) | fail)
    go_ret
    exact ⟨by rw [HR.out]; rfl, HB.out⟩
  by_cases op3 : op = 3
  · subst op3
    have e3 : within 3 1 5 = true := by decide
    by_cases v0 : val.size = 0
    rotate_left
    · rw [decide_eq_false v0] at hv
      have HR : Hid (commandOk ⟨3, tok, seq, key, val, ver⟩ = false) := by show _ = _; simp [commandOk, e1, e2, e4, e3, v0]
      go_enter Tryz.func25, Tryz.ntmps25
      go_wp2_with (first | (go_at_call 42; with_reducible refine Calls.mono (cS.out _ _) ?_; rintro e w1 ⟨rfl, hw⟩; rw [hw]; clear hw w1) | (go_at_call 43; with_reducible refine Calls.mono (cK.out _ _) ?_; rintro e w1 ⟨rfl, hw⟩; rw [hw]; clear hw w1) | (go_at_call 44; with_reducible refine Calls.mono (cV.out _ _) ?_; rintro e w1 ⟨rfl, hw⟩; rw [hw]; clear hw w1) | (go_at_call 45; with_reducible refine Calls.mono (cR.out _ _) ?_; rintro e w1 ⟨rfl, hw⟩; rw [hw]; clear hw w1) | fail)
      go_ret
      exact ⟨by rw [HR.out]; rfl, HB.out⟩
    rw [decide_eq_true v0] at hv
    have HR : Hid (commandOk ⟨3, tok, seq, key, val, ver⟩ = decide (ver = 0)) := by show _ = _; simp [commandOk, e1, e2, e4, e3, v0]
    go_enter Tryz.func25, Tryz.ntmps25
    go_wp2_with (first | (go_at_call 42; with_reducible refine Calls.mono (cS.out _ _) ?_; rintro e w1 ⟨rfl, hw⟩; rw [hw]; clear hw w1) | (go_at_call 43; with_reducible refine Calls.mono (cK.out _ _) ?_; rintro e w1 ⟨rfl, hw⟩; rw [hw]; clear hw w1) | (go_at_call 44; with_reducible refine Calls.mono (cV.out _ _) ?_; rintro e w1 ⟨rfl, hw⟩; rw [hw]; clear hw w1) | (go_at_call 45; with_reducible refine Calls.mono (cR.out _ _) ?_; rintro e w1 ⟨rfl, hw⟩; rw [hw]; clear hw w1) | fail)
    go_ret
    exact ⟨by rw [HR.out]; rfl, HB.out⟩
  by_cases op4 : op = 4
  · subst op4
    have e3 : within 4 1 5 = true := by decide
    by_cases v0 : val.size = 0
    rotate_left
    · rw [decide_eq_false v0] at hv
      have HR : Hid (commandOk ⟨4, tok, seq, key, val, ver⟩ = false) := by show _ = _; simp [commandOk, e1, e2, e4, e3, v0]
      go_enter Tryz.func25, Tryz.ntmps25
      go_wp2_with (first | (go_at_call 42; with_reducible refine Calls.mono (cS.out _ _) ?_; rintro e w1 ⟨rfl, hw⟩; rw [hw]; clear hw w1) | (go_at_call 43; with_reducible refine Calls.mono (cK.out _ _) ?_; rintro e w1 ⟨rfl, hw⟩; rw [hw]; clear hw w1) | (go_at_call 44; with_reducible refine Calls.mono (cV.out _ _) ?_; rintro e w1 ⟨rfl, hw⟩; rw [hw]; clear hw w1) | (go_at_call 45; with_reducible refine Calls.mono (cR.out _ _) ?_; rintro e w1 ⟨rfl, hw⟩; rw [hw]; clear hw w1) | fail)
      go_ret
      exact ⟨by rw [HR.out]; rfl, HB.out⟩
    rw [decide_eq_true v0] at hv
    have HR : Hid (commandOk ⟨4, tok, seq, key, val, ver⟩ = decide (ver = 0)) := by show _ = _; simp [commandOk, e1, e2, e4, e3, v0]
    go_enter Tryz.func25, Tryz.ntmps25
    go_wp2_with (first | (go_at_call 42; with_reducible refine Calls.mono (cS.out _ _) ?_; rintro e w1 ⟨rfl, hw⟩; rw [hw]; clear hw w1) | (go_at_call 43; with_reducible refine Calls.mono (cK.out _ _) ?_; rintro e w1 ⟨rfl, hw⟩; rw [hw]; clear hw w1) | (go_at_call 44; with_reducible refine Calls.mono (cV.out _ _) ?_; rintro e w1 ⟨rfl, hw⟩; rw [hw]; clear hw w1) | (go_at_call 45; with_reducible refine Calls.mono (cR.out _ _) ?_; rintro e w1 ⟨rfl, hw⟩; rw [hw]; clear hw w1) | fail)
    go_ret
    exact ⟨by rw [HR.out]; rfl, HB.out⟩
  have e3 := within_no (x := op) (a := 1) (b := 5) (by omega)
  have HR : Hid (commandOk ⟨op, tok, seq, key, val, ver⟩ = false) := by show _ = _; simp [commandOk, e1, e2, e4, e3]
  go_enter Tryz.func25, Tryz.ntmps25
  go_wp2_with (first | (go_at_call 42; with_reducible refine Calls.mono (cS.out _ _) ?_; rintro e w1 ⟨rfl, hw⟩; rw [hw]; clear hw w1) | (go_at_call 43; with_reducible refine Calls.mono (cK.out _ _) ?_; rintro e w1 ⟨rfl, hw⟩; rw [hw]; clear hw w1) | (go_at_call 44; with_reducible refine Calls.mono (cV.out _ _) ?_; rintro e w1 ⟨rfl, hw⟩; rw [hw]; clear hw w1) | (go_at_call 45; with_reducible refine Calls.mono (cR.out _ _) ?_; rintro e w1 ⟨rfl, hw⟩; rw [hw]; clear hw w1) | fail)
  go_ret
  exact ⟨by rw [HR.out]; rfl, HB.out⟩
end Go.Proofs.YtohpkegbmhmjeaaGreatDoor
