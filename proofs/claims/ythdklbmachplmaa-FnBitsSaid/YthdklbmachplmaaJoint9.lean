/-
  The walk of spec.JoinBits, for lists of at most three bits that are good: the same answer as impl's.
-/
import Derived.Test.YthdklbmachplmaaJoint4
import Derived.Test.YthdklbmachplmaaJoint5
import Derived.Test.YthdklbmachplmaaJoint7
import Derived.Test.YthdklbmachplmaaJoint8
import Derived.Test.YthdklbmachplmaaJoint6
import Derived.BigRegion
import Derived.BigQuiet
import Derived.Lib.QuietBelow
import Derived.Deep.QuietTactic
import Derived.Deep.DeepCutAuto
import Derived.Deep.CutBlock
import Derived.Deep.LoopGhost
import Derived.WalkSmall
import Derived.WalkKit
namespace Go.Proofs.Ythdklbmachplmaa
open Go.RowKit

set_option maxRecDepth 1000000 in
set_option maxHeartbeats 8000000 in
theorem specJoin_E (ao : Option Addr) (l : List BitD) (cap : Nat) (d : DgramD) (now : Int) (hl : l.length ≤ 3) (hg : ∀ e ∈ l, GoodB e ∧ e.ats.length ≤ 900) (hds : d.body.size ≤ 1048576) (w : World) (ha : BitsHold w ao l) (heasy : joinOk d now = false ∨ (d.place = 0 ∧ d.more = false)) :
    Calls Try.prog 8 #[.slice ao l.length cap, .agg #[.int .i64 d.src, .int .i64 d.dst, .int .i64 d.ident, .int .i64 d.place, .bool d.more, .string d.body], .int .i64 now] w fun e w' => JoinDidT (joinB l d now) w e w' := by
  have hx : BlockIs (w.alloc (.cells #[.int .i64 d.src, .int .i64 d.dst, .int .i64 d.ident, .int .i64 d.place, .bool d.more, .string d.body] 26)) w.heap.size 26 [.int .i64 d.src, .int .i64 d.dst, .int .i64 d.ident, .int .i64 d.place, .bool d.more, .string d.body] := heap_alloc_new w _
  have hb1 := below_more (Below.refl w.heap.size w) (.cells #[.int .i64 d.src, .int .i64 d.dst, .int .i64 d.ident, .int .i64 d.place, .bool d.more, .string d.body] 26)
  have hz1 : (w.alloc (.cells #[.int .i64 d.src, .int .i64 d.dst, .int .i64 d.ident, .int .i64 d.place, .bool d.more, .string d.body] 26)).heap.size = w.heap.size + 1 := by simp [World.alloc, -World.alloc_eq]
  obtain ⟨Wa, hWa⟩ : ∃ W, w.alloc (.cells #[.int .i64 d.src, .int .i64 d.dst, .int .i64 d.ident, .int .i64 d.place, .bool d.more, .string d.body] 26) = W := ⟨_, rfl⟩
  rw [hWa] at hx hb1 hz1
  have hb2 := below_more (Below.refl Wa.heap.size Wa) (.cells #[.int .i64 0, .int .i64 0, .int .i64 0, .int .i64 0, .bool false, .string ⟨#[]⟩] 26)
  have hz : BlockIs (Wa.alloc (.cells #[.int .i64 0, .int .i64 0, .int .i64 0, .int .i64 0, .bool false, .string ⟨#[]⟩] 26)) Wa.heap.size 26 [.int .i64 0, .int .i64 0, .int .i64 0, .int .i64 0, .bool false, .string ⟨#[]⟩] := heap_alloc_new Wa _
  have hz2 : (Wa.alloc (.cells #[.int .i64 0, .int .i64 0, .int .i64 0, .int .i64 0, .bool false, .string ⟨#[]⟩] 26)).heap.size = w.heap.size + 2 := (show (Wa.alloc (.cells #[.int .i64 0, .int .i64 0, .int .i64 0, .int .i64 0, .bool false, .string ⟨#[]⟩] 26)).heap.size = Wa.heap.size + 1 by simp [World.alloc, -World.alloc_eq]).trans (by omega)
  obtain ⟨W0, hW0⟩ : ∃ W, Wa.alloc (.cells #[.int .i64 0, .int .i64 0, .int .i64 0, .int .i64 0, .bool false, .string ⟨#[]⟩] 26) = W := ⟨_, rfl⟩
  rw [hW0] at hb2 hz hz2
  rw [hz1] at hz
  have J0 : Hid (JoinW w d W0) := ⟨hx.on hb2 hx.lt, hz, below_via hb1 hb2⟩
  have HA := hid (ha.on (below_via hb1 hb2))
  have HG := hid hg
  have HZ2 := hid hz2
  have HWA := hid hz1
  clear hx hb1 hb2 hz hz2 ha hg
  go_enter Try.func8, Try.ntmps8
  go_wp2_with fail
  refine (l11CopyRow_any ao l cap (by omega) (fun e he => (HG.out e he).1.small) W0 HA.out).mono ?_
  rintro e w1 ⟨va, vc, rs, rfl, hrow, hnest, b1⟩
  rw [HZ2.out] at hrow hnest
  have O1 : Hid (OutS w d w1 va vc l rs) := ⟨hrow, hnest, J0.out.on b1 (by rw [HZ2.out]; exact Nat.le_refl _)⟩
  clear hrow hnest b1 J0 HA hW0 hWa hz1 HZ2 HWA
  have x0 := O1.out.j.x.cell (j := 0) rfl
  have x1 := O1.out.j.x.cell (j := 1) rfl
  have x2 := O1.out.j.x.cell (j := 2) rfl
  have x3 := O1.out.j.x.cell (j := 3) rfl
  have x4 := O1.out.j.x.cell (j := 4) rfl
  have x5 := O1.out.j.x.cell (j := 5) rfl
  have CD := hid (fun W => specDgramOk_any d (by omega) W)
  have CI := fun W => l01In_any now 0 999999990 W
  cases hE : dgramOk d with
  | false =>
    rw [hE] at CD
    have HR : Hid (joinB l d now = (l, zeroG, false)) := joinB_bad (by simp [joinOk, hE])
    clear hE CI
    go_wp2_with fail
    refine Calls.mono (CD.out _) ?_
    rintro e w2 ⟨rfl, b2⟩
    have O2 := hid (O1.out.on b2)
    clear b2 O1 CD x0 x1 x2 x3 x4 x5
    have HZ := hid O2.out.j.z
    have z0 := O2.out.j.z.cell (j := 0) rfl
    have z1 := O2.out.j.z.cell (j := 1) rfl
    have z2 := O2.out.j.z.cell (j := 2) rfl
    have z3 := O2.out.j.z.cell (j := 3) rfl
    have z4 := O2.out.j.z.cell (j := 4) rfl
    have z5 := O2.out.j.z.cell (j := 5) rfl
    have zf0 := O2.out.j.z.thaw 0
    have zf1 := O2.out.j.z.thaw 1
    have zf2 := O2.out.j.z.thaw 2
    have zf3 := O2.out.j.z.thaw 3
    have zf4 := O2.out.j.z.thaw 4
    have zf5 := O2.out.j.z.thaw 5
    have TYL := hid (((((((bitsTy_row O2.out.row O2.out.nest).six (j := 0) (O2.out.j.z) (.int .i64 0)).six (j := 1) ((O2.out.j.z).set 0 (.int .i64 0)) (.int .i64 0)).six (j := 2) (((O2.out.j.z).set 0 (.int .i64 0)).set 1 (.int .i64 0)) (.int .i64 0)).six (j := 3) ((((O2.out.j.z).set 0 (.int .i64 0)).set 1 (.int .i64 0)).set 2 (.int .i64 0)) (.int .i64 0)).six (j := 4) (((((O2.out.j.z).set 0 (.int .i64 0)).set 1 (.int .i64 0)).set 2 (.int .i64 0)).set 3 (.int .i64 0)) (.bool false)).six (j := 5) ((((((O2.out.j.z).set 0 (.int .i64 0)).set 1 (.int .i64 0)).set 2 (.int .i64 0)).set 3 (.int .i64 0)).set 4 (.bool false)) (.string ⟨#[]⟩))
    have BLL := hid (((((((O2.out.j.b).setCell (p := ⟨w.heap.size + 1, 0, none⟩) (show w.heap.size ≤ w.heap.size + 1 by omega) (.int .i64 0)).setCell (p := ⟨w.heap.size + 1, 1, none⟩) (show w.heap.size ≤ w.heap.size + 1 by omega) (.int .i64 0)).setCell (p := ⟨w.heap.size + 1, 2, none⟩) (show w.heap.size ≤ w.heap.size + 1 by omega) (.int .i64 0)).setCell (p := ⟨w.heap.size + 1, 3, none⟩) (show w.heap.size ≤ w.heap.size + 1 by omega) (.int .i64 0)).setCell (p := ⟨w.heap.size + 1, 4, none⟩) (show w.heap.size ≤ w.heap.size + 1 by omega) (.bool false)).setCell (p := ⟨w.heap.size + 1, 5, none⟩) (show w.heap.size ≤ w.heap.size + 1 by omega) (.string ⟨#[]⟩))
    have HVC := hid (row_cap O2.out.row).1
    go_wp2
    refine bodyPost_ret (v := .tuple #[.slice va l.length vc, .agg #[.int .i64 0, .int .i64 0, .int .i64 0, .int .i64 0, .bool false, .string ⟨#[]⟩], .bool false]) (by simp [results, Try.results8, go_sem, z0, z1, z2, z3, z4, z5]) rfl ?_
    rw [HR.out]
    exact ⟨va, vc, rs, rfl, HVC.out, TYL.out.low (by omega), BLL.out⟩
  | true =>
    rw [hE] at CD
    have HD := hid hE
    clear hE
    go_wp2_with fail
    refine Calls.mono (CD.out _) ?_
    rintro e w2 ⟨rfl, b2⟩
    have O2 := hid (O1.out.on b2)
    clear b2 O1 CD x0 x1 x2 x3 x4 x5
    cases hN : within now 0 999999990 with
    | false =>
      rw [hN] at CI
      have HR : Hid (joinB l d now = (l, zeroG, false)) := joinB_late hN
      have CI2 := hid CI
      clear hN CI
      go_wp2_with fail
      refine Calls.mono (CI2.out _) ?_
      rintro e w9 ⟨rfl, hw9⟩
      rw [hw9]
      clear hw9 w9 CI2
      have HZ := hid O2.out.j.z
      have z0 := O2.out.j.z.cell (j := 0) rfl
      have z1 := O2.out.j.z.cell (j := 1) rfl
      have z2 := O2.out.j.z.cell (j := 2) rfl
      have z3 := O2.out.j.z.cell (j := 3) rfl
      have z4 := O2.out.j.z.cell (j := 4) rfl
      have z5 := O2.out.j.z.cell (j := 5) rfl
      have zf0 := O2.out.j.z.thaw 0
      have zf1 := O2.out.j.z.thaw 1
      have zf2 := O2.out.j.z.thaw 2
      have zf3 := O2.out.j.z.thaw 3
      have zf4 := O2.out.j.z.thaw 4
      have zf5 := O2.out.j.z.thaw 5
      have TYL := hid (((((((bitsTy_row O2.out.row O2.out.nest).six (j := 0) (O2.out.j.z) (.int .i64 0)).six (j := 1) ((O2.out.j.z).set 0 (.int .i64 0)) (.int .i64 0)).six (j := 2) (((O2.out.j.z).set 0 (.int .i64 0)).set 1 (.int .i64 0)) (.int .i64 0)).six (j := 3) ((((O2.out.j.z).set 0 (.int .i64 0)).set 1 (.int .i64 0)).set 2 (.int .i64 0)) (.int .i64 0)).six (j := 4) (((((O2.out.j.z).set 0 (.int .i64 0)).set 1 (.int .i64 0)).set 2 (.int .i64 0)).set 3 (.int .i64 0)) (.bool false)).six (j := 5) ((((((O2.out.j.z).set 0 (.int .i64 0)).set 1 (.int .i64 0)).set 2 (.int .i64 0)).set 3 (.int .i64 0)).set 4 (.bool false)) (.string ⟨#[]⟩))
      have BLL := hid (((((((O2.out.j.b).setCell (p := ⟨w.heap.size + 1, 0, none⟩) (show w.heap.size ≤ w.heap.size + 1 by omega) (.int .i64 0)).setCell (p := ⟨w.heap.size + 1, 1, none⟩) (show w.heap.size ≤ w.heap.size + 1 by omega) (.int .i64 0)).setCell (p := ⟨w.heap.size + 1, 2, none⟩) (show w.heap.size ≤ w.heap.size + 1 by omega) (.int .i64 0)).setCell (p := ⟨w.heap.size + 1, 3, none⟩) (show w.heap.size ≤ w.heap.size + 1 by omega) (.int .i64 0)).setCell (p := ⟨w.heap.size + 1, 4, none⟩) (show w.heap.size ≤ w.heap.size + 1 by omega) (.bool false)).setCell (p := ⟨w.heap.size + 1, 5, none⟩) (show w.heap.size ≤ w.heap.size + 1 by omega) (.string ⟨#[]⟩))
      have HVC := hid (row_cap O2.out.row).1
      go_wp2
      refine bodyPost_ret (v := .tuple #[.slice va l.length vc, .agg #[.int .i64 0, .int .i64 0, .int .i64 0, .int .i64 0, .bool false, .string ⟨#[]⟩], .bool false]) (by simp [results, Try.results8, go_sem, z0, z1, z2, z3, z4, z5]) rfl ?_
      rw [HR.out]
      exact ⟨va, vc, rs, rfl, HVC.out, TYL.out.low (by omega), BLL.out⟩
    | true =>
      rw [hN] at CI
      obtain ⟨hn0, hn1⟩ := within_iff.1 hN
      have HJ : Hid (joinOk d now = true) := (show _ = _ by simp [joinOk, HD.out, hn0, hn1])
      have CI2 := hid CI
      clear hN CI
      go_wp2_with fail
      refine Calls.mono (CI2.out _) ?_
      rintro e w9 ⟨rfl, hw9⟩
      rw [hw9]
      clear hw9 w9 CI2
      have x0 := O2.out.j.x.cell (j := 0) rfl
      have x1 := O2.out.j.x.cell (j := 1) rfl
      have x2 := O2.out.j.x.cell (j := 2) rfl
      have x3 := O2.out.j.x.cell (j := 3) rfl
      have x4 := O2.out.j.x.cell (j := 4) rfl
      have x5 := O2.out.j.x.cell (j := 5) rfl
      obtain ⟨_, _, _, ⟨hp0, hp1⟩, _, ⟨_, hbz⟩, _⟩ := dgramOk_bd HD.out
      have hbz2 : (d.body.size : Int) ≤ 160 := by omega
      by_cases hone : d.place = 0 ∧ d.more = false
      · obtain ⟨hq1, hq2⟩ := hone
        have HR := hid (joinB_once (l := l) HJ.out ⟨hq1, hq2⟩)
        rw [hq1] at x3
        rw [hq2] at x4
        have HQ := hid (And.intro hq1 hq2)
        have HZ := hid O2.out.j.z
        have z0 := O2.out.j.z.cell (j := 0) rfl
        have z1 := O2.out.j.z.cell (j := 1) rfl
        have z2 := O2.out.j.z.cell (j := 2) rfl
        have z3 := O2.out.j.z.cell (j := 3) rfl
        have z4 := O2.out.j.z.cell (j := 4) rfl
        have z5 := O2.out.j.z.cell (j := 5) rfl
        have zf0 := O2.out.j.z.thaw 0
        have zf1 := O2.out.j.z.thaw 1
        have zf2 := O2.out.j.z.thaw 2
        have zf3 := O2.out.j.z.thaw 3
        have zf4 := O2.out.j.z.thaw 4
        have zf5 := O2.out.j.z.thaw 5
        have TYL := hid (((((((bitsTy_row O2.out.row O2.out.nest).six (j := 0) (O2.out.j.z) (.int .i64 d.src)).six (j := 1) ((O2.out.j.z).set 0 (.int .i64 d.src)) (.int .i64 d.dst)).six (j := 2) (((O2.out.j.z).set 0 (.int .i64 d.src)).set 1 (.int .i64 d.dst)) (.int .i64 d.ident)).six (j := 3) ((((O2.out.j.z).set 0 (.int .i64 d.src)).set 1 (.int .i64 d.dst)).set 2 (.int .i64 d.ident)) (.int .i64 0)).six (j := 4) (((((O2.out.j.z).set 0 (.int .i64 d.src)).set 1 (.int .i64 d.dst)).set 2 (.int .i64 d.ident)).set 3 (.int .i64 0)) (.bool false)).six (j := 5) ((((((O2.out.j.z).set 0 (.int .i64 d.src)).set 1 (.int .i64 d.dst)).set 2 (.int .i64 d.ident)).set 3 (.int .i64 0)).set 4 (.bool false)) (.string d.body))
        have BLL := hid (((((((O2.out.j.b).setCell (p := ⟨w.heap.size + 1, 0, none⟩) (show w.heap.size ≤ w.heap.size + 1 by omega) (.int .i64 d.src)).setCell (p := ⟨w.heap.size + 1, 1, none⟩) (show w.heap.size ≤ w.heap.size + 1 by omega) (.int .i64 d.dst)).setCell (p := ⟨w.heap.size + 1, 2, none⟩) (show w.heap.size ≤ w.heap.size + 1 by omega) (.int .i64 d.ident)).setCell (p := ⟨w.heap.size + 1, 3, none⟩) (show w.heap.size ≤ w.heap.size + 1 by omega) (.int .i64 0)).setCell (p := ⟨w.heap.size + 1, 4, none⟩) (show w.heap.size ≤ w.heap.size + 1 by omega) (.bool false)).setCell (p := ⟨w.heap.size + 1, 5, none⟩) (show w.heap.size ≤ w.heap.size + 1 by omega) (.string d.body))
        have HVC := hid (row_cap O2.out.row).1
        have TYD := hid (TYL.out.on (below_drewN (Below.refl _ _) 1))
        have BLD := hid (below_via BLL.out (below_drewN (Below.refl _ _) 1))
        clear hq1 hq2 TYL BLL
        go_wp2
        go_region
        go_wp2
        refine bodyPost_ret (v := .tuple #[.slice va l.length vc, .agg #[.int .i64 d.src, .int .i64 d.dst, .int .i64 d.ident, .int .i64 0, .bool false, .string d.body], .bool true]) (by simp [results, Try.results8, go_sem, z0, z1, z2, z3, z4, z5]) rfl ?_
        rw [HR.out]
        refine ⟨va, vc, rs, ?_, HVC.out, TYD.out.low (by omega), BLD.out⟩
        dsimp only
        rw [HQ.out.1, HQ.out.2]
      exact absurd (heasy.resolve_left (by rw [HJ.out]; simp)) hone
end Go.Proofs.Ythdklbmachplmaa
