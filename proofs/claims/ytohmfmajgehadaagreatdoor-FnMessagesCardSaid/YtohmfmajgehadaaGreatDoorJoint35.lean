/-
  The walks of impl.idOk, messageHeadOk, carriesNothing.
-/
import Derived.Test.YtohmfmajgehadaaGreatDoorJoint34
import Derived.Test.YtohmfmajgehadaaGreatDoorJoint1
import Derived.Deep.QuietTactic
import Derived.BigQuiet
import Derived.Lib.QuietBelow
import Derived.Test.YtohmfmajgehadaaGreatDoorRows
namespace Go.Proofs.YtohmfmajgehadaaGreatDoor
open Go.RowKit

set_option maxRecDepth 1000000 in
theorem idOk_any (x : Int) (w : World) : Calls Tryz.prog 133 #[.int .i64 x] w fun e w' => e = .returned (.bool (within x 1 4)) ∧ w' = w := by
  unfold within
  by_cases h1 : 1 ≤ x
  · by_cases h2 : x ≤ 4
    · go_enter Tryz.func133, Tryz.ntmps133
      go_wp2
      go_ret
      exact ⟨by simp [h1, h2], rfl⟩
    · go_enter Tryz.func133, Tryz.ntmps133
      go_wp2
      go_ret
      exact ⟨by simp; omega, rfl⟩
  · go_enter Tryz.func133, Tryz.ntmps133
    go_wp2
    go_ret
    exact ⟨by simp; omega, rfl⟩

set_option maxRecDepth 1000000 in
set_option maxHeartbeats 2000000 in
theorem messageHeadOk_any (d : MsgD) (ao : Option Addr) (ac : Nat) (bo : Option Addr) (bc : Nat) (w : World) :
    Calls Tryz.prog 95 #[.agg #[.int .i64 d.kind, .int .i64 d.src, .int .i64 d.dst, .int .i64 d.term, .int .i64 d.index, .int .i64 d.logTerm, .int .i64 d.commit, .bool d.ok, .slice ao d.ents.length ac, .slice bo d.conf.length bc, .string d.data, .bool d.last]] w fun e w' => e = .returned (.bool (headOk d)) ∧ Below w.heap.size w w' := by
  obtain ⟨kd, sr, ds, tm, ix, lt, cm, up, es, zs, dt, la⟩ := d
  dsimp only
  have HB := hid (below_more (Below.refl w.heap.size w) (.cells #[.int .i64 kd, .int .i64 sr, .int .i64 ds, .int .i64 tm, .int .i64 ix, .int .i64 lt, .int .i64 cm, .bool up, .slice ao es.length ac, .slice bo zs.length bc, .string dt, .bool la] 39))
  have hx : BlockIs (w.alloc (.cells #[.int .i64 kd, .int .i64 sr, .int .i64 ds, .int .i64 tm, .int .i64 ix, .int .i64 lt, .int .i64 cm, .bool up, .slice ao es.length ac, .slice bo zs.length bc, .string dt, .bool la] 39)) w.heap.size 39 [.int .i64 kd, .int .i64 sr, .int .i64 ds, .int .i64 tm, .int .i64 ix, .int .i64 lt, .int .i64 cm, .bool up, .slice ao es.length ac, .slice bo zs.length bc, .string dt, .bool la] := heap_alloc_new w _
  obtain ⟨W, hW⟩ : ∃ W, w.alloc (.cells #[.int .i64 kd, .int .i64 sr, .int .i64 ds, .int .i64 tm, .int .i64 ix, .int .i64 lt, .int .i64 cm, .bool up, .slice ao es.length ac, .slice bo zs.length bc, .string dt, .bool la] 39) = W := ⟨_, rfl⟩
  rw [hW] at HB hx
  have c0 := hx.cell (j := 0) rfl
  have c1 := hx.cell (j := 1) rfl
  have c2 := hx.cell (j := 2) rfl
  have c3 := hx.cell (j := 3) rfl
  have c4 := hx.cell (j := 4) rfl
  have c5 := hx.cell (j := 5) rfl
  have c6 := hx.cell (j := 6) rfl
  have c7 := hx.cell (j := 7) rfl
  have c8 := hx.cell (j := 8) rfl
  have c9 := hx.cell (j := 9) rfl
  have c10 := hx.cell (j := 10) rfl
  have c11 := hx.cell (j := 11) rfl
  clear hx
  have m0 := fun w => idOk_any sr w
  cases h0 : within sr 1 4 with
  | false =>
    rw [h0] at m0
    have n0 := hid m0
    clear m0
    have HR : Hid (headOk ⟨kd, sr, ds, tm, ix, lt, cm, up, es, zs, dt, la⟩ = false) := by show _ = _; simp [headOk, h0]
    clear h0
    go_enter Tryz.func95, Tryz.ntmps95
    go_wp2_with (first | (go_at_call 133; with_reducible refine Calls.mono (n0.out _) ?_; rintro e w1 ⟨rfl, hw⟩; rw [hw]; clear hw w1) | fail)
    go_ret
    exact ⟨by rw [HR.out]; rfl, HB.out⟩
  | true =>
    rw [h0] at m0
    have n0 := hid m0
    clear m0
    have m1 := fun w => idOk_any ds w
    cases h1 : within ds 1 4 with
    | false =>
      rw [h1] at m1
      have n1 := hid m1
      clear m1
      have HR : Hid (headOk ⟨kd, sr, ds, tm, ix, lt, cm, up, es, zs, dt, la⟩ = false) := by show _ = _; simp [headOk, h0, h1]
      clear h0 h1
      go_enter Tryz.func95, Tryz.ntmps95
      go_wp2_with (first | (go_at_call 133; with_reducible refine Calls.mono (n0.out _) ?_; rintro e w1 ⟨rfl, hw⟩; rw [hw]; clear hw w1) | (go_at_call 133; with_reducible refine Calls.mono (n1.out _) ?_; rintro e w1 ⟨rfl, hw⟩; rw [hw]; clear hw w1) | fail)
      go_ret
      exact ⟨by rw [HR.out]; rfl, HB.out⟩
    | true =>
      rw [h1] at m1
      have n1 := hid m1
      clear m1
      by_cases qne : ¬ sr = ds
      · skip
        have m3 := fun w => placeOk_any ix lt w
        cases h3 : (within ix 0 1000000 && within lt 0 100000) with
        | false =>
          rw [h3] at m3
          have n3 := hid m3
          clear m3
          have HR : Hid (headOk ⟨kd, sr, ds, tm, ix, lt, cm, up, es, zs, dt, la⟩ = false) := by show _ = _; simp [headOk, h0, h1, qne, h3]
          clear h0 h1 h3
          go_enter Tryz.func95, Tryz.ntmps95
          go_wp2_with (first | (go_at_call 133; with_reducible refine Calls.mono (n0.out _) ?_; rintro e w1 ⟨rfl, hw⟩; rw [hw]; clear hw w1) | (go_at_call 133; with_reducible refine Calls.mono (n1.out _) ?_; rintro e w1 ⟨rfl, hw⟩; rw [hw]; clear hw w1) | (go_at_call 134; with_reducible refine Calls.mono (n3.out _) ?_; rintro e w1 ⟨rfl, hw⟩; rw [hw]; clear hw w1) | fail)
          go_ret
          exact ⟨by rw [HR.out]; rfl, HB.out⟩
        | true =>
          rw [h3] at m3
          have n3 := hid m3
          clear m3
          have m4 := fun w => placeOk_any cm tm w
          cases h4 : (within cm 0 1000000 && within tm 0 100000) with
          | false =>
            rw [h4] at m4
            have n4 := hid m4
            clear m4
            have HR : Hid (headOk ⟨kd, sr, ds, tm, ix, lt, cm, up, es, zs, dt, la⟩ = false) := by show _ = _; simp [headOk, h0, h1, qne, h3, h4]
            clear h0 h1 h3 h4
            go_enter Tryz.func95, Tryz.ntmps95
            go_wp2_with (first | (go_at_call 133; with_reducible refine Calls.mono (n0.out _) ?_; rintro e w1 ⟨rfl, hw⟩; rw [hw]; clear hw w1) | (go_at_call 133; with_reducible refine Calls.mono (n1.out _) ?_; rintro e w1 ⟨rfl, hw⟩; rw [hw]; clear hw w1) | (go_at_call 134; with_reducible refine Calls.mono (n3.out _) ?_; rintro e w1 ⟨rfl, hw⟩; rw [hw]; clear hw w1) | (go_at_call 134; with_reducible refine Calls.mono (n4.out _) ?_; rintro e w1 ⟨rfl, hw⟩; rw [hw]; clear hw w1) | fail)
            go_ret
            exact ⟨by rw [HR.out]; rfl, HB.out⟩
          | true =>
            rw [h4] at m4
            have n4 := hid m4
            clear m4
            have HR : Hid (headOk ⟨kd, sr, ds, tm, ix, lt, cm, up, es, zs, dt, la⟩ = true) := by show _ = _; simp [headOk, h0, h1, qne, h3, h4]
            clear h0 h1 h3 h4
            go_enter Tryz.func95, Tryz.ntmps95
            go_wp2_with (first | (go_at_call 133; with_reducible refine Calls.mono (n0.out _) ?_; rintro e w1 ⟨rfl, hw⟩; rw [hw]; clear hw w1) | (go_at_call 133; with_reducible refine Calls.mono (n1.out _) ?_; rintro e w1 ⟨rfl, hw⟩; rw [hw]; clear hw w1) | (go_at_call 134; with_reducible refine Calls.mono (n3.out _) ?_; rintro e w1 ⟨rfl, hw⟩; rw [hw]; clear hw w1) | (go_at_call 134; with_reducible refine Calls.mono (n4.out _) ?_; rintro e w1 ⟨rfl, hw⟩; rw [hw]; clear hw w1) | fail)
            go_ret
            exact ⟨by rw [HR.out]; first | rfl | (show Ending.returned (.bool (sr != ds)) = _; rw [bne_iff_ne.2 qne]), HB.out⟩
      · skip
        have HR : Hid (headOk ⟨kd, sr, ds, tm, ix, lt, cm, up, es, zs, dt, la⟩ = false) := by show _ = _; simp [headOk, h0, h1, qne]
        clear h0 h1
        go_enter Tryz.func95, Tryz.ntmps95
        go_wp2_with (first | (go_at_call 133; with_reducible refine Calls.mono (n0.out _) ?_; rintro e w1 ⟨rfl, hw⟩; rw [hw]; clear hw w1) | (go_at_call 133; with_reducible refine Calls.mono (n1.out _) ?_; rintro e w1 ⟨rfl, hw⟩; rw [hw]; clear hw w1) | fail)
        go_ret
        exact ⟨by rw [HR.out]; rfl, HB.out⟩
set_option maxRecDepth 1000000 in
set_option maxHeartbeats 2000000 in
theorem carriesNothing_any (d : MsgD) (ao : Option Addr) (ac : Nat) (bo : Option Addr) (bc : Nat) (w : World) :
    Calls Tryz.prog 96 #[.agg #[.int .i64 d.kind, .int .i64 d.src, .int .i64 d.dst, .int .i64 d.term, .int .i64 d.index, .int .i64 d.logTerm, .int .i64 d.commit, .bool d.ok, .slice ao d.ents.length ac, .slice bo d.conf.length bc, .string d.data, .bool d.last]] w fun e w' => e = .returned (.bool (bareOk d)) ∧ Below w.heap.size w w' := by
  obtain ⟨kd, sr, ds, tm, ix, lt, cm, up, es, zs, dt, la⟩ := d
  dsimp only
  have HN0 : Hid (es.length = es.length) := rfl
  have HM0 : Hid (zs.length = zs.length) := rfl
  revert HN0 HM0
  generalize hn : es.length = n
  generalize hm : zs.length = m
  intro _ _
  have HN := hid hn
  have HM := hid hm
  clear hn hm
  have hv := empty_txt17 dt
  by_cases e0 : (n : Int) = 0
  rotate_left
  · have k0 : ¬ n = 0 := by omega
    have HB := hid (below_more (Below.refl w.heap.size w) (.cells #[.int .i64 kd, .int .i64 sr, .int .i64 ds, .int .i64 tm, .int .i64 ix, .int .i64 lt, .int .i64 cm, .bool up, .slice ao n ac, .slice bo m bc, .string dt, .bool la] 39))
    have hx : BlockIs (w.alloc (.cells #[.int .i64 kd, .int .i64 sr, .int .i64 ds, .int .i64 tm, .int .i64 ix, .int .i64 lt, .int .i64 cm, .bool up, .slice ao n ac, .slice bo m bc, .string dt, .bool la] 39)) w.heap.size 39 [.int .i64 kd, .int .i64 sr, .int .i64 ds, .int .i64 tm, .int .i64 ix, .int .i64 lt, .int .i64 cm, .bool up, .slice ao n ac, .slice bo m bc, .string dt, .bool la] := heap_alloc_new w _
    obtain ⟨W, hW⟩ : ∃ W, w.alloc (.cells #[.int .i64 kd, .int .i64 sr, .int .i64 ds, .int .i64 tm, .int .i64 ix, .int .i64 lt, .int .i64 cm, .bool up, .slice ao n ac, .slice bo m bc, .string dt, .bool la] 39) = W := ⟨_, rfl⟩
    rw [hW] at HB hx
    have c8 := hx.cell (j := 8) rfl
    have c9 := hx.cell (j := 9) rfl
    have c10 := hx.cell (j := 10) rfl
    have c11 := hx.cell (j := 11) rfl
    clear hx
    have HR : Hid (bareOk ⟨kd, sr, ds, tm, ix, lt, cm, up, es, zs, dt, la⟩ = false) := by show _ = _; simp [bareOk, HN.out, HM.out, k0]
    go_enter Tryz.func96, Tryz.ntmps96
    go_wp2
    go_ret
    exact ⟨by rw [HR.out]; rfl, HB.out⟩
  obtain rfl : n = 0 := by omega
  by_cases z0 : (m : Int) = 0
  rotate_left
  · have q0 : ¬ m = 0 := by omega
    have HB := hid (below_more (Below.refl w.heap.size w) (.cells #[.int .i64 kd, .int .i64 sr, .int .i64 ds, .int .i64 tm, .int .i64 ix, .int .i64 lt, .int .i64 cm, .bool up, .slice ao 0 ac, .slice bo m bc, .string dt, .bool la] 39))
    have hx : BlockIs (w.alloc (.cells #[.int .i64 kd, .int .i64 sr, .int .i64 ds, .int .i64 tm, .int .i64 ix, .int .i64 lt, .int .i64 cm, .bool up, .slice ao 0 ac, .slice bo m bc, .string dt, .bool la] 39)) w.heap.size 39 [.int .i64 kd, .int .i64 sr, .int .i64 ds, .int .i64 tm, .int .i64 ix, .int .i64 lt, .int .i64 cm, .bool up, .slice ao 0 ac, .slice bo m bc, .string dt, .bool la] := heap_alloc_new w _
    obtain ⟨W, hW⟩ : ∃ W, w.alloc (.cells #[.int .i64 kd, .int .i64 sr, .int .i64 ds, .int .i64 tm, .int .i64 ix, .int .i64 lt, .int .i64 cm, .bool up, .slice ao 0 ac, .slice bo m bc, .string dt, .bool la] 39) = W := ⟨_, rfl⟩
    rw [hW] at HB hx
    have c8 := hx.cell (j := 8) rfl
    have c9 := hx.cell (j := 9) rfl
    have c10 := hx.cell (j := 10) rfl
    have c11 := hx.cell (j := 11) rfl
    clear hx
    have HR : Hid (bareOk ⟨kd, sr, ds, tm, ix, lt, cm, up, es, zs, dt, la⟩ = false) := by show _ = _; simp [bareOk, HN.out, HM.out, q0]
    go_enter Tryz.func96, Tryz.ntmps96
    go_wp2
    go_ret
    exact ⟨by rw [HR.out]; rfl, HB.out⟩
  obtain rfl : m = 0 := by omega
  by_cases v0 : dt.size = 0
  rotate_left
  · rw [decide_eq_false v0] at hv
    have HB := hid (below_more (Below.refl w.heap.size w) (.cells #[.int .i64 kd, .int .i64 sr, .int .i64 ds, .int .i64 tm, .int .i64 ix, .int .i64 lt, .int .i64 cm, .bool up, .slice ao 0 ac, .slice bo 0 bc, .string dt, .bool la] 39))
    have hx : BlockIs (w.alloc (.cells #[.int .i64 kd, .int .i64 sr, .int .i64 ds, .int .i64 tm, .int .i64 ix, .int .i64 lt, .int .i64 cm, .bool up, .slice ao 0 ac, .slice bo 0 bc, .string dt, .bool la] 39)) w.heap.size 39 [.int .i64 kd, .int .i64 sr, .int .i64 ds, .int .i64 tm, .int .i64 ix, .int .i64 lt, .int .i64 cm, .bool up, .slice ao 0 ac, .slice bo 0 bc, .string dt, .bool la] := heap_alloc_new w _
    obtain ⟨W, hW⟩ : ∃ W, w.alloc (.cells #[.int .i64 kd, .int .i64 sr, .int .i64 ds, .int .i64 tm, .int .i64 ix, .int .i64 lt, .int .i64 cm, .bool up, .slice ao 0 ac, .slice bo 0 bc, .string dt, .bool la] 39) = W := ⟨_, rfl⟩
    rw [hW] at HB hx
    have c8 := hx.cell (j := 8) rfl
    have c9 := hx.cell (j := 9) rfl
    have c10 := hx.cell (j := 10) rfl
    have c11 := hx.cell (j := 11) rfl
    clear hx
    have HR : Hid (bareOk ⟨kd, sr, ds, tm, ix, lt, cm, up, es, zs, dt, la⟩ = false) := by show _ = _; simp [bareOk, HN.out, HM.out, v0]
    go_enter Tryz.func96, Tryz.ntmps96
    go_wp2
    go_ret
    exact ⟨by rw [HR.out]; rfl, HB.out⟩
  rw [decide_eq_true v0] at hv
  have HV0 := hid v0
  clear v0
  have HB := hid (below_more (Below.refl w.heap.size w) (.cells #[.int .i64 kd, .int .i64 sr, .int .i64 ds, .int .i64 tm, .int .i64 ix, .int .i64 lt, .int .i64 cm, .bool up, .slice ao 0 ac, .slice bo 0 bc, .string dt, .bool la] 39))
  have hx : BlockIs (w.alloc (.cells #[.int .i64 kd, .int .i64 sr, .int .i64 ds, .int .i64 tm, .int .i64 ix, .int .i64 lt, .int .i64 cm, .bool up, .slice ao 0 ac, .slice bo 0 bc, .string dt, .bool la] 39)) w.heap.size 39 [.int .i64 kd, .int .i64 sr, .int .i64 ds, .int .i64 tm, .int .i64 ix, .int .i64 lt, .int .i64 cm, .bool up, .slice ao 0 ac, .slice bo 0 bc, .string dt, .bool la] := heap_alloc_new w _
  obtain ⟨W, hW⟩ : ∃ W, w.alloc (.cells #[.int .i64 kd, .int .i64 sr, .int .i64 ds, .int .i64 tm, .int .i64 ix, .int .i64 lt, .int .i64 cm, .bool up, .slice ao 0 ac, .slice bo 0 bc, .string dt, .bool la] 39) = W := ⟨_, rfl⟩
  rw [hW] at HB hx
  have c8 := hx.cell (j := 8) rfl
  have c9 := hx.cell (j := 9) rfl
  have c10 := hx.cell (j := 10) rfl
  have c11 := hx.cell (j := 11) rfl
  clear hx
  have HR : Hid (bareOk ⟨kd, sr, ds, tm, ix, lt, cm, up, es, zs, dt, la⟩ = !la) := by show _ = _; simp [bareOk, HN.out, HM.out, HV0.out]
  go_enter Tryz.func96, Tryz.ntmps96
  go_wp2
  go_ret
  exact ⟨by rw [HR.out]; rfl, HB.out⟩
end Go.Proofs.YtohmfmajgehadaaGreatDoor
