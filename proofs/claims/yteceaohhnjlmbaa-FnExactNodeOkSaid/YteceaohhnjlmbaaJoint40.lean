/-
  The walk of impl.EntryOk: what it answers.
-/
import Derived.Test.YteceaohhnjlmbaaJoint39
namespace Go.Proofs.Yteceaohhnjlmbaa
open Go.RowKit

set_option maxRecDepth 1000000 in
set_option maxHeartbeats 1000000 in
theorem implEntryOk_all (d : EntD) (w : World) :
    Calls Try.prog 75 #[.agg #[.int .i64 d.term, .int .i64 d.kind, .string d.data]] w fun e w' => e = .returned (.bool (entryOk d)) ∧ Below w.heap.size w w' := by
  obtain ⟨tm, kd, dt⟩ := d
  dsimp only
  have HB := hid (below_more (Below.refl w.heap.size w) (.cells #[.int .i64 tm, .int .i64 kd, .string dt] 74))
  have hx : BlockIs (w.alloc (.cells #[.int .i64 tm, .int .i64 kd, .string dt] 74)) w.heap.size 74 [.int .i64 tm, .int .i64 kd, .string dt] := heap_alloc_new w _
  obtain ⟨W, hW⟩ : ∃ W, w.alloc (.cells #[.int .i64 tm, .int .i64 kd, .string dt] 74) = W := ⟨_, rfl⟩
  rw [hW] at HB hx
  have HX := hid hx
  have c0 := hx.cell (j := 0) rfl
  have c1 := hx.cell (j := 1) rfl
  have c2 := hx.cell (j := 2) rfl
  have cB' := bodyOf_any ⟨tm, kd, dt⟩ W
  have HR := hid (entryOk_kind ⟨tm, kd, dt⟩)
  clear hx
  obtain ⟨ok, hok⟩ : ∃ ok, kindOk ⟨tm, kd, dt⟩ = ok := ⟨_, rfl⟩
  rw [hok] at cB' HR
  have cB := hid cB'
  clear hok cB'
  go_enter Try.func75, Try.ntmps75
  go_wp2_with fail
  refine Calls.mono cB.out ?_
  rintro e w1 ⟨v, rfl, _, b1⟩
  have HB1 := hid (below_via HB.out b1)
  have d0 := (HX.out.on b1 HX.out.lt).cell (j := 0) rfl
  clear b1 c0 c1 c2 cB
  cases ok with
  | false =>
    go_wp2
    go_ret
    exact ⟨by rw [HR.out]; simp, HB1.out⟩
  | true =>
    by_cases h0 : 0 ≤ tm
    · go_wp2
      go_ret
      refine ⟨?_, HB1.out⟩
      rw [HR.out]
      simp [within, h0]
    · go_wp2
      go_ret
      refine ⟨?_, HB1.out⟩
      rw [HR.out]
      simp [within]
      omega

theorem implEntryOk_any (d : EntD) (_hd : d.data.size ≤ 1048576) (w : World) :
    Calls Try.prog 75 #[.agg #[.int .i64 d.term, .int .i64 d.kind, .string d.data]] w fun e w' => e = .returned (.bool (entryOk d)) ∧ Below w.heap.size w w' := implEntryOk_all d w
end Go.Proofs.Yteceaohhnjlmbaa
