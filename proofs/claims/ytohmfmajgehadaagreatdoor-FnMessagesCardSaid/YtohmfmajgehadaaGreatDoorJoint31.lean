/-
  The walk of impl.bodyOf: what it answers.
-/
import Derived.Test.YtohmfmajgehadaaGreatDoorJoint30
import Derived.Test.YtohmfmajgehadaaGreatDoorJoint1
import Derived.BigQuiet
namespace Go.Proofs.YtohmfmajgehadaaGreatDoor
open Go.RowKit

theorem row_lower {w : World} {base base' size n : Nat} {t : TypeId} {v : Value} {xs : List Value} (h : w.ownsRow base t size v n xs) (hb : base' ≤ base) : w.ownsRow base' t size v n xs :=
  ⟨h.1, h.2.imp id fun ⟨g, cap, cur, a, b, r⟩ => ⟨g, cap, cur, a, Nat.le_trans hb b, r⟩⟩
/-- what an entry carries, behind the interface; a conf's numbers lie in memory -/
def bodyIs (d : EntD) (w : World) (v : Value) (w' : World) : Prop :=
  if d.kind = 2 then ∃ u, v = .iface 217 (.agg #[u]) ∧ w'.ownsRow w.heap.size 3 1 u (readConf d.data).1.length (intCells (readConf d.data).1)
  else if d.kind = 3 then v = .iface 219 (.agg #[.string d.data])
  else v = .iface 215 (.agg #[])
def kindOk (d : EntD) : Bool := if d.kind = 1 then decide (d.data.size = 0) else if d.kind = 2 then (readConf d.data).2 else if d.kind = 3 then decide (d.data.size ≤ 120) else false
theorem entryOk_kind (d : EntD) : entryOk d = (within d.term 0 100000 && kindOk d) := rfl

set_option maxRecDepth 1000000 in
set_option maxHeartbeats 1000000 in
theorem bodyOf_any (d : EntD) (w : World) :
    Calls Tryz.prog 152 #[.agg #[.int .i64 d.term, .int .i64 d.kind, .string d.data]] w fun e w' => ∃ v, e = .returned (.tuple #[v, .bool (kindOk d)]) ∧ bodyIs d w v w' ∧ Below w.heap.size w w' := by
  obtain ⟨tm, kd, dt⟩ := d
  dsimp only
  have HB := hid (below_more (Below.refl w.heap.size w) (.cells #[.int .i64 tm, .int .i64 kd, .string dt] 57))
  have hx : BlockIs (w.alloc (.cells #[.int .i64 tm, .int .i64 kd, .string dt] 57)) w.heap.size 57 [.int .i64 tm, .int .i64 kd, .string dt] := heap_alloc_new w _
  obtain ⟨W, hW⟩ : ∃ W, w.alloc (.cells #[.int .i64 tm, .int .i64 kd, .string dt] 57) = W := ⟨_, rfl⟩
  rw [hW] at HB hx
  have c0 := hx.cell (j := 0) rfl
  have c1 := hx.cell (j := 1) rfl
  have c2 := hx.cell (j := 2) rfl
  clear hx
  by_cases k1 : kd = 1
  · subst k1
    by_cases h0 : dt.size = 0
    · have hl : (dt.toList == []) = true := by
        rw [ByteArray.toList_eq, beq_iff_eq]
        exact List.eq_nil_of_length_eq_zero (by simpa using h0)
      go_enter Tryz.func152, Tryz.ntmps152
      go_wp2
      go_quiet (fail)
      go_wp2
      go_ret2
      exact ⟨.iface 215 (.agg #[]), by simp [kindOk, h0], by simp [bodyIs], below_drewN HB.out _⟩
    · have hl : (dt.toList == []) = false := by
        rw [ByteArray.toList_eq, beq_eq_false_iff_ne]
        intro e
        exact h0 (by simpa using congrArg List.length e)
      go_enter Tryz.func152, Tryz.ntmps152
      go_wp2
      go_quiet (fail)
      go_wp2
      go_ret2
      exact ⟨.iface 215 (.agg #[]), by simp [kindOk, h0], by simp [bodyIs], below_drewN HB.out _⟩
  · by_cases k2 : kd = 2
    · subst k2
      have cR := hid (implReadConf_any dt W)
      go_enter Tryz.func152, Tryz.ntmps152
      go_wp2_with fail
      refine Calls.mono cR.out ?_
      rintro e w2 ⟨v2, rfl, o2, b2⟩
      obtain ⟨_, va, vc, rfl, _⟩ := row_lie o2
      have HO2 := hid o2
      have HB2 := hid (below_via HB.out b2)
      clear o2 b2
      go_wp2
      go_ret2
      exact ⟨.iface 217 (.agg #[.slice va (readConf dt).1.length vc]), by simp [kindOk], by simp only [bodyIs, if_true]; exact ⟨_, rfl, row_lower HO2.out HB.out.size⟩, HB2.out⟩
    · by_cases k3 : kd = 3
      · subst k3
        go_enter Tryz.func152, Tryz.ntmps152
        go_wp2
        go_quiet (fail)
        go_wp2
        go_ret2
        refine ⟨.iface 219 (.agg #[.string dt]), ?_, by simp [bodyIs], below_drewN HB.out _⟩
        by_cases h120 : dt.size ≤ 120
        · have h2 : (dt.size : Int) ≤ 120 := by omega
          simp [kindOk, h120, h2]
        · have h2 : ¬ (dt.size : Int) ≤ 120 := by omega
          simp [kindOk, h120, h2]
      · go_enter Tryz.func152, Tryz.ntmps152
        go_wp2
        go_ret2
        exact ⟨.iface 215 (.agg #[]), by simp [kindOk, k1, k2, k3], by simp [bodyIs, k2, k3], HB.out⟩
end Go.Proofs.YtohmfmajgehadaaGreatDoor
