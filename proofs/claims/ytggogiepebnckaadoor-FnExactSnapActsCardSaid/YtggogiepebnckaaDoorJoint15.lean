/-
  The walks of laws.markSnap, heldSnap over a snapshot that the call's answer owns.
-/
import Derived.Test.YtggogiepebnckaaDoorJoint14
import Derived.Test.YtggogiepebnckaaDoorJoint1
namespace Go.Proofs.YtggogiepebnckaaDoor
open Go.RowKit

/-- the row that an answer owns, written over; blocks of other types stand -/
theorem markIntS_row2 (v : Value) (zs : List Int) (base m : Nat) (hm : m ≤ 10000000) (hl : zs.length ≤ 1048576) (w : World) (hbase : base ≤ w.heap.size) (hb : w.ownsRow base 3 1 v zs.length (intCells zs)) :
    Calls Tryd.prog 35 #[v, .int .i64 m] w fun e w' => e = .returned (.int .i64 ((m + zs.length : Nat) : Int)) ∧ ∃ ao cap, v = .slice ao zs.length cap ∧ IntsAt w' ao (countFrom m zs.length) ∧ (∃ g, base ≤ g ∧ (∀ b t cs, t ≠ 3 → BlockIs w b t cs → b ≠ g) ∧ w.grownBy w' (some g)) := by
  obtain ⟨hx, h2⟩ := hb
  rcases h2 with ⟨hv, hn⟩ | ⟨g, cap, cur, hv, hgb, hh, hle, hmx, hsz, ht⟩
  · have e : zs = [] := List.eq_nil_of_length_eq_zero hn
    subst e hv
    refine (markIntS_nil none 0 m w).mono ?_
    rintro e w' ⟨rfl, rfl⟩
    exact ⟨rfl, none, 0, rfl, fun h => absurd rfl h, w'.heap.size, hbase, fun b t cs _ h e => by have := h.lt; omega, World.grownBy.refl _ _⟩
  · subst hv
    have hc : BlockIs w g 3 (intCells zs ++ cur.toList.drop (zs.length * 1)) := by
      unfold BlockIs
      rw [hh]
      have : intCells zs ++ cur.toList.drop (zs.length * 1) = cur.toList := by rw [← ht, List.take_append_drop]
      rw [this]
    refine (markIntS_more g zs _ cap m hm hl w hc).mono ?_
    rintro e w' ⟨rfl, ⟨r', hr⟩, hg⟩
    refine ⟨rfl, some ⟨g, 0, none⟩, cap, rfl, intsAt_of hr, g, hgb, fun b t cs hne h e => ?_, hg⟩
    subst e
    unfold BlockIs at h
    rw [hh] at h
    simp only [Option.some.injEq, Obj.cells.injEq] at h
    exact hne h.2.1.symm

set_option maxRecDepth 1000000 in
set_option maxHeartbeats 1000000 in
theorem markSnap_row (ix tm : Int) (ao : Option Addr) (cap : Nat) (bd : ByteArray) (zs : List Int) (base m : Nat) (hm : m ≤ 10000000) (hl : zs.length ≤ 1048576) (w : World) (hbase : base ≤ w.heap.size) (hb : w.ownsRow base 3 1 (.slice ao zs.length cap) zs.length (intCells zs)) :
    Calls Tryd.prog 10 #[snapV ix tm (.slice ao zs.length cap) bd, .int .i64 m] w fun e w' => e = .returned (.int .i64 ((m + zs.length : Nat) : Int)) ∧ IntsAt w' ao (countFrom m zs.length) ∧ (∃ g, base ≤ g ∧ (∀ b t cs, t ≠ 3 → BlockIs w b t cs → b ≠ g) ∧ w.grownBy w' (some g)) := by
  have hbx := below_more (Below.refl w.heap.size w) (.cells #[.int .i64 ix, .int .i64 tm, .slice ao zs.length cap, .string bd] 24)
  have C := hid (fun w hbase hb => markIntS_row2 (.slice ao zs.length cap) zs base m hm hl w hbase hb)
  have HX := hid hbx
  have HO := hid (kept_conf hb hbx)
  have HS := hid (Nat.le_trans hbase hbx.size)
  obtain ⟨N, hN⟩ : ∃ N, m + zs.length = N := ⟨_, rfl⟩
  rw [hN] at C ⊢
  clear hbx hb hN
  go_enter Tryd.func10, Tryd.ntmps10
  go_wp2_with fail
  refine (C.out _ HS.out HO.out).mono ?_
  rintro e w1 ⟨rfl, ao', cap', hv, hi, g, hg, hne, hgr⟩
  simp only [Value.slice.injEq] at hv
  obtain ⟨rfl, _, rfl⟩ := hv
  have HI := hid hi
  have HG : Hid (∃ g, base ≤ g ∧ (∀ b t cs, t ≠ 3 → BlockIs w b t cs → b ≠ g) ∧ w.grownBy w1 (some g)) := ⟨g, hg, fun b t cs h1 h2 => hne b t cs h1 (h2.on HX.out h2.lt), (grown_of_below HX.out (some g)).trans hgr⟩
  clear hi hg hne hgr C HO HX
  go_wp2
  go_ret
  exact ⟨rfl, HI.out, HG.out⟩

set_option maxRecDepth 1000000 in
set_option maxHeartbeats 1000000 in
theorem heldSnap_any (ix tm : Int) (ao : Option Addr) (n cap m : Nat) (bd : ByteArray) (hm : m ≤ 10000000) (hl : n ≤ 1048576) (w : World) (hz : IntsAt w ao (countFrom m n)) :
    Calls Tryd.prog 11 #[snapV ix tm (.slice ao n cap) bd, .int .i64 m] w fun e w' => e = .returned (.int .i64 ((m + n : Nat) : Int)) ∧ Below w.heap.size w w' := by
  have HX := hid (below_more (Below.refl w.heap.size w) (.cells #[.int .i64 ix, .int .i64 tm, .slice ao n cap, .string bd] 24))
  have C := hid (fun w hz => heldIntS_any ao n cap m hm hl w hz)
  have HZ := hid (hz.on HX.out)
  obtain ⟨N, hN⟩ : ∃ N, m + n = N := ⟨_, rfl⟩
  rw [hN] at C ⊢
  clear hN hz
  go_enter Tryd.func11, Tryd.ntmps11
  go_wp2_with fail
  refine (C.out _ HZ.out).mono ?_
  rintro e w1 ⟨rfl, hw⟩
  rw [hw]
  clear hw w1 C HZ
  go_wp2
  go_ret
  exact ⟨rfl, HX.out⟩
end Go.Proofs.YtggogiepebnckaaDoor
