/-
  Snapshots in the form of the exact laws: rows between two sizes of memory.
-/
import Derived.Test.YtggogiepebnckaaDoorJoint12
import Derived.Test.YtggogiepebnckaaDoorJoint15
namespace Go.Proofs.YtggogiepebnckaaDoor
open Go.RowKit

theorem OwnAt.ints {w : World} {zs : List Int} {va : Option Addr} {lo hi : Nat} (h : OwnAt w 3 (intCells zs) zs.length va lo hi) : IntsAt w va zs := by
  rcases h with h | ⟨g, r, rfl, _, _, h⟩
  · intro h0
    exact absurd (List.length_eq_zero_iff.1 h) h0
  · exact intsAt_of h
theorem own_ints {w : World} {base cap : Nat} {va : Option Addr} {zs : List Int} (h : w.ownsRow base 3 1 (.slice va zs.length cap) zs.length (intCells zs)) : OwnAt w 3 (intCells zs) zs.length va base w.heap.size := by
  rcases h.2 with ⟨hv, hn⟩ | ⟨g, cp, cur, hv, hgb, hh, hle, hmx, hsz, ht⟩
  · exact Or.inl hn
  · simp only [Value.slice.injEq] at hv
    obtain ⟨rfl, _, rfl⟩ := hv
    have hc : BlockIs w g 3 (intCells zs ++ cur.toList.drop (zs.length * 1)) := by
      unfold BlockIs
      rw [hh]
      have : intCells zs ++ cur.toList.drop (zs.length * 1) = cur.toList := by rw [← ht, List.take_append_drop]
      rw [this]
    exact Or.inr ⟨g, _, rfl, hgb, hc.lt, hc⟩
/-- the row that an answer owns, written over -/
theorem markInts_own (va : Option Addr) (vc : Nat) (zs : List Int) (lo hi m : Nat) (hm : m ≤ 10000000) (hl : zs.length ≤ 1048576) (w : World) (hw : lo ≤ w.heap.size) (h : OwnAt w 3 (intCells zs) zs.length va lo hi) :
    Calls Tryd.prog 35 #[.slice va zs.length vc, .int .i64 m] w fun e w' => e = .returned (.int .i64 ((m + zs.length : Nat) : Int)) ∧ IntsAt w' va (countFrom m zs.length) ∧ KeptBut lo hi w w' ∧ Below lo w w' := by
  rcases h with h | ⟨g, r, rfl, h1, h2, h3⟩
  · have e : zs = [] := List.eq_nil_of_length_eq_zero h
    subst e
    refine (markIntS_nil va vc m w).mono ?_
    rintro e w' ⟨rfl, rfl⟩
    exact ⟨rfl, fun h => absurd rfl h, fun _ _ _ _ h => h, Below.refl _ _⟩
  · refine (markIntS_more g zs r vc m hm hl w h3).mono ?_
    rintro e w' ⟨rfl, ⟨r', hr⟩, hg⟩
    exact ⟨rfl, intsAt_of hr, fun j t cs hj hb => blk_grown hb hg (by omega), below_grown (Below.refl _ _) hg h1 hw⟩
set_option maxRecDepth 1000000 in
set_option maxHeartbeats 1000000 in
theorem markSnap_o (ix tm : Int) (va : Option Addr) (vc : Nat) (bd : ByteArray) (zs : List Int) (lo hi m : Nat) (hm : m ≤ 10000000) (hl : zs.length ≤ 1048576) (w : World) (hw : hi ≤ w.heap.size ∧ lo ≤ w.heap.size) (h : OwnAt w 3 (intCells zs) zs.length va lo hi) :
    Calls Tryd.prog 10 #[snapV ix tm (.slice va zs.length vc) bd, .int .i64 m] w fun e w' => e = .returned (.int .i64 ((m + zs.length : Nat) : Int)) ∧ IntsAt w' va (countFrom m zs.length) ∧ KeptBut lo hi w w' ∧ Below lo w w' := by
  have hbx := below_more (Below.refl w.heap.size w) (.cells #[.int .i64 ix, .int .i64 tm, .slice va zs.length vc, .string bd] 24)
  have C := hid (fun w hw h => markInts_own va vc zs lo hi m hm hl w hw h)
  have HX := hid hbx
  have HO := hid (h.on hbx)
  have HS := hid (Nat.le_trans hw.2 hbx.size)
  have HW := hid hw.2
  obtain ⟨N, hN⟩ : ∃ N, m + zs.length = N := ⟨_, rfl⟩
  rw [hN] at C ⊢
  clear hbx h hN hw
  go_enter Tryd.func10, Tryd.ntmps10
  go_wp2_with fail
  refine (C.out _ HS.out HO.out).mono ?_
  rintro e w1 ⟨rfl, hi1, hk, hb⟩
  have HI := hid hi1
  have HK : Hid (KeptBut lo hi w w1) := fun j t cs hj hbl => hk j t cs hj (hbl.on HX.out hbl.lt)
  have HB := hid ((HX.out.mono HW.out).trans hb)
  clear hi1 hk hb C HO HX
  go_wp2
  go_ret
  exact ⟨rfl, HI.out, HK.out, HB.out⟩
end Go.Proofs.YtggogiepebnckaaDoor
