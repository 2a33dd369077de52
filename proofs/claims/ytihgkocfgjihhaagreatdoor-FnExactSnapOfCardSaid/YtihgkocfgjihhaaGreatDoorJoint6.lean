/-
  A list of numbers within a struct that came in, read as data; the walk of laws.szIntS.
-/
import Derived.Test.YtihgkocfgjihhaaGreatDoorJoint5
import Derived.Test.YtihgkocfgjihhaaGreatDoorJoint1
namespace Go.Proofs.YtihgkocfgjihhaaGreatDoor
open Go.ChangeShapes Go.WideShapes Go.RowKit Go.Deep

set_option maxRecDepth 1000000 in
theorem snap_cells9 : Tryz.prog.cellsOf 9 = 1 := by kernel_rfl
set_option maxRecDepth 1000000 in
theorem snap_cellsI : Tryz.prog.cellsOf 22 = 1 := by kernel_rfl

set_option maxRecDepth 1000000 in
theorem open_intCells {H : Type} {enc : TypeId × Value → H} {W : World} {base : Nat} {sp : Nat → Bool} {held : Bool} {fuel : Nat} {cs : List Value} {x : DataW H × List MemPlace} (h : DataW.trod enc Tryz.prog W base sp held fuel 22 cs = some x) :
    ∃ ao zs cap, cs = [.slice ao zs.length cap] ∧ zs.length ≤ cap ∧ cap ≤ maxLen ∧ IntsAt W ao zs ∧ IntsFit zs := by
  rcases open_slice Tryz.underlying22 h with ⟨rfl, _⟩ | ⟨a, ln, cp, m, n, D, Pl, rfl, hb, hl, hm, hmm, _, hx⟩
  · exact ⟨none, [], 0, rfl, Nat.le_refl _, by unfold maxLen; omega, fun h => absurd rfl h, fun j hj => by simp at hj⟩
  · have hlm : ln ≤ m := by rw [hmm]; split <;> omega
    have each : ∀ i, i < ln → ∃ z : Int, (W.cells? base (a.add (i * 1)) 1 = some [.int .i64 z]) ∧ -9223372036854775808 ≤ z ∧ z ≤ 9223372036854775807 := fun i hi => by
      obtain ⟨cs', e1, e2⟩ := hx i (by omega)
      rw [ints_cells3] at e1
      obtain ⟨z, rfl, _, s⟩ := DataW.trod_int Tryz.underlying3 e2
      have := bounds_i64 s
      exact ⟨z, e1, this.1, this.2⟩
    obtain ⟨F, hF⟩ := choose_lt each
    have hll : ((List.range ln).map F).length = ln := by simp
    refine ⟨some a, (List.range ln).map F, cp, by rw [hll], by rw [hll]; exact hl, hm, ?_, ?_⟩
    · intro hne
      have hp : 0 < ln := by
        rcases Nat.eq_zero_or_pos ln with e | e
        · subst e; exact absurd rfl hne
        · exact e
      obtain ⟨b, off, spot⟩ := a
      have hc : ∀ i, i < ln → W.cell? ((Addr.add ⟨b, off, spot⟩ (i * 1)).add 0) = some (.int .i64 (F i)) := fun i hi => (World.cells?_some (hF i hi).1).2.2 0 (by omega)
      have hspot : spot = none := by
        have := hc 0 hp
        simpa [Addr.add] using World.cell?_spot this
      subst hspot
      refine ⟨b, off, rfl, fun j hj => ?_⟩
      simp only [List.getElem_map, List.getElem_range]
      have h0 := hc j (by omega)
      rw [add_plain, add_plain, Nat.mul_one, Nat.add_zero] at h0
      exact h0
    · intro j hj
      simp only [List.getElem_map, List.getElem_range]
      exact (hF j (by omega)).2

set_option maxRecDepth 1000000 in
set_option maxHeartbeats 1000000 in
theorem szIntS_any (ao : Option Addr) (n cap : Nat) (k : Int) (h0 : 0 ≤ k) (h1 : k ≤ 1048576) (hl : n ≤ 9223372036854775807) (w : World) :
    Calls Tryz.prog 85 #[.slice ao n cap, .int .i64 k] w fun e w' => ((k - n < 0 ∧ e = .returned (.int .i64 (-1))) ∨ (0 ≤ k - n ∧ e = .returned (.int .i64 (k - n)))) ∧ w' = w := by
  rcases Int.lt_or_le (k - n) 0 with hn | hn
  · go_enter Tryz.func85, Tryz.ntmps85
    go_wp2
    go_ret
    exact ⟨Or.inl ⟨hn, rfl⟩, rfl⟩
  · go_enter Tryz.func85, Tryz.ntmps85
    go_wp2
    go_ret
    exact ⟨Or.inr ⟨hn, rfl⟩, rfl⟩
end Go.Proofs.YtihgkocfgjihhaaGreatDoor
