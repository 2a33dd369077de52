/-
  The walk of laws.lefts: six numbers, each below 300.
-/
import Derived.Test.YtfkknmhokiacaaaDrawPlaces
import Derived.Test.YtfkknmhokiacaaaPlainInts
namespace Go.Proofs.Ytfkknmhokiacaaa
open Go.RowKit

set_option maxRecDepth 1000000 in
set_option maxHeartbeats 1000000 in
theorem lefts_any (w : World) (v : Value) (hp : Places w v) :
    Calls Try.prog 9 #[v] w fun e w' => ∃ (zs : List Int) (ao : Option Addr) (c : Nat), e = .returned (.slice ao zs.length c) ∧ zs.length = 6 ∧ IntsAt w' ao zs ∧ Below w.heap.size w w' := by
  obtain ⟨i0, hi, hz0, hz1, hz2⟩ := info_parts places_info3
  obtain ⟨g, pcap, rfl, hpc, hcell⟩ := hp
  have HC := (show Hid _ from hcell)
  clear hcell
  go_enter Try.func9, Try.ntmps9
  go_wp2
  go_loopw [3, 4] (fun v i wr => ∃ (k : Nat) (l : List Int), k ≤ 6 ∧ i = .int .i64 k ∧ l.length = k ∧ wr.ownsRow w.heap.size 3 1 v k (is l) ∧ Below w.heap.size w wr) (fun _ i _ => 6 - (intOf i).toNat)
  case atStart => exact ⟨0, [], by omega, rfl, rfl, World.ownsRow_made w #[] 0 (Nat.le_refl _) (Nat.zero_le _) rfl, (Below.refl _ _).alloc (Nat.le_refl _) _⟩
  case round =>
    obtain ⟨k, l, hk, rfl, hl, hown, hb⟩ := hrel
    have hsz := hb.size
    by_cases hlt : k < 6
    · obtain ⟨z, hz, c0⟩ := HC.out k (by omega)
      have c1 := (hb.cell (p := ⟨g, k, none⟩) (World.block_lt_of_cell? w _ c0)).trans c0
      obtain ⟨y, hy⟩ : ∃ y : Nat, z % 300 = y := ⟨_, rfl⟩
      have hy' : (z : Int) % 300 = (y : Int) := by omega
      have HL := (show Hid _ from hl)
      clear c0 hl
      go_wp2_with (at_builtin; refine wpList_append_own _ rfl (.tmp 10) (.tmp 16) 28 rfl w.heap.size 3 i0 (.int .i64 0) 1 8 Try.underlying28 hi hz0 hz1 hz2 rfl (by decide) _ _ _ rfl (hown.alloc _) ⟨wr.heap.size, 0, none⟩ 1 1 [.int .i64 y] rfl rfl (one_new _ _ _) (by intro u hu; simp at hu; subst hu; rfl) (by unfold maxLen; omega) (by omega) (by simp; omega) ?_)
      intro v' w3 hown' hgrow _
      have R1 : Hid (w3.ownsRow w.heap.size 3 1 v' (k + 1) (is (l ++ [(y : Int)]))) := by rw [is_append]; exact hown'
      have R2 : Hid (Below w.heap.size w w3) := (hb.alloc hb.size _).grown hgrow (by have := hb.size; simp; omega) (fun k hk => (hown.lt k hk).1)
      clear hown' hgrow hown hb
      go_wp2
      go_roundw
      case rel => exact ⟨k + 1, l ++ [(y : Int)], by omega, by go_num, by simp [HL.out], R1.out, R2.out⟩
      case measure => simp [intOf]; omega
    · obtain rfl : k = 6 := by omega
      obtain ⟨_, ao, c, hv, hf⟩ := row_lie hown
      subst hv
      have HI : Hid (IntsAt wr ao l) := by
        intro _
        obtain ⟨g', e1, _, _, _, _, hc, _⟩ := hf (by omega)
        refine ⟨g', 0, e1, fun j hj => ?_⟩
        rw [Nat.zero_add]
        exact hc j _ (by simp [is, hj])
      have HL := (show Hid _ from hl)
      clear hf hown hl
      go_wp2
      go_ret
      exact ⟨l, ao, c, by rw [HL.out]; rfl, HL.out, HI.out, hb⟩
end Go.Proofs.Ytfkknmhokiacaaa
