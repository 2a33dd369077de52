/-
  The walk of impl.confBytes: what it answers.
  The walk of impl.ConfText: what it answers.
-/
import Derived.Test.YtoanhjjigbjecaaGreatDoorRows
import Derived.Test.YtoanhjjigbjecaaGreatDoorJoint1
import Derived.OwnWalk
import Derived.WalkSmall
import Derived.WalkKit
import Derived.Test.YtoanhjjigbjecaaGreatDoorJoint30
namespace Go.Proofs.YtoanhjjigbjecaaGreatDoor
open Go.RowKit

theorem confI_info5 : (Tryz.prog.info? 5).map (fun i => (i.zero, i.size, i.bytes)) = some (some (.int .u8 0), 1, 1) := by kernel_rfl

set_option maxRecDepth 1000000 in
set_option maxHeartbeats 1000000 in
theorem confBytes_all (ao : Option Addr) (zs : List Int) (cap : Nat) (h4 : zs.length ≤ 4) (hat : ∀ k (hk : k < zs.length), 1 ≤ zs[k] ∧ zs[k] ≤ 4) (w : World) (hz : IntsAt w ao zs) :
    Calls Tryz.prog 61 #[.slice ao zs.length cap] w fun e w' => e = .returned (.string ⟨(confBytes zs).toArray⟩) ∧ Below w.heap.size w w' := by
  obtain ⟨i0, hi, hz0, hz1, hz2⟩ := info_parts confI_info5
  have HZ := hid hz
  have HAT := hid hat
  clear hz hat
  go_enter Tryz.func61, Tryz.ntmps61
  go_wp2_with (at_make; refine wpList_make_own _ rfl _ _ 22 rfl w.heap.size 5 i0 (.int .u8 0) 1 Tryz.underlying22 hi hz0 hz1 _ _ _ zs.length rfl rfl ?b1 ?b2 ?b3 ?b4 ?_)
  case b1 => omega
  case b2 => rw [hz2]; omega
  case b3 => unfold maxLen; omega
  case b4 => exact Nat.le_refl _
  intro w0 hown0 hgrow0
  have hb0 : Below w.heap.size w w0 := (Below.refl _ _).grown hgrow0 (Nat.le_refl _) (fun k h => by cases h)
  clear hgrow0
  go_wp2
  go_loopw [3, 11] (fun v i wr => ∃ (k : Nat), k ≤ zs.length ∧ i = .int .i64 k ∧ wr.ownsRow w.heap.size 5 1 v k (cs (confBytes (zs.take k))) ∧ Below w.heap.size w wr) (fun _ i _ => zs.length - (intOf i).toNat)
  case atStart => exact ⟨0, Nat.zero_le _, rfl, hown0, hb0⟩
  case round =>
    obtain ⟨k, hk, rfl, hown, hb⟩ := hrel
    have hsz := hb.size
    clear hown0 hb0
    by_cases hlt : k < zs.length
    · have hne : zs ≠ [] := by intro e; rw [e] at hlt; simp at hlt
      obtain ⟨b, off, rfl, hc⟩ := (HZ.out.on hb) hne
      have x0 := hc k hlt
      have hx4 := HAT.out k hlt
      have HTK := hid (confBytes_take zs k hlt)
      obtain ⟨x, hx⟩ : ∃ x, zs[k] = x := ⟨_, rfl⟩
      rw [hx] at x0 hx4 HTK
      obtain ⟨y, rfl⟩ : ∃ y : Nat, x = y := ⟨x.toNat, by omega⟩
      clear hc hx
      go_wp2_with (at_builtin; refine wpList_append_own _ rfl (.tmp 15) (.tmp 18) 22 rfl w.heap.size 5 i0 (.int .u8 0) 1 1 Tryz.underlying22 hi hz0 hz1 hz2 rfl (by decide) _ _ _ rfl (hown.alloc _) ⟨wr.heap.size, 0, none⟩ 1 1 [.int .u8 (y : Int)] rfl rfl (one_new _ _ _) (by intro u hu; simp at hu; subst hu; rfl) (by unfold maxLen; omega) (by omega) (by simp; omega) ?_)
      intro v' w3 hown' hgrow _
      have R1 : Hid (w3.ownsRow w.heap.size 5 1 v' (k + 1) (cs (confBytes (zs.take (k + 1))))) := by
        rw [HTK.out, cs_append]
        rw [cs_one (x := (y : Int)) (by omega) (by omega)] at hown'
        exact hown'
      have R2 : Hid (Below w.heap.size w w3) := (hb.alloc hb.size _).grown hgrow (by have := hb.size; simp; omega) (fun k hk => (hown.lt k hk).1)
      clear hown' hgrow hown hb
      go_wp2
      go_roundw
      case rel => exact ⟨k + 1, by omega, by go_num, R1.out, R2.out⟩
      case measure => simp [intOf]; omega
    · obtain rfl : k = zs.length := by omega
      rw [List.take_length] at hown
      have hcv := text_of_row (P := Tryz.prog) (l := confBytes zs) Tryz.underlying22 Tryz.underlying5 Tryz.underlying9 (by rw [confBytes_length]; exact hown)
      obtain ⟨_, va, vc, hv, _⟩ := row_lie hown
      subst hv
      have BB := hid hb
      clear hown hb
      go_wp2
      go_ret
      exact ⟨rfl, BB.out⟩

theorem confBytes_any (ao : Option Addr) (zs : List Int) (cap : Nat) (hA : confOk zs = true) (w : World) (hz : IntsAt w ao zs) :
    Calls Tryz.prog 61 #[.slice ao zs.length cap] w fun e w' => e = .returned (.string ⟨(confBytes zs).toArray⟩) ∧ Below w.heap.size w w' :=
  confBytes_all ao zs cap (by have := confOk_len hA; omega) (fun _ hk => confOk_at hA hk) w hz
end Go.Proofs.YtoanhjjigbjecaaGreatDoor

namespace Go.Proofs.YtoanhjjigbjecaaGreatDoor
open Go.RowKit

set_option maxRecDepth 1000000 in
set_option maxHeartbeats 1000000 in
theorem implConfText_any (ao : Option Addr) (zs : List Int) (cap : Nat) (hl : zs.length ≤ 1048576) (w : World) (hz : IntsAt w ao zs) :
    Calls Tryz.prog 27 #[.slice ao zs.length cap] w fun e w' => e = .returned (.tuple #[.string (confText zs).1, .bool (confText zs).2]) ∧ Below w.heap.size w w' := by
  have HZ := hid hz
  have cO' := implConfOk_any ao zs cap hl w hz
  clear hz
  cases hA : confOk zs with
  | false =>
    rw [hA] at cO'
    have cO := hid cO'
    have HT := hid (confText_no hA)
    clear cO' hA
    go_enter Tryz.func27, Tryz.ntmps27
    go_wp2_with fail
    refine Calls.mono cO.out ?_
    rintro e w1 ⟨rfl, b1⟩
    go_wp2
    go_ret2
    exact ⟨by rw [HT.out]; rfl, b1⟩
  | true =>
    rw [hA] at cO'
    have cO := hid cO'
    have HT := hid (confText_yes hA)
    have HA := hid hA
    clear cO' hA
    go_enter Tryz.func27, Tryz.ntmps27
    go_wp2_with fail
    refine Calls.mono cO.out ?_
    rintro e w1 ⟨rfl, b1⟩
    have B1 := hid b1
    clear b1 cO
    go_wp2_with fail
    refine Calls.mono (confBytes_any ao zs cap HA.out w1 (HZ.out.on B1.out)) ?_
    rintro e w2 ⟨rfl, b2⟩
    have B2 := hid (below_via B1.out b2)
    clear b2 B1
    go_wp2
    go_ret2
    exact ⟨by rw [HT.out]; rfl, B2.out⟩
end Go.Proofs.YtoanhjjigbjecaaGreatDoor
