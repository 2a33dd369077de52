/-
  The walk of impl.firstParts: a map that tells of each number where it stands first.
-/
import Derived.Test.YthdklbmachplmaaJoint1
import Derived.Deep.LoopGhost
import Derived.WalkSmall
import Derived.WalkKit
namespace Go.Proofs.Ythdklbmachplmaa
open Go.RowKit Go.Maps
def firstMap (l : List Int) (x : Int) : Option Value := (firstAt l x).map fun i => .int .i64 (i : Int)
theorem firstMap_hit {l : List Int} {y x : Int} {i : Nat} (h : firstAt l y = some i) : firstMap (l ++ [y]) x = firstMap l x := by
  rw [firstMap, firstMap, firstAt_snoc]
  by_cases e : y = x
  · subst e
    rw [h]
    rfl
  · rw [if_neg e]
    simp
theorem firstMap_new {l : List Int} {y x : Int} (h : firstAt l y = none) : firstMap (l ++ [y]) x = if x = y then some (.int .i64 (l.length : Int)) else firstMap l x := by
  rw [firstMap, firstMap, firstAt_snoc]
  by_cases e : y = x
  · subst e
    rw [h]
    simp
  · rw [if_neg e, if_neg (fun q => e q.symm)]
    simp
set_option maxRecDepth 1000000 in
theorem zero3 (w : World) : (zeroValue 3).run Try.prog w = .ok (.int .i64 0) w := by kernel_rfl
set_option maxRecDepth 1000000 in
set_option maxHeartbeats 2000000 in
theorem firstParts_any (ao : Option Addr) (zs : List Int) (cap : Nat) (hl : zs.length ≤ 1048577) (hf : IntsWf zs) (w : World) (ha : IntsAt w ao zs) :
    Calls Try.prog 61 #[.slice ao zs.length cap] w fun e w' => e = .returned (.map (some w.heap.size)) ∧ MapIs w' w.heap.size zs.length (firstMap zs) ∧ Below w.heap.size w w' := by
  have HA := hid ha
  have HF := hid hf
  have hm0 := map_made w
  have hb0 := below_more (Below.refl w.heap.size w) (.map #[] 0)
  obtain ⟨W0, hW0⟩ : ∃ W, w.alloc (.map #[] 0) = W := ⟨_, rfl⟩
  rw [hW0] at hm0 hb0
  have M0 := hid hm0
  have B0 := hid hb0
  clear hm0 hb0 ha hf
  have hmm : (Instr.makeMap 81 none).run Try.prog w = .ok (.map (some w.heap.size)) W0 := by rw [← hW0]; rfl
  clear hW0
  go_enter Try.func61, Try.ntmps61
  go_wp2
  go_loopg [11] zs.length (fun q i wr => ∃ (k : Nat), k + q = zs.length ∧ i = .int .i64 k ∧ Hid (Below w.heap.size w wr) ∧ Hid (MapIs wr w.heap.size k (firstMap (zs.take k))))
  case atStart => exact ⟨0, by omega, rfl, B0, (show MapIs _ _ _ _ from M0.out.ext fun x _ => by simp [firstMap, firstAt])⟩
  case round =>
    obtain ⟨k, hkg, rfl, BR, MR⟩ := hrel
    clear M0 B0 hmm
    cases gk with
    | zero =>
      have hlt : ¬ (k : Int) < (zs.length : Int) := by omega
      obtain rfl : k = zs.length := by omega
      rw [List.take_of_length_le (Nat.le_refl _)] at MR
      go_wp2
      go_ret
      exact ⟨rfl, MR.out, BR.out⟩
    | succ q =>
      have hlt : k < zs.length := by omega
      have hlt' : (k : Int) < (zs.length : Int) := by omega
      have hne : zs ≠ [] := by intro e; rw [e] at hlt; simp at hlt
      obtain ⟨b, off, rfl, hc⟩ := HA.out.on BR.out hne
      have x0 := hc k hlt
      have hwf := HF.out zs[k] (List.getElem_mem hlt)
      have HTK : Hid (zs.take (k + 1) = zs.take k ++ [zs[k]]) := List.take_succ_eq_append_getElem hlt
      obtain ⟨x, hx⟩ : ∃ x, zs[k] = x := ⟨_, rfl⟩
      rw [hx] at x0 hwf HTK
      have hlk := MR.out.look Try.underlying81 (zero3 wr) (coded_int 0) hwf
      have hkl : (zs.take k).length = k := by rw [List.length_take]; omega
      clear hc hx hne
      cases hfa : firstAt (zs.take k) x with
      | some i =>
        rw [show firstMap (zs.take k) x = some (.int .i64 (i : Int)) by rw [firstMap, hfa]; rfl] at hlk
        simp only [Option.getD_some, Option.isSome_some] at hlk
        have M2 : Hid (MapIs wr w.heap.size (k + 1) (firstMap (zs.take (k + 1)))) := by
          show MapIs _ _ _ _
          rw [HTK.out]
          exact (MR.out.up (by omega)).ext fun y _ => (firstMap_hit hfa).symm
        clear hfa hkl MR
        go_wp2
        go_roundg q
        case measure => omega
        case rel => exact ⟨k + 1, by omega, by go_num, BR, M2⟩
      | none =>
        rw [show firstMap (zs.take k) x = none by rw [firstMap, hfa]; rfl] at hlk
        simp only [Option.getD_none, Option.isSome_none] at hlk
        obtain ⟨w2, hup, hm2, htn⟩ := MR.out.put (by unfold maxLen; omega) Try.underlying81 hwf (coded_int (k : Int))
        have M2 : Hid (MapIs w2 w.heap.size (k + 1) (firstMap (zs.take (k + 1)))) := by
          show MapIs _ _ _ _
          rw [HTK.out]
          refine hm2.ext fun y _ => ?_
          rw [firstMap_new hfa, hkl]
        have B2 := hid (BR.out.grown htn.grown BR.out.size (fun j e => by simp at e; omega))
        clear hfa hkl MR hm2 htn BR
        go_wp2
        go_roundg q
        case measure => omega
        case rel => exact ⟨k + 1, by omega, by go_num, B2, M2⟩
end Go.Proofs.Ythdklbmachplmaa
