/-
  The walks of laws.eqStringS, toStringS: rows of texts compared, laid anew.
-/
import Derived.Test.YtpknpodmoeaggabVals
import Derived.BigQuiet
import Derived.Deep.LoopGhost
import Derived.WalkSmall
import Derived.WalkKit
namespace Go.Proofs.Ytpknpodmoeaggab
open Go.RowKit

theorem put_textL {w : World} {g k : Nat} {t : TypeId} {ts : List ByteArray} {r : List Value} (z : ByteArray) (h : BlockIs w g t (st ts ++ r)) (hk : ts.length = k) (hr : 0 < r.length) :
    (∃ x, w.cell? ⟨g, k, none⟩ = some x) ∧ w.frozen? ⟨g, k, none⟩ = false ∧ BlockIs (w.setCell ⟨g, k, none⟩ (.string z)) g t (st (ts ++ [z]) ++ r.drop 1) := by
  have hlen : (st ts).length = k := by rw [st_length, hk]
  match r, hr with
  | x :: r', _ =>
    have hs := h.set k (.string z)
    have e1 := set_one (st ts) (.string z) x r'
    rw [hlen] at e1
    rw [e1] at hs
    refine ⟨⟨x, h.cell ?_⟩, h.thaw k, ?_⟩
    · rw [List.getElem?_append_right (by omega), hlen, Nat.sub_self]; rfl
    · simpa [st] using hs
theorem made_textsL (n : Nat) : (madeCells #[Value.string ⟨#[]⟩] n).toList.length = n := by simp [madeCells]

set_option maxRecDepth 1000000 in
theorem eqStringS_vals (ao bo : Option Addr) (zs : List ByteArray) (cap cap' : Nat) (hl : zs.length ≤ 140737488355328) (w : World) (ha : ValsAt w ao (st zs)) (hb : ValsAt w bo (st zs)) :
    Calls Try.prog 65 #[.slice ao zs.length cap, .slice bo zs.length cap'] w fun e w' => e = .returned (.bool true) ∧ Below w.heap.size w w' := by
  have HA := hid ha
  have HB := hid hb
  clear ha hb
  go_enter Try.func65, Try.ntmps65
  go_wp2
  go_loopg [5] zs.length (fun q i wr => ∃ (k nq : Nat), wr = w.drewN nq ∧ k + q = zs.length ∧ i = .int .i64 k)
  case atStart => exact ⟨0, 0, rfl, by omega, rfl⟩
  case round =>
    obtain ⟨k, nq, rfl, hkg, rfl⟩ := hrel
    cases gk with
    | zero =>
      have hlt : ¬ (k : Int) < (zs.length : Int) := by omega
      go_wp2
      go_ret
      exact ⟨rfl, below_drewN (Below.refl _ _) _⟩
    | succ q =>
      have hlt : k < zs.length := by omega
      have hlt' : (k : Int) < (zs.length : Int) := by omega
      have hne : st zs ≠ [] := by intro e; rw [← List.length_eq_zero_iff, st_length] at e; omega
      obtain ⟨b, off, rfl, hc⟩ := HA.out hne
      obtain ⟨b', off', rfl, hc'⟩ := HB.out hne
      have x0 := hc k (by rw [st_length]; omega)
      have y0 := hc' k (by rw [st_length]; omega)
      have hgt : (st zs)[k]'(by rw [st_length]; omega) = .string zs[k] := by simp [st]
      rw [hgt] at x0 y0
      clear hc hc' hgt
      go_wp2
      go_quiet (fail)
      go_wp2
      go_roundg q
      case measure => omega
      case rel => exact ⟨k + 1, _, rfl, by omega, by go_num⟩

set_option maxRecDepth 1000000 in
set_option maxHeartbeats 1000000 in
theorem toStringS_any (ao : Option Addr) (zs : List ByteArray) (cap : Nat) (hl : zs.length ≤ 1048576) (w : World) (ha : ValsAt w ao (st zs)) :
    Calls Try.prog 58 #[.slice ao zs.length cap] w fun e w' => e = .returned (.slice (some ⟨w.heap.size, 0, none⟩) zs.length zs.length) ∧ BlockIs w' w.heap.size 9 (st zs) ∧ Below w.heap.size w w' := by
  obtain ⟨i0, hi, hz0, hz1, hz2⟩ := info_parts vals_info9
  have HA := hid ha
  clear ha
  go_enter Try.func58, Try.ntmps58
  go_wp2_with (at_make; refine wpList_make_full _ rfl (.tmp 6) (.tmp 6) 55 rfl w.heap.size 9 i0 (.string ⟨#[]⟩) 1 Try.underlying55 hi hz0 hz1 _ _ _ _ zs.length rfl rfl rfl rfl ?b2 ?b3 ?b4 ?_)
  case b2 => rw [hz2]; omega
  case b3 => unfold maxLen; omega
  case b4 => exact Nat.le_refl _
  intro w1 hown hgrow
  have HM := hid (BlockIs.made hown)
  have B1 := hid ((Below.refl w.heap.size w).grown hgrow (Nat.le_refl _) (fun k h => by cases h))
  clear hown hgrow
  go_wp2
  go_loopg [4] zs.length (fun q i wr => ∃ (k : Nat), k + q = zs.length ∧ i = .int .i64 k ∧ Hid (Below w.heap.size w wr) ∧ ∃ rest, Hid (rest.length = zs.length - k) ∧ Hid (BlockIs wr w.heap.size 9 (st (zs.take k) ++ rest)))
  case atStart => exact ⟨0, by omega, rfl, B1, (madeCells #[Value.string ⟨#[]⟩] zs.length).toList, made_textsL zs.length, HM⟩
  case round =>
    obtain ⟨k, hkg, rfl, BR, rest, hrl, FP⟩ := hrel
    clear HM B1
    cases gk with
    | zero =>
      have hlt : ¬ (k : Int) < (zs.length : Int) := by omega
      have HP : Hid (BlockIs wr w.heap.size 9 (st zs)) := by
        have h0 : rest = [] := List.length_eq_zero_iff.1 (by rw [hrl.out]; omega)
        have := FP.out
        rw [h0, List.append_nil, List.take_of_length_le (by omega)] at this
        exact this
      clear FP hrl
      go_wp2
      go_ret
      exact ⟨rfl, HP.out, BR.out⟩
    | succ q =>
      have hlt : k < zs.length := by omega
      have hlt' : (k : Int) < (zs.length : Int) := by omega
      have hne : zs ≠ [] := by intro e; rw [e] at hlt; simp at hlt
      obtain ⟨b, off, rfl, hc⟩ := HA.out.on BR.out (by intro e; rw [← List.length_eq_zero_iff, st_length] at e; omega)
      have x0 := hc k (by rw [st_length]; omega)
      have hgt : (st zs)[k]'(by rw [st_length]; omega) = .string zs[k] := by simp [st]
      rw [hgt] at x0
      obtain ⟨⟨y, y0⟩, f0, hnew⟩ := put_textL (k := k) zs[k] FP.out (by rw [List.length_take]; omega) (by rw [hrl.out]; omega)
      rw [← List.take_succ_eq_append_getElem hlt] at hnew
      have HN := hid hnew
      have HR : Hid ((rest.drop 1).length = zs.length - (k + 1)) := by show _ = _; rw [List.length_drop, hrl.out]; omega
      clear hc hnew FP hrl hgt
      go_wp2
      go_roundg q
      case measure => omega
      case rel => exact ⟨k + 1, by omega, by go_num, BR.out.setCell (Nat.le_refl _) _, _, HR, HN⟩
end Go.Proofs.Ytpknpodmoeaggab
