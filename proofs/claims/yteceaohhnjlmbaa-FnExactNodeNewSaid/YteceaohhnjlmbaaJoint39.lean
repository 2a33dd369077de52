/-
  The walk of laws.markIntS: a list of numbers written over.
-/
import Derived.Test.YteceaohhnjlmbaaJoint1
namespace Go.Proofs.Yteceaohhnjlmbaa
open Go.RowKit

/-- numbers from m on -/
def countFrom (m n : Nat) : List Int := (List.range n).map fun i => ((m + i : Nat) : Int)
theorem countFrom_length (m n : Nat) : (countFrom m n).length = n := by simp [countFrom]
theorem countFrom_succ (m n : Nat) : countFrom m (n + 1) = countFrom m n ++ [((m + n : Nat) : Int)] := by simp [countFrom, List.range_succ]

set_option maxRecDepth 1000000 in
set_option maxHeartbeats 1000000 in
theorem markIntS_any (g : Nat) (zs : List Int) (cap m : Nat) (hm : m ≤ 10000000) (hl : zs.length ≤ 1048576) (w : World) (hb : BlockIs w g 3 (intCells zs)) :
    Calls Try.prog 15 #[.slice (some ⟨g, 0, none⟩) zs.length cap, .int .i64 m] w fun e w' => e = .returned (.int .i64 ((m + zs.length : Nat) : Int)) ∧ BlockIs w' g 3 (intCells (countFrom m zs.length)) ∧ w.grownBy w' (some g) := by
  have HB := hid hb
  clear hb
  go_enter Try.func15, Try.ntmps15
  go_wp2
  go_loopg [1, 5] zs.length (fun q y i wr => ∃ (k : Nat), k + q = zs.length ∧ i = .int .i64 k ∧ y = .int .i64 ((m + k : Nat) : Int) ∧ ∃ rest, Hid (rest.length = zs.length - k) ∧ Hid (BlockIs wr g 3 (intCells (countFrom m k) ++ rest)) ∧ Hid (w.grownBy wr (some g)))
  case atStart => exact ⟨0, by omega, rfl, rfl, intCells zs, by simp [Hid, intCells], HB, World.grownBy.refl _ _⟩
  case round =>
    obtain ⟨k, hkg, rfl, rfl, rest, hrl, FB, GR⟩ := hrel
    clear HB
    cases gk with
    | zero =>
      have hlt : ¬ (k : Int) < (zs.length : Int) := by omega
      obtain rfl : k = zs.length := by omega
      have HP : Hid (BlockIs wr g 3 (intCells (countFrom m zs.length))) := by
        have h0 : rest = [] := List.length_eq_zero_iff.1 (by rw [hrl.out]; omega)
        have := FB.out
        rw [h0, List.append_nil] at this
        exact this
      clear FB hrl
      go_wp2
      go_ret
      exact ⟨rfl, HP.out, GR.out⟩
    | succ q =>
      have hlt : k < zs.length := by omega
      have hlt' : (k : Int) < (zs.length : Int) := by omega
      obtain ⟨⟨y, y0⟩, f0, hnew⟩ := put_int (k := k) ((m + k : Nat) : Int) FB.out (countFrom_length m k) (by rw [hrl.out]; omega)
      rw [← countFrom_succ] at hnew
      have HN := hid hnew
      have HG := hid (GR.out.trans (grownBy_set wr g k (.int .i64 ((m + k : Nat) : Int))))
      have HR : Hid ((rest.drop 1).length = zs.length - (k + 1)) := by show _ = _; rw [List.length_drop, hrl.out]; omega
      obtain ⟨K, hK⟩ : ∃ K, m + k = K := ⟨_, rfl⟩
      have hKl : K ≤ 20000000 := by omega
      rw [hK] at HN HG ⊢
      clear hnew FB GR hrl
      go_wp2
      go_roundg q
      case measure => omega
      case rel => exact ⟨k + 1, by omega, by go_num, by rw [← show K + 1 = m + (k + 1) by omega]; go_num, _, HR, HN, HG⟩
end Go.Proofs.Yteceaohhnjlmbaa
