/-
  The walk of laws.markStringS: a row of texts written over.
-/
import Derived.Test.YtpknpodmoeaggabTextS
import Derived.Test.YtpknpodmoeaggabMarkText
namespace Go.Proofs.Ytpknpodmoeaggab
open Go.RowKit

/-- marks from m on -/
def tmarks (m n : Nat) : List ByteArray := (List.range n).map fun i => mtx (m + i)
theorem tmarks_length (m n : Nat) : (tmarks m n).length = n := by simp [tmarks]
theorem tmarks_succ (m n : Nat) : tmarks m (n + 1) = tmarks m n ++ [mtx (m + n)] := by simp [tmarks, List.range_succ]
set_option maxRecDepth 1000000 in
theorem markStringS_nil (ao : Option Addr) (cap m : Nat) (w : World) :
    Calls Try.prog 43 #[.slice ao 0 cap, .int .i64 m] w fun e w' => e = .returned (.int .i64 m) ∧ w' = w := by
  go_enter Try.func43, Try.ntmps43
  go_wp2
  go_loop [1, 5] (fun y i => y = .int .i64 m ∧ i = .int .i64 0) (fun _ _ => 0)
  case atStart => exact ⟨rfl, rfl⟩
  case round =>
    obtain ⟨rfl, rfl⟩ := hrel
    go_wp2
    go_ret
    exact ⟨rfl, rfl⟩

set_option maxRecDepth 1000000 in
set_option maxHeartbeats 1000000 in
theorem markStringS_more (g : Nat) (zs : List ByteArray) (r : List Value) (cap m : Nat) (hm : m ≤ 10000000) (hl : zs.length ≤ 1048576) (w : World) (hb : BlockIs w g 9 (st zs ++ r)) :
    Calls Try.prog 43 #[.slice (some ⟨g, 0, none⟩) zs.length cap, .int .i64 m] w fun e w' => e = .returned (.int .i64 ((m + zs.length : Nat) : Int)) ∧ (∃ r', BlockIs w' g 9 (st (tmarks m zs.length) ++ r')) ∧ w.grownBy w' (some g) := by
  have HB := hid hb
  clear hb
  go_enter Try.func43, Try.ntmps43
  go_wp2
  go_loopg [1, 5] zs.length (fun q y i wr => ∃ (k : Nat), k + q = zs.length ∧ i = .int .i64 k ∧ y = .int .i64 ((m + k : Nat) : Int) ∧ ∃ rest, Hid (rest.length = zs.length - k + r.length) ∧ Hid (BlockIs wr g 9 (st (tmarks m k) ++ rest)) ∧ Hid (w.grownBy wr (some g)))
  case atStart => exact ⟨0, by omega, rfl, rfl, st zs ++ r, by simp [Hid, st], HB, World.grownBy.refl _ _⟩
  case round =>
    obtain ⟨k, hkg, rfl, rfl, rest, hrl, FB, GR⟩ := hrel
    clear HB
    cases gk with
    | zero =>
      have hlt : ¬ (k : Int) < (zs.length : Int) := by omega
      obtain rfl : k = zs.length := by omega
      clear hrl
      go_wp2
      go_ret
      exact ⟨rfl, ⟨_, FB.out⟩, GR.out⟩
    | succ q =>
      have hlt : k < zs.length := by omega
      have hlt' : (k : Int) < (zs.length : Int) := by omega
      have CM := hid (fun w => markText_any (m + k) (by omega) w)
      obtain ⟨K, hK⟩ : ∃ K, m + k = K := ⟨_, rfl⟩
      have hKl : K ≤ 20000000 := by omega
      have HK := hid hK
      rw [hK] at CM ⊢
      clear hK
      go_wp2_with fail
      refine Calls.mono (CM.out _) ?_
      rintro e w2 ⟨rfl, hb2⟩
      obtain ⟨⟨y, y0⟩, f0, hnew⟩ := put_textL (k := k) (mtx K) (FB.out.on hb2 FB.out.lt) (tmarks_length m k) (by rw [hrl.out]; omega)
      rw [← HK.out, ← tmarks_succ, HK.out] at hnew
      have HN := hid hnew
      have HG := hid ((GR.out.trans (grown_of_below hb2 (some g))).trans (grownBy_set w2 g k (.string (mtx K))))
      have HR : Hid ((rest.drop 1).length = zs.length - (k + 1) + r.length) := by show _ = _; rw [List.length_drop, hrl.out]; omega
      clear hnew FB GR hrl hb2 CM
      go_wp2
      go_roundg q
      case measure => omega
      case rel => exact ⟨k + 1, by omega, by go_num, by rw [← show K + 1 = m + (k + 1) by have := HK.out; omega]; go_num, _, HR, HN, HG⟩

end Go.Proofs.Ytpknpodmoeaggab
