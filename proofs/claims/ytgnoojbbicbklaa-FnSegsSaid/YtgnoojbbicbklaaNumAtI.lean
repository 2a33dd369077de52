/-
  The walk of impl.numAt: a number out of two bytes of a text.
-/
import Derived.Test.YtgnoojbbicbklaaBlock
import Derived.Test.YtgnoojbbicbklaaRows
import Derived.BigRegion
import Derived.BigQuiet
import Derived.Deep.QuietTactic
import Derived.Laws.BitsAllLaws
import Derived.WalkKit
namespace Go.Proofs.Ytgnoojbbicbklaa
open Go.RowKit

theorem bits_or16 {x y : Int} (h1 : 0 ≤ x) (h2 : x ≤ 255) (h3 : 0 ≤ y) (h4 : y ≤ 255) : bits .or .u16 (x * 256) y = 256 * x + y := by
  obtain ⟨a, rfl⟩ : ∃ n : Nat, x = n := ⟨x.toNat, by omega⟩
  obtain ⟨b, rfl⟩ : ∃ n : Nat, y = n := ⟨y.toNat, by omega⟩
  have e1 : (BitVec.ofInt 16 ((a : Int) * 256)).toNat = 2 ^ 8 * a := by rw [BitVec.toNat_ofInt]; omega
  have e2 : (BitVec.ofInt 16 (b : Int)).toNat = b := by rw [BitVec.toNat_ofInt]; omega
  have key : (BitVec.ofInt 16 ((a : Int) * 256) ||| BitVec.ofInt 16 (b : Int)).toNat = 2 ^ 8 * a + b := by
    rw [BitVec.toNat_or, e1, e2, Nat.two_pow_add_eq_or_of_lt (by omega : b < 2 ^ 8)]
  show IntKind.u16.wrap ((BitVec.ofInt 16 ((a : Int) * 256) ||| BitVec.ofInt 16 (b : Int)).toNat : Nat) = _
  rw [key, IntKind.wrap_u16]
  omega

set_option maxRecDepth 1000000 in
set_option maxHeartbeats 1000000 in
theorem numAt_0 (s : ByteArray) (h : 1 < s.size) (hs : s.size ≤ 1048576) (w : World) :
    Calls Try.prog 35 #[.string s, .int .i64 0] w fun e w' => e = .returned (.int .u16 ((256 : Int) * ((s[0]'(by omega)).toNat : Int) + ((s[1]'h).toNat : Int))) ∧ Below w.heap.size w w' := by
  have hk0 : 0 < s.size := by omega
  have hk : (0 : Int) < (s.size : Int) := by omega
  have hk1 : (1 : Int) < (s.size : Int) := by omega
  have hb0 : ((s[0]'hk0).toNat : Int) ≤ 255 := by have := (s[0]'hk0).toNat_lt; omega
  have hb1 : ((s[1]'h).toNat : Int) ≤ 255 := by have := (s[1]'h).toNat_lt; omega
  have hor := bits_or16 (Int.natCast_nonneg _) hb0 (Int.natCast_nonneg _) hb1
  obtain ⟨x, hx⟩ : ∃ x : Int, ((s[0]'hk0).toNat : Int) = x := ⟨_, rfl⟩
  obtain ⟨y, hy⟩ : ∃ x : Int, ((s[1]'h).toNat : Int) = x := ⟨_, rfl⟩
  rw [hx] at hb0 hor
  rw [hy] at hb1 hor
  have hx0 : 0 ≤ x := by omega
  have hy0 : 0 ≤ y := by omega
  have hwx : IntKind.u16.wrap x = x := by rw [IntKind.wrap_u16]; omega
  have hwy : IntKind.u16.wrap y = y := by rw [IntKind.wrap_u16]; omega
  have hwz : IntKind.u16.wrap (x * 256) = x * 256 := by rw [IntKind.wrap_u16]; omega
  go_enter Try.func35, Try.ntmps35
  go_wp2
  go_region
  go_wp2
  go_ret
  exact ⟨by rw [hx, hy]; rfl, below_drewN (Below.refl _ _) 1⟩
set_option maxRecDepth 1000000 in
set_option maxHeartbeats 1000000 in
theorem numAt_2 (s : ByteArray) (h : 3 < s.size) (hs : s.size ≤ 1048576) (w : World) :
    Calls Try.prog 35 #[.string s, .int .i64 2] w fun e w' => e = .returned (.int .u16 ((256 : Int) * ((s[2]'(by omega)).toNat : Int) + ((s[3]'h).toNat : Int))) ∧ Below w.heap.size w w' := by
  have hk0 : 2 < s.size := by omega
  have hk : (2 : Int) < (s.size : Int) := by omega
  have hk1 : (3 : Int) < (s.size : Int) := by omega
  have hb0 : ((s[2]'hk0).toNat : Int) ≤ 255 := by have := (s[2]'hk0).toNat_lt; omega
  have hb1 : ((s[3]'h).toNat : Int) ≤ 255 := by have := (s[3]'h).toNat_lt; omega
  have hor := bits_or16 (Int.natCast_nonneg _) hb0 (Int.natCast_nonneg _) hb1
  obtain ⟨x, hx⟩ : ∃ x : Int, ((s[2]'hk0).toNat : Int) = x := ⟨_, rfl⟩
  obtain ⟨y, hy⟩ : ∃ x : Int, ((s[3]'h).toNat : Int) = x := ⟨_, rfl⟩
  rw [hx] at hb0 hor
  rw [hy] at hb1 hor
  have hx0 : 0 ≤ x := by omega
  have hy0 : 0 ≤ y := by omega
  have hwx : IntKind.u16.wrap x = x := by rw [IntKind.wrap_u16]; omega
  have hwy : IntKind.u16.wrap y = y := by rw [IntKind.wrap_u16]; omega
  have hwz : IntKind.u16.wrap (x * 256) = x * 256 := by rw [IntKind.wrap_u16]; omega
  go_enter Try.func35, Try.ntmps35
  go_wp2
  go_region
  go_wp2
  go_ret
  exact ⟨by rw [hx, hy]; rfl, below_drewN (Below.refl _ _) 1⟩
end Go.Proofs.Ytgnoojbbicbklaa
