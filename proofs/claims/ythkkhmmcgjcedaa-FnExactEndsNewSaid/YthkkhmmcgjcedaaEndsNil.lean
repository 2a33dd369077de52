/-
  The walks of laws.mark.., held.., eq.. over lists that are empty.
-/
import Derived.Test.YthkkhmmcgjcedaaEndsDid
import Derived.Deep.LoopGhost
import Derived.BigQuiet
import Derived.Deep.QuietTactic
import Derived.Lib.QuietBelow
import Derived.Test.YthkkhmmcgjcedaaRows
namespace Go.Proofs.Ythkkhmmcgjcedaa
open Go.RowKit

set_option maxRecDepth 1000000 in
theorem markBitsS_nil (a : Option Addr) (c : Nat) (m : Int) (w : World) : Calls Try.prog 33 #[.slice a 0 c, .int .i64 m] w fun e w' => e = .returned (.int .i64 m) ∧ w' = w := by
  go_enter Try.func33, Try.ntmps33
  go_wp2
  go_loopg [1, 5] 0 (fun _ y i wr => wr = w ∧ i = .int .i64 0 ∧ y = .int .i64 m)
  case atStart => exact ⟨rfl, rfl, rfl⟩
  case round =>
    obtain ⟨rfl, rfl, rfl⟩ := hrel
    go_wp2
    go_ret
    exact ⟨rfl, rfl⟩
set_option maxRecDepth 1000000 in
theorem heldBitsS_nil (a : Option Addr) (c : Nat) (m : Int) (w : World) : Calls Try.prog 35 #[.slice a 0 c, .int .i64 m] w fun e w' => e = .returned (.int .i64 m) ∧ w' = w := by
  go_enter Try.func35, Try.ntmps35
  go_wp2
  go_loopg [1, 5] 0 (fun _ y i wr => wr = w ∧ i = .int .i64 0 ∧ y = .int .i64 m)
  case atStart => exact ⟨rfl, rfl, rfl⟩
  case round =>
    obtain ⟨rfl, rfl, rfl⟩ := hrel
    go_wp2
    go_ret
    exact ⟨rfl, rfl⟩
set_option maxRecDepth 1000000 in
theorem markLateS_nil (a : Option Addr) (c : Nat) (m : Int) (w : World) : Calls Try.prog 32 #[.slice a 0 c, .int .i64 m] w fun e w' => e = .returned (.int .i64 m) ∧ w' = w := by
  go_enter Try.func32, Try.ntmps32
  go_wp2
  go_loopg [1, 5] 0 (fun _ y i wr => wr = w ∧ i = .int .i64 0 ∧ y = .int .i64 m)
  case atStart => exact ⟨rfl, rfl, rfl⟩
  case round =>
    obtain ⟨rfl, rfl, rfl⟩ := hrel
    go_wp2
    go_ret
    exact ⟨rfl, rfl⟩
set_option maxRecDepth 1000000 in
theorem heldLateS_nil (a : Option Addr) (c : Nat) (m : Int) (w : World) : Calls Try.prog 34 #[.slice a 0 c, .int .i64 m] w fun e w' => e = .returned (.int .i64 m) ∧ w' = w := by
  go_enter Try.func34, Try.ntmps34
  go_wp2
  go_loopg [1, 5] 0 (fun _ y i wr => wr = w ∧ i = .int .i64 0 ∧ y = .int .i64 m)
  case atStart => exact ⟨rfl, rfl, rfl⟩
  case round =>
    obtain ⟨rfl, rfl, rfl⟩ := hrel
    go_wp2
    go_ret
    exact ⟨rfl, rfl⟩
set_option maxRecDepth 1000000 in
theorem markStringS_nil (a : Option Addr) (c : Nat) (m : Int) (w : World) : Calls Try.prog 23 #[.slice a 0 c, .int .i64 m] w fun e w' => e = .returned (.int .i64 m) ∧ w' = w := by
  go_enter Try.func23, Try.ntmps23
  go_wp2
  go_loopg [1, 5] 0 (fun _ y i wr => wr = w ∧ i = .int .i64 0 ∧ y = .int .i64 m)
  case atStart => exact ⟨rfl, rfl, rfl⟩
  case round =>
    obtain ⟨rfl, rfl, rfl⟩ := hrel
    go_wp2
    go_ret
    exact ⟨rfl, rfl⟩
set_option maxRecDepth 1000000 in
theorem heldStringS_nil (a : Option Addr) (c : Nat) (m : Int) (w : World) : Calls Try.prog 27 #[.slice a 0 c, .int .i64 m] w fun e w' => e = .returned (.int .i64 m) ∧ w' = w := by
  go_enter Try.func27, Try.ntmps27
  go_wp2
  go_loopg [1, 5] 0 (fun _ y i wr => wr = w ∧ i = .int .i64 0 ∧ y = .int .i64 m)
  case atStart => exact ⟨rfl, rfl, rfl⟩
  case round =>
    obtain ⟨rfl, rfl, rfl⟩ := hrel
    go_wp2
    go_ret
    exact ⟨rfl, rfl⟩
set_option maxRecDepth 1000000 in
theorem markStreamS_nil (a : Option Addr) (c : Nat) (m : Int) (w : World) : Calls Try.prog 20 #[.slice a 0 c, .int .i64 m] w fun e w' => e = .returned (.int .i64 m) ∧ w' = w := by
  go_enter Try.func20, Try.ntmps20
  go_wp2
  go_loopg [1, 5] 0 (fun _ y i wr => wr = w ∧ i = .int .i64 0 ∧ y = .int .i64 m)
  case atStart => exact ⟨rfl, rfl, rfl⟩
  case round =>
    obtain ⟨rfl, rfl, rfl⟩ := hrel
    go_wp2
    go_ret
    exact ⟨rfl, rfl⟩
set_option maxRecDepth 1000000 in
theorem heldStreamS_nil (a : Option Addr) (c : Nat) (m : Int) (w : World) : Calls Try.prog 24 #[.slice a 0 c, .int .i64 m] w fun e w' => e = .returned (.int .i64 m) ∧ w' = w := by
  go_enter Try.func24, Try.ntmps24
  go_wp2
  go_loopg [1, 5] 0 (fun _ y i wr => wr = w ∧ i = .int .i64 0 ∧ y = .int .i64 m)
  case atStart => exact ⟨rfl, rfl, rfl⟩
  case round =>
    obtain ⟨rfl, rfl, rfl⟩ := hrel
    go_wp2
    go_ret
    exact ⟨rfl, rfl⟩
set_option maxRecDepth 1000000 in
theorem markBitsSS_nil (a : Option Addr) (c : Nat) (m : Int) (w : World) : Calls Try.prog 21 #[.slice a 0 c, .int .i64 m] w fun e w' => e = .returned (.int .i64 m) ∧ w' = w := by
  go_enter Try.func21, Try.ntmps21
  go_wp2
  go_loopg [1, 5] 0 (fun _ y i wr => wr = w ∧ i = .int .i64 0 ∧ y = .int .i64 m)
  case atStart => exact ⟨rfl, rfl, rfl⟩
  case round =>
    obtain ⟨rfl, rfl, rfl⟩ := hrel
    go_wp2
    go_ret
    exact ⟨rfl, rfl⟩
set_option maxRecDepth 1000000 in
theorem heldBitsSS_nil (a : Option Addr) (c : Nat) (m : Int) (w : World) : Calls Try.prog 25 #[.slice a 0 c, .int .i64 m] w fun e w' => e = .returned (.int .i64 m) ∧ w' = w := by
  go_enter Try.func25, Try.ntmps25
  go_wp2
  go_loopg [1, 5] 0 (fun _ y i wr => wr = w ∧ i = .int .i64 0 ∧ y = .int .i64 m)
  case atStart => exact ⟨rfl, rfl, rfl⟩
  case round =>
    obtain ⟨rfl, rfl, rfl⟩ := hrel
    go_wp2
    go_ret
    exact ⟨rfl, rfl⟩
set_option maxRecDepth 1000000 in
theorem eqBitsS_nil (a b : Option Addr) (c d : Nat) (w : World) : Calls Try.prog 30 #[.slice a 0 c, .slice b 0 d] w fun e w' => e = .returned (.bool true) ∧ w' = w := by
  go_enter Try.func30, Try.ntmps30
  go_wp2
  go_loopg [5] 0 (fun _ i wr => wr = w ∧ i = .int .i64 0)
  case atStart => exact ⟨rfl, rfl⟩
  case round =>
    obtain ⟨rfl, rfl⟩ := hrel
    go_wp2
    go_ret
    exact ⟨rfl, rfl⟩
set_option maxRecDepth 1000000 in
theorem eqStringS_nil (a b : Option Addr) (c d : Nat) (w : World) : Calls Try.prog 19 #[.slice a 0 c, .slice b 0 d] w fun e w' => e = .returned (.bool true) ∧ w' = w := by
  go_enter Try.func19, Try.ntmps19
  go_wp2
  go_loopg [5] 0 (fun _ i wr => wr = w ∧ i = .int .i64 0)
  case atStart => exact ⟨rfl, rfl⟩
  case round =>
    obtain ⟨rfl, rfl⟩ := hrel
    go_wp2
    go_ret
    exact ⟨rfl, rfl⟩
set_option maxRecDepth 1000000 in
theorem eqStreamS_nil (a b : Option Addr) (c d : Nat) (w : World) : Calls Try.prog 16 #[.slice a 0 c, .slice b 0 d] w fun e w' => e = .returned (.bool true) ∧ w' = w := by
  go_enter Try.func16, Try.ntmps16
  go_wp2
  go_loopg [5] 0 (fun _ i wr => wr = w ∧ i = .int .i64 0)
  case atStart => exact ⟨rfl, rfl⟩
  case round =>
    obtain ⟨rfl, rfl⟩ := hrel
    go_wp2
    go_ret
    exact ⟨rfl, rfl⟩
set_option maxRecDepth 1000000 in
theorem eqBitsSS_nil (a b : Option Addr) (c d : Nat) (w : World) : Calls Try.prog 17 #[.slice a 0 c, .slice b 0 d] w fun e w' => e = .returned (.bool true) ∧ w' = w := by
  go_enter Try.func17, Try.ntmps17
  go_wp2
  go_loopg [5] 0 (fun _ i wr => wr = w ∧ i = .int .i64 0)
  case atStart => exact ⟨rfl, rfl⟩
  case round =>
    obtain ⟨rfl, rfl⟩ := hrel
    go_wp2
    go_ret
    exact ⟨rfl, rfl⟩
set_option maxRecDepth 1000000 in
theorem markBitsSS_two (q : Nat) (a1 a2 : Option Addr) (c1 c2 : Nat) (m : Int) (hm : 0 ≤ m) (w : World) (h : BlockIs w q 45 [.slice a1 0 c1, .slice a2 0 c2]) : Calls Try.prog 21 #[.slice (some ⟨q, 0, none⟩) 2 2, .int .i64 m] w fun e w' => e = .returned (.int .i64 m) ∧ w' = w := by
  have k0 := h.cell (j := 0) rfl
  have k1 := h.cell (j := 1) rfl
  have _hm0 := hm
  clear h hm
  go_enter Try.func21, Try.ntmps21
  go_wp2
  go_loopg [1, 5] 2 (fun n y i wr => wr = w ∧ y = .int .i64 m ∧ ∃ k : Nat, k + n = 2 ∧ i = .int .i64 k)
  case atStart => exact ⟨rfl, rfl, 0, rfl, rfl⟩
  case round =>
    obtain ⟨hwr, rfl, k, hk, rfl⟩ := hrel
    rw [hwr]
    clear hwr wr
    obtain rfl | rfl | rfl : k = 0 ∨ k = 1 ∨ k = 2 := by omega
    · go_wp2_with fail
      refine (markBitsS_nil a1 c1 m _).mono ?_
      rintro e w1 ⟨rfl, hw1⟩
      rw [hw1]
      clear hw1 w1
      go_wp2
      go_roundg (gk - 1)
      case measure => omega
      case rel => exact ⟨rfl, rfl, 1, by omega, by go_num⟩
    · go_wp2_with fail
      refine (markBitsS_nil a2 c2 m _).mono ?_
      rintro e w1 ⟨rfl, hw1⟩
      rw [hw1]
      clear hw1 w1
      go_wp2
      go_roundg (gk - 1)
      case measure => omega
      case rel => exact ⟨rfl, rfl, 2, by omega, by go_num⟩
    · go_wp2
      go_ret
      exact ⟨rfl, rfl⟩
set_option maxRecDepth 1000000 in
theorem heldBitsSS_two (q : Nat) (a1 a2 : Option Addr) (c1 c2 : Nat) (m : Int) (hm : 0 ≤ m) (w : World) (h : BlockIs w q 45 [.slice a1 0 c1, .slice a2 0 c2]) : Calls Try.prog 25 #[.slice (some ⟨q, 0, none⟩) 2 2, .int .i64 m] w fun e w' => e = .returned (.int .i64 m) ∧ w' = w := by
  have k0 := h.cell (j := 0) rfl
  have k1 := h.cell (j := 1) rfl
  have hm0 : ¬ m < 0 := by omega
  clear h hm
  go_enter Try.func25, Try.ntmps25
  go_wp2
  go_loopg [1, 5] 2 (fun n y i wr => wr = w ∧ y = .int .i64 m ∧ ∃ k : Nat, k + n = 2 ∧ i = .int .i64 k)
  case atStart => exact ⟨rfl, rfl, 0, rfl, rfl⟩
  case round =>
    obtain ⟨hwr, rfl, k, hk, rfl⟩ := hrel
    rw [hwr]
    clear hwr wr
    obtain rfl | rfl | rfl : k = 0 ∨ k = 1 ∨ k = 2 := by omega
    · go_wp2_with fail
      refine (heldBitsS_nil a1 c1 m _).mono ?_
      rintro e w1 ⟨rfl, hw1⟩
      rw [hw1]
      clear hw1 w1
      go_wp2
      go_roundg (gk - 1)
      case measure => omega
      case rel => exact ⟨rfl, rfl, 1, by omega, by go_num⟩
    · go_wp2_with fail
      refine (heldBitsS_nil a2 c2 m _).mono ?_
      rintro e w1 ⟨rfl, hw1⟩
      rw [hw1]
      clear hw1 w1
      go_wp2
      go_roundg (gk - 1)
      case measure => omega
      case rel => exact ⟨rfl, rfl, 2, by omega, by go_num⟩
    · go_wp2
      go_ret
      exact ⟨rfl, rfl⟩
set_option maxRecDepth 1000000 in
theorem eqBitsSS_two (q q' : Nat) (a1 a2 b1 b2 : Option Addr) (c1 c2 d1 d2 : Nat) (w : World) (h : BlockIs w q 45 [.slice a1 0 c1, .slice a2 0 c2]) (h' : BlockIs w q' 45 [.slice b1 0 d1, .slice b2 0 d2]) : Calls Try.prog 17 #[.slice (some ⟨q, 0, none⟩) 2 2, .slice (some ⟨q', 0, none⟩) 2 2] w fun e w' => e = .returned (.bool true) ∧ Below w.heap.size w w' := by
  have H := hid h
  have H' := hid h'
  clear h h'
  go_enter Try.func17, Try.ntmps17
  go_wp2
  go_loopg [5] 2 (fun n i wr => Hid (Below w.heap.size w wr) ∧ ∃ k : Nat, k + n = 2 ∧ i = .int .i64 k)
  case atStart => exact ⟨(show Below _ _ _ from Below.refl _ _), 0, rfl, rfl⟩
  case round =>
    obtain ⟨BR, k, hk, rfl⟩ := hrel
    have g := H.out.on BR.out H.out.lt
    have g' := H'.out.on BR.out H'.out.lt
    have k0 := g.cell (j := 0) rfl
    have k1 := g.cell (j := 1) rfl
    have j0 := g'.cell (j := 0) rfl
    have j1 := g'.cell (j := 1) rfl
    clear g g'
    have C1 := hid (fun w => eqBitsS_nil a1 b1 c1 d1 w)
    have C2 := hid (fun w => eqBitsS_nil a2 b2 c2 d2 w)
    obtain rfl | rfl | rfl : k = 0 ∨ k = 1 ∨ k = 2 := by omega
    · go_wp2
      go_quiet (first | (go_at_call 30; with_reducible refine Calls.quiet_of_same (C1.out _)) | fail)
      have BL := hid (below_via BR.out (below_drewN (Below.refl _ _) nq))
      go_wp2
      go_roundg (gk - 1)
      case measure => omega
      case rel => exact ⟨BL, 1, by omega, by go_num⟩
    · go_wp2
      go_quiet (first | (go_at_call 30; with_reducible refine Calls.quiet_of_same (C2.out _)) | fail)
      have BL := hid (below_via BR.out (below_drewN (Below.refl _ _) nq))
      go_wp2
      go_roundg (gk - 1)
      case measure => omega
      case rel => exact ⟨BL, 2, by omega, by go_num⟩
    · go_wp2
      go_ret
      exact ⟨rfl, BR.out⟩
end Go.Proofs.Ythkkhmmcgjcedaa
