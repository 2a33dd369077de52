/-
  The walks of the drawer: a cursor over drawn bytes yields numbers within their bounds, and writes nothing but itself.
-/
import Derived.Test.YtoanhjjigbjecaaGreatDoorRows
import Derived.Test.YtoanhjjigbjecaaGreatDoorJoint1
import Derived.BigQuiet
import Derived.WalkSmall
import Derived.WalkKit
namespace Go.Proofs.YtoanhjjigbjecaaGreatDoor
open Go.RowKit

theorem i64_and255 (n : Int) : bits .and .i64 n 255 = n % 256 := by
  have e : (BitVec.ofInt 64 255).toNat = 2 ^ 8 - 1 := by decide
  have key : (BitVec.ofInt 64 n &&& BitVec.ofInt 64 255).toNat = (n % ((2 ^ 64 : Nat) : Int)).toNat % 2 ^ 8 := by
    rw [BitVec.toNat_and, BitVec.toNat_ofInt, e, Nat.and_two_pow_sub_one_eq_mod]
  show IntKind.i64.wrap ((BitVec.ofInt 64 n &&& BitVec.ofInt 64 255).toNat : Nat) = n % 256
  rw [key, IntKind.wrap_i64]
  omega

/-- block C is a cursor over bytes that lie elsewhere -/
def CurAt (w : World) (C : Nat) : Prop :=
  ∃ (ao : Option Addr) (len cap i : Nat) (h : Int) (t : TypeId), w.heap[C]? = some (.cells #[.slice ao len cap, .int .i64 i, .int .i64 h] t (0, 0)) ∧ i ≤ len ∧ len ≤ 1048576 ∧ len ≤ cap ∧
    (0 < len → ∃ b off, ao = some ⟨b, off, none⟩ ∧ b < C ∧ ∀ j, j < len → ∃ z : Int, 0 ≤ z ∧ z ≤ 255 ∧ w.cell? ⟨b, off + j, none⟩ = some (.int .u8 z))

theorem cur_set2 {w : World} {C : Nat} {a b c d : Value} {t : TypeId} (h : w.heap[C]? = some (.cells #[a, b, c] t (0, 0))) : (w.setCell ⟨C, 2, none⟩ d).heap[C]? = some (.cells #[a, b, d] t (0, 0)) := by
  simp only [World.setCell]
  rw [Array.getElem?_modify, if_pos rfl, h]
  rfl
theorem cur_set1 {w : World} {C : Nat} {a b c d : Value} {t : TypeId} (h : w.heap[C]? = some (.cells #[a, b, c] t (0, 0))) : (w.setCell ⟨C, 1, none⟩ d).heap[C]? = some (.cells #[a, d, c] t (0, 0)) := by
  simp only [World.setCell]
  rw [Array.getElem?_modify, if_pos rfl, h]
  rfl
theorem grown_drewN {w w' : World} {r : Option Nat} (h : w.grownBy w' r) (n : Nat) : w.grownBy (w'.drewN n) r := ⟨h.os, h.tape, h.output, h.size, h.block⟩
theorem far_cell {w w' : World} {C b o : Nat} (hg : w.grownBy w' (some C)) (hb : b ≠ C) {v : Value} (h : w.cell? ⟨b, o, none⟩ = some v) : w'.cell? ⟨b, o, none⟩ = some v :=
  hg.cell h (by simp; omega)

set_option maxRecDepth 1000000 in
set_option maxHeartbeats 1000000 in
theorem l01Byte_any (C : Nat) (w : World) (hc : CurAt w C) :
    Calls Tryz.prog 46 #[.pointer (some ⟨C, 0, none⟩)] w fun e w' => ∃ x : Int, e = .returned (.int .i64 x) ∧ 0 ≤ x ∧ x ≤ 255 ∧ CurAt w' C ∧ w.grownBy w' (some C) := by
  obtain ⟨ao, len, cap, i, h, t, hb, hi, hlen, hcap, hrow⟩ := hc
  have c0 : w.cell? ⟨C, 0, none⟩ = some (.slice ao len cap) := by simp [World.cell?, hb]
  have c1 : w.cell? ⟨C, 1, none⟩ = some (.int .i64 i) := by simp [World.cell?, hb]
  have c2 : w.cell? ⟨C, 2, none⟩ = some (.int .i64 h) := by simp [World.cell?, hb]
  have z1 : w.frozen? ⟨C, 1, none⟩ = false := by simp [World.frozen?, hb]
  have z2 : w.frozen? ⟨C, 2, none⟩ = false := by simp [World.frozen?, hb]
  have HB := (show Hid _ from hb)
  have HR := (show Hid _ from hrow)
  clear hb hrow
  by_cases hlt : i < len
  · obtain ⟨b, off, rfl, hbC, hcell⟩ := HR.out (by omega)
    obtain ⟨z, hz0, hz1, cz⟩ := hcell i hlt
    have HC := (show Hid _ from hcell)
    clear hcell
    have hbN : b ≠ C := by omega
    have cz' : ∀ v, (w.setCell ⟨C, 2, none⟩ v).cell? ⟨b, off + i, none⟩ = some (.int .u8 z) := fun v => far_cell (grownBy_set w C 2 v) hbN cz
    have k1 : (i : Int) < (len : Int) := by omega
    go_enter Tryz.func46, Tryz.ntmps46
    go_wp2
    go_quiet (fail)
    go_wp2
    go_quiet (fail)
    go_wp2
    go_quiet (fail)
    go_wp2
    go_ret
    refine ⟨_, rfl, ?_, ?_, ⟨some ⟨b, off, none⟩, len, cap, i + 1, _, t, cur_set1 (cur_set2 HB.out), by omega, hlen, hcap, ?_⟩, (grown_drewN (grownBy_set w C 2 _) _).trans (grownBy_set _ C 1 _)⟩
    · rw [i64_and255]; omega
    · rw [i64_and255]; omega
    · intro _
      refine ⟨b, off, rfl, hbC, fun j hj => ?_⟩
      obtain ⟨z, hz0, hz1, hz⟩ := HC.out j hj
      exact ⟨z, hz0, hz1, far_cell ((grown_drewN (grownBy_set w C 2 _) _).trans (grownBy_set _ C 1 _)) hbN hz⟩
  · go_enter Tryz.func46, Tryz.ntmps46
    go_wp2
    go_quiet (fail)
    go_wp2
    go_quiet (fail)
    go_wp2
    go_ret
    refine ⟨_, rfl, ?_, ?_, ⟨ao, len, cap, i, _, t, cur_set2 HB.out, hi, hlen, hcap, ?_⟩, grown_drewN (grown_drewN (grownBy_set w C 2 _) _) _⟩
    · rw [i64_and255]; omega
    · rw [i64_and255]; omega
    · intro h0
      obtain ⟨b, off, e1, e2, e3⟩ := HR.out h0
      refine ⟨b, off, e1, e2, fun j hj => ?_⟩
      obtain ⟨z, hz0, hz1, hz⟩ := e3 j hj
      exact ⟨z, hz0, hz1, far_cell (grownBy_set w C 2 _) (by omega) hz⟩

set_option maxRecDepth 1000000 in
set_option maxHeartbeats 1000000 in
theorem l01Below_any (C : Nat) (n : Int) (hn : 0 < n) (hn2 : n ≤ 1000000000000) (w : World) (hc : CurAt w C) :
    Calls Tryz.prog 20 #[.pointer (some ⟨C, 0, none⟩), .int .i64 n] w fun e w' => ∃ x : Int, e = .returned (.int .i64 x) ∧ 0 ≤ x ∧ x < n ∧ CurAt w' C ∧ w.grownBy w' (some C) := by
  have HC := (show Hid (CurAt w C) from hc)
  clear hc
  have g0 : ¬ n ≤ 0 := by omega
  have g1 : (n == 0) = false := by rw [beq_eq_false_iff_ne]; omega
  by_cases h : n ≤ 256
  · go_enter Tryz.func20, Tryz.ntmps20
    go_wp2_with (go_at_call 46; refine (l01Byte_any C _ HC.out).mono ?_; rintro e w1 ⟨x, rfl, x0, x1, k1, q1⟩; have K1 := (show Hid (CurAt w1 C) from k1); have Q1 := (show Hid _ from q1); clear k1 q1)
    go_ret
    refine ⟨_, rfl, ?_, ?_, K1.out, Q1.out⟩
    · exact Int.emod_nonneg _ (by omega)
    · exact Int.emod_lt_of_pos _ hn
  · go_enter Tryz.func20, Tryz.ntmps20
    go_wp2_with fail
    refine (l01Byte_any C _ HC.out).mono ?_
    rintro e w1 ⟨x, rfl, x0, x1, k1, q1⟩
    have K1 := (show Hid (CurAt w1 C) from k1)
    have Q1 := (show Hid _ from q1)
    clear k1 q1
    go_wp2_with fail
    refine (l01Byte_any C _ K1.out).mono ?_
    rintro e w2 ⟨y, rfl, y0, y1, k2, q2⟩
    have K2 := (show Hid (CurAt w2 C) from k2)
    have Q2 := (show Hid _ from q2)
    clear k2 q2
    go_wp2_with fail
    refine (l01Byte_any C _ K2.out).mono ?_
    rintro e w3 ⟨z, rfl, z0, z1, k3, q3⟩
    have K3 := (show Hid (CurAt w3 C) from k3)
    have Q3 := (show Hid _ from q3)
    clear k3 q3
    go_wp2_with fail
    refine (l01Byte_any C _ K3.out).mono ?_
    rintro e w4 ⟨v, rfl, v0, v1, k4, q4⟩
    have K4 := (show Hid (CurAt w4 C) from k4)
    have Q4 := (show Hid _ from q4)
    clear k4 q4
    go_wp2
    go_ret
    refine ⟨_, rfl, ?_, ?_, K4.out, ((World.grownBy.trans Q1.out Q2.out).trans Q3.out).trans Q4.out⟩
    · exact Int.emod_nonneg _ (by omega)
    · exact Int.emod_lt_of_pos _ hn


theorem CurAt.lt {w : World} {C : Nat} (h : CurAt w C) : C < w.heap.size := by
  obtain ⟨ao, len, cap, i, hh, t, hb, _⟩ := h
  rcases Nat.lt_or_ge C w.heap.size with q | q
  · exact q
  · rw [Array.getElem?_eq_none q] at hb; cases hb

/-- a cursor stays one while blocks behind it are laid or written -/
theorem CurAt.kept {w w' : World} {C : Nat} {row : Option Nat} (h : CurAt w C) (hg : w.grownBy w' row) (hr : ∀ k, row = some k → C < k) : CurAt w' C := by
  have hlt := h.lt
  obtain ⟨ao, len, cap, i, hh, t, hb, h1, h2, h3, h4⟩ := h
  refine ⟨ao, len, cap, i, hh, t, ?_, h1, h2, h3, fun h0 => ?_⟩
  · rw [hg.block C hlt (fun e => by have := hr C e.symm; omega)]
    exact hb
  · obtain ⟨b, off, e1, e2, e3⟩ := h4 h0
    refine ⟨b, off, e1, e2, fun j hj => ?_⟩
    obtain ⟨z, z0, z1, hz⟩ := e3 j hj
    exact ⟨z, z0, z1, hg.cell hz (fun e => by have := hr b e.symm; omega)⟩
end Go.Proofs.YtoanhjjigbjecaaGreatDoor
