/-
  The walk of laws.heldBitsS; marks over a list of bits of the call's own.
-/
import Derived.Test.YtpknpodmoeaggabBitsMark
import Derived.Test.YtpknpodmoeaggabTextHeld
namespace Go.Proofs.Ytpknpodmoeaggab
open Go.RowKit

set_option maxRecDepth 1000000 in
set_option maxHeartbeats 4000000 in
theorem heldBitsS_any (ao : Option Addr) (l : List BitD) (cap m : Nat) (hm : m ≤ 1000) (hl : l.length ≤ 1048576) (hc : cntBs l ≤ 6000000) (hs : ∀ e ∈ l, SmallB e) (w : World) (ha : BitsHold w ao (markBs m l)) :
    Calls Try.prog 23 #[.slice ao l.length cap, .int .i64 m] w fun e w' => e = .returned (.int .i64 ((m + cntBs l : Nat) : Int)) ∧ Below w.heap.size w w' := by
  have HA := hid ha
  have HSM := hid hs
  clear ha hs
  go_enter Try.func23, Try.ntmps23
  go_wp2
  go_loopg [1, 5] l.length (fun q y i wr => ∃ (k : Nat), k + q = l.length ∧ i = .int .i64 k ∧ y = .int .i64 ((m + cntBs (l.take k) : Nat) : Int) ∧ Hid (Below w.heap.size w wr))
  case atStart => exact ⟨0, by omega, rfl, rfl, (show Below _ _ _ from Below.refl _ _)⟩
  case round =>
    obtain ⟨k, hkg, rfl, rfl, BR⟩ := hrel
    cases gk with
    | zero =>
      have hlt : ¬ (k : Int) < (l.length : Int) := by omega
      rw [List.take_of_length_le (show l.length ≤ k by omega)]
      go_wp2
      go_ret
      exact ⟨rfl, BR.out⟩
    | succ q =>
      have hlt : k < l.length := by omega
      have hlt' : (k : Int) < (l.length : Int) := by omega
      have hct := cntBs_take l k hlt
      have hcl := cntBs_le l (k + 1)
      have hsm := HSM.out _ (List.getElem_mem hlt)
      obtain ⟨rs0, hat, htwo⟩ := HA.out.on BR.out
      have hll := htwo.length
      rw [markBs_length] at hll
      have hkm : k < (markBs m l).length := by rw [markBs_length]; exact hlt
      have hkr : k < rs0.length := by omega
      have hho := htwo.get k hkm hkr
      rw [markBs_get m l k hlt hkm] at hho
      obtain ⟨b, off, rfl, hc6⟩ := hat (by intro e; rw [e] at hkr; simp at hkr)
      obtain ⟨x0, x1, x2, x3, x4, x5⟩ := hc6 k hkr
      obtain ⟨R, hR⟩ : ∃ R, rs0[k] = R := ⟨_, rfl⟩
      rw [hR] at x0 x1 x2 x3 x4 x5 hho
      obtain ⟨e, he⟩ : ∃ e, l[k] = e := ⟨_, rfl⟩
      rw [he] at hct hho hsm
      obtain ⟨K, hK⟩ : ∃ K, m + cntBs (l.take k) = K := ⟨_, rfl⟩
      have hKl : K + e.texts.length + e.ats.length ≤ 7000000 := by unfold cntB at hct; omega
      rw [hK] at hho ⊢
      have HCT : Hid (m + cntBs (l.take (k + 1)) = K + e.texts.length + e.ats.length + 4) := (show _ = _ by unfold cntB at hct; omega)
      obtain ⟨ta, tc, aa, ac, hRe, ht, hz⟩ := hho
      subst hRe
      obtain ⟨hs1, hs2, _⟩ := hsm
      obtain ⟨K2, hK2⟩ : ∃ K2, K + 2 + e.texts.length = K2 := ⟨_, rfl⟩
      obtain ⟨K3, hK3⟩ : ∃ K3, K2 + e.ats.length = K3 := ⟨_, rfl⟩
      have hK3l : K3 ≤ 8000000 := by omega
      have HK2 := hid hK2
      have HK3 := hid hK3
      simp only [rawB, markB, tmarks_length, countFrom_length, hK2, hK3] at x0 x1 x2 x3 x4 x5 ht hz
      rw [show (((K + 1 : Nat)) : Int) = (K : Int) + 1 by omega] at x1
      rw [show (((K3 + 1 : Nat)) : Int) = (K3 : Int) + 1 by omega] at x5
      have CT := hid (heldStringS_vals ta e.texts.length tc (K + 2) (by omega) hs1 wr ht)
      rw [hK2, show (((K + 2 : Nat)) : Int) = (K : Int) + 1 + 1 by omega] at CT
      have HZ := hid hz
      have X3 := hid x3
      have X4 := hid x4
      have X5 := hid x5
      clear hat htwo hll hkm hc6 hR he hct hcl ht hz x3 x4 x5 hK2 hK3 hK
      go_wp2_with fail
      refine Calls.mono CT.out ?_
      rintro e9 w2 ⟨rfl, b2⟩
      have B2 := hid (below_via BR.out b2)
      have x3 := (b2.cell (p := ⟨b, off + k * 6 + 3, none⟩) (World.block_lt_of_cell? wr _ X3.out)).trans X3.out
      have x4 := (b2.cell (p := ⟨b, off + k * 6 + 4, none⟩) (World.block_lt_of_cell? wr _ X4.out)).trans X4.out
      have x5 := (b2.cell (p := ⟨b, off + k * 6 + 5, none⟩) (World.block_lt_of_cell? wr _ X5.out)).trans X5.out
      have hK2b : K2 ≤ 8000000 := by have := HK3.out; omega
      have CI := hid (heldIntS_any aa e.ats.length ac K2 (by omega) hs2 w2 (HZ.out.on b2).ints)
      have hk3 := HK3.out
      rw [hk3] at CI
      clear CT x0 x1 x2 X3 X4 X5 b2 HZ hk3
      go_wp2_with fail
      refine Calls.mono CI.out ?_
      rintro e9 w3 ⟨rfl, hw⟩
      rw [hw]
      clear hw w3 CI
      have HY : Hid (m + cntBs (l.take (k + 1)) = K3 + 2) := (show _ = _ by rw [HCT.out]; have := HK2.out; have := HK3.out; omega)
      go_wp2
      go_roundg q
      case measure => omega
      case rel => exact ⟨k + 1, by omega, by go_num, by rw [HY.out]; go_num, B2⟩
set_option maxRecDepth 1000000 in
/-- a list of bits of the call's own, written over with marks -/
theorem markBitsS_o (m : Nat) (va : Option Addr) (vc : Nat) (l : List BitD) (lo hi : Nat) (hm : m ≤ 1000) (hl : l.length ≤ 1048576) (hc : cntBs l ≤ 6000000) (hs : ∀ e ∈ l, SmallB e) (w : World) (hlo : lo ≤ w.heap.size) (hhi : hi ≤ w.heap.size) (h : OwnBits w va l lo hi) :
    Calls Try.prog 22 #[.slice va l.length vc, .int .i64 m] w fun e w' => e = .returned (.int .i64 ((m + cntBs l : Nat) : Int)) ∧ BitsHold w' va (markBs m l) ∧ KeptBut lo hi w w' ∧ Below lo w w' := by
  obtain ⟨rs, h1, h2⟩ := h
  rcases h1 with h0 | ⟨g, r, rfl, g1, g2, g3⟩
  · obtain rfl : l = [] := List.length_eq_zero_iff.1 (h2.length.trans h0)
    have C : Calls Try.prog 22 #[.slice va 0 vc, .int .i64 m] w fun e w' => e = .returned (.int .i64 m) ∧ w' = w := by
      go_enter Try.func22, Try.ntmps22
      go_wp2
      go_loopg [1, 5] 0 (fun _ y i wr => wr = w ∧ i = .int .i64 0 ∧ y = .int .i64 m)
      case atStart => exact ⟨rfl, rfl, rfl⟩
      case round =>
        obtain ⟨rfl, rfl, rfl⟩ := hrel
        go_wp2
        go_ret
        exact ⟨rfl, rfl⟩
    refine Calls.mono C ?_
    rintro e w' ⟨rfl, hw'⟩
    rw [hw']
    exact ⟨rfl, ⟨[], fun h => absurd rfl h, trivial⟩, fun j t cs _ hb => hb, Below.refl _ _⟩
  · refine (markBitsS_more g l vc m lo hi rs r hm hl hc hs w hhi g1 g2 g3 h2).mono ?_
    rintro e w' ⟨rfl, ⟨rs', k1, k2⟩, k3, k4⟩
    exact ⟨rfl, ⟨rs', bitssAt_of k1, k2.holds⟩, k3, k4⟩
end Go.Proofs.Ytpknpodmoeaggab
