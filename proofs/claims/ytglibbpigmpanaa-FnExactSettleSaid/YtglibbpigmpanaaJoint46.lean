/-
  The walk of laws.markIntS: a list of numbers written over.
  The walks of laws.markIntS and laws.heldIntS over a list of numbers that the call's answer owns: written over, and held against what was written.
-/
import Derived.Test.YtglibbpigmpanaaJoint1
namespace Go.Proofs.Ytglibbpigmpanaa
open Go.RowKit

/-- numbers from m on -/
def countFrom (m n : Nat) : List Int := (List.range n).map fun i => ((m + i : Nat) : Int)
theorem countFrom_length (m n : Nat) : (countFrom m n).length = n := by simp [countFrom]
theorem countFrom_succ (m n : Nat) : countFrom m (n + 1) = countFrom m n ++ [((m + n : Nat) : Int)] := by simp [countFrom, List.range_succ]

set_option maxRecDepth 1000000 in
set_option maxHeartbeats 1000000 in
theorem markIntS_any (g : Nat) (zs : List Int) (cap m : Nat) (hm : m ≤ 10000000) (hl : zs.length ≤ 1048576) (w : World) (hb : BlockIs w g 3 (intCells zs)) :
    Calls Try.prog 31 #[.slice (some ⟨g, 0, none⟩) zs.length cap, .int .i64 m] w fun e w' => e = .returned (.int .i64 ((m + zs.length : Nat) : Int)) ∧ BlockIs w' g 3 (intCells (countFrom m zs.length)) ∧ w.grownBy w' (some g) := by
  have HB := hid hb
  clear hb
  go_enter Try.func31, Try.ntmps31
  go_wp2
  go_loopg [1, 5] zs.length (fun q y i wr => ∃ (k : Nat), k + q = zs.length ∧ i = .int .i64 k ∧ y = .int .i64 ((m + k : Nat) : Int) ∧ ∃ rest, Hid (rest.length = zs.length - k) ∧ Hid (BlockIs wr g 3 (intCells (countFrom m k) ++ rest)) ∧ Hid (w.grownBy wr (some g)))
  case atStart => exact ⟨0, by omega, rfl, rfl, intCells zs, by simp [Hid, intCells], HB, World.grownBy.refl _ _⟩
  case round =>
    obtain ⟨k, hkg, rfl, rfl, rest, hrl, FB, GR⟩ := hrel
    clear HB
    cases gk with
    | zero =>
      have hlt : ¬ (k : Int) < (zs.length : Int) := by omega
      obtain rfl : k = zs.length := by omega
      have HP : Hid (BlockIs wr g 3 (intCells (countFrom m zs.length))) := by
        have h0 : rest = [] := List.length_eq_zero_iff.1 (by rw [hrl.out]; omega)
        have := FB.out
        rw [h0, List.append_nil] at this
        exact this
      clear FB hrl
      go_wp2
      go_ret
      exact ⟨rfl, HP.out, GR.out⟩
    | succ q =>
      have hlt : k < zs.length := by omega
      have hlt' : (k : Int) < (zs.length : Int) := by omega
      obtain ⟨⟨y, y0⟩, f0, hnew⟩ := put_int (k := k) ((m + k : Nat) : Int) FB.out (countFrom_length m k) (by rw [hrl.out]; omega)
      rw [← countFrom_succ] at hnew
      have HN := hid hnew
      have HG := hid (GR.out.trans (grownBy_set wr g k (.int .i64 ((m + k : Nat) : Int))))
      have HR : Hid ((rest.drop 1).length = zs.length - (k + 1)) := by show _ = _; rw [List.length_drop, hrl.out]; omega
      obtain ⟨K, hK⟩ : ∃ K, m + k = K := ⟨_, rfl⟩
      have hKl : K ≤ 20000000 := by omega
      rw [hK] at HN HG ⊢
      clear hnew FB GR hrl
      go_wp2
      go_roundg q
      case measure => omega
      case rel => exact ⟨k + 1, by omega, by go_num, by rw [← show K + 1 = m + (k + 1) by omega]; go_num, _, HR, HN, HG⟩
end Go.Proofs.Ytglibbpigmpanaa

namespace Go.Proofs.Ytglibbpigmpanaa
open Go.RowKit

set_option maxRecDepth 1000000 in
theorem markIntS_nil (ao : Option Addr) (cap m : Nat) (w : World) :
    Calls Try.prog 31 #[.slice ao 0 cap, .int .i64 m] w fun e w' => e = .returned (.int .i64 m) ∧ w' = w := by
  go_enter Try.func31, Try.ntmps31
  go_wp2
  go_loop [1, 5] (fun y i => y = .int .i64 m ∧ i = .int .i64 0) (fun _ _ => 0)
  case atStart => exact ⟨rfl, rfl⟩
  case round =>
    obtain ⟨rfl, rfl⟩ := hrel
    go_wp2
    go_ret
    exact ⟨rfl, rfl⟩

set_option maxRecDepth 1000000 in
set_option maxHeartbeats 1000000 in
theorem markIntS_more (g : Nat) (zs : List Int) (r : List Value) (cap m : Nat) (hm : m ≤ 10000000) (hl : zs.length ≤ 1048576) (w : World) (hb : BlockIs w g 3 (intCells zs ++ r)) :
    Calls Try.prog 31 #[.slice (some ⟨g, 0, none⟩) zs.length cap, .int .i64 m] w fun e w' => e = .returned (.int .i64 ((m + zs.length : Nat) : Int)) ∧ (∃ r', BlockIs w' g 3 (intCells (countFrom m zs.length) ++ r')) ∧ w.grownBy w' (some g) := by
  have HB := hid hb
  clear hb
  go_enter Try.func31, Try.ntmps31
  go_wp2
  go_loopg [1, 5] zs.length (fun q y i wr => ∃ (k : Nat), k + q = zs.length ∧ i = .int .i64 k ∧ y = .int .i64 ((m + k : Nat) : Int) ∧ ∃ rest, Hid (rest.length = zs.length - k + r.length) ∧ Hid (BlockIs wr g 3 (intCells (countFrom m k) ++ rest)) ∧ Hid (w.grownBy wr (some g)))
  case atStart => exact ⟨0, by omega, rfl, rfl, intCells zs ++ r, by simp [Hid, intCells], HB, World.grownBy.refl _ _⟩
  case round =>
    obtain ⟨k, hkg, rfl, rfl, rest, hrl, FB, GR⟩ := hrel
    clear HB
    cases gk with
    | zero =>
      have hlt : ¬ (k : Int) < (zs.length : Int) := by omega
      obtain rfl : k = zs.length := by omega
      clear hrl
      go_wp2
      go_ret
      exact ⟨rfl, ⟨_, FB.out⟩, GR.out⟩
    | succ q =>
      have hlt : k < zs.length := by omega
      have hlt' : (k : Int) < (zs.length : Int) := by omega
      obtain ⟨⟨y, y0⟩, f0, hnew⟩ := put_int (k := k) ((m + k : Nat) : Int) FB.out (countFrom_length m k) (by rw [hrl.out]; omega)
      rw [← countFrom_succ] at hnew
      have HN := hid hnew
      have HG := hid (GR.out.trans (grownBy_set wr g k (.int .i64 ((m + k : Nat) : Int))))
      have HR : Hid ((rest.drop 1).length = zs.length - (k + 1) + r.length) := by show _ = _; rw [List.length_drop, hrl.out]; omega
      obtain ⟨K, hK⟩ : ∃ K, m + k = K := ⟨_, rfl⟩
      have hKl : K ≤ 20000000 := by omega
      rw [hK] at HN HG ⊢
      clear hnew FB GR hrl
      go_wp2
      go_roundg q
      case measure => omega
      case rel => exact ⟨k + 1, by omega, by go_num, by rw [← show K + 1 = m + (k + 1) by omega]; go_num, _, HR, HN, HG⟩

/-- the row that an answer owns, written over -/
theorem markIntS_row (v : Value) (zs : List Int) (base m : Nat) (hm : m ≤ 10000000) (hl : zs.length ≤ 1048576) (w : World) (hb : w.ownsRow base 3 1 v zs.length (intCells zs)) :
    Calls Try.prog 31 #[v, .int .i64 m] w fun e w' => e = .returned (.int .i64 ((m + zs.length : Nat) : Int)) ∧ ∃ ao cap, v = .slice ao zs.length cap ∧ IntsAt w' ao (countFrom m zs.length) ∧ (∃ g, base ≤ g ∧ w.grownBy w' (some g)) := by
  obtain ⟨hx, h2⟩ := hb
  rcases h2 with ⟨hv, hn⟩ | ⟨g, cap, cur, hv, hgb, hh, hle, hmx, hsz, ht⟩
  · have e : zs = [] := List.eq_nil_of_length_eq_zero hn
    subst e hv
    refine (markIntS_nil none 0 m w).mono ?_
    rintro e w' ⟨rfl, rfl⟩
    exact ⟨rfl, none, 0, rfl, fun h => absurd rfl h, base, Nat.le_refl _, World.grownBy.refl _ _⟩
  · subst hv
    have hc : BlockIs w g 3 (intCells zs ++ cur.toList.drop (zs.length * 1)) := by
      unfold BlockIs
      rw [hh]
      have : intCells zs ++ cur.toList.drop (zs.length * 1) = cur.toList := by rw [← ht, List.take_append_drop]
      rw [this]
    refine (markIntS_more g zs _ cap m hm hl w hc).mono ?_
    rintro e w' ⟨rfl, ⟨r', hr⟩, hg⟩
    exact ⟨rfl, some ⟨g, 0, none⟩, cap, rfl, intsAt_of hr, g, hgb, hg⟩

set_option maxRecDepth 1000000 in
set_option maxHeartbeats 1000000 in
theorem heldIntS_any (ao : Option Addr) (n cap m : Nat) (hm : m ≤ 10000000) (hl : n ≤ 1048576) (w : World) (hz : IntsAt w ao (countFrom m n)) :
    Calls Try.prog 34 #[.slice ao n cap, .int .i64 m] w fun e w' => e = .returned (.int .i64 ((m + n : Nat) : Int)) ∧ w' = w := by
  have HZ := hid hz
  clear hz
  go_enter Try.func34, Try.ntmps34
  go_wp2
  go_loop [1, 5] (fun y i => ∃ (k : Nat), k ≤ n ∧ i = .int .i64 k ∧ y = .int .i64 ((m + k : Nat) : Int)) (fun _ i => n - (intOf i).toNat)
  case atStart => exact ⟨0, Nat.zero_le _, rfl, rfl⟩
  case round =>
    obtain ⟨k, hk, rfl, rfl⟩ := hrel
    by_cases hlt : k < n
    · have hlen := countFrom_length m n
      have hne : countFrom m n ≠ [] := by intro e; rw [e] at hlen; simp at hlen; omega
      obtain ⟨b, off, rfl, hc⟩ := HZ.out hne
      have x0 := hc k (by omega)
      have hx : (countFrom m n)[k]'(by omega) = ((m + k : Nat) : Int) := by simp [countFrom]
      rw [hx] at x0
      obtain ⟨K, hK⟩ : ∃ K, m + k = K := ⟨_, rfl⟩
      have hKl : K ≤ 20000000 := by omega
      have HK := hid hK
      rw [hK] at x0 ⊢
      clear hc hx hlen hne
      go_wp2
      go_round
      case rel => exact ⟨k + 1, by omega, by go_num, by rw [← show K + 1 = m + (k + 1) by have := HK.out; omega]; go_num⟩
      case measure => simp [intOf]; omega
    · obtain rfl : k = n := by omega
      go_wp2
      go_ret
      exact ⟨rfl, rfl⟩

/-- numbers in memory stand when a later block alone is written -/
theorem IntsAt.far {w w' : World} {ao : Option Addr} {zs : List Int} {g H : Nat} (h : IntsAt w ao zs) (hH : ∀ b off, zs ≠ [] → ao = some ⟨b, off, none⟩ → b < H) (hg : w.grownBy w' (some g)) (hgH : H ≤ g) : IntsAt w' ao zs := by
  intro h0
  obtain ⟨b, off, e1, e2⟩ := h h0
  have hb := hH b off h0 e1
  refine ⟨b, off, e1, fun j hj => ?_⟩
  have := e2 j hj
  have hlt : b < w.heap.size := World.block_lt_of_cell? w _ this
  rw [← this]
  simp only [World.cell?]
  rw [hg.block b hlt (by simp; omega)]
theorem ints_below {w : World} {ao : Option Addr} {zs : List Int} (h : IntsAt w ao zs) : ∀ b off, zs ≠ [] → ao = some ⟨b, off, none⟩ → b < w.heap.size := by
  intro b off h0 e
  obtain ⟨b', off', e1, e2⟩ := h h0
  rw [e1] at e
  cases e
  exact World.block_lt_of_cell? w _ (e2 0 (List.length_pos_iff.2 h0))
end Go.Proofs.Ytglibbpigmpanaa
