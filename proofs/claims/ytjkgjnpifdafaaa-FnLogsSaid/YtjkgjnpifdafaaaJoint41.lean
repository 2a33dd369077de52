/-
  The walk of impl.termAt: what it answers.
  The walk of impl.ConfOk: what it answers.
-/
import Derived.Test.YtjkgjnpifdafaaaJoint1
import Derived.Test.YtjkgjnpifdafaaaRows
import Derived.WalkSmall
import Derived.WalkKit
namespace Go.Proofs.Ytjkgjnpifdafaaa
open Go.RowKit

/-- the term of an index that the log has -/
theorem logTerm_has {s t : Int} {l : List EntD} {i : Int} (h : logHas s l.length i = false) : logTerm s t l i = -1 := by
  have h' : ¬ (s ≤ i ∧ i ≤ s + l.length) := by simpa [logHas] using h
  rw [logTerm, if_neg (by omega), if_neg (by omega)]

set_option maxRecDepth 1000000 in
set_option maxHeartbeats 1000000 in
theorem termAt_any (s t i : Int) (ao : Option Addr) (l : List EntD) (cap : Nat) (hs : -9223372036854775808 ≤ s ∧ s ≤ 9223372036854775807) (hi : -9223372036854775808 ≤ i ∧ i ≤ 9223372036854775807) (hl : l.length ≤ 1048576) (w : World) (ha : EntsAt w ao l) :
    Calls Try.prog 46 #[.agg #[.int .i64 s, .int .i64 t, .slice ao l.length cap], .int .i64 i] w fun e w' => e = .returned (.tuple #[.int .i64 (if logHas s l.length i = true then logTerm s t l i else 0), .bool (logHas s l.length i)]) ∧ Below w.heap.size w w' := by
  have HB := hid (below_more (Below.refl w.heap.size w) (.cells #[.int .i64 s, .int .i64 t, .slice ao l.length cap] 31))
  have hx : BlockIs (w.alloc (.cells #[.int .i64 s, .int .i64 t, .slice ao l.length cap] 31)) w.heap.size 31 [.int .i64 s, .int .i64 t, .slice ao l.length cap] := heap_alloc_new w _
  have hE := hid (ha.on HB.out)
  obtain ⟨W, hW⟩ : ∃ W, w.alloc (.cells #[.int .i64 s, .int .i64 t, .slice ao l.length cap] 31) = W := ⟨_, rfl⟩
  rw [hW] at HB hx hE
  have c0 := hx.cell (j := 0) rfl
  have c1 := hx.cell (j := 1) rfl
  have c2 := hx.cell (j := 2) rfl
  clear hx ha
  by_cases h0 : i = s
  · have hh : logHas s l.length i = true := by simp [logHas]; omega
    have hr : logTerm s t l i = t := by rw [logTerm, if_pos h0]
    rw [hh, hr, if_pos rfl]
    clear hh hr
    subst h0
    go_enter Try.func46, Try.ntmps46
    go_wp2
    go_ret2
    exact ⟨rfl, HB.out⟩
  by_cases h1 : i < s
  · have hh : logHas s l.length i = false := by simp [logHas]; omega
    rw [hh, if_neg (by simp)]
    clear hh
    go_enter Try.func46, Try.ntmps46
    go_wp2
    go_ret2
    exact ⟨rfl, HB.out⟩
  by_cases h2 : s + l.length < i
  · have hh : logHas s l.length i = false := by simp [logHas]; omega
    rw [hh, if_neg (by simp)]
    clear hh
    obtain ⟨p, hp⟩ : ∃ p, wrap64 (wrap64 (i - s) - 1) = p := ⟨_, rfl⟩
    have hp2 : p < 0 ∨ (l.length : Int) ≤ p := by
      have := hp
      simp only [wrap64] at this
      omega
    by_cases hp0 : p < 0
    · go_enter Try.func46, Try.ntmps46
      go_wp2
      go_ret2
      exact ⟨rfl, HB.out⟩
    · have hp1 : (l.length : Int) ≤ p := by omega
      go_enter Try.func46, Try.ntmps46
      go_wp2
      go_ret2
      exact ⟨rfl, HB.out⟩
  obtain ⟨k, hk⟩ : ∃ k : Nat, i - s = (k : Int) + 1 := ⟨(i - s - 1).toNat, by omega⟩
  have hlt : k < l.length := by omega
  have hlt' : (k : Int) < (l.length : Int) := by omega
  have hr : logTerm s t l i = l[k].term := by
    rw [logTerm, if_neg h0, if_pos (by omega), show (i - s - 1).toNat = k by omega, List.getD_eq_getElem?_getD, List.getElem?_eq_getElem hlt]
    rfl
  have hh : logHas s l.length i = true := by simp [logHas]; omega
  rw [hh, hr, if_pos rfl]
  obtain ⟨tm, htm⟩ : ∃ tm, l[k].term = tm := ⟨_, rfl⟩
  obtain ⟨b, off, rfl, hc⟩ := hE.out (by intro e; rw [e] at hlt; simp at hlt)
  obtain ⟨x0, _, _⟩ := hc k hlt
  rw [htm] at x0 ⊢
  have hk0 : ¬ (k : Int) < 0 := by omega
  have hkl : ¬ (l.length : Int) ≤ (k : Int) := by omega
  clear hc hh hr htm
  go_enter Try.func46, Try.ntmps46
  go_wp2
  go_ret2
  exact ⟨rfl, HB.out⟩
end Go.Proofs.Ytjkgjnpifdafaaa

namespace Go.Proofs.Ytjkgjnpifdafaaa
open Go.RowKit

set_option maxRecDepth 1000000 in
set_option maxHeartbeats 1000000 in
theorem implConfOk_any (ao : Option Addr) (zs : List Int) (cap : Nat) (hl : zs.length ≤ 1048576) (w : World) (hz : IntsAt w ao zs) :
    Calls Try.prog 89 #[.slice ao zs.length cap] w fun e w' => e = .returned (.bool (confOk zs)) ∧ Below w.heap.size w w' := by
  have HZ := hid hz
  clear hz
  by_cases h1 : zs.length < 1
  · have hr := hid (confOk_big (zs := zs) (by omega))
    have h1' : (zs.length : Int) < 1 := by omega
    go_enter Try.func89, Try.ntmps89
    go_wp2
    go_ret
    exact ⟨by rw [hr.out]; rfl, Below.refl _ _⟩
  by_cases h4 : 4 < zs.length
  · have hr := hid (confOk_big (zs := zs) (by omega))
    have h1' : ¬ (zs.length : Int) < 1 := by omega
    have h4' : 4 < (zs.length : Int) := by omega
    go_enter Try.func89, Try.ntmps89
    go_wp2
    go_ret
    exact ⟨by rw [hr.out]; rfl, Below.refl _ _⟩
  have h1' : ¬ (zs.length : Int) < 1 := by omega
  have h4' : ¬ 4 < (zs.length : Int) := by omega
  have HR := hid (confOk_of (zs := zs) (by omega) (by omega))
  go_enter Try.func89, Try.ntmps89
  go_wp2
  go_loop [3, 16] (fun b i => ∃ (k : Nat), k ≤ zs.length ∧ i = .int .i64 k ∧ b = .int .i64 (lastOf zs k) ∧ Hid (riseTo zs k = true)) (fun _ i => zs.length - (intOf i).toNat)
  case atStart => exact ⟨0, Nat.zero_le _, rfl, rfl, rfl⟩
  case round =>
    obtain ⟨k, hk, rfl, rfl, RT⟩ := hrel
    by_cases hlt : k < zs.length
    · have hne : zs ≠ [] := by intro e; rw [e] at hlt; simp at hlt
      obtain ⟨b, off, rfl, hc⟩ := HZ.out hne
      have x0 := hc k hlt
      have HL := hid (lastOf_step hlt)
      have HON : Hid (lastOf zs k < zs[k] → zs[k] ≤ 4 → riseTo zs (k + 1) = true) := rise_on hlt RT.out
      have HOFF : Hid (¬ (lastOf zs k < zs[k] ∧ zs[k] ≤ 4) → riseTo zs zs.length = false) := rise_off hlt RT.out
      obtain ⟨x, hx⟩ : ∃ x, zs[k] = x := ⟨_, rfl⟩
      obtain ⟨y, hy⟩ : ∃ y, lastOf zs k = y := ⟨_, rfl⟩
      rw [hx] at x0 HL HON HOFF
      rw [hy] at HON HOFF ⊢
      clear hc hx hy
      by_cases hA : x ≤ y
      · have hr := hid (HOFF.out (by omega))
        go_wp2
        go_ret
        exact ⟨by rw [HR.out, hr.out]; rfl, Below.refl _ _⟩
      · by_cases hB : 4 < x
        · have hr := hid (HOFF.out (by omega))
          go_wp2
          go_ret
          exact ⟨by rw [HR.out, hr.out]; rfl, Below.refl _ _⟩
        · have hr := hid (HON.out (by omega) (by omega))
          go_wp2
          go_round
          case rel => exact ⟨k + 1, by omega, by go_num, by rw [HL.out], hr⟩
          case measure => simp [intOf]; omega
    · obtain rfl : k = zs.length := by omega
      go_wp2
      go_ret
      exact ⟨by rw [HR.out, RT.out]; rfl, Below.refl _ _⟩
end Go.Proofs.Ytjkgjnpifdafaaa
