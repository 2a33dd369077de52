/-
  The walks of slices.Index, slices.Contains and impl.Most: what they answer.
-/
import Derived.Test.YtmecfpafpnoenaaJoint27
namespace Go.Proofs.Ytmecfpafpnoenaa
open Go.RowKit

theorem indexI_step {ls : List Int} {x : Int} {k : Nat} (hk : k < ls.length) (h : x ∉ ls.take k) (hne : ¬ x = ls[k]) : x ∉ ls.take (k + 1) := by
  rw [List.take_succ_eq_append_getElem hk]
  simp only [List.mem_append, List.mem_singleton, not_or]
  exact ⟨h, hne⟩
theorem indexI_here {ls : List Int} {x : Int} {k : Nat} (hk : k < ls.length) (he : x = ls[k]) : x ∈ ls := he ▸ List.getElem_mem hk

set_option maxRecDepth 1000000 in
set_option maxHeartbeats 1000000 in
theorem index_any (ao : Option Addr) (ls : List Int) (cap : Nat) (x : Int) (hl : ls.length ≤ 1048576) (w : World) (hz : IntsAt w ao ls) :
    Calls Try.prog 82 #[.slice ao ls.length cap, .int .i64 x] w fun e w' => (∃ i : Int, e = .returned (.int .i64 i) ∧ (0 ≤ i ↔ x ∈ ls)) ∧ w' = w := by
  have HZ := hid hz
  clear hz
  go_enter Try.func82, Try.ntmps82
  go_wp2
  go_loop [8] (fun i => ∃ (k : Nat), k ≤ ls.length ∧ i = .int .i64 k ∧ Hid (x ∉ ls.take k)) (fun i => ls.length - (intOf i).toNat)
  case atStart => exact ⟨0, Nat.zero_le _, rfl, by simp [Hid]⟩
  case round =>
    obtain ⟨k, hk, rfl, RT⟩ := hrel
    by_cases hlt : k < ls.length
    · have hne : ls ≠ [] := by intro e; rw [e] at hlt; simp at hlt
      obtain ⟨b, off, rfl, hc⟩ := HZ.out hne
      have x0 := hc k hlt
      have HON : Hid (¬ x = ls[k] → x ∉ ls.take (k + 1)) := indexI_step hlt RT.out
      have HIN : Hid (x = ls[k] → x ∈ ls) := indexI_here hlt
      obtain ⟨y, hy⟩ : ∃ y, ls[k] = y := ⟨_, rfl⟩
      rw [hy] at x0 HON HIN
      clear hc hy
      by_cases hA : x = y
      · have hr := hid (HIN.out hA)
        subst hA
        go_wp2
        go_ret
        exact ⟨⟨k, rfl, by simp [hr.out]⟩, rfl⟩
      · have hr := hid (HON.out hA)
        go_wp2
        go_round
        case rel => exact ⟨k + 1, by omega, by go_num, hr⟩
        case measure => simp [intOf]; omega
    · obtain rfl : k = ls.length := by omega
      rw [List.take_length] at RT
      go_wp2
      go_ret
      exact ⟨⟨-1, rfl, by simp [RT.out]⟩, rfl⟩

set_option maxRecDepth 1000000 in
theorem contains_any (ao : Option Addr) (ls : List Int) (cap : Nat) (x : Int) (hl : ls.length ≤ 1048576) (w : World) (hz : IntsAt w ao ls) :
    Calls Try.prog 54 #[.slice ao ls.length cap, .int .i64 x] w fun e w' => e = .returned (.bool (decide (x ∈ ls))) ∧ w' = w := by
  have cI := hid (index_any ao ls cap x hl w hz)
  clear hz
  go_enter Try.func54, Try.ntmps54
  go_wp2_with fail
  refine cI.out.mono ?_
  rintro e w1 ⟨⟨i, rfl, hi⟩, hw⟩
  rw [hw]
  have HI := hid hi
  clear hw w1 hi
  go_wp2
  go_ret
  refine ⟨?_, rfl⟩
  by_cases h : 0 ≤ i
  · simp [h, HI.out.1 h]
  · have h2 : x ∉ ls := fun q => h (HI.out.2 q)
    simp [h, h2]

set_option maxRecDepth 1000000 in
set_option maxHeartbeats 1000000 in
theorem implMost_any (ao lo : Option Addr) (zs ls : List Int) (cap lcap : Nat) (hl : zs.length ≤ 1048576) (hl2 : ls.length ≤ 1048576) (w : World) (hz : IntsAt w ao zs) (hs : IntsAt w lo ls) :
    Calls Try.prog 24 #[.slice ao zs.length cap, .slice lo ls.length lcap] w fun e w' => e = .returned (.bool (most zs ls)) ∧ Below w.heap.size w w' := by
  have HZ := hid hz
  have HS := hid hs
  have cO' := implConfOk_any ao zs cap hl w hz
  have HM : Hid (most zs ls = (confOk zs && decide (zs.length < 2 * countIn zs ls zs.length))) := rfl
  clear hz hs
  cases hok : confOk zs with
  | false =>
    rw [hok] at cO' HM
    have cO := hid cO'
    clear cO' hok
    go_enter Try.func24, Try.ntmps24
    go_wp2_with (go_at_call 23; refine Calls.mono cO.out ?_; rintro e w1 ⟨rfl, b1⟩)
    go_ret
    exact ⟨by rw [HM.out]; rfl, b1⟩
  | true =>
    rw [hok] at cO' HM
    have cO := hid cO'
    clear cO' hok
    go_enter Try.func24, Try.ntmps24
    go_wp2_with fail
    refine Calls.mono cO.out ?_
    rintro e w1 ⟨rfl, b1⟩
    have B1 := hid b1
    clear b1 cO
    go_wp2
    go_loop [5, 13] (fun n i => ∃ (k m : Nat), k ≤ zs.length ∧ m ≤ k ∧ i = .int .i64 k ∧ n = .int .i64 m ∧ Hid (m = countIn zs ls k)) (fun _ i => zs.length - (intOf i).toNat)
    case atStart => exact ⟨0, 0, Nat.zero_le _, Nat.le_refl _, rfl, rfl, rfl⟩
    case round =>
      obtain ⟨k, m, hk, hm, rfl, rfl, RT⟩ := hrel
      by_cases hlt : k < zs.length
      · have hne : zs ≠ [] := by intro e; rw [e] at hlt; simp at hlt
        obtain ⟨b, off, rfl, hc⟩ := (HZ.out.on B1.out) hne
        have x0 := hc k hlt
        have HST := hid (countIn_step (ls := ls) hlt)
        obtain ⟨x, hx⟩ : ∃ x, zs[k] = x := ⟨_, rfl⟩
        rw [hx] at x0 HST
        have cI' := contains_any lo ls lcap x hl2 w1 (HS.out.on B1.out)
        clear hc hx
        by_cases hA : x ∈ ls
        · rw [decide_eq_true hA] at cI'
          have hr : Hid (m + 1 = countIn zs ls (k + 1)) := by show _ = _; rw [HST.out, if_pos hA, RT.out]
          have cI := hid cI'
          clear cI' hA
          go_wp2_with (go_at_call 54; refine cI.out.mono ?_; rintro e w2 ⟨rfl, hw⟩; rw [hw]; clear hw w2)
          go_round
          case rel => exact ⟨k + 1, m + 1, by omega, by omega, by go_num, by go_num, hr⟩
          case measure => simp [intOf]; omega
        · rw [decide_eq_false hA] at cI'
          have hr : Hid (m = countIn zs ls (k + 1)) := by show _ = _; rw [HST.out, if_neg hA, RT.out]; rfl
          have cI := hid cI'
          clear cI' hA
          go_wp2_with (go_at_call 54; refine cI.out.mono ?_; rintro e w2 ⟨rfl, hw⟩; rw [hw]; clear hw w2)
          go_round
          case rel => exact ⟨k + 1, m, by omega, by omega, by go_num, rfl, hr⟩
          case measure => simp [intOf]; omega
      · obtain rfl : k = zs.length := by omega
        rw [← RT.out] at HM
        go_wp2
        go_ret
        refine ⟨?_, B1.out⟩
        rw [HM.out]
        by_cases q : zs.length < 2 * m
        · have q' : (zs.length : Int) < 2 * (m : Int) := by omega
          simp [q, q']
        · have q' : ¬ (zs.length : Int) < 2 * (m : Int) := by omega
          simp [q, q']
end Go.Proofs.Ytmecfpafpnoenaa
