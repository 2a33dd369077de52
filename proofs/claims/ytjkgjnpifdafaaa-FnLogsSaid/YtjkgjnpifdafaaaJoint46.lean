/-
  The walk of impl.LogLast: what it answers.
  The walk of impl.sameBeginning: how many entries two lists begin with alike.
-/
import Derived.Test.YtjkgjnpifdafaaaJoint1
import Derived.Test.YtjkgjnpifdafaaaRows
import Derived.Deep.QuietTactic
namespace Go.Proofs.Ytjkgjnpifdafaaa
open Go.RowKit

set_option maxRecDepth 1000000 in
set_option maxHeartbeats 1000000 in
theorem implLogLast_any (s t : Int) (hs : -9223372036854775808 ≤ s ∧ s ≤ 9223372036854775807) (ao : Option Addr) (l : List EntD) (cap : Nat) (hl : l.length ≤ 1048577) (w : World) (ha : EntsAt w ao l) :
    Calls Try.prog 29 #[.agg #[.int .i64 s, .int .i64 t, .slice ao l.length cap]] w fun e w' => e = .returned (.tuple #[.int .i64 (wrap64 (s + l.length)), .int .i64 (lastT t l)]) ∧ Below w.heap.size w w' := by
  have HB := hid (below_more (Below.refl w.heap.size w) (.cells #[.int .i64 s, .int .i64 t, .slice ao l.length cap] 31))
  have hx : BlockIs (w.alloc (.cells #[.int .i64 s, .int .i64 t, .slice ao l.length cap] 31)) w.heap.size 31 [.int .i64 s, .int .i64 t, .slice ao l.length cap] := heap_alloc_new w _
  have hE := ha.on HB.out
  obtain ⟨W, hW⟩ : ∃ W, w.alloc (.cells #[.int .i64 s, .int .i64 t, .slice ao l.length cap] 31) = W := ⟨_, rfl⟩
  rw [hW] at HB hx hE
  have c0 := hx.cell (j := 0) rfl
  have c1 := hx.cell (j := 1) rfl
  have c2 := hx.cell (j := 2) rfl
  clear hx ha
  by_cases h0 : l.length = 0
  · have hl0 : l = [] := List.length_eq_zero_iff.1 h0
    subst hl0
    have hw0 : wrap64 (s + ((([] : List EntD).length : Nat) : Int)) = s := by rw [IntWalk.wrap64_in] <;> simp <;> omega
    rw [hw0]
    clear hw0
    go_enter Try.func29, Try.ntmps29
    go_wp2
    go_quiet (fail)
    go_wp2
    go_ret2
    exact ⟨rfl, below_drewN (below_more (Below.refl _ w) _) _⟩
  · have hne : ¬ (l.length : Int) = 0 := by omega
    obtain ⟨b, off, rfl, hc⟩ := hE (by intro e; rw [e] at h0; simp at h0)
    have hlt : l.length - 1 < l.length := by omega
    obtain ⟨x0, _, _⟩ := hc (l.length - 1) hlt
    have hsub : (l.length : Int) - 1 = ((l.length - 1 : Nat) : Int) := by omega
    have HL := hid (lastT_last t l (by omega))
    clear hc hE
    obtain ⟨tm, htm⟩ : ∃ tm, l[l.length - 1].term = tm := ⟨_, rfl⟩
    rw [htm] at HL x0
    rw [HL.out]
    obtain ⟨N, hN⟩ : ∃ N, l.length = N := ⟨_, rfl⟩
    rw [hN] at hsub c2 hne hlt hW x0 ⊢
    obtain ⟨n, hn⟩ : ∃ n, N - 1 = n := ⟨_, rfl⟩
    rw [hn] at hsub hlt x0
    have hnl : (n : Int) < (N : Int) := by omega
    have hn0 : (0 : Int) ≤ (n : Int) := by omega
    have hwn : IntKind.i64.wrap (n : Int) = (n : Int) := by rw [IntKind.wrap_i64]; omega
    clear hn HL htm hN h0
    go_enter Try.func29, Try.ntmps29
    go_wp2
    go_quiet (fail)
    go_wp2
    go_ret2
    exact ⟨rfl, below_drewN HB.out _⟩
end Go.Proofs.Ytjkgjnpifdafaaa

namespace Go.Proofs.Ytjkgjnpifdafaaa
open Go.RowKit

theorem bytes_ext {a b : ByteArray} (h : a.toList = b.toList) : a = b := by
  rw [ByteArray.toList_eq, ByteArray.toList_eq] at h
  exact ByteArray.ext (Array.toList_inj.1 h)

set_option maxRecDepth 1000000 in
set_option maxHeartbeats 1000000 in
theorem sameBeginning_any (ao bo : Option Addr) (L M : List EntD) (c c' : Nat) (_hl : L.length ≤ 1048576) (hm : M.length ≤ 1048576) (w : World) (ha : EntsAt w ao L) (hb : EntsAt w bo M) :
    Calls Try.prog 48 #[.slice ao L.length c, .slice bo M.length c'] w fun e w' => e = .returned (.int .i64 (alike L M)) ∧ Below w.heap.size w w' := by
  have HA := hid ha
  have HB := hid hb
  clear ha hb
  go_enter Try.func48, Try.ntmps48
  go_wp2
  go_loopg [5] L.length (fun g i wr => ∃ (k : Nat), k + g = L.length ∧ k ≤ M.length ∧ i = .int .i64 k ∧ Hid (alike L M = k + alike (L.drop k) (M.drop k)) ∧ Hid (Below w.heap.size w wr))
  case atStart => exact ⟨0, by omega, by omega, rfl, (show _ = _ by simp), (show Below _ _ _ from Below.refl _ _)⟩
  case round =>
    obtain ⟨k, hkg, hkm, rfl, AL, BR⟩ := hrel
    cases gk with
    | zero =>
      have hr := hid (show alike L M = k by rw [AL.out, List.drop_of_length_le (by omega), alike_nil]; omega)
      obtain ⟨n, hn⟩ : ∃ n, L.length = n := ⟨_, rfl⟩
      rw [hn] at hkg
      have hlt : decide (k < n) = false := by simp; omega
      rw [hn]
      clear hkg
      go_wp2
      go_quiet (fail)
      go_wp2
      go_ret
      exact ⟨by rw [hr.out]; rfl, below_drewN BR.out _⟩
    | succ g =>
      have hlt : k < L.length := by omega
      have hltd : decide ((k : Int) < (L.length : Int)) = true := by simp; omega
      by_cases hm2 : k < M.length
      · have hmd : decide ((k : Int) < (M.length : Int)) = true := by simp; omega
        have hlt' : (k : Int) < (L.length : Int) := by omega
        have hmt' : (k : Int) < (M.length : Int) := by omega
        have hneL : L ≠ [] := by intro e; rw [e] at hlt; simp at hlt
        have hneM : M ≠ [] := by intro e; rw [e] at hm2; simp at hm2
        obtain ⟨b, off, rfl, hc⟩ := HA.out.on BR.out hneL
        obtain ⟨x0, x1, x2⟩ := hc k hlt
        obtain ⟨b', off', rfl, hc'⟩ := HB.out.on BR.out hneM
        obtain ⟨y0, y1, y2⟩ := hc' k hm2
        clear hc hc'
        by_cases hq : sameEnt L[k] M[k] = true
        · have AL2 : Hid (alike L M = (k + 1 : Nat) + alike (L.drop (k + 1)) (M.drop (k + 1))) := by
            show _ = _
            rw [AL.out, alike_step hlt hm2 hq]
            omega
          have hq0 := sameEnt_iff.1 hq
          go_wp2
          go_quiet (fail)
          have BQ := hid (below_drewN BR.out nq)
          generalize wr.drewN nq = wq at BQ ⊢
          clear x0 x1 x2 y0 y1 y2 hq hq0
          go_wp2
          go_roundg g
          case measure => omega
          case rel => exact ⟨k + 1, by omega, by omega, by go_num, AL2, BQ⟩
        · have hr := hid (show alike L M = k by rw [AL.out, alike_stop hlt hm2 hq]; rfl)
          have hq3 : ¬ (L[k].term = M[k].term ∧ L[k].kind = M[k].kind ∧ L[k].data = M[k].data) := fun q => hq (sameEnt_iff.2 q)
          clear hq
          obtain ⟨p0, hp0⟩ : ∃ p, L[k].term = p := ⟨_, rfl⟩
          obtain ⟨p1, hp1⟩ : ∃ p, L[k].kind = p := ⟨_, rfl⟩
          obtain ⟨p2, hp2⟩ : ∃ p, L[k].data = p := ⟨_, rfl⟩
          obtain ⟨q0, hq0⟩ : ∃ p, M[k].term = p := ⟨_, rfl⟩
          obtain ⟨q1, hq1⟩ : ∃ p, M[k].kind = p := ⟨_, rfl⟩
          obtain ⟨q2, hq2⟩ : ∃ p, M[k].data = p := ⟨_, rfl⟩
          rw [hp0] at x0 hq3
          rw [hp1] at x1 hq3
          rw [hp2] at x2 hq3
          rw [hq0] at y0 hq3
          rw [hq1] at y1 hq3
          rw [hq2] at y2 hq3
          clear hp0 hp1 hp2 hq0 hq1 hq2
          by_cases h0 : p0 = q0
          · by_cases h1 : p1 = q1
            · have h2 : ¬ p2 = q2 := fun e => hq3 ⟨h0, h1, e⟩
              have h2' : (p2.toList == q2.toList) = false := by
                rw [beq_eq_false_iff_ne]
                intro e
                exact h2 (bytes_ext e)
              subst h0 h1
              clear hq3 h2
              go_wp2
              go_quiet (fail)
              go_wp2
              go_ret
              exact ⟨by rw [hr.out]; rfl, below_drewN BR.out _⟩
            · subst h0
              clear hq3
              have h1' : decide (p1 = q1) = false := by simpa using h1
              go_wp2
              go_quiet (fail)
              go_wp2
              go_ret
              exact ⟨by rw [hr.out]; rfl, below_drewN BR.out _⟩
          · clear hq3
            have h0' : decide (p0 = q0) = false := by simpa using h0
            go_wp2
            go_quiet (fail)
            go_wp2
            go_ret
            exact ⟨by rw [hr.out]; rfl, below_drewN BR.out _⟩
      · have hmd : decide ((k : Int) < (M.length : Int)) = false := by simp; omega
        have hr := hid (show alike L M = k by rw [AL.out, List.drop_of_length_le (l := M) (by omega)]; simp [alike])
        go_wp2
        go_quiet (fail)
        go_wp2
        go_ret
        exact ⟨by rw [hr.out]; rfl, below_drewN BR.out _⟩
end Go.Proofs.Ytjkgjnpifdafaaa
