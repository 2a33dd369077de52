/-
  The walk of impl.LogLast: what it answers.
-/
import Derived.Test.YteceaohhnjlmbaaJoint1
import Derived.Test.YteceaohhnjlmbaaRows
import Derived.Deep.QuietTactic
namespace Go.Proofs.Yteceaohhnjlmbaa
open Go.RowKit

set_option maxRecDepth 1000000 in
set_option maxHeartbeats 1000000 in
theorem implLogLast_any (s t : Int) (hs : -9223372036854775808 ≤ s ∧ s ≤ 9223372036854775807) (ao : Option Addr) (l : List EntD) (cap : Nat) (hl : l.length ≤ 1048577) (w : World) (ha : EntsAt w ao l) :
    Calls Try.prog 35 #[.agg #[.int .i64 s, .int .i64 t, .slice ao l.length cap]] w fun e w' => e = .returned (.tuple #[.int .i64 (wrap64 (s + l.length)), .int .i64 (lastT t l)]) ∧ Below w.heap.size w w' := by
  have HB := hid (below_more (Below.refl w.heap.size w) (.cells #[.int .i64 s, .int .i64 t, .slice ao l.length cap] 33))
  have hx : BlockIs (w.alloc (.cells #[.int .i64 s, .int .i64 t, .slice ao l.length cap] 33)) w.heap.size 33 [.int .i64 s, .int .i64 t, .slice ao l.length cap] := heap_alloc_new w _
  have hE := ha.on HB.out
  obtain ⟨W, hW⟩ : ∃ W, w.alloc (.cells #[.int .i64 s, .int .i64 t, .slice ao l.length cap] 33) = W := ⟨_, rfl⟩
  rw [hW] at HB hx hE
  have c0 := hx.cell (j := 0) rfl
  have c1 := hx.cell (j := 1) rfl
  have c2 := hx.cell (j := 2) rfl
  clear hx ha
  by_cases h0 : l.length = 0
  · have hl0 : l = [] := List.length_eq_zero_iff.1 h0
    subst hl0
    have hw0 : wrap64 (s + ((([] : List EntD).length : Nat) : Int)) = s := by rw [IntWalk.wrap64_in] <;> simp <;> omega
    rw [hw0]
    clear hw0
    go_enter Try.func35, Try.ntmps35
    go_wp2
    go_quiet (fail)
    go_wp2
    go_ret2
    exact ⟨rfl, below_drewN (below_more (Below.refl _ w) _) _⟩
  · have hne : ¬ (l.length : Int) = 0 := by omega
    obtain ⟨b, off, rfl, hc⟩ := hE (by intro e; rw [e] at h0; simp at h0)
    have hlt : l.length - 1 < l.length := by omega
    obtain ⟨x0, _, _⟩ := hc (l.length - 1) hlt
    have hsub : (l.length : Int) - 1 = ((l.length - 1 : Nat) : Int) := by omega
    have HL := hid (lastT_last t l (by omega))
    clear hc hE
    obtain ⟨tm, htm⟩ : ∃ tm, l[l.length - 1].term = tm := ⟨_, rfl⟩
    rw [htm] at HL x0
    rw [HL.out]
    obtain ⟨N, hN⟩ : ∃ N, l.length = N := ⟨_, rfl⟩
    rw [hN] at hsub c2 hne hlt hW x0 ⊢
    obtain ⟨n, hn⟩ : ∃ n, N - 1 = n := ⟨_, rfl⟩
    rw [hn] at hsub hlt x0
    have hnl : (n : Int) < (N : Int) := by omega
    have hn0 : (0 : Int) ≤ (n : Int) := by omega
    have hwn : IntKind.i64.wrap (n : Int) = (n : Int) := by rw [IntKind.wrap_i64]; omega
    clear hn HL htm hN h0
    go_enter Try.func35, Try.ntmps35
    go_wp2
    go_quiet (fail)
    go_wp2
    go_ret2
    exact ⟨rfl, below_drewN HB.out _⟩
end Go.Proofs.Yteceaohhnjlmbaa
