/-
  The walk of spec.l06Last: what it answers.
  The walk of spec.LogTerm: what it answers.
-/
import Derived.Test.YtglibbpigmpanaaJoint1
import Derived.Test.YtglibbpigmpanaaRows
namespace Go.Proofs.Ytglibbpigmpanaa
open Go.RowKit

set_option maxRecDepth 1000000 in
theorem l06Last_any (s t : Int) (ao : Option Addr) (l : List EntD) (cap : Nat) (hs : 0 ≤ s ∧ s ≤ 2000000) (hl : l.length ≤ 1048576) (w : World) :
    Calls Try.prog 45 #[.agg #[.int .i64 s, .int .i64 t, .slice ao l.length cap]] w fun e w' => e = .returned (.int .i64 (s + l.length)) ∧ Below w.heap.size w w' := by
  have HB := hid (below_more (Below.refl w.heap.size w) (.cells #[.int .i64 s, .int .i64 t, .slice ao l.length cap] 32))
  go_enter Try.func45, Try.ntmps45
  go_wp2
  go_ret
  exact ⟨rfl, HB.out⟩
end Go.Proofs.Ytglibbpigmpanaa

namespace Go.Proofs.Ytglibbpigmpanaa
open Go.RowKit

set_option maxRecDepth 1000000 in
set_option maxHeartbeats 1000000 in
theorem specLogTerm_any (s t i : Int) (ao : Option Addr) (l : List EntD) (cap : Nat) (hs : 0 ≤ s ∧ s ≤ 2000000) (hl : l.length ≤ 1048576) (w : World) (ha : EntsAt w ao l) :
    Calls Try.prog 19 #[.agg #[.int .i64 s, .int .i64 t, .slice ao l.length cap], .int .i64 i] w fun e w' => e = .returned (.int .i64 (logTerm s t l i)) ∧ Below w.heap.size w w' := by
  have HB := hid (below_more (Below.refl w.heap.size w) (.cells #[.int .i64 s, .int .i64 t, .slice ao l.length cap] 32))
  have hx : BlockIs (w.alloc (.cells #[.int .i64 s, .int .i64 t, .slice ao l.length cap] 32)) w.heap.size 32 [.int .i64 s, .int .i64 t, .slice ao l.length cap] := heap_alloc_new w _
  have hE := hid (ha.on HB.out)
  obtain ⟨W, hW⟩ : ∃ W, w.alloc (.cells #[.int .i64 s, .int .i64 t, .slice ao l.length cap] 32) = W := ⟨_, rfl⟩
  rw [hW] at HB hx hE
  have HX := hid hx
  have c0 := hx.cell (j := 0) rfl
  have c1 := hx.cell (j := 1) rfl
  have c2 := hx.cell (j := 2) rfl
  clear hx ha
  have CL := hid (fun w => l06Last_any s t ao l cap hs hl w)
  by_cases h0 : i = s
  · have hr := hid (show logTerm s t l i = t by rw [logTerm, if_pos h0])
    subst h0
    go_enter Try.func19, Try.ntmps19
    go_wp2
    go_ret
    exact ⟨by rw [hr.out]; rfl, HB.out⟩
  by_cases h1 : i < s
  · have hr := hid (show logTerm s t l i = -1 by rw [logTerm, if_neg h0, if_neg (by omega)])
    go_enter Try.func19, Try.ntmps19
    go_wp2
    go_ret
    exact ⟨by rw [hr.out]; rfl, HB.out⟩
  by_cases h2 : s + l.length < i
  · have hr := hid (show logTerm s t l i = -1 by rw [logTerm, if_neg h0, if_neg (by omega)])
    go_enter Try.func19, Try.ntmps19
    go_wp2_with fail
    refine (CL.out _).mono ?_
    rintro e w1 ⟨rfl, b1⟩
    have B1 := hid (below_via HB.out b1)
    clear b1 CL
    go_wp2
    go_ret
    exact ⟨by rw [hr.out]; rfl, B1.out⟩
  obtain ⟨k, hk⟩ : ∃ k : Nat, i - s = (k : Int) + 1 := ⟨(i - s - 1).toNat, by omega⟩
  have hlt : k < l.length := by omega
  have hlt' : (k : Int) < (l.length : Int) := by omega
  have hr := hid (show logTerm s t l i = l[k].term by
    rw [logTerm, if_neg h0, if_pos (by omega), show (i - s - 1).toNat = k by omega, List.getD_eq_getElem?_getD, List.getElem?_eq_getElem hlt]
    rfl)
  obtain ⟨tm, htm⟩ : ∃ tm, l[k].term = tm := ⟨_, rfl⟩
  go_enter Try.func19, Try.ntmps19
  go_wp2_with fail
  refine (CL.out _).mono ?_
  rintro e w1 ⟨rfl, b1⟩
  have B1 := hid (below_via HB.out b1)
  have d0 := (HX.out.on b1 HX.out.lt).cell (j := 0) rfl
  have d2 := (HX.out.on b1 HX.out.lt).cell (j := 2) rfl
  obtain ⟨b, off, rfl, hc⟩ := hE.out.on b1 (by intro e; rw [e] at hlt; simp at hlt)
  obtain ⟨x0, _, _⟩ := hc k hlt
  rw [htm] at x0
  clear b1 CL hc c0 c1 c2
  go_wp2
  go_ret
  exact ⟨by rw [hr.out, htm]; rfl, B1.out⟩
end Go.Proofs.Ytglibbpigmpanaa
