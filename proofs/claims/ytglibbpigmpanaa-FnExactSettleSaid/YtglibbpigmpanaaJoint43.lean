/-
  The walk of impl.termAt: what it answers.
  The walk of impl.LogTerm: the term of an index.
-/
import Derived.Test.YtglibbpigmpanaaJoint1
import Derived.Test.YtglibbpigmpanaaRows
namespace Go.Proofs.Ytglibbpigmpanaa
open Go.RowKit

/-- the term of an index that the log has -/
theorem logTerm_has {s t : Int} {l : List EntD} {i : Int} (h : logHas s l.length i = false) : logTerm s t l i = -1 := by
  have h' : ¬ (s ≤ i ∧ i ≤ s + l.length) := by simpa [logHas] using h
  rw [logTerm, if_neg (by omega), if_neg (by omega)]

set_option maxRecDepth 1000000 in
set_option maxHeartbeats 1000000 in
theorem termAt_any (s t i : Int) (ao : Option Addr) (l : List EntD) (cap : Nat) (hs : -9223372036854775808 ≤ s ∧ s ≤ 9223372036854775807) (hi : -9223372036854775808 ≤ i ∧ i ≤ 9223372036854775807) (hl : l.length ≤ 1048576) (w : World) (ha : EntsAt w ao l) :
    Calls Try.prog 59 #[.agg #[.int .i64 s, .int .i64 t, .slice ao l.length cap], .int .i64 i] w fun e w' => e = .returned (.tuple #[.int .i64 (if logHas s l.length i = true then logTerm s t l i else 0), .bool (logHas s l.length i)]) ∧ Below w.heap.size w w' := by
  have HB := hid (below_more (Below.refl w.heap.size w) (.cells #[.int .i64 s, .int .i64 t, .slice ao l.length cap] 32))
  have hx : BlockIs (w.alloc (.cells #[.int .i64 s, .int .i64 t, .slice ao l.length cap] 32)) w.heap.size 32 [.int .i64 s, .int .i64 t, .slice ao l.length cap] := heap_alloc_new w _
  have hE := hid (ha.on HB.out)
  obtain ⟨W, hW⟩ : ∃ W, w.alloc (.cells #[.int .i64 s, .int .i64 t, .slice ao l.length cap] 32) = W := ⟨_, rfl⟩
  rw [hW] at HB hx hE
  have c0 := hx.cell (j := 0) rfl
  have c1 := hx.cell (j := 1) rfl
  have c2 := hx.cell (j := 2) rfl
  clear hx ha
  by_cases h0 : i = s
  · have hh : logHas s l.length i = true := by simp [logHas]; omega
    have hr : logTerm s t l i = t := by rw [logTerm, if_pos h0]
    rw [hh, hr, if_pos rfl]
    clear hh hr
    subst h0
    go_enter Try.func59, Try.ntmps59
    go_wp2
    go_ret2
    exact ⟨rfl, HB.out⟩
  by_cases h1 : i < s
  · have hh : logHas s l.length i = false := by simp [logHas]; omega
    rw [hh, if_neg (by simp)]
    clear hh
    go_enter Try.func59, Try.ntmps59
    go_wp2
    go_ret2
    exact ⟨rfl, HB.out⟩
  by_cases h2 : s + l.length < i
  · have hh : logHas s l.length i = false := by simp [logHas]; omega
    rw [hh, if_neg (by simp)]
    clear hh
    obtain ⟨p, hp⟩ : ∃ p, wrap64 (wrap64 (i - s) - 1) = p := ⟨_, rfl⟩
    have hp2 : p < 0 ∨ (l.length : Int) ≤ p := by
      have := hp
      simp only [wrap64] at this
      omega
    by_cases hp0 : p < 0
    · go_enter Try.func59, Try.ntmps59
      go_wp2
      go_ret2
      exact ⟨rfl, HB.out⟩
    · have hp1 : (l.length : Int) ≤ p := by omega
      go_enter Try.func59, Try.ntmps59
      go_wp2
      go_ret2
      exact ⟨rfl, HB.out⟩
  obtain ⟨k, hk⟩ : ∃ k : Nat, i - s = (k : Int) + 1 := ⟨(i - s - 1).toNat, by omega⟩
  have hlt : k < l.length := by omega
  have hlt' : (k : Int) < (l.length : Int) := by omega
  have hr : logTerm s t l i = l[k].term := by
    rw [logTerm, if_neg h0, if_pos (by omega), show (i - s - 1).toNat = k by omega, List.getD_eq_getElem?_getD, List.getElem?_eq_getElem hlt]
    rfl
  have hh : logHas s l.length i = true := by simp [logHas]; omega
  rw [hh, hr, if_pos rfl]
  obtain ⟨tm, htm⟩ : ∃ tm, l[k].term = tm := ⟨_, rfl⟩
  obtain ⟨b, off, rfl, hc⟩ := hE.out (by intro e; rw [e] at hlt; simp at hlt)
  obtain ⟨x0, _, _⟩ := hc k hlt
  rw [htm] at x0 ⊢
  have hk0 : ¬ (k : Int) < 0 := by omega
  have hkl : ¬ (l.length : Int) ≤ (k : Int) := by omega
  clear hc hh hr htm
  go_enter Try.func59, Try.ntmps59
  go_wp2
  go_ret2
  exact ⟨rfl, HB.out⟩
end Go.Proofs.Ytglibbpigmpanaa

namespace Go.Proofs.Ytglibbpigmpanaa
open Go.RowKit

set_option maxRecDepth 1000000 in
theorem implLogTerm_any (s t i : Int) (ao : Option Addr) (l : List EntD) (cap : Nat) (hs : -9223372036854775808 ≤ s ∧ s ≤ 9223372036854775807) (hi : -9223372036854775808 ≤ i ∧ i ≤ 9223372036854775807) (hl : l.length ≤ 1048576) (w : World) (ha : EntsAt w ao l) :
    Calls Try.prog 27 #[.agg #[.int .i64 s, .int .i64 t, .slice ao l.length cap], .int .i64 i] w fun e w' => e = .returned (.int .i64 (logTerm s t l i)) ∧ Below w.heap.size w w' := by
  have HB := hid (below_more (Below.refl w.heap.size w) (.cells #[.int .i64 s, .int .i64 t, .slice ao l.length cap] 32))
  have hx : BlockIs (w.alloc (.cells #[.int .i64 s, .int .i64 t, .slice ao l.length cap] 32)) w.heap.size 32 [.int .i64 s, .int .i64 t, .slice ao l.length cap] := heap_alloc_new w _
  obtain ⟨W, hW⟩ : ∃ W, w.alloc (.cells #[.int .i64 s, .int .i64 t, .slice ao l.length cap] 32) = W := ⟨_, rfl⟩
  rw [hW] at HB hx
  have C' := termAt_any s t i ao l cap hs hi hl W (ha.on HB.out)
  have c0 := hx.cell (j := 0) rfl
  have c1 := hx.cell (j := 1) rfl
  have c2 := hx.cell (j := 2) rfl
  clear hx ha
  cases hq : logHas s l.length i with
  | true =>
    rw [hq, if_pos rfl] at C'
    have C := hid C'
    clear C' hq
    obtain ⟨R, hR⟩ : ∃ R, logTerm s t l i = R := ⟨_, rfl⟩
    rw [hR] at C ⊢
    clear hR
    go_enter Try.func27, Try.ntmps27
    go_wp2_with fail
    refine C.out.mono ?_
    rintro e w1 ⟨rfl, hb⟩
    have B1 := hid (below_via HB.out hb)
    clear hb C
    go_wp2
    go_ret
    exact ⟨rfl, B1.out⟩
  | false =>
    have hr := logTerm_has (t := t) hq
    rw [hr]
    rw [hq, if_neg (by decide)] at C'
    have C := hid C'
    clear C' hq hr
    go_enter Try.func27, Try.ntmps27
    go_wp2_with fail
    refine C.out.mono ?_
    rintro e w1 ⟨rfl, hb⟩
    have B1 := hid (below_via HB.out hb)
    clear hb C
    go_wp2
    go_ret
    exact ⟨rfl, B1.out⟩
end Go.Proofs.Ytglibbpigmpanaa
