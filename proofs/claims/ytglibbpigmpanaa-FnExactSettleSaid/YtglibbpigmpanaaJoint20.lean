/-
  The walk of spec.LogOk: what it answers.
  The walk of spec.LogLast: what it answers.
-/
import Derived.Test.YtglibbpigmpanaaJoint1
import Derived.Test.YtglibbpigmpanaaRows
import Derived.Test.YtglibbpigmpanaaJoint19
import Derived.Deep.QuietTactic
namespace Go.Proofs.Ytglibbpigmpanaa
open Go.RowKit

set_option maxRecDepth 1000000 in
set_option maxHeartbeats 1000000 in
theorem specLogOk_any (s t : Int) (ao : Option Addr) (l : List EntD) (cap : Nat) (hl : l.length ≤ 1048576) (hs : ∀ f ∈ l, f.data.size ≤ 1048576) (w : World) (ha : EntsAt w ao l) :
    Calls Try.prog 39 #[.agg #[.int .i64 s, .int .i64 t, .slice ao l.length cap]] w fun e w' => e = .returned (.bool (logOk s t l)) ∧ Below w.heap.size w w' := by
  have HA := hid ha
  have HS := hid hs
  have HB := hid (below_more (Below.refl w.heap.size w) (.cells #[.int .i64 s, .int .i64 t, .slice ao l.length cap] 32))
  have hx : BlockIs (w.alloc (.cells #[.int .i64 s, .int .i64 t, .slice ao l.length cap] 32)) w.heap.size 32 [.int .i64 s, .int .i64 t, .slice ao l.length cap] := heap_alloc_new w _
  obtain ⟨W, hW⟩ : ∃ W, w.alloc (.cells #[.int .i64 s, .int .i64 t, .slice ao l.length cap] 32) = W := ⟨_, rfl⟩
  rw [hW] at HB hx
  have HX := hid hx
  have c0 := hx.cell (j := 0) rfl
  have c1 := hx.cell (j := 1) rfl
  have c2 := hx.cell (j := 2) rfl
  have cS' := fun w => l01In_any s 0 1000000 w
  have cT' := fun w => l01In_any t 0 100000 w
  clear hx ha hs
  cases hA : within s 0 1000000 with
  | false =>
    have hr := hid (logOk_start (t := t) (l := l) (by rw [← within_iff, hA]; simp))
    rw [hA] at cS'
    have cS := hid cS'
    clear cS' hA cT'
    go_enter Try.func39, Try.ntmps39
    go_wp2_with fail
    refine (cS.out _).mono ?_
    rintro e w1 ⟨rfl, hw⟩
    rw [hw]
    clear hw w1
    go_wp2
    go_ret
    exact ⟨by rw [hr.out]; rfl, HB.out⟩
  | true =>
    have hs2 := within_iff.1 hA
    rw [hA] at cS'
    have cS := hid cS'
    clear cS' hA
    cases hA : within t 0 100000 with
    | false =>
      have hr := hid (logOk_term (s := s) (l := l) (by rw [← within_iff, hA]; simp))
      rw [hA] at cT'
      have cT := hid cT'
      clear cT' hA
      go_enter Try.func39, Try.ntmps39
      go_wp2_with fail
      refine (cS.out _).mono ?_
      rintro e w1 ⟨rfl, hw⟩
      rw [hw]
      clear hw w1
      go_wp2_with fail
      refine (cT.out _).mono ?_
      rintro e w1 ⟨rfl, hw⟩
      rw [hw]
      clear hw w1
      go_wp2
      go_ret
      exact ⟨by rw [hr.out]; rfl, HB.out⟩
    | true =>
      have ht2 := within_iff.1 hA
      rw [hA] at cT'
      have cT := hid cT'
      clear cT' hA
      by_cases h60 : (60 : Int) < (l.length : Int)
      · have hr := hid (logOk_len (s := s) (t := t) (l := l) (by omega))
        go_enter Try.func39, Try.ntmps39
        go_wp2_with fail
        refine (cS.out _).mono ?_
        rintro e w1 ⟨rfl, hw⟩
        rw [hw]
        clear hw w1
        go_wp2_with fail
        refine (cT.out _).mono ?_
        rintro e w1 ⟨rfl, hw⟩
        rw [hw]
        clear hw w1
        go_wp2
        go_ret
        exact ⟨by rw [hr.out]; rfl, HB.out⟩
      · by_cases hsum : (1000000 : Int) < s + (l.length : Int)
        · have hr := hid (logOk_sum (s := s) (t := t) (l := l) (by omega))
          go_enter Try.func39, Try.ntmps39
          go_wp2_with fail
          refine (cS.out _).mono ?_
          rintro e w1 ⟨rfl, hw⟩
          rw [hw]
          clear hw w1
          go_wp2_with fail
          refine (cT.out _).mono ?_
          rintro e w1 ⟨rfl, hw⟩
          rw [hw]
          clear hw w1
          go_wp2
          go_ret
          exact ⟨by rw [hr.out]; rfl, HB.out⟩
        · have HOK := hid (fun h => logOk_of (l := l) hs2 ht2 (by omega) (by omega) h)
          have HNO := hid (fun h => logOk_ents (s := s) (t := t) (l := l) h)
          go_enter Try.func39, Try.ntmps39
          go_wp2_with fail
          refine (cS.out _).mono ?_
          rintro e w1 ⟨rfl, hw⟩
          rw [hw]
          clear hw w1
          go_wp2_with fail
          refine (cT.out _).mono ?_
          rintro e w1 ⟨rfl, hw⟩
          rw [hw]
          clear hw w1
          clear cS cT
          go_wp2
          go_loopg [3, 4] l.length (fun g y i wr => ∃ (k : Nat), k + g = l.length ∧ i = .int .i64 k ∧ y = .int .i64 (lastT t (l.take k)) ∧ Hid (termsOk t (l.take k) = true) ∧ Hid (Below w.heap.size w wr) ∧ Hid (BlockIs wr w.heap.size 32 [.int .i64 s, .int .i64 t, .slice ao l.length cap]))
          case atStart => exact ⟨0, by omega, rfl, rfl, rfl, HB, HX⟩
          case round =>
            obtain ⟨k, hkg, rfl, rfl, RT, BR, XR⟩ := hrel
            clear HB HX c0 c1 c2
            have c2 := XR.out.cell (j := 2) rfl
            cases gk with
            | zero =>
              have hlt : ¬ (k : Int) < (l.length : Int) := by omega
              have hr := hid (HOK.out (by rw [← RT.out, List.take_of_length_le (by omega)]))
              go_wp2
              go_ret
              exact ⟨by rw [hr.out]; rfl, BR.out⟩
            | succ g =>
              have hlt : k < l.length := by omega
              have hlt' : (k : Int) < (l.length : Int) := by omega
              have hne : l ≠ [] := by intro e; rw [e] at hlt; simp at hlt
              obtain ⟨b, off, rfl, hc⟩ := HA.out.on BR.out hne
              obtain ⟨x0, x1, x2⟩ := hc k hlt
              clear hc
              have C' := fun w => specEntryOk_any l[k] (HS.out _ (List.getElem_mem hlt)) w
              have HT := hid (termsOk_take t l k hlt)
              have HL := hid (lastT_take t l k hlt)
              obtain ⟨tm, htm⟩ : ∃ tm, lastT t (l.take k) = tm := ⟨_, rfl⟩
              rw [htm] at HT ⊢
              clear htm
              cases hE : entryOk l[k] with
              | false =>
                have hr := hid (HNO.out (termsOk_not t l (k + 1) (by rw [HT.out, hE]; simp)))
                rw [hE] at C'
                have C := hid C'
                clear C' hE
                go_wp2_with fail
                refine (C.out _).mono ?_
                rintro e w1 ⟨rfl, b1⟩
                have B1 := hid (below_via BR.out b1)
                clear b1 C
                go_wp2
                go_ret
                exact ⟨by rw [hr.out]; rfl, B1.out⟩
              | true =>
                rw [hE] at C'
                have C := hid C'
                clear C'
                by_cases hF : l[k].term < tm
                · have hr := hid (HNO.out (termsOk_not t l (k + 1) (by rw [HT.out, hE]; simp; omega)))
                  clear hE
                  go_wp2_with fail
                  refine (C.out _).mono ?_
                  rintro e w1 ⟨rfl, b1⟩
                  have B1 := hid (below_via BR.out b1)
                  have d2 := (XR.out.on b1 XR.out.lt).cell (j := 2) rfl
                  have y0 := (b1.cell (p := ⟨b, off + k * 3, none⟩) (World.block_lt_of_cell? wr _ x0)).trans x0
                  clear b1 C c2 x0 x1 x2
                  go_wp2
                  go_ret
                  exact ⟨by rw [hr.out]; rfl, B1.out⟩
                · have RT2 : Hid (termsOk t (l.take (k + 1)) = true) := by show _ = _; rw [HT.out, hE, RT.out]; simp; omega
                  clear hE
                  go_wp2_with fail
                  refine (C.out _).mono ?_
                  rintro e w1 ⟨rfl, b1⟩
                  have B1 := hid (below_via BR.out b1)
                  have X1 := hid (XR.out.on b1 XR.out.lt)
                  have d2 := X1.out.cell (j := 2) rfl
                  have y0 := (b1.cell (p := ⟨b, off + k * 3, none⟩) (World.block_lt_of_cell? wr _ x0)).trans x0
                  clear b1 C c2 x0 x1 x2
                  go_wp2
                  go_roundg g
                  case measure => omega
                  case rel => exact ⟨k + 1, by omega, by go_num, by rw [HL.out], RT2, B1, X1⟩
end Go.Proofs.Ytglibbpigmpanaa

namespace Go.Proofs.Ytglibbpigmpanaa
open Go.RowKit

set_option maxRecDepth 1000000 in
set_option maxHeartbeats 1000000 in
theorem specLogLast_any (s t : Int) (hs : -9223372036854775808 ≤ s ∧ s ≤ 9223372036854775807) (ao : Option Addr) (l : List EntD) (cap : Nat) (hl : l.length ≤ 1048577) (w : World) (ha : EntsAt w ao l) :
    Calls Try.prog 40 #[.agg #[.int .i64 s, .int .i64 t, .slice ao l.length cap]] w fun e w' => e = .returned (.tuple #[.int .i64 (wrap64 (s + l.length)), .int .i64 (lastT t l)]) ∧ Below w.heap.size w w' := by
  have HB := hid (below_more (Below.refl w.heap.size w) (.cells #[.int .i64 s, .int .i64 t, .slice ao l.length cap] 32))
  have hx : BlockIs (w.alloc (.cells #[.int .i64 s, .int .i64 t, .slice ao l.length cap] 32)) w.heap.size 32 [.int .i64 s, .int .i64 t, .slice ao l.length cap] := heap_alloc_new w _
  have hE := ha.on HB.out
  obtain ⟨W, hW⟩ : ∃ W, w.alloc (.cells #[.int .i64 s, .int .i64 t, .slice ao l.length cap] 32) = W := ⟨_, rfl⟩
  rw [hW] at HB hx hE
  have c0 := hx.cell (j := 0) rfl
  have c1 := hx.cell (j := 1) rfl
  have c2 := hx.cell (j := 2) rfl
  clear hx ha
  by_cases h0 : l.length = 0
  · have hl0 : l = [] := List.length_eq_zero_iff.1 h0
    subst hl0
    have hw0 : wrap64 (s + ((([] : List EntD).length : Nat) : Int)) = s := by rw [IntWalk.wrap64_in] <;> simp <;> omega
    rw [hw0]
    clear hw0
    go_enter Try.func40, Try.ntmps40
    go_wp2
    go_quiet (fail)
    go_wp2
    go_ret2
    exact ⟨rfl, below_drewN (below_more (Below.refl _ w) _) _⟩
  · have hne : ¬ (l.length : Int) = 0 := by omega
    obtain ⟨b, off, rfl, hc⟩ := hE (by intro e; rw [e] at h0; simp at h0)
    have hlt : l.length - 1 < l.length := by omega
    obtain ⟨x0, _, _⟩ := hc (l.length - 1) hlt
    have hsub : (l.length : Int) - 1 = ((l.length - 1 : Nat) : Int) := by omega
    have HL := hid (lastT_last t l (by omega))
    clear hc hE
    obtain ⟨tm, htm⟩ : ∃ tm, l[l.length - 1].term = tm := ⟨_, rfl⟩
    rw [htm] at HL x0
    rw [HL.out]
    obtain ⟨N, hN⟩ : ∃ N, l.length = N := ⟨_, rfl⟩
    rw [hN] at hsub c2 hne hlt hW x0 ⊢
    obtain ⟨n, hn⟩ : ∃ n, N - 1 = n := ⟨_, rfl⟩
    rw [hn] at hsub hlt x0
    have hnl : (n : Int) < (N : Int) := by omega
    have hn0 : (0 : Int) ≤ (n : Int) := by omega
    have hwn : IntKind.i64.wrap (n : Int) = (n : Int) := by rw [IntKind.wrap_i64]; omega
    clear hn HL htm hN h0
    go_enter Try.func40, Try.ntmps40
    go_wp2
    go_quiet (fail)
    go_wp2
    go_ret2
    exact ⟨rfl, below_drewN HB.out _⟩
end Go.Proofs.Ytglibbpigmpanaa
