/-
  The walk of impl.entriesOk: what it answers.
  The walk of impl.placeOk.
  The walk of impl.LogOk: what it answers.
-/
import Derived.Test.YtglibbpigmpanaaJoint1
import Derived.Test.YtglibbpigmpanaaRows
import Derived.Test.YtglibbpigmpanaaJoint40
import Derived.WalkSmall
import Derived.WalkKit
namespace Go.Proofs.Ytglibbpigmpanaa
open Go.RowKit

set_option maxRecDepth 1000000 in
set_option maxHeartbeats 1000000 in
theorem entriesOk_any (t : Int) (ao : Option Addr) (l : List EntD) (cap : Nat) (hl : l.length ≤ 1048576) (w : World) (ha : EntsAt w ao l) :
    Calls Try.prog 69 #[.slice ao l.length cap, .int .i64 t] w fun e w' => e = .returned (.bool (termsOk t l)) ∧ Below w.heap.size w w' := by
  have HA := hid ha
  have HB : Hid (Below w.heap.size w w) := Below.refl w.heap.size w
  clear ha
  go_enter Try.func69, Try.ntmps69
  go_wp2
  go_loopg [1, 9] l.length (fun g y i wr => ∃ (k : Nat), k + g = l.length ∧ i = .int .i64 k ∧ y = .int .i64 (lastT t (l.take k)) ∧ Hid (termsOk t (l.take k) = true) ∧ Hid (Below w.heap.size w wr))
  case atStart => exact ⟨0, by omega, rfl, rfl, rfl, HB⟩
  case round =>
    obtain ⟨k, hkg, rfl, rfl, RT, BR⟩ := hrel
    clear HB
    cases gk with
    | zero =>
      have hlt : ¬ (k : Int) < (l.length : Int) := by omega
      have hr : Hid (termsOk t l = true) := by
        have := RT.out
        rw [List.take_of_length_le (by omega)] at this
        exact this
      go_wp2
      go_ret
      exact ⟨by rw [hr.out]; rfl, BR.out⟩
    | succ g =>
      have hlt : k < l.length := by omega
      have hlt' : (k : Int) < (l.length : Int) := by omega
      have hne : l ≠ [] := by intro e; rw [e] at hlt; simp at hlt
      obtain ⟨b, off, rfl, hc⟩ := HA.out.on BR.out hne
      obtain ⟨x0, x1, x2⟩ := hc k hlt
      clear hc
      have C' := fun w => implEntryOk_all l[k] w
      have HT := hid (termsOk_take t l k hlt)
      have HL := hid (lastT_take t l k hlt)
      have HBX := hid (below_more (Below.refl wr.heap.size wr) (.cells #[.int .i64 l[k].term, .int .i64 l[k].kind, .string l[k].data] 69))
      have hx : BlockIs (wr.alloc (.cells #[.int .i64 l[k].term, .int .i64 l[k].kind, .string l[k].data] 69)) wr.heap.size 69 [.int .i64 l[k].term, .int .i64 l[k].kind, .string l[k].data] := heap_alloc_new wr _
      have HXX := hid hx
      clear hx
      obtain ⟨tm, htm⟩ : ∃ tm, lastT t (l.take k) = tm := ⟨_, rfl⟩
      rw [htm] at HT ⊢
      clear htm
      cases hE : entryOk l[k] with
      | false =>
        have hr := hid (termsOk_not t l (k + 1) (by rw [HT.out, hE]; simp))
        rw [hE] at C'
        have C := hid C'
        clear C' hE
        go_wp2_with fail
        refine (C.out _).mono ?_
        rintro e w1 ⟨rfl, b1⟩
        have B1 := hid (below_via BR.out (below_via HBX.out b1))
        clear b1 C
        go_wp2
        go_ret
        exact ⟨by rw [hr.out]; rfl, B1.out⟩
      | true =>
        rw [hE] at C'
        have C := hid C'
        clear C'
        by_cases hF : l[k].term < tm
        · have hr := hid (termsOk_not t l (k + 1) (by rw [HT.out, hE]; simp; omega))
          clear hE
          go_wp2_with fail
          refine (C.out _).mono ?_
          rintro e w1 ⟨rfl, b1⟩
          have B1 := hid (below_via BR.out (below_via HBX.out b1))
          have y0 := (HXX.out.on b1 HXX.out.lt).cell (j := 0) rfl
          clear b1 C x0 x1 x2
          go_wp2
          go_ret
          exact ⟨by rw [hr.out]; rfl, B1.out⟩
        · have RT2 : Hid (termsOk t (l.take (k + 1)) = true) := by show _ = _; rw [HT.out, hE, RT.out]; simp; omega
          clear hE
          go_wp2_with fail
          refine (C.out _).mono ?_
          rintro e w1 ⟨rfl, b1⟩
          have B1 := hid (below_via BR.out (below_via HBX.out b1))
          have y0 := (HXX.out.on b1 HXX.out.lt).cell (j := 0) rfl
          clear b1 C x0 x1 x2
          go_wp2
          go_roundg g
          case measure => omega
          case rel => exact ⟨k + 1, by omega, by go_num, by rw [HL.out], RT2, B1⟩
end Go.Proofs.Ytglibbpigmpanaa

namespace Go.Proofs.Ytglibbpigmpanaa
open Go.RowKit

set_option maxRecDepth 1000000 in
theorem placeOk_any (ix tm : Int) (w : World) : Calls Try.prog 68 #[.int .i64 ix, .int .i64 tm] w fun e w' => e = .returned (.bool (within ix 0 1000000 && within tm 0 100000)) ∧ w' = w := by
  by_cases h1 : 0 ≤ ix
  · by_cases h2 : ix ≤ 1000000
    · by_cases h3 : 0 ≤ tm
      · have HQ : Hid ((within ix 0 1000000 && within tm 0 100000) = decide (tm ≤ 100000)) := (show _ = _ by simp [within, h1, h2, h3])
        go_enter Try.func68, Try.ntmps68
        go_wp2
        go_ret
        exact ⟨by rw [HQ.out]; rfl, rfl⟩
      · have HQ : Hid ((within ix 0 1000000 && within tm 0 100000) = false) := (show _ = _ by simp [within]; omega)
        go_enter Try.func68, Try.ntmps68
        go_wp2
        go_ret
        exact ⟨by rw [HQ.out]; rfl, rfl⟩
    · have HQ : Hid ((within ix 0 1000000 && within tm 0 100000) = false) := (show _ = _ by simp [within]; omega)
      go_enter Try.func68, Try.ntmps68
      go_wp2
      go_ret
      exact ⟨by rw [HQ.out]; rfl, rfl⟩
  · have HQ : Hid ((within ix 0 1000000 && within tm 0 100000) = false) := (show _ = _ by simp [within]; omega)
    go_enter Try.func68, Try.ntmps68
    go_wp2
    go_ret
    exact ⟨by rw [HQ.out]; rfl, rfl⟩
end Go.Proofs.Ytglibbpigmpanaa

namespace Go.Proofs.Ytglibbpigmpanaa
open Go.RowKit

set_option maxRecDepth 1000000 in
set_option maxHeartbeats 1000000 in
theorem implLogOk_any (s t : Int) (ao : Option Addr) (l : List EntD) (cap : Nat) (hl : l.length ≤ 1048576) (w : World) (ha : EntsAt w ao l) :
    Calls Try.prog 50 #[.agg #[.int .i64 s, .int .i64 t, .slice ao l.length cap]] w fun e w' => e = .returned (.bool (logOk s t l)) ∧ Below w.heap.size w w' := by
  have HA := hid ha
  have HB := hid (below_more (Below.refl w.heap.size w) (.cells #[.int .i64 s, .int .i64 t, .slice ao l.length cap] 32))
  have hx : BlockIs (w.alloc (.cells #[.int .i64 s, .int .i64 t, .slice ao l.length cap] 32)) w.heap.size 32 [.int .i64 s, .int .i64 t, .slice ao l.length cap] := heap_alloc_new w _
  obtain ⟨W, hW⟩ : ∃ W, w.alloc (.cells #[.int .i64 s, .int .i64 t, .slice ao l.length cap] 32) = W := ⟨_, rfl⟩
  rw [hW] at HB hx
  have HX := hid hx
  have c0 := hx.cell (j := 0) rfl
  have c1 := hx.cell (j := 1) rfl
  have c2 := hx.cell (j := 2) rfl
  clear hx ha
  cases hP : (within s 0 1000000 && within t 0 100000) with
  | false =>
    have hr : Hid (logOk s t l = false) := by
      rw [Bool.and_eq_false_iff] at hP
      rcases hP with q | q
      · exact logOk_start (fun h => by rw [within_iff.2 h] at q; cases q)
      · exact logOk_term (fun h => by rw [within_iff.2 h] at q; cases q)
    go_enter Try.func50, Try.ntmps50
    go_wp2_with fail
    refine (placeOk_any s t _).mono ?_
    rintro e w1 ⟨rfl, hw⟩
    rw [hw, hP]
    clear hw w1 hP
    go_wp2
    go_ret
    exact ⟨by rw [hr.out]; rfl, HB.out⟩
  | true =>
  have hPb := hP
  rw [Bool.and_eq_true, within_iff, within_iff] at hPb
  obtain ⟨⟨hs0, hs1⟩, ht0, ht1⟩ := hPb
  have cP := hid (fun w => placeOk_any s t w)
  rw [hP] at cP
  clear hP
  by_cases h60 : (60 : Int) < (l.length : Int)
  · have hr := hid (logOk_len (s := s) (t := t) (l := l) (by omega))
    go_enter Try.func50, Try.ntmps50
    go_wp2_with fail
    refine (cP.out _).mono ?_
    rintro e w1 ⟨rfl, hw⟩
    rw [hw]
    clear hw w1
    go_wp2
    go_ret
    exact ⟨by rw [hr.out]; rfl, HB.out⟩
  by_cases hsum : (1000000 : Int) < s + (l.length : Int)
  · have hr := hid (logOk_sum (s := s) (t := t) (l := l) (by omega))
    go_enter Try.func50, Try.ntmps50
    go_wp2_with fail
    refine (cP.out _).mono ?_
    rintro e w1 ⟨rfl, hw⟩
    rw [hw]
    clear hw w1
    go_wp2
    go_ret
    exact ⟨by rw [hr.out]; rfl, HB.out⟩
  have HQ : Hid (termsOk t l = logOk s t l) := by
    show _ = _
    cases h : termsOk t l with
    | true => exact (logOk_of (by omega) (by omega) (by omega) (by omega) h).symm
    | false => exact (logOk_ents h).symm
  have C := hid (fun w ha => entriesOk_any t ao l cap hl w ha)
  go_enter Try.func50, Try.ntmps50
  go_wp2_with fail
  refine (cP.out _).mono ?_
  rintro e w1 ⟨rfl, hw⟩
  rw [hw]
  clear hw w1
  go_wp2_with fail
  refine (C.out _ (HA.out.on HB.out)).mono ?_
  rintro e w1 ⟨rfl, b1⟩
  have B1 := hid (below_via HB.out b1)
  rw [HQ.out]
  clear b1 C
  go_wp2
  go_ret
  exact ⟨rfl, B1.out⟩
end Go.Proofs.Ytglibbpigmpanaa
