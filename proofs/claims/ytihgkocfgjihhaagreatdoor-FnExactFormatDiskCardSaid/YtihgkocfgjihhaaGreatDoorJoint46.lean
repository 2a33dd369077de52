/-
  The walk of spec.LogOk: what it answers.
  The walk of spec.JournalOk.
-/
import Derived.Test.YtihgkocfgjihhaaGreatDoorJoint1
import Derived.Test.YtihgkocfgjihhaaGreatDoorRows
import Derived.Test.YtihgkocfgjihhaaGreatDoorJoint42
import Derived.Deep.QuietTactic
namespace Go.Proofs.YtihgkocfgjihhaaGreatDoor
open Go.RowKit

set_option maxRecDepth 1000000 in
set_option maxHeartbeats 1000000 in
theorem specLogOk_any (s t : Int) (ao : Option Addr) (l : List EntD) (cap : Nat) (hl : l.length ≤ 1048576) (hs : ∀ f ∈ l, f.data.size ≤ 1048576) (w : World) (ha : EntsAt w ao l) :
    Calls Tryz.prog 109 #[.agg #[.int .i64 s, .int .i64 t, .slice ao l.length cap]] w fun e w' => e = .returned (.bool (logOk s t l)) ∧ Below w.heap.size w w' := by
  have HA := hid ha
  have HS := hid hs
  have HB := hid (below_more (Below.refl w.heap.size w) (.cells #[.int .i64 s, .int .i64 t, .slice ao l.length cap] 58))
  have hx : BlockIs (w.alloc (.cells #[.int .i64 s, .int .i64 t, .slice ao l.length cap] 58)) w.heap.size 58 [.int .i64 s, .int .i64 t, .slice ao l.length cap] := heap_alloc_new w _
  obtain ⟨W, hW⟩ : ∃ W, w.alloc (.cells #[.int .i64 s, .int .i64 t, .slice ao l.length cap] 58) = W := ⟨_, rfl⟩
  rw [hW] at HB hx
  have HX := hid hx
  have c0 := hx.cell (j := 0) rfl
  have c1 := hx.cell (j := 1) rfl
  have c2 := hx.cell (j := 2) rfl
  have cS' := fun w => l01In_any s 0 1000000 w
  have cT' := fun w => l01In_any t 0 100000 w
  clear hx ha hs
  cases hA : within s 0 1000000 with
  | false =>
    have hr := hid (logOk_start (t := t) (l := l) (by rw [← within_iff, hA]; simp))
    rw [hA] at cS'
    have cS := hid cS'
    clear cS' hA cT'
    go_enter Tryz.func109, Tryz.ntmps109
    go_wp2_with fail
    refine (cS.out _).mono ?_
    rintro e w1 ⟨rfl, hw⟩
    rw [hw]
    clear hw w1
    go_wp2
    go_ret
    exact ⟨by rw [hr.out]; rfl, HB.out⟩
  | true =>
    have hs2 := within_iff.1 hA
    rw [hA] at cS'
    have cS := hid cS'
    clear cS' hA
    cases hA : within t 0 100000 with
    | false =>
      have hr := hid (logOk_term (s := s) (l := l) (by rw [← within_iff, hA]; simp))
      rw [hA] at cT'
      have cT := hid cT'
      clear cT' hA
      go_enter Tryz.func109, Tryz.ntmps109
      go_wp2_with fail
      refine (cS.out _).mono ?_
      rintro e w1 ⟨rfl, hw⟩
      rw [hw]
      clear hw w1
      go_wp2_with fail
      refine (cT.out _).mono ?_
      rintro e w1 ⟨rfl, hw⟩
      rw [hw]
      clear hw w1
      go_wp2
      go_ret
      exact ⟨by rw [hr.out]; rfl, HB.out⟩
    | true =>
      have ht2 := within_iff.1 hA
      rw [hA] at cT'
      have cT := hid cT'
      clear cT' hA
      by_cases h60 : (60 : Int) < (l.length : Int)
      · have hr := hid (logOk_len (s := s) (t := t) (l := l) (by omega))
        go_enter Tryz.func109, Tryz.ntmps109
        go_wp2_with fail
        refine (cS.out _).mono ?_
        rintro e w1 ⟨rfl, hw⟩
        rw [hw]
        clear hw w1
        go_wp2_with fail
        refine (cT.out _).mono ?_
        rintro e w1 ⟨rfl, hw⟩
        rw [hw]
        clear hw w1
        go_wp2
        go_ret
        exact ⟨by rw [hr.out]; rfl, HB.out⟩
      · by_cases hsum : (1000000 : Int) < s + (l.length : Int)
        · have hr := hid (logOk_sum (s := s) (t := t) (l := l) (by omega))
          go_enter Tryz.func109, Tryz.ntmps109
          go_wp2_with fail
          refine (cS.out _).mono ?_
          rintro e w1 ⟨rfl, hw⟩
          rw [hw]
          clear hw w1
          go_wp2_with fail
          refine (cT.out _).mono ?_
          rintro e w1 ⟨rfl, hw⟩
          rw [hw]
          clear hw w1
          go_wp2
          go_ret
          exact ⟨by rw [hr.out]; rfl, HB.out⟩
        · have HOK := hid (fun h => logOk_of (l := l) hs2 ht2 (by omega) (by omega) h)
          have HNO := hid (fun h => logOk_ents (s := s) (t := t) (l := l) h)
          go_enter Tryz.func109, Tryz.ntmps109
          go_wp2_with fail
          refine (cS.out _).mono ?_
          rintro e w1 ⟨rfl, hw⟩
          rw [hw]
          clear hw w1
          go_wp2_with fail
          refine (cT.out _).mono ?_
          rintro e w1 ⟨rfl, hw⟩
          rw [hw]
          clear hw w1
          clear cS cT
          go_wp2
          go_loopg [3, 4] l.length (fun g y i wr => ∃ (k : Nat), k + g = l.length ∧ i = .int .i64 k ∧ y = .int .i64 (lastT t (l.take k)) ∧ Hid (termsOk t (l.take k) = true) ∧ Hid (Below w.heap.size w wr) ∧ Hid (BlockIs wr w.heap.size 58 [.int .i64 s, .int .i64 t, .slice ao l.length cap]))
          case atStart => exact ⟨0, by omega, rfl, rfl, rfl, HB, HX⟩
          case round =>
            obtain ⟨k, hkg, rfl, rfl, RT, BR, XR⟩ := hrel
            clear HB HX c0 c1 c2
            have c2 := XR.out.cell (j := 2) rfl
            cases gk with
            | zero =>
              have hlt : ¬ (k : Int) < (l.length : Int) := by omega
              have hr := hid (HOK.out (by rw [← RT.out, List.take_of_length_le (by omega)]))
              go_wp2
              go_ret
              exact ⟨by rw [hr.out]; rfl, BR.out⟩
            | succ g =>
              have hlt : k < l.length := by omega
              have hlt' : (k : Int) < (l.length : Int) := by omega
              have hne : l ≠ [] := by intro e; rw [e] at hlt; simp at hlt
              obtain ⟨b, off, rfl, hc⟩ := HA.out.on BR.out hne
              obtain ⟨x0, x1, x2⟩ := hc k hlt
              clear hc
              have C' := fun w => specEntryOk_any l[k] (HS.out _ (List.getElem_mem hlt)) w
              have HT := hid (termsOk_take t l k hlt)
              have HL := hid (lastT_take t l k hlt)
              obtain ⟨tm, htm⟩ : ∃ tm, lastT t (l.take k) = tm := ⟨_, rfl⟩
              rw [htm] at HT ⊢
              clear htm
              cases hE : entryOk l[k] with
              | false =>
                have hr := hid (HNO.out (termsOk_not t l (k + 1) (by rw [HT.out, hE]; simp)))
                rw [hE] at C'
                have C := hid C'
                clear C' hE
                go_wp2_with fail
                refine (C.out _).mono ?_
                rintro e w1 ⟨rfl, b1⟩
                have B1 := hid (below_via BR.out b1)
                clear b1 C
                go_wp2
                go_ret
                exact ⟨by rw [hr.out]; rfl, B1.out⟩
              | true =>
                rw [hE] at C'
                have C := hid C'
                clear C'
                by_cases hF : l[k].term < tm
                · have hr := hid (HNO.out (termsOk_not t l (k + 1) (by rw [HT.out, hE]; simp; omega)))
                  clear hE
                  go_wp2_with fail
                  refine (C.out _).mono ?_
                  rintro e w1 ⟨rfl, b1⟩
                  have B1 := hid (below_via BR.out b1)
                  have d2 := (XR.out.on b1 XR.out.lt).cell (j := 2) rfl
                  have y0 := (b1.cell (p := ⟨b, off + k * 3, none⟩) (World.block_lt_of_cell? wr _ x0)).trans x0
                  clear b1 C c2 x0 x1 x2
                  go_wp2
                  go_ret
                  exact ⟨by rw [hr.out]; rfl, B1.out⟩
                · have RT2 : Hid (termsOk t (l.take (k + 1)) = true) := by show _ = _; rw [HT.out, hE, RT.out]; simp; omega
                  clear hE
                  go_wp2_with fail
                  refine (C.out _).mono ?_
                  rintro e w1 ⟨rfl, b1⟩
                  have B1 := hid (below_via BR.out b1)
                  have X1 := hid (XR.out.on b1 XR.out.lt)
                  have d2 := X1.out.cell (j := 2) rfl
                  have y0 := (b1.cell (p := ⟨b, off + k * 3, none⟩) (World.block_lt_of_cell? wr _ x0)).trans x0
                  clear b1 C c2 x0 x1 x2
                  go_wp2
                  go_roundg g
                  case measure => omega
                  case rel => exact ⟨k + 1, by omega, by go_num, by rw [HL.out], RT2, B1, X1⟩
end Go.Proofs.YtihgkocfgjihhaaGreatDoor

namespace Go.Proofs.YtihgkocfgjihhaaGreatDoor
open Go.RowKit

set_option maxRecDepth 1000000 in
set_option maxHeartbeats 1000000 in
theorem specJournalOk_any (n tm vt s t : Int) (ao : Option Addr) (l : List EntD) (cap : Nat) (hl : l.length ≤ 1048576) (hsm : ∀ f ∈ l, f.data.size ≤ 1048576) (w : World) (ha : EntsAt w ao l) :
    Calls Tryz.prog 54 #[jourV n tm vt s t (.slice ao l.length cap)] w fun e w' => e = .returned (.bool (jourOk n tm vt s t l)) ∧ Below w.heap.size w w' := by
  have HB := hid (below_more (Below.refl w.heap.size w) (.cells #[.int .i64 n, .int .i64 tm, .int .i64 vt, .int .i64 s, .int .i64 t, .slice ao l.length cap] 63))
  have HA := hid ha
  have HS := hid hsm
  clear ha hsm
  cases h1 : within n 0 999 with
  | false =>
    have HJ : Hid (jourOk n tm vt s t l = false) := (show _ = _ by simp [jourOk, h1])
    go_enter Tryz.func54, Tryz.ntmps54
    go_wp2_with fail
    refine (l01In_any n 0 999 _).mono ?_
    rintro e w1 ⟨rfl, hw⟩
    rw [hw, h1]
    clear hw w1 h1
    go_wp2
    go_ret
    exact ⟨by rw [HJ.out]; rfl, HB.out⟩
  | true =>
    cases h2 : within tm 0 100000 with
    | false =>
      have HJ : Hid (jourOk n tm vt s t l = false) := (show _ = _ by simp [jourOk, h2])
      go_enter Tryz.func54, Tryz.ntmps54
      go_wp2_with fail
      refine (l01In_any n 0 999 _).mono ?_
      rintro e w1 ⟨rfl, hw⟩
      rw [hw, h1]
      clear hw w1 h1
      go_wp2_with fail
      refine (l01In_any tm 0 100000 _).mono ?_
      rintro e w1 ⟨rfl, hw⟩
      rw [hw, h2]
      clear hw w1 h2
      go_wp2
      go_ret
      exact ⟨by rw [HJ.out]; rfl, HB.out⟩
    | true =>
      cases h3 : within vt 0 4 with
      | false =>
        have HJ : Hid (jourOk n tm vt s t l = false) := (show _ = _ by simp [jourOk, h3])
        go_enter Tryz.func54, Tryz.ntmps54
        go_wp2_with fail
        refine (l01In_any n 0 999 _).mono ?_
        rintro e w1 ⟨rfl, hw⟩
        rw [hw, h1]
        clear hw w1 h1
        go_wp2_with fail
        refine (l01In_any tm 0 100000 _).mono ?_
        rintro e w1 ⟨rfl, hw⟩
        rw [hw, h2]
        clear hw w1 h2
        go_wp2_with fail
        refine (l01In_any vt 0 4 _).mono ?_
        rintro e w1 ⟨rfl, hw⟩
        rw [hw, h3]
        clear hw w1 h3
        go_wp2
        go_ret
        exact ⟨by rw [HJ.out]; rfl, HB.out⟩
      | true =>
        have HJ : Hid (jourOk n tm vt s t l = logOk s t l) := (show _ = _ by simp [jourOk, h1, h2, h3])
        go_enter Tryz.func54, Tryz.ntmps54
        go_wp2_with fail
        refine (l01In_any n 0 999 _).mono ?_
        rintro e w1 ⟨rfl, hw⟩
        rw [hw, h1]
        clear hw w1 h1
        go_wp2_with fail
        refine (l01In_any tm 0 100000 _).mono ?_
        rintro e w1 ⟨rfl, hw⟩
        rw [hw, h2]
        clear hw w1 h2
        go_wp2_with fail
        refine (l01In_any vt 0 4 _).mono ?_
        rintro e w1 ⟨rfl, hw⟩
        rw [hw, h3]
        clear hw w1 h3
        go_wp2_with fail
        refine (specLogOk_any s t ao l cap hl HS.out _ (HA.out.on HB.out)).mono ?_
        rintro e w1 ⟨rfl, b1⟩
        have B1 := hid (below_via HB.out b1)
        clear b1 HB
        obtain ⟨q, hq⟩ : ∃ q, logOk s t l = q := ⟨_, rfl⟩
        rw [hq] at HJ ⊢
        clear hq
        go_wp2
        go_ret
        exact ⟨by rw [HJ.out]; rfl, B1.out⟩
end Go.Proofs.YtihgkocfgjihhaaGreatDoor
