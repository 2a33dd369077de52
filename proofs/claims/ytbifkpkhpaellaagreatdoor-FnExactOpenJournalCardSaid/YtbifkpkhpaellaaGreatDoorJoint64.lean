/-
  The walk of impl.openJournal.
  The walk of impl.OpenJournal.
-/
import Derived.Test.YtbifkpkhpaellaaGreatDoorJoint54
import Derived.Test.YtbifkpkhpaellaaGreatDoorJoint55
import Derived.Test.YtbifkpkhpaellaaGreatDoorJoint63
import Derived.Test.YtbifkpkhpaellaaGreatDoorJoint1
import Derived.Test.YtbifkpkhpaellaaGreatDoorJoint27
import Derived.Deep.RegionLaw
import Derived.Deep.QuietTactic
import Derived.BigQuiet
import Derived.Lib.QuietBelow
namespace Go.Proofs.YtbifkpkhpaellaaGreatDoor
open Go.RowKit

theorem implFileText_any (ao : Option Addr) (l : List FileD) (cap : Nat) (name : ByteArray) (hl : l.length ≤ 1048576) (ht : ∀ f ∈ l, f.text.size ≤ 1048576) : ∃ b : Bool, ∀ (w : World), FilesAt w ao l →
    Calls Tryz.prog 48 #[.agg #[.slice ao l.length cap], .string name] w fun e w' => e = .returned (.tuple #[.string (fileText l name), .bool b]) ∧ Below w.heap.size w w' := by
  by_cases hq : NoneAt l name
  · refine ⟨false, fun w ha => (implFileAt_any ao l cap name hl ht w ha).mono ?_⟩
    rintro e w' ⟨(⟨k, hk, h1, rfl⟩ | ⟨h1, rfl⟩), hb⟩
    · exact absurd h1.2.1 (hq k hk)
    · exact ⟨by rw [fileText_none h1], hb⟩
  · refine ⟨true, fun w ha => (implFileAt_any ao l cap name hl ht w ha).mono ?_⟩
    rintro e w' ⟨(⟨k, hk, h1, rfl⟩ | ⟨h1, rfl⟩), hb⟩
    · exact ⟨by rw [fileText_first hk h1], hb⟩
    · exact absurd h1 hq
/-- what openJournal answers -/
def openIDid (o : Option (JouD × List ActD)) (w : World) (e : Ending) (w' : World) : Prop := match o with
  | none => ∃ va k vc c, e = .returned (.tuple #[.agg #[.int .i64 0, .int .i64 0, .int .i64 0, .int .i64 0, .int .i64 0, .slice none 0 0], .slice va k vc, .iface 89 (.agg #[.int .i64 c])]) ∧ Below w.heap.size w w'
  | some (j, A) => ∃ vo vc va vd, e = .returned (.tuple #[.agg #[.int .i64 j.n, .int .i64 j.tm, .int .i64 j.vt, .int .i64 j.s, .int .i64 j.t, .slice vo j.l.length vc], .slice va A.length vd, .nilIface]) ∧ OwnAt w' 110 (entCells j.l) j.l.length vo w.heap.size w'.heap.size ∧ w'.ownsRow w.heap.size 57 4 (.slice va A.length vd) A.length (actCells A) ∧ Below w.heap.size w w'

set_option maxRecDepth 1000000 in
set_option maxHeartbeats 8000000 in
theorem openI_any (ao : Option Addr) (l : List FileD) (cap : Nat) (hl : l.length ≤ 1048576) (hsn : ∀ f ∈ l, f.name.size ≤ 1048576) (hst : ∀ f ∈ l, f.text.size ≤ 1048576) (w : World) (ha : FilesAt w ao l) (ht : Steps w) (htab : Lib.TabIs Tryz.prog w "internal/strconv.uint64pow10" .u64 Lib.pow10Tab) (he : w.cell? ⟨0, 0, none⟩ = some (rt hE)) :
    Calls Tryz.prog 26 #[.agg #[.slice ao l.length cap]] w fun e w' => openIDid (openJ l) w e w' := by
  have HT := hid ht
  have HTB := hid htab
  have HE := hid he
  have HA := hid ha
  have HSN := hid hsn
  have HST := hid hst
  have hx0 : BlockIs ((w.alloc (.cells #[.slice ao l.length cap] 36)).alloc (.cells #[.int .i64 0, .int .i64 0, .int .i64 0, .int .i64 0, .int .i64 0, .slice none 0 0] 30)) w.heap.size 36 [.slice ao l.length cap] := by
    show ((w.heap.push _).push _)[w.heap.size]? = some _
    rw [Array.getElem?_push, if_neg (by simp), Array.getElem?_push, if_pos rfl]
  have hx1 : BlockIs ((w.alloc (.cells #[.slice ao l.length cap] 36)).alloc (.cells #[.int .i64 0, .int .i64 0, .int .i64 0, .int .i64 0, .int .i64 0, .slice none 0 0] 30)) (w.heap.size + 1) 30 [.int .i64 0, .int .i64 0, .int .i64 0, .int .i64 0, .int .i64 0, .slice none 0 0] := by
    show ((w.heap.push _).push _)[w.heap.size + 1]? = some _
    rw [Array.getElem?_push, if_pos (by simp)]
  have hb0 := below_more (below_more (Below.refl w.heap.size w) (.cells #[.slice ao l.length cap] 36)) (.cells #[.int .i64 0, .int .i64 0, .int .i64 0, .int .i64 0, .int .i64 0, .slice none 0 0] 30)
  obtain ⟨WW, hWW⟩ : ∃ WW, (w.alloc (.cells #[.slice ao l.length cap] 36)).alloc (.cells #[.int .i64 0, .int .i64 0, .int .i64 0, .int .i64 0, .int .i64 0, .slice none 0 0] 30) = WW := ⟨_, rfl⟩
  rw [hWW] at hx0 hx1 hb0
  have X0 := hid hx0
  have Y0 := hid hx1
  have B0 := hid hb0
  have z0 := hx0.cell (j := 0) rfl
  clear hx0 hx1 hb0 ha ht htab he hsn hst
  go_enter Tryz.func26, Tryz.ntmps26
  go_wp2_with fail
  refine (implDiskOk_any ao l cap (by omega) _ (HA.out.on B0.out)).mono ?_
  rintro e w1 ⟨rfl, b1⟩
  have X1 := hid (X0.out.on b1 X0.out.lt)
  have Y1 := hid (Y0.out.on b1 Y0.out.lt)
  have B1 := hid (below_via B0.out b1)
  clear b1 X0 Y0 B0 z0 hWW
  cases hD : diskOk l with
  | false =>
    have HR := hid (openJ_disk hD)
    clear hD
    have hp := Y1.out
    have q0 := hp.cell (j := 0) rfl
    have q1 := hp.cell (j := 1) rfl
    have q2 := hp.cell (j := 2) rfl
    have q3 := hp.cell (j := 3) rfl
    have q4 := hp.cell (j := 4) rfl
    have q5 := hp.cell (j := 5) rfl
    have qf0 := hp.thaw 0
    have qf1 := hp.thaw 1
    have qf2 := hp.thaw 2
    have qf3 := hp.thaw 3
    have qf4 := hp.thaw 4
    have qf5 := hp.thaw 5
    have BL := hid (((((((B1.out).setCell (p := ⟨w.heap.size + 1, 0, none⟩) (by show _ ≤ w.heap.size + 1; omega) (.int .i64 0)).setCell (p := ⟨w.heap.size + 1, 1, none⟩) (by show _ ≤ w.heap.size + 1; omega) (.int .i64 0)).setCell (p := ⟨w.heap.size + 1, 2, none⟩) (by show _ ≤ w.heap.size + 1; omega) (.int .i64 0)).setCell (p := ⟨w.heap.size + 1, 3, none⟩) (by show _ ≤ w.heap.size + 1; omega) (.int .i64 0)).setCell (p := ⟨w.heap.size + 1, 4, none⟩) (by show _ ≤ w.heap.size + 1; omega) (.int .i64 0)).setCell (p := ⟨w.heap.size + 1, 5, none⟩) (by show _ ≤ w.heap.size + 1; omega) (.slice none 0 0))
    clear hp
    go_wp2
    refine bodyPost_ret (v := .tuple #[.agg #[.int .i64 0, .int .i64 0, .int .i64 0, .int .i64 0, .int .i64 0, .slice none 0 0], .slice none 0 0, .iface 89 (.agg #[.int .i64 1])]) (by simp [results, Tryz.results26, go_sem, q0, q1, q2, q3, q4, q5]) rfl ?_
    rw [HR.out]
    exact ⟨_, _, _, _, rfl, BL.out⟩
  | true =>
    have z1 := X1.out.cell (j := 0) rfl
    go_wp2_with fail
    refine (greatest_any ao l cap hl _ (HA.out.on B1.out)).mono ?_
    rintro e w2 ⟨rfl, b2⟩
    have X2 := hid (X1.out.on b2 X1.out.lt)
    have Y2 := hid (Y1.out.on b2 Y1.out.lt)
    have B2 := hid (below_via B1.out b2)
    clear b2 X1 Y1 B1 z1
    cases hb : bestJ l with
    | none =>
      have HR := hid (openJ_none hb)
      clear hb hD
      have hp := Y2.out
      have q0 := hp.cell (j := 0) rfl
      have q1 := hp.cell (j := 1) rfl
      have q2 := hp.cell (j := 2) rfl
      have q3 := hp.cell (j := 3) rfl
      have q4 := hp.cell (j := 4) rfl
      have q5 := hp.cell (j := 5) rfl
      have qf0 := hp.thaw 0
      have qf1 := hp.thaw 1
      have qf2 := hp.thaw 2
      have qf3 := hp.thaw 3
      have qf4 := hp.thaw 4
      have qf5 := hp.thaw 5
      have BL := hid (((((((B2.out).setCell (p := ⟨w.heap.size + 1, 0, none⟩) (by show _ ≤ w.heap.size + 1; omega) (.int .i64 0)).setCell (p := ⟨w.heap.size + 1, 1, none⟩) (by show _ ≤ w.heap.size + 1; omega) (.int .i64 0)).setCell (p := ⟨w.heap.size + 1, 2, none⟩) (by show _ ≤ w.heap.size + 1; omega) (.int .i64 0)).setCell (p := ⟨w.heap.size + 1, 3, none⟩) (by show _ ≤ w.heap.size + 1; omega) (.int .i64 0)).setCell (p := ⟨w.heap.size + 1, 4, none⟩) (by show _ ≤ w.heap.size + 1; omega) (.int .i64 0)).setCell (p := ⟨w.heap.size + 1, 5, none⟩) (by show _ ≤ w.heap.size + 1; omega) (.slice none 0 0))
      clear hp
      go_wp2
      refine bodyPost_ret (v := .tuple #[.agg #[.int .i64 0, .int .i64 0, .int .i64 0, .int .i64 0, .int .i64 0, .slice none 0 0], .slice none 0 0, .iface 89 (.agg #[.int .i64 2])]) (by simp [results, Tryz.results26, go_sem, q0, q1, q2, q3, q4, q5]) rfl ?_
      rw [HR.out]
      exact ⟨_, _, _, _, rfl, BL.out⟩
    | some n =>
      have HRA := hid (openJ_at hD hb)
      have hn9 : n ≤ 999 := by have := bestJ_le l l.length n; rw [List.take_length] at this; exact this hb
      clear hb hD
      simp only [Option.getD_some, Option.isSome_some]
      obtain ⟨hf, hfile⟩ := implFileText_any ao l cap (jname n) hl HST.out
      have hTl : (fileText l (jname n)).size ≤ 1048576 := fileText_small HST.out
      have C1 := fun d os => Calls.regrown_of (w := w2) (d := d) (os := os) (implJName_any n _ (table_on HTB.out (below_via B2.out (below_regrown w2 d os))))
      have C2 := fun d os => Calls.regrown_of (w := w2) (d := d) (os := os) (hfile _ (HA.out.on (below_via B2.out (below_regrown w2 d os))))
      obtain ⟨NM, hNM⟩ : ∃ x, jname (n : Int) = x := ⟨_, rfl⟩
      rw [hNM] at C1 C2 hTl
      obtain ⟨TX, hTX⟩ : ∃ x, fileText l NM = x := ⟨_, rfl⟩
      rw [hTX] at C2 hTl
      have HTX : Hid (fileText l (jname n) = TX) := by show _ = _; rw [hNM, hTX]
      have D1 := hid C1
      have D2 := hid C2
      have z2 := X2.out.cell (j := 0) rfl
      have Z2 := cell_regrown z2
      clear C1 C2 hfile hNM hTX z2
      go_wp2
      refine wp_region_quiet_below (by kernel_rfl) (by kernel_rfl) ?_
      repeat (first | go_big_quiet_step (first | (go_at_call 49; exact D1.out _ _) | (go_at_call 48; exact D2.out _ _) | fail) | quiet_step (first | (go_at_call 49; exact D1.out _ _) | (go_at_call 48; exact D2.out _ _) | fail))
      refine wpQuiet_nil ?_
      intro _ hw'
      obtain ⟨⟨dq, osq⟩, hw''⟩ := hw'
      subst hw''
      have b3 := below_regrown w2 dq osq
      have X3 := hid (X2.out.on b3 X2.out.lt)
      have Y3 := hid (Y2.out.on b3 Y2.out.lt)
      have B3 := hid (below_via B2.out b3)
      generalize Go.Sort.grow (redrawn w2 dq) osq = w3 at b3 X3 Y3 B3 ⊢
      clear b3 D1 D2 Z2 X2 Y2 B2
      go_wp2_with fail
      refine (readJournal_any n TX hTl _ (steps_on HT.out B3.out)).mono ?_
      rintro e w4 h4
      cases hq : readJ n TX with
      | none =>
        have HR : Hid (openJ l = none) := by show _ = _; rw [HRA.out]; exact openAt_no (by rw [HTX.out]; exact hq)
        rw [hq] at h4
        obtain ⟨c, hc, rfl, b4⟩ := h4
        have bx := below_via b4 (below_more (Below.refl w4.heap.size w4) (.cells #[.int .i64 0, .int .i64 0, .int .i64 0, .int .i64 0, .int .i64 0, .slice none 0 0] 30))
        have hxj : BlockIs (w4.alloc (.cells #[.int .i64 0, .int .i64 0, .int .i64 0, .int .i64 0, .int .i64 0, .slice none 0 0] 30)) w4.heap.size 30 [.int .i64 0, .int .i64 0, .int .i64 0, .int .i64 0, .int .i64 0, .slice none 0 0] := heap_alloc_new w4 _
        have X5 := hid (X3.out.on bx X3.out.lt)
        have Y5 := hid (Y3.out.on bx Y3.out.lt)
        have B5 := hid (below_via B3.out bx)
        have K5 := hid hxj
        have z5 := X5.out.cell (j := 0) rfl
        clear b4 bx hxj X3 Y3 B3 hq HRA
        go_wp2_with fail
        refine (dropOthers_any n ao l cap hl HSN.out _ (HA.out.on B5.out)).mono ?_
        rintro e w6 ⟨va, vd, rfl, hrow, b6⟩
        have Y6 := hid (Y5.out.on b6 Y5.out.lt)
        have B6 := hid (below_via B5.out b6)
        have K6 := hid (K5.out.on b6 K5.out.lt)
        obtain ⟨DN, hDN⟩ : ∃ x, (dropsOf (goesJ n) l).length = x := ⟨_, rfl⟩
        rw [hDN]
        clear b6 X5 Y5 B5 K5 z5 hrow hDN
        have CC := hid (codeOf_fault c w6 ((B6.out.cell (p := ⟨0, 0, none⟩) (World.block_lt_of_cell? w _ HE.out)).trans HE.out))
        go_wp2_with fail
        refine Calls.mono CC.out ?_
        rintro e w7 ⟨rfl, b7⟩
        have Y7 := hid (Y6.out.on b7 Y6.out.lt)
        have B7 := hid (below_via B6.out b7)
        have K7 := K6.out.on b7 K6.out.lt
        have k0 := K7.cell (j := 0) rfl
        have k1 := K7.cell (j := 1) rfl
        have k2 := K7.cell (j := 2) rfl
        have k3 := K7.cell (j := 3) rfl
        have k4 := K7.cell (j := 4) rfl
        have k5 := K7.cell (j := 5) rfl
        have hc4 : ¬ c = 4 := by omega
        clear b7 CC Y6 B6 K6 K7
        have hp := Y7.out
        have q0 := hp.cell (j := 0) rfl
        have q1 := hp.cell (j := 1) rfl
        have q2 := hp.cell (j := 2) rfl
        have q3 := hp.cell (j := 3) rfl
        have q4 := hp.cell (j := 4) rfl
        have q5 := hp.cell (j := 5) rfl
        have qf0 := hp.thaw 0
        have qf1 := hp.thaw 1
        have qf2 := hp.thaw 2
        have qf3 := hp.thaw 3
        have qf4 := hp.thaw 4
        have qf5 := hp.thaw 5
        have BL := hid (((((((B7.out).setCell (p := ⟨w.heap.size + 1, 0, none⟩) (by show _ ≤ w.heap.size + 1; omega) (.int .i64 0)).setCell (p := ⟨w.heap.size + 1, 1, none⟩) (by show _ ≤ w.heap.size + 1; omega) (.int .i64 0)).setCell (p := ⟨w.heap.size + 1, 2, none⟩) (by show _ ≤ w.heap.size + 1; omega) (.int .i64 0)).setCell (p := ⟨w.heap.size + 1, 3, none⟩) (by show _ ≤ w.heap.size + 1; omega) (.int .i64 0)).setCell (p := ⟨w.heap.size + 1, 4, none⟩) (by show _ ≤ w.heap.size + 1; omega) (.int .i64 0)).setCell (p := ⟨w.heap.size + 1, 5, none⟩) (by show _ ≤ w.heap.size + 1; omega) (.slice none 0 0))
        clear hp
        go_wp2
        refine bodyPost_ret (v := .tuple #[.agg #[.int .i64 0, .int .i64 0, .int .i64 0, .int .i64 0, .int .i64 0, .slice none 0 0], .slice va DN vd, .iface 89 (.agg #[.int .i64 c])]) (by simp [results, Tryz.results26, go_sem, q0, q1, q2, q3, q4, q5]) rfl ?_
        rw [HR.out]
        exact ⟨_, _, _, _, rfl, BL.out⟩
      | some p =>
        obtain ⟨j, k⟩ := p
        rw [hq] at h4
        obtain ⟨vo, vc, er, her, rfl, hvc, ho, b4⟩ := h4
        have hjl : j.l.length ≤ 60 := by have := readJ_len n TX; rw [hq] at this; exact this
        have HJN : Hid (j.n = n) := readJ_n2 hq
        have bx0 := below_more (Below.refl w4.heap.size w4) (.cells #[.int .i64 j.n, .int .i64 j.tm, .int .i64 j.vt, .int .i64 j.s, .int .i64 j.t, .slice vo j.l.length vc] 30)
        have bx := below_via b4 bx0
        have hxj : BlockIs (w4.alloc (.cells #[.int .i64 j.n, .int .i64 j.tm, .int .i64 j.vt, .int .i64 j.s, .int .i64 j.t, .slice vo j.l.length vc] 30)) w4.heap.size 30 [.int .i64 j.n, .int .i64 j.tm, .int .i64 j.vt, .int .i64 j.s, .int .i64 j.t, .slice vo j.l.length vc] := heap_alloc_new w4 _
        have X5 := hid (X3.out.on bx X3.out.lt)
        have Y5 := hid (Y3.out.on bx Y3.out.lt)
        have B5 := hid (below_via B3.out bx)
        have K5 := hid hxj
        have E5 := hid (((ho.down B3.out.size (Nat.le_refl _)).on bx0).down (Nat.le_refl _) bx0.size)
        have z5 := X5.out.cell (j := 0) rfl
        have HS45 := hid bx0.size
        clear b4 bx bx0 hxj X3 Y3 B3 ho
        go_wp2_with fail
        refine (dropOthers_any n ao l cap hl HSN.out _ (HA.out.on B5.out)).mono ?_
        rintro e w6 ⟨va, vd, rfl, hrow, b6⟩
        have Y6 := hid (Y5.out.on b6 Y5.out.lt)
        have B6 := hid (below_via B5.out b6)
        have K6 := hid (K5.out.on b6 K5.out.lt)
        have E6 := hid ((E5.out.on b6).down (Nat.le_refl _) b6.size)
        have R6 := hid (row_down hrow B5.out.size)
        have hdl := dropsOf_length (goesJ n) l
        obtain ⟨L, hL⟩ : ∃ x, dropsOf (goesJ n) l = x := ⟨_, rfl⟩
        have HL := hid hL
        rw [hL] at R6 hdl ⊢
        have HS6 := hid b6.size
        clear b6 X5 Y5 B5 K5 E5 z5 hrow hL
        rcases her with ⟨rfl, hks⟩ | ⟨rfl, hks⟩
        · have HR : Hid (openJ l = some (j, L)) := by
            show _ = _
            rw [HRA.out, openAt_whole (by rw [HTX.out]; exact hq) (by rw [HTX.out]; exact hks), HL.out]
          clear hq hks
          go_wp2_with fail
          refine (codeOf_nil _).mono ?_
          rintro e w7 ⟨rfl, b7⟩
          have Y7 := hid (Y6.out.on b7 Y6.out.lt)
          have B7 := hid (below_via B6.out b7)
          have K7 := K6.out.on b7 K6.out.lt
          have E7 := hid ((E6.out.on b7).down (Nat.le_refl _) b7.size)
          have R7 := hid (actR_below R6.out b7)
          have k0 := K7.cell (j := 0) rfl
          have k1 := K7.cell (j := 1) rfl
          have k2 := K7.cell (j := 2) rfl
          have k3 := K7.cell (j := 3) rfl
          have k4 := K7.cell (j := 4) rfl
          have k5 := K7.cell (j := 5) rfl
          have hp := Y7.out
          have q0 := hp.cell (j := 0) rfl
          have q1 := hp.cell (j := 1) rfl
          have q2 := hp.cell (j := 2) rfl
          have q3 := hp.cell (j := 3) rfl
          have q4 := hp.cell (j := 4) rfl
          have q5 := hp.cell (j := 5) rfl
          have qf0 := hp.thaw 0
          have qf1 := hp.thaw 1
          have qf2 := hp.thaw 2
          have qf3 := hp.thaw 3
          have qf4 := hp.thaw 4
          have qf5 := hp.thaw 5
          have BL := hid (((((((B7.out).setCell (p := ⟨w.heap.size + 1, 0, none⟩) (by show _ ≤ w.heap.size + 1; omega) (.int .i64 j.n)).setCell (p := ⟨w.heap.size + 1, 1, none⟩) (by show _ ≤ w.heap.size + 1; omega) (.int .i64 j.tm)).setCell (p := ⟨w.heap.size + 1, 2, none⟩) (by show _ ≤ w.heap.size + 1; omega) (.int .i64 j.vt)).setCell (p := ⟨w.heap.size + 1, 3, none⟩) (by show _ ≤ w.heap.size + 1; omega) (.int .i64 j.s)).setCell (p := ⟨w.heap.size + 1, 4, none⟩) (by show _ ≤ w.heap.size + 1; omega) (.int .i64 j.t)).setCell (p := ⟨w.heap.size + 1, 5, none⟩) (by show _ ≤ w.heap.size + 1; omega) (.slice vo j.l.length vc))
          have PF := hid (put6 Y7.out (.int .i64 j.n) (.int .i64 j.tm) (.int .i64 j.vt) (.int .i64 j.s) (.int .i64 j.t) (.slice vo j.l.length vc))
          clear b7 Y6 B6 K6 E6 R6 K7 hp
          go_wp2
          refine bodyPost_ret (v := .tuple #[.agg #[.int .i64 j.n, .int .i64 j.tm, .int .i64 j.vt, .int .i64 j.s, .int .i64 j.t, .slice vo j.l.length vc], .slice va L.length vd, .nilIface]) (by simp [results, Tryz.results26, go_sem, q0, q1, q2, q3, q4, q5]) rfl ?_
          rw [HR.out]
          exact ⟨vo, vc, va, vd, rfl, PF.out.1 E7.out, PF.out.2 R7.out, BL.out⟩
        · have hdn : L.length ≤ 1048576 := by omega
          have k60 := K6.out.cell (j := 0) rfl
          have CC := hid (codeOf_fault 4 w6 ((B6.out.cell (p := ⟨0, 0, none⟩) (World.block_lt_of_cell? w _ HE.out)).trans HE.out))
          clear k60
          go_wp2_with fail
          refine Calls.mono CC.out ?_
          rintro e w7 ⟨rfl, b7⟩
          have Y7 := hid (Y6.out.on b7 Y6.out.lt)
          have B7 := hid (below_via B6.out b7)
          have hk7 := K6.out.on b7 K6.out.lt
          have E7 := hid ((E6.out.on b7).down (Nat.le_refl _) b7.size)
          have R7 := hid (actR_below R6.out b7)
          have kk0 := hk7.cell (j := 0) rfl
          have kk1 := hk7.cell (j := 1) rfl
          have kk2 := hk7.cell (j := 2) rfl
          have kk3 := hk7.cell (j := 3) rfl
          have kk4 := hk7.cell (j := 4) rfl
          have kk5 := hk7.cell (j := 5) rfl
          have CN := hid (nextFile_any n j.tm j.vt j.s j.t (by omega) (by omega) vo j.l vc (by omega) hvc w7 E7.out.ents (steps_on HT.out B7.out) (table_on HTB.out B7.out))
          rw [← HJN.out] at CN
          clear b7 CC Y6 B6 K6 E6 R6 hk7
          go_wp2_with fail
          refine Calls.mono CN.out ?_
          rintro e w8 h8
          rw [HJN.out] at h8
          clear CN kk0 kk1 kk2 kk3 kk4 kk5
          rcases h8 with ⟨hok, rfl, b8⟩ | ⟨hok, g, hlo, rfl, hact, b8⟩
          · have HR : Hid (openJ l = none) := by
              show _ = _
              rw [HRA.out]
              exact openAt_not (by rw [HTX.out]; exact hq) (by rw [HTX.out]; exact hks) hok
            have b9 := below_via b8 (below_more (Below.refl w8.heap.size w8) (.cells #[.int .i64 0, .int .i64 0, .int .i64 0, .int .i64 0, .int .i64 0, .slice none 0 0] 30))
            have Y9 := hid (Y7.out.on b9 Y7.out.lt)
            have B9 := hid (below_via B7.out b9)
            have hk9 : BlockIs (w8.alloc (.cells #[.int .i64 0, .int .i64 0, .int .i64 0, .int .i64 0, .int .i64 0, .slice none 0 0] 30)) w8.heap.size 30 [.int .i64 0, .int .i64 0, .int .i64 0, .int .i64 0, .int .i64 0, .slice none 0 0] := heap_alloc_new w8 _
            have R9 := actR_below R7.out b9
            have hRN : World.ownsRow (w8.alloc (.cells #[.int .i64 0, .int .i64 0, .int .i64 0, .int .i64 0, .int .i64 0, .slice none 0 0] 30)) 0 57 4 (.slice none 0 0) 0 (actCells []) := ⟨by simp [actCells], Or.inl ⟨rfl, rfl⟩⟩
            clear hq hks hok b8 b9 Y7 B7 R7 E7
            have hd := below_drewN (Below.refl (w8.alloc (.cells #[.int .i64 0, .int .i64 0, .int .i64 0, .int .i64 0, .int .i64 0, .slice none 0 0] 30)).heap.size (w8.alloc (.cells #[.int .i64 0, .int .i64 0, .int .i64 0, .int .i64 0, .int .i64 0, .slice none 0 0] 30))) 1
            have RD := hid (actR_below R9 hd)
            have RN := hid (actR_below hRN hd)
            have YD := hid (Y9.out.on hd Y9.out.lt)
            have KD := hid (hk9.on hd hk9.lt)
            have BD := hid (below_via B9.out hd)
            have hLN : (L ++ []).length = L.length := by simp
            have kk0 := hk9.cell (j := 0) rfl
            have kk1 := hk9.cell (j := 1) rfl
            have kk2 := hk9.cell (j := 2) rfl
            have kk3 := hk9.cell (j := 3) rfl
            have kk4 := hk9.cell (j := 4) rfl
            have kk5 := hk9.cell (j := 5) rfl
            have hp := Y9.out
            have q0 := hp.cell (j := 0) rfl
            have q1 := hp.cell (j := 1) rfl
            have q2 := hp.cell (j := 2) rfl
            have q3 := hp.cell (j := 3) rfl
            have q4 := hp.cell (j := 4) rfl
            have q5 := hp.cell (j := 5) rfl
            have qf0 := hp.thaw 0
            have qf1 := hp.thaw 1
            have qf2 := hp.thaw 2
            have qf3 := hp.thaw 3
            have qf4 := hp.thaw 4
            have qf5 := hp.thaw 5
            clear hp
            clear hd R9 hRN Y9 B9
            go_wp2
            go_region_law (refine step_append_acts rfl (.tmp 61) (.tmp 62) rfl rfl (base := w.heap.size) (L := L) (M := []) (N := L.length) rfl rfl rfl hLN (by omega) BD.out.size RD.out RN.out ?_; intro va' vd' w10 hrow hgr; have hk10 := blk_row KD.out RD.out hgr (by decide); have hy10 := blk_row YD.out RD.out hgr (by decide); have B10 := hid (below_row BD.out RD.out hgr (Nat.le_refl _) BD.out.size); have k10 := hk10.cell (j := 0) rfl; have k11 := hk10.cell (j := 1) rfl; have k12 := hk10.cell (j := 2) rfl; have k13 := hk10.cell (j := 3) rfl; have k14 := hk10.cell (j := 4) rfl; have k15 := hk10.cell (j := 5) rfl; have qq0 := hy10.cell (j := 0) rfl; have qq1 := hy10.cell (j := 1) rfl; have qq2 := hy10.cell (j := 2) rfl; have qq3 := hy10.cell (j := 3) rfl; have qq4 := hy10.cell (j := 4) rfl; have qq5 := hy10.cell (j := 5) rfl; have qf0 := hy10.thaw 0; have qf1 := hy10.thaw 1; have qf2 := hy10.thaw 2; have qf3 := hy10.thaw 3; have qf4 := hy10.thaw 4; have qf5 := hy10.thaw 5; clear hrow hgr hk10 hy10)
            all_goals
              have BL := hid (((((((B10.out).setCell (p := ⟨w.heap.size + 1, 0, none⟩) (by show _ ≤ w.heap.size + 1; omega) (.int .i64 0)).setCell (p := ⟨w.heap.size + 1, 1, none⟩) (by show _ ≤ w.heap.size + 1; omega) (.int .i64 0)).setCell (p := ⟨w.heap.size + 1, 2, none⟩) (by show _ ≤ w.heap.size + 1; omega) (.int .i64 0)).setCell (p := ⟨w.heap.size + 1, 3, none⟩) (by show _ ≤ w.heap.size + 1; omega) (.int .i64 0)).setCell (p := ⟨w.heap.size + 1, 4, none⟩) (by show _ ≤ w.heap.size + 1; omega) (.int .i64 0)).setCell (p := ⟨w.heap.size + 1, 5, none⟩) (by show _ ≤ w.heap.size + 1; omega) (.slice none 0 0))
              go_wp2
              refine bodyPost_ret (v := .tuple #[.agg #[.int .i64 0, .int .i64 0, .int .i64 0, .int .i64 0, .int .i64 0, .slice none 0 0], .slice va' L.length vd', .iface 89 (.agg #[.int .i64 6])]) (by simp [results, Tryz.results26, go_sem, qq0, qq1, qq2, qq3, qq4, qq5]) rfl ?_
              rw [HR.out]
              exact ⟨_, _, _, _, rfl, BL.out⟩
          · have HR : Hid (openJ l = some (⟨(n : Int) + 1, j.tm, j.vt, j.s, j.t, j.l⟩, L ++ nextA n j.tm j.vt j.s j.t j.l)) := by
              show _ = _
              rw [HRA.out, openAt_anew (by rw [HTX.out]; exact hq) (by rw [HTX.out]; exact hks) hok, HL.out]
            obtain ⟨M, hM⟩ : ∃ M, nextA n j.tm j.vt j.s j.t j.l = M := ⟨_, rfl⟩
            have hM4 : M.length = 4 := by rw [← hM]; rfl
            rw [hM] at hact HR
            have bx0 := below_more (Below.refl w8.heap.size w8) (.cells #[.int .i64 ((n : Int) + 1), .int .i64 j.tm, .int .i64 j.vt, .int .i64 j.s, .int .i64 j.t, .slice vo j.l.length vc] 30)
            have b9 := below_via b8 bx0
            have Y9 := hid (Y7.out.on b9 Y7.out.lt)
            have B9 := hid (below_via B7.out b9)
            have hk9 : BlockIs (w8.alloc (.cells #[.int .i64 ((n : Int) + 1), .int .i64 j.tm, .int .i64 j.vt, .int .i64 j.s, .int .i64 j.t, .slice vo j.l.length vc] 30)) w8.heap.size 30 [.int .i64 ((n : Int) + 1), .int .i64 j.tm, .int .i64 j.vt, .int .i64 j.s, .int .i64 j.t, .slice vo j.l.length vc] := heap_alloc_new w8 _
            have R9 := actR_below R7.out b9
            have hRN := actR_made (m := 0) (hact.on bx0 hact.lt) (Nat.zero_le _) (by omega)
            have E9 := hid ((E7.out.on b9).down (Nat.le_refl _) b9.size)
            have HM4 := hid hM4
            rw [hM4] at hRN
            obtain ⟨W9, hW9⟩ : ∃ W, w8.alloc (.cells #[.int .i64 ((n : Int) + 1), .int .i64 j.tm, .int .i64 j.vt, .int .i64 j.s, .int .i64 j.t, .slice vo j.l.length vc] 30) = W := ⟨_, rfl⟩
            rw [hW9] at Y9 B9 hk9 R9 hRN E9
            clear hq hks hok b8 b9 bx0 Y7 B7 R7 E7 hM hact hM4
            have hd := below_drewN (Below.refl W9.heap.size W9) 1
            have RD := hid (actR_below R9 hd)
            have RN := hid (actR_below hRN hd)
            have YD := hid (Y9.out.on hd Y9.out.lt)
            have KD := hid (hk9.on hd hk9.lt)
            have BD := hid (below_via B9.out hd)
            have ED := hid ((E9.out.on hd).down (Nat.le_refl _) hd.size)
            have hLN : (L ++ M).length = L.length + 4 := by rw [List.length_append, HM4.out]
            have HLN := hid hLN
            have kk0 := hk9.cell (j := 0) rfl
            have kk1 := hk9.cell (j := 1) rfl
            have kk2 := hk9.cell (j := 2) rfl
            have kk3 := hk9.cell (j := 3) rfl
            have kk4 := hk9.cell (j := 4) rfl
            have kk5 := hk9.cell (j := 5) rfl
            have hp := Y9.out
            have q0 := hp.cell (j := 0) rfl
            have q1 := hp.cell (j := 1) rfl
            have q2 := hp.cell (j := 2) rfl
            have q3 := hp.cell (j := 3) rfl
            have q4 := hp.cell (j := 4) rfl
            have q5 := hp.cell (j := 5) rfl
            have qf0 := hp.thaw 0
            have qf1 := hp.thaw 1
            have qf2 := hp.thaw 2
            have qf3 := hp.thaw 3
            have qf4 := hp.thaw 4
            have qf5 := hp.thaw 5
            clear hp
            clear hd R9 hRN Y9 B9 E9 hLN
            go_wp2
            go_region_law (refine step_append_acts rfl (.tmp 61) (.tmp 62) rfl rfl (base := w.heap.size) (L := L) (M := M) (N := L.length + 4) rfl rfl HM4.out HLN.out (by omega) BD.out.size RD.out RN.out ?_; intro va' vd' w10 hrow hgr; have hk10 := blk_row KD.out RD.out hgr (by decide); have hy10 := blk_row YD.out RD.out hgr (by decide); have E10 := hid (own_row ED.out RD.out hgr); have Y10 := hid hy10; have R10 := hid hrow; have B10 := hid (below_row BD.out RD.out hgr (Nat.le_refl _) BD.out.size); have k10 := hk10.cell (j := 0) rfl; have k11 := hk10.cell (j := 1) rfl; have k12 := hk10.cell (j := 2) rfl; have k13 := hk10.cell (j := 3) rfl; have k14 := hk10.cell (j := 4) rfl; have k15 := hk10.cell (j := 5) rfl; have qq0 := hy10.cell (j := 0) rfl; have qq1 := hy10.cell (j := 1) rfl; have qq2 := hy10.cell (j := 2) rfl; have qq3 := hy10.cell (j := 3) rfl; have qq4 := hy10.cell (j := 4) rfl; have qq5 := hy10.cell (j := 5) rfl; have qf0 := hy10.thaw 0; have qf1 := hy10.thaw 1; have qf2 := hy10.thaw 2; have qf3 := hy10.thaw 3; have qf4 := hy10.thaw 4; have qf5 := hy10.thaw 5; clear hrow hgr hk10 hy10)
            all_goals
              have BL := hid (((((((B10.out).setCell (p := ⟨w.heap.size + 1, 0, none⟩) (by show _ ≤ w.heap.size + 1; omega) (.int .i64 ((n : Int) + 1))).setCell (p := ⟨w.heap.size + 1, 1, none⟩) (by show _ ≤ w.heap.size + 1; omega) (.int .i64 j.tm)).setCell (p := ⟨w.heap.size + 1, 2, none⟩) (by show _ ≤ w.heap.size + 1; omega) (.int .i64 j.vt)).setCell (p := ⟨w.heap.size + 1, 3, none⟩) (by show _ ≤ w.heap.size + 1; omega) (.int .i64 j.s)).setCell (p := ⟨w.heap.size + 1, 4, none⟩) (by show _ ≤ w.heap.size + 1; omega) (.int .i64 j.t)).setCell (p := ⟨w.heap.size + 1, 5, none⟩) (by show _ ≤ w.heap.size + 1; omega) (.slice vo j.l.length vc))
              have PF := hid (put6 Y10.out (.int .i64 ((n : Int) + 1)) (.int .i64 j.tm) (.int .i64 j.vt) (.int .i64 j.s) (.int .i64 j.t) (.slice vo j.l.length vc))
              go_wp2
              refine bodyPost_ret (v := .tuple #[.agg #[.int .i64 ((n : Int) + 1), .int .i64 j.tm, .int .i64 j.vt, .int .i64 j.s, .int .i64 j.t, .slice vo j.l.length vc], .slice va' (L.length + 4) vd', .nilIface]) (by simp [results, Tryz.results26, go_sem, qq0, qq1, qq2, qq3, qq4, qq5]) rfl ?_
              rw [HR.out]
              unfold openIDid
              dsimp only
              rw [HLN.out]
              exact ⟨vo, vc, va', vd', rfl, PF.out.1 E10.out, PF.out.2 R10.out, BL.out⟩
end Go.Proofs.YtbifkpkhpaellaaGreatDoor

namespace Go.Proofs.YtbifkpkhpaellaaGreatDoor
open Go.RowKit

set_option maxRecDepth 1000000 in
set_option maxHeartbeats 4000000 in
theorem implOpenJ_any (ao : Option Addr) (l : List FileD) (cap : Nat) (hl : l.length ≤ 1048576) (hsn : ∀ f ∈ l, f.name.size ≤ 1048576) (hst : ∀ f ∈ l, f.text.size ≤ 1048576) (w : World) (ha : FilesAt w ao l) (ht : Steps w) (htab : Lib.TabIs Tryz.prog w "internal/strconv.uint64pow10" .u64 Lib.pow10Tab) (he : w.cell? ⟨0, 0, none⟩ = some (rt hE)) :
    Calls Tryz.prog 7 #[.agg #[.slice ao l.length cap]] w fun e w' => openDid (openJ l) w e w' := by
  have hx0 : BlockIs ((w.alloc (.cells #[.slice ao l.length cap] 36)).alloc (.cells #[.int .i64 0, .int .i64 0, .int .i64 0, .int .i64 0, .int .i64 0, .slice none 0 0] 30)) w.heap.size 36 [.slice ao l.length cap] := by
    show ((w.heap.push _).push _)[w.heap.size]? = some _
    rw [Array.getElem?_push, if_neg (by simp), Array.getElem?_push, if_pos rfl]
  have hx1 : BlockIs ((w.alloc (.cells #[.slice ao l.length cap] 36)).alloc (.cells #[.int .i64 0, .int .i64 0, .int .i64 0, .int .i64 0, .int .i64 0, .slice none 0 0] 30)) (w.heap.size + 1) 30 [.int .i64 0, .int .i64 0, .int .i64 0, .int .i64 0, .int .i64 0, .slice none 0 0] := by
    show ((w.heap.push _).push _)[w.heap.size + 1]? = some _
    rw [Array.getElem?_push, if_pos (by simp)]
  have hb0 := below_more (below_more (Below.refl w.heap.size w) (.cells #[.slice ao l.length cap] 36)) (.cells #[.int .i64 0, .int .i64 0, .int .i64 0, .int .i64 0, .int .i64 0, .slice none 0 0] 30)
  obtain ⟨WW, hWW⟩ : ∃ WW, (w.alloc (.cells #[.slice ao l.length cap] 36)).alloc (.cells #[.int .i64 0, .int .i64 0, .int .i64 0, .int .i64 0, .int .i64 0, .slice none 0 0] 30) = WW := ⟨_, rfl⟩
  rw [hWW] at hx0 hx1 hb0
  have Y0 := hid hx1
  have B0 := hid hb0
  have z0 := hx0.cell (j := 0) rfl
  have CO := hid (openI_any ao l cap hl hsn hst WW (ha.on hb0) (steps_on ht hb0) (table_on htab hb0) ((hb0.cell (p := ⟨0, 0, none⟩) (World.block_lt_of_cell? w _ he)).trans he))
  have hlo : w.heap.size ≤ WW.heap.size := hb0.size
  clear hx0 hx1 hb0 ha ht htab he hsn hst
  go_enter Tryz.func7, Tryz.ntmps7
  go_wp2_with fail
  refine Calls.mono CO.out ?_
  rintro e w1 h1
  clear CO z0 hWW
  cases hq : openJ l with
  | none =>
    rw [hq] at h1
    obtain ⟨va, k, vc, c, rfl, b1⟩ := h1
    have b2 := below_via b1 (below_more (below_more (Below.refl w1.heap.size w1) (.cells #[.int .i64 0, .int .i64 0, .int .i64 0, .int .i64 0, .int .i64 0, .slice none 0 0] 30)) (.cells #[] 57))
    have hp := Y0.out.on b2 Y0.out.lt
    have hB2 := below_via B0.out b2
    have hg : (w1.alloc (.cells #[.int .i64 0, .int .i64 0, .int .i64 0, .int .i64 0, .int .i64 0, .slice none 0 0] 30)).heap.size = w1.heap.size + 1 := by simp [World.alloc, -World.alloc_eq]
    have q0 := hp.cell (j := 0) rfl
    have q1 := hp.cell (j := 1) rfl
    have q2 := hp.cell (j := 2) rfl
    have q3 := hp.cell (j := 3) rfl
    have q4 := hp.cell (j := 4) rfl
    have q5 := hp.cell (j := 5) rfl
    have qf0 := hp.thaw 0
    have qf1 := hp.thaw 1
    have qf2 := hp.thaw 2
    have qf3 := hp.thaw 3
    have qf4 := hp.thaw 4
    have qf5 := hp.thaw 5
    have BL := hid (((((((hB2).setCell (p := ⟨w.heap.size + 1, 0, none⟩) (by show _ ≤ w.heap.size + 1; omega) (.int .i64 0)).setCell (p := ⟨w.heap.size + 1, 1, none⟩) (by show _ ≤ w.heap.size + 1; omega) (.int .i64 0)).setCell (p := ⟨w.heap.size + 1, 2, none⟩) (by show _ ≤ w.heap.size + 1; omega) (.int .i64 0)).setCell (p := ⟨w.heap.size + 1, 3, none⟩) (by show _ ≤ w.heap.size + 1; omega) (.int .i64 0)).setCell (p := ⟨w.heap.size + 1, 4, none⟩) (by show _ ≤ w.heap.size + 1; omega) (.int .i64 0)).setCell (p := ⟨w.heap.size + 1, 5, none⟩) (by show _ ≤ w.heap.size + 1; omega) (.slice none 0 0))
    clear b1 b2 hp hB2 Y0 B0
    go_wp2
    refine bodyPost_ret (v := .tuple #[.agg #[.int .i64 0, .int .i64 0, .int .i64 0, .int .i64 0, .int .i64 0, .slice none 0 0], .slice (some ⟨w1.heap.size + 1, 0, none⟩) 0 0, .bool false]) (by simp [results, Tryz.results7, go_sem, q0, q1, q2, q3, q4, q5]) rfl ?_
    rw [hq]
    exact ⟨_, _, rfl, BL.out⟩
  | some p =>
    obtain ⟨j, A⟩ := p
    rw [hq] at h1
    obtain ⟨vo, vc, va, vd, rfl, ho, hr, b1⟩ := h1
    have b0 := below_more (Below.refl w1.heap.size w1) (.cells #[.int .i64 j.n, .int .i64 j.tm, .int .i64 j.vt, .int .i64 j.s, .int .i64 j.t, .slice vo j.l.length vc] 30)
    have b2 := below_via b1 b0
    have hp := Y0.out.on b2 Y0.out.lt
    have hk : BlockIs (w1.alloc (.cells #[.int .i64 j.n, .int .i64 j.tm, .int .i64 j.vt, .int .i64 j.s, .int .i64 j.t, .slice vo j.l.length vc] 30)) w1.heap.size 30 [.int .i64 j.n, .int .i64 j.tm, .int .i64 j.vt, .int .i64 j.s, .int .i64 j.t, .slice vo j.l.length vc] := heap_alloc_new w1 _
    have hB2 := below_via B0.out b2
    have E2 := hid ((ho.on b0).down hlo b0.size)
    have R2 := hid (row_down (actR_below hr b0) hlo)
    obtain ⟨W2, hW2⟩ : ∃ W, w1.alloc (.cells #[.int .i64 j.n, .int .i64 j.tm, .int .i64 j.vt, .int .i64 j.s, .int .i64 j.t, .slice vo j.l.length vc] 30) = W := ⟨_, rfl⟩
    rw [hW2] at hp hk hB2 E2 R2
    have k0 := hk.cell (j := 0) rfl
    have k1 := hk.cell (j := 1) rfl
    have k2 := hk.cell (j := 2) rfl
    have k3 := hk.cell (j := 3) rfl
    have k4 := hk.cell (j := 4) rfl
    have k5 := hk.cell (j := 5) rfl
    have q0 := hp.cell (j := 0) rfl
    have q1 := hp.cell (j := 1) rfl
    have q2 := hp.cell (j := 2) rfl
    have q3 := hp.cell (j := 3) rfl
    have q4 := hp.cell (j := 4) rfl
    have q5 := hp.cell (j := 5) rfl
    have qf0 := hp.thaw 0
    have qf1 := hp.thaw 1
    have qf2 := hp.thaw 2
    have qf3 := hp.thaw 3
    have qf4 := hp.thaw 4
    have qf5 := hp.thaw 5
    have BL := hid (((((((hB2).setCell (p := ⟨w.heap.size + 1, 0, none⟩) (by show _ ≤ w.heap.size + 1; omega) (.int .i64 j.n)).setCell (p := ⟨w.heap.size + 1, 1, none⟩) (by show _ ≤ w.heap.size + 1; omega) (.int .i64 j.tm)).setCell (p := ⟨w.heap.size + 1, 2, none⟩) (by show _ ≤ w.heap.size + 1; omega) (.int .i64 j.vt)).setCell (p := ⟨w.heap.size + 1, 3, none⟩) (by show _ ≤ w.heap.size + 1; omega) (.int .i64 j.s)).setCell (p := ⟨w.heap.size + 1, 4, none⟩) (by show _ ≤ w.heap.size + 1; omega) (.int .i64 j.t)).setCell (p := ⟨w.heap.size + 1, 5, none⟩) (by show _ ≤ w.heap.size + 1; omega) (.slice vo j.l.length vc))
    have PF := hid (put6 hp (.int .i64 j.n) (.int .i64 j.tm) (.int .i64 j.vt) (.int .i64 j.s) (.int .i64 j.t) (.slice vo j.l.length vc))
    obtain ⟨AN, hAN⟩ : ∃ x, A.length = x := ⟨_, rfl⟩
    have HAN := hid hAN
    rw [hAN]
    clear b0 b1 b2 hp hk hB2 Y0 B0 ho hr hAN
    go_wp2
    refine bodyPost_ret (v := .tuple #[.agg #[.int .i64 j.n, .int .i64 j.tm, .int .i64 j.vt, .int .i64 j.s, .int .i64 j.t, .slice vo j.l.length vc], .slice va AN vd, .bool true]) (by simp [results, Tryz.results7, go_sem, q0, q1, q2, q3, q4, q5]) rfl ?_
    rw [hq]
    refine ⟨vo, vc, va, vd, by rw [HAN.out], PF.out.1 E2.out, ?_, BL.out⟩
    exact PF.out.2 R2.out
end Go.Proofs.YtbifkpkhpaellaaGreatDoor
