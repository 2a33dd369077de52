/-
  The walk of spec.OpenJournal.
  The walk of impl.ConfOk: what it answers.
  The walk of impl.ReadConf: what it answers.
  The walk of impl.bodyOf: what it answers.
  The walk of impl.VarText: what it answers.
-/
import Derived.Test.YtbifkpkhpaellaaGreatDoorJoint41
import Derived.Test.YtbifkpkhpaellaaGreatDoorJoint27
import Derived.Test.YtbifkpkhpaellaaGreatDoorJoint42
import Derived.Test.YtbifkpkhpaellaaGreatDoorJoint1
import Derived.Deep.RegionLaw
import Derived.Deep.QuietTactic
import Derived.BigQuiet
import Derived.Lib.QuietBelow
import Derived.Test.YtbifkpkhpaellaaGreatDoorRows
import Derived.WalkSmall
import Derived.WalkKit
import Derived.OwnWalk
namespace Go.Proofs.YtbifkpkhpaellaaGreatDoor
open Go.RowKit

theorem specFileText_any (ao : Option Addr) (l : List FileD) (cap : Nat) (name : ByteArray) (hl : l.length ≤ 1048576) : ∃ b : Bool, ∀ (w : World), FilesAt w ao l →
    Calls Tryz.prog 19 #[.agg #[.slice ao l.length cap], .string name] w fun e w' => e = .returned (.tuple #[.string (fileText l name), .bool b]) ∧ Below w.heap.size w w' := by
  by_cases hq : NoneAt l name
  · refine ⟨false, fun w ha => (specFileAt_any ao l cap name hl w ha).mono ?_⟩
    rintro e w' ⟨(⟨k, hk, h1, rfl⟩ | ⟨h1, rfl⟩), hb⟩
    · exact absurd h1.2.1 (hq k hk)
    · exact ⟨by rw [fileText_none h1], hb⟩
  · refine ⟨true, fun w ha => (specFileAt_any ao l cap name hl w ha).mono ?_⟩
    rintro e w' ⟨(⟨k, hk, h1, rfl⟩ | ⟨h1, rfl⟩), hb⟩
    · exact ⟨by rw [fileText_first hk h1], hb⟩
    · exact absurd h1 hq
/-- one more file of another number is dropped, or not -/
theorem others_step {l : List FileD} {n k : Nat} (hk : k < l.length) : dropsOf (isOtherJ n) (l.take (k + 1)) = if 0 ≤ nameAns (nameNum 106 999 l[k].name) ∧ ¬ nameAns (nameNum 106 999 l[k].name) = n then dropsOf (isOtherJ n) (l.take k) ++ [dropA l[k].name] else dropsOf (isOtherJ n) (l.take k) := by
  rw [dropsOf_step hk]
  cases hq : nameNum 106 999 l[k].name with
  | none =>
    rw [isOtherJ_none hq]
    simp [nameAns]
  | some m =>
    rw [isOtherJ_some hq]
    by_cases h : (m : Int) = (n : Int)
    · rw [if_neg (by simp [h]), if_neg (by simp [nameAns, h])]
    · rw [if_pos (by simp [h]), if_pos ⟨by simp only [nameAns]; omega, by simpa [nameAns] using h⟩]

/-- what is dropped, up to a file -/
def oth (A0 : List ActD) (n : Nat) (l : List FileD) (k : Nat) : List ActD := A0 ++ dropsOf (isOtherJ n) (l.take k)
theorem oth_zero (A0 : List ActD) (n : Nat) (l : List FileD) : oth A0 n l 0 = A0 := by simp [oth, dropsOf]
theorem oth_yes {A0 : List ActD} {l : List FileD} {n k : Nat} (hk : k < l.length) (h : 0 ≤ nameAns (nameNum 106 999 l[k].name) ∧ ¬ nameAns (nameNum 106 999 l[k].name) = n) : oth A0 n l (k + 1) = oth A0 n l k ++ [dropA l[k].name] := by
  rw [oth, others_step hk, if_pos h, oth, List.append_assoc]
theorem oth_no {A0 : List ActD} {l : List FileD} {n k : Nat} (hk : k < l.length) (h : ¬ (0 ≤ nameAns (nameNum 106 999 l[k].name) ∧ ¬ nameAns (nameNum 106 999 l[k].name) = n)) : oth A0 n l (k + 1) = oth A0 n l k := by
  rw [oth, others_step hk, if_neg h, oth]
theorem oth_length {A0 : List ActD} (h : A0.length ≤ 1) (n : Nat) (l : List FileD) (k : Nat) : (oth A0 n l k).length ≤ l.length + 1 := by
  rw [oth, List.length_append]
  have := dropsOf_length (isOtherJ n) (l.take k)
  rw [List.length_take] at this
  omega
theorem oth_all {l : List FileD} (hD : diskOk l = true) (n : Nat) : oth (newAJ l) n l l.length = dropsOf (goesJ n) l := by
  rw [oth, List.take_length, goesJ_eq, ← dropsOf_bothJ n (disk_pairs hD)]

set_option maxRecDepth 1000000 in
set_option maxHeartbeats 16000000 in
theorem specOpenJ_any (ao : Option Addr) (l : List FileD) (cap : Nat) (hl : l.length ≤ 1048576) (hsn : ∀ f ∈ l, f.name.size ≤ 1048576) (hst : ∀ f ∈ l, f.text.size ≤ 1048576) (w : World) (ha : FilesAt w ao l) :
    Calls Tryz.prog 5 #[.agg #[.slice ao l.length cap]] w fun e w' => openDid (openJ l) w e w' := by
  obtain ⟨i0, hi, hz0, hz1, hz2⟩ := info_parts actR_info
  have HA := hid ha
  have HSN := hid hsn
  have HST := hid hst
  have hf := four_log w (.cells #[.slice ao l.length cap] 36) (.cells #[.int .i64 0, .int .i64 0, .int .i64 0, .int .i64 0, .int .i64 0, .slice none 0 0] 30) (.cells #[] 57)
  have hr0 := actR_nil ((w.alloc (.cells #[.slice ao l.length cap] 36)).alloc (.cells #[.int .i64 0, .int .i64 0, .int .i64 0, .int .i64 0, .int .i64 0, .slice none 0 0] 30)) w.heap.size (by simp [World.alloc, -World.alloc_eq]; omega)
  rw [show ((w.alloc (.cells #[.slice ao l.length cap] 36)).alloc (.cells #[.int .i64 0, .int .i64 0, .int .i64 0, .int .i64 0, .int .i64 0, .slice none 0 0] 30)).heap.size = w.heap.size + 1 + 1 by simp [World.alloc, -World.alloc_eq]] at hr0
  obtain ⟨W0, hW0⟩ : ∃ W, ((w.alloc (.cells #[.slice ao l.length cap] 36)).alloc (.cells #[.int .i64 0, .int .i64 0, .int .i64 0, .int .i64 0, .int .i64 0, .slice none 0 0] 30)).alloc (.cells #[] 57) = W := ⟨_, rfl⟩
  rw [hW0] at hf hr0
  obtain ⟨hB, h0, h1, h2⟩ := hf
  have X0 : Hid (BlockIs W0 w.heap.size 36 [.slice ao l.length cap]) := h0
  have Y0 : Hid (BlockIs W0 (w.heap.size + 1) 30 [.int .i64 0, .int .i64 0, .int .i64 0, .int .i64 0, .int .i64 0, .slice none 0 0]) := h1
  have B0 := hid hB
  have R0 := hid hr0
  clear h0 h1 h2 hB ha hsn hst hr0
  cases hD : diskOk l with
  | false =>
    have HR := hid (openJ_disk hD)
    have CD := hid (fun W h => specDiskOk_any ao l cap (by omega) W h)
    rw [hD] at CD
    clear hD
    have z0 := X0.out.cell (j := 0) rfl
    go_enter Tryz.func5, Tryz.ntmps5
    go_wp2
    go_loopg [6, 7] 0 (fun _ b i wr => b = .int .i64 (-1) ∧ i = .int .i64 0 ∧ wr = W0)
    case atStart => exact ⟨rfl, rfl, rfl⟩
    case round =>
      obtain ⟨rfl, rfl, hwr⟩ := hrel
      rw [hwr]
      clear hwr
      by_cases h0 : (0 : Int) < (l.length : Int)
      · go_wp2_with fail
        refine (CD.out _ (HA.out.on B0.out)).mono ?_
        rintro e w1 ⟨rfl, b1⟩
        have X1 := hid (X0.out.on b1 X0.out.lt)
        have Y1 := hid (Y0.out.on b1 Y0.out.lt)
        have B1 := hid (below_via B0.out b1)
        have R1 := hid (actR_below R0.out b1)
        clear b1 z0 X0 Y0 B0 R0
        have hp := Y1.out
        have q0 := hp.cell (j := 0) rfl
        have q1 := hp.cell (j := 1) rfl
        have q2 := hp.cell (j := 2) rfl
        have q3 := hp.cell (j := 3) rfl
        have q4 := hp.cell (j := 4) rfl
        have q5 := hp.cell (j := 5) rfl
        have qf0 := hp.thaw 0
        have qf1 := hp.thaw 1
        have qf2 := hp.thaw 2
        have qf3 := hp.thaw 3
        have qf4 := hp.thaw 4
        have qf5 := hp.thaw 5
        have BL := hid (((((((B1.out).setCell (p := ⟨w.heap.size + 1, 0, none⟩) (by show _ ≤ w.heap.size + 1; omega) (.int .i64 0)).setCell (p := ⟨w.heap.size + 1, 1, none⟩) (by show _ ≤ w.heap.size + 1; omega) (.int .i64 0)).setCell (p := ⟨w.heap.size + 1, 2, none⟩) (by show _ ≤ w.heap.size + 1; omega) (.int .i64 0)).setCell (p := ⟨w.heap.size + 1, 3, none⟩) (by show _ ≤ w.heap.size + 1; omega) (.int .i64 0)).setCell (p := ⟨w.heap.size + 1, 4, none⟩) (by show _ ≤ w.heap.size + 1; omega) (.int .i64 0)).setCell (p := ⟨w.heap.size + 1, 5, none⟩) (by show _ ≤ w.heap.size + 1; omega) (.slice none 0 0))
        clear hp
        go_wp2
        refine bodyPost_ret (v := .tuple #[.agg #[.int .i64 0, .int .i64 0, .int .i64 0, .int .i64 0, .int .i64 0, .slice none 0 0], .slice (some ⟨w.heap.size + 1 + 1, 0, none⟩) 0 0, .bool false]) (by simp [results, Tryz.results5, go_sem, q0, q1, q2, q3, q4, q5]) rfl ?_
        rw [HR.out]
        exact ⟨_, _, rfl, BL.out⟩
      · have hl0 : l.length = 0 := by omega
        have hp := Y0.out
        have q0 := hp.cell (j := 0) rfl
        have q1 := hp.cell (j := 1) rfl
        have q2 := hp.cell (j := 2) rfl
        have q3 := hp.cell (j := 3) rfl
        have q4 := hp.cell (j := 4) rfl
        have q5 := hp.cell (j := 5) rfl
        have qf0 := hp.thaw 0
        have qf1 := hp.thaw 1
        have qf2 := hp.thaw 2
        have qf3 := hp.thaw 3
        have qf4 := hp.thaw 4
        have qf5 := hp.thaw 5
        have BL := hid (((((((B0.out).setCell (p := ⟨w.heap.size + 1, 0, none⟩) (by show _ ≤ w.heap.size + 1; omega) (.int .i64 0)).setCell (p := ⟨w.heap.size + 1, 1, none⟩) (by show _ ≤ w.heap.size + 1; omega) (.int .i64 0)).setCell (p := ⟨w.heap.size + 1, 2, none⟩) (by show _ ≤ w.heap.size + 1; omega) (.int .i64 0)).setCell (p := ⟨w.heap.size + 1, 3, none⟩) (by show _ ≤ w.heap.size + 1; omega) (.int .i64 0)).setCell (p := ⟨w.heap.size + 1, 4, none⟩) (by show _ ≤ w.heap.size + 1; omega) (.int .i64 0)).setCell (p := ⟨w.heap.size + 1, 5, none⟩) (by show _ ≤ w.heap.size + 1; omega) (.slice none 0 0))
        clear hp
        go_wp2
        refine bodyPost_ret (v := .tuple #[.agg #[.int .i64 0, .int .i64 0, .int .i64 0, .int .i64 0, .int .i64 0, .slice none 0 0], .slice (some ⟨w.heap.size + 1 + 1, 0, none⟩) 0 0, .bool false]) (by simp [results, Tryz.results5, go_sem, q0, q1, q2, q3, q4, q5]) rfl ?_
        rw [HR.out]
        exact ⟨_, _, rfl, BL.out⟩
  | true =>
    have HOA := hid (fun n => oth_all hD n)
    have HD := hid hD
    have CD := hid (fun W h => specDiskOk_any ao l cap (by omega) W h)
    rw [hD] at CD
    clear hD
    go_enter Tryz.func5, Tryz.ntmps5
    go_wp2
    go_loopg [6, 7] l.length (fun g b i wr => ∃ k : Nat, k + g = l.length ∧ i = .int .i64 k ∧ b = .int .i64 (nameAns (bestJ (l.take k))) ∧ Hid (BlockIs wr w.heap.size 36 [.slice ao l.length cap]) ∧ Hid (BlockIs wr (w.heap.size + 1) 30 [.int .i64 0, .int .i64 0, .int .i64 0, .int .i64 0, .int .i64 0, .slice none 0 0]) ∧ Hid (Below w.heap.size w wr) ∧ Hid (wr.ownsRow w.heap.size 57 4 (.slice (some ⟨w.heap.size + 1 + 1, 0, none⟩) 0 0) 0 (actCells [])))
    case atStart => exact ⟨0, by omega, rfl, rfl, X0, Y0, B0, R0⟩
    case round =>
      obtain ⟨k, hkg, rfl, rfl, XR, YR, BR, RR⟩ := hrel
      clear X0 Y0 B0 R0 hW0
      have z0 := XR.out.cell (j := 0) rfl
      have hbl := bestJ_le l k
      cases gk with
      | zero =>
        have hlt : ¬ (k : Int) < (l.length : Int) := by omega
        rw [List.take_of_length_le (show l.length ≤ k by omega)] at hbl ⊢
        cases hb : bestJ l with
        | none =>
          have HR := hid (openJ_none hb)
          rw [show nameAns none = -1 from rfl]
          clear hb hbl
          have hp := YR.out
          have q0 := hp.cell (j := 0) rfl
          have q1 := hp.cell (j := 1) rfl
          have q2 := hp.cell (j := 2) rfl
          have q3 := hp.cell (j := 3) rfl
          have q4 := hp.cell (j := 4) rfl
          have q5 := hp.cell (j := 5) rfl
          have qf0 := hp.thaw 0
          have qf1 := hp.thaw 1
          have qf2 := hp.thaw 2
          have qf3 := hp.thaw 3
          have qf4 := hp.thaw 4
          have qf5 := hp.thaw 5
          have BL := hid (((((((BR.out).setCell (p := ⟨w.heap.size + 1, 0, none⟩) (by show _ ≤ w.heap.size + 1; omega) (.int .i64 0)).setCell (p := ⟨w.heap.size + 1, 1, none⟩) (by show _ ≤ w.heap.size + 1; omega) (.int .i64 0)).setCell (p := ⟨w.heap.size + 1, 2, none⟩) (by show _ ≤ w.heap.size + 1; omega) (.int .i64 0)).setCell (p := ⟨w.heap.size + 1, 3, none⟩) (by show _ ≤ w.heap.size + 1; omega) (.int .i64 0)).setCell (p := ⟨w.heap.size + 1, 4, none⟩) (by show _ ≤ w.heap.size + 1; omega) (.int .i64 0)).setCell (p := ⟨w.heap.size + 1, 5, none⟩) (by show _ ≤ w.heap.size + 1; omega) (.slice none 0 0))
          clear hp
          go_wp2
          refine bodyPost_ret (v := .tuple #[.agg #[.int .i64 0, .int .i64 0, .int .i64 0, .int .i64 0, .int .i64 0, .slice none 0 0], .slice (some ⟨w.heap.size + 1 + 1, 0, none⟩) 0 0, .bool false]) (by simp [results, Tryz.results5, go_sem, q0, q1, q2, q3, q4, q5]) rfl ?_
          rw [HR.out]
          exact ⟨_, _, rfl, BL.out⟩
        | some n =>
          have HRA := hid (openJ_at HD.out hb)
          have hn9 : n ≤ 999 := hbl n hb
          rw [show nameAns (some n) = (n : Int) from rfl]
          have hn0 : ¬ (n : Int) < 0 := by omega
          clear hb hbl
          obtain ⟨hf, hfile⟩ := specFileText_any ao l cap (jname n) hl
          have hTl : (fileText l (jname n)).size ≤ 1048576 := fileText_small HST.out
          have C1 := fun d os => Calls.regrown_of (w := wr) (d := d) (os := os) (specJName_any n _)
          have C2 := fun d os => Calls.regrown_of (w := wr) (d := d) (os := os) (hfile _ (HA.out.on (below_via BR.out (below_regrown wr d os))))
          obtain ⟨NM, hNM⟩ : ∃ x, jname (n : Int) = x := ⟨_, rfl⟩
          rw [hNM] at C1 C2 hTl
          obtain ⟨TX, hTX⟩ : ∃ x, fileText l NM = x := ⟨_, rfl⟩
          rw [hTX] at C2 hTl
          have HTX : Hid (fileText l (jname n) = TX) := by show _ = _; rw [hNM, hTX]
          have D1 := hid C1
          have D2 := hid C2
          have Z2 := cell_regrown z0
          clear C1 C2 hfile hNM hTX
          go_wp2
          refine wp_region_quiet_below (by kernel_rfl) (by kernel_rfl) ?_
          repeat (first | go_big_quiet_step (first | (go_at_call 20; exact D1.out _ _) | (go_at_call 19; exact D2.out _ _) | fail) | quiet_step (first | (go_at_call 20; exact D1.out _ _) | (go_at_call 19; exact D2.out _ _) | fail))
          refine wpQuiet_nil ?_
          intro _ hw'
          obtain ⟨⟨dq, osq⟩, hw''⟩ := hw'
          subst hw''
          have b3 := below_regrown wr dq osq
          have X3 := hid (XR.out.on b3 XR.out.lt)
          have Y3 := hid (YR.out.on b3 YR.out.lt)
          have B3 := hid (below_via BR.out b3)
          have R3 := hid (actR_below RR.out b3)
          generalize Go.Sort.grow (redrawn wr dq) osq = w3 at b3 X3 Y3 B3 R3 ⊢
          clear b3 D1 D2 Z2 XR YR BR RR z0
          go_wp2_with fail
          refine (specReadJournal_any n TX hTl _).mono ?_
          rintro e w4 h4
          cases hq : readJ n TX with
          | none =>
            have HR : Hid (openJ l = none) := by show _ = _; rw [HRA.out]; exact openAt_no (by rw [HTX.out]; exact hq)
            rw [hq] at h4
            obtain ⟨rfl, b4⟩ := h4
            have bx := below_via b4 (below_more (Below.refl w4.heap.size w4) (.cells #[.int .i64 0, .int .i64 0, .int .i64 0, .int .i64 0, .int .i64 0, .slice none 0 0] 30))
            have X5 := hid (X3.out.on bx X3.out.lt)
            have Y5 := hid (Y3.out.on bx Y3.out.lt)
            have B5 := hid (below_via B3.out bx)
            have R5 := hid (actR_below R3.out bx)
            clear b4 bx X3 Y3 B3 R3 hq HRA
            have hp := Y5.out
            have q0 := hp.cell (j := 0) rfl
            have q1 := hp.cell (j := 1) rfl
            have q2 := hp.cell (j := 2) rfl
            have q3 := hp.cell (j := 3) rfl
            have q4 := hp.cell (j := 4) rfl
            have q5 := hp.cell (j := 5) rfl
            have qf0 := hp.thaw 0
            have qf1 := hp.thaw 1
            have qf2 := hp.thaw 2
            have qf3 := hp.thaw 3
            have qf4 := hp.thaw 4
            have qf5 := hp.thaw 5
            have BL := hid (((((((B5.out).setCell (p := ⟨w.heap.size + 1, 0, none⟩) (by show _ ≤ w.heap.size + 1; omega) (.int .i64 0)).setCell (p := ⟨w.heap.size + 1, 1, none⟩) (by show _ ≤ w.heap.size + 1; omega) (.int .i64 0)).setCell (p := ⟨w.heap.size + 1, 2, none⟩) (by show _ ≤ w.heap.size + 1; omega) (.int .i64 0)).setCell (p := ⟨w.heap.size + 1, 3, none⟩) (by show _ ≤ w.heap.size + 1; omega) (.int .i64 0)).setCell (p := ⟨w.heap.size + 1, 4, none⟩) (by show _ ≤ w.heap.size + 1; omega) (.int .i64 0)).setCell (p := ⟨w.heap.size + 1, 5, none⟩) (by show _ ≤ w.heap.size + 1; omega) (.slice none 0 0))
            clear hp
            go_wp2
            refine bodyPost_ret (v := .tuple #[.agg #[.int .i64 0, .int .i64 0, .int .i64 0, .int .i64 0, .int .i64 0, .slice none 0 0], .slice (some ⟨w.heap.size + 1 + 1, 0, none⟩) 0 0, .bool false]) (by simp [results, Tryz.results5, go_sem, q0, q1, q2, q3, q4, q5]) rfl ?_
            rw [HR.out]
            exact ⟨_, _, rfl, BL.out⟩
          | some p =>
            obtain ⟨j, k2⟩ := p
            rw [hq] at h4
            obtain ⟨vo, vc, rfl, hvc, ho, b4⟩ := h4
            have hjl : j.l.length ≤ 60 := by have := readJ_len n TX; rw [hq] at this; exact this
            have HJN : Hid (j.n = n) := readJ_n2 hq
            have HSM := hid (readJ_small hTl hq)
            have hke := readJ_end hq
            have bx0 := below_more (Below.refl w4.heap.size w4) (.cells #[.int .i64 j.n, .int .i64 j.tm, .int .i64 j.vt, .int .i64 j.s, .int .i64 j.t, .slice vo j.l.length vc] 30)
            have bx := below_via b4 bx0
            have X5 := hid (X3.out.on bx X3.out.lt)
            have Y5 := hid (Y3.out.on bx Y3.out.lt)
            have B5 := hid (below_via B3.out bx)
            have R5 := hid (actR_below R3.out bx)
            have K5 : Hid (BlockIs (w4.alloc (.cells #[.int .i64 j.n, .int .i64 j.tm, .int .i64 j.vt, .int .i64 j.s, .int .i64 j.t, .slice vo j.l.length vc] 30)) w4.heap.size 30 [.int .i64 j.n, .int .i64 j.tm, .int .i64 j.vt, .int .i64 j.s, .int .i64 j.t, .slice vo j.l.length vc]) := heap_alloc_new w4 _
            have E5 := hid (((ho.down B3.out.size (Nat.le_refl _)).on bx0).down (Nat.le_refl _) bx0.size)
            have z5 := X5.out.cell (j := 0) rfl
            clear b4 bx bx0 X3 Y3 B3 R3 ho
            go_wp2_with fail
            refine (l03At_any ao l cap jNew hl _ (HA.out.on B5.out)).mono ?_
            rintro e w6 ⟨(⟨kk, hkk, rfl⟩ | ⟨hkk, rfl⟩), b6⟩
            · have HN0 : Hid (newAJ l = [dropA jNew]) := (show _ = _ by rw [newAJ, isNewJ_at hkk]; rfl)
              have X6 := hid (X5.out.on b6 X5.out.lt)
              have Y6 := hid (Y5.out.on b6 Y5.out.lt)
              have B6 := hid (below_via B5.out b6)
              have R6 := hid (actR_below R5.out b6)
              have K6 := hid (K5.out.on b6 K5.out.lt)
              have E6 := hid ((E5.out.on b6).down (Nat.le_refl _) b6.size)
              have hk0 : (0 : Int) ≤ (kk : Int) := by omega
              clear b6 X5 Y5 B5 R5 K5 E5 z5 hkk
              have hnew := actR_new w6 (dropA jNew)
              have hone := actR_one (dropA jNew)
              have bb := below_more (Below.refl w6.heap.size w6) (.cells #[.int .i64 (dropA jNew).kind, .string (dropA jNew).name, .string (dropA jNew).text, .string (dropA jNew).to] 57)
              have XA := hid (X6.out.on bb X6.out.lt)
              have YA := hid (Y6.out.on bb Y6.out.lt)
              have BA := hid (below_via B6.out bb)
              have KA := hid (K6.out.on bb K6.out.lt)
              have EA := hid ((E6.out.on bb).down (Nat.le_refl _) bb.size)
              have hrow := actR_below R6.out bb
              have hbase : w.heap.size ≤ (w6.alloc (.cells #[.int .i64 (dropA jNew).kind, .string (dropA jNew).name, .string (dropA jNew).text, .string (dropA jNew).to] 57)).heap.size := BA.out.size
              clear bb X6 Y6 B6 R6 K6 E6
              go_wp2_with (at_builtin; refine wpList_append_own _ rfl (.tmp 67) (.tmp 69) 31 rfl w.heap.size 57 i0 _ 4 56 Tryz.underlying31 hi hz0 hz1 hz2 rfl (by decide) _ _ _ rfl hrow ⟨w6.heap.size, 0, none⟩ 1 1 (actEnc (dropA jNew)) rfl rfl hnew hone (by unfold maxLen; omega) (by omega) hbase ?_)
              intro v' w7 hown hgr _
              obtain ⟨va, vd, rfl⟩ := row_shape hown
              have X7 := hid (blk_row XA.out hrow hgr (by decide))
              have Y7 := hid (blk_row YA.out hrow hgr (by decide))
              have K7 := hid (blk_row KA.out hrow hgr (by decide))
              have E7 := hid (own_row EA.out hrow hgr)
              have B7 := hid (below_row BA.out hrow hgr (Nat.le_refl _) hbase)
              obtain ⟨A0, hA0⟩ : ∃ A, newAJ l = A := ⟨_, rfl⟩
              have HA0 := hid hA0
              have hA1 : A0.length ≤ 1 := by rw [← hA0]; exact newAJ_length l
              have R7 : Hid (w7.ownsRow w.heap.size 57 4 (.slice va (oth A0 n l 0).length vd) (oth A0 n l 0).length (actCells (oth A0 n l 0))) := by
                show World.ownsRow _ _ _ _ _ _ _
                rw [oth_zero, ← hA0, HN0.out]
                exact hown
              clear hown hgr hrow hbase hnew hone XA YA BA KA EA hA0
              go_wp2
              go_loopg [5, 14] l.length (fun g v i wr => ∃ (k3 : Nat) (va : Option Addr) (vd : Nat), k3 + g = l.length ∧ i = .int .i64 k3 ∧ v = .slice va (oth A0 n l k3).length vd ∧ Hid (BlockIs wr w.heap.size 36 [.slice ao l.length cap]) ∧ Hid (BlockIs wr (w.heap.size + 1) 30 [.int .i64 0, .int .i64 0, .int .i64 0, .int .i64 0, .int .i64 0, .slice none 0 0]) ∧ Hid (BlockIs wr w4.heap.size 30 [.int .i64 j.n, .int .i64 j.tm, .int .i64 j.vt, .int .i64 j.s, .int .i64 j.t, .slice vo j.l.length vc]) ∧ Hid (OwnAt wr 110 (entCells j.l) j.l.length vo w.heap.size wr.heap.size) ∧ Hid (Below w.heap.size w wr) ∧ Hid (wr.ownsRow w.heap.size 57 4 (.slice va (oth A0 n l k3).length vd) (oth A0 n l k3).length (actCells (oth A0 n l k3))))
              case atStart => exact ⟨0, _, _, by omega, rfl, by rw [oth_zero, ← HA0.out, HN0.out]; rfl, X7, Y7, K7, E7, B7, R7⟩
              case round =>
                obtain ⟨k3, va3, vd3, hk3, rfl, rfl, X8, Y8, K8, E8, B8, R8⟩ := hrel
                clear X7 Y7 K7 E7 B7 R7
                have z8 := X8.out.cell (j := 0) rfl
                have hol := oth_length hA1 n l k3
                cases gk with
                | zero =>
                  have hlt3 : ¬ (k3 : Int) < (l.length : Int) := by omega
                  obtain rfl : k3 = l.length := by omega
                  have HOL : Hid (oth A0 n l l.length = dropsOf (goesJ n) l) := by show _ = _; rw [← HA0.out]; exact HOA.out n
                  obtain ⟨L, hL⟩ : ∃ L, oth A0 n l l.length = L := ⟨_, rfl⟩
                  rw [hL] at R8 HOL hol ⊢
                  clear hL HA0 hA1 HN0
                  have hk8 := K8.out
                  have kk0 := hk8.cell (j := 0) rfl
                  have kk1 := hk8.cell (j := 1) rfl
                  have kk2 := hk8.cell (j := 2) rfl
                  have kk3 := hk8.cell (j := 3) rfl
                  have kk4 := hk8.cell (j := 4) rfl
                  have kk5 := hk8.cell (j := 5) rfl
                  clear hk8
                  by_cases hke2 : k2 = TX.size
                  · have HR : Hid (openJ l = some (j, L)) := by
                      show _ = _
                      rw [HRA.out, openAt_whole (by rw [HTX.out]; exact hq) (by rw [HTX.out]; omega), HOL.out]
                    have hks : ((k2 : Int) == (TX.size : Int)) = true := by rw [beq_iff_eq]; omega
                    clear hq hke2
                    go_wp2_with fail
                    refine (l07Copy_any j.n j.tm j.vt j.s j.t vo j.l vc (by omega) _ E8.out.ents).mono ?_
                    rintro e w9 ⟨va9, vc9, rfl, hvc9, ho9, b9⟩
                    have Y9 := hid (Y8.out.on b9 Y8.out.lt)
                    have B9 := hid (below_via B8.out b9)
                    have R9 := hid (actR_below R8.out b9)
                    have E9 := hid (ho9.down B8.out.size (Nat.le_refl _))
                    have hp := Y9.out
                    have q0 := hp.cell (j := 0) rfl
                    have q1 := hp.cell (j := 1) rfl
                    have q2 := hp.cell (j := 2) rfl
                    have q3 := hp.cell (j := 3) rfl
                    have q4 := hp.cell (j := 4) rfl
                    have q5 := hp.cell (j := 5) rfl
                    have qf0 := hp.thaw 0
                    have qf1 := hp.thaw 1
                    have qf2 := hp.thaw 2
                    have qf3 := hp.thaw 3
                    have qf4 := hp.thaw 4
                    have qf5 := hp.thaw 5
                    have BL := hid (((((((B9.out).setCell (p := ⟨w.heap.size + 1, 0, none⟩) (by show _ ≤ w.heap.size + 1; omega) (.int .i64 j.n)).setCell (p := ⟨w.heap.size + 1, 1, none⟩) (by show _ ≤ w.heap.size + 1; omega) (.int .i64 j.tm)).setCell (p := ⟨w.heap.size + 1, 2, none⟩) (by show _ ≤ w.heap.size + 1; omega) (.int .i64 j.vt)).setCell (p := ⟨w.heap.size + 1, 3, none⟩) (by show _ ≤ w.heap.size + 1; omega) (.int .i64 j.s)).setCell (p := ⟨w.heap.size + 1, 4, none⟩) (by show _ ≤ w.heap.size + 1; omega) (.int .i64 j.t)).setCell (p := ⟨w.heap.size + 1, 5, none⟩) (by show _ ≤ w.heap.size + 1; omega) (.slice va9 j.l.length vc9))
                    have PF := hid (put6 Y9.out (.int .i64 j.n) (.int .i64 j.tm) (.int .i64 j.vt) (.int .i64 j.s) (.int .i64 j.t) (.slice va9 j.l.length vc9))
                    clear hp b9 ho9 X8 Y8 K8 E8 B8 R8 z8 kk0 kk1 kk2 kk3 kk4 kk5
                    go_wp2
                    refine bodyPost_ret (v := .tuple #[.agg #[.int .i64 j.n, .int .i64 j.tm, .int .i64 j.vt, .int .i64 j.s, .int .i64 j.t, .slice va9 j.l.length vc9], .slice va3 L.length vd3, .bool true]) (by simp [results, Tryz.results5, go_sem, q0, q1, q2, q3, q4, q5]) rfl ?_
                    rw [HR.out]
                    exact ⟨va9, vc9, va3, vd3, rfl, PF.out.1 E9.out, PF.out.2 R9.out, BL.out⟩
                  · have hlt2 : k2 < TX.size := by omega
                    have hks : ((k2 : Int) == (TX.size : Int)) = false := by simp; omega
                    have CN := hid (l07Anew_any n j.tm j.vt j.s j.t (by omega) (by omega) vo j.l vc (by omega) HSM.out wr E8.out.ents)
                    rw [← HJN.out] at CN
                    clear hke2
                    go_wp2_with fail
                    refine Calls.mono CN.out ?_
                    rintro e w9 h9
                    rw [HJN.out] at h9
                    clear CN kk0 kk1 kk2 kk3 kk4 kk5
                    rcases h9 with ⟨hok, g, rfl, b9⟩ | ⟨hok, g, va', vc', hlo, rfl, hact, ho9, b9⟩
                    · have HR : Hid (openJ l = none) := by
                        show _ = _
                        rw [HRA.out]
                        exact openAt_not (by rw [HTX.out]; exact hq) (by rw [HTX.out]; exact hlt2) hok
                      have b10 := below_via b9 (below_more (below_more (Below.refl w9.heap.size w9) (.cells #[.int .i64 0, .int .i64 0, .int .i64 0, .int .i64 0, .int .i64 0, .slice none 0 0] 30)) (.cells #[] 57))
                      have hg1 : (w9.alloc (.cells #[.int .i64 0, .int .i64 0, .int .i64 0, .int .i64 0, .int .i64 0, .slice none 0 0] 30)).heap.size = w9.heap.size + 1 := by simp [World.alloc, -World.alloc_eq]
                      have Y10 := hid (Y8.out.on b10 Y8.out.lt)
                      have B10 := hid (below_via B8.out b10)
                      clear hq hok b9 b10 X8 Y8 K8 E8 B8 R8 z8
                      have hp := Y10.out
                      have q0 := hp.cell (j := 0) rfl
                      have q1 := hp.cell (j := 1) rfl
                      have q2 := hp.cell (j := 2) rfl
                      have q3 := hp.cell (j := 3) rfl
                      have q4 := hp.cell (j := 4) rfl
                      have q5 := hp.cell (j := 5) rfl
                      have qf0 := hp.thaw 0
                      have qf1 := hp.thaw 1
                      have qf2 := hp.thaw 2
                      have qf3 := hp.thaw 3
                      have qf4 := hp.thaw 4
                      have qf5 := hp.thaw 5
                      have BL := hid (((((((B10.out).setCell (p := ⟨w.heap.size + 1, 0, none⟩) (by show _ ≤ w.heap.size + 1; omega) (.int .i64 0)).setCell (p := ⟨w.heap.size + 1, 1, none⟩) (by show _ ≤ w.heap.size + 1; omega) (.int .i64 0)).setCell (p := ⟨w.heap.size + 1, 2, none⟩) (by show _ ≤ w.heap.size + 1; omega) (.int .i64 0)).setCell (p := ⟨w.heap.size + 1, 3, none⟩) (by show _ ≤ w.heap.size + 1; omega) (.int .i64 0)).setCell (p := ⟨w.heap.size + 1, 4, none⟩) (by show _ ≤ w.heap.size + 1; omega) (.int .i64 0)).setCell (p := ⟨w.heap.size + 1, 5, none⟩) (by show _ ≤ w.heap.size + 1; omega) (.slice none 0 0))
                      clear hp
                      go_wp2
                      refine bodyPost_ret (v := .tuple #[.agg #[.int .i64 0, .int .i64 0, .int .i64 0, .int .i64 0, .int .i64 0, .slice none 0 0], .slice (some ⟨w9.heap.size + 1, 0, none⟩) 0 0, .bool false]) (by simp [results, Tryz.results5, go_sem, q0, q1, q2, q3, q4, q5]) rfl ?_
                      rw [HR.out]
                      exact ⟨_, _, rfl, BL.out⟩
                    · have HR : Hid (openJ l = some (⟨(n : Int) + 1, j.tm, j.vt, j.s, j.t, j.l⟩, L ++ nextA n j.tm j.vt j.s j.t j.l)) := by
                        show _ = _
                        rw [HRA.out, openAt_anew (by rw [HTX.out]; exact hq) (by rw [HTX.out]; exact hlt2) hok, HOL.out]
                      obtain ⟨M, hM⟩ : ∃ M, nextA n j.tm j.vt j.s j.t j.l = M := ⟨_, rfl⟩
                      have hM4 : M.length = 4 := by rw [← hM]; rfl
                      rw [hM] at hact HR
                      have bx0 := below_more (Below.refl w9.heap.size w9) (.cells #[.int .i64 ((n : Int) + 1), .int .i64 j.tm, .int .i64 j.vt, .int .i64 j.s, .int .i64 j.t, .slice va' j.l.length vc'] 30)
                      have b10 := below_via b9 bx0
                      have Y10 := hid (Y8.out.on b10 Y8.out.lt)
                      have B10 := hid (below_via B8.out b10)
                      have hk10 : BlockIs (w9.alloc (.cells #[.int .i64 ((n : Int) + 1), .int .i64 j.tm, .int .i64 j.vt, .int .i64 j.s, .int .i64 j.t, .slice va' j.l.length vc'] 30)) w9.heap.size 30 [.int .i64 ((n : Int) + 1), .int .i64 j.tm, .int .i64 j.vt, .int .i64 j.s, .int .i64 j.t, .slice va' j.l.length vc'] := heap_alloc_new w9 _
                      have R10 := actR_below R8.out b10
                      have hRN := actR_made (m := 0) (hact.on bx0 hact.lt) (Nat.zero_le _) (by omega)
                      have E10 := hid (((ho9.down B8.out.size (Nat.le_refl _)).on bx0).down (Nat.le_refl _) bx0.size)
                      have HM4 := hid hM4
                      rw [hM4] at hRN
                      obtain ⟨W9, hW9⟩ : ∃ W, w9.alloc (.cells #[.int .i64 ((n : Int) + 1), .int .i64 j.tm, .int .i64 j.vt, .int .i64 j.s, .int .i64 j.t, .slice va' j.l.length vc'] 30) = W := ⟨_, rfl⟩
                      rw [hW9] at Y10 B10 hk10 R10 hRN E10
                      clear hq hok b9 b10 bx0 X8 Y8 K8 E8 B8 R8 z8 hM hact hM4 ho9
                      have hd := below_drewN (Below.refl W9.heap.size W9) 1
                      have RD := hid (actR_below R10 hd)
                      have RN := hid (actR_below hRN hd)
                      have YD := hid (Y10.out.on hd Y10.out.lt)
                      have KD := hid (hk10.on hd hk10.lt)
                      have BD := hid (below_via B10.out hd)
                      have ED := hid ((E10.out.on hd).down (Nat.le_refl _) hd.size)
                      have hLN : (L ++ M).length = L.length + 4 := by rw [List.length_append, HM4.out]
                      have HLN := hid hLN
                      have hp := Y10.out
                      have kk0 := hk10.cell (j := 0) rfl
                      have kk1 := hk10.cell (j := 1) rfl
                      have kk2 := hk10.cell (j := 2) rfl
                      have kk3 := hk10.cell (j := 3) rfl
                      have kk4 := hk10.cell (j := 4) rfl
                      have kk5 := hk10.cell (j := 5) rfl
                      have q0 := hp.cell (j := 0) rfl
                      have q1 := hp.cell (j := 1) rfl
                      have q2 := hp.cell (j := 2) rfl
                      have q3 := hp.cell (j := 3) rfl
                      have q4 := hp.cell (j := 4) rfl
                      have q5 := hp.cell (j := 5) rfl
                      have qf0 := hp.thaw 0
                      have qf1 := hp.thaw 1
                      have qf2 := hp.thaw 2
                      have qf3 := hp.thaw 3
                      have qf4 := hp.thaw 4
                      have qf5 := hp.thaw 5
                      clear hp hd R10 hRN Y10 B10 E10 hLN
                      go_wp2
                      go_region_law (refine step_append_acts rfl (.tmp 121) (.tmp 122) rfl rfl (base := w.heap.size) (L := L) (M := M) (N := L.length + 4) rfl rfl HM4.out HLN.out (by omega) BD.out.size RD.out RN.out ?_; intro va1 vd1 w11 hrow hgr; have hk11 := blk_row KD.out RD.out hgr (by decide); have hy11 := blk_row YD.out RD.out hgr (by decide); have E11 := hid (own_row ED.out RD.out hgr); have Y11 := hid hy11; have R11 := hid hrow; have B11 := hid (below_row BD.out RD.out hgr (Nat.le_refl _) BD.out.size); have k10 := hk11.cell (j := 0) rfl; have k11 := hk11.cell (j := 1) rfl; have k12 := hk11.cell (j := 2) rfl; have k13 := hk11.cell (j := 3) rfl; have k14 := hk11.cell (j := 4) rfl; have k15 := hk11.cell (j := 5) rfl; have qq0 := hy11.cell (j := 0) rfl; have qq1 := hy11.cell (j := 1) rfl; have qq2 := hy11.cell (j := 2) rfl; have qq3 := hy11.cell (j := 3) rfl; have qq4 := hy11.cell (j := 4) rfl; have qq5 := hy11.cell (j := 5) rfl; have qf0 := hy11.thaw 0; have qf1 := hy11.thaw 1; have qf2 := hy11.thaw 2; have qf3 := hy11.thaw 3; have qf4 := hy11.thaw 4; have qf5 := hy11.thaw 5; clear hrow hgr hk11 hy11)
                      all_goals
                        have BL := hid (((((((B11.out).setCell (p := ⟨w.heap.size + 1, 0, none⟩) (by show _ ≤ w.heap.size + 1; omega) (.int .i64 ((n : Int) + 1))).setCell (p := ⟨w.heap.size + 1, 1, none⟩) (by show _ ≤ w.heap.size + 1; omega) (.int .i64 j.tm)).setCell (p := ⟨w.heap.size + 1, 2, none⟩) (by show _ ≤ w.heap.size + 1; omega) (.int .i64 j.vt)).setCell (p := ⟨w.heap.size + 1, 3, none⟩) (by show _ ≤ w.heap.size + 1; omega) (.int .i64 j.s)).setCell (p := ⟨w.heap.size + 1, 4, none⟩) (by show _ ≤ w.heap.size + 1; omega) (.int .i64 j.t)).setCell (p := ⟨w.heap.size + 1, 5, none⟩) (by show _ ≤ w.heap.size + 1; omega) (.slice va' j.l.length vc'))
                        have PF := hid (put6 Y11.out (.int .i64 ((n : Int) + 1)) (.int .i64 j.tm) (.int .i64 j.vt) (.int .i64 j.s) (.int .i64 j.t) (.slice va' j.l.length vc'))
                        go_wp2
                        refine bodyPost_ret (v := .tuple #[.agg #[.int .i64 ((n : Int) + 1), .int .i64 j.tm, .int .i64 j.vt, .int .i64 j.s, .int .i64 j.t, .slice va' j.l.length vc'], .slice va1 (L.length + 4) vd1, .bool true]) (by simp [results, Tryz.results5, go_sem, qq0, qq1, qq2, qq3, qq4, qq5]) rfl ?_
                        rw [HR.out]
                        unfold openDid
                        dsimp only
                        rw [HLN.out]
                        exact ⟨va', vc', va1, vd1, rfl, PF.out.1 E11.out, PF.out.2 R11.out, BL.out⟩
                | succ q3 =>
                  have hlt3 : k3 < l.length := by omega
                  have hlt3' : (k3 : Int) < (l.length : Int) := by omega
                  have hns := HSN.out l[k3] (List.getElem_mem hlt3)
                  obtain ⟨b, off, hao, hc⟩ := HA.out.on B8.out (by intro e; rw [e] at hlt3; simp at hlt3)
                  obtain ⟨x0, x1, x2⟩ := hc k3 hlt3
                  clear hc x1 x2
                  have HY := hid (fun h => oth_yes (A0 := A0) (n := n) hlt3 h)
                  have HNO := hid (fun h => oth_no (A0 := A0) (n := n) hlt3 h)
                  obtain ⟨nm, hnm⟩ : ∃ nm, l[k3].name = nm := ⟨_, rfl⟩
                  rw [hnm] at x0 hns HY HNO
                  have X0c := hid x0
                  have HAO := hid hao
                  rw [hao] at z8
                  clear hnm hao
                  go_wp2_with fail
                  refine (l07Number_any nm hns _).mono ?_
                  rintro e w9 ⟨rfl, b9⟩
                  have x9 := (b9.cell (p := ⟨b, off + k3 * 3, none⟩) (World.block_lt_of_cell? wr _ X0c.out)).trans X0c.out
                  have X9 := hid (X8.out.on b9 X8.out.lt)
                  have Y9 := hid (Y8.out.on b9 Y8.out.lt)
                  have K9 := hid (K8.out.on b9 K8.out.lt)
                  have E9 := hid ((E8.out.on b9).down (Nat.le_refl _) b9.size)
                  have B9 := hid (below_via B8.out b9)
                  have R9 := hid (actR_below R8.out b9)
                  have z9 := X9.out.cell (j := 0) rfl
                  rw [HAO.out] at z9
                  clear b9 x0 X0c X8 Y8 K8 E8 B8 R8 z8
                  obtain ⟨Q, hQ⟩ : ∃ Q, nameAns (nameNum 106 999 nm) = Q := ⟨_, rfl⟩
                  rw [hQ] at HY HNO ⊢
                  clear hQ
                  obtain ⟨L3, hL3⟩ : ∃ L, oth A0 n l k3 = L := ⟨_, rfl⟩
                  rw [hL3] at R9 HY HNO hol ⊢
                  clear hL3
                  by_cases hq0 : 0 ≤ Q
                  · by_cases hqn : Q = (n : Int)
                    · have HS := hid (HNO.out (fun h => h.2 hqn))
                      have hqq : (Q == (n : Int)) = true := by simpa using hqn
                      clear HY HNO
                      go_wp2
                      go_roundg q3
                      case measure => omega
                      case rel => exact ⟨k3 + 1, va3, vd3, by omega, by go_num, by rw [HS.out], X9, Y9, K9, E9, B9, by rw [HS.out]; exact R9⟩
                    · have HS := hid (HY.out ⟨hq0, hqn⟩)
                      clear HY HNO
                      have hnew := actR_new w9 (dropA nm)
                      have hone := actR_one (dropA nm)
                      have bb := below_more (Below.refl w9.heap.size w9) (.cells #[.int .i64 (dropA nm).kind, .string (dropA nm).name, .string (dropA nm).text, .string (dropA nm).to] 57)
                      have XA := hid (X9.out.on bb X9.out.lt)
                      have YA := hid (Y9.out.on bb Y9.out.lt)
                      have KA := hid (K9.out.on bb K9.out.lt)
                      have EA := hid ((E9.out.on bb).down (Nat.le_refl _) bb.size)
                      have BA := hid (below_via B9.out bb)
                      have hrow := actR_below R9.out bb
                      have hbase : w.heap.size ≤ (w9.alloc (.cells #[.int .i64 (dropA nm).kind, .string (dropA nm).name, .string (dropA nm).text, .string (dropA nm).to] 57)).heap.size := BA.out.size
                      clear bb X9 Y9 K9 E9 B9 R9
                      go_wp2_with (at_builtin; refine wpList_append_own _ rfl (.tmp 92) (.tmp 100) 31 rfl w.heap.size 57 i0 _ 4 56 Tryz.underlying31 hi hz0 hz1 hz2 rfl (by decide) _ _ _ rfl hrow ⟨w9.heap.size, 0, none⟩ 1 1 (actEnc (dropA nm)) rfl rfl hnew hone (by unfold maxLen; omega) (by omega) hbase ?_)
                      intro v' w10 hown hgr _
                      obtain ⟨va1, vd1, rfl⟩ := row_shape hown
                      rw [← actR_snoc] at hown
                      have X10 := hid (blk_row XA.out hrow hgr (by decide))
                      have Y10 := hid (blk_row YA.out hrow hgr (by decide))
                      have K10 := hid (blk_row KA.out hrow hgr (by decide))
                      have E10 := hid (own_row EA.out hrow hgr)
                      have B10 := hid (below_row BA.out hrow hgr (Nat.le_refl _) hbase)
                      have HL4 : Hid ((L3 ++ [dropA nm]).length = L3.length + 1) := by show _ = _; simp
                      have R10 := hid hown
                      clear hown hgr hrow hbase hnew hone XA YA KA EA BA z9 x9
                      go_wp2
                      go_roundg q3
                      case measure => omega
                      case rel =>
                        refine ⟨k3 + 1, va1, vd1, by omega, by go_num, by rw [HS.out, HL4.out], X10, Y10, K10, E10, B10, ?_⟩
                        rw [HS.out, HL4.out]
                        exact R10
                  · have HS := hid (HNO.out (fun h => hq0 h.1))
                    clear HY HNO
                    go_wp2
                    go_roundg q3
                    case measure => omega
                    case rel => exact ⟨k3 + 1, va3, vd3, by omega, by go_num, by rw [HS.out], X9, Y9, K9, E9, B9, by rw [HS.out]; exact R9⟩
            · have HN0 : Hid (newAJ l = []) := (show _ = _ by rw [newAJ, isNewJ_none hkk]; rfl)
              have X7 := hid (X5.out.on b6 X5.out.lt)
              have Y7 := hid (Y5.out.on b6 Y5.out.lt)
              have B7 := hid (below_via B5.out b6)
              have R7 := hid (actR_below R5.out b6)
              have K7 := hid (K5.out.on b6 K5.out.lt)
              have E7 := hid ((E5.out.on b6).down (Nat.le_refl _) b6.size)
              obtain ⟨A0, hA0⟩ : ∃ A, newAJ l = A := ⟨_, rfl⟩
              have HA0 := hid hA0
              have hA1 : A0.length ≤ 1 := by rw [← hA0]; exact newAJ_length l
              have R7' : Hid (w6.ownsRow w.heap.size 57 4 (.slice (some ⟨w.heap.size + 1 + 1, 0, none⟩) (oth A0 n l 0).length 0) (oth A0 n l 0).length (actCells (oth A0 n l 0))) := by
                show World.ownsRow _ _ _ _ _ _ _
                rw [oth_zero, ← hA0, HN0.out]
                exact R7.out
              clear b6 X5 Y5 B5 R5 K5 E5 z5 hkk R7 hA0
              go_wp2
              go_loopg [5, 14] l.length (fun g v i wr => ∃ (k3 : Nat) (va : Option Addr) (vd : Nat), k3 + g = l.length ∧ i = .int .i64 k3 ∧ v = .slice va (oth A0 n l k3).length vd ∧ Hid (BlockIs wr w.heap.size 36 [.slice ao l.length cap]) ∧ Hid (BlockIs wr (w.heap.size + 1) 30 [.int .i64 0, .int .i64 0, .int .i64 0, .int .i64 0, .int .i64 0, .slice none 0 0]) ∧ Hid (BlockIs wr w4.heap.size 30 [.int .i64 j.n, .int .i64 j.tm, .int .i64 j.vt, .int .i64 j.s, .int .i64 j.t, .slice vo j.l.length vc]) ∧ Hid (OwnAt wr 110 (entCells j.l) j.l.length vo w.heap.size wr.heap.size) ∧ Hid (Below w.heap.size w wr) ∧ Hid (wr.ownsRow w.heap.size 57 4 (.slice va (oth A0 n l k3).length vd) (oth A0 n l k3).length (actCells (oth A0 n l k3))))
              case atStart => exact ⟨0, _, _, by omega, rfl, by rw [oth_zero, ← HA0.out, HN0.out]; rfl, X7, Y7, K7, E7, B7, R7'⟩
              case round =>
                obtain ⟨k3, va3, vd3, hk3, rfl, rfl, X8, Y8, K8, E8, B8, R8⟩ := hrel
                clear X7 Y7 K7 E7 B7 R7'
                have z8 := X8.out.cell (j := 0) rfl
                have hol := oth_length hA1 n l k3
                cases gk with
                | zero =>
                  have hlt3 : ¬ (k3 : Int) < (l.length : Int) := by omega
                  obtain rfl : k3 = l.length := by omega
                  have HOL : Hid (oth A0 n l l.length = dropsOf (goesJ n) l) := by show _ = _; rw [← HA0.out]; exact HOA.out n
                  obtain ⟨L, hL⟩ : ∃ L, oth A0 n l l.length = L := ⟨_, rfl⟩
                  rw [hL] at R8 HOL hol ⊢
                  clear hL HA0 hA1 HN0
                  have hk8 := K8.out
                  have kk0 := hk8.cell (j := 0) rfl
                  have kk1 := hk8.cell (j := 1) rfl
                  have kk2 := hk8.cell (j := 2) rfl
                  have kk3 := hk8.cell (j := 3) rfl
                  have kk4 := hk8.cell (j := 4) rfl
                  have kk5 := hk8.cell (j := 5) rfl
                  clear hk8
                  by_cases hke2 : k2 = TX.size
                  · have HR : Hid (openJ l = some (j, L)) := by
                      show _ = _
                      rw [HRA.out, openAt_whole (by rw [HTX.out]; exact hq) (by rw [HTX.out]; omega), HOL.out]
                    have hks : ((k2 : Int) == (TX.size : Int)) = true := by rw [beq_iff_eq]; omega
                    clear hq hke2
                    go_wp2_with fail
                    refine (l07Copy_any j.n j.tm j.vt j.s j.t vo j.l vc (by omega) _ E8.out.ents).mono ?_
                    rintro e w9 ⟨va9, vc9, rfl, hvc9, ho9, b9⟩
                    have Y9 := hid (Y8.out.on b9 Y8.out.lt)
                    have B9 := hid (below_via B8.out b9)
                    have R9 := hid (actR_below R8.out b9)
                    have E9 := hid (ho9.down B8.out.size (Nat.le_refl _))
                    have hp := Y9.out
                    have q0 := hp.cell (j := 0) rfl
                    have q1 := hp.cell (j := 1) rfl
                    have q2 := hp.cell (j := 2) rfl
                    have q3 := hp.cell (j := 3) rfl
                    have q4 := hp.cell (j := 4) rfl
                    have q5 := hp.cell (j := 5) rfl
                    have qf0 := hp.thaw 0
                    have qf1 := hp.thaw 1
                    have qf2 := hp.thaw 2
                    have qf3 := hp.thaw 3
                    have qf4 := hp.thaw 4
                    have qf5 := hp.thaw 5
                    have BL := hid (((((((B9.out).setCell (p := ⟨w.heap.size + 1, 0, none⟩) (by show _ ≤ w.heap.size + 1; omega) (.int .i64 j.n)).setCell (p := ⟨w.heap.size + 1, 1, none⟩) (by show _ ≤ w.heap.size + 1; omega) (.int .i64 j.tm)).setCell (p := ⟨w.heap.size + 1, 2, none⟩) (by show _ ≤ w.heap.size + 1; omega) (.int .i64 j.vt)).setCell (p := ⟨w.heap.size + 1, 3, none⟩) (by show _ ≤ w.heap.size + 1; omega) (.int .i64 j.s)).setCell (p := ⟨w.heap.size + 1, 4, none⟩) (by show _ ≤ w.heap.size + 1; omega) (.int .i64 j.t)).setCell (p := ⟨w.heap.size + 1, 5, none⟩) (by show _ ≤ w.heap.size + 1; omega) (.slice va9 j.l.length vc9))
                    have PF := hid (put6 Y9.out (.int .i64 j.n) (.int .i64 j.tm) (.int .i64 j.vt) (.int .i64 j.s) (.int .i64 j.t) (.slice va9 j.l.length vc9))
                    clear hp b9 ho9 X8 Y8 K8 E8 B8 R8 z8 kk0 kk1 kk2 kk3 kk4 kk5
                    go_wp2
                    refine bodyPost_ret (v := .tuple #[.agg #[.int .i64 j.n, .int .i64 j.tm, .int .i64 j.vt, .int .i64 j.s, .int .i64 j.t, .slice va9 j.l.length vc9], .slice va3 L.length vd3, .bool true]) (by simp [results, Tryz.results5, go_sem, q0, q1, q2, q3, q4, q5]) rfl ?_
                    rw [HR.out]
                    exact ⟨va9, vc9, va3, vd3, rfl, PF.out.1 E9.out, PF.out.2 R9.out, BL.out⟩
                  · have hlt2 : k2 < TX.size := by omega
                    have hks : ((k2 : Int) == (TX.size : Int)) = false := by simp; omega
                    have CN := hid (l07Anew_any n j.tm j.vt j.s j.t (by omega) (by omega) vo j.l vc (by omega) HSM.out wr E8.out.ents)
                    rw [← HJN.out] at CN
                    clear hke2
                    go_wp2_with fail
                    refine Calls.mono CN.out ?_
                    rintro e w9 h9
                    rw [HJN.out] at h9
                    clear CN kk0 kk1 kk2 kk3 kk4 kk5
                    rcases h9 with ⟨hok, g, rfl, b9⟩ | ⟨hok, g, va', vc', hlo, rfl, hact, ho9, b9⟩
                    · have HR : Hid (openJ l = none) := by
                        show _ = _
                        rw [HRA.out]
                        exact openAt_not (by rw [HTX.out]; exact hq) (by rw [HTX.out]; exact hlt2) hok
                      have b10 := below_via b9 (below_more (below_more (Below.refl w9.heap.size w9) (.cells #[.int .i64 0, .int .i64 0, .int .i64 0, .int .i64 0, .int .i64 0, .slice none 0 0] 30)) (.cells #[] 57))
                      have hg1 : (w9.alloc (.cells #[.int .i64 0, .int .i64 0, .int .i64 0, .int .i64 0, .int .i64 0, .slice none 0 0] 30)).heap.size = w9.heap.size + 1 := by simp [World.alloc, -World.alloc_eq]
                      have Y10 := hid (Y8.out.on b10 Y8.out.lt)
                      have B10 := hid (below_via B8.out b10)
                      clear hq hok b9 b10 X8 Y8 K8 E8 B8 R8 z8
                      have hp := Y10.out
                      have q0 := hp.cell (j := 0) rfl
                      have q1 := hp.cell (j := 1) rfl
                      have q2 := hp.cell (j := 2) rfl
                      have q3 := hp.cell (j := 3) rfl
                      have q4 := hp.cell (j := 4) rfl
                      have q5 := hp.cell (j := 5) rfl
                      have qf0 := hp.thaw 0
                      have qf1 := hp.thaw 1
                      have qf2 := hp.thaw 2
                      have qf3 := hp.thaw 3
                      have qf4 := hp.thaw 4
                      have qf5 := hp.thaw 5
                      have BL := hid (((((((B10.out).setCell (p := ⟨w.heap.size + 1, 0, none⟩) (by show _ ≤ w.heap.size + 1; omega) (.int .i64 0)).setCell (p := ⟨w.heap.size + 1, 1, none⟩) (by show _ ≤ w.heap.size + 1; omega) (.int .i64 0)).setCell (p := ⟨w.heap.size + 1, 2, none⟩) (by show _ ≤ w.heap.size + 1; omega) (.int .i64 0)).setCell (p := ⟨w.heap.size + 1, 3, none⟩) (by show _ ≤ w.heap.size + 1; omega) (.int .i64 0)).setCell (p := ⟨w.heap.size + 1, 4, none⟩) (by show _ ≤ w.heap.size + 1; omega) (.int .i64 0)).setCell (p := ⟨w.heap.size + 1, 5, none⟩) (by show _ ≤ w.heap.size + 1; omega) (.slice none 0 0))
                      clear hp
                      go_wp2
                      refine bodyPost_ret (v := .tuple #[.agg #[.int .i64 0, .int .i64 0, .int .i64 0, .int .i64 0, .int .i64 0, .slice none 0 0], .slice (some ⟨w9.heap.size + 1, 0, none⟩) 0 0, .bool false]) (by simp [results, Tryz.results5, go_sem, q0, q1, q2, q3, q4, q5]) rfl ?_
                      rw [HR.out]
                      exact ⟨_, _, rfl, BL.out⟩
                    · have HR : Hid (openJ l = some (⟨(n : Int) + 1, j.tm, j.vt, j.s, j.t, j.l⟩, L ++ nextA n j.tm j.vt j.s j.t j.l)) := by
                        show _ = _
                        rw [HRA.out, openAt_anew (by rw [HTX.out]; exact hq) (by rw [HTX.out]; exact hlt2) hok, HOL.out]
                      obtain ⟨M, hM⟩ : ∃ M, nextA n j.tm j.vt j.s j.t j.l = M := ⟨_, rfl⟩
                      have hM4 : M.length = 4 := by rw [← hM]; rfl
                      rw [hM] at hact HR
                      have bx0 := below_more (Below.refl w9.heap.size w9) (.cells #[.int .i64 ((n : Int) + 1), .int .i64 j.tm, .int .i64 j.vt, .int .i64 j.s, .int .i64 j.t, .slice va' j.l.length vc'] 30)
                      have b10 := below_via b9 bx0
                      have Y10 := hid (Y8.out.on b10 Y8.out.lt)
                      have B10 := hid (below_via B8.out b10)
                      have hk10 : BlockIs (w9.alloc (.cells #[.int .i64 ((n : Int) + 1), .int .i64 j.tm, .int .i64 j.vt, .int .i64 j.s, .int .i64 j.t, .slice va' j.l.length vc'] 30)) w9.heap.size 30 [.int .i64 ((n : Int) + 1), .int .i64 j.tm, .int .i64 j.vt, .int .i64 j.s, .int .i64 j.t, .slice va' j.l.length vc'] := heap_alloc_new w9 _
                      have R10 := actR_below R8.out b10
                      have hRN := actR_made (m := 0) (hact.on bx0 hact.lt) (Nat.zero_le _) (by omega)
                      have E10 := hid (((ho9.down B8.out.size (Nat.le_refl _)).on bx0).down (Nat.le_refl _) bx0.size)
                      have HM4 := hid hM4
                      rw [hM4] at hRN
                      obtain ⟨W9, hW9⟩ : ∃ W, w9.alloc (.cells #[.int .i64 ((n : Int) + 1), .int .i64 j.tm, .int .i64 j.vt, .int .i64 j.s, .int .i64 j.t, .slice va' j.l.length vc'] 30) = W := ⟨_, rfl⟩
                      rw [hW9] at Y10 B10 hk10 R10 hRN E10
                      clear hq hok b9 b10 bx0 X8 Y8 K8 E8 B8 R8 z8 hM hact hM4 ho9
                      have hd := below_drewN (Below.refl W9.heap.size W9) 1
                      have RD := hid (actR_below R10 hd)
                      have RN := hid (actR_below hRN hd)
                      have YD := hid (Y10.out.on hd Y10.out.lt)
                      have KD := hid (hk10.on hd hk10.lt)
                      have BD := hid (below_via B10.out hd)
                      have ED := hid ((E10.out.on hd).down (Nat.le_refl _) hd.size)
                      have hLN : (L ++ M).length = L.length + 4 := by rw [List.length_append, HM4.out]
                      have HLN := hid hLN
                      have hp := Y10.out
                      have kk0 := hk10.cell (j := 0) rfl
                      have kk1 := hk10.cell (j := 1) rfl
                      have kk2 := hk10.cell (j := 2) rfl
                      have kk3 := hk10.cell (j := 3) rfl
                      have kk4 := hk10.cell (j := 4) rfl
                      have kk5 := hk10.cell (j := 5) rfl
                      have q0 := hp.cell (j := 0) rfl
                      have q1 := hp.cell (j := 1) rfl
                      have q2 := hp.cell (j := 2) rfl
                      have q3 := hp.cell (j := 3) rfl
                      have q4 := hp.cell (j := 4) rfl
                      have q5 := hp.cell (j := 5) rfl
                      have qf0 := hp.thaw 0
                      have qf1 := hp.thaw 1
                      have qf2 := hp.thaw 2
                      have qf3 := hp.thaw 3
                      have qf4 := hp.thaw 4
                      have qf5 := hp.thaw 5
                      clear hp hd R10 hRN Y10 B10 E10 hLN
                      go_wp2
                      go_region_law (refine step_append_acts rfl (.tmp 121) (.tmp 122) rfl rfl (base := w.heap.size) (L := L) (M := M) (N := L.length + 4) rfl rfl HM4.out HLN.out (by omega) BD.out.size RD.out RN.out ?_; intro va1 vd1 w11 hrow hgr; have hk11 := blk_row KD.out RD.out hgr (by decide); have hy11 := blk_row YD.out RD.out hgr (by decide); have E11 := hid (own_row ED.out RD.out hgr); have Y11 := hid hy11; have R11 := hid hrow; have B11 := hid (below_row BD.out RD.out hgr (Nat.le_refl _) BD.out.size); have k10 := hk11.cell (j := 0) rfl; have k11 := hk11.cell (j := 1) rfl; have k12 := hk11.cell (j := 2) rfl; have k13 := hk11.cell (j := 3) rfl; have k14 := hk11.cell (j := 4) rfl; have k15 := hk11.cell (j := 5) rfl; have qq0 := hy11.cell (j := 0) rfl; have qq1 := hy11.cell (j := 1) rfl; have qq2 := hy11.cell (j := 2) rfl; have qq3 := hy11.cell (j := 3) rfl; have qq4 := hy11.cell (j := 4) rfl; have qq5 := hy11.cell (j := 5) rfl; have qf0 := hy11.thaw 0; have qf1 := hy11.thaw 1; have qf2 := hy11.thaw 2; have qf3 := hy11.thaw 3; have qf4 := hy11.thaw 4; have qf5 := hy11.thaw 5; clear hrow hgr hk11 hy11)
                      all_goals
                        have BL := hid (((((((B11.out).setCell (p := ⟨w.heap.size + 1, 0, none⟩) (by show _ ≤ w.heap.size + 1; omega) (.int .i64 ((n : Int) + 1))).setCell (p := ⟨w.heap.size + 1, 1, none⟩) (by show _ ≤ w.heap.size + 1; omega) (.int .i64 j.tm)).setCell (p := ⟨w.heap.size + 1, 2, none⟩) (by show _ ≤ w.heap.size + 1; omega) (.int .i64 j.vt)).setCell (p := ⟨w.heap.size + 1, 3, none⟩) (by show _ ≤ w.heap.size + 1; omega) (.int .i64 j.s)).setCell (p := ⟨w.heap.size + 1, 4, none⟩) (by show _ ≤ w.heap.size + 1; omega) (.int .i64 j.t)).setCell (p := ⟨w.heap.size + 1, 5, none⟩) (by show _ ≤ w.heap.size + 1; omega) (.slice va' j.l.length vc'))
                        have PF := hid (put6 Y11.out (.int .i64 ((n : Int) + 1)) (.int .i64 j.tm) (.int .i64 j.vt) (.int .i64 j.s) (.int .i64 j.t) (.slice va' j.l.length vc'))
                        go_wp2
                        refine bodyPost_ret (v := .tuple #[.agg #[.int .i64 ((n : Int) + 1), .int .i64 j.tm, .int .i64 j.vt, .int .i64 j.s, .int .i64 j.t, .slice va' j.l.length vc'], .slice va1 (L.length + 4) vd1, .bool true]) (by simp [results, Tryz.results5, go_sem, qq0, qq1, qq2, qq3, qq4, qq5]) rfl ?_
                        rw [HR.out]
                        unfold openDid
                        dsimp only
                        rw [HLN.out]
                        exact ⟨va', vc', va1, vd1, rfl, PF.out.1 E11.out, PF.out.2 R11.out, BL.out⟩
                | succ q3 =>
                  have hlt3 : k3 < l.length := by omega
                  have hlt3' : (k3 : Int) < (l.length : Int) := by omega
                  have hns := HSN.out l[k3] (List.getElem_mem hlt3)
                  obtain ⟨b, off, hao, hc⟩ := HA.out.on B8.out (by intro e; rw [e] at hlt3; simp at hlt3)
                  obtain ⟨x0, x1, x2⟩ := hc k3 hlt3
                  clear hc x1 x2
                  have HY := hid (fun h => oth_yes (A0 := A0) (n := n) hlt3 h)
                  have HNO := hid (fun h => oth_no (A0 := A0) (n := n) hlt3 h)
                  obtain ⟨nm, hnm⟩ : ∃ nm, l[k3].name = nm := ⟨_, rfl⟩
                  rw [hnm] at x0 hns HY HNO
                  have X0c := hid x0
                  have HAO := hid hao
                  rw [hao] at z8
                  clear hnm hao
                  go_wp2_with fail
                  refine (l07Number_any nm hns _).mono ?_
                  rintro e w9 ⟨rfl, b9⟩
                  have x9 := (b9.cell (p := ⟨b, off + k3 * 3, none⟩) (World.block_lt_of_cell? wr _ X0c.out)).trans X0c.out
                  have X9 := hid (X8.out.on b9 X8.out.lt)
                  have Y9 := hid (Y8.out.on b9 Y8.out.lt)
                  have K9 := hid (K8.out.on b9 K8.out.lt)
                  have E9 := hid ((E8.out.on b9).down (Nat.le_refl _) b9.size)
                  have B9 := hid (below_via B8.out b9)
                  have R9 := hid (actR_below R8.out b9)
                  have z9 := X9.out.cell (j := 0) rfl
                  rw [HAO.out] at z9
                  clear b9 x0 X0c X8 Y8 K8 E8 B8 R8 z8
                  obtain ⟨Q, hQ⟩ : ∃ Q, nameAns (nameNum 106 999 nm) = Q := ⟨_, rfl⟩
                  rw [hQ] at HY HNO ⊢
                  clear hQ
                  obtain ⟨L3, hL3⟩ : ∃ L, oth A0 n l k3 = L := ⟨_, rfl⟩
                  rw [hL3] at R9 HY HNO hol ⊢
                  clear hL3
                  by_cases hq0 : 0 ≤ Q
                  · by_cases hqn : Q = (n : Int)
                    · have HS := hid (HNO.out (fun h => h.2 hqn))
                      have hqq : (Q == (n : Int)) = true := by simpa using hqn
                      clear HY HNO
                      go_wp2
                      go_roundg q3
                      case measure => omega
                      case rel => exact ⟨k3 + 1, va3, vd3, by omega, by go_num, by rw [HS.out], X9, Y9, K9, E9, B9, by rw [HS.out]; exact R9⟩
                    · have HS := hid (HY.out ⟨hq0, hqn⟩)
                      clear HY HNO
                      have hnew := actR_new w9 (dropA nm)
                      have hone := actR_one (dropA nm)
                      have bb := below_more (Below.refl w9.heap.size w9) (.cells #[.int .i64 (dropA nm).kind, .string (dropA nm).name, .string (dropA nm).text, .string (dropA nm).to] 57)
                      have XA := hid (X9.out.on bb X9.out.lt)
                      have YA := hid (Y9.out.on bb Y9.out.lt)
                      have KA := hid (K9.out.on bb K9.out.lt)
                      have EA := hid ((E9.out.on bb).down (Nat.le_refl _) bb.size)
                      have BA := hid (below_via B9.out bb)
                      have hrow := actR_below R9.out bb
                      have hbase : w.heap.size ≤ (w9.alloc (.cells #[.int .i64 (dropA nm).kind, .string (dropA nm).name, .string (dropA nm).text, .string (dropA nm).to] 57)).heap.size := BA.out.size
                      clear bb X9 Y9 K9 E9 B9 R9
                      go_wp2_with (at_builtin; refine wpList_append_own _ rfl (.tmp 92) (.tmp 100) 31 rfl w.heap.size 57 i0 _ 4 56 Tryz.underlying31 hi hz0 hz1 hz2 rfl (by decide) _ _ _ rfl hrow ⟨w9.heap.size, 0, none⟩ 1 1 (actEnc (dropA nm)) rfl rfl hnew hone (by unfold maxLen; omega) (by omega) hbase ?_)
                      intro v' w10 hown hgr _
                      obtain ⟨va1, vd1, rfl⟩ := row_shape hown
                      rw [← actR_snoc] at hown
                      have X10 := hid (blk_row XA.out hrow hgr (by decide))
                      have Y10 := hid (blk_row YA.out hrow hgr (by decide))
                      have K10 := hid (blk_row KA.out hrow hgr (by decide))
                      have E10 := hid (own_row EA.out hrow hgr)
                      have B10 := hid (below_row BA.out hrow hgr (Nat.le_refl _) hbase)
                      have HL4 : Hid ((L3 ++ [dropA nm]).length = L3.length + 1) := by show _ = _; simp
                      have R10 := hid hown
                      clear hown hgr hrow hbase hnew hone XA YA KA EA BA z9 x9
                      go_wp2
                      go_roundg q3
                      case measure => omega
                      case rel =>
                        refine ⟨k3 + 1, va1, vd1, by omega, by go_num, by rw [HS.out, HL4.out], X10, Y10, K10, E10, B10, ?_⟩
                        rw [HS.out, HL4.out]
                        exact R10
                  · have HS := hid (HNO.out (fun h => hq0 h.1))
                    clear HY HNO
                    go_wp2
                    go_roundg q3
                    case measure => omega
                    case rel => exact ⟨k3 + 1, va3, vd3, by omega, by go_num, by rw [HS.out], X9, Y9, K9, E9, B9, by rw [HS.out]; exact R9⟩
      | succ q =>
        have hlt : k < l.length := by omega
        have hlt' : (k : Int) < (l.length : Int) := by omega
        have HST2 := hid (bestJ_take l k hlt)
        have hns := HSN.out l[k] (List.getElem_mem hlt)
        go_wp2_with fail
        refine (CD.out _ (HA.out.on BR.out)).mono ?_
        rintro e w1 ⟨rfl, b1⟩
        have X1 := hid (XR.out.on b1 XR.out.lt)
        have Y1 := hid (YR.out.on b1 YR.out.lt)
        have B1 := hid (below_via BR.out b1)
        have R1 := hid (actR_below RR.out b1)
        clear b1 XR YR BR RR z0
        have z1 := X1.out.cell (j := 0) rfl
        obtain ⟨b, off, hao, hc⟩ := HA.out.on B1.out (by intro e; rw [e] at hlt; simp at hlt)
        obtain ⟨x0, x1, x2⟩ := hc k hlt
        clear hc x1 x2
        obtain ⟨nm, hnm⟩ : ∃ nm, l[k].name = nm := ⟨_, rfl⟩
        have HNM := hid hnm
        rw [hnm] at x0 hns
        rw [hao] at z1
        have HAO := hid hao
        clear hnm hao
        go_wp2_with fail
        refine (l07Number_any nm hns _).mono ?_
        rintro e w2 ⟨rfl, b2⟩
        have X2 := hid (X1.out.on b2 X1.out.lt)
        have Y2 := hid (Y1.out.on b2 Y1.out.lt)
        have B2 := hid (below_via B1.out b2)
        have R2 := hid (actR_below R1.out b2)
        clear b2 X1 Y1 B1 R1 z1 x0
        have hstep := nameAns_step (bestJ (l.take k)) l[k]
        rw [HNM.out] at hstep
        obtain ⟨P, hP⟩ : ∃ P, nameAns (bestJ (l.take k)) = P := ⟨_, rfl⟩
        obtain ⟨Q, hQ⟩ : ∃ Q, nameAns (nameNum 106 999 nm) = Q := ⟨_, rfl⟩
        have hPb : -1 ≤ P ∧ P ≤ 999 := by
          rw [← hP]
          cases hb : bestJ (l.take k) with
          | none => exact ⟨by simp [nameAns], by simp [nameAns]⟩
          | some m => have := hbl m hb; exact ⟨by simp only [nameAns]; omega, by simp only [nameAns]; omega⟩
        rw [hP, hQ] at hstep
        rw [hP, hQ]
        by_cases hpq : P < Q
        · rw [if_pos hpq] at hstep
          have HS := hid hstep
          clear hstep hP hQ
          go_wp2
          go_roundg q
          case measure => omega
          case rel => exact ⟨k + 1, by omega, by go_num, by rw [HST2.out, HS.out], X2, Y2, B2, R2⟩
        · rw [if_neg hpq] at hstep
          have HS := hid hstep
          clear hstep hP hQ
          go_wp2
          go_roundg q
          case measure => omega
          case rel => exact ⟨k + 1, by omega, by go_num, by rw [HST2.out, HS.out], X2, Y2, B2, R2⟩
end Go.Proofs.YtbifkpkhpaellaaGreatDoor

namespace Go.Proofs.YtbifkpkhpaellaaGreatDoor
open Go.RowKit

set_option maxRecDepth 1000000 in
set_option maxHeartbeats 1000000 in
theorem implConfOk_any (ao : Option Addr) (zs : List Int) (cap : Nat) (hl : zs.length ≤ 1048576) (w : World) (hz : IntsAt w ao zs) :
    Calls Tryz.prog 152 #[.slice ao zs.length cap] w fun e w' => e = .returned (.bool (confOk zs)) ∧ Below w.heap.size w w' := by
  have HZ := hid hz
  clear hz
  by_cases h1 : zs.length < 1
  · have hr := hid (confOk_big (zs := zs) (by omega))
    have h1' : (zs.length : Int) < 1 := by omega
    go_enter Tryz.func152, Tryz.ntmps152
    go_wp2
    go_ret
    exact ⟨by rw [hr.out]; rfl, Below.refl _ _⟩
  by_cases h4 : 4 < zs.length
  · have hr := hid (confOk_big (zs := zs) (by omega))
    have h1' : ¬ (zs.length : Int) < 1 := by omega
    have h4' : 4 < (zs.length : Int) := by omega
    go_enter Tryz.func152, Tryz.ntmps152
    go_wp2
    go_ret
    exact ⟨by rw [hr.out]; rfl, Below.refl _ _⟩
  have h1' : ¬ (zs.length : Int) < 1 := by omega
  have h4' : ¬ 4 < (zs.length : Int) := by omega
  have HR := hid (confOk_of (zs := zs) (by omega) (by omega))
  go_enter Tryz.func152, Tryz.ntmps152
  go_wp2
  go_loop [3, 16] (fun b i => ∃ (k : Nat), k ≤ zs.length ∧ i = .int .i64 k ∧ b = .int .i64 (lastOf zs k) ∧ Hid (riseTo zs k = true)) (fun _ i => zs.length - (intOf i).toNat)
  case atStart => exact ⟨0, Nat.zero_le _, rfl, rfl, rfl⟩
  case round =>
    obtain ⟨k, hk, rfl, rfl, RT⟩ := hrel
    by_cases hlt : k < zs.length
    · have hne : zs ≠ [] := by intro e; rw [e] at hlt; simp at hlt
      obtain ⟨b, off, rfl, hc⟩ := HZ.out hne
      have x0 := hc k hlt
      have HL := hid (lastOf_step hlt)
      have HON : Hid (lastOf zs k < zs[k] → zs[k] ≤ 4 → riseTo zs (k + 1) = true) := rise_on hlt RT.out
      have HOFF : Hid (¬ (lastOf zs k < zs[k] ∧ zs[k] ≤ 4) → riseTo zs zs.length = false) := rise_off hlt RT.out
      obtain ⟨x, hx⟩ : ∃ x, zs[k] = x := ⟨_, rfl⟩
      obtain ⟨y, hy⟩ : ∃ y, lastOf zs k = y := ⟨_, rfl⟩
      rw [hx] at x0 HL HON HOFF
      rw [hy] at HON HOFF ⊢
      clear hc hx hy
      by_cases hA : x ≤ y
      · have hr := hid (HOFF.out (by omega))
        go_wp2
        go_ret
        exact ⟨by rw [HR.out, hr.out]; rfl, Below.refl _ _⟩
      · by_cases hB : 4 < x
        · have hr := hid (HOFF.out (by omega))
          go_wp2
          go_ret
          exact ⟨by rw [HR.out, hr.out]; rfl, Below.refl _ _⟩
        · have hr := hid (HON.out (by omega) (by omega))
          go_wp2
          go_round
          case rel => exact ⟨k + 1, by omega, by go_num, by rw [HL.out], hr⟩
          case measure => simp [intOf]; omega
    · obtain rfl : k = zs.length := by omega
      go_wp2
      go_ret
      exact ⟨by rw [HR.out, RT.out]; rfl, Below.refl _ _⟩
end Go.Proofs.YtbifkpkhpaellaaGreatDoor

namespace Go.Proofs.YtbifkpkhpaellaaGreatDoor
open Go.RowKit

theorem readConfI_info3 : (Tryz.prog.info? 3).map (fun i => (i.zero, i.size, i.bytes)) = some (some (.int .i64 0), 1, 8) := by kernel_rfl

set_option maxRecDepth 1000000 in
set_option maxHeartbeats 1000000 in
theorem implReadConf_any (s : ByteArray) (w : World) : Calls Tryz.prog 144 #[.string s] w fun e w' => readConfAns s w e w' := by
  obtain ⟨i0, hi, hz0, hz1, hz2⟩ := info_parts readConfI_info3
  by_cases hbig : 4 < s.size
  · have hbig' : 4 < (s.size : Int) := by omega
    have hno := hid (confOk_big (zs := intsOf s.data.toList) (by rw [intsOf_length]; simp; omega))
    go_enter Tryz.func144, Tryz.ntmps144
    go_wp2
    go_ret2
    exact readConf_none hno.out (World.ownsRow_made w #[] 0 (Nat.le_refl _) (Nat.zero_le _) rfl) (below_more (Below.refl _ _) _)
  have hbig' : ¬ 4 < (s.size : Int) := by omega
  go_enter Tryz.func144, Tryz.ntmps144
  go_wp2_with (at_make; refine wpList_make_own _ rfl _ _ 133 rfl w.heap.size 3 i0 (.int .i64 0) 1 Tryz.underlying133 hi hz0 hz1 _ _ _ s.size rfl rfl ?b1 ?b2 ?b3 ?b4 ?_)
  case b1 => omega
  case b2 => omega
  case b3 => unfold maxLen; omega
  intro w0 hown0 hgrow0
  have hb0 : Below w.heap.size w w0 := (Below.refl _ _).grown hgrow0 (Nat.le_refl _) (fun k h => by cases h)
  clear hgrow0
  go_wp2
  go_loopw [4, 5] (fun v i wr => ∃ (k : Nat), k ≤ s.size ∧ i = .int .i64 k ∧ wr.ownsRow w.heap.size 3 1 v k (intCells (intsOf (s.data.toList.take k))) ∧ Below w.heap.size w wr) (fun _ i _ => s.size - (intOf i).toNat)
  case atStart => exact ⟨0, Nat.zero_le _, rfl, hown0, hb0⟩
  case round =>
    obtain ⟨k, hk, rfl, hown, hb⟩ := hrel
    have hsz := hb.size
    clear hown0 hb0
    by_cases hlt : k < s.size
    · have c0 : (s[k].toNat : Int) ≤ 255 := by have := s[k].toNat_lt; omega
      have HTK : Hid (intsOf (s.data.toList.take (k + 1)) = intsOf (s.data.toList.take k) ++ [(s[k].toNat : Int)]) := intsOf_take s.data.toList k (by simpa using hlt)
      obtain ⟨x, hx⟩ : ∃ x : Nat, s[k].toNat = x := ⟨_, rfl⟩
      have HXk := hid hx
      rw [hx] at HTK
      clear hx
      go_wp2_with (at_builtin; refine wpList_append_own _ rfl (.tmp 19) (.tmp 24) 133 rfl w.heap.size 3 i0 (.int .i64 0) 1 8 Tryz.underlying133 hi hz0 hz1 hz2 rfl (by decide) _ _ _ rfl (hown.alloc _) ⟨wr.heap.size, 0, none⟩ 1 1 [.int .i64 (s[k].toNat : Int)] rfl rfl (one_new _ _ _) (by intro u hu; simp at hu; subst hu; rfl) (by unfold maxLen; omega) (by omega) (by simp; omega) ?_)
      intro v' w3 hown' hgrow _
      have R1 : Hid (w3.ownsRow w.heap.size 3 1 v' (k + 1) (intCells (intsOf (s.data.toList.take (k + 1))))) := by
        rw [HXk.out] at hown'
        rw [HTK.out]
        show w3.ownsRow w.heap.size 3 1 v' (k + 1) _
        simpa [intCells] using hown'
      have R2 : Hid (Below w.heap.size w w3) := (hb.alloc hb.size _).grown hgrow (by have := hb.size; simp; omega) (fun k hk => (hown.lt k hk).1)
      clear hown' hgrow hown hb
      go_wp2
      go_roundw
      case rel => exact ⟨k + 1, by omega, by go_num, R1.out, R2.out⟩
      case measure => simp [intOf]; omega
    · obtain rfl : k = s.size := by omega
      rw [List.take_of_length_le (by simp)] at hown
      have hil : (intsOf s.data.toList).length = s.size := by rw [intsOf_length]; simp
      obtain ⟨_, va, vc, hv, _⟩ := row_lie hown
      subst hv
      have HO := hid hown
      have cO' := implConfOk_any va (intsOf s.data.toList) vc (by omega) wr (ints_row hil hown)
      rw [hil] at cO'
      have HBB := hid hb
      clear hown hb
      cases hA : confOk (intsOf s.data.toList) with
      | false =>
        rw [hA] at cO'
        have cO := hid cO'
        have HA := hid hA
        clear cO' hA
        go_wp2_with (go_at_call 152; refine Calls.mono cO.out ?_; rintro e w1 ⟨rfl, b1⟩)
        have hsz1 := Nat.le_trans hsz b1.size
        go_ret2
        exact readConf_none HA.out (World.ownsRow_made w1 #[] 0 hsz1 (Nat.zero_le _) rfl) ((HBB.out.trans (b1.mono hsz)).alloc hsz1 _)
      | true =>
        rw [hA] at cO'
        have cO := hid cO'
        have HA := hid hA
        clear cO' hA
        go_wp2_with (go_at_call 152; refine Calls.mono cO.out ?_; rintro e w1 ⟨rfl, b1⟩)
        go_ret2
        exact readConf_some HA.out (kept_conf HO.out b1) (HBB.out.trans (b1.mono hsz))
end Go.Proofs.YtbifkpkhpaellaaGreatDoor

namespace Go.Proofs.YtbifkpkhpaellaaGreatDoor
open Go.RowKit

theorem row_lower {w : World} {base base' size n : Nat} {t : TypeId} {v : Value} {xs : List Value} (h : w.ownsRow base t size v n xs) (hb : base' ≤ base) : w.ownsRow base' t size v n xs :=
  ⟨h.1, h.2.imp id fun ⟨g, cap, cur, a, b, r⟩ => ⟨g, cap, cur, a, Nat.le_trans hb b, r⟩⟩
/-- what an entry carries, behind the interface; a conf's numbers lie in memory -/
def bodyIs (d : EntD) (w : World) (v : Value) (w' : World) : Prop :=
  if d.kind = 2 then ∃ u, v = .iface 208 (.agg #[u]) ∧ w'.ownsRow w.heap.size 3 1 u (readConf d.data).1.length (intCells (readConf d.data).1)
  else if d.kind = 3 then v = .iface 210 (.agg #[.string d.data])
  else v = .iface 206 (.agg #[])
def kindOk (d : EntD) : Bool := if d.kind = 1 then decide (d.data.size = 0) else if d.kind = 2 then (readConf d.data).2 else if d.kind = 3 then decide (d.data.size ≤ 120) else false
theorem entryOk_kind (d : EntD) : entryOk d = (within d.term 0 100000 && kindOk d) := rfl

set_option maxRecDepth 1000000 in
set_option maxHeartbeats 1000000 in
theorem bodyOf_any (d : EntD) (w : World) :
    Calls Tryz.prog 136 #[.agg #[.int .i64 d.term, .int .i64 d.kind, .string d.data]] w fun e w' => ∃ v, e = .returned (.tuple #[v, .bool (kindOk d)]) ∧ bodyIs d w v w' ∧ Below w.heap.size w w' := by
  obtain ⟨tm, kd, dt⟩ := d
  dsimp only
  have HB := hid (below_more (Below.refl w.heap.size w) (.cells #[.int .i64 tm, .int .i64 kd, .string dt] 110))
  have hx : BlockIs (w.alloc (.cells #[.int .i64 tm, .int .i64 kd, .string dt] 110)) w.heap.size 110 [.int .i64 tm, .int .i64 kd, .string dt] := heap_alloc_new w _
  obtain ⟨W, hW⟩ : ∃ W, w.alloc (.cells #[.int .i64 tm, .int .i64 kd, .string dt] 110) = W := ⟨_, rfl⟩
  rw [hW] at HB hx
  have c0 := hx.cell (j := 0) rfl
  have c1 := hx.cell (j := 1) rfl
  have c2 := hx.cell (j := 2) rfl
  clear hx
  by_cases k1 : kd = 1
  · subst k1
    by_cases h0 : dt.size = 0
    · have hl : (dt.toList == []) = true := by
        rw [ByteArray.toList_eq, beq_iff_eq]
        exact List.eq_nil_of_length_eq_zero (by simpa using h0)
      go_enter Tryz.func136, Tryz.ntmps136
      go_wp2
      go_quiet (fail)
      go_wp2
      go_ret2
      exact ⟨.iface 206 (.agg #[]), by simp [kindOk, h0], by simp [bodyIs], below_drewN HB.out _⟩
    · have hl : (dt.toList == []) = false := by
        rw [ByteArray.toList_eq, beq_eq_false_iff_ne]
        intro e
        exact h0 (by simpa using congrArg List.length e)
      go_enter Tryz.func136, Tryz.ntmps136
      go_wp2
      go_quiet (fail)
      go_wp2
      go_ret2
      exact ⟨.iface 206 (.agg #[]), by simp [kindOk, h0], by simp [bodyIs], below_drewN HB.out _⟩
  · by_cases k2 : kd = 2
    · subst k2
      have cR := hid (implReadConf_any dt W)
      go_enter Tryz.func136, Tryz.ntmps136
      go_wp2_with fail
      refine Calls.mono cR.out ?_
      rintro e w2 ⟨v2, rfl, o2, b2⟩
      obtain ⟨_, va, vc, rfl, _⟩ := row_lie o2
      have HO2 := hid o2
      have HB2 := hid (below_via HB.out b2)
      clear o2 b2
      go_wp2
      go_ret2
      exact ⟨.iface 208 (.agg #[.slice va (readConf dt).1.length vc]), by simp [kindOk], by simp only [bodyIs, if_true]; exact ⟨_, rfl, row_lower HO2.out HB.out.size⟩, HB2.out⟩
    · by_cases k3 : kd = 3
      · subst k3
        go_enter Tryz.func136, Tryz.ntmps136
        go_wp2
        go_quiet (fail)
        go_wp2
        go_ret2
        refine ⟨.iface 210 (.agg #[.string dt]), ?_, by simp [bodyIs], below_drewN HB.out _⟩
        by_cases h120 : dt.size ≤ 120
        · have h2 : (dt.size : Int) ≤ 120 := by omega
          simp [kindOk, h120, h2]
        · have h2 : ¬ (dt.size : Int) ≤ 120 := by omega
          simp [kindOk, h120, h2]
      · go_enter Tryz.func136, Tryz.ntmps136
        go_wp2
        go_ret2
        exact ⟨.iface 206 (.agg #[]), by simp [kindOk, k1, k2, k3], by simp [bodyIs, k2, k3], HB.out⟩
end Go.Proofs.YtbifkpkhpaellaaGreatDoor

namespace Go.Proofs.YtbifkpkhpaellaaGreatDoor
open Go.RowKit

theorem varI_info5 : (Tryz.prog.info? 5).map (fun i => (i.zero, i.size, i.bytes)) = some (some (.int .u8 0), 1, 1) := by kernel_rfl

set_option maxHeartbeats 400000 in
set_option maxRecDepth 1000000 in
theorem implVarText_yes (n : Nat) (hn : n ≤ 1000000000) (w : World) :
    Calls Tryz.prog 124 #[.int .i64 n] w fun e w' => e = .returned (.tuple #[.string ⟨(vb n).toArray⟩, .bool true]) ∧ Below w.heap.size w w' := by
  obtain ⟨i0, hi, hz0, hz1, hz2⟩ := info_parts varI_info5
  go_enter Tryz.func124, Tryz.ntmps124
  go_wp2
  go_loopw [0, 4] (fun x v wr => ∃ (m : Nat) (acc : List UInt8), m ≤ n ∧ x = .int .i64 m ∧ acc ++ vb m = vb n ∧ wr.ownsRow w.heap.size 5 1 v acc.length (cs acc) ∧ Below w.heap.size w wr) (fun x _ _ => (intOf x).toNat)
  case atStart => exact ⟨n, [], Nat.le_refl _, rfl, rfl, World.ownsRow_nil _ _ _ _, Below.refl _ _⟩
  case round =>
    obtain ⟨m, acc, hm, rfl, hacc, hown, hb⟩ := hrel
    have hlen : acc.length + (vb m).length ≤ n + 1 := by rw [← List.length_append, hacc]; exact vb_le n
    have hp := vb_pos m
    have HA : Hid (acc ++ vb m = vb n) := hacc
    clear hacc
    have hsz := hb.size
    by_cases hlt : 127 < m
    · go_wp2_with (at_builtin; refine wpList_append_own _ rfl (.tmp 13) (.tmp 18) 100 rfl w.heap.size 5 i0 (.int .u8 0) 1 1 Tryz.underlying100 hi hz0 hz1 hz2 rfl (by decide) _ _ _ rfl (hown.alloc _) ⟨wr.heap.size, 0, none⟩ 1 1 [.int .u8 ((m : Int) % 128 + 128)] rfl rfl ?c1 ?c2 ?c3 ?c4 ?c5 ?_)
      case c1 => intro j u hj; match j, hj with | 0, hj => simp at hj; subst hj; simp [Addr.add]
      case c2 => intro u hu; simp at hu; subst hu; rfl
      case c3 => unfold maxLen; omega
      case c4 => omega
      case c5 => simp; omega
      intro v' w1 hown' hgrow _
      have R := var_step hlt HA.out hown hown' hgrow hb
      clear hown' hgrow hown hb
      go_wp2
      go_roundw
      case rel => exact ⟨m / 128, acc ++ [UInt8.ofNat (m % 128 + 128)], by omega, by go_num, R.1, R.2.1, R.2.2⟩
      case measure => simp [intOf]; omega
    · go_wp2_with (at_builtin; refine wpList_append_own _ rfl (.tmp 22) (.tmp 25) 100 rfl w.heap.size 5 i0 (.int .u8 0) 1 1 Tryz.underlying100 hi hz0 hz1 hz2 rfl (by decide) _ _ _ rfl (hown.alloc _) ⟨wr.heap.size, 0, none⟩ 1 1 [.int .u8 (m : Int)] rfl rfl ?d1 ?d2 ?d3 ?d4 ?d5 ?_)
      case d1 => intro j u hj; match j, hj with | 0, hj => simp at hj; subst hj; simp [Addr.add]
      case d2 => intro u hu; simp at hu; subst hu; rfl
      case d3 => unfold maxLen; omega
      case d4 => omega
      case d5 => simp; omega
      intro v' w1 hown' hgrow _
      have R := var_end (by omega) HA.out hown hown' hgrow hb
      have hcv := text_of_row (P := Tryz.prog) Tryz.underlying100 Tryz.underlying5 Tryz.underlying9 R.1
      clear hown' hgrow hown hb
      go_wp2
      go_ret2
      exact ⟨rfl, R.2⟩

theorem implVarText_no (n : Int) (hn : n < 0 ∨ 1000000000 < n) (w : World) :
    Calls Tryz.prog 124 #[.int .i64 n] w fun e w' => e = .returned (.tuple #[.string ByteArray.empty, .bool false]) ∧ Below w.heap.size w w' := by
  by_cases h0 : n < 0
  · go_enter Tryz.func124, Tryz.ntmps124
    go_wp2
    go_ret2
    exact ⟨rfl, Below.refl _ _⟩
  · have h1 : 1000000000 < n := by omega
    go_enter Tryz.func124, Tryz.ntmps124
    go_wp2
    go_ret2
    exact ⟨rfl, Below.refl _ _⟩
end Go.Proofs.YtbifkpkhpaellaaGreatDoor
