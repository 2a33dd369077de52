/-
  The walk of impl.ReadEntry: what it answers.
-/
import Derived.Test.YtohmfmajgehadaaGreatDoorJoint42
import Derived.Test.YtohmfmajgehadaaGreatDoorJoint32
import Derived.Test.YtohmfmajgehadaaGreatDoorJoint38
import Derived.Test.YtohmfmajgehadaaGreatDoorJoint39
import Derived.Deep.RegionHeld3
namespace Go.Proofs.YtohmfmajgehadaaGreatDoor
open Go.RowKit

theorem reAns_none {o : Option (Nat × EntD)} (h : o = none) : Ending.returned (.tuple #[.int .i64 0, .agg #[.int .i64 0, .int .i64 0, .string ByteArray.empty], .bool false]) = .returned (reAns o) := by subst h; rfl
theorem reAns_some {o : Option (Nat × EntD)} {i : Nat} {t k : Int} {s : ByteArray} (h : o = some (i, ⟨t, k, s⟩)) : Ending.returned (.tuple #[.int .i64 i, .agg #[.int .i64 t, .int .i64 k, .string s], .bool true]) = .returned (reAns o) := by subst h; rfl
theorem slice_tail {P : Program} {t : TypeId} (h : P.underlying t = some .string) (s : ByteArray) (a : Nat) (x : Int) (hx : x = a) (ha : a ≤ s.size) (w : World) :
    (Instr.slice t (.string s) (some (.int .i64 x)) none none).run P w = .ok (.string (s.extract a s.size)) w := by
  subst hx
  rw [run_slice_string_l w t s h .i64 a (by omega) (by omega)]
  simp

theorem extract_size_le (s : ByteArray) (a b : Nat) : (s.extract a b).size ≤ s.size := by
  have h1 : (s.extract a b).data.toList.length ≤ s.data.toList.length := by
    rw [extract_eq, List.length_take, List.length_drop]
    omega
  have h2 : (s.extract a b).data.toList.length = (s.extract a b).size := Array.length_toList
  have h3 : s.data.toList.length = s.size := Array.length_toList
  omega
theorem put3 {W : World} {g : Nat} {t : TypeId} {a b c : Value} (h : BlockIs W g t [a, b, c]) (x y z : Value) : BlockIs (((W.setCell ⟨g, 0, none⟩ x).setCell ⟨g, 1, none⟩ y).setCell ⟨g, 2, none⟩ z) g t [x, y, z] := ((h.set 0 x).set 1 y).set 2 z
theorem below3 {w W : World} {base g : Nat} (h : Below base w W) (hg : base ≤ g) (x y z : Value) : Below base w (((W.setCell ⟨g, 0, none⟩ x).setCell ⟨g, 1, none⟩ y).setCell ⟨g, 2, none⟩ z) := ((h.setCell hg x).setCell hg y).setCell hg z

set_option maxRecDepth 1000000 in
set_option maxHeartbeats 2000000 in
theorem implReadEntry_any (s : ByteArray) (hs : s.size ≤ 1048576) (w : World) :
    Calls Tryz.prog 130 #[.string s] w fun e w' => e = .returned (reAns (readEntry s)) ∧ Below w.heap.size w w' := by
  have HB := hid (below_more (Below.refl w.heap.size w) (.cells #[.int .i64 0, .int .i64 0, .string ⟨#[]⟩] 57))
  have cP' := fun w => prefix_any s w
  cases hP : headE s with
  | false =>
    have hr : Hid (readEntry s = none) := by
      rcases Nat.eq_zero_or_pos s.size with q | q
      · exact readE_empty q
      · rw [headE_at q] at hP
        exact readE_head q (by simpa using hP)
    rw [hP] at cP'
    have cP := hid cP'
    clear cP' hP
    go_enter Tryz.func130, Tryz.ntmps130
    go_wp2_with (go_at_call 154; refine (cP.out _).mono ?_; rintro e w1 ⟨rfl, hw⟩; rw [hw]; clear hw w1)
    refine bodyPost_ret (v := .tuple #[.int .i64 0, .agg #[.int .i64 0, .int .i64 0, .string ⟨#[]⟩], .bool false]) (by simp [results, Tryz.results130, go_sem]) rfl ⟨reAns_none hr.out, HB.out⟩
  | true =>
    have hpos : 0 < s.size := by
      rcases Nat.eq_zero_or_pos s.size with q | q
      · rw [headE_empty q] at hP; cases hP
      · exact q
    have h69 : Hid (s[0] = 69) := by
      rw [headE_at hpos] at hP
      exact (by simpa using hP : s[0] = 69)
    rw [hP] at cP'
    have cP := hid cP'
    have cR' := fun w => implReadVar_in s 1 (by omega) (by omega) w
    rw [show ((1 : Nat) : Int) = 1 from rfl] at cR'
    clear cP' hP
    cases h1 : rv (s.data.toList.drop 1) with
    | none =>
      have hr := hid (readE_one h1)
      rw [h1] at cR'
      simp only [rvAns] at cR'
      have cR := hid cR'
      clear cR' h1
      go_enter Tryz.func130, Tryz.ntmps130
      go_wp2_with (first | (go_at_call 154; refine (cP.out _).mono ?_; rintro e w1 ⟨rfl, hw⟩; rw [hw]; clear hw w1) | (go_at_call 129; refine (cR.out _).mono ?_; rintro e w1 ⟨rfl, hw⟩; rw [hw]; clear hw w1))
      refine bodyPost_ret (v := .tuple #[.int .i64 0, .agg #[.int .i64 0, .int .i64 0, .string ⟨#[]⟩], .bool false]) (by simp [results, Tryz.results130, go_sem]) rfl ⟨reAns_none hr.out, HB.out⟩
    | some p =>
      obtain ⟨i, m⟩ := p
      have hb1 := rv_bd h1
      have hl1 : m ≤ s.size - 1 := by
        have := hb1.2.2
        simpa using this
      rw [h1] at cR'
      simp only [rvAns] at cR'
      obtain ⟨a2, ha2⟩ : ∃ a2, 1 + m = a2 := ⟨_, rfl⟩
      rw [ha2] at cR'
      have cR := hid cR'
      have cX' := fun w => indexOk_any i w
      clear cR'
      cases hI : within i 1 1000000 with
      | false =>
        have hr := hid (readE_index h1 hI)
        rw [hI] at cX'
        have cX := hid cX'
        clear cX' hI h1 ha2
        go_enter Tryz.func130, Tryz.ntmps130
        go_wp2_with (first | (go_at_call 154; refine (cP.out _).mono ?_; rintro e w1 ⟨rfl, hw⟩; rw [hw]; clear hw w1) | (go_at_call 129; refine (cR.out _).mono ?_; rintro e w1 ⟨rfl, hw⟩; rw [hw]; clear hw w1) | (go_at_call 150; refine (cX.out _).mono ?_; rintro e w1 ⟨rfl, hw⟩; rw [hw]; clear hw w1))
        refine bodyPost_ret (v := .tuple #[.int .i64 0, .agg #[.int .i64 0, .int .i64 0, .string ⟨#[]⟩], .bool false]) (by simp [results, Tryz.results130, go_sem]) rfl ⟨reAns_none hr.out, HB.out⟩
      | true =>
        rw [hI] at cX'
        have cX := hid cX'
        have cT' := fun w => implReadVar_in s a2 (by omega) (by omega) w
        clear cX'
        cases h2 : rv (s.data.toList.drop a2) with
        | none =>
          have hr := hid (readE_two h1 (by rw [ha2]; exact h2))
          rw [h2] at cT'
          simp only [rvAns] at cT'
          have cT := hid cT'
          clear cT' hI h1 h2
          go_enter Tryz.func130, Tryz.ntmps130
          go_wp2_with fail
          refine (cP.out _).mono ?_
          rintro e w1 ⟨rfl, hw⟩
          rw [hw]
          clear hw w1
          go_wp2_with fail
          refine (cR.out _).mono ?_
          rintro e w1 ⟨rfl, hw⟩
          rw [hw]
          clear hw w1
          go_wp2_with fail
          refine (cX.out _).mono ?_
          rintro e w1 ⟨rfl, hw⟩
          rw [hw]
          clear hw w1
          go_wp2_with fail
          refine (cT.out _).mono ?_
          rintro e w1 ⟨rfl, hw⟩
          rw [hw]
          clear hw w1
          go_wp2
          refine bodyPost_ret (v := .tuple #[.int .i64 0, .agg #[.int .i64 0, .int .i64 0, .string ⟨#[]⟩], .bool false]) (by simp [results, Tryz.results130, go_sem]) rfl ⟨reAns_none hr.out, HB.out⟩
        | some p =>
          obtain ⟨t, c⟩ := p
          have hb2 := rv_bd h2
          have hl2 : c ≤ s.size - a2 := by
            have := hb2.2.2
            simpa using this
          have h2' : rv (s.data.toList.drop (1 + m)) = some (t, c) := by rw [ha2]; exact h2
          rw [h2] at cT'
          simp only [rvAns] at cT'
          obtain ⟨a3, ha3⟩ : ∃ a3, a2 + c = a3 := ⟨_, rfl⟩
          rw [ha3] at cT'
          have cT := hid cT'
          clear cT' h2
          by_cases hend : a3 = s.size
          · have hr := hid (readE_end h1 h2' (by omega))
            subst hend
            clear hI h1 h2'
            go_enter Tryz.func130, Tryz.ntmps130
            go_wp2_with fail
            refine (cP.out _).mono ?_
            rintro e w1 ⟨rfl, hw⟩
            rw [hw]
            clear hw w1
            go_wp2_with fail
            refine (cR.out _).mono ?_
            rintro e w1 ⟨rfl, hw⟩
            rw [hw]
            clear hw w1
            go_wp2_with fail
            refine (cX.out _).mono ?_
            rintro e w1 ⟨rfl, hw⟩
            rw [hw]
            clear hw w1
            go_wp2_with fail
            refine (cT.out _).mono ?_
            rintro e w1 ⟨rfl, hw⟩
            rw [hw]
            clear hw w1
            go_wp2
            refine bodyPost_ret (v := .tuple #[.int .i64 0, .agg #[.int .i64 0, .int .i64 0, .string ⟨#[]⟩], .bool false]) (by simp [results, Tryz.results130, go_sem]) rfl ⟨reAns_none hr.out, HB.out⟩
          · have hlt : 1 + m + c < s.size := by omega
            have hlt3 : a3 < s.size := by omega
            have hgo := readE_at hpos h69.out h1 h2' (show 1 + m + c = a3 by omega) hlt3
            rw [hI, Bool.and_true] at hgo
            have hne3 : ((a3 : Int) == (s.size : Int)) = false := by rw [beq_eq_false_iff_ne]; omega
            have hsl := slice_tail (P := Tryz.prog) Tryz.underlying9 s (a3 + 1) ((a3 : Int) + 1) (by omega) (by omega)
            have k255 : (s[a3].toNat : Int) ≤ 255 := by have := s[a3].toNat_lt; omega
            have hdl : (s.extract (a3 + 1) s.size).size ≤ 1048576 := Nat.le_trans (extract_size_le s _ _) hs
            obtain ⟨D, hD⟩ : ∃ D, s.extract (a3 + 1) s.size = D := ⟨_, rfl⟩
            rw [hD] at hgo hsl hdl
            have hwr : IntKind.i64.wrap ((a3 : Int) + 1) = (a3 : Int) + 1 := by rw [IntKind.wrap_i64]; omega
            have k0 : (0 : Int) ≤ (a3 : Int) := by omega
            have k1 : (a3 : Int) < (s.size : Int) := by omega
            obtain ⟨ok, hok⟩ : ∃ ok, entryOk ⟨t, s[a3].toNat, D⟩ = ok := ⟨_, rfl⟩
            have cE' := fun w => implEntryOk_all ⟨t, s[a3].toNat, D⟩ w
            rw [hok] at hgo cE'
            have HGO := hid hgo
            have cE := hid cE'
            have e9 : ∃ W9, ((w.alloc (.cells #[.int .i64 0, .int .i64 0, .string ⟨#[]⟩] 57)).alloc (.cells #[.int .i64 (t : Int), .int .i64 (s[a3].toNat : Int), .string D] 57)).drew = W9 ∧ BlockIs W9 w.heap.size 57 [.int .i64 0, .int .i64 0, .string ⟨#[]⟩] ∧ BlockIs W9 (w.heap.size + 1) 57 [.int .i64 (t : Int), .int .i64 (s[a3].toNat : Int), .string D] ∧ Below w.heap.size w W9 := by
              refine ⟨_, rfl, ?_, ?_, below_drewN (below_more HB.out _) 1⟩
              · have h1 : BlockIs (w.alloc (.cells #[.int .i64 0, .int .i64 0, .string ⟨#[]⟩] 57)) w.heap.size 57 [.int .i64 0, .int .i64 0, .string ⟨#[]⟩] := heap_alloc_new w _
                exact h1.on (below_drewN (below_more (Below.refl _ _) _) 1) h1.lt
              · have h1 : BlockIs ((w.alloc (.cells #[.int .i64 0, .int .i64 0, .string ⟨#[]⟩] 57)).alloc (.cells #[.int .i64 (t : Int), .int .i64 (s[a3].toNat : Int), .string D] 57)) (w.alloc (.cells #[.int .i64 0, .int .i64 0, .string ⟨#[]⟩] 57)).heap.size 57 [.int .i64 (t : Int), .int .i64 (s[a3].toNat : Int), .string D] := heap_alloc_new _ _
                have h2 : (w.alloc (.cells #[.int .i64 0, .int .i64 0, .string ⟨#[]⟩] 57)).heap.size = w.heap.size + 1 := Array.size_push _
                rw [h2] at h1
                exact h1
            obtain ⟨W9, hW9, r9, e9, b9⟩ := e9
            have R9 := hid r9
            have E9 := hid e9
            have B9 := hid b9
            have HW9 := hid hW9
            clear hok cE' r9 e9 b9 hW9
            clear hgo h1 h2' hI hD
            go_enter Tryz.func130, Tryz.ntmps130
            go_wp2_with fail
            refine (cP.out _).mono ?_
            rintro e w1 ⟨rfl, hw⟩
            rw [hw]
            clear hw w1
            go_wp2_with fail
            refine (cR.out _).mono ?_
            rintro e w1 ⟨rfl, hw⟩
            rw [hw]
            clear hw w1
            go_wp2_with fail
            refine (cX.out _).mono ?_
            rintro e w1 ⟨rfl, hw⟩
            rw [hw]
            clear hw w1
            go_wp2_with fail
            refine (cT.out _).mono ?_
            rintro e w1 ⟨rfl, hw⟩
            rw [hw]
            clear hw w1
            go_wp2
            go_region_held3 (fun _ => True) (trivial) (fail)
            all_goals
              go_wp2_with fail
              rw [HW9.out]
              refine Calls.mono (cE.out W9) ?_
              rintro e w10 ⟨rfl, b⟩
              have R10 := hid (R9.out.on b R9.out.lt)
              have E10 := hid (E9.out.on b E9.out.lt)
              have B10 := hid (below_via B9.out b)
              have r0 := R10.out.cell (j := 0) rfl
              have r1 := R10.out.cell (j := 1) rfl
              have r2 := R10.out.cell (j := 2) rfl
              have e2 := E10.out.cell (j := 2) rfl
              have g0 := R10.out.thaw 0
              have g1 := R10.out.thaw 1
              have g2 := R10.out.thaw 2
              clear b R9 E9 B9 HW9 cE
              cases ok with
              | false =>
                have hr : Hid (readEntry s = none) := by show _ = _; rw [HGO.out, if_neg (by simp)]
                have P := put3 R10.out (.int .i64 0) (.int .i64 0) (.string ⟨#[]⟩)
                have z0 := P.cell (j := 0) rfl
                have z1 := P.cell (j := 1) rfl
                have z2 := P.cell (j := 2) rfl
                have B11 := hid (below3 B10.out (Nat.le_refl _) (.int .i64 0) (.int .i64 0) (.string ⟨#[]⟩))
                obtain ⟨W11, hW11⟩ : ∃ W, ((w10.setCell ⟨w.heap.size, 0, none⟩ (.int .i64 0)).setCell ⟨w.heap.size, 1, none⟩ (.int .i64 0)).setCell ⟨w.heap.size, 2, none⟩ (.string ⟨#[]⟩) = W := ⟨_, rfl⟩
                rw [hW11] at z0 z1 z2 B11
                clear P
                go_wp2
                refine bodyPost_ret (v := .tuple #[.int .i64 0, .agg #[.int .i64 0, .int .i64 0, .string ⟨#[]⟩], .bool false]) (by simp [results, Tryz.results130, go_sem, z0, z1, z2]) rfl ⟨reAns_none hr.out, B11.out⟩
              | true =>
                have hr : Hid (readEntry s = some (i, ⟨t, s[a3].toNat, D⟩)) := by show _ = _; rw [HGO.out, if_pos rfl]
                go_wp2_with fail
                refine Calls.mono (clone_any D (by omega) w10) ?_
                rintro e w11 ⟨rfl, b⟩
                have R11 := hid (R10.out.on b R10.out.lt)
                have E11 := hid (E10.out.on b E10.out.lt)
                have B11 := hid (below_via B10.out b)
                have y2 := E11.out.cell (j := 2) rfl
                have h2 := E11.out.thaw 2
                have hE12 := E11.out.set 2 (.string D)
                have hR12 := R11.out.far (b := w.heap.size + 1) (j := 2) (by omega) (.string D)
                have hB12 := B11.out.setCell (p := ⟨w.heap.size + 1, 2, none⟩) (by simp) (.string D)
                obtain ⟨W12, hW12⟩ : ∃ W, w11.setCell ⟨w.heap.size + 1, 2, none⟩ (.string D) = W := ⟨_, rfl⟩
                rw [hW12] at hE12 hR12 hB12
                have x0 := hE12.cell (j := 0) rfl
                have x1 := hE12.cell (j := 1) rfl
                have x2 := hE12.cell (j := 2) rfl
                have u0 := hR12.cell (j := 0) rfl
                have u1 := hR12.cell (j := 1) rfl
                have u2 := hR12.cell (j := 2) rfl
                have v0 := hR12.thaw 0
                have v1 := hR12.thaw 1
                have v2 := hR12.thaw 2
                have R12 := hid hR12
                have B12 := hid hB12
                clear b R10 E10 B10 r0 r1 r2 g0 g1 g2 e2 hE12 hR12 hB12 R11 E11 B11
                go_wp2
                have P : BlockIs (((W12.setCell ⟨w.heap.size, 0, none⟩ (.int .i64 (t : Int))).setCell ⟨w.heap.size, 1, none⟩ (.int .i64 (s[a3].toNat : Int))).setCell ⟨w.heap.size, 2, none⟩ (.string D)).drew w.heap.size 57 [.int .i64 (t : Int), .int .i64 (s[a3].toNat : Int), .string D] := put3 R12.out _ _ _
                have hB13 := below_drewN (below3 B12.out (Nat.le_refl _) (.int .i64 (t : Int)) (.int .i64 (s[a3].toNat : Int)) (.string D)) 1
                have e13 : ∃ W, (((W12.setCell ⟨w.heap.size, 0, none⟩ (.int .i64 (t : Int))).setCell ⟨w.heap.size, 1, none⟩ (.int .i64 (s[a3].toNat : Int))).setCell ⟨w.heap.size, 2, none⟩ (.string D)).drew = W ∧ BlockIs W w.heap.size 57 [.int .i64 (t : Int), .int .i64 (s[a3].toNat : Int), .string D] ∧ Below w.heap.size w W := ⟨_, rfl, P, hB13⟩
                obtain ⟨W13, hW13, P13, B13⟩ := e13
                have HW13 := hid hW13
                have HP13 := hid P13
                have HB13 := hid B13
                clear P hB13 hW13 P13 B13
                go_region
                all_goals
                  go_wp2
                  rw [HW13.out]
                  have z0 := HP13.out.cell (j := 0) rfl
                  have z1 := HP13.out.cell (j := 1) rfl
                  have z2 := HP13.out.cell (j := 2) rfl
                  refine bodyPost_ret (v := .tuple #[.int .i64 (i : Int), .agg #[.int .i64 (t : Int), .int .i64 (s[a3].toNat : Int), .string D], .bool true]) (by simp [results, Tryz.results130, go_sem, z0, z1, z2]) rfl ⟨reAns_some hr.out, HB13.out⟩
end Go.Proofs.YtohmfmajgehadaaGreatDoor
