/-
  The walk of spec.l13Open: what an open stream sends.
-/
import Derived.Test.YtcmcmhiodkjflaaJoint18
import Derived.Test.YtcmcmhiodkjflaaJoint19
import Derived.Test.YtcmcmhiodkjflaaJoint21
import Derived.Test.YtcmcmhiodkjflaaJoint1
import Derived.Deep.QuietTactic
import Derived.BigQuiet
import Derived.Lib.QuietBelow
import Derived.Deep.DeepCutAuto
import Derived.Deep.LoopGhost
namespace Go.Proofs.Ytcmcmhiodkjflaa
open Go.RowKit Go.Sort

set_option maxRecDepth 1000000 in
set_option maxHeartbeats 8000000 in
theorem l13Open_any (lo g : Nat) (d : StrD) (now : Int) (hR : StrR d) (hnow : 0 ≤ now ∧ now ≤ 1000000000) (w : World) (h : StIs w lo g d) :
    Calls Try.prog 23 #[.pointer (some ⟨g, 0, none⟩), .int .i64 now] w fun e w' => ∃ u q, e = .returned (.slice u (openSegs now d).length q) ∧ StTo lo g w w' (openD now d) ∧ w'.ownsRow lo 42 4 (.slice u (openSegs now d).length q) (openSegs now d).length (segCells (openSegs now d)) := by
  have HR := hid hR
  have hs := hR.sent
  have ht := hR.times
  have hw200 := hR.wait
  have LO := hid h.lo
  have hr0 := segR_nil w lo h.lo
  have hb0 := below_more (Below.refl w.heap.size w) (.cells #[] 42)
  obtain ⟨W0, hW0⟩ : ∃ W0, w.alloc (.cells #[] 42) = W0 := ⟨_, rfl⟩
  rw [hW0] at hr0 hb0
  have HS0 := hid (h.to.on hb0)
  have HR0 := hid hr0
  clear hr0 hb0 hR h
  obtain ⟨_, ao0, cap0, hbx0, _⟩ := HS0.out.1
  have c5 := hbx0.cell (j := 5) rfl
  have c6 := hbx0.cell (j := 6) rfl
  have c11 := hbx0.cell (j := 11) rfl
  have c12 := hbx0.cell (j := 12) rfl
  have f5 := hbx0.thaw 5
  have f6 := hbx0.thaw 6
  clear hbx0
  obtain ⟨D1, hD1⟩ : ∃ D1, (if againB now d = true then backD d else d) = D1 := ⟨_, rfl⟩
  have HQ : Hid (sentD now d = finD (waitD D1) ∧ sentSegs now d = waitSegs D1 ++ finSegs (waitD D1)) := by rw [← hD1]; exact ⟨rfl, rfl⟩
  have HP : Hid ((0 ≤ D1.sent ∧ D1.sent ≤ (roomD D1 : Int)) ∧ D1.wait.size ≤ 200 ∧ D1.times = d.times ∧ D1.owe = d.owe) := by rw [← hD1]; exact again_ok HR.out
  have HDF : Hid (againB now d = false → D1 = d) := fun q => by rw [← hD1, q]; rfl
  have HDT : Hid (againB now d = true → D1 = backD d) := fun q => by rw [← hD1, q]; rfl
  clear hD1
  have hflt : flightD d = (if d.fin = 2 then d.sent + 1 else d.sent) := rfl
  go_enter Try.func23, Try.ntmps23
  go_upto_region 2 with fail
  go_cut [35] (fun c wx => c = .bool (againB now d) ∧ wx = W0)
  case first =>
    by_cases a1 : d.due ≤ now
    rotate_left
    · have HV : Hid (againB now d = false) := by show _ = _; rw [againB, decide_eq_false a1]; rfl
      go_wp2_with fail
      go_meet
      exact ⟨by rw [HV.out], rfl⟩
    by_cases a2 : 0 < d.sent
    · have HV : Hid (againB now d = decide (d.times < 12)) := by show _ = _; rw [againB, decide_eq_true a1, decide_eq_true (show 0 < flightD d by rw [hflt]; split <;> omega)]; rfl
      go_wp2_with fail
      go_meet
      exact ⟨by rw [HV.out], rfl⟩
    by_cases a3 : d.fin = 2
    · have a3b : (d.fin == 2) = true := by rw [beq_iff_eq]; exact a3
      have HV : Hid (againB now d = decide (d.times < 12)) := by show _ = _; rw [againB, decide_eq_true a1, decide_eq_true (show 0 < flightD d by rw [hflt, if_pos a3]; omega)]; rfl
      clear a3 hflt
      go_wp2_with fail
      go_meet
      exact ⟨by rw [HV.out], rfl⟩
    have a3b : (d.fin == 2) = false := by rw [beq_eq_false_iff_ne]; exact a3
    have HV : Hid (againB now d = false) := by show _ = _; rw [againB, decide_eq_false (show ¬ 0 < flightD d by rw [hflt, if_neg a3]; omega)]; simp
    clear hflt
    go_wp2_with fail
    go_meet
    exact ⟨by rw [HV.out], rfl⟩
  case rest =>
    obtain ⟨rfl, hwx⟩ := hcut
    rw [hwx]
    clear hwx wc c11 c12 hflt
    go_upto_if 35 with fail
    go_cut [35] (fun _ wx => Hid (StTo lo g w wx D1 ∧ wx.ownsRow lo 42 4 (.slice (some ⟨w.heap.size, 0, none⟩) 0 0) 0 (segCells [])))
    case first =>
      cases hA : againB now d with
      | false =>
        have HF := hid (HDF.out hA)
        clear hA
        go_wp2_with fail
        go_meet
        exact (by rw [HF.out]; exact ⟨HS0.out, HR0.out⟩)
      | true =>
        have HF := hid (HDT.out hA)
        clear hA
        by_cases a3 : d.fin = 2
        · have a3b : (d.fin == 2) = true := by rw [beq_iff_eq]; exact a3
          have HB : Hid (D1 = { d with sent := 0, fin := 1 }) := by show _ = _; rw [HF.out, backD, if_pos a3]
          clear a3
          go_wp2_with fail
          go_meet
          exact (by rw [HB.out]; exact ⟨(HS0.out.sent 0).fin 1, segs_beside (HS0.out.sent 0).1 (segs_beside HS0.out.1 HR0.out)⟩)
        · have a3b : (d.fin == 2) = false := by rw [beq_eq_false_iff_ne]; exact a3
          have HB : Hid (D1 = { d with sent := 0 }) := by show _ = _; rw [HF.out, backD, if_neg a3]
          go_wp2_with fail
          go_meet
          exact (by rw [HB.out]; exact ⟨HS0.out.sent 0, segs_beside HS0.out.1 HR0.out⟩)
    case rest =>
      have HS1 := hid hcut.out.1
      have HR1 := hid hcut.out.2
      clear hcut c5 c6 f5 f6 HS0 HR0 HDF HDT hs
      obtain ⟨⟨s1, s2⟩, hw2, hti, how⟩ := HP.out
      have HTI := hid hti
      have HOW := hid how
      clear hti how
      have hr : roomD D1 = min D1.wait.size 24 := rfl
      obtain ⟨R, hRR⟩ : ∃ R, roomD D1 = R := ⟨_, rfl⟩
      rw [hRR] at hr s2
      obtain ⟨S, hS⟩ : ∃ S : Nat, D1.sent = (S : Int) := ⟨D1.sent.toNat, by omega⟩
      have hSR : S ≤ R := by omega
      have HW : Hid (waitD D1 = { D1 with sent := (R : Int) } ∧ waitSegs D1 = segsW D1.una D1.rcv D1.wait R 25 S) := by show _ ∧ _; rw [waitD, waitSegs, hRR, hS]; exact ⟨rfl, rfl⟩
      have HD : Hid (D1 = { D1 with sent := (S : Int) }) := by show _ = _; rw [← hS]
      have HR24 := hid hr
      have hR24 : R ≤ 24 ∧ R ≤ D1.wait.size := by omega
      obtain ⟨r24, rw9⟩ := hR24
      have HS2 : Hid (StTo lo g w wc { D1 with sent := (S : Int) }) := by rw [← HD.out]; exact HS1.out
      clear s1 s2 hS hr hRR HS1 HD
      go_wp2_with fail
      go_loopg [5, 6] R (fun q x5 _ wr => ∃ (s : Nat) (o2 : List SegD) (sa : Option Addr) (sq : Nat), x5 = .slice sa o2.length sq ∧ s ≤ R ∧ R ≤ s + q ∧ Hid (o2.length + q ≤ R + 1) ∧ Hid (∃ f, R ≤ s + f ∧ o2 ++ segsW D1.una D1.rcv D1.wait R f s = segsW D1.una D1.rcv D1.wait R 25 S) ∧ Hid (StTo lo g w wr { D1 with sent := (s : Int) }) ∧ Hid (wr.ownsRow lo 42 4 (.slice sa o2.length sq) o2.length (segCells o2)))
      case atStart => exact ⟨S, [], _, _, rfl, hSR, by omega, (show _ ≤ _ by simp), ⟨25, by omega, rfl⟩, HS2, HR1⟩
      case round =>
        obtain ⟨s, o2, sa, sq, rfl, hsR, hsq, HN, HF, HE, HO⟩ := hrel
        clear HS2 HR1
        obtain ⟨_, ao1, cap1, hb1, _⟩ := HE.out.1
        have c4 := hb1.cell (j := 4) rfl
        have c5 := hb1.cell (j := 5) rfl
        clear hb1
        dsimp only at c4 c5
        by_cases hlt : s < R
        rotate_left
        · obtain rfl : s = R := by omega
          have HL : Hid (o2 = waitSegs D1) := by
            obtain ⟨f, _, hf⟩ := HF.out
            rw [segsW_done _ _ _ _ _ _ (Nat.le_refl _), List.append_nil] at hf
            show _ = _
            rw [HW.out.2]; exact hf
          have hl25 := waitSegs_length D1
          rw [← HL.out] at hl25
          have HWD : Hid (waitD D1 = { D1 with sent := (s : Int) }) := HW.out.1
          obtain ⟨D2, hD2⟩ : ∃ D2, waitD D1 = D2 := ⟨_, rfl⟩
          have HE2 : Hid (StTo lo g w wr D2) := by rw [← hD2, HWD.out]; exact HE.out
          have HQ2 : Hid (sentD now d = finD D2 ∧ sentSegs now d = o2 ++ finSegs D2) := by rw [← hD2, HL.out]; exact HQ.out
          have h2w : D2.wait = D1.wait ∧ D2.times = D1.times ∧ D2.owe = D1.owe ∧ D2.sent = (s : Int) := by rw [← hD2, HWD.out]; exact ⟨rfl, rfl, rfl, rfl⟩
          obtain ⟨g1, g2, g3, g4⟩ := h2w
          have G2 := hid (g2.trans HTI.out)
          have G3 := hid (g3.trans HOW.out)
          have hw3 : D2.wait.size ≤ 200 := by rw [g1]; exact hw2
          have hs3 : 0 ≤ D2.sent ∧ D2.sent ≤ 24 := by omega
          clear hD2 HWD HW HL HF HE g1 g2 g3 g4
          have hqt : ((decide ((s : Int) < (D1.wait.size : Int))) && decide ((s : Int) < 24)) = false := by rw [Bool.and_eq_false_iff, decide_eq_false_iff_not, decide_eq_false_iff_not]; have := HR24.out; omega
          go_upto_region 6 with fail
          go_cut [63] (fun c wx => c = .bool false ∧ Hid (Below wr.heap.size wr wx))
          case first =>
            by_cases q1 : (s : Int) < (D1.wait.size : Int)
            · have q1d : decide ((s : Int) < (D1.wait.size : Int)) = true := decide_eq_true q1
              have q2d : decide ((s : Int) < 24) = false := decide_eq_false (by have := HR24.out; omega)
              go_quiet (fail)
              go_wp2_with fail
              go_meet
              exact ⟨rfl, below_drewN (Below.refl _ _) _⟩
            · have q1d : decide ((s : Int) < (D1.wait.size : Int)) = false := decide_eq_false q1
              go_quiet (fail)
              go_wp2_with fail
              go_meet
              exact ⟨rfl, below_drewN (Below.refl _ _) _⟩
          case rest =>
            obtain ⟨rfl, HC⟩ := hcut
            have HE3 := hid (HE2.out.on HC.out)
            have HO3 := hid (segR_below HO.out HC.out)
            clear HC HE2 HO c4 c5 hqt
            obtain ⟨_, ao3, cap3, hb3, _⟩ := HE3.out.1
            have c4 := hb3.cell (j := 4) rfl
            have c5 := hb3.cell (j := 5) rfl
            have c6 := hb3.cell (j := 6) rfl
            clear hb3
            skip
            go_upto_region 10 with fail
            go_cut [133] (fun c wx => c = .bool (finB D2) ∧ Hid (Below wc.heap.size wc wx))
            case first =>
              by_cases q1 : D2.fin = 1
              · have q1b : (D2.fin == 1) = true := by rw [beq_iff_eq]; exact q1
                by_cases q2 : D2.sent = D2.wait.size
                · have q2b : (D2.sent == (D2.wait.size : Int)) = true := by rw [beq_iff_eq]; exact q2
                  have HV : Hid (finB D2 = true) := by show _ = _; simp [finB, q1, q2]
                  clear q1 q2
                  go_quiet (fail)
                  go_wp2_with fail
                  go_meet
                  exact ⟨by rw [HV.out], below_drewN (Below.refl _ _) _⟩
                · have q2b : (D2.sent == (D2.wait.size : Int)) = false := by rw [beq_eq_false_iff_ne]; exact q2
                  have HV : Hid (finB D2 = false) := by show _ = _; simp [finB, q2]
                  clear q1
                  go_quiet (fail)
                  go_wp2_with fail
                  go_meet
                  exact ⟨by rw [HV.out], below_drewN (Below.refl _ _) _⟩
              · have q1b : (D2.fin == 1) = false := by rw [beq_eq_false_iff_ne]; exact q1
                have HV : Hid (finB D2 = false) := by show _ = _; simp [finB, q1]
                go_quiet (fail)
                go_wp2_with fail
                go_meet
                exact ⟨by rw [HV.out], below_drewN (Below.refl _ _) _⟩
            case rest =>
              obtain ⟨rfl, HC⟩ := hcut
              have HE4 := hid (HE3.out.on HC.out)
              have HO4 := hid (segR_below HO3.out HC.out)
              clear HC HE3 HO3 c4 c5 c6
              cases hF : finB D2 with
              | true =>
                have HSD : Hid (sentD now d = { D2 with fin := 2 } ∧ sentSegs now d = o2 ++ [⟨addNum D2.una D2.sent, D2.rcv, 6, ⟨#[]⟩⟩]) := by
                  have h9 := HQ2.out
                  rw [finD, finSegs, hF] at h9
                  exact h9
                have hOD2 : Hid (openD now d = { pauseD now { D2 with fin := 2 } with owe := false }) := by show _ = _; rw [openD, HSD.out.1, HSD.out.2, if_neg (by simp)]
                have hOS2 : Hid (openSegs now d = o2 ++ [⟨addNum D2.una D2.sent, D2.rcv, 6, ⟨#[]⟩⟩]) := by show _ = _; rw [openSegs, HSD.out.1, HSD.out.2, if_neg (by simp)]
                have HT1 : Hid (({ D2 with fin := 2 } : StrD).times = d.times) := G2
                clear hF HSD HQ2
                obtain ⟨⟨hlg, ao, cap, hbx, hlt9⟩, hbt⟩ := HE4.out
                have XB := hid hbx
                have HLT := hid hlt9
                have LG := hid hlg
                have BT := hid hbt
                clear hlg hbx hlt9 hbt
                have HO := HO4
                have HN := hid hl25
                clear HE4 HO4
                go_wp2
                refine wp_region_late_b (N := 194) (by kernel_rfl) (by kernel_rfl) rfl (by kernel_rfl) [(0, .pointer (some ⟨g, 0, none⟩)), (5, .slice sa o2.length sq)] (by intro p hp; simp only [List.mem_cons, List.not_mem_nil, or_false] at hp; rcases hp with rfl | rfl <;> rfl) (fun W => Below lo w W ∧ BlockIs W g 28 [.int .i64 D2.st, .int .i64 D2.iss, .int .i64 D2.una, .int .i64 D2.rcv, .string D2.wait, .int .i64 D2.sent, .int .i64 D2.fin, .bool D2.pf, .string D2.inn, .slice ao D2.late.length cap, .bool D2.owe, .int .i64 D2.due, .int .i64 D2.times] ∧ OwnsL W lo (D2).late ao cap) (fun j v _ W => match j with | 0 => v = .slice sa o2.length sq | 1 => v = .pointer (some ⟨g, 0, none⟩) | 2 => v = .pointer (some ⟨g, 0, none⟩) | 3 => v = .pointer (some ⟨g, 2, none⟩) | 4 => v = .int .i64 D2.una | 5 => v = .pointer (some ⟨g, 0, none⟩) | 6 => v = .pointer (some ⟨g, 0, none⟩) | 7 => v = .pointer (some ⟨g, 5, none⟩) | 8 => v = .int .i64 D2.sent | 9 => v = .int .i64 (addNum (D2).una (D2.sent)) | 10 => v = .pointer (some ⟨g, 0, none⟩) | 11 => v = .pointer (some ⟨g, 0, none⟩) | 12 => v = .pointer (some ⟨g, 3, none⟩) | 13 => v = .int .i64 D2.rcv | 14 => v = .agg #[.int .i64 (addNum (D2).una (D2.sent)), .int .i64 D2.rcv, .int .i64 6, .string ⟨#[]⟩] | 15 => ∃ g : Nat, v = .slice (some ⟨g, 0, none⟩) 1 1 ∧ BlockIs W g 42 (segEnc ⟨addNum D2.una D2.sent, D2.rcv, 6, ⟨#[]⟩⟩) | 16 => ∃ (va' : Option Addr) (vc' : Nat), v = .slice va' (o2.length + 1) vc' ∧ W.ownsRow lo 42 4 (.slice va' (o2.length + 1) vc') (o2.length + 1) (segCells (o2 ++ [⟨addNum D2.una D2.sent, D2.rcv, 6, ⟨#[]⟩⟩])) | 17 => ∃ (va' : Option Addr) (vc' : Nat), v = .slice va' (o2.length + 1) vc' ∧ W.ownsRow lo 42 4 (.slice va' (o2.length + 1) vc') (o2.length + 1) (segCells (o2 ++ [⟨addNum D2.una D2.sent, D2.rcv, 6, ⟨#[]⟩⟩])) | _ => True) (fun i => i) (fun j i => decide ((j, i) ∈ ([(15, 16)] : List (Nat × Nat)))) (fun i x y => x.heap.size ≤ y.heap.size ∧ ∀ g ty cs, BlockIs x g ty cs → (i = 16 → ty ≠ 42) → (i = 999 → ty ≠ 0) → BlockIs y g ty cs) (fun q9 W => match q9 with | 0 => W.ownsRow lo 42 4 (.slice sa o2.length sq) o2.length (segCells o2) | _ => True) (fun m k => decide ((m, k) ∈ ([(0, 16)] : List (Nat × Nat)))) ?_ (fun _ => 0) (by kernel_rfl) (fun _ _ => rfl) ?_ ⟨BT.out.trans ((below_drewN (Below.refl wc.heap.size wc) 1).mono (Nat.le_trans LO.out BT.out.size)), XB.out.on (below_drewN (Below.refl wc.heap.size wc) 1) XB.out.lt, HLT.out.on (below_drewN (Below.refl wc.heap.size wc) 1)⟩ (fun q9 => match q9 with | 0 => segR_below HO.out (below_drewN (Below.refl wc.heap.size wc) 1) | _ + 1 => trivial) ?_ ?_
                · intro i m x y hen hxy hm
                  match m, hen, hm with
                  | 0, hen, hm =>
                    simp at hen
                    exact row_ext hm (fun g cs h => hxy.2 _ _ _ h (fun e => absurd e hen) (fun _ => by decide))
                  | n + 1, _, _ => exact trivial
                · intro i j v u x y hij hdd hwt hxy hg
                  match j, hg with
                  | 0, hg => exact hg
                  | 1, hg => exact hg
                  | 2, hg => exact hg
                  | 3, hg => exact hg
                  | 4, hg => exact hg
                  | 5, hg => exact hg
                  | 6, hg => exact hg
                  | 7, hg => exact hg
                  | 8, hg => exact hg
                  | 9, hg => exact hg
                  | 10, hg => exact hg
                  | 11, hg => exact hg
                  | 12, hg => exact hg
                  | 13, hg => exact hg
                  | 14, hg => exact hg
                  | 15, hg =>
                    obtain ⟨g, e1, e2⟩ := hg
                    simp at hdd
                    exact ⟨g, e1, hxy.2 _ _ _ e2 (fun e => absurd e hdd) (fun _ => by decide)⟩
                  | 16, hg =>
                    obtain ⟨va', vc', e1, e2⟩ := hg
                    exact ⟨va', vc', e1, row_ext e2 (fun g cs h => hxy.2 _ _ _ h (fun e => absurd e hij) (fun _ => by decide))⟩
                  | 17, hg =>
                    obtain ⟨va', vc', e1, e2⟩ := hg
                    have h6 : i ≠ 16 := by rintro rfl; exact Bool.noConfusion (hwt.symm.trans (by kernel_rfl : waitsB _ 17 16 = true))
                    exact ⟨va', vc', e1, row_ext e2 (fun g cs h => hxy.2 _ _ _ h (fun e => absurd e h6) (fun _ => by decide))⟩
                  | n + 18, _ => exact trivial
                · refine ⟨?_, ?_, ?_, ?_, ?_, ?_, ?_, ?_, ?_, ?_, ?_, ?_, ?_, ?_, ?_, ?_, ?_, ?_, trivial⟩
                  · intro A W hC hI hg hb
                    have h5 : A.eval (.tmp 5) = .slice sa o2.length sq := hb 5 _ (.tail _ (.head _)) (late_of (by kernel_rfl))
                    exact does_value (v := .slice sa o2.length sq) (w' := W) (by simp only [execOp, h5]; simp [go_sem]) ⟨rfl, hC, Nat.le_refl _, fun _ _ _ h _ _ => h⟩
                  · intro A W hC hI hg hb
                    have h0 : A.eval (.tmp 0) = .pointer (some ⟨g, 0, none⟩) := hb 0 _ (.head _) (late_of (by kernel_rfl))
                    exact does_value (v := .pointer (some ⟨g, 0, none⟩)) (w' := W) (by simp only [execOp, h0]; simp [go_sem]) ⟨rfl, hC, Nat.le_refl _, fun _ _ _ h _ _ => h⟩
                  · intro A W hC hI hg hb
                    have h135 : A.eval (.tmp 135) = .pointer (some ⟨g, 0, none⟩) := hg 1 135 (by decide) rfl (by simp [Op.operands]) (by kernel_rfl) (by kernel_rfl) rfl
                    exact does_value (v := .pointer (some ⟨g, 0, none⟩)) (w' := W) (by simp only [execOp, h135]; simp [go_sem]) ⟨rfl, hC, Nat.le_refl _, fun _ _ _ h _ _ => h⟩
                  · intro A W hC hI hg hb
                    have h136 : A.eval (.tmp 136) = .pointer (some ⟨g, 0, none⟩) := hg 2 136 (by decide) rfl (by simp [Op.operands]) (by kernel_rfl) (by kernel_rfl) rfl
                    exact does_value (v := .pointer (some ⟨g, 2, none⟩)) (w' := W) (by simp only [execOp, h136]; simp [go_sem]) ⟨rfl, hC, Nat.le_refl _, fun _ _ _ h _ _ => h⟩
                  · intro A W hC hI hg hb
                    have h137 : A.eval (.tmp 137) = .pointer (some ⟨g, 2, none⟩) := hg 3 137 (by decide) rfl (by simp [Op.operands]) (by kernel_rfl) (by kernel_rfl) rfl
                    have hb1 : BlockIs W g 28 [.int .i64 D2.st, .int .i64 D2.iss, .int .i64 D2.una, .int .i64 D2.rcv, .string D2.wait, .int .i64 D2.sent, .int .i64 D2.fin, .bool D2.pf, .string D2.inn, .slice ao D2.late.length cap, .bool D2.owe, .int .i64 D2.due, .int .i64 D2.times] := hC.2.1
                    have hc0 := hb1.cell (j := 2) rfl
                    exact does_value (v := .int .i64 D2.una) (w' := W) (by simp only [execOp, h137]; simp [go_sem, hc0]) ⟨rfl, hC, Nat.le_refl _, fun _ _ _ h _ _ => h⟩
                  · intro A W hC hI hg hb
                    have h0 : A.eval (.tmp 0) = .pointer (some ⟨g, 0, none⟩) := hb 0 _ (.head _) (late_of (by kernel_rfl))
                    exact does_value (v := .pointer (some ⟨g, 0, none⟩)) (w' := W) (by simp only [execOp, h0]; simp [go_sem]) ⟨rfl, hC, Nat.le_refl _, fun _ _ _ h _ _ => h⟩
                  · intro A W hC hI hg hb
                    have h139 : A.eval (.tmp 139) = .pointer (some ⟨g, 0, none⟩) := hg 5 139 (by decide) rfl (by simp [Op.operands]) (by kernel_rfl) (by kernel_rfl) rfl
                    exact does_value (v := .pointer (some ⟨g, 0, none⟩)) (w' := W) (by simp only [execOp, h139]; simp [go_sem]) ⟨rfl, hC, Nat.le_refl _, fun _ _ _ h _ _ => h⟩
                  · intro A W hC hI hg hb
                    have h140 : A.eval (.tmp 140) = .pointer (some ⟨g, 0, none⟩) := hg 6 140 (by decide) rfl (by simp [Op.operands]) (by kernel_rfl) (by kernel_rfl) rfl
                    exact does_value (v := .pointer (some ⟨g, 5, none⟩)) (w' := W) (by simp only [execOp, h140]; simp [go_sem]) ⟨rfl, hC, Nat.le_refl _, fun _ _ _ h _ _ => h⟩
                  · intro A W hC hI hg hb
                    have h141 : A.eval (.tmp 141) = .pointer (some ⟨g, 5, none⟩) := hg 7 141 (by decide) rfl (by simp [Op.operands]) (by kernel_rfl) (by kernel_rfl) rfl
                    have hb1 : BlockIs W g 28 [.int .i64 D2.st, .int .i64 D2.iss, .int .i64 D2.una, .int .i64 D2.rcv, .string D2.wait, .int .i64 D2.sent, .int .i64 D2.fin, .bool D2.pf, .string D2.inn, .slice ao D2.late.length cap, .bool D2.owe, .int .i64 D2.due, .int .i64 D2.times] := hC.2.1
                    have hc0 := hb1.cell (j := 5) rfl
                    exact does_value (v := .int .i64 D2.sent) (w' := W) (by simp only [execOp, h141]; simp [go_sem, hc0]) ⟨rfl, hC, Nat.le_refl _, fun _ _ _ h _ _ => h⟩
                  · intro A W hC hI hg hb
                    have h138 : A.eval (.tmp 138) = .int .i64 D2.una := hg 4 138 (by decide) rfl (by simp [Op.operands, Call.operands]) (by kernel_rfl) (by kernel_rfl) rfl
                    have h142 : A.eval (.tmp 142) = .int .i64 D2.sent := hg 8 142 (by decide) rfl (by simp [Op.operands, Call.operands]) (by kernel_rfl) (by kernel_rfl) rfl
                    simp [go_sem] at h138 h142
                    refine does_enter (f := 36) (args := #[.int .i64 D2.una, .int .i64 D2.sent]) (w' := W) (by simp [go_sem, h138, h142]) ?_
                    refine (specAddNum_any (D2).una (D2.sent) W).mono ?_
                    rintro e W' ⟨rfl, hw⟩
                    rw [hw]
                    exact ⟨_, rfl, rfl, hC, Nat.le_refl _, fun _ _ _ h _ _ => h⟩
                  · intro A W hC hI hg hb
                    have h0 : A.eval (.tmp 0) = .pointer (some ⟨g, 0, none⟩) := hb 0 _ (.head _) (late_of (by kernel_rfl))
                    exact does_value (v := .pointer (some ⟨g, 0, none⟩)) (w' := W) (by simp only [execOp, h0]; simp [go_sem]) ⟨rfl, hC, Nat.le_refl _, fun _ _ _ h _ _ => h⟩
                  · intro A W hC hI hg hb
                    have h144 : A.eval (.tmp 144) = .pointer (some ⟨g, 0, none⟩) := hg 10 144 (by decide) rfl (by simp [Op.operands]) (by kernel_rfl) (by kernel_rfl) rfl
                    exact does_value (v := .pointer (some ⟨g, 0, none⟩)) (w' := W) (by simp only [execOp, h144]; simp [go_sem]) ⟨rfl, hC, Nat.le_refl _, fun _ _ _ h _ _ => h⟩
                  · intro A W hC hI hg hb
                    have h145 : A.eval (.tmp 145) = .pointer (some ⟨g, 0, none⟩) := hg 11 145 (by decide) rfl (by simp [Op.operands]) (by kernel_rfl) (by kernel_rfl) rfl
                    exact does_value (v := .pointer (some ⟨g, 3, none⟩)) (w' := W) (by simp only [execOp, h145]; simp [go_sem]) ⟨rfl, hC, Nat.le_refl _, fun _ _ _ h _ _ => h⟩
                  · intro A W hC hI hg hb
                    have h146 : A.eval (.tmp 146) = .pointer (some ⟨g, 3, none⟩) := hg 12 146 (by decide) rfl (by simp [Op.operands]) (by kernel_rfl) (by kernel_rfl) rfl
                    have hb1 : BlockIs W g 28 [.int .i64 D2.st, .int .i64 D2.iss, .int .i64 D2.una, .int .i64 D2.rcv, .string D2.wait, .int .i64 D2.sent, .int .i64 D2.fin, .bool D2.pf, .string D2.inn, .slice ao D2.late.length cap, .bool D2.owe, .int .i64 D2.due, .int .i64 D2.times] := hC.2.1
                    have hc0 := hb1.cell (j := 3) rfl
                    exact does_value (v := .int .i64 D2.rcv) (w' := W) (by simp only [execOp, h146]; simp [go_sem, hc0]) ⟨rfl, hC, Nat.le_refl _, fun _ _ _ h _ _ => h⟩
                  · intro A W hC hI hg hb
                    have h143 : A.eval (.tmp 143) = .int .i64 (addNum (D2).una (D2.sent)) := hg 9 143 (by decide) rfl (by simp [Op.operands]) (by kernel_rfl) (by kernel_rfl) rfl
                    have h147 : A.eval (.tmp 147) = .int .i64 D2.rcv := hg 13 147 (by decide) rfl (by simp [Op.operands]) (by kernel_rfl) (by kernel_rfl) rfl
                    simp [go_sem] at h143 h147
                    exact does_value (v := .agg #[.int .i64 (addNum (D2).una (D2.sent)), .int .i64 D2.rcv, .int .i64 6, .string ⟨#[]⟩]) (w' := W) (by simp [execOp, go_sem, h143, h147]) ⟨rfl, hC, Nat.le_refl _, fun _ _ _ h _ _ => h⟩
                  · intro A W hC hI hg hb
                    have h148 : A.eval (.tmp 148) = .agg #[.int .i64 (addNum (D2).una (D2.sent)), .int .i64 D2.rcv, .int .i64 6, .string ⟨#[]⟩] := hg 14 148 (by decide) rfl (by simp [Op.operands]) (by kernel_rfl) (by kernel_rfl) rfl
                    simp [go_sem] at h148
                    have ba := below_more (Below.refl W.heap.size W) (.cells #[.int .i64 (addNum (D2).una (D2.sent)), .int .i64 D2.rcv, .int .i64 6, .string ⟨#[]⟩] 42)
                    exact does_value (v := .slice (some ⟨W.heap.size, 0, none⟩) 1 1) (w' := W.alloc (.cells #[.int .i64 (addNum (D2).una (D2.sent)), .int .i64 D2.rcv, .int .i64 6, .string ⟨#[]⟩] 42)) (by simp [execOp, go_sem, h148]) ⟨⟨_, rfl, heap_alloc_new W _⟩, ⟨hC.1.trans (ba.mono (by have := hC.1.size; have := LO.out; omega)), hC.2.1.on ba hC.2.1.lt, hC.2.2.on ba⟩, ba.size, fun g ty cs h _ _ => h.on ba h.lt⟩
                  · intro A W hC hI hg hb
                    have h134 : A.eval (.tmp 134) = .slice sa o2.length sq := hg 0 134 (by decide) rfl (by simp [Op.operands, Call.operands]) (by kernel_rfl) (by kernel_rfl) rfl
                    have g15 := hg 15 149 (by decide) rfl (by simp [Op.operands, Call.operands]) (by kernel_rfl) (by kernel_rfl) rfl
                    obtain ⟨g, h149, hbl⟩ := g15
                    have hrow : W.ownsRow lo 42 4 (.slice sa o2.length sq) o2.length (segCells o2) := hI 0 (by kernel_rfl)
                    have hM : SegsAt W (some ⟨g, 0, none⟩) [⟨addNum D2.una D2.sent, D2.rcv, 6, ⟨#[]⟩⟩] := segsAt_of (r := []) (by rw [List.append_nil]; simpa [segCells] using hbl)
                    obtain ⟨v', W', hr, h2, h3⟩ := append_segs (c := 1) (by rw [List.length_singleton]; have := HN.out; omega) (by have := hC.1.size; have := LO.out; omega) hrow hM
                    obtain ⟨va', vc', rfl⟩ := row_shape h2
                    rw [List.length_append, List.length_singleton] at h2 hr
                    have hr1 : (Builtin.append_ #[29, 29] 29 #[.slice sa o2.length sq, .slice (some ⟨g, 0, none⟩) 1 1]).run Try.prog W = .ok (.slice va' (o2.length + 1) vc') W' := hr
                    have hK : ∀ p ty cs, BlockIs W p ty cs → ty ≠ 42 → BlockIs W' p ty cs := fun p ty cs hp hne => segR_other hp hrow h3 hne
                    refine does_value (v := .slice va' (o2.length + 1) vc') (w' := W') (by simp only [execOp, resolve, invoke, builtin, Sem.run_bind, Sem.run_pure, Result.andThen_ok, List.map_toArray, List.map_cons, List.map_nil, h134, h149, hr1]) ⟨⟨va', vc', rfl, h2⟩, ⟨segR_down hC.1 hrow h3 (Nat.le_refl _) (by have := hC.1.size; have := LO.out; omega), hK _ _ _ hC.2.1 (by decide), row_ext hC.2.2 (fun g cs h => hK g _ cs h (by decide))⟩, h3.size, fun p ty cs hp hne _ => hK p ty cs hp (hne rfl)⟩
                  · intro A W hC hI hg hb
                    have g16 := hg 16 150 (by decide) rfl (by simp [Op.operands]) (by kernel_rfl) (by kernel_rfl) rfl
                    obtain ⟨va', vc', h150, hrow⟩ := g16
                    exact does_value (v := .slice va' (o2.length + 1) vc') (w' := W) (by simp only [execOp, h150]; simp [go_sem]) ⟨⟨va', vc', rfl, hrow⟩, hC, Nat.le_refl _, fun _ _ _ h _ _ => h⟩
                · intro vs wE hC hI hg
                  obtain ⟨va', vc', h9, ho⟩ := hg 17 (by decide) (fun k => by simp)
                  change vs 17 = _ at h9
                  clear hg hI
                  change Exit.then _ _ _ (laidBy _ vs _ 18 _) wE
                  simp only [laidBy, if_true, dstAt, List.getElem?_toArray, List.getElem?_cons_succ, List.getElem?_cons_zero, Option.bind_some]
                  simp only [Act.put, List.setIfInBounds_toArray, List.set_cons_succ, List.set_cons_zero]
                  rw [h9]
                  have HSX := hid (show StTo lo g w wE (D2) from ⟨⟨LG.out, ao, cap, hC.2.1, hC.2.2⟩, hC.1⟩)
                  have HRX := hid (show wE.ownsRow lo 42 4 (.slice va' (o2 ++ [(⟨addNum D2.una D2.sent, D2.rcv, 6, ⟨#[]⟩⟩ : SegD)]).length vc') (o2 ++ [(⟨addNum D2.una D2.sent, D2.rcv, 6, ⟨#[]⟩⟩ : SegD)]).length (segCells (o2 ++ [(⟨addNum D2.una D2.sent, D2.rcv, 6, ⟨#[]⟩⟩ : SegD)])) by rw [List.length_append]; exact ho)
                  clear h9 ho hC XB HO HLT BT
                  obtain ⟨_, ao6, cap6, hb6, _⟩ := HSX.out.1
                  have k6 := hb6.cell (j := 6) rfl
                  have j6 := hb6.thaw 6
                  clear hb6
                  have HSY := hid (HSX.out.fin 2)
                  have HRY := hid (segs_beside (j := 6) (u := .int .i64 2) HSX.out.1 HRX.out)
                  have hlen : (o2 ++ [(⟨addNum D2.una D2.sent, D2.rcv, 6, ⟨#[]⟩⟩ : SegD)]).length = o2.length + 1 := by simp
                  have hzi : (0 : Int) < (o2.length : Int) + 1 := by omega
                  obtain ⟨LX, hLX⟩ : ∃ LX, o2 ++ [(⟨addNum D2.una D2.sent, D2.rcv, 6, ⟨#[]⟩⟩ : SegD)] = LX := ⟨_, rfl⟩
                  rw [hLX] at HRX HRY hOS2 hlen
                  have HLEN := hid hlen
                  have hzi2 : (0 : Int) < ((o2.length + 1 : Nat) : Int) := by omega
                  clear hLX hlen
                  obtain ⟨V6, hV6⟩ : ∃ V, wE.setCell ⟨g, 6, none⟩ (.int .i64 2) = V := ⟨_, rfl⟩
                  rw [hV6] at HSY HRY
                  go_wp2_with fail
                  refine Calls.mono (l13Again_any lo g ({ D2 with fin := 2 }) now (by rw [HT1.out]; exact ht) hnow _ HSY.out.1) ?_
                  rintro e w7 ⟨rfl, h7, hk7⟩
                  have HE7 := hid (HSY.out.trans h7)
                  have HO7 := hid (again_row HRY.out hk7)
                  clear h7 hk7
                  go_wp2
                  go_ret
                  exact (by rw [hOD2.out, hOS2.out]; refine ⟨_, _, ?_, HE7.out, HO7.out⟩; rw [HLEN.out]; rfl)
              | false =>
                have HSD : Hid (sentD now d = D2 ∧ sentSegs now d = o2) := by
                  have h9 := HQ2.out
                  rw [finD, finSegs, hF] at h9
                  have h10 : sentD now d = D2 ∧ sentSegs now d = o2 := by simpa using h9
                  exact h10
                clear hF HQ2
                have HT1 := G2
                obtain ⟨_, ao5, cap5, hb5, _⟩ := HE4.out.1
                have k10 := hb5.cell (j := 10) rfl
                have j10 := hb5.thaw 10
                have k5 := hb5.cell (j := 5) rfl
                have k6 := hb5.cell (j := 6) rfl
                clear hb5
                rw [G3.out] at k10
                by_cases hz : o2.length = 0
                rotate_left
                · have hzi : (0 : Int) < (o2.length : Int) := by omega
                  have hOD2 : Hid (openD now d = { pauseD now D2 with owe := false }) := by show _ = _; rw [openD, HSD.out.1, HSD.out.2, if_neg hz]
                  have hOS2 : Hid (openSegs now d = o2) := by show _ = _; rw [openSegs, HSD.out.1, HSD.out.2, if_neg hz]
                  clear HSD
                  go_wp2_with fail
                  refine Calls.mono (l13Again_any lo g (D2) now (by rw [HT1.out]; exact ht) hnow _ HE4.out.1) ?_
                  rintro e w7 ⟨rfl, h7, hk7⟩
                  have HE7 := hid (HE4.out.trans h7)
                  have HO7 := hid (again_row HO4.out hk7)
                  clear h7 hk7
                  go_wp2
                  go_ret
                  exact (by rw [hOD2.out, hOS2.out]; exact ⟨_, _, rfl, HE7.out, HO7.out⟩)
                obtain rfl : o2 = [] := List.length_eq_zero_iff.1 hz
                clear hz
                cases ho : d.owe with
                | false =>
                  rw [ho] at k10
                  have hOD2 : Hid (openD now d = D2) := by show _ = _; rw [openD, HSD.out.1, HSD.out.2, if_pos (show ([] : List SegD).length = 0 from rfl)]; exact owe_same (G3.out.trans ho)
                  have hOS2 : Hid (openSegs now d = []) := by show _ = _; rw [openSegs, HSD.out.1, HSD.out.2, if_pos (show ([] : List SegD).length = 0 from rfl), ho]; rfl
                  clear ho HSD
                  go_wp2
                  go_ret
                  exact (by rw [hOD2.out, hOS2.out]; exact ⟨_, _, rfl, HE4.out, HO4.out⟩)
                | true =>
                  rw [ho] at k10
                  have hOD2 : Hid (openD now d = { D2 with owe := false }) := by show _ = _; rw [openD, HSD.out.1, HSD.out.2, if_pos (show ([] : List SegD).length = 0 from rfl)]
                  have hOS2 : Hid (openSegs now d = [oweSeg D2]) := by show _ = _; rw [openSegs, HSD.out.1, HSD.out.2, if_pos (show ([] : List SegD).length = 0 from rfl), ho]; rfl
                  clear ho HSD
                  by_cases q2 : D2.fin = 2
                  · have q2b : (D2.fin == 2) = true := by rw [beq_iff_eq]; exact q2
                    have hOS3 : Hid (openSegs now d = [⟨addNum D2.una (D2.sent + 1), D2.rcv, 2, ⟨#[]⟩⟩]) := by show _ = _; rw [hOS2.out, oweSeg, flightD, if_pos q2]; rfl
                    clear q2 hOS2
                    obtain ⟨⟨hlg, ao, cap, hbx, hlt9⟩, hbt⟩ := HE4.out
                    have XB := hid hbx
                    have HLT := hid hlt9
                    have LG := hid hlg
                    have BT := hid hbt
                    clear hlg hbx hlt9 hbt
                    have HO := HO4
                    have HN : Hid (([] : List SegD).length ≤ 25) := (by show _ ≤ _; simp)
                    clear HE4 HO4
                    go_wp2
                    refine wp_region_late_b (N := 194) (by kernel_rfl) (by kernel_rfl) rfl (by kernel_rfl) [(0, .pointer (some ⟨g, 0, none⟩)), (5, .slice sa 0 sq), (7, .int .i64 (D2.sent + 1))] (by intro p hp; simp only [List.mem_cons, List.not_mem_nil, or_false] at hp; rcases hp with rfl | rfl | rfl <;> rfl) (fun W => Below lo w W ∧ BlockIs W g 28 [.int .i64 D2.st, .int .i64 D2.iss, .int .i64 D2.una, .int .i64 D2.rcv, .string D2.wait, .int .i64 D2.sent, .int .i64 D2.fin, .bool D2.pf, .string D2.inn, .slice ao D2.late.length cap, .bool D2.owe, .int .i64 D2.due, .int .i64 D2.times] ∧ OwnsL W lo (D2).late ao cap) (fun j v _ W => match j with | 0 => v = .slice sa 0 sq | 1 => v = .pointer (some ⟨g, 0, none⟩) | 2 => v = .pointer (some ⟨g, 0, none⟩) | 3 => v = .pointer (some ⟨g, 2, none⟩) | 4 => v = .int .i64 D2.una | 5 => v = .int .i64 (D2.sent + 1) | 6 => v = .int .i64 (addNum (D2).una (D2.sent + 1)) | 7 => v = .pointer (some ⟨g, 0, none⟩) | 8 => v = .pointer (some ⟨g, 0, none⟩) | 9 => v = .pointer (some ⟨g, 3, none⟩) | 10 => v = .int .i64 D2.rcv | 11 => v = .agg #[.int .i64 (addNum (D2).una (D2.sent + 1)), .int .i64 D2.rcv, .int .i64 2, .string ⟨#[]⟩] | 12 => ∃ g : Nat, v = .slice (some ⟨g, 0, none⟩) 1 1 ∧ BlockIs W g 42 (segEnc ⟨addNum D2.una (D2.sent + 1), D2.rcv, 2, ⟨#[]⟩⟩) | 13 => ∃ (va' : Option Addr) (vc' : Nat), v = .slice va' (([] : List SegD).length + 1) vc' ∧ W.ownsRow lo 42 4 (.slice va' (([] : List SegD).length + 1) vc') (([] : List SegD).length + 1) (segCells (([] : List SegD) ++ [⟨addNum D2.una (D2.sent + 1), D2.rcv, 2, ⟨#[]⟩⟩])) | 14 => ∃ (va' : Option Addr) (vc' : Nat), v = .slice va' (([] : List SegD).length + 1) vc' ∧ W.ownsRow lo 42 4 (.slice va' (([] : List SegD).length + 1) vc') (([] : List SegD).length + 1) (segCells (([] : List SegD) ++ [⟨addNum D2.una (D2.sent + 1), D2.rcv, 2, ⟨#[]⟩⟩])) | _ => True) (fun i => i) (fun j i => decide ((j, i) ∈ ([(12, 13)] : List (Nat × Nat)))) (fun i x y => x.heap.size ≤ y.heap.size ∧ ∀ g ty cs, BlockIs x g ty cs → (i = 13 → ty ≠ 42) → (i = 999 → ty ≠ 0) → BlockIs y g ty cs) (fun q9 W => match q9 with | 0 => W.ownsRow lo 42 4 (.slice sa 0 sq) ([] : List SegD).length (segCells ([] : List SegD)) | _ => True) (fun m k => decide ((m, k) ∈ ([(0, 13)] : List (Nat × Nat)))) ?_ (fun _ => 0) (by kernel_rfl) (fun _ _ => rfl) ?_ ⟨BT.out.trans ((below_drewN (Below.refl wc.heap.size wc) 1).mono (Nat.le_trans LO.out BT.out.size)), XB.out.on (below_drewN (Below.refl wc.heap.size wc) 1) XB.out.lt, HLT.out.on (below_drewN (Below.refl wc.heap.size wc) 1)⟩ (fun q9 => match q9 with | 0 => segR_below HO.out (below_drewN (Below.refl wc.heap.size wc) 1) | _ + 1 => trivial) ?_ ?_
                    · intro i m x y hen hxy hm
                      match m, hen, hm with
                      | 0, hen, hm =>
                        simp at hen
                        exact row_ext hm (fun g cs h => hxy.2 _ _ _ h (fun e => absurd e hen) (fun _ => by decide))
                      | n + 1, _, _ => exact trivial
                    · intro i j v u x y hij hdd hwt hxy hg
                      match j, hg with
                      | 0, hg => exact hg
                      | 1, hg => exact hg
                      | 2, hg => exact hg
                      | 3, hg => exact hg
                      | 4, hg => exact hg
                      | 5, hg => exact hg
                      | 6, hg => exact hg
                      | 7, hg => exact hg
                      | 8, hg => exact hg
                      | 9, hg => exact hg
                      | 10, hg => exact hg
                      | 11, hg => exact hg
                      | 12, hg =>
                        obtain ⟨g, e1, e2⟩ := hg
                        simp at hdd
                        exact ⟨g, e1, hxy.2 _ _ _ e2 (fun e => absurd e hdd) (fun _ => by decide)⟩
                      | 13, hg =>
                        obtain ⟨va', vc', e1, e2⟩ := hg
                        exact ⟨va', vc', e1, row_ext e2 (fun g cs h => hxy.2 _ _ _ h (fun e => absurd e hij) (fun _ => by decide))⟩
                      | 14, hg =>
                        obtain ⟨va', vc', e1, e2⟩ := hg
                        have h6 : i ≠ 13 := by rintro rfl; exact Bool.noConfusion (hwt.symm.trans (by kernel_rfl : waitsB _ 14 13 = true))
                        exact ⟨va', vc', e1, row_ext e2 (fun g cs h => hxy.2 _ _ _ h (fun e => absurd e h6) (fun _ => by decide))⟩
                      | n + 15, _ => exact trivial
                    · refine ⟨?_, ?_, ?_, ?_, ?_, ?_, ?_, ?_, ?_, ?_, ?_, ?_, ?_, ?_, ?_, trivial⟩
                      · intro A W hC hI hg hb
                        have h5 : A.eval (.tmp 5) = .slice sa 0 sq := hb 5 _ (.tail _ (.head _)) (late_of (by kernel_rfl))
                        exact does_value (v := .slice sa 0 sq) (w' := W) (by simp only [execOp, h5]; simp [go_sem]) ⟨rfl, hC, Nat.le_refl _, fun _ _ _ h _ _ => h⟩
                      · intro A W hC hI hg hb
                        have h0 : A.eval (.tmp 0) = .pointer (some ⟨g, 0, none⟩) := hb 0 _ (.head _) (late_of (by kernel_rfl))
                        exact does_value (v := .pointer (some ⟨g, 0, none⟩)) (w' := W) (by simp only [execOp, h0]; simp [go_sem]) ⟨rfl, hC, Nat.le_refl _, fun _ _ _ h _ _ => h⟩
                      · intro A W hC hI hg hb
                        have h177 : A.eval (.tmp 177) = .pointer (some ⟨g, 0, none⟩) := hg 1 177 (by decide) rfl (by simp [Op.operands]) (by kernel_rfl) (by kernel_rfl) rfl
                        exact does_value (v := .pointer (some ⟨g, 0, none⟩)) (w' := W) (by simp only [execOp, h177]; simp [go_sem]) ⟨rfl, hC, Nat.le_refl _, fun _ _ _ h _ _ => h⟩
                      · intro A W hC hI hg hb
                        have h178 : A.eval (.tmp 178) = .pointer (some ⟨g, 0, none⟩) := hg 2 178 (by decide) rfl (by simp [Op.operands]) (by kernel_rfl) (by kernel_rfl) rfl
                        exact does_value (v := .pointer (some ⟨g, 2, none⟩)) (w' := W) (by simp only [execOp, h178]; simp [go_sem]) ⟨rfl, hC, Nat.le_refl _, fun _ _ _ h _ _ => h⟩
                      · intro A W hC hI hg hb
                        have h179 : A.eval (.tmp 179) = .pointer (some ⟨g, 2, none⟩) := hg 3 179 (by decide) rfl (by simp [Op.operands]) (by kernel_rfl) (by kernel_rfl) rfl
                        have hb1 : BlockIs W g 28 [.int .i64 D2.st, .int .i64 D2.iss, .int .i64 D2.una, .int .i64 D2.rcv, .string D2.wait, .int .i64 D2.sent, .int .i64 D2.fin, .bool D2.pf, .string D2.inn, .slice ao D2.late.length cap, .bool D2.owe, .int .i64 D2.due, .int .i64 D2.times] := hC.2.1
                        have hc0 := hb1.cell (j := 2) rfl
                        exact does_value (v := .int .i64 D2.una) (w' := W) (by simp only [execOp, h179]; simp [go_sem, hc0]) ⟨rfl, hC, Nat.le_refl _, fun _ _ _ h _ _ => h⟩
                      · intro A W hC hI hg hb
                        have h7 : A.eval (.tmp 7) = .int .i64 (D2.sent + 1) := hb 7 _ (.tail _ (.tail _ (.head _))) (late_of (by kernel_rfl))
                        exact does_value (v := .int .i64 (D2.sent + 1)) (w' := W) (by simp only [execOp, h7]; simp [go_sem]) ⟨rfl, hC, Nat.le_refl _, fun _ _ _ h _ _ => h⟩
                      · intro A W hC hI hg hb
                        have h180 : A.eval (.tmp 180) = .int .i64 D2.una := hg 4 180 (by decide) rfl (by simp [Op.operands, Call.operands]) (by kernel_rfl) (by kernel_rfl) rfl
                        have h181 : A.eval (.tmp 181) = .int .i64 (D2.sent + 1) := hg 5 181 (by decide) rfl (by simp [Op.operands, Call.operands]) (by kernel_rfl) (by kernel_rfl) rfl
                        simp [go_sem] at h180 h181
                        refine does_enter (f := 36) (args := #[.int .i64 D2.una, .int .i64 (D2.sent + 1)]) (w' := W) (by simp [go_sem, h180, h181]) ?_
                        refine (specAddNum_any (D2).una (D2.sent + 1) W).mono ?_
                        rintro e W' ⟨rfl, hw⟩
                        rw [hw]
                        exact ⟨_, rfl, rfl, hC, Nat.le_refl _, fun _ _ _ h _ _ => h⟩
                      · intro A W hC hI hg hb
                        have h0 : A.eval (.tmp 0) = .pointer (some ⟨g, 0, none⟩) := hb 0 _ (.head _) (late_of (by kernel_rfl))
                        exact does_value (v := .pointer (some ⟨g, 0, none⟩)) (w' := W) (by simp only [execOp, h0]; simp [go_sem]) ⟨rfl, hC, Nat.le_refl _, fun _ _ _ h _ _ => h⟩
                      · intro A W hC hI hg hb
                        have h183 : A.eval (.tmp 183) = .pointer (some ⟨g, 0, none⟩) := hg 7 183 (by decide) rfl (by simp [Op.operands]) (by kernel_rfl) (by kernel_rfl) rfl
                        exact does_value (v := .pointer (some ⟨g, 0, none⟩)) (w' := W) (by simp only [execOp, h183]; simp [go_sem]) ⟨rfl, hC, Nat.le_refl _, fun _ _ _ h _ _ => h⟩
                      · intro A W hC hI hg hb
                        have h184 : A.eval (.tmp 184) = .pointer (some ⟨g, 0, none⟩) := hg 8 184 (by decide) rfl (by simp [Op.operands]) (by kernel_rfl) (by kernel_rfl) rfl
                        exact does_value (v := .pointer (some ⟨g, 3, none⟩)) (w' := W) (by simp only [execOp, h184]; simp [go_sem]) ⟨rfl, hC, Nat.le_refl _, fun _ _ _ h _ _ => h⟩
                      · intro A W hC hI hg hb
                        have h185 : A.eval (.tmp 185) = .pointer (some ⟨g, 3, none⟩) := hg 9 185 (by decide) rfl (by simp [Op.operands]) (by kernel_rfl) (by kernel_rfl) rfl
                        have hb1 : BlockIs W g 28 [.int .i64 D2.st, .int .i64 D2.iss, .int .i64 D2.una, .int .i64 D2.rcv, .string D2.wait, .int .i64 D2.sent, .int .i64 D2.fin, .bool D2.pf, .string D2.inn, .slice ao D2.late.length cap, .bool D2.owe, .int .i64 D2.due, .int .i64 D2.times] := hC.2.1
                        have hc0 := hb1.cell (j := 3) rfl
                        exact does_value (v := .int .i64 D2.rcv) (w' := W) (by simp only [execOp, h185]; simp [go_sem, hc0]) ⟨rfl, hC, Nat.le_refl _, fun _ _ _ h _ _ => h⟩
                      · intro A W hC hI hg hb
                        have h182 : A.eval (.tmp 182) = .int .i64 (addNum (D2).una (D2.sent + 1)) := hg 6 182 (by decide) rfl (by simp [Op.operands]) (by kernel_rfl) (by kernel_rfl) rfl
                        have h186 : A.eval (.tmp 186) = .int .i64 D2.rcv := hg 10 186 (by decide) rfl (by simp [Op.operands]) (by kernel_rfl) (by kernel_rfl) rfl
                        simp [go_sem] at h182 h186
                        exact does_value (v := .agg #[.int .i64 (addNum (D2).una (D2.sent + 1)), .int .i64 D2.rcv, .int .i64 2, .string ⟨#[]⟩]) (w' := W) (by simp [execOp, go_sem, h182, h186]) ⟨rfl, hC, Nat.le_refl _, fun _ _ _ h _ _ => h⟩
                      · intro A W hC hI hg hb
                        have h187 : A.eval (.tmp 187) = .agg #[.int .i64 (addNum (D2).una (D2.sent + 1)), .int .i64 D2.rcv, .int .i64 2, .string ⟨#[]⟩] := hg 11 187 (by decide) rfl (by simp [Op.operands]) (by kernel_rfl) (by kernel_rfl) rfl
                        simp [go_sem] at h187
                        have ba := below_more (Below.refl W.heap.size W) (.cells #[.int .i64 (addNum (D2).una (D2.sent + 1)), .int .i64 D2.rcv, .int .i64 2, .string ⟨#[]⟩] 42)
                        exact does_value (v := .slice (some ⟨W.heap.size, 0, none⟩) 1 1) (w' := W.alloc (.cells #[.int .i64 (addNum (D2).una (D2.sent + 1)), .int .i64 D2.rcv, .int .i64 2, .string ⟨#[]⟩] 42)) (by simp [execOp, go_sem, h187]) ⟨⟨_, rfl, heap_alloc_new W _⟩, ⟨hC.1.trans (ba.mono (by have := hC.1.size; have := LO.out; omega)), hC.2.1.on ba hC.2.1.lt, hC.2.2.on ba⟩, ba.size, fun g ty cs h _ _ => h.on ba h.lt⟩
                      · intro A W hC hI hg hb
                        have h176 : A.eval (.tmp 176) = .slice sa 0 sq := hg 0 176 (by decide) rfl (by simp [Op.operands, Call.operands]) (by kernel_rfl) (by kernel_rfl) rfl
                        have g12 := hg 12 188 (by decide) rfl (by simp [Op.operands, Call.operands]) (by kernel_rfl) (by kernel_rfl) rfl
                        obtain ⟨g, h188, hbl⟩ := g12
                        have hrow : W.ownsRow lo 42 4 (.slice sa 0 sq) ([] : List SegD).length (segCells ([] : List SegD)) := hI 0 (by kernel_rfl)
                        have hM : SegsAt W (some ⟨g, 0, none⟩) [⟨addNum D2.una (D2.sent + 1), D2.rcv, 2, ⟨#[]⟩⟩] := segsAt_of (r := []) (by rw [List.append_nil]; simpa [segCells] using hbl)
                        obtain ⟨v', W', hr, h2, h3⟩ := append_segs (c := 1) (by rw [List.length_singleton]; have := HN.out; omega) (by have := hC.1.size; have := LO.out; omega) hrow hM
                        obtain ⟨va', vc', rfl⟩ := row_shape h2
                        rw [List.length_append, List.length_singleton] at h2 hr
                        have hr1 : (Builtin.append_ #[29, 29] 29 #[.slice sa 0 sq, .slice (some ⟨g, 0, none⟩) 1 1]).run Try.prog W = .ok (.slice va' (([] : List SegD).length + 1) vc') W' := hr
                        have hK : ∀ p ty cs, BlockIs W p ty cs → ty ≠ 42 → BlockIs W' p ty cs := fun p ty cs hp hne => segR_other hp hrow h3 hne
                        refine does_value (v := .slice va' (([] : List SegD).length + 1) vc') (w' := W') (by simp only [execOp, resolve, invoke, builtin, Sem.run_bind, Sem.run_pure, Result.andThen_ok, List.map_toArray, List.map_cons, List.map_nil, h176, h188, hr1]) ⟨⟨va', vc', rfl, h2⟩, ⟨segR_down hC.1 hrow h3 (Nat.le_refl _) (by have := hC.1.size; have := LO.out; omega), hK _ _ _ hC.2.1 (by decide), row_ext hC.2.2 (fun g cs h => hK g _ cs h (by decide))⟩, h3.size, fun p ty cs hp hne _ => hK p ty cs hp (hne rfl)⟩
                      · intro A W hC hI hg hb
                        have g13 := hg 13 189 (by decide) rfl (by simp [Op.operands]) (by kernel_rfl) (by kernel_rfl) rfl
                        obtain ⟨va', vc', h189, hrow⟩ := g13
                        exact does_value (v := .slice va' (([] : List SegD).length + 1) vc') (w' := W) (by simp only [execOp, h189]; simp [go_sem]) ⟨⟨va', vc', rfl, hrow⟩, hC, Nat.le_refl _, fun _ _ _ h _ _ => h⟩
                    · intro vs wE hC hI hg
                      obtain ⟨va', vc', h9, ho⟩ := hg 14 (by decide) (fun k => by simp)
                      change vs 14 = _ at h9
                      clear hg hI
                      change Exit.then _ _ _ (laidBy _ vs _ 15 _) wE
                      simp only [laidBy, if_true, dstAt, List.getElem?_toArray, List.getElem?_cons_succ, List.getElem?_cons_zero, Option.bind_some]
                      simp only [Act.put, List.setIfInBounds_toArray, List.set_cons_succ, List.set_cons_zero]
                      rw [h9]
                      have HSX := hid (show StTo lo g w wE (D2) from ⟨⟨LG.out, ao, cap, hC.2.1, hC.2.2⟩, hC.1⟩)
                      have HRX := hid (show wE.ownsRow lo 42 4 (.slice va' (([] : List SegD) ++ [(⟨addNum D2.una (D2.sent + 1), D2.rcv, 2, ⟨#[]⟩⟩ : SegD)]).length vc') (([] : List SegD) ++ [(⟨addNum D2.una (D2.sent + 1), D2.rcv, 2, ⟨#[]⟩⟩ : SegD)]).length (segCells (([] : List SegD) ++ [(⟨addNum D2.una (D2.sent + 1), D2.rcv, 2, ⟨#[]⟩⟩ : SegD)])) by rw [List.length_append]; exact ho)
                      clear h9 ho hC XB HO HLT BT
                      obtain ⟨_, ao6, cap6, hb6, _⟩ := HSX.out.1
                      have k10b := hb6.cell (j := 10) rfl
                      have j10b := hb6.thaw 10
                      clear hb6
                      have HSY := hid (HSX.out.owe false)
                      have HRY := hid (segs_beside (j := 10) (u := .bool false) HSX.out.1 HRX.out)
                      go_wp2
                      go_ret
                      exact (by rw [hOD2.out, hOS3.out]; exact ⟨_, _, rfl, HSY.out, HRY.out⟩)
                  · have q2b : (D2.fin == 2) = false := by rw [beq_eq_false_iff_ne]; exact q2
                    have hOS3 : Hid (openSegs now d = [⟨addNum D2.una (D2.sent), D2.rcv, 2, ⟨#[]⟩⟩]) := by show _ = _; rw [hOS2.out, oweSeg, flightD, if_neg q2]; rfl
                    clear q2 hOS2
                    obtain ⟨⟨hlg, ao, cap, hbx, hlt9⟩, hbt⟩ := HE4.out
                    have XB := hid hbx
                    have HLT := hid hlt9
                    have LG := hid hlg
                    have BT := hid hbt
                    clear hlg hbx hlt9 hbt
                    have HO := HO4
                    have HN : Hid (([] : List SegD).length ≤ 25) := (by show _ ≤ _; simp)
                    clear HE4 HO4
                    go_wp2
                    refine wp_region_late_b (N := 194) (by kernel_rfl) (by kernel_rfl) rfl (by kernel_rfl) [(0, .pointer (some ⟨g, 0, none⟩)), (5, .slice sa 0 sq), (7, .int .i64 (D2.sent))] (by intro p hp; simp only [List.mem_cons, List.not_mem_nil, or_false] at hp; rcases hp with rfl | rfl | rfl <;> rfl) (fun W => Below lo w W ∧ BlockIs W g 28 [.int .i64 D2.st, .int .i64 D2.iss, .int .i64 D2.una, .int .i64 D2.rcv, .string D2.wait, .int .i64 D2.sent, .int .i64 D2.fin, .bool D2.pf, .string D2.inn, .slice ao D2.late.length cap, .bool D2.owe, .int .i64 D2.due, .int .i64 D2.times] ∧ OwnsL W lo (D2).late ao cap) (fun j v _ W => match j with | 0 => v = .slice sa 0 sq | 1 => v = .pointer (some ⟨g, 0, none⟩) | 2 => v = .pointer (some ⟨g, 0, none⟩) | 3 => v = .pointer (some ⟨g, 2, none⟩) | 4 => v = .int .i64 D2.una | 5 => v = .int .i64 (D2.sent) | 6 => v = .int .i64 (addNum (D2).una (D2.sent)) | 7 => v = .pointer (some ⟨g, 0, none⟩) | 8 => v = .pointer (some ⟨g, 0, none⟩) | 9 => v = .pointer (some ⟨g, 3, none⟩) | 10 => v = .int .i64 D2.rcv | 11 => v = .agg #[.int .i64 (addNum (D2).una (D2.sent)), .int .i64 D2.rcv, .int .i64 2, .string ⟨#[]⟩] | 12 => ∃ g : Nat, v = .slice (some ⟨g, 0, none⟩) 1 1 ∧ BlockIs W g 42 (segEnc ⟨addNum D2.una (D2.sent), D2.rcv, 2, ⟨#[]⟩⟩) | 13 => ∃ (va' : Option Addr) (vc' : Nat), v = .slice va' (([] : List SegD).length + 1) vc' ∧ W.ownsRow lo 42 4 (.slice va' (([] : List SegD).length + 1) vc') (([] : List SegD).length + 1) (segCells (([] : List SegD) ++ [⟨addNum D2.una (D2.sent), D2.rcv, 2, ⟨#[]⟩⟩])) | 14 => ∃ (va' : Option Addr) (vc' : Nat), v = .slice va' (([] : List SegD).length + 1) vc' ∧ W.ownsRow lo 42 4 (.slice va' (([] : List SegD).length + 1) vc') (([] : List SegD).length + 1) (segCells (([] : List SegD) ++ [⟨addNum D2.una (D2.sent), D2.rcv, 2, ⟨#[]⟩⟩])) | _ => True) (fun i => i) (fun j i => decide ((j, i) ∈ ([(12, 13)] : List (Nat × Nat)))) (fun i x y => x.heap.size ≤ y.heap.size ∧ ∀ g ty cs, BlockIs x g ty cs → (i = 13 → ty ≠ 42) → (i = 999 → ty ≠ 0) → BlockIs y g ty cs) (fun q9 W => match q9 with | 0 => W.ownsRow lo 42 4 (.slice sa 0 sq) ([] : List SegD).length (segCells ([] : List SegD)) | _ => True) (fun m k => decide ((m, k) ∈ ([(0, 13)] : List (Nat × Nat)))) ?_ (fun _ => 0) (by kernel_rfl) (fun _ _ => rfl) ?_ ⟨BT.out.trans ((below_drewN (Below.refl wc.heap.size wc) 1).mono (Nat.le_trans LO.out BT.out.size)), XB.out.on (below_drewN (Below.refl wc.heap.size wc) 1) XB.out.lt, HLT.out.on (below_drewN (Below.refl wc.heap.size wc) 1)⟩ (fun q9 => match q9 with | 0 => segR_below HO.out (below_drewN (Below.refl wc.heap.size wc) 1) | _ + 1 => trivial) ?_ ?_
                    · intro i m x y hen hxy hm
                      match m, hen, hm with
                      | 0, hen, hm =>
                        simp at hen
                        exact row_ext hm (fun g cs h => hxy.2 _ _ _ h (fun e => absurd e hen) (fun _ => by decide))
                      | n + 1, _, _ => exact trivial
                    · intro i j v u x y hij hdd hwt hxy hg
                      match j, hg with
                      | 0, hg => exact hg
                      | 1, hg => exact hg
                      | 2, hg => exact hg
                      | 3, hg => exact hg
                      | 4, hg => exact hg
                      | 5, hg => exact hg
                      | 6, hg => exact hg
                      | 7, hg => exact hg
                      | 8, hg => exact hg
                      | 9, hg => exact hg
                      | 10, hg => exact hg
                      | 11, hg => exact hg
                      | 12, hg =>
                        obtain ⟨g, e1, e2⟩ := hg
                        simp at hdd
                        exact ⟨g, e1, hxy.2 _ _ _ e2 (fun e => absurd e hdd) (fun _ => by decide)⟩
                      | 13, hg =>
                        obtain ⟨va', vc', e1, e2⟩ := hg
                        exact ⟨va', vc', e1, row_ext e2 (fun g cs h => hxy.2 _ _ _ h (fun e => absurd e hij) (fun _ => by decide))⟩
                      | 14, hg =>
                        obtain ⟨va', vc', e1, e2⟩ := hg
                        have h6 : i ≠ 13 := by rintro rfl; exact Bool.noConfusion (hwt.symm.trans (by kernel_rfl : waitsB _ 14 13 = true))
                        exact ⟨va', vc', e1, row_ext e2 (fun g cs h => hxy.2 _ _ _ h (fun e => absurd e h6) (fun _ => by decide))⟩
                      | n + 15, _ => exact trivial
                    · refine ⟨?_, ?_, ?_, ?_, ?_, ?_, ?_, ?_, ?_, ?_, ?_, ?_, ?_, ?_, ?_, trivial⟩
                      · intro A W hC hI hg hb
                        have h5 : A.eval (.tmp 5) = .slice sa 0 sq := hb 5 _ (.tail _ (.head _)) (late_of (by kernel_rfl))
                        exact does_value (v := .slice sa 0 sq) (w' := W) (by simp only [execOp, h5]; simp [go_sem]) ⟨rfl, hC, Nat.le_refl _, fun _ _ _ h _ _ => h⟩
                      · intro A W hC hI hg hb
                        have h0 : A.eval (.tmp 0) = .pointer (some ⟨g, 0, none⟩) := hb 0 _ (.head _) (late_of (by kernel_rfl))
                        exact does_value (v := .pointer (some ⟨g, 0, none⟩)) (w' := W) (by simp only [execOp, h0]; simp [go_sem]) ⟨rfl, hC, Nat.le_refl _, fun _ _ _ h _ _ => h⟩
                      · intro A W hC hI hg hb
                        have h177 : A.eval (.tmp 177) = .pointer (some ⟨g, 0, none⟩) := hg 1 177 (by decide) rfl (by simp [Op.operands]) (by kernel_rfl) (by kernel_rfl) rfl
                        exact does_value (v := .pointer (some ⟨g, 0, none⟩)) (w' := W) (by simp only [execOp, h177]; simp [go_sem]) ⟨rfl, hC, Nat.le_refl _, fun _ _ _ h _ _ => h⟩
                      · intro A W hC hI hg hb
                        have h178 : A.eval (.tmp 178) = .pointer (some ⟨g, 0, none⟩) := hg 2 178 (by decide) rfl (by simp [Op.operands]) (by kernel_rfl) (by kernel_rfl) rfl
                        exact does_value (v := .pointer (some ⟨g, 2, none⟩)) (w' := W) (by simp only [execOp, h178]; simp [go_sem]) ⟨rfl, hC, Nat.le_refl _, fun _ _ _ h _ _ => h⟩
                      · intro A W hC hI hg hb
                        have h179 : A.eval (.tmp 179) = .pointer (some ⟨g, 2, none⟩) := hg 3 179 (by decide) rfl (by simp [Op.operands]) (by kernel_rfl) (by kernel_rfl) rfl
                        have hb1 : BlockIs W g 28 [.int .i64 D2.st, .int .i64 D2.iss, .int .i64 D2.una, .int .i64 D2.rcv, .string D2.wait, .int .i64 D2.sent, .int .i64 D2.fin, .bool D2.pf, .string D2.inn, .slice ao D2.late.length cap, .bool D2.owe, .int .i64 D2.due, .int .i64 D2.times] := hC.2.1
                        have hc0 := hb1.cell (j := 2) rfl
                        exact does_value (v := .int .i64 D2.una) (w' := W) (by simp only [execOp, h179]; simp [go_sem, hc0]) ⟨rfl, hC, Nat.le_refl _, fun _ _ _ h _ _ => h⟩
                      · intro A W hC hI hg hb
                        have h7 : A.eval (.tmp 7) = .int .i64 (D2.sent) := hb 7 _ (.tail _ (.tail _ (.head _))) (late_of (by kernel_rfl))
                        exact does_value (v := .int .i64 (D2.sent)) (w' := W) (by simp only [execOp, h7]; simp [go_sem]) ⟨rfl, hC, Nat.le_refl _, fun _ _ _ h _ _ => h⟩
                      · intro A W hC hI hg hb
                        have h180 : A.eval (.tmp 180) = .int .i64 D2.una := hg 4 180 (by decide) rfl (by simp [Op.operands, Call.operands]) (by kernel_rfl) (by kernel_rfl) rfl
                        have h181 : A.eval (.tmp 181) = .int .i64 (D2.sent) := hg 5 181 (by decide) rfl (by simp [Op.operands, Call.operands]) (by kernel_rfl) (by kernel_rfl) rfl
                        simp [go_sem] at h180 h181
                        refine does_enter (f := 36) (args := #[.int .i64 D2.una, .int .i64 (D2.sent)]) (w' := W) (by simp [go_sem, h180, h181]) ?_
                        refine (specAddNum_any (D2).una (D2.sent) W).mono ?_
                        rintro e W' ⟨rfl, hw⟩
                        rw [hw]
                        exact ⟨_, rfl, rfl, hC, Nat.le_refl _, fun _ _ _ h _ _ => h⟩
                      · intro A W hC hI hg hb
                        have h0 : A.eval (.tmp 0) = .pointer (some ⟨g, 0, none⟩) := hb 0 _ (.head _) (late_of (by kernel_rfl))
                        exact does_value (v := .pointer (some ⟨g, 0, none⟩)) (w' := W) (by simp only [execOp, h0]; simp [go_sem]) ⟨rfl, hC, Nat.le_refl _, fun _ _ _ h _ _ => h⟩
                      · intro A W hC hI hg hb
                        have h183 : A.eval (.tmp 183) = .pointer (some ⟨g, 0, none⟩) := hg 7 183 (by decide) rfl (by simp [Op.operands]) (by kernel_rfl) (by kernel_rfl) rfl
                        exact does_value (v := .pointer (some ⟨g, 0, none⟩)) (w' := W) (by simp only [execOp, h183]; simp [go_sem]) ⟨rfl, hC, Nat.le_refl _, fun _ _ _ h _ _ => h⟩
                      · intro A W hC hI hg hb
                        have h184 : A.eval (.tmp 184) = .pointer (some ⟨g, 0, none⟩) := hg 8 184 (by decide) rfl (by simp [Op.operands]) (by kernel_rfl) (by kernel_rfl) rfl
                        exact does_value (v := .pointer (some ⟨g, 3, none⟩)) (w' := W) (by simp only [execOp, h184]; simp [go_sem]) ⟨rfl, hC, Nat.le_refl _, fun _ _ _ h _ _ => h⟩
                      · intro A W hC hI hg hb
                        have h185 : A.eval (.tmp 185) = .pointer (some ⟨g, 3, none⟩) := hg 9 185 (by decide) rfl (by simp [Op.operands]) (by kernel_rfl) (by kernel_rfl) rfl
                        have hb1 : BlockIs W g 28 [.int .i64 D2.st, .int .i64 D2.iss, .int .i64 D2.una, .int .i64 D2.rcv, .string D2.wait, .int .i64 D2.sent, .int .i64 D2.fin, .bool D2.pf, .string D2.inn, .slice ao D2.late.length cap, .bool D2.owe, .int .i64 D2.due, .int .i64 D2.times] := hC.2.1
                        have hc0 := hb1.cell (j := 3) rfl
                        exact does_value (v := .int .i64 D2.rcv) (w' := W) (by simp only [execOp, h185]; simp [go_sem, hc0]) ⟨rfl, hC, Nat.le_refl _, fun _ _ _ h _ _ => h⟩
                      · intro A W hC hI hg hb
                        have h182 : A.eval (.tmp 182) = .int .i64 (addNum (D2).una (D2.sent)) := hg 6 182 (by decide) rfl (by simp [Op.operands]) (by kernel_rfl) (by kernel_rfl) rfl
                        have h186 : A.eval (.tmp 186) = .int .i64 D2.rcv := hg 10 186 (by decide) rfl (by simp [Op.operands]) (by kernel_rfl) (by kernel_rfl) rfl
                        simp [go_sem] at h182 h186
                        exact does_value (v := .agg #[.int .i64 (addNum (D2).una (D2.sent)), .int .i64 D2.rcv, .int .i64 2, .string ⟨#[]⟩]) (w' := W) (by simp [execOp, go_sem, h182, h186]) ⟨rfl, hC, Nat.le_refl _, fun _ _ _ h _ _ => h⟩
                      · intro A W hC hI hg hb
                        have h187 : A.eval (.tmp 187) = .agg #[.int .i64 (addNum (D2).una (D2.sent)), .int .i64 D2.rcv, .int .i64 2, .string ⟨#[]⟩] := hg 11 187 (by decide) rfl (by simp [Op.operands]) (by kernel_rfl) (by kernel_rfl) rfl
                        simp [go_sem] at h187
                        have ba := below_more (Below.refl W.heap.size W) (.cells #[.int .i64 (addNum (D2).una (D2.sent)), .int .i64 D2.rcv, .int .i64 2, .string ⟨#[]⟩] 42)
                        exact does_value (v := .slice (some ⟨W.heap.size, 0, none⟩) 1 1) (w' := W.alloc (.cells #[.int .i64 (addNum (D2).una (D2.sent)), .int .i64 D2.rcv, .int .i64 2, .string ⟨#[]⟩] 42)) (by simp [execOp, go_sem, h187]) ⟨⟨_, rfl, heap_alloc_new W _⟩, ⟨hC.1.trans (ba.mono (by have := hC.1.size; have := LO.out; omega)), hC.2.1.on ba hC.2.1.lt, hC.2.2.on ba⟩, ba.size, fun g ty cs h _ _ => h.on ba h.lt⟩
                      · intro A W hC hI hg hb
                        have h176 : A.eval (.tmp 176) = .slice sa 0 sq := hg 0 176 (by decide) rfl (by simp [Op.operands, Call.operands]) (by kernel_rfl) (by kernel_rfl) rfl
                        have g12 := hg 12 188 (by decide) rfl (by simp [Op.operands, Call.operands]) (by kernel_rfl) (by kernel_rfl) rfl
                        obtain ⟨g, h188, hbl⟩ := g12
                        have hrow : W.ownsRow lo 42 4 (.slice sa 0 sq) ([] : List SegD).length (segCells ([] : List SegD)) := hI 0 (by kernel_rfl)
                        have hM : SegsAt W (some ⟨g, 0, none⟩) [⟨addNum D2.una (D2.sent), D2.rcv, 2, ⟨#[]⟩⟩] := segsAt_of (r := []) (by rw [List.append_nil]; simpa [segCells] using hbl)
                        obtain ⟨v', W', hr, h2, h3⟩ := append_segs (c := 1) (by rw [List.length_singleton]; have := HN.out; omega) (by have := hC.1.size; have := LO.out; omega) hrow hM
                        obtain ⟨va', vc', rfl⟩ := row_shape h2
                        rw [List.length_append, List.length_singleton] at h2 hr
                        have hr1 : (Builtin.append_ #[29, 29] 29 #[.slice sa 0 sq, .slice (some ⟨g, 0, none⟩) 1 1]).run Try.prog W = .ok (.slice va' (([] : List SegD).length + 1) vc') W' := hr
                        have hK : ∀ p ty cs, BlockIs W p ty cs → ty ≠ 42 → BlockIs W' p ty cs := fun p ty cs hp hne => segR_other hp hrow h3 hne
                        refine does_value (v := .slice va' (([] : List SegD).length + 1) vc') (w' := W') (by simp only [execOp, resolve, invoke, builtin, Sem.run_bind, Sem.run_pure, Result.andThen_ok, List.map_toArray, List.map_cons, List.map_nil, h176, h188, hr1]) ⟨⟨va', vc', rfl, h2⟩, ⟨segR_down hC.1 hrow h3 (Nat.le_refl _) (by have := hC.1.size; have := LO.out; omega), hK _ _ _ hC.2.1 (by decide), row_ext hC.2.2 (fun g cs h => hK g _ cs h (by decide))⟩, h3.size, fun p ty cs hp hne _ => hK p ty cs hp (hne rfl)⟩
                      · intro A W hC hI hg hb
                        have g13 := hg 13 189 (by decide) rfl (by simp [Op.operands]) (by kernel_rfl) (by kernel_rfl) rfl
                        obtain ⟨va', vc', h189, hrow⟩ := g13
                        exact does_value (v := .slice va' (([] : List SegD).length + 1) vc') (w' := W) (by simp only [execOp, h189]; simp [go_sem]) ⟨⟨va', vc', rfl, hrow⟩, hC, Nat.le_refl _, fun _ _ _ h _ _ => h⟩
                    · intro vs wE hC hI hg
                      obtain ⟨va', vc', h9, ho⟩ := hg 14 (by decide) (fun k => by simp)
                      change vs 14 = _ at h9
                      clear hg hI
                      change Exit.then _ _ _ (laidBy _ vs _ 15 _) wE
                      simp only [laidBy, if_true, dstAt, List.getElem?_toArray, List.getElem?_cons_succ, List.getElem?_cons_zero, Option.bind_some]
                      simp only [Act.put, List.setIfInBounds_toArray, List.set_cons_succ, List.set_cons_zero]
                      rw [h9]
                      have HSX := hid (show StTo lo g w wE (D2) from ⟨⟨LG.out, ao, cap, hC.2.1, hC.2.2⟩, hC.1⟩)
                      have HRX := hid (show wE.ownsRow lo 42 4 (.slice va' (([] : List SegD) ++ [(⟨addNum D2.una (D2.sent), D2.rcv, 2, ⟨#[]⟩⟩ : SegD)]).length vc') (([] : List SegD) ++ [(⟨addNum D2.una (D2.sent), D2.rcv, 2, ⟨#[]⟩⟩ : SegD)]).length (segCells (([] : List SegD) ++ [(⟨addNum D2.una (D2.sent), D2.rcv, 2, ⟨#[]⟩⟩ : SegD)])) by rw [List.length_append]; exact ho)
                      clear h9 ho hC XB HO HLT BT
                      obtain ⟨_, ao6, cap6, hb6, _⟩ := HSX.out.1
                      have k10b := hb6.cell (j := 10) rfl
                      have j10b := hb6.thaw 10
                      clear hb6
                      have HSY := hid (HSX.out.owe false)
                      have HRY := hid (segs_beside (j := 10) (u := .bool false) HSX.out.1 HRX.out)
                      go_wp2
                      go_ret
                      exact (by rw [hOD2.out, hOS3.out]; exact ⟨_, _, rfl, HSY.out, HRY.out⟩)
        have hlt' : (s : Int) < (R : Int) := by omega
        have q1d : decide ((s : Int) < (D1.wait.size : Int)) = true := decide_eq_true (by omega)
        have q2d : decide ((s : Int) < 24) = true := decide_eq_true (by omega)
        have q1p : (s : Int) < (D1.wait.size : Int) := by omega
        have q2p : (s : Int) < 24 := by omega
        go_upto_region 6 with fail
        go_cut [63] (fun c wx => c = .bool true ∧ Hid (Below wr.heap.size wr wx))
        case first =>
          go_quiet (fail)
          go_wp2_with fail
          go_meet
          exact ⟨rfl, below_drewN (Below.refl _ _) _⟩
        case rest =>
          obtain ⟨rfl, HC⟩ := hcut
          have HE3 := hid (HE.out.on HC.out)
          have HO3 := hid (segR_below HO.out HC.out)
          clear HC HE HO c4 c5 q1d q2d
          obtain ⟨_, ao3, cap3, hb3, _⟩ := HE3.out.1
          have c4 := hb3.cell (j := 4) rfl
          have c5 := hb3.cell (j := 5) rfl
          clear hb3
          dsimp only at c4 c5
          obtain ⟨nn, hnn⟩ : ∃ nn : Nat, min 8 (R - s) = nn := ⟨_, rfl⟩
          have HNN := hid hnn
          obtain ⟨nx, hnx⟩ : ∃ nx : Nat, min (s + 8) R = nx := ⟨_, rfl⟩
          have HNX := hid hnx
          have hnx2 : s + nn = nx ∧ nx ≤ R ∧ s < nx ∧ nn ≤ 8 := by omega
          obtain ⟨n1, n2, n3, n4⟩ := hnx2
          have m1 := fun w => l13Less_any D1.wait.size 24 w
          rw [show min (D1.wait.size : Int) 24 = (R : Int) by have := HR24.out; omega] at m1
          have M1 := hid m1
          have m2 := fun w => l13Less_any 8 ((R : Int) - (s : Int)) w
          rw [show min (8 : Int) ((R : Int) - (s : Int)) = (nn : Int) by omega] at m2
          have M2 := hid m2
          clear m1 m2 hnn hnx
          go_upto_region 7 with fail
          go_cut [6] (fun c wx => c = .int .i64 (nn : Int) ∧ Hid (Below wc.heap.size wc wx))
          case first =>
            go_quiet (first | (go_at_call 42; with_reducible refine Calls.quiet_of_same (M1.out _)) | (go_at_call 42; with_reducible refine Calls.quiet_of_same (M2.out _)) | fail)
            go_wp2_with fail
            go_meet
            exact ⟨rfl, below_drewN (Below.refl _ _) _⟩
          case rest =>
            obtain ⟨rfl, HC⟩ := hcut
            have HE4 := hid (HE3.out.on HC.out)
            have HO4 := hid (segR_below HO3.out HC.out)
            clear HC HE3 HO3 c4 c5 M1 M2
            obtain ⟨tx, htx⟩ : ∃ tx, D1.wait.extract s nx = tx := ⟨_, rfl⟩
            have hw64 : IntKind.i64.wrap ((s : Int) + (nn : Int)) = (nx : Int) := by simp [IntKind.wrap, IntKind.signed, IntKind.bits]; omega
            have i1 : s ≤ nx := by omega
            have i2 : nx ≤ D1.wait.size := by omega
            have hO25 : o2.length ≤ 25 := by have := HN.out; omega
            obtain ⟨⟨hlg, ao, cap, hbx, hlt9⟩, hbt⟩ := HE4.out
            have XB := hid hbx
            have HLT := hid hlt9
            have LG := hid hlg
            have BT := hid hbt
            clear hlg hbx hlt9 hbt
            have HO := HO4
            have HN0 := HN
            clear HN
            have HN := hid hO25
            clear HE4 HO4
            go_wp2
            refine wp_region_late_b (N := 194) (by kernel_rfl) (by kernel_rfl) rfl (by kernel_rfl) [(0, .pointer (some ⟨g, 0, none⟩)), (5, .slice sa o2.length sq), (6, .int .i64 (nn : Int))] (by intro p hp; simp only [List.mem_cons, List.not_mem_nil, or_false] at hp; rcases hp with rfl | rfl | rfl <;> rfl) (fun W => Below lo w W ∧ BlockIs W g 28 [.int .i64 D1.st, .int .i64 D1.iss, .int .i64 D1.una, .int .i64 D1.rcv, .string D1.wait, .int .i64 (s : Int), .int .i64 D1.fin, .bool D1.pf, .string D1.inn, .slice ao D1.late.length cap, .bool D1.owe, .int .i64 D1.due, .int .i64 D1.times] ∧ OwnsL W lo D1.late ao cap) (fun j v _ W => match j with | 0 => v = .slice sa o2.length sq | 1 => v = .pointer (some ⟨g, 0, none⟩) | 2 => v = .pointer (some ⟨g, 0, none⟩) | 3 => v = .pointer (some ⟨g, 2, none⟩) | 4 => v = .int .i64 D1.una | 5 => v = .pointer (some ⟨g, 0, none⟩) | 6 => v = .pointer (some ⟨g, 0, none⟩) | 7 => v = .pointer (some ⟨g, 5, none⟩) | 8 => v = .int .i64 (s : Int) | 9 => v = .int .i64 (addNum D1.una (s : Int)) | 10 => v = .pointer (some ⟨g, 0, none⟩) | 11 => v = .pointer (some ⟨g, 0, none⟩) | 12 => v = .pointer (some ⟨g, 3, none⟩) | 13 => v = .int .i64 D1.rcv | 14 => v = .pointer (some ⟨g, 0, none⟩) | 15 => v = .pointer (some ⟨g, 0, none⟩) | 16 => v = .pointer (some ⟨g, 4, none⟩) | 17 => v = .string D1.wait | 18 => v = .pointer (some ⟨g, 0, none⟩) | 19 => v = .pointer (some ⟨g, 0, none⟩) | 20 => v = .pointer (some ⟨g, 5, none⟩) | 21 => v = .int .i64 (s : Int) | 22 => v = .pointer (some ⟨g, 0, none⟩) | 23 => v = .pointer (some ⟨g, 0, none⟩) | 24 => v = .pointer (some ⟨g, 5, none⟩) | 25 => v = .int .i64 (s : Int) | 26 => v = .int .i64 (nn : Int) | 27 => v = .int .i64 (nx : Int) | 28 => v = .string tx | 29 => v = .agg #[.int .i64 (addNum D1.una (s : Int)), .int .i64 D1.rcv, .int .i64 2, .string tx] | 30 => ∃ g : Nat, v = .slice (some ⟨g, 0, none⟩) 1 1 ∧ BlockIs W g 42 (segEnc ⟨addNum D1.una (s : Int), D1.rcv, 2, tx⟩) | 31 => ∃ (va' : Option Addr) (vc' : Nat), v = .slice va' (o2.length + 1) vc' ∧ W.ownsRow lo 42 4 (.slice va' (o2.length + 1) vc') (o2.length + 1) (segCells (o2 ++ [⟨addNum D1.una (s : Int), D1.rcv, 2, tx⟩])) | 32 => ∃ (va' : Option Addr) (vc' : Nat), v = .slice va' (o2.length + 1) vc' ∧ W.ownsRow lo 42 4 (.slice va' (o2.length + 1) vc') (o2.length + 1) (segCells (o2 ++ [⟨addNum D1.una (s : Int), D1.rcv, 2, tx⟩])) | _ => True) (fun i => i) (fun j i => decide ((j, i) ∈ ([(30, 31)] : List (Nat × Nat)))) (fun i x y => x.heap.size ≤ y.heap.size ∧ ∀ g ty cs, BlockIs x g ty cs → (i = 31 → ty ≠ 42) → (i = 999 → ty ≠ 0) → BlockIs y g ty cs) (fun q9 W => match q9 with | 0 => W.ownsRow lo 42 4 (.slice sa o2.length sq) o2.length (segCells o2) | _ => True) (fun m k => decide ((m, k) ∈ ([(0, 31)] : List (Nat × Nat)))) ?_ (fun _ => 0) (by kernel_rfl) (fun _ _ => rfl) ?_ ⟨BT.out.trans ((below_drewN (Below.refl wc.heap.size wc) 1).mono (Nat.le_trans LO.out BT.out.size)), XB.out.on (below_drewN (Below.refl wc.heap.size wc) 1) XB.out.lt, HLT.out.on (below_drewN (Below.refl wc.heap.size wc) 1)⟩ (fun q9 => match q9 with | 0 => segR_below HO.out (below_drewN (Below.refl wc.heap.size wc) 1) | _ + 1 => trivial) ?_ ?_
            · intro i m x y hen hxy hm
              match m, hen, hm with
              | 0, hen, hm =>
                simp at hen
                exact row_ext hm (fun g cs h => hxy.2 _ _ _ h (fun e => absurd e hen) (fun _ => by decide))
              | n + 1, _, _ => exact trivial
            · intro i j v u x y hij hdd hwt hxy hg
              match j, hg with
              | 0, hg => exact hg
              | 1, hg => exact hg
              | 2, hg => exact hg
              | 3, hg => exact hg
              | 4, hg => exact hg
              | 5, hg => exact hg
              | 6, hg => exact hg
              | 7, hg => exact hg
              | 8, hg => exact hg
              | 9, hg => exact hg
              | 10, hg => exact hg
              | 11, hg => exact hg
              | 12, hg => exact hg
              | 13, hg => exact hg
              | 14, hg => exact hg
              | 15, hg => exact hg
              | 16, hg => exact hg
              | 17, hg => exact hg
              | 18, hg => exact hg
              | 19, hg => exact hg
              | 20, hg => exact hg
              | 21, hg => exact hg
              | 22, hg => exact hg
              | 23, hg => exact hg
              | 24, hg => exact hg
              | 25, hg => exact hg
              | 26, hg => exact hg
              | 27, hg => exact hg
              | 28, hg => exact hg
              | 29, hg => exact hg
              | 30, hg =>
                obtain ⟨g, e1, e2⟩ := hg
                simp at hdd
                exact ⟨g, e1, hxy.2 _ _ _ e2 (fun e => absurd e hdd) (fun _ => by decide)⟩
              | 31, hg =>
                obtain ⟨va', vc', e1, e2⟩ := hg
                exact ⟨va', vc', e1, row_ext e2 (fun g cs h => hxy.2 _ _ _ h (fun e => absurd e hij) (fun _ => by decide))⟩
              | 32, hg =>
                obtain ⟨va', vc', e1, e2⟩ := hg
                have h6 : i ≠ 31 := by rintro rfl; exact Bool.noConfusion (hwt.symm.trans (by kernel_rfl : waitsB _ 32 31 = true))
                exact ⟨va', vc', e1, row_ext e2 (fun g cs h => hxy.2 _ _ _ h (fun e => absurd e h6) (fun _ => by decide))⟩
              | n + 33, _ => exact trivial
            · refine ⟨?_, ?_, ?_, ?_, ?_, ?_, ?_, ?_, ?_, ?_, ?_, ?_, ?_, ?_, ?_, ?_, ?_, ?_, ?_, ?_, ?_, ?_, ?_, ?_, ?_, ?_, ?_, ?_, ?_, ?_, ?_, ?_, ?_, trivial⟩
              · intro A W hC hI hg hb
                have h5 : A.eval (.tmp 5) = .slice sa o2.length sq := hb 5 _ (.tail _ (.head _)) (late_of (by kernel_rfl))
                exact does_value (v := .slice sa o2.length sq) (w' := W) (by simp only [execOp, h5]; simp [go_sem]) ⟨rfl, hC, Nat.le_refl _, fun _ _ _ h _ _ => h⟩
              · intro A W hC hI hg hb
                have h0 : A.eval (.tmp 0) = .pointer (some ⟨g, 0, none⟩) := hb 0 _ (.head _) (late_of (by kernel_rfl))
                exact does_value (v := .pointer (some ⟨g, 0, none⟩)) (w' := W) (by simp only [execOp, h0]; simp [go_sem]) ⟨rfl, hC, Nat.le_refl _, fun _ _ _ h _ _ => h⟩
              · intro A W hC hI hg hb
                have h77 : A.eval (.tmp 77) = .pointer (some ⟨g, 0, none⟩) := hg 1 77 (by decide) rfl (by simp [Op.operands]) (by kernel_rfl) (by kernel_rfl) rfl
                exact does_value (v := .pointer (some ⟨g, 0, none⟩)) (w' := W) (by simp only [execOp, h77]; simp [go_sem]) ⟨rfl, hC, Nat.le_refl _, fun _ _ _ h _ _ => h⟩
              · intro A W hC hI hg hb
                have h78 : A.eval (.tmp 78) = .pointer (some ⟨g, 0, none⟩) := hg 2 78 (by decide) rfl (by simp [Op.operands]) (by kernel_rfl) (by kernel_rfl) rfl
                exact does_value (v := .pointer (some ⟨g, 2, none⟩)) (w' := W) (by simp only [execOp, h78]; simp [go_sem]) ⟨rfl, hC, Nat.le_refl _, fun _ _ _ h _ _ => h⟩
              · intro A W hC hI hg hb
                have h79 : A.eval (.tmp 79) = .pointer (some ⟨g, 2, none⟩) := hg 3 79 (by decide) rfl (by simp [Op.operands]) (by kernel_rfl) (by kernel_rfl) rfl
                have hb1 : BlockIs W g 28 [.int .i64 D1.st, .int .i64 D1.iss, .int .i64 D1.una, .int .i64 D1.rcv, .string D1.wait, .int .i64 (s : Int), .int .i64 D1.fin, .bool D1.pf, .string D1.inn, .slice ao D1.late.length cap, .bool D1.owe, .int .i64 D1.due, .int .i64 D1.times] := hC.2.1
                have hc0 := hb1.cell (j := 2) rfl
                exact does_value (v := .int .i64 D1.una) (w' := W) (by simp only [execOp, h79]; simp [go_sem, hc0]) ⟨rfl, hC, Nat.le_refl _, fun _ _ _ h _ _ => h⟩
              · intro A W hC hI hg hb
                have h0 : A.eval (.tmp 0) = .pointer (some ⟨g, 0, none⟩) := hb 0 _ (.head _) (late_of (by kernel_rfl))
                exact does_value (v := .pointer (some ⟨g, 0, none⟩)) (w' := W) (by simp only [execOp, h0]; simp [go_sem]) ⟨rfl, hC, Nat.le_refl _, fun _ _ _ h _ _ => h⟩
              · intro A W hC hI hg hb
                have h81 : A.eval (.tmp 81) = .pointer (some ⟨g, 0, none⟩) := hg 5 81 (by decide) rfl (by simp [Op.operands]) (by kernel_rfl) (by kernel_rfl) rfl
                exact does_value (v := .pointer (some ⟨g, 0, none⟩)) (w' := W) (by simp only [execOp, h81]; simp [go_sem]) ⟨rfl, hC, Nat.le_refl _, fun _ _ _ h _ _ => h⟩
              · intro A W hC hI hg hb
                have h82 : A.eval (.tmp 82) = .pointer (some ⟨g, 0, none⟩) := hg 6 82 (by decide) rfl (by simp [Op.operands]) (by kernel_rfl) (by kernel_rfl) rfl
                exact does_value (v := .pointer (some ⟨g, 5, none⟩)) (w' := W) (by simp only [execOp, h82]; simp [go_sem]) ⟨rfl, hC, Nat.le_refl _, fun _ _ _ h _ _ => h⟩
              · intro A W hC hI hg hb
                have h83 : A.eval (.tmp 83) = .pointer (some ⟨g, 5, none⟩) := hg 7 83 (by decide) rfl (by simp [Op.operands]) (by kernel_rfl) (by kernel_rfl) rfl
                have hb1 : BlockIs W g 28 [.int .i64 D1.st, .int .i64 D1.iss, .int .i64 D1.una, .int .i64 D1.rcv, .string D1.wait, .int .i64 (s : Int), .int .i64 D1.fin, .bool D1.pf, .string D1.inn, .slice ao D1.late.length cap, .bool D1.owe, .int .i64 D1.due, .int .i64 D1.times] := hC.2.1
                have hc0 := hb1.cell (j := 5) rfl
                exact does_value (v := .int .i64 (s : Int)) (w' := W) (by simp only [execOp, h83]; simp [go_sem, hc0]) ⟨rfl, hC, Nat.le_refl _, fun _ _ _ h _ _ => h⟩
              · intro A W hC hI hg hb
                have h80 : A.eval (.tmp 80) = .int .i64 D1.una := hg 4 80 (by decide) rfl (by simp [Op.operands, Call.operands]) (by kernel_rfl) (by kernel_rfl) rfl
                have h84 : A.eval (.tmp 84) = .int .i64 (s : Int) := hg 8 84 (by decide) rfl (by simp [Op.operands, Call.operands]) (by kernel_rfl) (by kernel_rfl) rfl
                simp [go_sem] at h80 h84
                refine does_enter (f := 36) (args := #[.int .i64 D1.una, .int .i64 (s : Int)]) (w' := W) (by simp [go_sem, h80, h84]) ?_
                refine (specAddNum_any D1.una (s : Int) W).mono ?_
                rintro e W' ⟨rfl, hw⟩
                rw [hw]
                exact ⟨_, rfl, rfl, hC, Nat.le_refl _, fun _ _ _ h _ _ => h⟩
              · intro A W hC hI hg hb
                have h0 : A.eval (.tmp 0) = .pointer (some ⟨g, 0, none⟩) := hb 0 _ (.head _) (late_of (by kernel_rfl))
                exact does_value (v := .pointer (some ⟨g, 0, none⟩)) (w' := W) (by simp only [execOp, h0]; simp [go_sem]) ⟨rfl, hC, Nat.le_refl _, fun _ _ _ h _ _ => h⟩
              · intro A W hC hI hg hb
                have h86 : A.eval (.tmp 86) = .pointer (some ⟨g, 0, none⟩) := hg 10 86 (by decide) rfl (by simp [Op.operands]) (by kernel_rfl) (by kernel_rfl) rfl
                exact does_value (v := .pointer (some ⟨g, 0, none⟩)) (w' := W) (by simp only [execOp, h86]; simp [go_sem]) ⟨rfl, hC, Nat.le_refl _, fun _ _ _ h _ _ => h⟩
              · intro A W hC hI hg hb
                have h87 : A.eval (.tmp 87) = .pointer (some ⟨g, 0, none⟩) := hg 11 87 (by decide) rfl (by simp [Op.operands]) (by kernel_rfl) (by kernel_rfl) rfl
                exact does_value (v := .pointer (some ⟨g, 3, none⟩)) (w' := W) (by simp only [execOp, h87]; simp [go_sem]) ⟨rfl, hC, Nat.le_refl _, fun _ _ _ h _ _ => h⟩
              · intro A W hC hI hg hb
                have h88 : A.eval (.tmp 88) = .pointer (some ⟨g, 3, none⟩) := hg 12 88 (by decide) rfl (by simp [Op.operands]) (by kernel_rfl) (by kernel_rfl) rfl
                have hb1 : BlockIs W g 28 [.int .i64 D1.st, .int .i64 D1.iss, .int .i64 D1.una, .int .i64 D1.rcv, .string D1.wait, .int .i64 (s : Int), .int .i64 D1.fin, .bool D1.pf, .string D1.inn, .slice ao D1.late.length cap, .bool D1.owe, .int .i64 D1.due, .int .i64 D1.times] := hC.2.1
                have hc0 := hb1.cell (j := 3) rfl
                exact does_value (v := .int .i64 D1.rcv) (w' := W) (by simp only [execOp, h88]; simp [go_sem, hc0]) ⟨rfl, hC, Nat.le_refl _, fun _ _ _ h _ _ => h⟩
              · intro A W hC hI hg hb
                have h0 : A.eval (.tmp 0) = .pointer (some ⟨g, 0, none⟩) := hb 0 _ (.head _) (late_of (by kernel_rfl))
                exact does_value (v := .pointer (some ⟨g, 0, none⟩)) (w' := W) (by simp only [execOp, h0]; simp [go_sem]) ⟨rfl, hC, Nat.le_refl _, fun _ _ _ h _ _ => h⟩
              · intro A W hC hI hg hb
                have h90 : A.eval (.tmp 90) = .pointer (some ⟨g, 0, none⟩) := hg 14 90 (by decide) rfl (by simp [Op.operands]) (by kernel_rfl) (by kernel_rfl) rfl
                exact does_value (v := .pointer (some ⟨g, 0, none⟩)) (w' := W) (by simp only [execOp, h90]; simp [go_sem]) ⟨rfl, hC, Nat.le_refl _, fun _ _ _ h _ _ => h⟩
              · intro A W hC hI hg hb
                have h91 : A.eval (.tmp 91) = .pointer (some ⟨g, 0, none⟩) := hg 15 91 (by decide) rfl (by simp [Op.operands]) (by kernel_rfl) (by kernel_rfl) rfl
                exact does_value (v := .pointer (some ⟨g, 4, none⟩)) (w' := W) (by simp only [execOp, h91]; simp [go_sem]) ⟨rfl, hC, Nat.le_refl _, fun _ _ _ h _ _ => h⟩
              · intro A W hC hI hg hb
                have h92 : A.eval (.tmp 92) = .pointer (some ⟨g, 4, none⟩) := hg 16 92 (by decide) rfl (by simp [Op.operands]) (by kernel_rfl) (by kernel_rfl) rfl
                have hb1 : BlockIs W g 28 [.int .i64 D1.st, .int .i64 D1.iss, .int .i64 D1.una, .int .i64 D1.rcv, .string D1.wait, .int .i64 (s : Int), .int .i64 D1.fin, .bool D1.pf, .string D1.inn, .slice ao D1.late.length cap, .bool D1.owe, .int .i64 D1.due, .int .i64 D1.times] := hC.2.1
                have hc0 := hb1.cell (j := 4) rfl
                exact does_value (v := .string D1.wait) (w' := W) (by simp only [execOp, h92]; simp [go_sem, hc0]) ⟨rfl, hC, Nat.le_refl _, fun _ _ _ h _ _ => h⟩
              · intro A W hC hI hg hb
                have h0 : A.eval (.tmp 0) = .pointer (some ⟨g, 0, none⟩) := hb 0 _ (.head _) (late_of (by kernel_rfl))
                exact does_value (v := .pointer (some ⟨g, 0, none⟩)) (w' := W) (by simp only [execOp, h0]; simp [go_sem]) ⟨rfl, hC, Nat.le_refl _, fun _ _ _ h _ _ => h⟩
              · intro A W hC hI hg hb
                have h94 : A.eval (.tmp 94) = .pointer (some ⟨g, 0, none⟩) := hg 18 94 (by decide) rfl (by simp [Op.operands]) (by kernel_rfl) (by kernel_rfl) rfl
                exact does_value (v := .pointer (some ⟨g, 0, none⟩)) (w' := W) (by simp only [execOp, h94]; simp [go_sem]) ⟨rfl, hC, Nat.le_refl _, fun _ _ _ h _ _ => h⟩
              · intro A W hC hI hg hb
                have h95 : A.eval (.tmp 95) = .pointer (some ⟨g, 0, none⟩) := hg 19 95 (by decide) rfl (by simp [Op.operands]) (by kernel_rfl) (by kernel_rfl) rfl
                exact does_value (v := .pointer (some ⟨g, 5, none⟩)) (w' := W) (by simp only [execOp, h95]; simp [go_sem]) ⟨rfl, hC, Nat.le_refl _, fun _ _ _ h _ _ => h⟩
              · intro A W hC hI hg hb
                have h96 : A.eval (.tmp 96) = .pointer (some ⟨g, 5, none⟩) := hg 20 96 (by decide) rfl (by simp [Op.operands]) (by kernel_rfl) (by kernel_rfl) rfl
                have hb1 : BlockIs W g 28 [.int .i64 D1.st, .int .i64 D1.iss, .int .i64 D1.una, .int .i64 D1.rcv, .string D1.wait, .int .i64 (s : Int), .int .i64 D1.fin, .bool D1.pf, .string D1.inn, .slice ao D1.late.length cap, .bool D1.owe, .int .i64 D1.due, .int .i64 D1.times] := hC.2.1
                have hc0 := hb1.cell (j := 5) rfl
                exact does_value (v := .int .i64 (s : Int)) (w' := W) (by simp only [execOp, h96]; simp [go_sem, hc0]) ⟨rfl, hC, Nat.le_refl _, fun _ _ _ h _ _ => h⟩
              · intro A W hC hI hg hb
                have h0 : A.eval (.tmp 0) = .pointer (some ⟨g, 0, none⟩) := hb 0 _ (.head _) (late_of (by kernel_rfl))
                exact does_value (v := .pointer (some ⟨g, 0, none⟩)) (w' := W) (by simp only [execOp, h0]; simp [go_sem]) ⟨rfl, hC, Nat.le_refl _, fun _ _ _ h _ _ => h⟩
              · intro A W hC hI hg hb
                have h98 : A.eval (.tmp 98) = .pointer (some ⟨g, 0, none⟩) := hg 22 98 (by decide) rfl (by simp [Op.operands]) (by kernel_rfl) (by kernel_rfl) rfl
                exact does_value (v := .pointer (some ⟨g, 0, none⟩)) (w' := W) (by simp only [execOp, h98]; simp [go_sem]) ⟨rfl, hC, Nat.le_refl _, fun _ _ _ h _ _ => h⟩
              · intro A W hC hI hg hb
                have h99 : A.eval (.tmp 99) = .pointer (some ⟨g, 0, none⟩) := hg 23 99 (by decide) rfl (by simp [Op.operands]) (by kernel_rfl) (by kernel_rfl) rfl
                exact does_value (v := .pointer (some ⟨g, 5, none⟩)) (w' := W) (by simp only [execOp, h99]; simp [go_sem]) ⟨rfl, hC, Nat.le_refl _, fun _ _ _ h _ _ => h⟩
              · intro A W hC hI hg hb
                have h100 : A.eval (.tmp 100) = .pointer (some ⟨g, 5, none⟩) := hg 24 100 (by decide) rfl (by simp [Op.operands]) (by kernel_rfl) (by kernel_rfl) rfl
                have hb1 : BlockIs W g 28 [.int .i64 D1.st, .int .i64 D1.iss, .int .i64 D1.una, .int .i64 D1.rcv, .string D1.wait, .int .i64 (s : Int), .int .i64 D1.fin, .bool D1.pf, .string D1.inn, .slice ao D1.late.length cap, .bool D1.owe, .int .i64 D1.due, .int .i64 D1.times] := hC.2.1
                have hc0 := hb1.cell (j := 5) rfl
                exact does_value (v := .int .i64 (s : Int)) (w' := W) (by simp only [execOp, h100]; simp [go_sem, hc0]) ⟨rfl, hC, Nat.le_refl _, fun _ _ _ h _ _ => h⟩
              · intro A W hC hI hg hb
                have h6 : A.eval (.tmp 6) = .int .i64 (nn : Int) := hb 6 _ (.tail _ (.tail _ (.head _))) (late_of (by kernel_rfl))
                exact does_value (v := .int .i64 (nn : Int)) (w' := W) (by simp only [execOp, h6]; simp [go_sem]) ⟨rfl, hC, Nat.le_refl _, fun _ _ _ h _ _ => h⟩
              · intro A W hC hI hg hb
                have h101 : A.eval (.tmp 101) = .int .i64 (s : Int) := hg 25 101 (by decide) rfl (by simp [Op.operands]) (by kernel_rfl) (by kernel_rfl) rfl
                have h102 : A.eval (.tmp 102) = .int .i64 (nn : Int) := hg 26 102 (by decide) rfl (by simp [Op.operands]) (by kernel_rfl) (by kernel_rfl) rfl
                exact does_value (v := .int .i64 (nx : Int)) (w' := W) (by simp only [execOp, h101, h102]; simp [go_sem, hw64]) ⟨rfl, hC, Nat.le_refl _, fun _ _ _ h _ _ => h⟩
              · intro A W hC hI hg hb
                have h93 : A.eval (.tmp 93) = .string D1.wait := hg 17 93 (by decide) rfl (by simp [Op.operands]) (by kernel_rfl) (by kernel_rfl) rfl
                have h97 : A.eval (.tmp 97) = .int .i64 (s : Int) := hg 21 97 (by decide) rfl (by simp [Op.operands]) (by kernel_rfl) (by kernel_rfl) rfl
                have h103 : A.eval (.tmp 103) = .int .i64 (nx : Int) := hg 27 103 (by decide) rfl (by simp [Op.operands]) (by kernel_rfl) (by kernel_rfl) rfl
                simp [go_sem] at h93 h97 h103
                exact does_value (v := .string tx) (w' := W) (by simp [execOp, go_sem, h93, h97, h103, i1, i2, htx]) ⟨rfl, hC, Nat.le_refl _, fun _ _ _ h _ _ => h⟩
              · intro A W hC hI hg hb
                have h85 : A.eval (.tmp 85) = .int .i64 (addNum D1.una (s : Int)) := hg 9 85 (by decide) rfl (by simp [Op.operands]) (by kernel_rfl) (by kernel_rfl) rfl
                have h89 : A.eval (.tmp 89) = .int .i64 D1.rcv := hg 13 89 (by decide) rfl (by simp [Op.operands]) (by kernel_rfl) (by kernel_rfl) rfl
                have h104 : A.eval (.tmp 104) = .string tx := hg 28 104 (by decide) rfl (by simp [Op.operands]) (by kernel_rfl) (by kernel_rfl) rfl
                simp [go_sem] at h85 h89 h104
                exact does_value (v := .agg #[.int .i64 (addNum D1.una (s : Int)), .int .i64 D1.rcv, .int .i64 2, .string tx]) (w' := W) (by simp [execOp, go_sem, h85, h89, h104]) ⟨rfl, hC, Nat.le_refl _, fun _ _ _ h _ _ => h⟩
              · intro A W hC hI hg hb
                have h105 : A.eval (.tmp 105) = .agg #[.int .i64 (addNum D1.una (s : Int)), .int .i64 D1.rcv, .int .i64 2, .string tx] := hg 29 105 (by decide) rfl (by simp [Op.operands]) (by kernel_rfl) (by kernel_rfl) rfl
                simp [go_sem] at h105
                have ba := below_more (Below.refl W.heap.size W) (.cells #[.int .i64 (addNum D1.una (s : Int)), .int .i64 D1.rcv, .int .i64 2, .string tx] 42)
                exact does_value (v := .slice (some ⟨W.heap.size, 0, none⟩) 1 1) (w' := W.alloc (.cells #[.int .i64 (addNum D1.una (s : Int)), .int .i64 D1.rcv, .int .i64 2, .string tx] 42)) (by simp [execOp, go_sem, h105]) ⟨⟨_, rfl, heap_alloc_new W _⟩, ⟨hC.1.trans (ba.mono (by have := hC.1.size; have := LO.out; omega)), hC.2.1.on ba hC.2.1.lt, hC.2.2.on ba⟩, ba.size, fun g ty cs h _ _ => h.on ba h.lt⟩
              · intro A W hC hI hg hb
                have h76 : A.eval (.tmp 76) = .slice sa o2.length sq := hg 0 76 (by decide) rfl (by simp [Op.operands, Call.operands]) (by kernel_rfl) (by kernel_rfl) rfl
                have g30 := hg 30 106 (by decide) rfl (by simp [Op.operands, Call.operands]) (by kernel_rfl) (by kernel_rfl) rfl
                obtain ⟨g, h106, hbl⟩ := g30
                have hrow : W.ownsRow lo 42 4 (.slice sa o2.length sq) o2.length (segCells o2) := hI 0 (by kernel_rfl)
                have hM : SegsAt W (some ⟨g, 0, none⟩) [⟨addNum D1.una (s : Int), D1.rcv, 2, tx⟩] := segsAt_of (r := []) (by rw [List.append_nil]; simpa [segCells] using hbl)
                obtain ⟨v', W', hr, h2, h3⟩ := append_segs (c := 1) (by rw [List.length_singleton]; have := HN.out; omega) (by have := hC.1.size; have := LO.out; omega) hrow hM
                obtain ⟨va', vc', rfl⟩ := row_shape h2
                rw [List.length_append, List.length_singleton] at h2 hr
                have hr1 : (Builtin.append_ #[29, 29] 29 #[.slice sa o2.length sq, .slice (some ⟨g, 0, none⟩) 1 1]).run Try.prog W = .ok (.slice va' (o2.length + 1) vc') W' := hr
                have hK : ∀ p ty cs, BlockIs W p ty cs → ty ≠ 42 → BlockIs W' p ty cs := fun p ty cs hp hne => segR_other hp hrow h3 hne
                refine does_value (v := .slice va' (o2.length + 1) vc') (w' := W') (by simp only [execOp, resolve, invoke, builtin, Sem.run_bind, Sem.run_pure, Result.andThen_ok, List.map_toArray, List.map_cons, List.map_nil, h76, h106, hr1]) ⟨⟨va', vc', rfl, h2⟩, ⟨segR_down hC.1 hrow h3 (Nat.le_refl _) (by have := hC.1.size; have := LO.out; omega), hK _ _ _ hC.2.1 (by decide), row_ext hC.2.2 (fun g cs h => hK g _ cs h (by decide))⟩, h3.size, fun p ty cs hp hne _ => hK p ty cs hp (hne rfl)⟩
              · intro A W hC hI hg hb
                have g31 := hg 31 107 (by decide) rfl (by simp [Op.operands]) (by kernel_rfl) (by kernel_rfl) rfl
                obtain ⟨va', vc', h107, hrow⟩ := g31
                exact does_value (v := .slice va' (o2.length + 1) vc') (w' := W) (by simp only [execOp, h107]; simp [go_sem]) ⟨⟨va', vc', rfl, hrow⟩, hC, Nat.le_refl _, fun _ _ _ h _ _ => h⟩
            · intro vs wE hC hI hg
              obtain ⟨va', vc', h9, ho⟩ := hg 32 (by decide) (fun k => by simp)
              change vs 32 = _ at h9
              clear hg hI
              change Exit.then _ _ _ (laidBy _ vs _ 33 _) wE
              simp only [laidBy, if_true, dstAt, List.getElem?_toArray, List.getElem?_cons_succ, List.getElem?_cons_zero, Option.bind_some]
              simp only [Act.put, List.setIfInBounds_toArray, List.set_cons_succ, List.set_cons_zero]
              rw [h9]
              have HSX := hid (show StTo lo g w wE ({ D1 with sent := (s : Int) }) from ⟨⟨LG.out, ao, cap, hC.2.1, hC.2.2⟩, hC.1⟩)
              have HRX := hid (show wE.ownsRow lo 42 4 (.slice va' (o2 ++ [(⟨addNum D1.una (s : Int), D1.rcv, 2, tx⟩ : SegD)]).length vc') (o2 ++ [(⟨addNum D1.una (s : Int), D1.rcv, 2, tx⟩ : SegD)]).length (segCells (o2 ++ [(⟨addNum D1.una (s : Int), D1.rcv, 2, tx⟩ : SegD)])) by rw [List.length_append]; exact ho)
              clear h9 ho hC XB HO HLT BT
              obtain ⟨_, ao6, cap6, hb6, _⟩ := HSX.out.1
              have k5 := hb6.cell (j := 5) rfl
              have j5 := hb6.thaw 5
              clear hb6
              dsimp only at k5
              have HSY := hid (HSX.out.sent (nx : Int))
              have HRY := hid (segs_beside (j := 5) (u := .int .i64 (nx : Int)) HSX.out.1 HRX.out)
              have HF2 : Hid (∃ f, R ≤ nx + f ∧ (o2 ++ [(⟨addNum D1.una (s : Int), D1.rcv, 2, tx⟩ : SegD)]) ++ segsW D1.una D1.rcv D1.wait R f nx = segsW D1.una D1.rcv D1.wait R 25 S) := by
                obtain ⟨f, hf1, hf2⟩ := HF.out
                cases f with
                | zero => omega
                | succ f =>
                  refine ⟨f, by omega, ?_⟩
                  rw [← hf2, segsW_step _ _ _ _ _ _ hlt, HNX.out, htx, List.append_assoc]
                  rfl
              have hlen : (o2 ++ [(⟨addNum D1.una (s : Int), D1.rcv, 2, tx⟩ : SegD)]).length = o2.length + 1 := by simp
              have hN2 : o2.length + 1 + (gk - 1) ≤ R + 1 := by have := HN0.out; omega
              obtain ⟨O3, hO3⟩ : ∃ O3, o2 ++ [(⟨addNum D1.una (s : Int), D1.rcv, 2, tx⟩ : SegD)] = O3 := ⟨_, rfl⟩
              rw [hO3] at HF2 HRY HRX hlen
              have HN2 : Hid (O3.length + (gk - 1) ≤ R + 1) := by show _ ≤ _; omega
              have HLEN := hid hlen
              clear hO3 HF HN0 htx hlen hN2
              go_wp2
              go_roundg (gk - 1)
              case measure => omega
              case rel => exact ⟨nx, O3, va', vc', by rw [HLEN.out], n2, by omega, HN2, HF2, HSY, HRY⟩
end Go.Proofs.Ytcmcmhiodkjflaa
