/-
  The walk of spec.JournalText.
-/
import Derived.Test.YtihgkocfgjihhaaGreatDoorJoint45
import Derived.Test.YtihgkocfgjihhaaGreatDoorJoint46
namespace Go.Proofs.YtihgkocfgjihhaaGreatDoor
open Go.RowKit Go.Sort

set_option maxRecDepth 1000000 in
set_option maxHeartbeats 2000000 in
theorem specJText_any (n tm vt s t : Int) (ao : Option Addr) (l : List EntD) (cap : Nat) (hl : l.length ≤ 1048576) (hsm : ∀ f ∈ l, f.data.size ≤ 1048576) (w : World) (ha : EntsAt w ao l) :
    Calls Tryz.prog 22 #[jourV n tm vt s t (.slice ao l.length cap)] w fun e w' => e = .returned (.tuple #[.string (jourText n tm vt s t l).1, .bool (jourText n tm vt s t l).2]) ∧ Below w.heap.size w w' := by
  have HB := hid (below_more (Below.refl w.heap.size w) (.cells #[.int .i64 n, .int .i64 tm, .int .i64 vt, .int .i64 s, .int .i64 t, .slice ao l.length cap] 63))
  have HX := hid (show BlockIs (w.alloc (.cells #[.int .i64 n, .int .i64 tm, .int .i64 vt, .int .i64 s, .int .i64 t, .slice ao l.length cap] 63)) w.heap.size 63 [.int .i64 n, .int .i64 tm, .int .i64 vt, .int .i64 s, .int .i64 t, .slice ao l.length cap] from heap_alloc_new w _)
  have HA := hid ha
  have HS := hid hsm
  clear ha hsm
  go_enter Tryz.func22, Tryz.ntmps22
  go_wp2_with fail
  refine (specJournalOk_any n tm vt s t ao l cap hl HS.out _ (HA.out.on HB.out)).mono ?_
  rintro e w1 ⟨rfl, b1⟩
  have B1 := hid (below_via HB.out b1)
  have X1 := hid (HX.out.on b1 HX.out.lt)
  clear b1 HB HX
  cases hJ : jourOk n tm vt s t l with
  | false =>
    have hr := hid (jourText_no hJ)
    go_wp2
    go_ret2
    exact ⟨by rw [hr.out]; rfl, B1.out⟩
  | true =>
    have hr := hid (jourText_yes hJ)
    obtain ⟨hn, ⟨htm, hvt⟩, hlg⟩ := jourOk_iff.1 hJ
    have hbd := logOk_iff.1 hlg
    have hz1 := rec2_size 66 (a := s) (b := t) (by omega) (by omega)
    have hz2 := rec2_size 72 (a := tm) (b := vt) (by omega) (by omega)
    have hf1 := frm_len (t := rec2 66 s t) (by omega)
    have hf2 := frm_len (t := rec2 72 tm vt) (by omega)
    have hf3 := frms_len (termsOk_mem hbd.2.2.2.2) (s + 1) (by omega)
    have CH' := fun W => l07Hard_any tm vt (by omega) (by omega) W
    have CF' := fun W he => l07Frames_any s t ao l cap 0 (Nat.zero_le _) hlg W he
    rw [show frms (s + 1 + ((0 : Nat) : Int)) (l.drop 0) = frms (s + 1) l by simp] at CF'
    have hjt : jText tm vt s t l = frm (rec2 66 s t) ++ frm (rec2 72 tm vt) ++ frms (s + 1) l := rfl
    rw [hjt] at hr
    clear hjt hlg
    obtain ⟨R1, hR1⟩ : ∃ x, rec2 66 s t = x := ⟨_, rfl⟩
    rw [hR1] at hz1 hf1 hr
    obtain ⟨ms, hms⟩ := nat_of hbd.1.1
    obtain ⟨mt, hmt⟩ := nat_of hbd.2.1.1
    have h1 := vb5 s (by omega)
    have h2 := vb5 t (by omega)
    have hq : rec2 66 s t = ⟨#[66]⟩ ++ ⟨(vb s.toNat).toArray⟩ ++ ⟨(vb t.toNat).toArray⟩ := rfl
    have cV1' := l01Var_any ms (by omega)
    have cV2' := l01Var_any mt (by omega)
    rw [show ms = s.toNat by omega, show ((s.toNat : Nat) : Int) = s by omega] at cV1'
    rw [show mt = t.toNat by omega, show ((t.toNat : Nat) : Int) = t by omega] at cV2'
    obtain ⟨V1, e1⟩ : ∃ V : ByteArray, ⟨(vb s.toNat).toArray⟩ = V := ⟨_, rfl⟩
    obtain ⟨V2, e2⟩ : ∃ V : ByteArray, ⟨(vb t.toNat).toArray⟩ = V := ⟨_, rfl⟩
    rw [e1] at cV1' hq h1
    rw [e2] at cV2' hq h2
    obtain ⟨A1, q1⟩ : ∃ A : ByteArray, ⟨#[66]⟩ ++ V1 = A := ⟨_, rfl⟩
    have z1 : A1.size = 1 + V1.size := by rw [← q1, ByteArray.size_append]; rfl
    rw [q1, hR1] at hq
    have hs1 : ∀ w, (Op.stringOp .add ⟨#[66]⟩ V1).run Tryz.prog w = .ok (.string A1) w := fun w => by rw [run_string_add_sum w _ _ (by rw [show (⟨#[66]⟩ : ByteArray).size = 1 from rfl]; omega), q1]
    have hs2 : ∀ w, (Op.stringOp .add A1 V2).run Tryz.prog w = .ok (.string R1) w := fun w => by rw [run_string_add_sum w _ _ (by omega), hq]
    have CV1 := hid (fun D os => Calls.regrown_of (d := D) (os := os) (cV1' (grow (redrawn w1 D) os)))
    have CV2 := hid (fun D os => Calls.regrown_of (d := D) (os := os) (cV2' (grow (redrawn w1 D) os)))
    have CR := hid (fun D os => Calls.regrown_of (d := D) (os := os) (specFrame_yes R1 hz1.1 (by omega) (grow (redrawn w1 D) os)))
    obtain ⟨F1, hF1⟩ : ∃ x, frm R1 = x := ⟨_, rfl⟩
    obtain ⟨F2, hF2⟩ : ∃ x, frm (rec2 72 tm vt) = x := ⟨_, rfl⟩
    obtain ⟨F3, hF3⟩ : ∃ x, frms (s + 1) l = x := ⟨_, rfl⟩
    rw [hF1] at CR hf1 hr
    rw [hF2] at CH' hf2 hr
    rw [hF3] at CF' hf3 hr
    obtain ⟨G1, hG1⟩ : ∃ x, F1 ++ F2 = x := ⟨_, rfl⟩
    rw [hG1] at hr
    obtain ⟨G2, hG2⟩ : ∃ x, G1 ++ F3 = x := ⟨_, rfl⟩
    rw [hG2] at hr
    have zg1 : G1.size = F1.size + F2.size := by rw [← hG1, ByteArray.size_append]
    have zg2 : G2.size = G1.size + F3.size := by rw [← hG2, ByteArray.size_append]
    have hs3 : ∀ w, (Op.stringOp .add F1 F2).run Tryz.prog w = .ok (.string G1) w := fun w => by rw [run_string_add_sum w _ _ (by omega), hG1]
    have hs4 : ∀ w, (Op.stringOp .add G1 F3).run Tryz.prog w = .ok (.string G2) w := fun w => by rw [run_string_add_sum w _ _ (by omega), hG2]
    have hle : ¬ (20000 : Int) < (G2.size : Int) := by omega
    have HCF := hid CF'
    have HCH := hid CH'
    clear cV1' cV2' e1 e2 q1 hq hR1 hms hmt hF1 hF2 hF3 hG1 hG2 CF' CH' z1 zg1 zg2 hJ hn htm hvt hbd hz1 hz2 hf1 hf2 hf3 h1 h2
    have r3 := cell_regrown (X1.out.cell (j := 3) rfl)
    have r4 := cell_regrown (X1.out.cell (j := 4) rfl)
    go_wp2
    refine wp_region_quiet_below (by kernel_rfl) (by kernel_rfl) ?_
    repeat (first | go_big_quiet_step (first | (go_at_call 56; with_reducible exact CV1.out _ _) | (go_at_call 56; with_reducible exact CV2.out _ _) | (go_at_call 55; with_reducible exact CR.out _ _) | fail) | quiet_step (first | (go_at_call 56; with_reducible exact CV1.out _ _) | (go_at_call 56; with_reducible exact CV2.out _ _) | (go_at_call 55; with_reducible exact CR.out _ _) | fail))
    refine wpQuiet_nil ?_
    intro _ hw'
    obtain ⟨⟨dq, osq⟩, hw''⟩ := hw'
    subst hw''
    have bx := below_regrown w1 dq osq
    have B2 := hid (below_via B1.out bx)
    have X2 := hid (X1.out.on bx X1.out.lt)
    generalize Go.Sort.grow (redrawn w1 dq) osq = w2 at bx B2 X2 ⊢
    clear bx B1 X1 r3 r4 CV1 CV2 CR hs1 hs2
    have r1 := cell_regrown (X2.out.cell (j := 1) rfl)
    have r2 := cell_regrown (X2.out.cell (j := 2) rfl)
    have r3 := cell_regrown (X2.out.cell (j := 3) rfl)
    have r4 := cell_regrown (X2.out.cell (j := 4) rfl)
    have r5 := cell_regrown (X2.out.cell (j := 5) rfl)
    have CH := hid (fun D os => Calls.regrown_of (w := w2) (d := D) (os := os) (HCH.out _))
    have CF := hid (fun D os => Calls.regrown_of (w := w2) (d := D) (os := os) (HCF.out _ (HA.out.on (below_via B2.out (below_regrown w2 D os)))))
    clear HCF HCH
    go_wp2
    refine wp_region_quiet_below (by kernel_rfl) (by kernel_rfl) ?_
    repeat (first | go_big_quiet_step (first | (go_at_call 57; exact CH.out _ _) | (go_at_call 58; exact CF.out _ _) | fail) | quiet_step (first | (go_at_call 57; exact CH.out _ _) | (go_at_call 58; exact CF.out _ _) | fail))
    refine wpQuiet_nil ?_
    intro _ hw'
    obtain ⟨⟨dq2, osq2⟩, hw''⟩ := hw'
    subst hw''
    have bx := below_regrown w2 dq2 osq2
    have B3 := hid (below_via B2.out bx)
    generalize Go.Sort.grow (redrawn w2 dq2) osq2 = w3 at bx B3 ⊢
    clear bx B2 X2 r1 r2 r3 r4 r5 CF CH hs3 hs4
    go_wp2
    go_ret2
    exact ⟨by rw [hr.out]; rfl, B3.out⟩
end Go.Proofs.YtihgkocfgjihhaaGreatDoor
