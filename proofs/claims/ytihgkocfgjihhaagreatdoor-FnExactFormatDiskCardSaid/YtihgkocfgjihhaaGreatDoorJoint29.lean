/-
  The walk of impl.JournalText.
  The walk of impl.Decimal over the library's contract of strconv.Itoa: what it answers where the library's table lies as its text lays it.
-/
import Derived.Test.YtihgkocfgjihhaaGreatDoorJoint27
import Derived.Test.YtihgkocfgjihhaaGreatDoorJoint28
import Derived.Lib.QuietBelow
import Derived.Test.YtihgkocfgjihhaaGreatDoorRows
import Derived.Test.YtihgkocfgjihhaaGreatDoorJoint10
import Derived.Test.YtihgkocfgjihhaaGreatDoorJoint1
import Derived.WalkSmall
import Derived.WalkKit
namespace Go.Proofs.YtihgkocfgjihhaaGreatDoor
open Go.RowKit Go.Sort

set_option maxRecDepth 1000000 in
set_option maxHeartbeats 2000000 in
theorem implJText_any (n tm vt s t : Int) (ao : Option Addr) (l : List EntD) (cap : Nat) (hl : l.length ≤ 1048576) (hcap : l.length ≤ cap) (w : World) (ha : EntsAt w ao l) (ht : Steps w) :
    Calls Tryz.prog 30 #[jourV n tm vt s t (.slice ao l.length cap)] w fun e w' => e = .returned (.tuple #[.string (jourText n tm vt s t l).1, .bool (jourText n tm vt s t l).2]) ∧ Below w.heap.size w w' := by
  have HB := hid (below_more (Below.refl w.heap.size w) (.cells #[.int .i64 n, .int .i64 tm, .int .i64 vt, .int .i64 s, .int .i64 t, .slice ao l.length cap] 63))
  have HX := hid (show BlockIs (w.alloc (.cells #[.int .i64 n, .int .i64 tm, .int .i64 vt, .int .i64 s, .int .i64 t, .slice ao l.length cap] 63)) w.heap.size 63 [.int .i64 n, .int .i64 tm, .int .i64 vt, .int .i64 s, .int .i64 t, .slice ao l.length cap] from heap_alloc_new w _)
  have HA := hid ha
  have HT := hid ht
  clear ha ht
  go_enter Tryz.func30, Tryz.ntmps30
  go_wp2_with fail
  refine (implJournalOk_any n tm vt s t ao l cap hl _ (HA.out.on HB.out)).mono ?_
  rintro e w1 ⟨rfl, b1⟩
  have B1 := hid (below_via HB.out b1)
  have X1 := hid (HX.out.on b1 HX.out.lt)
  clear b1 HB HX
  cases hJ : jourOk n tm vt s t l with
  | false =>
    have hr := hid (jourText_no hJ)
    go_wp2
    go_ret2
    exact ⟨by rw [hr.out]; rfl, B1.out⟩
  | true =>
    have hr := hid (jourText_yes hJ)
    obtain ⟨hn, ⟨htm, hvt⟩, hlg⟩ := jourOk_iff.1 hJ
    have hbd := logOk_iff.1 hlg
    have hz1 := rec2_size 66 (a := s) (b := t) (by omega) (by omega)
    have hz2 := rec2_size 72 (a := tm) (b := vt) (by omega) (by omega)
    have hf1 := frm_len (t := rec2 66 s t) (by omega)
    have hf2 := frm_len (t := rec2 72 tm vt) (by omega)
    have hf3 := frms_len (termsOk_mem hbd.2.2.2.2) (s + 1) (by omega)
    have hst : ∀ D os, Steps (grow (redrawn w1 D) os) := fun D os => steps_on HT.out (below_via B1.out (below_regrown w1 D os))
    have hen : ∀ D os, EntsAt (grow (redrawn w1 D) os) ao l := fun D os => HA.out.on (below_via B1.out (below_regrown w1 D os))
    have CP' := fun D os => Calls.regrown_of (w := w1) (d := D) (os := os) (pairRecord_any 66 s t (by omega) (by omega) _)
    have CH' := fun D os => Calls.regrown_of (w := w1) (d := D) (os := os) (headFrame_any n tm vt s t (.slice ao l.length cap) (by omega) (by omega) ao l.length cap rfl _ (hst D os))
    have CE' := fun D os => Calls.regrown_of (w := w1) (d := D) (os := os) (entryFrames_any s t s 0 ao l cap (by simp) (Nat.zero_le _) hlg hcap _ (hen D os) (hst D os))
    rw [show frms (s + 1 + ((0 : Nat) : Int)) (l.drop 0) = frms (s + 1) l by simp] at CE'
    have hjt : jText tm vt s t l = frm (rec2 66 s t) ++ frm (rec2 72 tm vt) ++ frms (s + 1) l := rfl
    rw [hjt] at hr
    clear hjt hlg
    obtain ⟨R1, hR1⟩ : ∃ x, rec2 66 s t = x := ⟨_, rfl⟩
    rw [hR1] at hz1 hf1 hr CP'
    have CR' := fun D os => Calls.regrown_of (w := w1) (d := D) (os := os) (frameOf_any R1 hz1.1 (by omega) _ (hst D os))
    obtain ⟨F1, hF1⟩ : ∃ x, frm R1 = x := ⟨_, rfl⟩
    obtain ⟨F2, hF2⟩ : ∃ x, frm (rec2 72 tm vt) = x := ⟨_, rfl⟩
    obtain ⟨F3, hF3⟩ : ∃ x, frms (s + 1) l = x := ⟨_, rfl⟩
    rw [hF1] at CR' hf1 hr
    rw [hF2] at CH' hf2 hr
    rw [hF3] at CE' hf3 hr
    obtain ⟨G1, hG1⟩ : ∃ x, F1 ++ F2 = x := ⟨_, rfl⟩
    rw [hG1] at hr
    obtain ⟨G2, hG2⟩ : ∃ x, G1 ++ F3 = x := ⟨_, rfl⟩
    rw [hG2] at hr
    have zg1 : G1.size = F1.size + F2.size := by rw [← hG1, ByteArray.size_append]
    have zg2 : G2.size = G1.size + F3.size := by rw [← hG2, ByteArray.size_append]
    have hs3 : ∀ w, (Op.stringOp .add F1 F2).run Tryz.prog w = .ok (.string G1) w := fun w => by rw [run_string_add_sum w _ _ (by omega), hG1]
    have hs4 : ∀ w, (Op.stringOp .add G1 F3).run Tryz.prog w = .ok (.string G2) w := fun w => by rw [run_string_add_sum w _ _ (by omega), hG2]
    have hle : ¬ (20000 : Int) < (G2.size : Int) := by omega
    have CP := hid CP'
    have CH := hid CH'
    have CE := hid CE'
    have CR := hid CR'
    clear CP' CH' CE' CR' hst hen hR1 hF1 hF2 hF3 hG1 hG2 zg1 zg2 hJ hn htm hvt hbd hz1 hz2 hf1 hf2 hf3
    have r0 := cell_regrown (X1.out.cell (j := 0) rfl)
    have r1 := cell_regrown (X1.out.cell (j := 1) rfl)
    have r2 := cell_regrown (X1.out.cell (j := 2) rfl)
    have r3 := cell_regrown (X1.out.cell (j := 3) rfl)
    have r4 := cell_regrown (X1.out.cell (j := 4) rfl)
    have r5 := cell_regrown (X1.out.cell (j := 5) rfl)
    go_wp2
    refine wp_region_quiet_below (by kernel_rfl) (by kernel_rfl) ?_
    repeat (first | go_big_quiet_step (first | (go_at_call 78; exact CP.out _ _) | (go_at_call 77; exact CR.out _ _) | (go_at_call 79; exact CH.out _ _) | (go_at_call 80; exact CE.out _ _) | fail) | quiet_step (first | (go_at_call 78; exact CP.out _ _) | (go_at_call 77; exact CR.out _ _) | (go_at_call 79; exact CH.out _ _) | (go_at_call 80; exact CE.out _ _) | fail))
    refine wpQuiet_nil ?_
    intro _ hw'
    obtain ⟨⟨dq, osq⟩, hw''⟩ := hw'
    subst hw''
    have bx := below_regrown w1 dq osq
    have B2 := hid (below_via B1.out bx)
    generalize Go.Sort.grow (redrawn w1 dq) osq = w2 at bx B2 ⊢
    clear bx B1 X1 r0 r1 r2 r3 r4 r5 CP CR CH CE hs3 hs4
    go_wp2
    go_ret2
    exact ⟨by rw [hr.out]; rfl, B2.out⟩
end Go.Proofs.YtihgkocfgjihhaaGreatDoor

namespace Go.Proofs.YtihgkocfgjihhaaGreatDoor
open Go.RowKit

theorem powTab : Tryz.prog.globalNamed "internal/strconv.uint64pow10" = some 2 := by kernel_rfl

theorem table_on {W W' : World} (h : Lib.TabIs Tryz.prog W "internal/strconv.uint64pow10" .u64 Lib.pow10Tab) (hb : Below W.heap.size W W') : Lib.TabIs Tryz.prog W' "internal/strconv.uint64pow10" .u64 Lib.pow10Tab := by
  have hc := h.cell powTab 0 (by decide)
  have hlt := World.block_lt_of_cell? W _ hc
  exact var?_below hb powTab hlt h

/-- the library's figures are ours -/
theorem digits_eq : ∀ (u : Nat), 0 < u → Lib.decDigits u = dd u := by
  intro u
  induction u using Nat.strongRecOn with
  | _ u ih =>
    intro h
    rw [Lib.decDigits, dd_pos h]
    by_cases h10 : u < 10
    · rw [dif_pos h10, show u / 10 = 0 by omega, dd_zero, show u % 10 = u by omega]
      rfl
    · rw [dif_neg h10, ih (u / 10) (by omega) (by omega)]
theorem itoa_eq (n : Int) : Lib.itoa n = dec n := by
  unfold Lib.itoa dec
  by_cases h0 : n = 0
  · subst h0
    rw [if_neg (by omega), if_pos rfl, show (0 : Int).toNat = 0 from rfl, Lib.decDigits, dif_pos (by omega)]
    rfl
  · by_cases h1 : n < 0
    · rw [if_pos h1, if_neg h0, if_pos h1, digits_eq _ (by omega)]
    · rw [if_neg h1, if_neg h0, if_neg h1, show n.toNat = n.natAbs by omega, digits_eq _ (by omega)]

theorem below_grow (w : World) (k : Nat) (os : Array Obj) : Below w.heap.size w (Sort.grow (w.drewN k) os) :=
  ⟨rfl, rfl, rfl, by simp [Sort.grow, World.drewN], fun j hj => by simp [Sort.grow, World.drewN, Array.getElem?_append, hj]⟩

theorem itoa_any (n : Int) (h0 : -9223372036854775808 ≤ n) (h1 : n ≤ 9223372036854775807) (w : World) (htab : Lib.TabIs Tryz.prog w "internal/strconv.uint64pow10" .u64 Lib.pow10Tab) :
    Calls Tryz.prog 132 #[.int .i64 n] w fun e w' => e = .returned (.string ⟨(dec n).toArray⟩) ∧ Below w.heap.size w w' := by
  refine (Tryz.strconv_Itoa n h0 h1 w htab).mono ?_
  rintro e w' ⟨rfl, k, os, rfl⟩
  exact ⟨by rw [itoa_eq], below_grow w k os⟩

theorem implDecimal_any (n : Int) (h0 : -9223372036854775808 ≤ n) (h1 : n ≤ 9223372036854775807) (w : World) (htab : Lib.TabIs Tryz.prog w "internal/strconv.uint64pow10" .u64 Lib.pow10Tab) :
    Calls Tryz.prog 82 #[.int .i64 n] w fun e w' => e = .returned (.string ⟨(dec n).toArray⟩) ∧ Below w.heap.size w w' := by
  have C := (show Hid _ from itoa_any n h0 h1 w htab)
  clear htab
  go_enter Tryz.func82, Tryz.ntmps82
  go_wp2_with (go_at_call 132; refine Calls.mono C.out ?_; rintro e w' ⟨rfl, hb⟩)
  go_ret
  exact ⟨rfl, hb⟩
end Go.Proofs.YtihgkocfgjihhaaGreatDoor
