/-
  The walk of spec.l13Copy: a stream with early texts of its own.
-/
import Derived.Test.YtngcldjkpcmidaaJoint1
namespace Go.Proofs.Ytngcldjkpcmidaa
open Go.RowKit

set_option maxRecDepth 1000000 in
set_option maxHeartbeats 2000000 in
theorem specCopy_any (d : StrD) (ao : Option Addr) (cap : Nat) (hl : d.late.length ≤ 1048576) (w : World) (ha : LatesAt w ao d.late) :
    Calls Try.prog 17 #[.agg #[.int .i64 d.st, .int .i64 d.iss, .int .i64 d.una, .int .i64 d.rcv, .string d.wait, .int .i64 d.sent, .int .i64 d.fin, .bool d.pf, .string d.inn, .slice ao d.late.length cap, .bool d.owe, .int .i64 d.due, .int .i64 d.times]] w fun e w' => CopyDid w d e w' := by
  obtain ⟨hb0, hx1, hx2, _⟩ := four_log w (.cells #[.int .i64 d.st, .int .i64 d.iss, .int .i64 d.una, .int .i64 d.rcv, .string d.wait, .int .i64 d.sent, .int .i64 d.fin, .bool d.pf, .string d.inn, .slice ao d.late.length cap, .bool d.owe, .int .i64 d.due, .int .i64 d.times] 31) (.cells #[.int .i64 0, .int .i64 0, .int .i64 0, .int .i64 0, .string ⟨#[]⟩, .int .i64 0, .int .i64 0, .bool false, .string ⟨#[]⟩, .slice none 0 0, .bool false, .int .i64 0, .int .i64 0] 31) (.cells #[] 61)
  obtain ⟨W0, hW0⟩ : ∃ W0, (w.alloc (.cells #[.int .i64 d.st, .int .i64 d.iss, .int .i64 d.una, .int .i64 d.rcv, .string d.wait, .int .i64 d.sent, .int .i64 d.fin, .bool d.pf, .string d.inn, .slice ao d.late.length cap, .bool d.owe, .int .i64 d.due, .int .i64 d.times] 31)).alloc (.cells #[.int .i64 0, .int .i64 0, .int .i64 0, .int .i64 0, .string ⟨#[]⟩, .int .i64 0, .int .i64 0, .bool false, .string ⟨#[]⟩, .slice none 0 0, .bool false, .int .i64 0, .int .i64 0] 31) = W0 := ⟨_, rfl⟩
  rw [hW0] at hb0 hx1 hx2
  have hbw : Below w.heap.size w W0 := by rw [← hW0]; exact below_more (below_more (Below.refl _ w) _) _
  have hR := lateR_nil W0 w.heap.size hbw.size
  obtain ⟨W1, hW1⟩ : ∃ W1, W0.alloc (.cells #[] 61) = W1 := ⟨_, rfl⟩
  rw [hW1] at hb0 hx1 hx2 hR
  have X1 := hid (show BlockIs W1 w.heap.size 31 [.int .i64 d.st, .int .i64 d.iss, .int .i64 d.una, .int .i64 d.rcv, .string d.wait, .int .i64 d.sent, .int .i64 d.fin, .bool d.pf, .string d.inn, .slice ao d.late.length cap, .bool d.owe, .int .i64 d.due, .int .i64 d.times] from hx1)
  have Y1 := hid (show BlockIs W1 (w.heap.size + 1) 31 [.int .i64 0, .int .i64 0, .int .i64 0, .int .i64 0, .string ⟨#[]⟩, .int .i64 0, .int .i64 0, .bool false, .string ⟨#[]⟩, .slice none 0 0, .bool false, .int .i64 0, .int .i64 0] from hx2)
  have HAW := ha.on hb0
  have hbs := hb0.size
  have B1 := hid hb0
  have c9 := X1.out.cell (j := 9) rfl
  clear hb0 hx1 hx2 hbw ha
  unfold CopyDid
  go_enter Try.func17, Try.ntmps17
  go_wp2_with (at_builtin; refine wpList_append_lates rfl (.tmp 3) (.tmp 5) rfl rfl (base := w.heap.size) (L := []) (M := d.late) (N := d.late.length) rfl rfl rfl (by simp) (by omega) hbs hR HAW ?_)
  intro va vc w1 hrow hgrow
  have X2 := hid (lateR_other X1.out hR hgrow (by decide))
  have Y2 := hid (lateR_other Y1.out hR hgrow (by decide))
  have B2 := hid (lateR_down B1.out hR hgrow (Nat.le_refl _) hbs)
  have RW := hid (show OwnsL w1 w.heap.size d.late va vc from hrow)
  clear hrow hgrow hR HAW hbs X1 Y1 B1 c9
  have c9 := X2.out.cell (j := 9) rfl
  have f9 := X2.out.thaw 9
  obtain ⟨V, hV⟩ : ∃ V, w1.setCell ⟨w.heap.size, 9, none⟩ (.slice va d.late.length vc) = V := ⟨_, rfl⟩
  have X3 : Hid (BlockIs V w.heap.size 31 [.int .i64 d.st, .int .i64 d.iss, .int .i64 d.una, .int .i64 d.rcv, .string d.wait, .int .i64 d.sent, .int .i64 d.fin, .bool d.pf, .string d.inn, .slice va d.late.length vc, .bool d.owe, .int .i64 d.due, .int .i64 d.times]) := by rw [← hV]; exact X2.out.set 9 _
  have Y3 : Hid (BlockIs V (w.heap.size + 1) 31 [.int .i64 0, .int .i64 0, .int .i64 0, .int .i64 0, .string ⟨#[]⟩, .int .i64 0, .int .i64 0, .bool false, .string ⟨#[]⟩, .slice none 0 0, .bool false, .int .i64 0, .int .i64 0]) := by rw [← hV]; exact Y2.out.far (by omega) _
  have B3 : Hid (Below w.heap.size w V) := by rw [← hV]; exact B2.out.setCell (Nat.le_refl _) _
  have R3 : Hid (OwnsL V w.heap.size d.late va vc) := by rw [← hV]; exact RW.out.setCell X2.out (by decide) 9 _
  obtain ⟨U, hU⟩ : ∃ U, V.setRow (w.heap.size + 1) #[.int .i64 d.st, .int .i64 d.iss, .int .i64 d.una, .int .i64 d.rcv, .string d.wait, .int .i64 d.sent, .int .i64 d.fin, .bool d.pf, .string d.inn, .slice va d.late.length vc, .bool d.owe, .int .i64 d.due, .int .i64 d.times] = U := ⟨_, rfl⟩
  have Y4 : BlockIs U (w.heap.size + 1) 31 [.int .i64 d.st, .int .i64 d.iss, .int .i64 d.una, .int .i64 d.rcv, .string d.wait, .int .i64 d.sent, .int .i64 d.fin, .bool d.pf, .string d.inn, .slice va d.late.length vc, .bool d.owe, .int .i64 d.due, .int .i64 d.times] := by rw [← hU]; exact store_block Y3.out _
  have B4 : Hid (Below w.heap.size w U) := by rw [← hU]; exact below_setRow B3.out (by omega) _
  have R4 : Hid (OwnsL U w.heap.size d.late va vc) := by rw [← hU]; exact R3.out.setRow Y3.out (by decide) _
  have r0 := Y4.cell (j := 0) rfl
  have r1 := Y4.cell (j := 1) rfl
  have r2 := Y4.cell (j := 2) rfl
  have r3 := Y4.cell (j := 3) rfl
  have r4 := Y4.cell (j := 4) rfl
  have r5 := Y4.cell (j := 5) rfl
  have r6 := Y4.cell (j := 6) rfl
  have r7 := Y4.cell (j := 7) rfl
  have r8 := Y4.cell (j := 8) rfl
  have r9 := Y4.cell (j := 9) rfl
  have r10 := Y4.cell (j := 10) rfl
  have r11 := Y4.cell (j := 11) rfl
  have r12 := Y4.cell (j := 12) rfl
  clear Y4 X2 Y2 B2 RW
  go_wp2_with (first | (refine wpList_load_str X3.out rfl rfl _ rfl rfl ?_) | (refine wpList_store_str Y3.out rfl rfl _ _ rfl _ rfl rfl rfl (strCells_all d _ _) ?_; rw [hU]) | fail)
  refine bodyPost_ret (v := .agg #[.int .i64 d.st, .int .i64 d.iss, .int .i64 d.una, .int .i64 d.rcv, .string d.wait, .int .i64 d.sent, .int .i64 d.fin, .bool d.pf, .string d.inn, .slice va d.late.length vc, .bool d.owe, .int .i64 d.due, .int .i64 d.times]) (by simp [results, Try.results17, go_sem, r0, r1, r2, r3, r4, r5, r6, r7, r8, r9, r10, r11, r12]) rfl ⟨va, vc, rfl, R4.out, B4.out⟩
end Go.Proofs.Ytngcldjkpcmidaa
