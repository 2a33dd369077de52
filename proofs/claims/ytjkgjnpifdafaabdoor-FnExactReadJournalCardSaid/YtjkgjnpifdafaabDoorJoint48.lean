/-
  The walk of impl.ReadJournal.
-/
import Derived.Test.YtjkgjnpifdafaabDoorJoint46
import Derived.Test.YtjkgjnpifdafaabDoorJoint47
import Derived.Test.YtjkgjnpifdafaabDoorJoint28
namespace Go.Proofs.YtjkgjnpifdafaabDoor
open Go.RowKit

set_option maxRecDepth 1000000 in
set_option maxHeartbeats 4000000 in
theorem implReadJournal_any (n : Int) (s : ByteArray) (hs : s.size ≤ 1048576) (w : World) (ht : Steps w) (he : w.cell? ⟨0, 0, none⟩ = some (rt hE)) : Calls Tryd.prog 11 #[.int .i64 n, .string s] w fun e w' => rjDid (readJ n s) w e w' := by
  have bw := below_more (Below.refl w.heap.size w) (.cells #[.int .i64 0, .int .i64 0, .int .i64 0, .int .i64 0, .int .i64 0, .slice none 0 0] 34)
  have HT := hid (steps_on ht bw)
  have HE := hid ((bw.cell (p := ⟨0, 0, none⟩) (World.block_lt_of_cell? w _ he)).trans he)
  have B0 := hid bw
  have R0 : Hid (BlockIs (w.alloc (.cells #[.int .i64 0, .int .i64 0, .int .i64 0, .int .i64 0, .int .i64 0, .slice none 0 0] 34)) w.heap.size 34 [.int .i64 0, .int .i64 0, .int .i64 0, .int .i64 0, .int .i64 0, .slice none 0 0]) := heap_alloc_new w _
  have hlo : w.heap.size ≤ (w.alloc (.cells #[.int .i64 0, .int .i64 0, .int .i64 0, .int .i64 0, .int .i64 0, .slice none 0 0] 34)).heap.size := bw.size
  clear ht he bw
  obtain ⟨W, hW⟩ : ∃ W, w.alloc (.cells #[.int .i64 0, .int .i64 0, .int .i64 0, .int .i64 0, .int .i64 0, .slice none 0 0] 34) = W := ⟨_, rfl⟩
  rw [hW] at HT HE B0 R0 hlo
  go_enter Tryd.func11, Tryd.ntmps11
  go_wp2_with fail
  refine (readJournal_any n s hs _ HT.out).mono ?_
  rintro e w1 h1
  clear hW
  cases hq : readJ n s with
  | none =>
    rw [hq] at h1
    obtain ⟨c, hc, rfl, b1⟩ := h1
    rcases hc with rfl | rfl
    · have bx := below_more b1 (.cells #[.int .i64 0, .int .i64 0, .int .i64 0, .int .i64 0, .int .i64 0, .slice none 0 0] 34)
      have X1 := R0.out.on bx R0.out.lt
      have BX := below_via B0.out bx
      go_wp2_with fail
      refine (codeOf_fault 1 _ ((bx.cell (p := ⟨0, 0, none⟩) (World.block_lt_of_cell? _ _ HE.out)).trans HE.out)).mono ?_
      rintro e w2 ⟨rfl, b2⟩
      have X2 := X1.on b2 X1.lt
      have BL := hid (((((((below_via BX b2).setCell (p := ⟨w.heap.size, 0, none⟩) (Nat.le_refl _) (.int .i64 0)).setCell (p := ⟨w.heap.size, 1, none⟩) (Nat.le_refl _) (.int .i64 0)).setCell (p := ⟨w.heap.size, 2, none⟩) (Nat.le_refl _) (.int .i64 0)).setCell (p := ⟨w.heap.size, 3, none⟩) (Nat.le_refl _) (.int .i64 0)).setCell (p := ⟨w.heap.size, 4, none⟩) (Nat.le_refl _) (.int .i64 0)).setCell (p := ⟨w.heap.size, 5, none⟩) (Nat.le_refl _) (.slice none 0 0))
      have z0 := X2.cell (j := 0) rfl
      have z1 := X2.cell (j := 1) rfl
      have z2 := X2.cell (j := 2) rfl
      have z3 := X2.cell (j := 3) rfl
      have z4 := X2.cell (j := 4) rfl
      have z5 := X2.cell (j := 5) rfl
      have q0 := X2.thaw 0
      have q1 := X2.thaw 1
      have q2 := X2.thaw 2
      have q3 := X2.thaw 3
      have q4 := X2.thaw 4
      have q5 := X2.thaw 5
      clear b1 bx X1 BX b2 X2
      go_wp2
      refine bodyPost_ret (v := .tuple #[.agg #[.int .i64 0, .int .i64 0, .int .i64 0, .int .i64 0, .int .i64 0, .slice none 0 0], .int .i64 0, .bool false]) (by simp [results, Tryd.results11, go_sem, z0, z1, z2, z3, z4, z5]) rfl ?_
      rw [hq]
      exact ⟨rfl, BL.out⟩
    · have bx := below_more b1 (.cells #[.int .i64 0, .int .i64 0, .int .i64 0, .int .i64 0, .int .i64 0, .slice none 0 0] 34)
      have X1 := R0.out.on bx R0.out.lt
      have BX := below_via B0.out bx
      go_wp2_with fail
      refine (codeOf_fault 3 _ ((bx.cell (p := ⟨0, 0, none⟩) (World.block_lt_of_cell? _ _ HE.out)).trans HE.out)).mono ?_
      rintro e w2 ⟨rfl, b2⟩
      have X2 := X1.on b2 X1.lt
      have BL := hid (((((((below_via BX b2).setCell (p := ⟨w.heap.size, 0, none⟩) (Nat.le_refl _) (.int .i64 0)).setCell (p := ⟨w.heap.size, 1, none⟩) (Nat.le_refl _) (.int .i64 0)).setCell (p := ⟨w.heap.size, 2, none⟩) (Nat.le_refl _) (.int .i64 0)).setCell (p := ⟨w.heap.size, 3, none⟩) (Nat.le_refl _) (.int .i64 0)).setCell (p := ⟨w.heap.size, 4, none⟩) (Nat.le_refl _) (.int .i64 0)).setCell (p := ⟨w.heap.size, 5, none⟩) (Nat.le_refl _) (.slice none 0 0))
      have z0 := X2.cell (j := 0) rfl
      have z1 := X2.cell (j := 1) rfl
      have z2 := X2.cell (j := 2) rfl
      have z3 := X2.cell (j := 3) rfl
      have z4 := X2.cell (j := 4) rfl
      have z5 := X2.cell (j := 5) rfl
      have q0 := X2.thaw 0
      have q1 := X2.thaw 1
      have q2 := X2.thaw 2
      have q3 := X2.thaw 3
      have q4 := X2.thaw 4
      have q5 := X2.thaw 5
      clear b1 bx X1 BX b2 X2
      go_wp2
      refine bodyPost_ret (v := .tuple #[.agg #[.int .i64 0, .int .i64 0, .int .i64 0, .int .i64 0, .int .i64 0, .slice none 0 0], .int .i64 0, .bool false]) (by simp [results, Tryd.results11, go_sem, z0, z1, z2, z3, z4, z5]) rfl ?_
      rw [hq]
      exact ⟨rfl, BL.out⟩
  | some p =>
    obtain ⟨j, E⟩ := p
    rw [hq] at h1
    obtain ⟨vo, vc, er, her, rfl, hvc, ho, b1⟩ := h1
    rcases her with ⟨rfl, _⟩ | ⟨rfl, _⟩
    · have bx := below_more b1 (.cells #[.int .i64 j.n, .int .i64 j.tm, .int .i64 j.vt, .int .i64 j.s, .int .i64 j.t, .slice vo j.l.length vc] 34)
      have X1 := R0.out.on bx R0.out.lt
      have K1 : BlockIs (w1.alloc (.cells #[.int .i64 j.n, .int .i64 j.tm, .int .i64 j.vt, .int .i64 j.s, .int .i64 j.t, .slice vo j.l.length vc] 34)) w1.heap.size 34 [.int .i64 j.n, .int .i64 j.tm, .int .i64 j.vt, .int .i64 j.s, .int .i64 j.t, .slice vo j.l.length vc] := heap_alloc_new w1 _
      have O1 := own_to ho (below_more (Below.refl w1.heap.size w1) (.cells #[.int .i64 j.n, .int .i64 j.tm, .int .i64 j.vt, .int .i64 j.s, .int .i64 j.t, .slice vo j.l.length vc] 34))
      have BX := below_via B0.out bx
      go_wp2_with fail
      refine (codeOf_nil _).mono ?_
      rintro e w2 ⟨rfl, b2⟩
      have X2 := X1.on b2 X1.lt
      have K2 := K1.on b2 K1.lt
      have O2 := own_to O1 b2
      have BL := hid (((((((below_via BX b2).setCell (p := ⟨w.heap.size, 0, none⟩) (Nat.le_refl _) (.int .i64 j.n)).setCell (p := ⟨w.heap.size, 1, none⟩) (Nat.le_refl _) (.int .i64 j.tm)).setCell (p := ⟨w.heap.size, 2, none⟩) (Nat.le_refl _) (.int .i64 j.vt)).setCell (p := ⟨w.heap.size, 3, none⟩) (Nat.le_refl _) (.int .i64 j.s)).setCell (p := ⟨w.heap.size, 4, none⟩) (Nat.le_refl _) (.int .i64 j.t)).setCell (p := ⟨w.heap.size, 5, none⟩) (Nat.le_refl _) (.slice vo j.l.length vc))
      have OL := hid (own_past (j := 5) (u := .slice vo j.l.length vc) (own_past (j := 4) (u := .int .i64 j.t) (own_past (j := 3) (u := .int .i64 j.s) (own_past (j := 2) (u := .int .i64 j.vt) (own_past (j := 1) (u := .int .i64 j.tm) (own_past (j := 0) (u := .int .i64 j.n) O2 X2 (by decide)) (X2.set 0 (.int .i64 j.n)) (by decide)) ((X2.set 0 (.int .i64 j.n)).set 1 (.int .i64 j.tm)) (by decide)) (((X2.set 0 (.int .i64 j.n)).set 1 (.int .i64 j.tm)).set 2 (.int .i64 j.vt)) (by decide)) ((((X2.set 0 (.int .i64 j.n)).set 1 (.int .i64 j.tm)).set 2 (.int .i64 j.vt)).set 3 (.int .i64 j.s)) (by decide)) (((((X2.set 0 (.int .i64 j.n)).set 1 (.int .i64 j.tm)).set 2 (.int .i64 j.vt)).set 3 (.int .i64 j.s)).set 4 (.int .i64 j.t)) (by decide))
      have z0 := X2.cell (j := 0) rfl
      have z1 := X2.cell (j := 1) rfl
      have z2 := X2.cell (j := 2) rfl
      have z3 := X2.cell (j := 3) rfl
      have z4 := X2.cell (j := 4) rfl
      have z5 := X2.cell (j := 5) rfl
      have q0 := X2.thaw 0
      have q1 := X2.thaw 1
      have q2 := X2.thaw 2
      have q3 := X2.thaw 3
      have q4 := X2.thaw 4
      have q5 := X2.thaw 5
      have k0 := K2.cell (j := 0) rfl
      have k1 := K2.cell (j := 1) rfl
      have k2 := K2.cell (j := 2) rfl
      have k3 := K2.cell (j := 3) rfl
      have k4 := K2.cell (j := 4) rfl
      have k5 := K2.cell (j := 5) rfl
      clear b1 bx X1 BX b2 X2 K1 K2 O1 O2 ho
      go_wp2
      refine bodyPost_ret (v := .tuple #[.agg #[.int .i64 j.n, .int .i64 j.tm, .int .i64 j.vt, .int .i64 j.s, .int .i64 j.t, .slice vo j.l.length vc], .int .i64 E, .bool true]) (by simp [results, Tryd.results11, go_sem, z0, z1, z2, z3, z4, z5]) rfl ?_
      rw [hq]
      exact ⟨vo, vc, rfl, hvc, OL.out.down hlo (Nat.le_refl _), BL.out⟩
    · have bx := below_more b1 (.cells #[.int .i64 j.n, .int .i64 j.tm, .int .i64 j.vt, .int .i64 j.s, .int .i64 j.t, .slice vo j.l.length vc] 34)
      have X1 := R0.out.on bx R0.out.lt
      have K1 : BlockIs (w1.alloc (.cells #[.int .i64 j.n, .int .i64 j.tm, .int .i64 j.vt, .int .i64 j.s, .int .i64 j.t, .slice vo j.l.length vc] 34)) w1.heap.size 34 [.int .i64 j.n, .int .i64 j.tm, .int .i64 j.vt, .int .i64 j.s, .int .i64 j.t, .slice vo j.l.length vc] := heap_alloc_new w1 _
      have O1 := own_to ho (below_more (Below.refl w1.heap.size w1) (.cells #[.int .i64 j.n, .int .i64 j.tm, .int .i64 j.vt, .int .i64 j.s, .int .i64 j.t, .slice vo j.l.length vc] 34))
      have BX := below_via B0.out bx
      go_wp2_with fail
      refine (codeOf_fault 4 _ ((bx.cell (p := ⟨0, 0, none⟩) (World.block_lt_of_cell? _ _ HE.out)).trans HE.out)).mono ?_
      rintro e w2 ⟨rfl, b2⟩
      have X2 := X1.on b2 X1.lt
      have K2 := K1.on b2 K1.lt
      have O2 := own_to O1 b2
      have BL := hid (((((((below_via BX b2).setCell (p := ⟨w.heap.size, 0, none⟩) (Nat.le_refl _) (.int .i64 j.n)).setCell (p := ⟨w.heap.size, 1, none⟩) (Nat.le_refl _) (.int .i64 j.tm)).setCell (p := ⟨w.heap.size, 2, none⟩) (Nat.le_refl _) (.int .i64 j.vt)).setCell (p := ⟨w.heap.size, 3, none⟩) (Nat.le_refl _) (.int .i64 j.s)).setCell (p := ⟨w.heap.size, 4, none⟩) (Nat.le_refl _) (.int .i64 j.t)).setCell (p := ⟨w.heap.size, 5, none⟩) (Nat.le_refl _) (.slice vo j.l.length vc))
      have OL := hid (own_past (j := 5) (u := .slice vo j.l.length vc) (own_past (j := 4) (u := .int .i64 j.t) (own_past (j := 3) (u := .int .i64 j.s) (own_past (j := 2) (u := .int .i64 j.vt) (own_past (j := 1) (u := .int .i64 j.tm) (own_past (j := 0) (u := .int .i64 j.n) O2 X2 (by decide)) (X2.set 0 (.int .i64 j.n)) (by decide)) ((X2.set 0 (.int .i64 j.n)).set 1 (.int .i64 j.tm)) (by decide)) (((X2.set 0 (.int .i64 j.n)).set 1 (.int .i64 j.tm)).set 2 (.int .i64 j.vt)) (by decide)) ((((X2.set 0 (.int .i64 j.n)).set 1 (.int .i64 j.tm)).set 2 (.int .i64 j.vt)).set 3 (.int .i64 j.s)) (by decide)) (((((X2.set 0 (.int .i64 j.n)).set 1 (.int .i64 j.tm)).set 2 (.int .i64 j.vt)).set 3 (.int .i64 j.s)).set 4 (.int .i64 j.t)) (by decide))
      have z0 := X2.cell (j := 0) rfl
      have z1 := X2.cell (j := 1) rfl
      have z2 := X2.cell (j := 2) rfl
      have z3 := X2.cell (j := 3) rfl
      have z4 := X2.cell (j := 4) rfl
      have z5 := X2.cell (j := 5) rfl
      have q0 := X2.thaw 0
      have q1 := X2.thaw 1
      have q2 := X2.thaw 2
      have q3 := X2.thaw 3
      have q4 := X2.thaw 4
      have q5 := X2.thaw 5
      have k0 := K2.cell (j := 0) rfl
      have k1 := K2.cell (j := 1) rfl
      have k2 := K2.cell (j := 2) rfl
      have k3 := K2.cell (j := 3) rfl
      have k4 := K2.cell (j := 4) rfl
      have k5 := K2.cell (j := 5) rfl
      clear b1 bx X1 BX b2 X2 K1 K2 O1 O2 ho
      go_wp2
      refine bodyPost_ret (v := .tuple #[.agg #[.int .i64 j.n, .int .i64 j.tm, .int .i64 j.vt, .int .i64 j.s, .int .i64 j.t, .slice vo j.l.length vc], .int .i64 E, .bool true]) (by simp [results, Tryd.results11, go_sem, z0, z1, z2, z3, z4, z5]) rfl ?_
      rw [hq]
      exact ⟨vo, vc, rfl, hvc, OL.out.down hlo (Nat.le_refl _), BL.out⟩
end Go.Proofs.YtjkgjnpifdafaabDoor
