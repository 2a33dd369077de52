/-
  The walk of impl.Push: what a stream sends.
-/
import Derived.Test.YtcmcmhiodkjflaaJoint29
import Derived.Test.YtcmcmhiodkjflaaJoint39
import Derived.Test.YtcmcmhiodkjflaaJoint1
import Derived.Test.YtcmcmhiodkjflaaJoint43
import Derived.Deep.QuietTactic
namespace Go.Proofs.Ytcmcmhiodkjflaa
open Go.RowKit

set_option maxRecDepth 1000000 in
set_option maxHeartbeats 4000000 in
theorem implPush_any (d : StrD) (ao : Option Addr) (cap : Nat) (hs : d.Small) (now : Int) (w : World) (ha : LatesAt w ao d.late) :
    Calls Try.prog 8 #[.agg #[.int .i64 d.st, .int .i64 d.iss, .int .i64 d.una, .int .i64 d.rcv, .string d.wait, .int .i64 d.sent, .int .i64 d.fin, .bool d.pf, .string d.inn, .slice ao d.late.length cap, .bool d.owe, .int .i64 d.due, .int .i64 d.times], .int .i64 now] w fun e w' => PushDid w (pushD now d) (pushSegs now d) e w' := by
  have hb1 := below_more (below_more (Below.refl w.heap.size w) (.cells #[.int .i64 d.st, .int .i64 d.iss, .int .i64 d.una, .int .i64 d.rcv, .string d.wait, .int .i64 d.sent, .int .i64 d.fin, .bool d.pf, .string d.inn, .slice ao d.late.length cap, .bool d.owe, .int .i64 d.due, .int .i64 d.times] 28)) (.cells #[.int .i64 0, .int .i64 0, .int .i64 0, .int .i64 0, .string ⟨#[]⟩, .int .i64 0, .int .i64 0, .bool false, .string ⟨#[]⟩, .slice none 0 0, .bool false, .int .i64 0, .int .i64 0] 28)
  have hy0 : BlockIs ((w.alloc (.cells #[.int .i64 d.st, .int .i64 d.iss, .int .i64 d.una, .int .i64 d.rcv, .string d.wait, .int .i64 d.sent, .int .i64 d.fin, .bool d.pf, .string d.inn, .slice ao d.late.length cap, .bool d.owe, .int .i64 d.due, .int .i64 d.times] 28)).alloc (.cells #[.int .i64 0, .int .i64 0, .int .i64 0, .int .i64 0, .string ⟨#[]⟩, .int .i64 0, .int .i64 0, .bool false, .string ⟨#[]⟩, .slice none 0 0, .bool false, .int .i64 0, .int .i64 0] 28)) w.heap.size 28 [.int .i64 d.st, .int .i64 d.iss, .int .i64 d.una, .int .i64 d.rcv, .string d.wait, .int .i64 d.sent, .int .i64 d.fin, .bool d.pf, .string d.inn, .slice ao d.late.length cap, .bool d.owe, .int .i64 d.due, .int .i64 d.times] := by
    show ((w.heap.push _).push _)[w.heap.size]? = some _
    rw [Array.getElem?_push, if_neg (by simp), Array.getElem?_push, if_pos rfl]
  have hy1 : BlockIs ((w.alloc (.cells #[.int .i64 d.st, .int .i64 d.iss, .int .i64 d.una, .int .i64 d.rcv, .string d.wait, .int .i64 d.sent, .int .i64 d.fin, .bool d.pf, .string d.inn, .slice ao d.late.length cap, .bool d.owe, .int .i64 d.due, .int .i64 d.times] 28)).alloc (.cells #[.int .i64 0, .int .i64 0, .int .i64 0, .int .i64 0, .string ⟨#[]⟩, .int .i64 0, .int .i64 0, .bool false, .string ⟨#[]⟩, .slice none 0 0, .bool false, .int .i64 0, .int .i64 0] 28)) (w.heap.size + 1) 28 [.int .i64 0, .int .i64 0, .int .i64 0, .int .i64 0, .string ⟨#[]⟩, .int .i64 0, .int .i64 0, .bool false, .string ⟨#[]⟩, .slice none 0 0, .bool false, .int .i64 0, .int .i64 0] := by
    show ((w.heap.push _).push _)[w.heap.size + 1]? = some _
    rw [Array.getElem?_push, if_pos (by simp)]
  obtain ⟨W0, hW0⟩ : ∃ W0, (w.alloc (.cells #[.int .i64 d.st, .int .i64 d.iss, .int .i64 d.una, .int .i64 d.rcv, .string d.wait, .int .i64 d.sent, .int .i64 d.fin, .bool d.pf, .string d.inn, .slice ao d.late.length cap, .bool d.owe, .int .i64 d.due, .int .i64 d.times] 28)).alloc (.cells #[.int .i64 0, .int .i64 0, .int .i64 0, .int .i64 0, .string ⟨#[]⟩, .int .i64 0, .int .i64 0, .bool false, .string ⟨#[]⟩, .slice none 0 0, .bool false, .int .i64 0, .int .i64 0] 28) = W0 := ⟨_, rfl⟩
  rw [hW0] at hb1 hy0 hy1
  have HA := hid ha
  have HS := hid hs
  have X0 := hid hy0
  have Y0 := hid hy1
  have B0 := hid hb1
  have hlt1 := hy1.lt
  have hlt0 := hb1.size
  have C := hid (endpointOf_any d ao cap hs now W0 (ha.on hb1))
  clear ha hb1 hy0 hy1 hs
  go_enter Try.func8, Try.ntmps8
  go_wp2_with (first | (refine wpList_load_str X0.out rfl rfl _ rfl rfl ?_) | fail)
  refine Calls.mono C.out ?_
  rintro e w1 ⟨g, rfl, he1, b1⟩
  have X1 := hid (X0.out.on b1 X0.out.lt)
  have Y1 := hid (Y0.out.on b1 Y0.out.lt)
  have B1 := hid (below_via B0.out b1)
  have HE1 := hid he1
  clear he1 b1 C X0 Y0 B0
  go_wp2_with (first | (refine wpList_load_str X1.out rfl rfl _ rfl rfl ?_) | fail)
  refine Calls.mono (implStreamOk_any d ao cap HS.out _ (HA.out.on B1.out)) ?_
  rintro e w3 ⟨rfl, b3⟩
  have Y3 := hid (Y1.out.on b3 Y1.out.lt)
  have B3 := hid (below_via B1.out b3)
  have HE3 := hid (HE1.out.on b3)
  clear b3 X1 Y1 B1 HE1
  cases hk : strOk d with
  | false =>
    have HD0 : Hid (mayPush d now = false) := by show _ = _; rw [mayPush, hk]; rfl
    have HD : Hid (pushD now d = d ∧ pushSegs now d = []) := ⟨by rw [pushD, HD0.out]; rfl, by rw [pushSegs, HD0.out]; rfl⟩
    clear hk
    have Y4 := Y3
    have B4 := B3
    have HE4 := hid (lower HE3.out hlt0)
    obtain ⟨hlo4, va, vc, sa, sq, hk4, hl4, hg4⟩ := HE4.out
    have K4 := hid hk4
    have L4 := hid hl4
    have G4 := hid hg4
    clear hk4 hl4 hg4 HE4 hlo4
    go_wp2
    refine wp_region_from (N := 30) (by kernel_rfl) (by kernel_rfl) rfl (by kernel_rfl) (fun W => Below w.heap.size w W ∧ BlockIs W g 56 [.int .i64 d.st, .int .i64 d.iss, .int .i64 d.una, .int .i64 d.rcv, .string d.wait, .int .i64 d.sent, .int .i64 d.fin, .bool d.pf, .string d.inn, .slice va d.late.length vc, .bool d.owe, .int .i64 d.due, .int .i64 d.times, .int .i64 now, .slice sa 0 sq] ∧ OwnsL W w.heap.size d.late va vc ∧ W.ownsRow w.heap.size 42 4 (.slice sa 0 sq) 0 (segCells [])) (fun j v _ W => match j with | 0 => v = .pointer (some ⟨g, 0, none⟩) | 1 => v = .pointer (some ⟨g, 0, none⟩) | 2 => v = .pointer (some ⟨g, 0, none⟩) | 3 => v = .agg #[.int .i64 d.st, .int .i64 d.iss, .int .i64 d.una, .int .i64 d.rcv, .string d.wait, .int .i64 d.sent, .int .i64 d.fin, .bool d.pf, .string d.inn, .slice va d.late.length vc, .bool d.owe, .int .i64 d.due, .int .i64 d.times] | 4 => v = .pointer (some ⟨g, 0, none⟩) | 5 => v = .pointer (some ⟨g, 0, none⟩) | 6 => v = .pointer (some ⟨g, 14, none⟩) | 7 => v = .slice sa 0 sq | 8 => BlockIs W (w.heap.size + 1) 28 [.int .i64 d.st, .int .i64 d.iss, .int .i64 d.una, .int .i64 d.rcv, .string d.wait, .int .i64 d.sent, .int .i64 d.fin, .bool d.pf, .string d.inn, .slice va d.late.length vc, .bool d.owe, .int .i64 d.due, .int .i64 d.times] | 9 => v = .slice sa 0 sq | _ => True) (fun i => i) (fun _ _ => false) (fun i x y => x.heap.size ≤ y.heap.size ∧ ∀ p ty cs, BlockIs x p ty cs → (i = 8 → p ≠ w.heap.size + 1) → BlockIs y p ty cs) (fun q9 W => match q9 with | 0 => BlockIs W (w.heap.size + 1) 28 [.int .i64 0, .int .i64 0, .int .i64 0, .int .i64 0, .string ⟨#[]⟩, .int .i64 0, .int .i64 0, .bool false, .string ⟨#[]⟩, .slice none 0 0, .bool false, .int .i64 0, .int .i64 0] | _ => True) (fun m k => decide ((m, k) ∈ ([(0, 8)] : List (Nat × Nat)))) ?_ (fun _ => 0) (by kernel_rfl) (fun _ _ => rfl) ?_ ⟨below_via B4.out (below_drewN (Below.refl w3.heap.size w3) 1), K4.out.on (below_drewN (Below.refl w3.heap.size w3) 1) K4.out.lt, L4.out.on (below_drewN (Below.refl w3.heap.size w3) 1), segR_below G4.out (below_drewN (Below.refl w3.heap.size w3) 1)⟩ (fun q9 => match q9 with | 0 => Y4.out.on (below_drewN (Below.refl w3.heap.size w3) 1) Y4.out.lt | _ + 1 => trivial) ?_ ?_
    · intro i m x y hen hxy hm
      match m, hen, hm with
      | 0, hen, hm =>
        simp at hen
        exact hxy.2 _ _ _ hm (fun e => absurd e hen)
      | n + 1, _, _ => exact trivial
    · intro i j v u x y hij hdd hwt hxy hg
      match j, hg with
      | 0, hg => exact hg
      | 1, hg => exact hg
      | 2, hg => exact hg
      | 3, hg => exact hg
      | 4, hg => exact hg
      | 5, hg => exact hg
      | 6, hg => exact hg
      | 7, hg => exact hg
      | 8, hg =>
        exact hxy.2 _ _ _ hg (fun e => absurd e hij)
      | 9, hg => exact hg
      | n + 10, _ => exact trivial
    · refine ⟨?_, ?_, ?_, ?_, ?_, ?_, ?_, ?_, ?_, ?_, trivial⟩
      · intro A W hC hI hg hb
        have h6 : A.eval (.tmp 6) = .pointer (some ⟨g, 0, none⟩) := hb 6 (base_of (by kernel_rfl))
        exact does_value (v := .pointer (some ⟨g, 0, none⟩)) (w' := W) (by simp only [execOp, h6]; simp [go_sem]) ⟨rfl, hC, Nat.le_refl _, fun _ _ _ h _ => h⟩
      · intro A W hC hI hg hb
        have h22 : A.eval (.tmp 22) = .pointer (some ⟨g, 0, none⟩) := hg 0 22 (by decide) rfl (by simp [Op.operands]) (by kernel_rfl) rfl
        exact does_value (v := .pointer (some ⟨g, 0, none⟩)) (w' := W) (by simp only [execOp, h22]; simp [go_sem]) ⟨rfl, hC, Nat.le_refl _, fun _ _ _ h _ => h⟩
      · intro A W hC hI hg hb
        have h23 : A.eval (.tmp 23) = .pointer (some ⟨g, 0, none⟩) := hg 1 23 (by decide) rfl (by simp [Op.operands]) (by kernel_rfl) rfl
        exact does_value (v := .pointer (some ⟨g, 0, none⟩)) (w' := W) (by simp only [execOp, h23]; simp [go_sem]) ⟨rfl, hC, Nat.le_refl _, fun _ _ _ h _ => h⟩
      · intro A W hC hI hg hb
        have h24 : A.eval (.tmp 24) = .pointer (some ⟨g, 0, none⟩) := hg 2 24 (by decide) rfl (by simp [Op.operands]) (by kernel_rfl) rfl
        exact does_value (v := .agg #[.int .i64 d.st, .int .i64 d.iss, .int .i64 d.una, .int .i64 d.rcv, .string d.wait, .int .i64 d.sent, .int .i64 d.fin, .bool d.pf, .string d.inn, .slice va d.late.length vc, .bool d.owe, .int .i64 d.due, .int .i64 d.times]) (w' := W) (by simp only [execOp, h24, load_str (cs := [.int .i64 d.st, .int .i64 d.iss, .int .i64 d.una, .int .i64 d.rcv, .string d.wait, .int .i64 d.sent, .int .i64 d.fin, .bool d.pf, .string d.inn, .slice va d.late.length vc, .bool d.owe, .int .i64 d.due, .int .i64 d.times]) (r := [.int .i64 now, .slice sa 0 sq]) hC.2.1 rfl, Sem.run_bind, Sem.run_pure, Result.andThen_ok]) ⟨rfl, hC, Nat.le_refl _, fun _ _ _ h _ => h⟩
      · intro A W hC hI hg hb
        have h6 : A.eval (.tmp 6) = .pointer (some ⟨g, 0, none⟩) := hb 6 (base_of (by kernel_rfl))
        exact does_value (v := .pointer (some ⟨g, 0, none⟩)) (w' := W) (by simp only [execOp, h6]; simp [go_sem]) ⟨rfl, hC, Nat.le_refl _, fun _ _ _ h _ => h⟩
      · intro A W hC hI hg hb
        have h26 : A.eval (.tmp 26) = .pointer (some ⟨g, 0, none⟩) := hg 4 26 (by decide) rfl (by simp [Op.operands]) (by kernel_rfl) rfl
        exact does_value (v := .pointer (some ⟨g, 0, none⟩)) (w' := W) (by simp only [execOp, h26]; simp [go_sem]) ⟨rfl, hC, Nat.le_refl _, fun _ _ _ h _ => h⟩
      · intro A W hC hI hg hb
        have h27 : A.eval (.tmp 27) = .pointer (some ⟨g, 0, none⟩) := hg 5 27 (by decide) rfl (by simp [Op.operands]) (by kernel_rfl) rfl
        exact does_value (v := .pointer (some ⟨g, 14, none⟩)) (w' := W) (by simp only [execOp, h27]; simp [go_sem]) ⟨rfl, hC, Nat.le_refl _, fun _ _ _ h _ => h⟩
      · intro A W hC hI hg hb
        have h28 : A.eval (.tmp 28) = .pointer (some ⟨g, 14, none⟩) := hg 6 28 (by decide) rfl (by simp [Op.operands]) (by kernel_rfl) rfl
        have hc := hC.2.1.cell (j := 14) rfl
        exact does_value (v := .slice sa 0 sq) (w' := W) (by simp only [execOp, h28]; simp [go_sem, hc]) ⟨rfl, hC, Nat.le_refl _, fun _ _ _ h _ => h⟩
      · intro A W hC hI hg hb
        have h4 : A.eval (.tmp 4) = .pointer (some ⟨w.heap.size + 1, 0, none⟩) := hb 4 (base_of (by kernel_rfl))
        have h25 : A.eval (.tmp 25) = .agg #[.int .i64 d.st, .int .i64 d.iss, .int .i64 d.una, .int .i64 d.rcv, .string d.wait, .int .i64 d.sent, .int .i64 d.fin, .bool d.pf, .string d.inn, .slice va d.late.length vc, .bool d.owe, .int .i64 d.due, .int .i64 d.times] := hg 3 25 (by decide) rfl (by simp [Op.operands]) (by kernel_rfl) rfl
        have hb1 : BlockIs W (w.heap.size + 1) 28 [.int .i64 0, .int .i64 0, .int .i64 0, .int .i64 0, .string ⟨#[]⟩, .int .i64 0, .int .i64 0, .bool false, .string ⟨#[]⟩, .slice none 0 0, .bool false, .int .i64 0, .int .i64 0] := hI 0 (by kernel_rfl)
        have hst := store_str hb1 rfl (A := #[.int .i64 d.st, .int .i64 d.iss, .int .i64 d.una, .int .i64 d.rcv, .string d.wait, .int .i64 d.sent, .int .i64 d.fin, .bool d.pf, .string d.inn, .slice va d.late.length vc, .bool d.owe, .int .i64 d.due, .int .i64 d.times]) rfl (strCells_all d _ _)
        exact does_skip (w' := W.setRow (w.heap.size + 1) #[.int .i64 d.st, .int .i64 d.iss, .int .i64 d.una, .int .i64 d.rcv, .string d.wait, .int .i64 d.sent, .int .i64 d.fin, .bool d.pf, .string d.inn, .slice va d.late.length vc, .bool d.owe, .int .i64 d.due, .int .i64 d.times]) (by simp only [execOp, h4, h25, hst, Sem.run_bind, Sem.run_pure, Result.andThen_ok]) ⟨store_block hb1 _, ⟨below_setRow hC.1 (by omega) _, block_setRow hC.2.1 (fun e => by subst e; exact absurd (block_one hb1 hC.2.1).1 (by decide)) _, row_setRow hb1 hC.2.2.1 (by decide) _, row_setRow hb1 hC.2.2.2 (by decide) _⟩, by simp [World.setRow], fun p ty cs hp hne => block_setRow hp (fun e => hne rfl e.symm) _⟩
      · intro A W hC hI hg hb
        have h29 : A.eval (.tmp 29) = .slice sa 0 sq := hg 7 29 (by decide) rfl (by simp [Op.operands]) (by kernel_rfl) rfl
        exact does_value (v := .slice sa 0 sq) (w' := W) (by simp only [execOp, h29]; simp [go_sem]) ⟨rfl, hC, Nat.le_refl _, fun _ _ _ h _ => h⟩
    · intro vs wE hC hI hg
      have h8 := hg 8 (by decide) (fun k => rfl)
      have h9 := hg 9 (by decide) (fun k => rfl)
      change BlockIs wE (w.heap.size + 1) 28 [.int .i64 d.st, .int .i64 d.iss, .int .i64 d.una, .int .i64 d.rcv, .string d.wait, .int .i64 d.sent, .int .i64 d.fin, .bool d.pf, .string d.inn, .slice va d.late.length vc, .bool d.owe, .int .i64 d.due, .int .i64 d.times] at h8
      change vs 9 = _ at h9
      clear hg hI
      change Exit.then _ _ _ (laidBy _ vs _ 10 _) wE
      simp only [laidBy, if_true, dstAt, List.getElem?_toArray, List.getElem?_cons_succ, List.getElem?_cons_zero, Option.bind_some]
      simp only [Act.put, List.setIfInBounds_toArray, List.set_cons_succ, List.set_cons_zero]
      rw [h9]
      have r0 := h8.cell (j := 0) rfl
      have r1 := h8.cell (j := 1) rfl
      have r2 := h8.cell (j := 2) rfl
      have r3 := h8.cell (j := 3) rfl
      have r4 := h8.cell (j := 4) rfl
      have r5 := h8.cell (j := 5) rfl
      have r6 := h8.cell (j := 6) rfl
      have r7 := h8.cell (j := 7) rfl
      have r8 := h8.cell (j := 8) rfl
      have r9 := h8.cell (j := 9) rfl
      have r10 := h8.cell (j := 10) rfl
      have r11 := h8.cell (j := 11) rfl
      have r12 := h8.cell (j := 12) rfl
      have HF := hid (show PushDid w d [] (.returned (.tuple #[.agg #[.int .i64 d.st, .int .i64 d.iss, .int .i64 d.una, .int .i64 d.rcv, .string d.wait, .int .i64 d.sent, .int .i64 d.fin, .bool d.pf, .string d.inn, .slice va d.late.length vc, .bool d.owe, .int .i64 d.due, .int .i64 d.times], .slice sa 0 sq])) wE from ⟨va, vc, sa, sq, rfl, (OwnsL.own hC.2.2.1).1, segs_own hC.2.2.2, hC.1⟩)
      clear hC h8 h9 K4 L4 G4 Y4 B4
      go_wp2
      refine bodyPost_ret (v := .tuple #[.agg #[.int .i64 d.st, .int .i64 d.iss, .int .i64 d.una, .int .i64 d.rcv, .string d.wait, .int .i64 d.sent, .int .i64 d.fin, .bool d.pf, .string d.inn, .slice va d.late.length vc, .bool d.owe, .int .i64 d.due, .int .i64 d.times], .slice sa 0 sq]) (by simp [results, Try.results8, go_sem, r0, r1, r2, r3, r4, r5, r6, r7, r8, r9, r10, r11, r12]) rfl (by rw [HD.out.1, HD.out.2]; exact HF.out)
  | true =>
    by_cases n1 : 0 ≤ now
    rotate_left
    · skip
      have HD0 : Hid (mayPush d now = false) := by show _ = _; rw [mayPush, within_no (by omega)]; simp
      have HD : Hid (pushD now d = d ∧ pushSegs now d = []) := ⟨by rw [pushD, HD0.out]; rfl, by rw [pushSegs, HD0.out]; rfl⟩
      clear hk
      have Y4 := Y3
      have B4 := B3
      have HE4 := hid (lower HE3.out hlt0)
      obtain ⟨hlo4, va, vc, sa, sq, hk4, hl4, hg4⟩ := HE4.out
      have K4 := hid hk4
      have L4 := hid hl4
      have G4 := hid hg4
      clear hk4 hl4 hg4 HE4 hlo4
      go_wp2
      refine wp_region_from (N := 30) (by kernel_rfl) (by kernel_rfl) rfl (by kernel_rfl) (fun W => Below w.heap.size w W ∧ BlockIs W g 56 [.int .i64 d.st, .int .i64 d.iss, .int .i64 d.una, .int .i64 d.rcv, .string d.wait, .int .i64 d.sent, .int .i64 d.fin, .bool d.pf, .string d.inn, .slice va d.late.length vc, .bool d.owe, .int .i64 d.due, .int .i64 d.times, .int .i64 now, .slice sa 0 sq] ∧ OwnsL W w.heap.size d.late va vc ∧ W.ownsRow w.heap.size 42 4 (.slice sa 0 sq) 0 (segCells [])) (fun j v _ W => match j with | 0 => v = .pointer (some ⟨g, 0, none⟩) | 1 => v = .pointer (some ⟨g, 0, none⟩) | 2 => v = .pointer (some ⟨g, 0, none⟩) | 3 => v = .agg #[.int .i64 d.st, .int .i64 d.iss, .int .i64 d.una, .int .i64 d.rcv, .string d.wait, .int .i64 d.sent, .int .i64 d.fin, .bool d.pf, .string d.inn, .slice va d.late.length vc, .bool d.owe, .int .i64 d.due, .int .i64 d.times] | 4 => v = .pointer (some ⟨g, 0, none⟩) | 5 => v = .pointer (some ⟨g, 0, none⟩) | 6 => v = .pointer (some ⟨g, 14, none⟩) | 7 => v = .slice sa 0 sq | 8 => BlockIs W (w.heap.size + 1) 28 [.int .i64 d.st, .int .i64 d.iss, .int .i64 d.una, .int .i64 d.rcv, .string d.wait, .int .i64 d.sent, .int .i64 d.fin, .bool d.pf, .string d.inn, .slice va d.late.length vc, .bool d.owe, .int .i64 d.due, .int .i64 d.times] | 9 => v = .slice sa 0 sq | _ => True) (fun i => i) (fun _ _ => false) (fun i x y => x.heap.size ≤ y.heap.size ∧ ∀ p ty cs, BlockIs x p ty cs → (i = 8 → p ≠ w.heap.size + 1) → BlockIs y p ty cs) (fun q9 W => match q9 with | 0 => BlockIs W (w.heap.size + 1) 28 [.int .i64 0, .int .i64 0, .int .i64 0, .int .i64 0, .string ⟨#[]⟩, .int .i64 0, .int .i64 0, .bool false, .string ⟨#[]⟩, .slice none 0 0, .bool false, .int .i64 0, .int .i64 0] | _ => True) (fun m k => decide ((m, k) ∈ ([(0, 8)] : List (Nat × Nat)))) ?_ (fun _ => 0) (by kernel_rfl) (fun _ _ => rfl) ?_ ⟨below_via B4.out (below_drewN (Below.refl w3.heap.size w3) 1), K4.out.on (below_drewN (Below.refl w3.heap.size w3) 1) K4.out.lt, L4.out.on (below_drewN (Below.refl w3.heap.size w3) 1), segR_below G4.out (below_drewN (Below.refl w3.heap.size w3) 1)⟩ (fun q9 => match q9 with | 0 => Y4.out.on (below_drewN (Below.refl w3.heap.size w3) 1) Y4.out.lt | _ + 1 => trivial) ?_ ?_
      · intro i m x y hen hxy hm
        match m, hen, hm with
        | 0, hen, hm =>
          simp at hen
          exact hxy.2 _ _ _ hm (fun e => absurd e hen)
        | n + 1, _, _ => exact trivial
      · intro i j v u x y hij hdd hwt hxy hg
        match j, hg with
        | 0, hg => exact hg
        | 1, hg => exact hg
        | 2, hg => exact hg
        | 3, hg => exact hg
        | 4, hg => exact hg
        | 5, hg => exact hg
        | 6, hg => exact hg
        | 7, hg => exact hg
        | 8, hg =>
          exact hxy.2 _ _ _ hg (fun e => absurd e hij)
        | 9, hg => exact hg
        | n + 10, _ => exact trivial
      · refine ⟨?_, ?_, ?_, ?_, ?_, ?_, ?_, ?_, ?_, ?_, trivial⟩
        · intro A W hC hI hg hb
          have h6 : A.eval (.tmp 6) = .pointer (some ⟨g, 0, none⟩) := hb 6 (base_of (by kernel_rfl))
          exact does_value (v := .pointer (some ⟨g, 0, none⟩)) (w' := W) (by simp only [execOp, h6]; simp [go_sem]) ⟨rfl, hC, Nat.le_refl _, fun _ _ _ h _ => h⟩
        · intro A W hC hI hg hb
          have h22 : A.eval (.tmp 22) = .pointer (some ⟨g, 0, none⟩) := hg 0 22 (by decide) rfl (by simp [Op.operands]) (by kernel_rfl) rfl
          exact does_value (v := .pointer (some ⟨g, 0, none⟩)) (w' := W) (by simp only [execOp, h22]; simp [go_sem]) ⟨rfl, hC, Nat.le_refl _, fun _ _ _ h _ => h⟩
        · intro A W hC hI hg hb
          have h23 : A.eval (.tmp 23) = .pointer (some ⟨g, 0, none⟩) := hg 1 23 (by decide) rfl (by simp [Op.operands]) (by kernel_rfl) rfl
          exact does_value (v := .pointer (some ⟨g, 0, none⟩)) (w' := W) (by simp only [execOp, h23]; simp [go_sem]) ⟨rfl, hC, Nat.le_refl _, fun _ _ _ h _ => h⟩
        · intro A W hC hI hg hb
          have h24 : A.eval (.tmp 24) = .pointer (some ⟨g, 0, none⟩) := hg 2 24 (by decide) rfl (by simp [Op.operands]) (by kernel_rfl) rfl
          exact does_value (v := .agg #[.int .i64 d.st, .int .i64 d.iss, .int .i64 d.una, .int .i64 d.rcv, .string d.wait, .int .i64 d.sent, .int .i64 d.fin, .bool d.pf, .string d.inn, .slice va d.late.length vc, .bool d.owe, .int .i64 d.due, .int .i64 d.times]) (w' := W) (by simp only [execOp, h24, load_str (cs := [.int .i64 d.st, .int .i64 d.iss, .int .i64 d.una, .int .i64 d.rcv, .string d.wait, .int .i64 d.sent, .int .i64 d.fin, .bool d.pf, .string d.inn, .slice va d.late.length vc, .bool d.owe, .int .i64 d.due, .int .i64 d.times]) (r := [.int .i64 now, .slice sa 0 sq]) hC.2.1 rfl, Sem.run_bind, Sem.run_pure, Result.andThen_ok]) ⟨rfl, hC, Nat.le_refl _, fun _ _ _ h _ => h⟩
        · intro A W hC hI hg hb
          have h6 : A.eval (.tmp 6) = .pointer (some ⟨g, 0, none⟩) := hb 6 (base_of (by kernel_rfl))
          exact does_value (v := .pointer (some ⟨g, 0, none⟩)) (w' := W) (by simp only [execOp, h6]; simp [go_sem]) ⟨rfl, hC, Nat.le_refl _, fun _ _ _ h _ => h⟩
        · intro A W hC hI hg hb
          have h26 : A.eval (.tmp 26) = .pointer (some ⟨g, 0, none⟩) := hg 4 26 (by decide) rfl (by simp [Op.operands]) (by kernel_rfl) rfl
          exact does_value (v := .pointer (some ⟨g, 0, none⟩)) (w' := W) (by simp only [execOp, h26]; simp [go_sem]) ⟨rfl, hC, Nat.le_refl _, fun _ _ _ h _ => h⟩
        · intro A W hC hI hg hb
          have h27 : A.eval (.tmp 27) = .pointer (some ⟨g, 0, none⟩) := hg 5 27 (by decide) rfl (by simp [Op.operands]) (by kernel_rfl) rfl
          exact does_value (v := .pointer (some ⟨g, 14, none⟩)) (w' := W) (by simp only [execOp, h27]; simp [go_sem]) ⟨rfl, hC, Nat.le_refl _, fun _ _ _ h _ => h⟩
        · intro A W hC hI hg hb
          have h28 : A.eval (.tmp 28) = .pointer (some ⟨g, 14, none⟩) := hg 6 28 (by decide) rfl (by simp [Op.operands]) (by kernel_rfl) rfl
          have hc := hC.2.1.cell (j := 14) rfl
          exact does_value (v := .slice sa 0 sq) (w' := W) (by simp only [execOp, h28]; simp [go_sem, hc]) ⟨rfl, hC, Nat.le_refl _, fun _ _ _ h _ => h⟩
        · intro A W hC hI hg hb
          have h4 : A.eval (.tmp 4) = .pointer (some ⟨w.heap.size + 1, 0, none⟩) := hb 4 (base_of (by kernel_rfl))
          have h25 : A.eval (.tmp 25) = .agg #[.int .i64 d.st, .int .i64 d.iss, .int .i64 d.una, .int .i64 d.rcv, .string d.wait, .int .i64 d.sent, .int .i64 d.fin, .bool d.pf, .string d.inn, .slice va d.late.length vc, .bool d.owe, .int .i64 d.due, .int .i64 d.times] := hg 3 25 (by decide) rfl (by simp [Op.operands]) (by kernel_rfl) rfl
          have hb1 : BlockIs W (w.heap.size + 1) 28 [.int .i64 0, .int .i64 0, .int .i64 0, .int .i64 0, .string ⟨#[]⟩, .int .i64 0, .int .i64 0, .bool false, .string ⟨#[]⟩, .slice none 0 0, .bool false, .int .i64 0, .int .i64 0] := hI 0 (by kernel_rfl)
          have hst := store_str hb1 rfl (A := #[.int .i64 d.st, .int .i64 d.iss, .int .i64 d.una, .int .i64 d.rcv, .string d.wait, .int .i64 d.sent, .int .i64 d.fin, .bool d.pf, .string d.inn, .slice va d.late.length vc, .bool d.owe, .int .i64 d.due, .int .i64 d.times]) rfl (strCells_all d _ _)
          exact does_skip (w' := W.setRow (w.heap.size + 1) #[.int .i64 d.st, .int .i64 d.iss, .int .i64 d.una, .int .i64 d.rcv, .string d.wait, .int .i64 d.sent, .int .i64 d.fin, .bool d.pf, .string d.inn, .slice va d.late.length vc, .bool d.owe, .int .i64 d.due, .int .i64 d.times]) (by simp only [execOp, h4, h25, hst, Sem.run_bind, Sem.run_pure, Result.andThen_ok]) ⟨store_block hb1 _, ⟨below_setRow hC.1 (by omega) _, block_setRow hC.2.1 (fun e => by subst e; exact absurd (block_one hb1 hC.2.1).1 (by decide)) _, row_setRow hb1 hC.2.2.1 (by decide) _, row_setRow hb1 hC.2.2.2 (by decide) _⟩, by simp [World.setRow], fun p ty cs hp hne => block_setRow hp (fun e => hne rfl e.symm) _⟩
        · intro A W hC hI hg hb
          have h29 : A.eval (.tmp 29) = .slice sa 0 sq := hg 7 29 (by decide) rfl (by simp [Op.operands]) (by kernel_rfl) rfl
          exact does_value (v := .slice sa 0 sq) (w' := W) (by simp only [execOp, h29]; simp [go_sem]) ⟨rfl, hC, Nat.le_refl _, fun _ _ _ h _ => h⟩
      · intro vs wE hC hI hg
        have h8 := hg 8 (by decide) (fun k => rfl)
        have h9 := hg 9 (by decide) (fun k => rfl)
        change BlockIs wE (w.heap.size + 1) 28 [.int .i64 d.st, .int .i64 d.iss, .int .i64 d.una, .int .i64 d.rcv, .string d.wait, .int .i64 d.sent, .int .i64 d.fin, .bool d.pf, .string d.inn, .slice va d.late.length vc, .bool d.owe, .int .i64 d.due, .int .i64 d.times] at h8
        change vs 9 = _ at h9
        clear hg hI
        change Exit.then _ _ _ (laidBy _ vs _ 10 _) wE
        simp only [laidBy, if_true, dstAt, List.getElem?_toArray, List.getElem?_cons_succ, List.getElem?_cons_zero, Option.bind_some]
        simp only [Act.put, List.setIfInBounds_toArray, List.set_cons_succ, List.set_cons_zero]
        rw [h9]
        have r0 := h8.cell (j := 0) rfl
        have r1 := h8.cell (j := 1) rfl
        have r2 := h8.cell (j := 2) rfl
        have r3 := h8.cell (j := 3) rfl
        have r4 := h8.cell (j := 4) rfl
        have r5 := h8.cell (j := 5) rfl
        have r6 := h8.cell (j := 6) rfl
        have r7 := h8.cell (j := 7) rfl
        have r8 := h8.cell (j := 8) rfl
        have r9 := h8.cell (j := 9) rfl
        have r10 := h8.cell (j := 10) rfl
        have r11 := h8.cell (j := 11) rfl
        have r12 := h8.cell (j := 12) rfl
        have HF := hid (show PushDid w d [] (.returned (.tuple #[.agg #[.int .i64 d.st, .int .i64 d.iss, .int .i64 d.una, .int .i64 d.rcv, .string d.wait, .int .i64 d.sent, .int .i64 d.fin, .bool d.pf, .string d.inn, .slice va d.late.length vc, .bool d.owe, .int .i64 d.due, .int .i64 d.times], .slice sa 0 sq])) wE from ⟨va, vc, sa, sq, rfl, (OwnsL.own hC.2.2.1).1, segs_own hC.2.2.2, hC.1⟩)
        clear hC h8 h9 K4 L4 G4 Y4 B4
        go_wp2
        refine bodyPost_ret (v := .tuple #[.agg #[.int .i64 d.st, .int .i64 d.iss, .int .i64 d.una, .int .i64 d.rcv, .string d.wait, .int .i64 d.sent, .int .i64 d.fin, .bool d.pf, .string d.inn, .slice va d.late.length vc, .bool d.owe, .int .i64 d.due, .int .i64 d.times], .slice sa 0 sq]) (by simp [results, Try.results8, go_sem, r0, r1, r2, r3, r4, r5, r6, r7, r8, r9, r10, r11, r12]) rfl (by rw [HD.out.1, HD.out.2]; exact HF.out)
    by_cases n2 : now ≤ 999999900
    rotate_left
    · skip
      have HD0 : Hid (mayPush d now = false) := by show _ = _; rw [mayPush, within_no (by omega)]; simp
      have HD : Hid (pushD now d = d ∧ pushSegs now d = []) := ⟨by rw [pushD, HD0.out]; rfl, by rw [pushSegs, HD0.out]; rfl⟩
      clear hk
      have Y4 := Y3
      have B4 := B3
      have HE4 := hid (lower HE3.out hlt0)
      obtain ⟨hlo4, va, vc, sa, sq, hk4, hl4, hg4⟩ := HE4.out
      have K4 := hid hk4
      have L4 := hid hl4
      have G4 := hid hg4
      clear hk4 hl4 hg4 HE4 hlo4
      go_wp2
      refine wp_region_from (N := 30) (by kernel_rfl) (by kernel_rfl) rfl (by kernel_rfl) (fun W => Below w.heap.size w W ∧ BlockIs W g 56 [.int .i64 d.st, .int .i64 d.iss, .int .i64 d.una, .int .i64 d.rcv, .string d.wait, .int .i64 d.sent, .int .i64 d.fin, .bool d.pf, .string d.inn, .slice va d.late.length vc, .bool d.owe, .int .i64 d.due, .int .i64 d.times, .int .i64 now, .slice sa 0 sq] ∧ OwnsL W w.heap.size d.late va vc ∧ W.ownsRow w.heap.size 42 4 (.slice sa 0 sq) 0 (segCells [])) (fun j v _ W => match j with | 0 => v = .pointer (some ⟨g, 0, none⟩) | 1 => v = .pointer (some ⟨g, 0, none⟩) | 2 => v = .pointer (some ⟨g, 0, none⟩) | 3 => v = .agg #[.int .i64 d.st, .int .i64 d.iss, .int .i64 d.una, .int .i64 d.rcv, .string d.wait, .int .i64 d.sent, .int .i64 d.fin, .bool d.pf, .string d.inn, .slice va d.late.length vc, .bool d.owe, .int .i64 d.due, .int .i64 d.times] | 4 => v = .pointer (some ⟨g, 0, none⟩) | 5 => v = .pointer (some ⟨g, 0, none⟩) | 6 => v = .pointer (some ⟨g, 14, none⟩) | 7 => v = .slice sa 0 sq | 8 => BlockIs W (w.heap.size + 1) 28 [.int .i64 d.st, .int .i64 d.iss, .int .i64 d.una, .int .i64 d.rcv, .string d.wait, .int .i64 d.sent, .int .i64 d.fin, .bool d.pf, .string d.inn, .slice va d.late.length vc, .bool d.owe, .int .i64 d.due, .int .i64 d.times] | 9 => v = .slice sa 0 sq | _ => True) (fun i => i) (fun _ _ => false) (fun i x y => x.heap.size ≤ y.heap.size ∧ ∀ p ty cs, BlockIs x p ty cs → (i = 8 → p ≠ w.heap.size + 1) → BlockIs y p ty cs) (fun q9 W => match q9 with | 0 => BlockIs W (w.heap.size + 1) 28 [.int .i64 0, .int .i64 0, .int .i64 0, .int .i64 0, .string ⟨#[]⟩, .int .i64 0, .int .i64 0, .bool false, .string ⟨#[]⟩, .slice none 0 0, .bool false, .int .i64 0, .int .i64 0] | _ => True) (fun m k => decide ((m, k) ∈ ([(0, 8)] : List (Nat × Nat)))) ?_ (fun _ => 0) (by kernel_rfl) (fun _ _ => rfl) ?_ ⟨below_via B4.out (below_drewN (Below.refl w3.heap.size w3) 1), K4.out.on (below_drewN (Below.refl w3.heap.size w3) 1) K4.out.lt, L4.out.on (below_drewN (Below.refl w3.heap.size w3) 1), segR_below G4.out (below_drewN (Below.refl w3.heap.size w3) 1)⟩ (fun q9 => match q9 with | 0 => Y4.out.on (below_drewN (Below.refl w3.heap.size w3) 1) Y4.out.lt | _ + 1 => trivial) ?_ ?_
      · intro i m x y hen hxy hm
        match m, hen, hm with
        | 0, hen, hm =>
          simp at hen
          exact hxy.2 _ _ _ hm (fun e => absurd e hen)
        | n + 1, _, _ => exact trivial
      · intro i j v u x y hij hdd hwt hxy hg
        match j, hg with
        | 0, hg => exact hg
        | 1, hg => exact hg
        | 2, hg => exact hg
        | 3, hg => exact hg
        | 4, hg => exact hg
        | 5, hg => exact hg
        | 6, hg => exact hg
        | 7, hg => exact hg
        | 8, hg =>
          exact hxy.2 _ _ _ hg (fun e => absurd e hij)
        | 9, hg => exact hg
        | n + 10, _ => exact trivial
      · refine ⟨?_, ?_, ?_, ?_, ?_, ?_, ?_, ?_, ?_, ?_, trivial⟩
        · intro A W hC hI hg hb
          have h6 : A.eval (.tmp 6) = .pointer (some ⟨g, 0, none⟩) := hb 6 (base_of (by kernel_rfl))
          exact does_value (v := .pointer (some ⟨g, 0, none⟩)) (w' := W) (by simp only [execOp, h6]; simp [go_sem]) ⟨rfl, hC, Nat.le_refl _, fun _ _ _ h _ => h⟩
        · intro A W hC hI hg hb
          have h22 : A.eval (.tmp 22) = .pointer (some ⟨g, 0, none⟩) := hg 0 22 (by decide) rfl (by simp [Op.operands]) (by kernel_rfl) rfl
          exact does_value (v := .pointer (some ⟨g, 0, none⟩)) (w' := W) (by simp only [execOp, h22]; simp [go_sem]) ⟨rfl, hC, Nat.le_refl _, fun _ _ _ h _ => h⟩
        · intro A W hC hI hg hb
          have h23 : A.eval (.tmp 23) = .pointer (some ⟨g, 0, none⟩) := hg 1 23 (by decide) rfl (by simp [Op.operands]) (by kernel_rfl) rfl
          exact does_value (v := .pointer (some ⟨g, 0, none⟩)) (w' := W) (by simp only [execOp, h23]; simp [go_sem]) ⟨rfl, hC, Nat.le_refl _, fun _ _ _ h _ => h⟩
        · intro A W hC hI hg hb
          have h24 : A.eval (.tmp 24) = .pointer (some ⟨g, 0, none⟩) := hg 2 24 (by decide) rfl (by simp [Op.operands]) (by kernel_rfl) rfl
          exact does_value (v := .agg #[.int .i64 d.st, .int .i64 d.iss, .int .i64 d.una, .int .i64 d.rcv, .string d.wait, .int .i64 d.sent, .int .i64 d.fin, .bool d.pf, .string d.inn, .slice va d.late.length vc, .bool d.owe, .int .i64 d.due, .int .i64 d.times]) (w' := W) (by simp only [execOp, h24, load_str (cs := [.int .i64 d.st, .int .i64 d.iss, .int .i64 d.una, .int .i64 d.rcv, .string d.wait, .int .i64 d.sent, .int .i64 d.fin, .bool d.pf, .string d.inn, .slice va d.late.length vc, .bool d.owe, .int .i64 d.due, .int .i64 d.times]) (r := [.int .i64 now, .slice sa 0 sq]) hC.2.1 rfl, Sem.run_bind, Sem.run_pure, Result.andThen_ok]) ⟨rfl, hC, Nat.le_refl _, fun _ _ _ h _ => h⟩
        · intro A W hC hI hg hb
          have h6 : A.eval (.tmp 6) = .pointer (some ⟨g, 0, none⟩) := hb 6 (base_of (by kernel_rfl))
          exact does_value (v := .pointer (some ⟨g, 0, none⟩)) (w' := W) (by simp only [execOp, h6]; simp [go_sem]) ⟨rfl, hC, Nat.le_refl _, fun _ _ _ h _ => h⟩
        · intro A W hC hI hg hb
          have h26 : A.eval (.tmp 26) = .pointer (some ⟨g, 0, none⟩) := hg 4 26 (by decide) rfl (by simp [Op.operands]) (by kernel_rfl) rfl
          exact does_value (v := .pointer (some ⟨g, 0, none⟩)) (w' := W) (by simp only [execOp, h26]; simp [go_sem]) ⟨rfl, hC, Nat.le_refl _, fun _ _ _ h _ => h⟩
        · intro A W hC hI hg hb
          have h27 : A.eval (.tmp 27) = .pointer (some ⟨g, 0, none⟩) := hg 5 27 (by decide) rfl (by simp [Op.operands]) (by kernel_rfl) rfl
          exact does_value (v := .pointer (some ⟨g, 14, none⟩)) (w' := W) (by simp only [execOp, h27]; simp [go_sem]) ⟨rfl, hC, Nat.le_refl _, fun _ _ _ h _ => h⟩
        · intro A W hC hI hg hb
          have h28 : A.eval (.tmp 28) = .pointer (some ⟨g, 14, none⟩) := hg 6 28 (by decide) rfl (by simp [Op.operands]) (by kernel_rfl) rfl
          have hc := hC.2.1.cell (j := 14) rfl
          exact does_value (v := .slice sa 0 sq) (w' := W) (by simp only [execOp, h28]; simp [go_sem, hc]) ⟨rfl, hC, Nat.le_refl _, fun _ _ _ h _ => h⟩
        · intro A W hC hI hg hb
          have h4 : A.eval (.tmp 4) = .pointer (some ⟨w.heap.size + 1, 0, none⟩) := hb 4 (base_of (by kernel_rfl))
          have h25 : A.eval (.tmp 25) = .agg #[.int .i64 d.st, .int .i64 d.iss, .int .i64 d.una, .int .i64 d.rcv, .string d.wait, .int .i64 d.sent, .int .i64 d.fin, .bool d.pf, .string d.inn, .slice va d.late.length vc, .bool d.owe, .int .i64 d.due, .int .i64 d.times] := hg 3 25 (by decide) rfl (by simp [Op.operands]) (by kernel_rfl) rfl
          have hb1 : BlockIs W (w.heap.size + 1) 28 [.int .i64 0, .int .i64 0, .int .i64 0, .int .i64 0, .string ⟨#[]⟩, .int .i64 0, .int .i64 0, .bool false, .string ⟨#[]⟩, .slice none 0 0, .bool false, .int .i64 0, .int .i64 0] := hI 0 (by kernel_rfl)
          have hst := store_str hb1 rfl (A := #[.int .i64 d.st, .int .i64 d.iss, .int .i64 d.una, .int .i64 d.rcv, .string d.wait, .int .i64 d.sent, .int .i64 d.fin, .bool d.pf, .string d.inn, .slice va d.late.length vc, .bool d.owe, .int .i64 d.due, .int .i64 d.times]) rfl (strCells_all d _ _)
          exact does_skip (w' := W.setRow (w.heap.size + 1) #[.int .i64 d.st, .int .i64 d.iss, .int .i64 d.una, .int .i64 d.rcv, .string d.wait, .int .i64 d.sent, .int .i64 d.fin, .bool d.pf, .string d.inn, .slice va d.late.length vc, .bool d.owe, .int .i64 d.due, .int .i64 d.times]) (by simp only [execOp, h4, h25, hst, Sem.run_bind, Sem.run_pure, Result.andThen_ok]) ⟨store_block hb1 _, ⟨below_setRow hC.1 (by omega) _, block_setRow hC.2.1 (fun e => by subst e; exact absurd (block_one hb1 hC.2.1).1 (by decide)) _, row_setRow hb1 hC.2.2.1 (by decide) _, row_setRow hb1 hC.2.2.2 (by decide) _⟩, by simp [World.setRow], fun p ty cs hp hne => block_setRow hp (fun e => hne rfl e.symm) _⟩
        · intro A W hC hI hg hb
          have h29 : A.eval (.tmp 29) = .slice sa 0 sq := hg 7 29 (by decide) rfl (by simp [Op.operands]) (by kernel_rfl) rfl
          exact does_value (v := .slice sa 0 sq) (w' := W) (by simp only [execOp, h29]; simp [go_sem]) ⟨rfl, hC, Nat.le_refl _, fun _ _ _ h _ => h⟩
      · intro vs wE hC hI hg
        have h8 := hg 8 (by decide) (fun k => rfl)
        have h9 := hg 9 (by decide) (fun k => rfl)
        change BlockIs wE (w.heap.size + 1) 28 [.int .i64 d.st, .int .i64 d.iss, .int .i64 d.una, .int .i64 d.rcv, .string d.wait, .int .i64 d.sent, .int .i64 d.fin, .bool d.pf, .string d.inn, .slice va d.late.length vc, .bool d.owe, .int .i64 d.due, .int .i64 d.times] at h8
        change vs 9 = _ at h9
        clear hg hI
        change Exit.then _ _ _ (laidBy _ vs _ 10 _) wE
        simp only [laidBy, if_true, dstAt, List.getElem?_toArray, List.getElem?_cons_succ, List.getElem?_cons_zero, Option.bind_some]
        simp only [Act.put, List.setIfInBounds_toArray, List.set_cons_succ, List.set_cons_zero]
        rw [h9]
        have r0 := h8.cell (j := 0) rfl
        have r1 := h8.cell (j := 1) rfl
        have r2 := h8.cell (j := 2) rfl
        have r3 := h8.cell (j := 3) rfl
        have r4 := h8.cell (j := 4) rfl
        have r5 := h8.cell (j := 5) rfl
        have r6 := h8.cell (j := 6) rfl
        have r7 := h8.cell (j := 7) rfl
        have r8 := h8.cell (j := 8) rfl
        have r9 := h8.cell (j := 9) rfl
        have r10 := h8.cell (j := 10) rfl
        have r11 := h8.cell (j := 11) rfl
        have r12 := h8.cell (j := 12) rfl
        have HF := hid (show PushDid w d [] (.returned (.tuple #[.agg #[.int .i64 d.st, .int .i64 d.iss, .int .i64 d.una, .int .i64 d.rcv, .string d.wait, .int .i64 d.sent, .int .i64 d.fin, .bool d.pf, .string d.inn, .slice va d.late.length vc, .bool d.owe, .int .i64 d.due, .int .i64 d.times], .slice sa 0 sq])) wE from ⟨va, vc, sa, sq, rfl, (OwnsL.own hC.2.2.1).1, segs_own hC.2.2.2, hC.1⟩)
        clear hC h8 h9 K4 L4 G4 Y4 B4
        go_wp2
        refine bodyPost_ret (v := .tuple #[.agg #[.int .i64 d.st, .int .i64 d.iss, .int .i64 d.una, .int .i64 d.rcv, .string d.wait, .int .i64 d.sent, .int .i64 d.fin, .bool d.pf, .string d.inn, .slice va d.late.length vc, .bool d.owe, .int .i64 d.due, .int .i64 d.times], .slice sa 0 sq]) (by simp [results, Try.results8, go_sem, r0, r1, r2, r3, r4, r5, r6, r7, r8, r9, r10, r11, r12]) rfl (by rw [HD.out.1, HD.out.2]; exact HF.out)
    have hR := strOk_iff.1 hk
    have HD0 : Hid (mayPush d now = true) := by show _ = _; rw [mayPush, hk, within_yes n1 n2]; rfl
    have HD : Hid (pushD now d = push1D now d ∧ pushSegs now d = push1S now d) := ⟨by rw [pushD, HD0.out]; rfl, by rw [pushSegs, HD0.out]; rfl⟩
    clear hk
    go_wp2_with fail
    refine Calls.mono (push_any W0.heap.size g d now hR ⟨n1, by omega⟩ _ HE3.out) ?_
    rintro e w4 ⟨rfl, h4⟩
    have Y4 := hid (Y3.out.on h4.2 (by omega))
    have B4 := hid (B3.out.trans (h4.2.mono hlt0))
    have HE4 := hid (lower h4.1 hlt0)
    clear h4 HE3 Y3 B3
    obtain ⟨D, hD⟩ : ∃ D, push1D now d = D := ⟨_, rfl⟩
    obtain ⟨L, hL⟩ : ∃ L, push1S now d = L := ⟨_, rfl⟩
    rw [hD, hL] at HD HE4
    clear hD hL
    obtain ⟨hlo4, va, vc, sa, sq, hk4, hl4, hg4⟩ := HE4.out
    have K4 := hid hk4
    have L4 := hid hl4
    have G4 := hid hg4
    clear hk4 hl4 hg4 HE4 hlo4
    go_wp2
    refine wp_region_from (N := 30) (by kernel_rfl) (by kernel_rfl) rfl (by kernel_rfl) (fun W => Below w.heap.size w W ∧ BlockIs W g 56 [.int .i64 D.st, .int .i64 D.iss, .int .i64 D.una, .int .i64 D.rcv, .string D.wait, .int .i64 D.sent, .int .i64 D.fin, .bool D.pf, .string D.inn, .slice va D.late.length vc, .bool D.owe, .int .i64 D.due, .int .i64 D.times, .int .i64 now, .slice sa L.length sq] ∧ OwnsL W w.heap.size D.late va vc ∧ W.ownsRow w.heap.size 42 4 (.slice sa L.length sq) L.length (segCells L)) (fun j v _ W => match j with | 0 => v = .pointer (some ⟨g, 0, none⟩) | 1 => v = .pointer (some ⟨g, 0, none⟩) | 2 => v = .pointer (some ⟨g, 0, none⟩) | 3 => v = .agg #[.int .i64 D.st, .int .i64 D.iss, .int .i64 D.una, .int .i64 D.rcv, .string D.wait, .int .i64 D.sent, .int .i64 D.fin, .bool D.pf, .string D.inn, .slice va D.late.length vc, .bool D.owe, .int .i64 D.due, .int .i64 D.times] | 4 => v = .pointer (some ⟨g, 0, none⟩) | 5 => v = .pointer (some ⟨g, 0, none⟩) | 6 => v = .pointer (some ⟨g, 14, none⟩) | 7 => v = .slice sa L.length sq | 8 => BlockIs W (w.heap.size + 1) 28 [.int .i64 D.st, .int .i64 D.iss, .int .i64 D.una, .int .i64 D.rcv, .string D.wait, .int .i64 D.sent, .int .i64 D.fin, .bool D.pf, .string D.inn, .slice va D.late.length vc, .bool D.owe, .int .i64 D.due, .int .i64 D.times] | 9 => v = .slice sa L.length sq | _ => True) (fun i => i) (fun _ _ => false) (fun i x y => x.heap.size ≤ y.heap.size ∧ ∀ p ty cs, BlockIs x p ty cs → (i = 8 → p ≠ w.heap.size + 1) → BlockIs y p ty cs) (fun q9 W => match q9 with | 0 => BlockIs W (w.heap.size + 1) 28 [.int .i64 0, .int .i64 0, .int .i64 0, .int .i64 0, .string ⟨#[]⟩, .int .i64 0, .int .i64 0, .bool false, .string ⟨#[]⟩, .slice none 0 0, .bool false, .int .i64 0, .int .i64 0] | _ => True) (fun m k => decide ((m, k) ∈ ([(0, 8)] : List (Nat × Nat)))) ?_ (fun _ => 0) (by kernel_rfl) (fun _ _ => rfl) ?_ ⟨below_via B4.out (below_drewN (Below.refl w4.heap.size w4) 1), K4.out.on (below_drewN (Below.refl w4.heap.size w4) 1) K4.out.lt, L4.out.on (below_drewN (Below.refl w4.heap.size w4) 1), segR_below G4.out (below_drewN (Below.refl w4.heap.size w4) 1)⟩ (fun q9 => match q9 with | 0 => Y4.out.on (below_drewN (Below.refl w4.heap.size w4) 1) Y4.out.lt | _ + 1 => trivial) ?_ ?_
    · intro i m x y hen hxy hm
      match m, hen, hm with
      | 0, hen, hm =>
        simp at hen
        exact hxy.2 _ _ _ hm (fun e => absurd e hen)
      | n + 1, _, _ => exact trivial
    · intro i j v u x y hij hdd hwt hxy hg
      match j, hg with
      | 0, hg => exact hg
      | 1, hg => exact hg
      | 2, hg => exact hg
      | 3, hg => exact hg
      | 4, hg => exact hg
      | 5, hg => exact hg
      | 6, hg => exact hg
      | 7, hg => exact hg
      | 8, hg =>
        exact hxy.2 _ _ _ hg (fun e => absurd e hij)
      | 9, hg => exact hg
      | n + 10, _ => exact trivial
    · refine ⟨?_, ?_, ?_, ?_, ?_, ?_, ?_, ?_, ?_, ?_, trivial⟩
      · intro A W hC hI hg hb
        have h6 : A.eval (.tmp 6) = .pointer (some ⟨g, 0, none⟩) := hb 6 (base_of (by kernel_rfl))
        exact does_value (v := .pointer (some ⟨g, 0, none⟩)) (w' := W) (by simp only [execOp, h6]; simp [go_sem]) ⟨rfl, hC, Nat.le_refl _, fun _ _ _ h _ => h⟩
      · intro A W hC hI hg hb
        have h22 : A.eval (.tmp 22) = .pointer (some ⟨g, 0, none⟩) := hg 0 22 (by decide) rfl (by simp [Op.operands]) (by kernel_rfl) rfl
        exact does_value (v := .pointer (some ⟨g, 0, none⟩)) (w' := W) (by simp only [execOp, h22]; simp [go_sem]) ⟨rfl, hC, Nat.le_refl _, fun _ _ _ h _ => h⟩
      · intro A W hC hI hg hb
        have h23 : A.eval (.tmp 23) = .pointer (some ⟨g, 0, none⟩) := hg 1 23 (by decide) rfl (by simp [Op.operands]) (by kernel_rfl) rfl
        exact does_value (v := .pointer (some ⟨g, 0, none⟩)) (w' := W) (by simp only [execOp, h23]; simp [go_sem]) ⟨rfl, hC, Nat.le_refl _, fun _ _ _ h _ => h⟩
      · intro A W hC hI hg hb
        have h24 : A.eval (.tmp 24) = .pointer (some ⟨g, 0, none⟩) := hg 2 24 (by decide) rfl (by simp [Op.operands]) (by kernel_rfl) rfl
        exact does_value (v := .agg #[.int .i64 D.st, .int .i64 D.iss, .int .i64 D.una, .int .i64 D.rcv, .string D.wait, .int .i64 D.sent, .int .i64 D.fin, .bool D.pf, .string D.inn, .slice va D.late.length vc, .bool D.owe, .int .i64 D.due, .int .i64 D.times]) (w' := W) (by simp only [execOp, h24, load_str (cs := [.int .i64 D.st, .int .i64 D.iss, .int .i64 D.una, .int .i64 D.rcv, .string D.wait, .int .i64 D.sent, .int .i64 D.fin, .bool D.pf, .string D.inn, .slice va D.late.length vc, .bool D.owe, .int .i64 D.due, .int .i64 D.times]) (r := [.int .i64 now, .slice sa L.length sq]) hC.2.1 rfl, Sem.run_bind, Sem.run_pure, Result.andThen_ok]) ⟨rfl, hC, Nat.le_refl _, fun _ _ _ h _ => h⟩
      · intro A W hC hI hg hb
        have h6 : A.eval (.tmp 6) = .pointer (some ⟨g, 0, none⟩) := hb 6 (base_of (by kernel_rfl))
        exact does_value (v := .pointer (some ⟨g, 0, none⟩)) (w' := W) (by simp only [execOp, h6]; simp [go_sem]) ⟨rfl, hC, Nat.le_refl _, fun _ _ _ h _ => h⟩
      · intro A W hC hI hg hb
        have h26 : A.eval (.tmp 26) = .pointer (some ⟨g, 0, none⟩) := hg 4 26 (by decide) rfl (by simp [Op.operands]) (by kernel_rfl) rfl
        exact does_value (v := .pointer (some ⟨g, 0, none⟩)) (w' := W) (by simp only [execOp, h26]; simp [go_sem]) ⟨rfl, hC, Nat.le_refl _, fun _ _ _ h _ => h⟩
      · intro A W hC hI hg hb
        have h27 : A.eval (.tmp 27) = .pointer (some ⟨g, 0, none⟩) := hg 5 27 (by decide) rfl (by simp [Op.operands]) (by kernel_rfl) rfl
        exact does_value (v := .pointer (some ⟨g, 14, none⟩)) (w' := W) (by simp only [execOp, h27]; simp [go_sem]) ⟨rfl, hC, Nat.le_refl _, fun _ _ _ h _ => h⟩
      · intro A W hC hI hg hb
        have h28 : A.eval (.tmp 28) = .pointer (some ⟨g, 14, none⟩) := hg 6 28 (by decide) rfl (by simp [Op.operands]) (by kernel_rfl) rfl
        have hc := hC.2.1.cell (j := 14) rfl
        exact does_value (v := .slice sa L.length sq) (w' := W) (by simp only [execOp, h28]; simp [go_sem, hc]) ⟨rfl, hC, Nat.le_refl _, fun _ _ _ h _ => h⟩
      · intro A W hC hI hg hb
        have h4 : A.eval (.tmp 4) = .pointer (some ⟨w.heap.size + 1, 0, none⟩) := hb 4 (base_of (by kernel_rfl))
        have h25 : A.eval (.tmp 25) = .agg #[.int .i64 D.st, .int .i64 D.iss, .int .i64 D.una, .int .i64 D.rcv, .string D.wait, .int .i64 D.sent, .int .i64 D.fin, .bool D.pf, .string D.inn, .slice va D.late.length vc, .bool D.owe, .int .i64 D.due, .int .i64 D.times] := hg 3 25 (by decide) rfl (by simp [Op.operands]) (by kernel_rfl) rfl
        have hb1 : BlockIs W (w.heap.size + 1) 28 [.int .i64 0, .int .i64 0, .int .i64 0, .int .i64 0, .string ⟨#[]⟩, .int .i64 0, .int .i64 0, .bool false, .string ⟨#[]⟩, .slice none 0 0, .bool false, .int .i64 0, .int .i64 0] := hI 0 (by kernel_rfl)
        have hst := store_str hb1 rfl (A := #[.int .i64 D.st, .int .i64 D.iss, .int .i64 D.una, .int .i64 D.rcv, .string D.wait, .int .i64 D.sent, .int .i64 D.fin, .bool D.pf, .string D.inn, .slice va D.late.length vc, .bool D.owe, .int .i64 D.due, .int .i64 D.times]) rfl (strCells_all D _ _)
        exact does_skip (w' := W.setRow (w.heap.size + 1) #[.int .i64 D.st, .int .i64 D.iss, .int .i64 D.una, .int .i64 D.rcv, .string D.wait, .int .i64 D.sent, .int .i64 D.fin, .bool D.pf, .string D.inn, .slice va D.late.length vc, .bool D.owe, .int .i64 D.due, .int .i64 D.times]) (by simp only [execOp, h4, h25, hst, Sem.run_bind, Sem.run_pure, Result.andThen_ok]) ⟨store_block hb1 _, ⟨below_setRow hC.1 (by omega) _, block_setRow hC.2.1 (fun e => by subst e; exact absurd (block_one hb1 hC.2.1).1 (by decide)) _, row_setRow hb1 hC.2.2.1 (by decide) _, row_setRow hb1 hC.2.2.2 (by decide) _⟩, by simp [World.setRow], fun p ty cs hp hne => block_setRow hp (fun e => hne rfl e.symm) _⟩
      · intro A W hC hI hg hb
        have h29 : A.eval (.tmp 29) = .slice sa L.length sq := hg 7 29 (by decide) rfl (by simp [Op.operands]) (by kernel_rfl) rfl
        exact does_value (v := .slice sa L.length sq) (w' := W) (by simp only [execOp, h29]; simp [go_sem]) ⟨rfl, hC, Nat.le_refl _, fun _ _ _ h _ => h⟩
    · intro vs wE hC hI hg
      have h8 := hg 8 (by decide) (fun k => rfl)
      have h9 := hg 9 (by decide) (fun k => rfl)
      change BlockIs wE (w.heap.size + 1) 28 [.int .i64 D.st, .int .i64 D.iss, .int .i64 D.una, .int .i64 D.rcv, .string D.wait, .int .i64 D.sent, .int .i64 D.fin, .bool D.pf, .string D.inn, .slice va D.late.length vc, .bool D.owe, .int .i64 D.due, .int .i64 D.times] at h8
      change vs 9 = _ at h9
      clear hg hI
      change Exit.then _ _ _ (laidBy _ vs _ 10 _) wE
      simp only [laidBy, if_true, dstAt, List.getElem?_toArray, List.getElem?_cons_succ, List.getElem?_cons_zero, Option.bind_some]
      simp only [Act.put, List.setIfInBounds_toArray, List.set_cons_succ, List.set_cons_zero]
      rw [h9]
      have r0 := h8.cell (j := 0) rfl
      have r1 := h8.cell (j := 1) rfl
      have r2 := h8.cell (j := 2) rfl
      have r3 := h8.cell (j := 3) rfl
      have r4 := h8.cell (j := 4) rfl
      have r5 := h8.cell (j := 5) rfl
      have r6 := h8.cell (j := 6) rfl
      have r7 := h8.cell (j := 7) rfl
      have r8 := h8.cell (j := 8) rfl
      have r9 := h8.cell (j := 9) rfl
      have r10 := h8.cell (j := 10) rfl
      have r11 := h8.cell (j := 11) rfl
      have r12 := h8.cell (j := 12) rfl
      have HF := hid (show PushDid w D L (.returned (.tuple #[.agg #[.int .i64 D.st, .int .i64 D.iss, .int .i64 D.una, .int .i64 D.rcv, .string D.wait, .int .i64 D.sent, .int .i64 D.fin, .bool D.pf, .string D.inn, .slice va D.late.length vc, .bool D.owe, .int .i64 D.due, .int .i64 D.times], .slice sa L.length sq])) wE from ⟨va, vc, sa, sq, rfl, (OwnsL.own hC.2.2.1).1, segs_own hC.2.2.2, hC.1⟩)
      clear hC h8 h9 K4 L4 G4 Y4 B4
      go_wp2
      refine bodyPost_ret (v := .tuple #[.agg #[.int .i64 D.st, .int .i64 D.iss, .int .i64 D.una, .int .i64 D.rcv, .string D.wait, .int .i64 D.sent, .int .i64 D.fin, .bool D.pf, .string D.inn, .slice va D.late.length vc, .bool D.owe, .int .i64 D.due, .int .i64 D.times], .slice sa L.length sq]) (by simp [results, Try.results8, go_sem, r0, r1, r2, r3, r4, r5, r6, r7, r8, r9, r10, r11, r12]) rfl (by rw [HD.out.1, HD.out.2]; exact HF.out)
end Go.Proofs.Ytcmcmhiodkjflaa
