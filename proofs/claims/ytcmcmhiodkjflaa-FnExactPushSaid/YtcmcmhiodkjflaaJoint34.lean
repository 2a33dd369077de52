/-
  The walk of impl.(*endpoint).send: a segment goes out.
-/
import Derived.Test.YtcmcmhiodkjflaaJoint1
import Derived.Test.YtcmcmhiodkjflaaJoint33
import Derived.Test.YtcmcmhiodkjflaaJoint27
import Derived.Test.YtcmcmhiodkjflaaJoint20
namespace Go.Proofs.Ytcmcmhiodkjflaa
open Go.RowKit

set_option maxRecDepth 1000000 in
set_option maxHeartbeats 4000000 in
theorem send_any (lo g : Nat) (d : StrD) (now : Int) (out : List SegD) (fl behind : Int) (body : ByteArray) (hn : out.length ≤ 100) (hbs : body.size ≤ 1048576) (w : World) (h : EpIs w lo g d now out) :
    Calls Try.prog 70 #[.pointer (some ⟨g, 0, none⟩), .int .i64 fl, .int .i64 behind, .string body] w fun e w' => e = .returned (.tuple #[]) ∧ EpTo lo g w w' d now (out ++ [⟨addNum d.una behind, d.rcv, fl, body⟩]) := by
  obtain ⟨hlo, ao, cap, ov, oc, hb, hl, ho⟩ := h
  have LG := hid hlo
  have LO := hid (Nat.le_trans hlo (Nat.le_of_lt hb.lt))
  have XB := hid hb
  have HLT := hid hl
  have HO := hid ho
  have HL := hid hn
  have HBS := hid hbs
  clear hlo hb hl ho hn hbs
  go_enter Try.func70, Try.ntmps70
  go_wp2
  refine wp_region_from (N := 33) (by kernel_rfl) (by kernel_rfl) rfl (by kernel_rfl) (fun W => Below lo w W ∧ OwnsL W lo d.late ao cap) (fun j v u W => match j with | 0 => v = .pointer (some ⟨g, 0, none⟩) | 1 => v = .pointer (some ⟨g, 0, none⟩) | 2 => v = .pointer (some ⟨g, 0, none⟩) | 3 => v = .pointer (some ⟨g, 14, none⟩) | 4 => v = .slice ov out.length oc | 5 => v = .pointer (some ⟨g, 0, none⟩) | 6 => v = .pointer (some ⟨g, 0, none⟩) | 7 => v = .pointer (some ⟨g, 0, none⟩) | 8 => v = .pointer (some ⟨g, 2, none⟩) | 9 => v = .int .i64 d.una | 10 => v = .int .i64 behind | 11 => v = .int .i64 (addNum d.una behind) | 12 => v = .pointer (some ⟨g, 0, none⟩) | 13 => v = .pointer (some ⟨g, 0, none⟩) | 14 => v = .pointer (some ⟨g, 0, none⟩) | 15 => v = .pointer (some ⟨g, 3, none⟩) | 16 => v = .int .i64 d.rcv | 17 => v = .int .i64 fl | 18 => v = .string body | 19 => v = .string body | 20 => v = .agg #[.int .i64 (addNum d.una behind), .int .i64 d.rcv, .int .i64 fl, .string body] | 21 => ∃ g : Nat, v = .slice (some ⟨g, 0, none⟩) 1 1 ∧ BlockIs W g 42 (segEnc ⟨addNum d.una behind, d.rcv, fl, body⟩) | 22 => ∃ (va' : Option Addr) (vc' : Nat), v = .slice va' (out.length + 1) vc' ∧ W.ownsRow lo 42 4 (.slice va' (out.length + 1) vc') (out.length + 1) (segCells (out ++ [⟨addNum d.una behind, d.rcv, fl, body⟩])) | 23 => v = .pointer (some ⟨g, 0, none⟩) | 24 => v = .pointer (some ⟨g, 14, none⟩) | 25 => ∃ (va' : Option Addr) (vc' : Nat), u = .slice va' (out.length + 1) vc' ∧ W.ownsRow lo 42 4 (.slice va' (out.length + 1) vc') (out.length + 1) (segCells (out ++ [⟨addNum d.una behind, d.rcv, fl, body⟩])) ∧ BlockIs W g 56 [.int .i64 d.st, .int .i64 d.iss, .int .i64 d.una, .int .i64 d.rcv, .string d.wait, .int .i64 d.sent, .int .i64 d.fin, .bool d.pf, .string d.inn, .slice ao d.late.length cap, .bool d.owe, .int .i64 d.due, .int .i64 d.times, .int .i64 now, .slice va' (out.length + 1) vc'] | _ => True) (fun i => if i = 25 then 22 else i) (fun j i => decide ((j, i) ∈ ([(21, 22)] : List (Nat × Nat)))) (fun i x y => x.heap.size ≤ y.heap.size ∧ ∀ g ty cs, BlockIs x g ty cs → (i = 22 → ty ≠ 42) → (i = 25 → ty ≠ 56) → BlockIs y g ty cs) (fun q9 W => match q9 with | 0 => W.ownsRow lo 42 4 (.slice ov out.length oc) out.length (segCells out) | 1 => BlockIs W g 56 [.int .i64 d.st, .int .i64 d.iss, .int .i64 d.una, .int .i64 d.rcv, .string d.wait, .int .i64 d.sent, .int .i64 d.fin, .bool d.pf, .string d.inn, .slice ao d.late.length cap, .bool d.owe, .int .i64 d.due, .int .i64 d.times, .int .i64 now, .slice ov out.length oc] | _ => True) (fun m k => decide ((m, k) ∈ ([(0, 22), (1, 25)] : List (Nat × Nat)))) ?_ (fun i => if i = 25 then 30 else 0) (by kernel_rfl) (fun i hi => by have : 26 ≤ i := hi; simp; omega) ?_ ⟨(below_drewN (Below.refl w.heap.size w) 1).mono LO.out, HLT.out.on (below_drewN (Below.refl w.heap.size w) 1)⟩ (fun q9 => match q9 with | 0 => segR_below HO.out (below_drewN (Below.refl w.heap.size w) 1) | 1 => XB.out.on (below_drewN (Below.refl w.heap.size w) 1) XB.out.lt | _ + 2 => trivial) ?_ ?_
  · intro i m x y hen hxy hm
    match m, hen, hm with
    | 0, hen, hm =>
      simp at hen
      exact row_ext hm (fun g cs h => hxy.2 _ _ _ h (fun e => absurd e hen) (fun _ => by decide))
    | 1, hen, hm =>
      simp at hen
      exact hxy.2 _ _ _ hm (fun _ => by decide) (fun e => absurd e hen)
    | n + 2, _, _ => exact trivial
  · intro i j v u x y hij hdd hwt hxy hg
    match j, hg with
    | 0, hg => exact hg
    | 1, hg => exact hg
    | 2, hg => exact hg
    | 3, hg => exact hg
    | 4, hg => exact hg
    | 5, hg => exact hg
    | 6, hg => exact hg
    | 7, hg => exact hg
    | 8, hg => exact hg
    | 9, hg => exact hg
    | 10, hg => exact hg
    | 11, hg => exact hg
    | 12, hg => exact hg
    | 13, hg => exact hg
    | 14, hg => exact hg
    | 15, hg => exact hg
    | 16, hg => exact hg
    | 17, hg => exact hg
    | 18, hg => exact hg
    | 19, hg => exact hg
    | 20, hg => exact hg
    | 21, hg =>
      obtain ⟨g, e1, e2⟩ := hg
      simp at hdd
      exact ⟨g, e1, hxy.2 _ _ _ e2 (fun e => absurd e hdd) (fun _ => by decide)⟩
    | 22, hg =>
      obtain ⟨va', vc', e1, e2⟩ := hg
      exact ⟨va', vc', e1, row_ext e2 (fun g cs h => hxy.2 _ _ _ h (fun e => absurd e hij) (fun _ => by decide))⟩
    | 23, hg => exact hg
    | 24, hg => exact hg
    | 25, hg =>
      obtain ⟨va', vc', e1, e2, e3⟩ := hg
      have h6 : i ≠ 22 := by rintro rfl; exact Bool.noConfusion (hwt.symm.trans (by kernel_rfl : waitsB _ 25 22 = true))
      exact ⟨va', vc', e1, row_ext e2 (fun g cs h => hxy.2 _ _ _ h (fun e => absurd e h6) (fun _ => by decide)), hxy.2 _ _ _ e3 (fun _ => by decide) (fun e => absurd e hij)⟩
    | n + 26, _ => exact trivial
  · refine ⟨?_, ?_, ?_, ?_, ?_, ?_, ?_, ?_, ?_, ?_, ?_, ?_, ?_, ?_, ?_, ?_, ?_, ?_, ?_, ?_, ?_, ?_, ?_, ?_, ?_, ?_, trivial⟩
    · intro A W hC hI hg hb
      have h0 : A.eval (.tmp 0) = .pointer (some ⟨g, 0, none⟩) := hb 0 (base_of (by kernel_rfl))
      exact does_value (v := .pointer (some ⟨g, 0, none⟩)) (w' := W) (by simp only [execOp, h0]; simp [go_sem]) ⟨rfl, hC, Nat.le_refl _, fun _ _ _ h _ _ => h⟩
    · intro A W hC hI hg hb
      have h0 : A.eval (.tmp 0) = .pointer (some ⟨g, 0, none⟩) := hb 0 (base_of (by kernel_rfl))
      exact does_value (v := .pointer (some ⟨g, 0, none⟩)) (w' := W) (by simp only [execOp, h0]; simp [go_sem]) ⟨rfl, hC, Nat.le_refl _, fun _ _ _ h _ _ => h⟩
    · intro A W hC hI hg hb
      have h9 : A.eval (.tmp 9) = .pointer (some ⟨g, 0, none⟩) := hg 1 9 (by decide) rfl (by simp [Op.operands]) (by kernel_rfl) rfl
      exact does_value (v := .pointer (some ⟨g, 0, none⟩)) (w' := W) (by simp only [execOp, h9]; simp [go_sem]) ⟨rfl, hC, Nat.le_refl _, fun _ _ _ h _ _ => h⟩
    · intro A W hC hI hg hb
      have h10 : A.eval (.tmp 10) = .pointer (some ⟨g, 0, none⟩) := hg 2 10 (by decide) rfl (by simp [Op.operands]) (by kernel_rfl) rfl
      exact does_value (v := .pointer (some ⟨g, 14, none⟩)) (w' := W) (by simp only [execOp, h10]; simp [go_sem]) ⟨rfl, hC, Nat.le_refl _, fun _ _ _ h _ _ => h⟩
    · intro A W hC hI hg hb
      have h11 : A.eval (.tmp 11) = .pointer (some ⟨g, 14, none⟩) := hg 3 11 (by decide) rfl (by simp [Op.operands]) (by kernel_rfl) rfl
      have hb1 : BlockIs W g 56 [.int .i64 d.st, .int .i64 d.iss, .int .i64 d.una, .int .i64 d.rcv, .string d.wait, .int .i64 d.sent, .int .i64 d.fin, .bool d.pf, .string d.inn, .slice ao d.late.length cap, .bool d.owe, .int .i64 d.due, .int .i64 d.times, .int .i64 now, .slice ov out.length oc] := hI 1 (by kernel_rfl)
      have hc0 := hb1.cell (j := 14) rfl
      exact does_value (v := .slice ov out.length oc) (w' := W) (by simp only [execOp, h11]; simp [go_sem, hc0]) ⟨rfl, hC, Nat.le_refl _, fun _ _ _ h _ _ => h⟩
    · intro A W hC hI hg hb
      have h0 : A.eval (.tmp 0) = .pointer (some ⟨g, 0, none⟩) := hb 0 (base_of (by kernel_rfl))
      exact does_value (v := .pointer (some ⟨g, 0, none⟩)) (w' := W) (by simp only [execOp, h0]; simp [go_sem]) ⟨rfl, hC, Nat.le_refl _, fun _ _ _ h _ _ => h⟩
    · intro A W hC hI hg hb
      have h13 : A.eval (.tmp 13) = .pointer (some ⟨g, 0, none⟩) := hg 5 13 (by decide) rfl (by simp [Op.operands]) (by kernel_rfl) rfl
      exact does_value (v := .pointer (some ⟨g, 0, none⟩)) (w' := W) (by simp only [execOp, h13]; simp [go_sem]) ⟨rfl, hC, Nat.le_refl _, fun _ _ _ h _ _ => h⟩
    · intro A W hC hI hg hb
      have h14 : A.eval (.tmp 14) = .pointer (some ⟨g, 0, none⟩) := hg 6 14 (by decide) rfl (by simp [Op.operands]) (by kernel_rfl) rfl
      exact does_value (v := .pointer (some ⟨g, 0, none⟩)) (w' := W) (by simp only [execOp, h14]; simp [go_sem]) ⟨rfl, hC, Nat.le_refl _, fun _ _ _ h _ _ => h⟩
    · intro A W hC hI hg hb
      have h15 : A.eval (.tmp 15) = .pointer (some ⟨g, 0, none⟩) := hg 7 15 (by decide) rfl (by simp [Op.operands]) (by kernel_rfl) rfl
      exact does_value (v := .pointer (some ⟨g, 2, none⟩)) (w' := W) (by simp only [execOp, h15]; simp [go_sem]) ⟨rfl, hC, Nat.le_refl _, fun _ _ _ h _ _ => h⟩
    · intro A W hC hI hg hb
      have h16 : A.eval (.tmp 16) = .pointer (some ⟨g, 2, none⟩) := hg 8 16 (by decide) rfl (by simp [Op.operands]) (by kernel_rfl) rfl
      have hb1 : BlockIs W g 56 [.int .i64 d.st, .int .i64 d.iss, .int .i64 d.una, .int .i64 d.rcv, .string d.wait, .int .i64 d.sent, .int .i64 d.fin, .bool d.pf, .string d.inn, .slice ao d.late.length cap, .bool d.owe, .int .i64 d.due, .int .i64 d.times, .int .i64 now, .slice ov out.length oc] := hI 1 (by kernel_rfl)
      have hc0 := hb1.cell (j := 2) rfl
      exact does_value (v := .int .i64 d.una) (w' := W) (by simp only [execOp, h16]; simp [go_sem, hc0]) ⟨rfl, hC, Nat.le_refl _, fun _ _ _ h _ _ => h⟩
    · intro A W hC hI hg hb
      have h2 : A.eval (.tmp 2) = .int .i64 behind := hb 2 (base_of (by kernel_rfl))
      exact does_value (v := .int .i64 behind) (w' := W) (by simp only [execOp, h2]; simp [go_sem]) ⟨rfl, hC, Nat.le_refl _, fun _ _ _ h _ _ => h⟩
    · intro A W hC hI hg hb
      have h17 : A.eval (.tmp 17) = .int .i64 d.una := hg 9 17 (by decide) rfl (by simp [Op.operands, Call.operands]) (by kernel_rfl) rfl
      have h18 : A.eval (.tmp 18) = .int .i64 behind := hg 10 18 (by decide) rfl (by simp [Op.operands, Call.operands]) (by kernel_rfl) rfl
      simp [go_sem] at h17 h18
      refine does_enter (f := 75) (args := #[.int .i64 d.una, .int .i64 behind]) (w' := W) (by simp [go_sem, h17, h18]) ?_
      refine (implAddNum_any d.una behind W).mono ?_
      rintro e W' ⟨rfl, hw⟩
      rw [hw]
      exact ⟨_, rfl, rfl, hC, Nat.le_refl _, fun _ _ _ h _ _ => h⟩
    · intro A W hC hI hg hb
      have h0 : A.eval (.tmp 0) = .pointer (some ⟨g, 0, none⟩) := hb 0 (base_of (by kernel_rfl))
      exact does_value (v := .pointer (some ⟨g, 0, none⟩)) (w' := W) (by simp only [execOp, h0]; simp [go_sem]) ⟨rfl, hC, Nat.le_refl _, fun _ _ _ h _ _ => h⟩
    · intro A W hC hI hg hb
      have h20 : A.eval (.tmp 20) = .pointer (some ⟨g, 0, none⟩) := hg 12 20 (by decide) rfl (by simp [Op.operands]) (by kernel_rfl) rfl
      exact does_value (v := .pointer (some ⟨g, 0, none⟩)) (w' := W) (by simp only [execOp, h20]; simp [go_sem]) ⟨rfl, hC, Nat.le_refl _, fun _ _ _ h _ _ => h⟩
    · intro A W hC hI hg hb
      have h21 : A.eval (.tmp 21) = .pointer (some ⟨g, 0, none⟩) := hg 13 21 (by decide) rfl (by simp [Op.operands]) (by kernel_rfl) rfl
      exact does_value (v := .pointer (some ⟨g, 0, none⟩)) (w' := W) (by simp only [execOp, h21]; simp [go_sem]) ⟨rfl, hC, Nat.le_refl _, fun _ _ _ h _ _ => h⟩
    · intro A W hC hI hg hb
      have h22 : A.eval (.tmp 22) = .pointer (some ⟨g, 0, none⟩) := hg 14 22 (by decide) rfl (by simp [Op.operands]) (by kernel_rfl) rfl
      exact does_value (v := .pointer (some ⟨g, 3, none⟩)) (w' := W) (by simp only [execOp, h22]; simp [go_sem]) ⟨rfl, hC, Nat.le_refl _, fun _ _ _ h _ _ => h⟩
    · intro A W hC hI hg hb
      have h23 : A.eval (.tmp 23) = .pointer (some ⟨g, 3, none⟩) := hg 15 23 (by decide) rfl (by simp [Op.operands]) (by kernel_rfl) rfl
      have hb1 : BlockIs W g 56 [.int .i64 d.st, .int .i64 d.iss, .int .i64 d.una, .int .i64 d.rcv, .string d.wait, .int .i64 d.sent, .int .i64 d.fin, .bool d.pf, .string d.inn, .slice ao d.late.length cap, .bool d.owe, .int .i64 d.due, .int .i64 d.times, .int .i64 now, .slice ov out.length oc] := hI 1 (by kernel_rfl)
      have hc0 := hb1.cell (j := 3) rfl
      exact does_value (v := .int .i64 d.rcv) (w' := W) (by simp only [execOp, h23]; simp [go_sem, hc0]) ⟨rfl, hC, Nat.le_refl _, fun _ _ _ h _ _ => h⟩
    · intro A W hC hI hg hb
      have h1 : A.eval (.tmp 1) = .int .i64 fl := hb 1 (base_of (by kernel_rfl))
      exact does_value (v := .int .i64 fl) (w' := W) (by simp only [execOp, h1]; simp [go_sem]) ⟨rfl, hC, Nat.le_refl _, fun _ _ _ h _ _ => h⟩
    · intro A W hC hI hg hb
      have h3 : A.eval (.tmp 3) = .string body := hb 3 (base_of (by kernel_rfl))
      exact does_value (v := .string body) (w' := W) (by simp only [execOp, h3]; simp [go_sem]) ⟨rfl, hC, Nat.le_refl _, fun _ _ _ h _ _ => h⟩
    · intro A W hC hI hg hb
      have h26 : A.eval (.tmp 26) = .string body := hg 18 26 (by decide) rfl (by simp [Op.operands, Call.operands]) (by kernel_rfl) rfl
      simp [go_sem] at h26
      refine does_enter (f := 55) (args := #[.string body]) (w' := W) (by simp [go_sem, h26]) ?_
      refine (clone_any body (by have := HBS.out; omega) W).mono ?_
      rintro e W' ⟨rfl, hb⟩
      exact ⟨_, rfl, rfl, ⟨hC.1.trans (hb.mono (by have := hC.1.size; have := LO.out; omega)), hC.2.on hb⟩, hb.size, fun g ty cs h _ _ => h.on hb h.lt⟩
    · intro A W hC hI hg hb
      have h19 : A.eval (.tmp 19) = .int .i64 (addNum d.una behind) := hg 11 19 (by decide) rfl (by simp [Op.operands]) (by kernel_rfl) rfl
      have h24 : A.eval (.tmp 24) = .int .i64 d.rcv := hg 16 24 (by decide) rfl (by simp [Op.operands]) (by kernel_rfl) rfl
      have h25 : A.eval (.tmp 25) = .int .i64 fl := hg 17 25 (by decide) rfl (by simp [Op.operands]) (by kernel_rfl) rfl
      have h27 : A.eval (.tmp 27) = .string body := hg 19 27 (by decide) rfl (by simp [Op.operands]) (by kernel_rfl) rfl
      simp [go_sem] at h19 h24 h25 h27
      exact does_value (v := .agg #[.int .i64 (addNum d.una behind), .int .i64 d.rcv, .int .i64 fl, .string body]) (w' := W) (by simp [execOp, go_sem, h19, h24, h25, h27]) ⟨rfl, hC, Nat.le_refl _, fun _ _ _ h _ _ => h⟩
    · intro A W hC hI hg hb
      have h28 : A.eval (.tmp 28) = .agg #[.int .i64 (addNum d.una behind), .int .i64 d.rcv, .int .i64 fl, .string body] := hg 20 28 (by decide) rfl (by simp [Op.operands]) (by kernel_rfl) rfl
      simp [go_sem] at h28
      have ba := below_more (Below.refl W.heap.size W) (.cells #[.int .i64 (addNum d.una behind), .int .i64 d.rcv, .int .i64 fl, .string body] 42)
      exact does_value (v := .slice (some ⟨W.heap.size, 0, none⟩) 1 1) (w' := W.alloc (.cells #[.int .i64 (addNum d.una behind), .int .i64 d.rcv, .int .i64 fl, .string body] 42)) (by simp [execOp, go_sem, h28]) ⟨⟨_, rfl, heap_alloc_new W _⟩, ⟨hC.1.trans (ba.mono (by have := hC.1.size; have := LO.out; omega)), hC.2.on ba⟩, ba.size, fun g ty cs h _ _ => h.on ba h.lt⟩
    · intro A W hC hI hg hb
      have h12 : A.eval (.tmp 12) = .slice ov out.length oc := hg 4 12 (by decide) rfl (by simp [Op.operands, Call.operands]) (by kernel_rfl) rfl
      have g21 := hg 21 29 (by decide) rfl (by simp [Op.operands, Call.operands]) (by kernel_rfl) rfl
      obtain ⟨g, h29, hbl⟩ := g21
      have hrow : W.ownsRow lo 42 4 (.slice ov out.length oc) out.length (segCells out) := hI 0 (by kernel_rfl)
      have hM : SegsAt W (some ⟨g, 0, none⟩) [⟨addNum d.una behind, d.rcv, fl, body⟩] := segsAt_of (r := []) (by rw [List.append_nil]; simpa [segCells] using hbl)
      obtain ⟨v', W', hr, h2, h3⟩ := append_segs (c := 1) (by rw [List.length_singleton]; have := HL.out; omega) (by have := hC.1.size; have := LO.out; omega) hrow hM
      obtain ⟨va', vc', rfl⟩ := row_shape h2
      rw [List.length_append, List.length_singleton] at h2 hr
      have hr1 : (Builtin.append_ #[29, 29] 29 #[.slice ov out.length oc, .slice (some ⟨g, 0, none⟩) 1 1]).run Try.prog W = .ok (.slice va' (out.length + 1) vc') W' := hr
      have hK : ∀ p ty cs, BlockIs W p ty cs → ty ≠ 42 → BlockIs W' p ty cs := fun p ty cs hp hne => segR_other hp hrow h3 hne
      refine does_value (v := .slice va' (out.length + 1) vc') (w' := W') (by simp only [execOp, resolve, invoke, builtin, Sem.run_bind, Sem.run_pure, Result.andThen_ok, List.map_toArray, List.map_cons, List.map_nil, h12, h29, hr1]) ⟨⟨va', vc', rfl, h2⟩, ⟨segR_down hC.1 hrow h3 (Nat.le_refl _) (by have := hC.1.size; have := LO.out; omega), row_ext hC.2 (fun g cs h => hK g _ cs h (by decide))⟩, h3.size, fun p ty cs hp hne _ => hK p ty cs hp (hne rfl)⟩
    · intro A W hC hI hg hb
      have h8 : A.eval (.tmp 8) = .pointer (some ⟨g, 0, none⟩) := hg 0 8 (by decide) rfl (by simp [Op.operands]) (by kernel_rfl) rfl
      exact does_value (v := .pointer (some ⟨g, 0, none⟩)) (w' := W) (by simp only [execOp, h8]; simp [go_sem]) ⟨rfl, hC, Nat.le_refl _, fun _ _ _ h _ _ => h⟩
    · intro A W hC hI hg hb
      have h31 : A.eval (.tmp 31) = .pointer (some ⟨g, 0, none⟩) := hg 23 31 (by decide) rfl (by simp [Op.operands]) (by kernel_rfl) rfl
      exact does_value (v := .pointer (some ⟨g, 14, none⟩)) (w' := W) (by simp only [execOp, h31]; simp [go_sem]) ⟨rfl, hC, Nat.le_refl _, fun _ _ _ h _ _ => h⟩
    · intro A W hC hI hg hb
      have h32 : A.eval (.tmp 32) = .pointer (some ⟨g, 14, none⟩) := hg 24 32 (by decide) rfl (by simp [Op.operands]) (by kernel_rfl) rfl
      have g22 := hg 22 30 (by decide) rfl (by simp [Op.operands]) (by kernel_rfl) rfl
      obtain ⟨va', vc', h30, hrow⟩ := g22
      have hb1 : BlockIs W g 56 [.int .i64 d.st, .int .i64 d.iss, .int .i64 d.una, .int .i64 d.rcv, .string d.wait, .int .i64 d.sent, .int .i64 d.fin, .bool d.pf, .string d.inn, .slice ao d.late.length cap, .bool d.owe, .int .i64 d.due, .int .i64 d.times, .int .i64 now, .slice ov out.length oc] := hI 1 (by kernel_rfl)
      have c2 := hb1.cell (j := 14) rfl
      have f2 := hb1.thaw 14
      have hK : ∀ p ty cs, BlockIs W p ty cs → ty ≠ 56 → BlockIs (W.setCell ⟨g, 14, none⟩ (.slice va' (out.length + 1) vc')) p ty cs := fun p ty cs hp hne => hp.far (by intro e; subst e; exact hne (block_one hp hb1).1) _
      exact does_skip (w' := W.setCell ⟨g, 14, none⟩ (.slice va' (out.length + 1) vc')) (by simp only [execOp, h32, h30]; simp [go_sem, c2, f2]) ⟨⟨va', vc', h30, row_ext hrow (fun g cs h => hK g _ cs h (by decide)), hb1.set 14 _⟩, ⟨hC.1.setCell LG.out _, row_ext hC.2 (fun g cs h => hK g _ cs h (by decide))⟩, by simp [World.size_setCell], fun p ty cs hp _ hne => hK p ty cs hp (hne rfl)⟩
  · intro vs wE hC hI hg
    obtain ⟨va', vc', hu, ho, hb⟩ := hg 25 (by decide) (fun k => by simp)
    change vs 22 = _ at hu
    clear hg hI
    simp only [List.size_toArray, List.length_cons, List.length_nil, Nat.zero_add, Nat.reduceAdd]
    simp only [laidBy, if_true, dstAt, List.getElem?_toArray, List.getElem?_cons_succ, List.getElem?_cons_zero, Option.bind_some]
    simp only [Act.put, List.setIfInBounds_toArray, List.set_cons_succ, List.set_cons_zero]
    have HE := hid (show EpTo lo g w wE d now (out ++ [⟨addNum d.una behind, d.rcv, fl, body⟩]) from ⟨⟨LG.out, ao, cap, va', vc', by rw [List.length_append]; exact hb, hC.2, by rw [List.length_append]; exact ho⟩, hC.1⟩)
    clear hu hb ho hC XB HO HLT
    go_wp2
    go_end0
    exact ⟨rfl, HE.out⟩
end Go.Proofs.Ytcmcmhiodkjflaa
