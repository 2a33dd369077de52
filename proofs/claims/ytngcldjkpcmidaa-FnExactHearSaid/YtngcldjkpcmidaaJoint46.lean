/-
  The walk of impl.(*endpoint).keepLate: a text that came early is kept.
-/
import Derived.Test.YtngcldjkpcmidaaJoint1
import Derived.Test.YtngcldjkpcmidaaJoint38
import Derived.Test.YtngcldjkpcmidaaJoint13
import Derived.Deep.LoopGhost
namespace Go.Proofs.Ytngcldjkpcmidaa
open Go.RowKit

theorem hasNum_takeI {num : Int} {l : List LateD} {k : Nat} (h : k < l.length) : hasNum num (l.take (k + 1)) = (hasNum num (l.take k) || decide (l[k].num = num)) := by
  rw [List.take_succ_eq_append_getElem h, hasNum, hasNum, List.any_append]
  simp
theorem hasNum_yes {num : Int} {l : List LateD} {k : Nat} (h : k < l.length) (hk : l[k].num = num) : hasNum num l = true := by
  rw [hasNum, List.any_eq_true]
  exact ⟨l[k], List.getElem_mem h, decide_eq_true hk⟩
set_option maxRecDepth 1000000 in
set_option maxHeartbeats 4000000 in
theorem keepLate_any (lo g : Nat) (d : StrD) (now : Int) (out : List SegD) (num : Int) (text : ByteArray) (ht : text.size ≤ 1048576) (hl : d.late.length ≤ 100) (w : World) (h : EpIs w lo g d now out) :
    Calls Try.prog 65 #[.pointer (some ⟨g, 0, none⟩), .int .i64 num, .string text] w fun e w' => e = .returned (.tuple #[]) ∧ HrTo lo g w w' (keepD num text d) now out := by
  have H := hid h.hr
  have LO := hid h.lo
  have HBS := hid ht
  have HL := hid hl
  obtain ⟨hlo, ao, cap, ov, oc, hb, hlr, hor⟩ := h
  have LG := hid hlo
  have X0 := hid hb
  have L0 := hid hlr
  have G0 := hid hor
  have HA := hid (OwnsL.at hlr)
  have c9 := hb.cell (j := 9) rfl
  clear hlo hb hlr hor
  go_enter Try.func65, Try.ntmps65
  go_wp2
  go_loopg [14] d.late.length (fun q i wr => ∃ (k : Nat), k + q = d.late.length ∧ i = .int .i64 k ∧ Hid (Below w.heap.size w wr) ∧ Hid (hasNum num (d.late.take k) = false))
  case atStart => exact ⟨0, by omega, rfl, (show Below _ _ _ from Below.refl _ _), rfl⟩
  case round =>
    obtain ⟨k, hkg, rfl, BR, RT⟩ := hrel
    clear c9
    cases gk with
    | zero =>
      have hlt : ¬ (k : Int) < (d.late.length : Int) := by omega
      have HN : Hid (hasNum num d.late = false) := by show _ = _; rw [← RT.out, List.take_of_length_le (by omega)]
      have c9 := (X0.out.on BR.out X0.out.lt).cell (j := 9) rfl
      by_cases q8 : (d.late.length : Int) < 8
      rotate_left
      · have HR : Hid (keepD num text d = d) := by show _ = _; rw [keepD, if_pos (Or.inr (by omega))]
        have HE := hid (H.out.on BR.out)
        go_wp2
        go_end0
        exact ⟨rfl, by rw [HR.out]; exact HE.out⟩
      · have HR : Hid (keepD num text d = { d with late := d.late ++ [⟨num, text⟩] }) := by show _ = _; rw [keepD, if_neg]; rintro (h9 | h9); rw [HN.out] at h9; cases h9; omega
        have XB := hid (X0.out.on BR.out X0.out.lt)
        have HO := hid (lateR_below L0.out BR.out)
        have HSG := hid (segR_below G0.out BR.out)
        clear X0 L0 G0 c9
        have c9 := XB.out.cell (j := 9) rfl
        go_wp2
        clear c9
        refine wp_region_from (N := 45) (by kernel_rfl) (by kernel_rfl) rfl (by kernel_rfl) (fun W => Below lo w W ∧ W.ownsRow lo 34 4 (.slice ov out.length oc) out.length (segCells out) ∧ Stands w W) (fun j v u W => match j with | 0 => v = .pointer (some ⟨g, 0, none⟩) | 1 => v = .pointer (some ⟨g, 0, none⟩) | 2 => v = .pointer (some ⟨g, 0, none⟩) | 3 => v = .pointer (some ⟨g, 0, none⟩) | 4 => v = .pointer (some ⟨g, 9, none⟩) | 5 => v = .slice ao d.late.length cap | 6 => v = .int .i64 num | 7 => v = .string text | 8 => v = .string text | 9 => v = .agg #[.int .i64 num, .string text] | 10 => ∃ g : Nat, v = .slice (some ⟨g, 0, none⟩) 1 1 ∧ BlockIs W g 61 (lateEnc ⟨num, text⟩) | 11 => ∃ (va' : Option Addr) (vc' : Nat), v = .slice va' (d.late.length + 1) vc' ∧ W.ownsRow lo 61 2 (.slice va' (d.late.length + 1) vc') (d.late.length + 1) (lateCells (d.late ++ [⟨num, text⟩])) | 12 => v = .pointer (some ⟨g, 0, none⟩) | 13 => v = .pointer (some ⟨g, 0, none⟩) | 14 => v = .pointer (some ⟨g, 9, none⟩) | 15 => ∃ (va' : Option Addr) (vc' : Nat), u = .slice va' (d.late.length + 1) vc' ∧ W.ownsRow lo 61 2 (.slice va' (d.late.length + 1) vc') (d.late.length + 1) (lateCells (d.late ++ [⟨num, text⟩])) ∧ BlockIs W g 54 [.int .i64 d.st, .int .i64 d.iss, .int .i64 d.una, .int .i64 d.rcv, .string d.wait, .int .i64 d.sent, .int .i64 d.fin, .bool d.pf, .string d.inn, .slice va' (d.late.length + 1) vc', .bool d.owe, .int .i64 d.due, .int .i64 d.times, .int .i64 now, .slice ov out.length oc] | _ => True) (fun i => if i = 15 then 11 else i) (fun j i => decide ((j, i) ∈ ([(10, 11)] : List (Nat × Nat)))) (fun i x y => x.heap.size ≤ y.heap.size ∧ ∀ g ty cs, BlockIs x g ty cs → (i = 11 → ty ≠ 61) → (i = 15 → ty ≠ 54) → BlockIs y g ty cs) (fun q9 W => match q9 with | 0 => W.ownsRow lo 61 2 (.slice ao d.late.length cap) d.late.length (lateCells d.late) | 1 => BlockIs W g 54 [.int .i64 d.st, .int .i64 d.iss, .int .i64 d.una, .int .i64 d.rcv, .string d.wait, .int .i64 d.sent, .int .i64 d.fin, .bool d.pf, .string d.inn, .slice ao d.late.length cap, .bool d.owe, .int .i64 d.due, .int .i64 d.times, .int .i64 now, .slice ov out.length oc] | _ => True) (fun m k => decide ((m, k) ∈ ([(0, 11), (1, 15)] : List (Nat × Nat)))) ?_ (fun i => if i = 15 then 41 else 0) (by kernel_rfl) (fun i hi => by have : 16 ≤ i := hi; simp; omega) ?_ ⟨(BR.out.mono LO.out).trans ((below_drewN (Below.refl wr.heap.size wr) 1).mono (Nat.le_trans LO.out BR.out.size)), segR_below HSG.out (below_drewN (Below.refl wr.heap.size wr) 1), fun p ty cs hp _ _ => (hp.on BR.out hp.lt).on (below_drewN (Below.refl wr.heap.size wr) 1) (hp.on BR.out hp.lt).lt⟩ (fun q9 => match q9 with | 0 => lateR_below HO.out (below_drewN (Below.refl wr.heap.size wr) 1) | 1 => XB.out.on (below_drewN (Below.refl wr.heap.size wr) 1) XB.out.lt | _ + 2 => trivial) ?_ ?_
        · intro i m x y hen hxy hm
          match m, hen, hm with
          | 0, hen, hm =>
            simp at hen
            exact row_ext hm (fun g cs h => hxy.2 _ _ _ h (fun e => absurd e hen) (fun _ => by decide))
          | 1, hen, hm =>
            simp at hen
            exact hxy.2 _ _ _ hm (fun _ => by decide) (fun e => absurd e hen)
          | n + 2, _, _ => exact trivial
        · intro i j v u x y hij hdd hwt hxy hg
          match j, hg with
          | 0, hg => exact hg
          | 1, hg => exact hg
          | 2, hg => exact hg
          | 3, hg => exact hg
          | 4, hg => exact hg
          | 5, hg => exact hg
          | 6, hg => exact hg
          | 7, hg => exact hg
          | 8, hg => exact hg
          | 9, hg => exact hg
          | 10, hg =>
            obtain ⟨g, e1, e2⟩ := hg
            simp at hdd
            exact ⟨g, e1, hxy.2 _ _ _ e2 (fun e => absurd e hdd) (fun _ => by decide)⟩
          | 11, hg =>
            obtain ⟨va', vc', e1, e2⟩ := hg
            exact ⟨va', vc', e1, row_ext e2 (fun g cs h => hxy.2 _ _ _ h (fun e => absurd e hij) (fun _ => by decide))⟩
          | 12, hg => exact hg
          | 13, hg => exact hg
          | 14, hg => exact hg
          | 15, hg =>
            obtain ⟨va', vc', e1, e2, e3⟩ := hg
            have h6 : i ≠ 11 := by rintro rfl; exact Bool.noConfusion (hwt.symm.trans (by kernel_rfl : waitsB _ 15 11 = true))
            exact ⟨va', vc', e1, row_ext e2 (fun g cs h => hxy.2 _ _ _ h (fun e => absurd e h6) (fun _ => by decide)), hxy.2 _ _ _ e3 (fun _ => by decide) (fun e => absurd e hij)⟩
          | n + 16, _ => exact trivial
        · refine ⟨?_, ?_, ?_, ?_, ?_, ?_, ?_, ?_, ?_, ?_, ?_, ?_, ?_, ?_, ?_, ?_, trivial⟩
          · intro A W hC hI hg hb
            have h0 : A.eval (.tmp 0) = .pointer (some ⟨g, 0, none⟩) := hb 0 (base_of (by kernel_rfl))
            exact does_value (v := .pointer (some ⟨g, 0, none⟩)) (w' := W) (by simp only [execOp, h0]; simp [go_sem]) ⟨rfl, hC, Nat.le_refl _, fun _ _ _ h _ _ => h⟩
          · intro A W hC hI hg hb
            have h0 : A.eval (.tmp 0) = .pointer (some ⟨g, 0, none⟩) := hb 0 (base_of (by kernel_rfl))
            exact does_value (v := .pointer (some ⟨g, 0, none⟩)) (w' := W) (by simp only [execOp, h0]; simp [go_sem]) ⟨rfl, hC, Nat.le_refl _, fun _ _ _ h _ _ => h⟩
          · intro A W hC hI hg hb
            have h31 : A.eval (.tmp 31) = .pointer (some ⟨g, 0, none⟩) := hg 1 31 (by decide) rfl (by simp [Op.operands]) (by kernel_rfl) rfl
            exact does_value (v := .pointer (some ⟨g, 0, none⟩)) (w' := W) (by simp only [execOp, h31]; simp [go_sem]) ⟨rfl, hC, Nat.le_refl _, fun _ _ _ h _ _ => h⟩
          · intro A W hC hI hg hb
            have h32 : A.eval (.tmp 32) = .pointer (some ⟨g, 0, none⟩) := hg 2 32 (by decide) rfl (by simp [Op.operands]) (by kernel_rfl) rfl
            exact does_value (v := .pointer (some ⟨g, 0, none⟩)) (w' := W) (by simp only [execOp, h32]; simp [go_sem]) ⟨rfl, hC, Nat.le_refl _, fun _ _ _ h _ _ => h⟩
          · intro A W hC hI hg hb
            have h33 : A.eval (.tmp 33) = .pointer (some ⟨g, 0, none⟩) := hg 3 33 (by decide) rfl (by simp [Op.operands]) (by kernel_rfl) rfl
            exact does_value (v := .pointer (some ⟨g, 9, none⟩)) (w' := W) (by simp only [execOp, h33]; simp [go_sem]) ⟨rfl, hC, Nat.le_refl _, fun _ _ _ h _ _ => h⟩
          · intro A W hC hI hg hb
            have h34 : A.eval (.tmp 34) = .pointer (some ⟨g, 9, none⟩) := hg 4 34 (by decide) rfl (by simp [Op.operands]) (by kernel_rfl) rfl
            have hb1 : BlockIs W g 54 [.int .i64 d.st, .int .i64 d.iss, .int .i64 d.una, .int .i64 d.rcv, .string d.wait, .int .i64 d.sent, .int .i64 d.fin, .bool d.pf, .string d.inn, .slice ao d.late.length cap, .bool d.owe, .int .i64 d.due, .int .i64 d.times, .int .i64 now, .slice ov out.length oc] := hI 1 (by kernel_rfl)
            have hc0 := hb1.cell (j := 9) rfl
            exact does_value (v := .slice ao d.late.length cap) (w' := W) (by simp only [execOp, h34]; simp [go_sem, hc0]) ⟨rfl, hC, Nat.le_refl _, fun _ _ _ h _ _ => h⟩
          · intro A W hC hI hg hb
            have h1 : A.eval (.tmp 1) = .int .i64 num := hb 1 (base_of (by kernel_rfl))
            exact does_value (v := .int .i64 num) (w' := W) (by simp only [execOp, h1]; simp [go_sem]) ⟨rfl, hC, Nat.le_refl _, fun _ _ _ h _ _ => h⟩
          · intro A W hC hI hg hb
            have h2 : A.eval (.tmp 2) = .string text := hb 2 (base_of (by kernel_rfl))
            exact does_value (v := .string text) (w' := W) (by simp only [execOp, h2]; simp [go_sem]) ⟨rfl, hC, Nat.le_refl _, fun _ _ _ h _ _ => h⟩
          · intro A W hC hI hg hb
            have h37 : A.eval (.tmp 37) = .string text := hg 7 37 (by decide) rfl (by simp [Op.operands, Call.operands]) (by kernel_rfl) rfl
            simp [go_sem] at h37
            refine does_enter (f := 41) (args := #[.string text]) (w' := W) (by simp [go_sem, h37]) ?_
            refine (clone_any text (by have := HBS.out; omega) W).mono ?_
            rintro e W' ⟨rfl, hb⟩
            exact ⟨_, rfl, rfl, ⟨hC.1.trans (hb.mono (by have := hC.1.size; have := LO.out; omega)), segR_below hC.2.1 hb, fun p ty cs hp a b => (hC.2.2 p ty cs hp a b).on hb (hC.2.2 p ty cs hp a b).lt⟩, hb.size, fun g ty cs h _ _ => h.on hb h.lt⟩
          · intro A W hC hI hg hb
            have h36 : A.eval (.tmp 36) = .int .i64 num := hg 6 36 (by decide) rfl (by simp [Op.operands]) (by kernel_rfl) rfl
            have h38 : A.eval (.tmp 38) = .string text := hg 8 38 (by decide) rfl (by simp [Op.operands]) (by kernel_rfl) rfl
            simp [go_sem] at h36 h38
            exact does_value (v := .agg #[.int .i64 num, .string text]) (w' := W) (by simp [execOp, go_sem, h36, h38]) ⟨rfl, hC, Nat.le_refl _, fun _ _ _ h _ _ => h⟩
          · intro A W hC hI hg hb
            have h39 : A.eval (.tmp 39) = .agg #[.int .i64 num, .string text] := hg 9 39 (by decide) rfl (by simp [Op.operands]) (by kernel_rfl) rfl
            simp [go_sem] at h39
            have ba := below_more (Below.refl W.heap.size W) (.cells #[.int .i64 num, .string text] 61)
            exact does_value (v := .slice (some ⟨W.heap.size, 0, none⟩) 1 1) (w' := W.alloc (.cells #[.int .i64 num, .string text] 61)) (by simp [execOp, go_sem, h39]) ⟨⟨_, rfl, heap_alloc_new W _⟩, ⟨hC.1.trans (ba.mono (by have := hC.1.size; have := LO.out; omega)), segR_below hC.2.1 ba, fun p ty cs hp a b => (hC.2.2 p ty cs hp a b).on ba (hC.2.2 p ty cs hp a b).lt⟩, ba.size, fun g ty cs h _ _ => h.on ba h.lt⟩
          · intro A W hC hI hg hb
            have h35 : A.eval (.tmp 35) = .slice ao d.late.length cap := hg 5 35 (by decide) rfl (by simp [Op.operands, Call.operands]) (by kernel_rfl) rfl
            have g10 := hg 10 40 (by decide) rfl (by simp [Op.operands, Call.operands]) (by kernel_rfl) rfl
            obtain ⟨g, h40, hbl⟩ := g10
            have hrow : W.ownsRow lo 61 2 (.slice ao d.late.length cap) d.late.length (lateCells d.late) := hI 0 (by kernel_rfl)
            have hM : LatesAt W (some ⟨g, 0, none⟩) [⟨num, text⟩] := latesAt_of (r := []) (by rw [List.append_nil]; simpa [lateCells] using hbl)
            obtain ⟨v', W', hr, h2, h3⟩ := append_lates (c := 1) (by rw [List.length_singleton]; have := HL.out; omega) (by have := hC.1.size; have := LO.out; omega) hrow hM
            obtain ⟨va', vc', rfl⟩ := row_shape h2
            rw [List.length_append, List.length_singleton] at h2 hr
            have hr1 : (Builtin.append_ #[29, 29] 29 #[.slice ao d.late.length cap, .slice (some ⟨g, 0, none⟩) 1 1]).run Try.prog W = .ok (.slice va' (d.late.length + 1) vc') W' := hr
            have hK : ∀ p ty cs, BlockIs W p ty cs → ty ≠ 61 → BlockIs W' p ty cs := fun p ty cs hp hne => lateR_other hp hrow h3 hne
            refine does_value (v := .slice va' (d.late.length + 1) vc') (w' := W') (by simp only [execOp, resolve, invoke, builtin, Sem.run_bind, Sem.run_pure, Result.andThen_ok, List.map_toArray, List.map_cons, List.map_nil, h35, h40, hr1]) ⟨⟨va', vc', rfl, h2⟩, ⟨lateR_down hC.1 hrow h3 (Nat.le_refl _) (by have := hC.1.size; have := LO.out; omega), row_ext hC.2.1 (fun g cs h => hK g _ cs h (by decide)), fun p ty cs hp a b => hK p ty cs (hC.2.2 p ty cs hp a b) b⟩, h3.size, fun p ty cs hp hne _ => hK p ty cs hp (hne rfl)⟩
          · intro A W hC hI hg hb
            have h30 : A.eval (.tmp 30) = .pointer (some ⟨g, 0, none⟩) := hg 0 30 (by decide) rfl (by simp [Op.operands]) (by kernel_rfl) rfl
            exact does_value (v := .pointer (some ⟨g, 0, none⟩)) (w' := W) (by simp only [execOp, h30]; simp [go_sem]) ⟨rfl, hC, Nat.le_refl _, fun _ _ _ h _ _ => h⟩
          · intro A W hC hI hg hb
            have h42 : A.eval (.tmp 42) = .pointer (some ⟨g, 0, none⟩) := hg 12 42 (by decide) rfl (by simp [Op.operands]) (by kernel_rfl) rfl
            exact does_value (v := .pointer (some ⟨g, 0, none⟩)) (w' := W) (by simp only [execOp, h42]; simp [go_sem]) ⟨rfl, hC, Nat.le_refl _, fun _ _ _ h _ _ => h⟩
          · intro A W hC hI hg hb
            have h43 : A.eval (.tmp 43) = .pointer (some ⟨g, 0, none⟩) := hg 13 43 (by decide) rfl (by simp [Op.operands]) (by kernel_rfl) rfl
            exact does_value (v := .pointer (some ⟨g, 9, none⟩)) (w' := W) (by simp only [execOp, h43]; simp [go_sem]) ⟨rfl, hC, Nat.le_refl _, fun _ _ _ h _ _ => h⟩
          · intro A W hC hI hg hb
            have h44 : A.eval (.tmp 44) = .pointer (some ⟨g, 9, none⟩) := hg 14 44 (by decide) rfl (by simp [Op.operands]) (by kernel_rfl) rfl
            have g11 := hg 11 41 (by decide) rfl (by simp [Op.operands]) (by kernel_rfl) rfl
            obtain ⟨va', vc', h41, hrow⟩ := g11
            have hb1 : BlockIs W g 54 [.int .i64 d.st, .int .i64 d.iss, .int .i64 d.una, .int .i64 d.rcv, .string d.wait, .int .i64 d.sent, .int .i64 d.fin, .bool d.pf, .string d.inn, .slice ao d.late.length cap, .bool d.owe, .int .i64 d.due, .int .i64 d.times, .int .i64 now, .slice ov out.length oc] := hI 1 (by kernel_rfl)
            have c2 := hb1.cell (j := 9) rfl
            have f2 := hb1.thaw 9
            have hK : ∀ p ty cs, BlockIs W p ty cs → ty ≠ 54 → BlockIs (W.setCell ⟨g, 9, none⟩ (.slice va' (d.late.length + 1) vc')) p ty cs := fun p ty cs hp hne => hp.far (by intro e; subst e; exact hne (block_one hp hb1).1) _
            exact does_skip (w' := W.setCell ⟨g, 9, none⟩ (.slice va' (d.late.length + 1) vc')) (by simp only [execOp, h44, h41]; simp [go_sem, c2, f2]) ⟨⟨va', vc', h41, row_ext hrow (fun g cs h => hK g _ cs h (by decide)), hb1.set 9 _⟩, ⟨hC.1.setCell LG.out _, row_ext hC.2.1 (fun g cs h => hK g _ cs h (by decide)), fun p ty cs hp a b => hK p ty cs (hC.2.2 p ty cs hp a b) a⟩, by simp [World.size_setCell], fun p ty cs hp _ hne => hK p ty cs hp (hne rfl)⟩
        · intro vs wE hC hI hg
          obtain ⟨va', vc', hu, ho, hb⟩ := hg 15 (by decide) (fun k => by simp)
          change vs 11 = _ at hu
          clear hg hI
          simp only [List.size_toArray, List.length_cons, List.length_nil, Nat.zero_add, Nat.reduceAdd]
          simp only [laidBy, if_true, dstAt, List.getElem?_toArray, List.getElem?_cons_succ, List.getElem?_cons_zero, Option.bind_some]
          simp only [Act.put, List.setIfInBounds_toArray, List.set_cons_succ, List.set_cons_zero]
          have HE := hid (show HrTo lo g w wE { d with late := d.late ++ [⟨num, text⟩] } now out from ⟨⟨⟨LG.out, va', vc', ov, oc, by rw [List.length_append]; exact hb, by unfold OwnsL; rw [List.length_append]; exact ho, hC.2.1⟩, hC.1⟩, hC.2.2⟩)
          clear hu hb ho hC XB HO HSG
          go_wp2
          go_end0
          exact ⟨rfl, by rw [HR.out]; exact HE.out⟩
    | succ q9 =>
      have hlt : k < d.late.length := by omega
      have hlt' : (k : Int) < (d.late.length : Int) := by omega
      have hne : d.late ≠ [] := by intro e; rw [e] at hlt; simp at hlt
      obtain ⟨b, off, rfl, hc⟩ := HA.out.on BR.out hne
      obtain ⟨x0, x1⟩ := hc k hlt
      clear hc
      have hb1 := below_more (Below.refl wr.heap.size wr) (.cells #[.int .i64 d.late[k].num, .string d.late[k].text] 61)
      have hx : BlockIs (wr.alloc (.cells #[.int .i64 d.late[k].num, .string d.late[k].text] 61)) wr.heap.size 61 [.int .i64 d.late[k].num, .string d.late[k].text] := heap_alloc_new wr _
      obtain ⟨V, hV⟩ : ∃ V, wr.alloc (.cells #[.int .i64 d.late[k].num, .string d.late[k].text] 61) = V := ⟨_, rfl⟩
      rw [hV] at hb1 hx
      have BV := hid (below_via BR.out hb1)
      have y0 := hx.cell (j := 0) rfl
      clear hx hb1
      by_cases q : d.late[k].num = num
      · have qb : (d.late[k].num == num) = true := by rw [beq_iff_eq]; exact q
        have HR : Hid (keepD num text d = d) := by show _ = _; rw [keepD, if_pos (Or.inl (hasNum_yes hlt q))]
        have HE := hid (H.out.on BV.out)
        clear q
        go_wp2
        refine bodyPost_ret (v := .tuple #[]) (by simp [results, Try.results65]) rfl ?_
        exact ⟨rfl, by rw [HR.out]; exact HE.out⟩
      · have qb : (d.late[k].num == num) = false := by rw [beq_eq_false_iff_ne]; exact q
        have RT2 : Hid (hasNum num (d.late.take (k + 1)) = false) := by show _ = _; rw [hasNum_takeI hlt, RT.out, decide_eq_false q]; rfl
        clear q RT
        go_wp2
        go_roundg q9
        case measure => omega
        case rel => exact ⟨k + 1, by omega, by go_num, BV, RT2⟩
end Go.Proofs.Ytngcldjkpcmidaa
