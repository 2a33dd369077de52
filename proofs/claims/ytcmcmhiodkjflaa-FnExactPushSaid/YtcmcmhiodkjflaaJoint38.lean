/-
  The walks of impl.(*endpoint).greet, sendCall, sendAnswer: who greets.
-/
import Derived.Test.YtcmcmhiodkjflaaJoint30
import Derived.Test.YtcmcmhiodkjflaaJoint31
import Derived.Test.YtcmcmhiodkjflaaJoint34
import Derived.Deep.RegionWith
namespace Go.Proofs.Ytcmcmhiodkjflaa
open Go.RowKit

set_option maxRecDepth 1000000 in
set_option maxHeartbeats 4000000 in
theorem greet_any (lo g : Nat) (d : StrD) (now : Int) (out : List SegD) (s : SegD) (hn : out.length ≤ 100) (ht : 0 ≤ d.times ∧ d.times ≤ 12) (hnow : 0 ≤ now ∧ now ≤ 1000000000) (w : World) (h : EpIs w lo g d now out) :
    Calls Try.prog 63 #[.pointer (some ⟨g, 0, none⟩), .agg #[.int .i64 s.num, .int .i64 s.ack, .int .i64 s.flags, .string s.body]] w fun e w' => e = .returned (.tuple #[]) ∧ EpTo lo g w w' (greetD now d) now (out ++ greetSegs now d s) := by
  have hb0 := below_more (Below.refl w.heap.size w) (.cells #[.int .i64 s.num, .int .i64 s.ack, .int .i64 s.flags, .string s.body] 42)
  have hx0 : BlockIs (w.alloc (.cells #[.int .i64 s.num, .int .i64 s.ack, .int .i64 s.flags, .string s.body] 42)) w.heap.size 42 [.int .i64 s.num, .int .i64 s.ack, .int .i64 s.flags, .string s.body] := heap_alloc_new w _
  have h0 := h.on hb0
  obtain ⟨W0, hW0⟩ : ∃ W0, w.alloc (.cells #[.int .i64 s.num, .int .i64 s.ack, .int .i64 s.flags, .string s.body] 42) = W0 := ⟨_, rfl⟩
  rw [hW0] at hb0 hx0 h0
  have LO := hid h.lo
  have HB0 := hid hb0
  have HX0 := hid hx0
  have H0 := hid h0
  have CT := hid (mayTry_any lo g d now out W0 h0)
  obtain ⟨b, hb⟩ : ∃ b, w.heap.size = b := ⟨_, rfl⟩
  rw [hb] at HX0
  cases hT : tryB now d with
  | false =>
    have HD : Hid (greetD now d = d ∧ greetSegs now d s = []) := by show _ ∧ _; simp [greetD, greetSegs, hT]
    rw [HD.out.1, HD.out.2, List.append_nil]
    rw [hT] at CT
    clear hb0 hx0 h0 hT h HX0
    go_enter Try.func63, Try.ntmps63
    go_wp2_with fail
    refine Calls.mono CT.out ?_
    rintro e w1 ⟨rfl, b1⟩
    have HE := hid (show EpTo lo g w w1 d now out from ⟨H0.out.on b1, (below_via HB0.out b1).mono LO.out⟩)
    clear b1 CT
    go_wp2
    go_end0
    exact ⟨rfl, HE.out⟩
  | true =>
    have HD : Hid (greetD now d = pauseD now d ∧ greetSegs now d s = [s]) := by show _ ∧ _; simp [greetD, greetSegs, hT]
    rw [HD.out.1, HD.out.2]
    rw [hT] at CT
    clear hb0 hx0 h0 hT h
    go_enter Try.func63, Try.ntmps63
    go_wp2_with fail
    refine Calls.mono CT.out ?_
    rintro e w2 ⟨rfl, b1⟩
    have XS := hid (HX0.out.on b1 HX0.out.lt)
    have h := H0.out.on b1
    have B2 := hid ((below_via HB0.out b1).mono LO.out)
    obtain ⟨hlo, ao, cap, ov, oc, hb2, hl, ho⟩ := h
    have LG := hid hlo
    have XB := hid hb2
    have HLT := hid hl
    have HO := hid ho
    have HL := hid hn
    clear hlo hb2 hl ho b1 CT HX0 H0 HB0
    go_wp2
    refine wp_region_from (N := 18) (by kernel_rfl) (by kernel_rfl) rfl (by kernel_rfl) (fun W => Below lo w W ∧ OwnsL W lo d.late ao cap) (fun j v u W => match j with | 0 => v = .pointer (some ⟨g, 0, none⟩) | 1 => v = .pointer (some ⟨g, 0, none⟩) | 2 => v = .pointer (some ⟨g, 0, none⟩) | 3 => v = .pointer (some ⟨g, 14, none⟩) | 4 => v = .slice ov out.length oc | 5 => v = .agg #[.int .i64 s.num, .int .i64 s.ack, .int .i64 s.flags, .string s.body] | 6 => ∃ g : Nat, v = .slice (some ⟨g, 0, none⟩) 1 1 ∧ BlockIs W g 42 (segEnc s) | 7 => ∃ (va' : Option Addr) (vc' : Nat), v = .slice va' (out.length + 1) vc' ∧ W.ownsRow lo 42 4 (.slice va' (out.length + 1) vc') (out.length + 1) (segCells (out ++ [s])) | 8 => v = .pointer (some ⟨g, 0, none⟩) | 9 => v = .pointer (some ⟨g, 14, none⟩) | 10 => ∃ (va' : Option Addr) (vc' : Nat), u = .slice va' (out.length + 1) vc' ∧ W.ownsRow lo 42 4 (.slice va' (out.length + 1) vc') (out.length + 1) (segCells (out ++ [s])) ∧ BlockIs W g 56 [.int .i64 d.st, .int .i64 d.iss, .int .i64 d.una, .int .i64 d.rcv, .string d.wait, .int .i64 d.sent, .int .i64 d.fin, .bool d.pf, .string d.inn, .slice ao d.late.length cap, .bool d.owe, .int .i64 d.due, .int .i64 d.times, .int .i64 now, .slice va' (out.length + 1) vc'] | _ => True) (fun i => if i = 10 then 7 else i) (fun j i => decide ((j, i) ∈ ([(6, 7)] : List (Nat × Nat)))) (fun i x y => x.heap.size ≤ y.heap.size ∧ ∀ g ty cs, BlockIs x g ty cs → (i = 7 → ty ≠ 42) → (i = 10 → ty ≠ 56) → BlockIs y g ty cs) (fun q9 W => match q9 with | 0 => W.ownsRow lo 42 4 (.slice ov out.length oc) out.length (segCells out) | 1 => BlockIs W g 56 [.int .i64 d.st, .int .i64 d.iss, .int .i64 d.una, .int .i64 d.rcv, .string d.wait, .int .i64 d.sent, .int .i64 d.fin, .bool d.pf, .string d.inn, .slice ao d.late.length cap, .bool d.owe, .int .i64 d.due, .int .i64 d.times, .int .i64 now, .slice ov out.length oc] | 2 => BlockIs W b 42 [.int .i64 s.num, .int .i64 s.ack, .int .i64 s.flags, .string s.body] | _ => True) (fun m k => decide ((m, k) ∈ ([(0, 7), (1, 10), (2, 7)] : List (Nat × Nat)))) ?_ (fun i => if i = 10 then 13 else 0) (by kernel_rfl) (fun i hi => by have : 11 ≤ i := hi; simp; omega) ?_ ⟨B2.out.trans ((below_drewN (Below.refl w2.heap.size w2) 1).mono (Nat.le_trans LO.out B2.out.size)), HLT.out.on (below_drewN (Below.refl w2.heap.size w2) 1)⟩ (fun q9 => match q9 with | 0 => segR_below HO.out (below_drewN (Below.refl w2.heap.size w2) 1) | 1 => XB.out.on (below_drewN (Below.refl w2.heap.size w2) 1) XB.out.lt | 2 => XS.out.on (below_drewN (Below.refl w2.heap.size w2) 1) XS.out.lt | _ + 3 => trivial) ?_ ?_
    · intro i m x y hen hxy hm
      match m, hen, hm with
      | 0, hen, hm =>
        simp at hen
        exact row_ext hm (fun g cs h => hxy.2 _ _ _ h (fun e => absurd e hen) (fun _ => by decide))
      | 1, hen, hm =>
        simp at hen
        exact hxy.2 _ _ _ hm (fun _ => by decide) (fun e => absurd e hen)
      | 2, hen, hm =>
        simp at hen
        exact hxy.2 _ _ _ hm (fun e => absurd e hen) (fun _ => by decide)
      | n + 3, _, _ => exact trivial
    · intro i j v u x y hij hdd hwt hxy hg
      match j, hg with
      | 0, hg => exact hg
      | 1, hg => exact hg
      | 2, hg => exact hg
      | 3, hg => exact hg
      | 4, hg => exact hg
      | 5, hg => exact hg
      | 6, hg =>
        obtain ⟨g, e1, e2⟩ := hg
        simp at hdd
        exact ⟨g, e1, hxy.2 _ _ _ e2 (fun e => absurd e hdd) (fun _ => by decide)⟩
      | 7, hg =>
        obtain ⟨va', vc', e1, e2⟩ := hg
        exact ⟨va', vc', e1, row_ext e2 (fun g cs h => hxy.2 _ _ _ h (fun e => absurd e hij) (fun _ => by decide))⟩
      | 8, hg => exact hg
      | 9, hg => exact hg
      | 10, hg =>
        obtain ⟨va', vc', e1, e2, e3⟩ := hg
        have h6 : i ≠ 7 := by rintro rfl; exact Bool.noConfusion (hwt.symm.trans (by kernel_rfl : waitsB _ 10 7 = true))
        exact ⟨va', vc', e1, row_ext e2 (fun g cs h => hxy.2 _ _ _ h (fun e => absurd e h6) (fun _ => by decide)), hxy.2 _ _ _ e3 (fun _ => by decide) (fun e => absurd e hij)⟩
      | n + 11, _ => exact trivial
    · refine ⟨?_, ?_, ?_, ?_, ?_, ?_, ?_, ?_, ?_, ?_, ?_, trivial⟩
      · intro A W hC hI hg hb
        have h0 : A.eval (.tmp 0) = .pointer (some ⟨g, 0, none⟩) := hb 0 (base_of (by kernel_rfl))
        exact does_value (v := .pointer (some ⟨g, 0, none⟩)) (w' := W) (by simp only [execOp, h0]; simp [go_sem]) ⟨rfl, hC, Nat.le_refl _, fun _ _ _ h _ _ => h⟩
      · intro A W hC hI hg hb
        have h0 : A.eval (.tmp 0) = .pointer (some ⟨g, 0, none⟩) := hb 0 (base_of (by kernel_rfl))
        exact does_value (v := .pointer (some ⟨g, 0, none⟩)) (w' := W) (by simp only [execOp, h0]; simp [go_sem]) ⟨rfl, hC, Nat.le_refl _, fun _ _ _ h _ _ => h⟩
      · intro A W hC hI hg hb
        have h7 : A.eval (.tmp 7) = .pointer (some ⟨g, 0, none⟩) := hg 1 7 (by decide) rfl (by simp [Op.operands]) (by kernel_rfl) rfl
        exact does_value (v := .pointer (some ⟨g, 0, none⟩)) (w' := W) (by simp only [execOp, h7]; simp [go_sem]) ⟨rfl, hC, Nat.le_refl _, fun _ _ _ h _ _ => h⟩
      · intro A W hC hI hg hb
        have h8 : A.eval (.tmp 8) = .pointer (some ⟨g, 0, none⟩) := hg 2 8 (by decide) rfl (by simp [Op.operands]) (by kernel_rfl) rfl
        exact does_value (v := .pointer (some ⟨g, 14, none⟩)) (w' := W) (by simp only [execOp, h8]; simp [go_sem]) ⟨rfl, hC, Nat.le_refl _, fun _ _ _ h _ _ => h⟩
      · intro A W hC hI hg hb
        have h9 : A.eval (.tmp 9) = .pointer (some ⟨g, 14, none⟩) := hg 3 9 (by decide) rfl (by simp [Op.operands]) (by kernel_rfl) rfl
        have hb1 : BlockIs W g 56 [.int .i64 d.st, .int .i64 d.iss, .int .i64 d.una, .int .i64 d.rcv, .string d.wait, .int .i64 d.sent, .int .i64 d.fin, .bool d.pf, .string d.inn, .slice ao d.late.length cap, .bool d.owe, .int .i64 d.due, .int .i64 d.times, .int .i64 now, .slice ov out.length oc] := hI 1 (by kernel_rfl)
        have hc0 := hb1.cell (j := 14) rfl
        exact does_value (v := .slice ov out.length oc) (w' := W) (by simp only [execOp, h9]; simp [go_sem, hc0]) ⟨rfl, hC, Nat.le_refl _, fun _ _ _ h _ _ => h⟩
      · intro A W hC hI hg hb
        have h3 : A.eval (.tmp 3) = .pointer (some ⟨b, 0, none⟩) := hb 3 (base_of (by kernel_rfl))
        have hb1 : BlockIs W b 42 [.int .i64 s.num, .int .i64 s.ack, .int .i64 s.flags, .string s.body] := hI 2 (by kernel_rfl)
        have hc0 := hb1.cell (j := 0) rfl
        have hc1 := hb1.cell (j := 1) rfl
        have hc2 := hb1.cell (j := 2) rfl
        have hc3 := hb1.cell (j := 3) rfl
        exact does_value (v := .agg #[.int .i64 s.num, .int .i64 s.ack, .int .i64 s.flags, .string s.body]) (w' := W) (by simp only [execOp, h3]; simp [go_sem, hc0, hc1, hc2, hc3]) ⟨rfl, hC, Nat.le_refl _, fun _ _ _ h _ _ => h⟩
      · intro A W hC hI hg hb
        have h11 : A.eval (.tmp 11) = .agg #[.int .i64 s.num, .int .i64 s.ack, .int .i64 s.flags, .string s.body] := hg 5 11 (by decide) rfl (by simp [Op.operands]) (by kernel_rfl) rfl
        simp [go_sem] at h11
        have ba := below_more (Below.refl W.heap.size W) (.cells #[.int .i64 s.num, .int .i64 s.ack, .int .i64 s.flags, .string s.body] 42)
        exact does_value (v := .slice (some ⟨W.heap.size, 0, none⟩) 1 1) (w' := W.alloc (.cells #[.int .i64 s.num, .int .i64 s.ack, .int .i64 s.flags, .string s.body] 42)) (by simp [execOp, go_sem, h11]) ⟨⟨_, rfl, heap_alloc_new W _⟩, ⟨hC.1.trans (ba.mono (by have := hC.1.size; have := LO.out; omega)), hC.2.on ba⟩, ba.size, fun g ty cs h _ _ => h.on ba h.lt⟩
      · intro A W hC hI hg hb
        have h10 : A.eval (.tmp 10) = .slice ov out.length oc := hg 4 10 (by decide) rfl (by simp [Op.operands, Call.operands]) (by kernel_rfl) rfl
        have g6 := hg 6 12 (by decide) rfl (by simp [Op.operands, Call.operands]) (by kernel_rfl) rfl
        obtain ⟨g, h12, hbl⟩ := g6
        have hrow : W.ownsRow lo 42 4 (.slice ov out.length oc) out.length (segCells out) := hI 0 (by kernel_rfl)
        have hM : SegsAt W (some ⟨g, 0, none⟩) [s] := segsAt_of (r := []) (by rw [List.append_nil]; simpa [segCells] using hbl)
        obtain ⟨v', W', hr, h2, h3⟩ := append_segs (c := 1) (by rw [List.length_singleton]; have := HL.out; omega) (by have := hC.1.size; have := LO.out; omega) hrow hM
        obtain ⟨va', vc', rfl⟩ := row_shape h2
        rw [List.length_append, List.length_singleton] at h2 hr
        have hr1 : (Builtin.append_ #[29, 29] 29 #[.slice ov out.length oc, .slice (some ⟨g, 0, none⟩) 1 1]).run Try.prog W = .ok (.slice va' (out.length + 1) vc') W' := hr
        have hK : ∀ p ty cs, BlockIs W p ty cs → ty ≠ 42 → BlockIs W' p ty cs := fun p ty cs hp hne => segR_other hp hrow h3 hne
        refine does_value (v := .slice va' (out.length + 1) vc') (w' := W') (by simp only [execOp, resolve, invoke, builtin, Sem.run_bind, Sem.run_pure, Result.andThen_ok, List.map_toArray, List.map_cons, List.map_nil, h10, h12, hr1]) ⟨⟨va', vc', rfl, h2⟩, ⟨segR_down hC.1 hrow h3 (Nat.le_refl _) (by have := hC.1.size; have := LO.out; omega), row_ext hC.2 (fun g cs h => hK g _ cs h (by decide))⟩, h3.size, fun p ty cs hp hne _ => hK p ty cs hp (hne rfl)⟩
      · intro A W hC hI hg hb
        have h6 : A.eval (.tmp 6) = .pointer (some ⟨g, 0, none⟩) := hg 0 6 (by decide) rfl (by simp [Op.operands]) (by kernel_rfl) rfl
        exact does_value (v := .pointer (some ⟨g, 0, none⟩)) (w' := W) (by simp only [execOp, h6]; simp [go_sem]) ⟨rfl, hC, Nat.le_refl _, fun _ _ _ h _ _ => h⟩
      · intro A W hC hI hg hb
        have h14 : A.eval (.tmp 14) = .pointer (some ⟨g, 0, none⟩) := hg 8 14 (by decide) rfl (by simp [Op.operands]) (by kernel_rfl) rfl
        exact does_value (v := .pointer (some ⟨g, 14, none⟩)) (w' := W) (by simp only [execOp, h14]; simp [go_sem]) ⟨rfl, hC, Nat.le_refl _, fun _ _ _ h _ _ => h⟩
      · intro A W hC hI hg hb
        have h15 : A.eval (.tmp 15) = .pointer (some ⟨g, 14, none⟩) := hg 9 15 (by decide) rfl (by simp [Op.operands]) (by kernel_rfl) rfl
        have g7 := hg 7 13 (by decide) rfl (by simp [Op.operands]) (by kernel_rfl) rfl
        obtain ⟨va', vc', h13, hrow⟩ := g7
        have hb1 : BlockIs W g 56 [.int .i64 d.st, .int .i64 d.iss, .int .i64 d.una, .int .i64 d.rcv, .string d.wait, .int .i64 d.sent, .int .i64 d.fin, .bool d.pf, .string d.inn, .slice ao d.late.length cap, .bool d.owe, .int .i64 d.due, .int .i64 d.times, .int .i64 now, .slice ov out.length oc] := hI 1 (by kernel_rfl)
        have c2 := hb1.cell (j := 14) rfl
        have f2 := hb1.thaw 14
        have hK : ∀ p ty cs, BlockIs W p ty cs → ty ≠ 56 → BlockIs (W.setCell ⟨g, 14, none⟩ (.slice va' (out.length + 1) vc')) p ty cs := fun p ty cs hp hne => hp.far (by intro e; subst e; exact hne (block_one hp hb1).1) _
        exact does_skip (w' := W.setCell ⟨g, 14, none⟩ (.slice va' (out.length + 1) vc')) (by simp only [execOp, h15, h13]; simp [go_sem, c2, f2]) ⟨⟨va', vc', h13, row_ext hrow (fun g cs h => hK g _ cs h (by decide)), hb1.set 14 _⟩, ⟨hC.1.setCell LG.out _, row_ext hC.2 (fun g cs h => hK g _ cs h (by decide))⟩, by simp [World.size_setCell], fun p ty cs hp _ hne => hK p ty cs hp (hne rfl)⟩
    · intro vs wE hC hI hg
      obtain ⟨va', vc', hu, ho, hb⟩ := hg 10 (by decide) (fun k => by simp)
      change vs 7 = _ at hu
      clear hg hI
      change Exit.then _ _ _ (laidBy _ vs _ 11 _) wE
      simp only [laidBy, if_true, dstAt, List.getElem?_toArray, List.getElem?_cons_succ, List.getElem?_cons_zero, Option.bind_some]
      simp only [Act.put, List.setIfInBounds_toArray, List.set_cons_succ, List.set_cons_zero]
      have HE := hid (show EpTo lo g w wE d now (out ++ [s]) from ⟨⟨LG.out, ao, cap, va', vc', by rw [List.length_append]; exact hb, hC.2, by rw [List.length_append]; exact ho⟩, hC.1⟩)
      clear hu ho hC XB HO HLT
      go_wp2_with fail
      refine Calls.mono (pause_any lo g d now (out ++ [s]) ht hnow wE HE.out.1) ?_
      rintro e w4 ⟨rfl, h4⟩
      have HG := hid (HE.out.trans h4)
      clear h4 HE
      go_wp2
      go_end0
      exact ⟨rfl, HG.out⟩

set_option maxRecDepth 1000000 in
set_option maxHeartbeats 2000000 in
theorem sendCall_any (lo g : Nat) (d : StrD) (now : Int) (out : List SegD) (hn : out.length ≤ 100) (ht : 0 ≤ d.times ∧ d.times ≤ 12) (hnow : 0 ≤ now ∧ now ≤ 1000000000) (w : World) (h : EpIs w lo g d now out) :
    Calls Try.prog 49 #[.pointer (some ⟨g, 0, none⟩)] w fun e w' => e = .returned (.tuple #[]) ∧ EpTo lo g w w' (greetD now d) now (out ++ greetSegs now d ⟨d.iss, 0, 1, ByteArray.empty⟩) := by
  have H := hid h
  obtain ⟨_, ao, cap, ov, oc, hb, _, _⟩ := h
  have c1 := hb.cell (j := 1) rfl
  clear hb
  go_enter Try.func49, Try.ntmps49
  go_wp2_with fail
  refine Calls.mono (greet_any lo g d now out ⟨d.iss, 0, 1, ByteArray.empty⟩ hn ht hnow w H.out) ?_
  rintro e w1 ⟨rfl, h1⟩
  have H1 := hid h1
  clear h1
  go_wp2
  go_end0
  exact ⟨rfl, H1.out⟩

set_option maxRecDepth 1000000 in
set_option maxHeartbeats 2000000 in
theorem sendAnswer_any (lo g : Nat) (d : StrD) (now : Int) (out : List SegD) (hn : out.length ≤ 100) (ht : 0 ≤ d.times ∧ d.times ≤ 12) (hnow : 0 ≤ now ∧ now ≤ 1000000000) (w : World) (h : EpIs w lo g d now out) :
    Calls Try.prog 50 #[.pointer (some ⟨g, 0, none⟩)] w fun e w' => e = .returned (.tuple #[]) ∧ EpTo lo g w w' (greetD now d) now (out ++ greetSegs now d ⟨d.iss, d.rcv, 3, ByteArray.empty⟩) := by
  have H := hid h
  obtain ⟨_, ao, cap, ov, oc, hb, _, _⟩ := h
  have c1 := hb.cell (j := 1) rfl
  have c3 := hb.cell (j := 3) rfl
  clear hb
  have CG : Hid (Calls Try.prog 63 #[.pointer (some ⟨g, 0, none⟩), .agg #[.int .i64 d.iss, .int .i64 d.rcv, .int .i64 3, .string ByteArray.empty]] w.drew fun e w' => e = .returned (.tuple #[]) ∧ EpTo lo g w w' (greetD now d) now (out ++ greetSegs now d ⟨d.iss, d.rcv, 3, ByteArray.empty⟩)) := by
    refine Calls.mono (greet_any lo g d now out ⟨d.iss, d.rcv, 3, ByteArray.empty⟩ hn ht hnow w.drew (H.out.on (below_drewN (Below.refl _ _) 1))) ?_
    rintro e w1 ⟨rfl, h1⟩
    exact ⟨rfl, H.out.to.drew.trans h1⟩
  go_enter Try.func50, Try.ntmps50
  go_wp2
  go_region_with (go_at_call 63; refine Calls.mono CG.out ?_; rintro e w1 ⟨rfl, h1⟩)
  all_goals
    have H1 := hid h1
    clear h1
    go_wp2
    go_end0
    exact ⟨rfl, H1.out⟩
end Go.Proofs.Ytcmcmhiodkjflaa
