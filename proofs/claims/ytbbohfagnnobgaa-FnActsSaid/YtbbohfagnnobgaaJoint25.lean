/-
  The walk of spec.l03Disk: some disk of few files.
-/
import Derived.Test.YtbbohfagnnobgaaJoint13
import Derived.Test.YtbbohfagnnobgaaJoint4
import Derived.Test.YtbbohfagnnobgaaJoint8
import Derived.Test.YtbbohfagnnobgaaJoint14
import Derived.Test.YtbbohfagnnobgaaJoint15
import Derived.Test.YtbbohfagnnobgaaJoint18
import Derived.Test.YtbbohfagnnobgaaJoint22
import Derived.Test.YtbbohfagnnobgaaJoint24
import Derived.Laws.Concat
namespace Go.Proofs.Ytbbohfagnnobgaa
open Go.RowKit

theorem row_files {w : World} {base : Nat} {va : Option Addr} {vc : Nat} {l : List FileD} (h : w.ownsRow base 77 3 (.slice va l.length vc) l.length (fileCells l)) : FilesAt w va l := by
  obtain ⟨va', vc', hv, hf, _⟩ := own_files h
  simp only [Value.slice.injEq] at hv
  rw [hv.1]
  exact hf
theorem dec_three {n : Nat} (h : n ≤ 999) : (⟨(dec (n : Int)).toArray⟩ : ByteArray).size ≤ 3 := by
  show (dec (n : Int)).toArray.size ≤ 3
  rw [List.size_toArray, dec]
  split
  · simp
  · rw [if_neg (by omega)]
    exact dd_len 3 _ (by omega)
theorem grown_row {w x y : World} {C : Nat} {r : Option Nat} (h : w.grownBy x (some C)) (hg : x.grownBy y r) (hr : ∀ j, r = some j → w.heap.size ≤ j) : w.grownBy y (some C) :=
  ⟨hg.os.trans h.os, hg.tape.trans h.tape, hg.output.trans h.output, Nat.le_trans h.size hg.size, fun k hk hne => (hg.block k (Nat.lt_of_lt_of_le hk h.size) (fun e => by have := hr k e.symm; omega)).trans (h.block k hk hne)⟩
theorem put_len (l : List FileD) (f : FileD) : (filesPut l f).length ≤ l.length + 1 := by
  rw [put_length]
  have : (filesNot l f.name).length ≤ l.length := List.length_filter_le _ _
  omega

set_option maxRecDepth 1000000 in
set_option maxHeartbeats 4000000 in
theorem l03Disk_any (C : Nat) (w : World) (hc : CurAt w C) :
    Calls Try.prog 37 #[.pointer (some ⟨C, 0, none⟩)] w fun e w' => ∃ (va : Option Addr) (vc : Nat) (l : List FileD), e = .returned (.agg #[.slice va l.length vc]) ∧ l.length ≤ 40 ∧ (∀ f ∈ l, f.Mild) ∧ w'.ownsRow w.heap.size 77 3 (.slice va l.length vc) l.length (fileCells l) ∧ CurAt w' C ∧ w.grownBy w' (some C) := by
  have hCl := hc.lt
  have hx0 : BlockIs (w.alloc (.cells #[.slice none 0 0] 26)) w.heap.size 26 [.slice none 0 0] := heap_alloc_new w _
  have hx2 : BlockIs ((w.alloc (.cells #[.slice none 0 0] 26)).alloc (.cells #[.slice none 0 0] 26)) (w.heap.size + 1) 26 [.slice none 0 0] := by
    have := heap_alloc_new (w.alloc (.cells #[.slice none 0 0] 26)) (.cells #[.slice none 0 0] 26)
    rw [show (w.alloc (.cells #[.slice none 0 0] 26)).heap.size = w.heap.size + 1 by simp [World.alloc, -World.alloc_eq]] at this
    exact this
  have hx1 := hx0.on (below_more (Below.refl _ _) (.cells #[.slice none 0 0] 26)) hx0.lt
  have be := below_more (below_more (Below.refl w.heap.size w) (.cells #[.slice none 0 0] 26)) (.cells #[.slice none 0 0] 26)
  have XR := hid hx1
  have XD := hid hx2
  have KC := hid (hc.below be)
  have GC := hid (grown_below (World.grownBy.refl w (some C)) be)
  have HO : Hid (World.ownsRow ((w.alloc (.cells #[.slice none 0 0] 26)).alloc (.cells #[.slice none 0 0] 26)) (w.heap.size + 2) 77 3 (.slice none 0 0) 0 (fileCells [])) := ⟨rfl, Or.inl ⟨rfl, rfl⟩⟩
  have HCl := hid hCl
  clear hx0 hx1 hx2 be hc
  go_enter Try.func37, Try.ntmps37
  go_wp2
  go_loopw [4] (fun i wr => ∃ (k : Nat) (l : List FileD) (va : Option Addr) (vc : Nat), k ≤ 5 ∧ i = .int .i64 k ∧ Hid (l.length ≤ k) ∧ Hid (∀ f ∈ l, f.Mild) ∧ Hid (CurAt wr C) ∧ Hid (w.grownBy wr (some C)) ∧ Hid (BlockIs wr w.heap.size 26 [.slice none 0 0]) ∧ Hid (BlockIs wr (w.heap.size + 1) 26 [.slice va l.length vc]) ∧ Hid (wr.ownsRow (w.heap.size + 2) 77 3 (.slice va l.length vc) l.length (fileCells l))) (fun i _ => 6 - (intOf i).toNat)
  case atStart => exact ⟨0, [], none, 0, by omega, rfl, (show _ ≤ _ by simp), (fun f h => by simp at h), KC, GC, XR, XD, HO⟩
  case round =>
    clear KC GC XR XD HO
    obtain ⟨k, l, va, vc, hk, rfl, HLk, HM, KC, GC, XR, XD, HO⟩ := hrel
    go_wp2_with fail
    refine Calls.mono (l01Below_any C 6 (by omega) (by omega) _ KC.out) ?_
    rintro e w4 ⟨y, rfl, y0, y1, k4, q4⟩
    have K2 := hid (k4)
    have G2 := hid (GC.out.trans q4)
    have R2 := hid (XR.out.cur q4 HCl.out)
    have D2 := hid (XD.out.cur q4 (by have := HCl.out; omega))
    have H2 := hid (row_past HO.out q4 (by have := HCl.out; omega))
    clear k4 q4 KC GC XR XD HO
    have KC := K2
    have GC := G2
    have XR := R2
    have XD := D2
    have HO := H2
    clear K2 G2 R2 D2 H2
    by_cases hlt : (k : Int) < y
    · go_wp2_with fail
      refine Calls.mono (l01Below_any C 9 (by omega) (by omega) _ KC.out) ?_
      rintro e w5 ⟨z, rfl, z0, z1, k5, q5⟩
      have K2 := hid (k5)
      have G2 := hid (GC.out.trans q5)
      have R2 := hid (XR.out.cur q5 HCl.out)
      have D2 := hid (XD.out.cur q5 (by have := HCl.out; omega))
      have H2 := hid (row_past HO.out q5 (by have := HCl.out; omega))
      clear k5 q5 KC GC XR XD HO
      have KC := K2
      have GC := G2
      have XR := R2
      have XD := D2
      have HO := H2
      clear K2 G2 R2 D2 H2
      obtain ⟨nz, rfl⟩ := Int.eq_ofNat_of_zero_le z0
      go_wp2_with fail
      refine Calls.mono (l01Text_any C nz (by omega) _ KC.out) ?_
      rintro e w6 ⟨T, rfl, hT, k6, q6⟩
      have K2 := hid (k6)
      have G2 := hid (GC.out.trans q6)
      have R2 := hid (XR.out.cur q6 HCl.out)
      have D2 := hid (XD.out.cur q6 (by have := HCl.out; omega))
      have H2 := hid (row_past HO.out q6 (by have := HCl.out; omega))
      clear k6 q6 KC GC XR XD HO
      have KC := K2
      have GC := G2
      have XR := R2
      have XD := D2
      have HO := H2
      clear K2 G2 R2 D2 H2
      have hTs : T.size ≤ 9 := by omega
      clear hT z0 z1
      go_wp2
      refine wp_region_from (N := 115) (by kernel_rfl) (by kernel_rfl) rfl (by kernel_rfl) (fun W => CurAt W C ∧ w.grownBy W (some C) ∧ BlockIs W w.heap.size 26 [.slice none 0 0]) (fun j v u W => match j with | 0 => v = .agg #[.slice va l.length vc] | 1 => v = .pointer (some ⟨C, 0, none⟩) | 2 => ∃ nm : ByteArray, v = .string nm ∧ nm.size ≤ 2 | 3 => v = .string T | 4 => v = .pointer (some ⟨C, 0, none⟩) | 5 => v = .string T | 6 => v = .int .i64 (T.size : Int) | 7 => v = .int .i64 ((T.size : Int) + 1) | 8 => ∃ x : Int, v = .int .i64 x | 9 => ∃ f : FileD, v = .agg #[.string f.name, .string f.text, .int .i64 f.kept] ∧ f.Mild | 10 => ∃ (f : FileD) (va' : Option Addr) (vc' : Nat), v = .agg #[.slice va' (filesPut l f).length vc'] ∧ f.Mild ∧ W.ownsRow (w.heap.size + 2) 77 3 (.slice va' (filesPut l f).length vc') (filesPut l f).length (fileCells (filesPut l f)) | 11 => ∃ (f : FileD) (va' : Option Addr) (vc' : Nat), u = .agg #[.slice va' (filesPut l f).length vc'] ∧ f.Mild ∧ BlockIs W (w.heap.size + 1) 26 [.slice va' (filesPut l f).length vc'] ∧ W.ownsRow (w.heap.size + 2) 77 3 (.slice va' (filesPut l f).length vc') (filesPut l f).length (fileCells (filesPut l f)) | _ => True) (fun i => if i = 11 then 10 else i) (fun _ _ => false) (fun i x y => x.heap.size ≤ y.heap.size ∧ ∀ g ty cs, BlockIs x g ty cs → w.heap.size < g → (i = 11 → g ≠ w.heap.size + 1) → BlockIs y g ty cs) (fun m W => match m with | 0 => BlockIs W (w.heap.size + 1) 26 [.slice va l.length vc] | 1 => W.ownsRow (w.heap.size + 2) 77 3 (.slice va l.length vc) l.length (fileCells l) | _ => True) (fun m k => decide ((m, k) ∈ ([(0, 11)] : List (Nat × Nat)))) ?_ (fun i => if i = 11 then 29 else 0) (by kernel_rfl) (fun i hi => by have : 12 ≤ i := hi; simp; omega) ?_ ⟨KC.out.below (below_drewN (Below.refl _ _) 1), grown_below GC.out (below_drewN (Below.refl _ _) 1), XR.out.on (below_drewN (Below.refl _ _) 1) XR.out.lt⟩ (fun m => match m with | 0 => XD.out.on (below_drewN (Below.refl _ _) 1) XD.out.lt | 1 => row_below HO.out (below_drewN (Below.refl _ _) 1) | _ + 2 => trivial) ?_ ?_
      · intro i m x y hen hxy hm
        match m, hen, hm with
        | 0, hen, hm =>
          simp at hen
          exact hxy.2 _ _ _ hm (by omega) (fun e => absurd e hen)
        | 1, hen, hm =>
          exact row_from hm fun g cs hg h => hxy.2 _ _ _ h (by omega) (fun _ => by omega)
        | n + 2, _, _ => exact trivial
      · intro i j v u x y hij hdd hwt hxy hg
        match j, hg with
        | 0, hg => exact hg
        | 1, hg => exact hg
        | 2, hg => exact hg
        | 3, hg => exact hg
        | 4, hg => exact hg
        | 5, hg => exact hg
        | 6, hg => exact hg
        | 7, hg => exact hg
        | 8, hg => exact hg
        | 9, hg => exact hg
        | 10, hg =>
          obtain ⟨f, va', vc', e1, e2, e3⟩ := hg
          exact ⟨f, va', vc', e1, e2, row_from e3 fun g cs hg h => hxy.2 _ _ _ h (by omega) (fun _ => by omega)⟩
        | 11, hg =>
          obtain ⟨f, va', vc', e1, e2, e3, e4⟩ := hg
          exact ⟨f, va', vc', e1, e2, hxy.2 _ _ _ e3 (by omega) (fun e => absurd e hij), row_from e4 fun g cs hg h => hxy.2 _ _ _ h (by omega) (fun _ => by omega)⟩
        | n + 12, _ => exact trivial
      · refine ⟨?_, ?_, ?_, ?_, ?_, ?_, ?_, ?_, ?_, ?_, ?_, ?_, trivial⟩
        · intro A W hC hI hg hb
          have h3 : A.eval (.tmp 3) = .pointer (some ⟨w.heap.size + 1, 0, none⟩) := hb 3 (base_of (by kernel_rfl))
          have hb1 : BlockIs W (w.heap.size + 1) 26 [.slice va l.length vc] := hI 0 (by kernel_rfl)
          have c0 := hb1.cell (j := 0) rfl
          exact does_value (v := .agg #[.slice va l.length vc]) (w' := W) (by simp only [execOp, h3]; simp [go_sem, c0]) ⟨rfl, hC, Nat.le_refl _, fun _ _ _ h _ _ => h⟩
        · intro A W hC hI hg hb
          have h0 : A.eval (.tmp 0) = .pointer (some ⟨C, 0, none⟩) := hb 0 (base_of (by kernel_rfl))
          exact does_value (v := .pointer (some ⟨C, 0, none⟩)) (w' := W) (by simp only [execOp, h0]; simp [go_sem]) ⟨rfl, hC, Nat.le_refl _, fun _ _ _ h _ _ => h⟩
        · intro A W hC hI hg hb
          have h20 : A.eval (.tmp 20) = .pointer (some ⟨C, 0, none⟩) := hg 1 20 (by decide) rfl (by simp [Op.operands, Call.operands]) (by kernel_rfl) rfl
          simp [go_sem] at h20
          refine does_enter (f := 63) (args := #[.pointer (some ⟨C, 0, none⟩)]) (w' := W) (by simp [go_sem, h20]) ?_
          obtain ⟨hk, hgr, hr⟩ := hC
          refine (l03Named_any C W hk).mono ?_
          rintro e W' ⟨nm, rfl, n1, n2, k', q'⟩
          exact ⟨_, rfl, ⟨nm, rfl, n2⟩, ⟨k', hgr.trans q', hr.cur q' HCl.out⟩, q'.size, fun g ty cs h hg _ => h.cur q' (by have := HCl.out; omega)⟩
        · intro A W hC hI hg hb
          have h5 : A.eval (.tmp 5) = .string T := hb 5 (base_of (by kernel_rfl))
          exact does_value (v := .string T) (w' := W) (by simp only [execOp, h5]; simp [go_sem]) ⟨rfl, hC, Nat.le_refl _, fun _ _ _ h _ _ => h⟩
        · intro A W hC hI hg hb
          have h0 : A.eval (.tmp 0) = .pointer (some ⟨C, 0, none⟩) := hb 0 (base_of (by kernel_rfl))
          exact does_value (v := .pointer (some ⟨C, 0, none⟩)) (w' := W) (by simp only [execOp, h0]; simp [go_sem]) ⟨rfl, hC, Nat.le_refl _, fun _ _ _ h _ _ => h⟩
        · intro A W hC hI hg hb
          have h5 : A.eval (.tmp 5) = .string T := hb 5 (base_of (by kernel_rfl))
          exact does_value (v := .string T) (w' := W) (by simp only [execOp, h5]; simp [go_sem]) ⟨rfl, hC, Nat.le_refl _, fun _ _ _ h _ _ => h⟩
        · intro A W hC hI hg hb
          have h24 : A.eval (.tmp 24) = .string T := hg 5 24 (by decide) rfl (by simp [Op.operands, Call.operands]) (by kernel_rfl) rfl
          exact does_value (v := .int .i64 (T.size : Int)) (w' := W) (by simp [go_sem] at h24; simp [go_sem, h24]) ⟨rfl, hC, Nat.le_refl _, fun _ _ _ h _ _ => h⟩
        · intro A W hC hI hg hb
          have h25 : A.eval (.tmp 25) = .int .i64 (T.size : Int) := hg 6 25 (by decide) rfl (by simp [Op.operands]) (by kernel_rfl) rfl
          have hw : IntKind.i64.wrap ((T.size : Int) + 1) = (T.size : Int) + 1 := by rw [IntKind.wrap_i64]; omega
          exact does_value (v := .int .i64 ((T.size : Int) + 1)) (w' := W) (by simp [go_sem] at h25; simp [go_sem, h25, hw]) ⟨rfl, hC, Nat.le_refl _, fun _ _ _ h _ _ => h⟩
        · intro A W hC hI hg hb
          have h23 : A.eval (.tmp 23) = .pointer (some ⟨C, 0, none⟩) := hg 4 23 (by decide) rfl (by simp [Op.operands, Call.operands]) (by kernel_rfl) rfl
          have h26 : A.eval (.tmp 26) = .int .i64 ((T.size : Int) + 1) := hg 7 26 (by decide) rfl (by simp [Op.operands, Call.operands]) (by kernel_rfl) rfl
          simp [go_sem] at h23 h26
          refine does_enter (f := 61) (args := #[.pointer (some ⟨C, 0, none⟩), .int .i64 ((T.size : Int) + 1)]) (w' := W) (by simp [go_sem, h23, h26]) ?_
          obtain ⟨hk, hgr, hr⟩ := hC
          refine (l01Below_any C ((T.size : Int) + 1) (by omega) (by omega) W hk).mono ?_
          rintro e W' ⟨x, rfl, x0, x1, k', q'⟩
          exact ⟨_, rfl, ⟨x, rfl⟩, ⟨k', hgr.trans q', hr.cur q' HCl.out⟩, q'.size, fun g ty cs h hg _ => h.cur q' (by have := HCl.out; omega)⟩
        · intro A W hC hI hg hb
          have g2 := hg 2 21 (by decide) rfl (by simp [Op.operands]) (by kernel_rfl) rfl
          have h22 : A.eval (.tmp 22) = .string T := hg 3 22 (by decide) rfl (by simp [Op.operands]) (by kernel_rfl) rfl
          have g8 := hg 8 27 (by decide) rfl (by simp [Op.operands]) (by kernel_rfl) rfl
          obtain ⟨nm, h21, hn⟩ := g2
          obtain ⟨x, h27⟩ := g8
          simp [go_sem] at h21 h22 h27
          exact does_value (v := .agg #[.string nm, .string T, .int .i64 x]) (w' := W) (by simp [execOp, go_sem, h21, h22, h27]) ⟨⟨⟨nm, T, x⟩, rfl, mild_mk (by omega) (by omega)⟩, hC, Nat.le_refl _, fun _ _ _ h _ _ => h⟩
        · intro A W hC hI hg hb
          have h19 : A.eval (.tmp 19) = .agg #[.slice va l.length vc] := hg 0 19 (by decide) rfl (by simp [Op.operands, Call.operands]) (by kernel_rfl) rfl
          have g9 := hg 9 28 (by decide) rfl (by simp [Op.operands, Call.operands]) (by kernel_rfl) rfl
          obtain ⟨f, h28, hf⟩ := g9
          simp [go_sem] at h19 h28
          refine does_enter (f := 55) (args := #[.agg #[.slice va l.length vc], .agg #[.string f.name, .string f.text, .int .i64 f.kept]]) (w' := W) (by simp [go_sem, h19, h28]) ?_
          obtain ⟨hk, hgr, hr⟩ := hC
          have hrow : W.ownsRow (w.heap.size + 2) 77 3 (.slice va l.length vc) l.length (fileCells l) := hI 1 (by kernel_rfl)
          have hb1 : BlockIs W (w.heap.size + 1) 26 [.slice va l.length vc] := hI 0 (by kernel_rfl)
          refine (l03Put_any va l vc f (by have := HLk.out; omega) W (row_files hrow)).mono ?_
          rintro e W' ⟨v', rfl, hown, b'⟩
          obtain ⟨va', vc', rfl⟩ := row_shape hown
          exact ⟨_, rfl, ⟨f, va', vc', rfl, hf, row_down hown (show _ ≤ _ by have := hb1.lt; omega)⟩, ⟨hk.below b', grown_below hgr b', hr.on b' hr.lt⟩, b'.size, fun g ty cs h _ _ => h.on b' h.lt⟩
        · intro A W hC hI hg hb
          have h3 : A.eval (.tmp 3) = .pointer (some ⟨w.heap.size + 1, 0, none⟩) := hb 3 (base_of (by kernel_rfl))
          have g10 := hg 10 29 (by decide) rfl (by simp [Op.operands]) (by kernel_rfl) rfl
          obtain ⟨f, va', vc', h29, hf, hown⟩ := g10
          have hb1 : BlockIs W (w.heap.size + 1) 26 [.slice va l.length vc] := hI 0 (by kernel_rfl)
          have c0 := hb1.cell (j := 0) rfl
          have f0 := hb1.thaw 0
          obtain ⟨hk, hgr, hr⟩ := hC
          have far : ∀ p ty cs, BlockIs W p ty cs → p ≠ w.heap.size + 1 → BlockIs (W.setCell ⟨w.heap.size + 1, 0, none⟩ (.slice va' (filesPut l f).length vc')) p ty cs := fun p ty cs hp hne => hp.far (Ne.symm hne) _
          exact does_skip (w' := W.setCell ⟨w.heap.size + 1, 0, none⟩ (.slice va' (filesPut l f).length vc')) (by simp only [execOp, h3, h29]; simp [go_sem, c0, f0]) ⟨⟨f, va', vc', h29, hf, hb1.set 0 _, row_from hown fun g cs hg h => far g _ _ h (by omega)⟩, ⟨hk.set (by have := HCl.out; omega), grown_far hgr (Nat.le_add_right _ 1), far _ _ _ hr (by omega)⟩, by simp [World.size_setCell], fun p ty cs hp _ hne => far p ty cs hp (hne rfl)⟩
      · intro vs wE hC hI hg
        obtain ⟨f, va', vc', hu, hf, hD, hO⟩ := hg 11 (by decide) (fun k => by simp)
        obtain ⟨hk, hgr, hr⟩ := hC
        clear hg hI hu
        change Exit.inBlock 1 (Exit.then _ _) _ (laidBy _ vs _ 12 _) wE
        simp only [laidBy, if_true, dstAt, List.getElem?_toArray, List.getElem?_cons_succ, List.getElem?_cons_zero, Option.bind_some]
        simp only [Act.put, List.setIfInBounds_toArray, List.set_cons_succ, List.set_cons_zero]
        clear KC GC XR XD HO
        have KC := hid hk
        have GC := hid hgr
        have XR := hid hr
        have XD := hid hD
        have HO := hid hO
        clear hk hgr hr hD hO
        have HM2 : Hid (∀ x ∈ filesPut l f, x.Mild) := fun x hx => (mem_put.1 hx).elim (fun q => by rw [q]; exact hf) (fun q => HM.out x q.1)
        have HL2 : Hid ((filesPut l f).length ≤ k + 1) := (show _ ≤ _ by have := HLk.out; have := put_len l f; omega)
        obtain ⟨l2, hl2⟩ : ∃ x, filesPut l f = x := ⟨_, rfl⟩
        rw [hl2] at XD HO HM2 HL2
        clear hl2 hf HLk HM
        go_wp2
        go_roundw
        case rel => exact ⟨k + 1, l2, va', vc', by omega, by go_num, HL2, HM2, KC, GC, XR, XD, HO⟩
        case measure => simp [intOf]; omega
    · have hl5 : l.length ≤ 5 := by have := HLk.out; omega
      clear HLk
      by_cases h0 : l.length = 0
      · have h0' : (l.length : Int) = 0 := by omega
        obtain rfl : l = [] := List.length_eq_zero_iff.1 h0
        rw [List.length_nil] at XD HO
        clear h0 h0' hl5
        have zr := XR.out.cell (j := 0) rfl
        have yr := XR.out.thaw 0
        have zd := XD.out.cell (j := 0) rfl
        have KL := hid (KC.out.set (b := w.heap.size) (j := 0) (v := .slice va 0 vc) HCl.out)
        have GL := hid (grown_far (b := w.heap.size) (j := 0) (v := .slice va 0 vc) GC.out (Nat.le_refl _))
        have HL := hid (row_down (row_set (b := w.heap.size) (j := 0) (v := .slice va 0 vc) HO.out (by omega)) (show w.heap.size ≤ _ by omega))
        clear KC GC XR XD HO
        go_wp2
        refine bodyPost_ret (v := .agg #[.slice va 0 vc]) (by simp [results, Try.results37, go_sem, zr]) rfl ?_
        exact ⟨va, vc, [], rfl, by simp, HM.out, HL.out, KL.out, GL.out⟩
      · have h0' : ¬ (l.length : Int) = 0 := by omega
        have zd := XD.out.cell (j := 0) rfl
        go_wp2_with fail
        refine Calls.mono (l01Below_any C (l.length : Int) (by omega) (by omega) _ KC.out) ?_
        rintro e w7 ⟨z, rfl, z0, z1, k7, q7⟩
        clear zd
        have K2 := hid (k7)
        have G2 := hid (GC.out.trans q7)
        have R2 := hid (XR.out.cur q7 HCl.out)
        have D2 := hid (XD.out.cur q7 (by have := HCl.out; omega))
        have H2 := hid (row_past HO.out q7 (by have := HCl.out; omega))
        clear k7 q7 KC GC XR XD HO
        have KC := K2
        have GC := G2
        have XR := R2
        have XD := D2
        have HO := H2
        clear K2 G2 R2 D2 H2
        obtain ⟨k, rfl⟩ := Int.eq_ofNat_of_zero_le z0
        have hkl : k < l.length := by omega
        have hkl' : (k : Int) < (l.length : Int) := by omega
        have hk0 : (0 : Int) ≤ (k : Int) := by omega
        clear z0 z1
        go_wp2_with fail
        refine Calls.mono (l01Below_any C 40 (by omega) (by omega) _ KC.out) ?_
        rintro e w8 ⟨y, rfl, y0, y1, k8, q8⟩
        have K2 := hid (k8)
        have G2 := hid (GC.out.trans q8)
        have R2 := hid (XR.out.cur q8 HCl.out)
        have D2 := hid (XD.out.cur q8 (by have := HCl.out; omega))
        have H2 := hid (row_past HO.out q8 (by have := HCl.out; omega))
        clear k8 q8 KC GC XR XD HO
        have KC := K2
        have GC := G2
        have XR := R2
        have XD := D2
        have HO := H2
        clear K2 G2 R2 D2 H2
        obtain ⟨g, hva, hgl, r, hbg⟩ := row_in HO.out (by omega)
        subst hva
        obtain ⟨d, hd⟩ : ∃ d, l[k] = d := ⟨_, rfl⟩
        have hdm : d.Mild := by rw [← hd]; exact HM.out _ (List.getElem_mem hkl)
        have HD := hid hd
        clear hbg r
        by_cases hy0 : y = 0
        · subst hy0
          go_wp2
          refine wp_region_from (N := 115) (by kernel_rfl) (by kernel_rfl) rfl (by kernel_rfl) (fun W => CurAt W C ∧ w.grownBy W (some C) ∧ BlockIs W w.heap.size 26 [.slice none 0 0]) (fun j v _ W => match j with | 0 => v = .pointer (some ⟨w.heap.size + 1, 0, none⟩) | 1 => v = .slice (some ⟨g, 0, none⟩) l.length vc | 2 => v = .int .i64 (k : Int) | 3 => v = .pointer (some ⟨C, 0, none⟩) | 4 => v = .pointer (some ⟨w.heap.size + 1, 0, none⟩) | 5 => v = .slice (some ⟨g, 0, none⟩) l.length vc | 6 => v = .int .i64 (k : Int) | 7 => v = .pointer (some ⟨g, k * 3, none⟩) | 8 => v = .pointer (some ⟨g, k * 3 + 1, none⟩) | 9 => v = .string d.text | 10 => v = .int .i64 (d.text.size : Int) | 11 => v = .int .i64 ((d.text.size : Int) + 1) | 12 => ∃ b : Nat, v = .slice (some ⟨b, 0, none⟩) 2 2 ∧ w.heap.size + 2 ≤ b ∧ BlockIs W b 3 [.int .i64 (-1), .int .i64 ((d.text.size : Int) + 1)] | 13 => ∃ x : Int, v = .int .i64 x | 14 => v = .pointer (some ⟨g, k * 3, none⟩) | 15 => v = .pointer (some ⟨g, k * 3 + 2, none⟩) | 16 => ∃ x : Int, (⟨d.name, d.text, x⟩ : FileD).Mild ∧ BlockIs W (w.heap.size + 1) 26 [.slice (some ⟨g, 0, none⟩) l.length vc] ∧ W.ownsRow (w.heap.size + 2) 77 3 (.slice (some ⟨g, 0, none⟩) l.length vc) l.length (fileCells (l.set k ⟨d.name, d.text, x⟩)) | _ => True) (fun i => i) (fun j i => decide ((j, i) ∈ ([(12, 16)] : List (Nat × Nat)))) (fun i x y => x.heap.size ≤ y.heap.size ∧ ∀ b ty cs, BlockIs x b ty cs → w.heap.size < b → (i = 16 → b ≠ g) → BlockIs y b ty cs) (fun m W => match m with | 0 => BlockIs W (w.heap.size + 1) 26 [.slice (some ⟨g, 0, none⟩) l.length vc] | 1 => W.ownsRow (w.heap.size + 2) 77 3 (.slice (some ⟨g, 0, none⟩) l.length vc) l.length (fileCells l) | _ => True) (fun m k => decide ((m, k) ∈ ([(1, 16)] : List (Nat × Nat)))) ?_ (fun _ => 0) (by kernel_rfl) (fun _ _ => rfl) ?_ ⟨KC.out.below (below_drewN (Below.refl _ _) 1), grown_below GC.out (below_drewN (Below.refl _ _) 1), XR.out.on (below_drewN (Below.refl _ _) 1) XR.out.lt⟩ (fun m => match m with | 0 => XD.out.on (below_drewN (Below.refl _ _) 1) XD.out.lt | 1 => row_below HO.out (below_drewN (Below.refl _ _) 1) | _ + 2 => trivial) ?_ ?_
          · intro i m x y hen hxy hm
            match m, hen, hm with
            | 0, hen, hm =>
              exact hxy.2 _ _ _ hm (by omega) (fun e => by omega)
            | 1, hen, hm =>
              simp at hen
              exact row_from hm fun g' cs hg' h => hxy.2 _ _ _ h (by omega) (fun e => absurd e hen)
            | n + 2, _, _ => exact trivial
          · intro i j v u x y hij hdd hwt hxy hg
            match j, hg with
            | 0, hg => exact hg
            | 1, hg => exact hg
            | 2, hg => exact hg
            | 3, hg => exact hg
            | 4, hg => exact hg
            | 5, hg => exact hg
            | 6, hg => exact hg
            | 7, hg => exact hg
            | 8, hg => exact hg
            | 9, hg => exact hg
            | 10, hg => exact hg
            | 11, hg => exact hg
            | 12, hg =>
              obtain ⟨b, e1, e2, e3⟩ := hg
              simp at hdd
              exact ⟨b, e1, e2, hxy.2 _ _ _ e3 (by omega) (fun e => absurd e hdd)⟩
            | 13, hg => exact hg
            | 14, hg => exact hg
            | 15, hg => exact hg
            | 16, hg =>
              obtain ⟨x, e1, e2, e3⟩ := hg
              exact ⟨x, e1, hxy.2 _ _ _ e2 (by omega) (fun e => by omega), row_from e3 fun g' cs hg' h => hxy.2 _ _ _ h (by omega) (fun e => absurd e hij)⟩
            | n + 17, _ => exact trivial
          · refine ⟨?_, ?_, ?_, ?_, ?_, ?_, ?_, ?_, ?_, ?_, ?_, ?_, ?_, ?_, ?_, ?_, ?_, trivial⟩
            · intro A W hC hI hg hb
              have h3 : A.eval (.tmp 3) = .pointer (some ⟨w.heap.size + 1, 0, none⟩) := hb 3 (base_of (by kernel_rfl))
              exact does_value (v := .pointer (some ⟨w.heap.size + 1, 0, none⟩)) (w' := W) (by simp only [execOp, h3]; simp [go_sem]) ⟨rfl, hC, Nat.le_refl _, fun _ _ _ h _ _ => h⟩
            · intro A W hC hI hg hb
              have h44 : A.eval (.tmp 44) = .pointer (some ⟨w.heap.size + 1, 0, none⟩) := hg 0 44 (by decide) rfl (by simp [Op.operands]) (by kernel_rfl) rfl
              have hb1 : BlockIs W (w.heap.size + 1) 26 [.slice (some ⟨g, 0, none⟩) l.length vc] := hI 0 (by kernel_rfl)
              have c0 := hb1.cell (j := 0) rfl
              exact does_value (v := .slice (some ⟨g, 0, none⟩) l.length vc) (w' := W) (by simp only [execOp, h44]; simp [go_sem, c0]) ⟨rfl, hC, Nat.le_refl _, fun _ _ _ h _ _ => h⟩
            · intro A W hC hI hg hb
              have h6 : A.eval (.tmp 6) = .int .i64 (k : Int) := hb 6 (base_of (by kernel_rfl))
              exact does_value (v := .int .i64 (k : Int)) (w' := W) (by simp only [execOp, h6]; simp [go_sem]) ⟨rfl, hC, Nat.le_refl _, fun _ _ _ h _ _ => h⟩
            · intro A W hC hI hg hb
              have h0 : A.eval (.tmp 0) = .pointer (some ⟨C, 0, none⟩) := hb 0 (base_of (by kernel_rfl))
              exact does_value (v := .pointer (some ⟨C, 0, none⟩)) (w' := W) (by simp only [execOp, h0]; simp [go_sem]) ⟨rfl, hC, Nat.le_refl _, fun _ _ _ h _ _ => h⟩
            · intro A W hC hI hg hb
              have h3 : A.eval (.tmp 3) = .pointer (some ⟨w.heap.size + 1, 0, none⟩) := hb 3 (base_of (by kernel_rfl))
              exact does_value (v := .pointer (some ⟨w.heap.size + 1, 0, none⟩)) (w' := W) (by simp only [execOp, h3]; simp [go_sem]) ⟨rfl, hC, Nat.le_refl _, fun _ _ _ h _ _ => h⟩
            · intro A W hC hI hg hb
              have h48 : A.eval (.tmp 48) = .pointer (some ⟨w.heap.size + 1, 0, none⟩) := hg 4 48 (by decide) rfl (by simp [Op.operands]) (by kernel_rfl) rfl
              have hb1 : BlockIs W (w.heap.size + 1) 26 [.slice (some ⟨g, 0, none⟩) l.length vc] := hI 0 (by kernel_rfl)
              have c0 := hb1.cell (j := 0) rfl
              exact does_value (v := .slice (some ⟨g, 0, none⟩) l.length vc) (w' := W) (by simp only [execOp, h48]; simp [go_sem, c0]) ⟨rfl, hC, Nat.le_refl _, fun _ _ _ h _ _ => h⟩
            · intro A W hC hI hg hb
              have h6 : A.eval (.tmp 6) = .int .i64 (k : Int) := hb 6 (base_of (by kernel_rfl))
              exact does_value (v := .int .i64 (k : Int)) (w' := W) (by simp only [execOp, h6]; simp [go_sem]) ⟨rfl, hC, Nat.le_refl _, fun _ _ _ h _ _ => h⟩
            · intro A W hC hI hg hb
              have h49 : A.eval (.tmp 49) = .slice (some ⟨g, 0, none⟩) l.length vc := hg 5 49 (by decide) rfl (by simp [Op.operands]) (by kernel_rfl) rfl
              have h50 : A.eval (.tmp 50) = .int .i64 (k : Int) := hg 6 50 (by decide) rfl (by simp [Op.operands]) (by kernel_rfl) rfl
              simp [go_sem] at h49 h50
              exact does_value (v := .pointer (some ⟨g, k * 3, none⟩)) (w' := W) (by simp [execOp, go_sem, h49, h50, hkl', hk0]) ⟨rfl, hC, Nat.le_refl _, fun _ _ _ h _ _ => h⟩
            · intro A W hC hI hg hb
              have h51 : A.eval (.tmp 51) = .pointer (some ⟨g, k * 3, none⟩) := hg 7 51 (by decide) rfl (by simp [Op.operands]) (by kernel_rfl) rfl
              exact does_value (v := .pointer (some ⟨g, k * 3 + 1, none⟩)) (w' := W) (by simp only [execOp, h51]; simp [go_sem]) ⟨rfl, hC, Nat.le_refl _, fun _ _ _ h _ _ => h⟩
            · intro A W hC hI hg hb
              have h52 : A.eval (.tmp 52) = .pointer (some ⟨g, k * 3 + 1, none⟩) := hg 8 52 (by decide) rfl (by simp [Op.operands]) (by kernel_rfl) rfl
              have hrow : W.ownsRow (w.heap.size + 2) 77 3 (.slice (some ⟨g, 0, none⟩) l.length vc) l.length (fileCells l) := hI 1 (by kernel_rfl)
              obtain ⟨g', hg', _, r, hbg⟩ := row_in hrow (by omega)
              cases hg'
              have hc := hbg.cell (j := k * 3 + 1) (row_at fileEnc 3 (fun _ => rfl) l r k 1 hkl (by omega))
              rw [HD.out] at hc
              exact does_value (v := .string d.text) (w' := W) (by simp only [execOp, h52]; simp [go_sem, hc]) ⟨rfl, hC, Nat.le_refl _, fun _ _ _ h _ _ => h⟩
            · intro A W hC hI hg hb
              have h53 : A.eval (.tmp 53) = .string d.text := hg 9 53 (by decide) rfl (by simp [Op.operands, Call.operands]) (by kernel_rfl) rfl
              exact does_value (v := .int .i64 (d.text.size : Int)) (w' := W) (by simp [go_sem] at h53; simp [go_sem, h53]) ⟨rfl, hC, Nat.le_refl _, fun _ _ _ h _ _ => h⟩
            · intro A W hC hI hg hb
              have h54 : A.eval (.tmp 54) = .int .i64 (d.text.size : Int) := hg 10 54 (by decide) rfl (by simp [Op.operands]) (by kernel_rfl) rfl
              have hw : IntKind.i64.wrap ((d.text.size : Int) + 1) = (d.text.size : Int) + 1 := by rw [IntKind.wrap_i64]; have := hdm.2; omega
              exact does_value (v := .int .i64 ((d.text.size : Int) + 1)) (w' := W) (by simp [go_sem] at h54; simp [go_sem, h54, hw]) ⟨rfl, hC, Nat.le_refl _, fun _ _ _ h _ _ => h⟩
            · intro A W hC hI hg hb
              have h55 : A.eval (.tmp 55) = .int .i64 ((d.text.size : Int) + 1) := hg 11 55 (by decide) rfl (by simp [Op.operands]) (by kernel_rfl) rfl
              have hb1 : BlockIs W (w.heap.size + 1) 26 [.slice (some ⟨g, 0, none⟩) l.length vc] := hI 0 (by kernel_rfl)
              simp [go_sem] at h55
              have ba := below_more (Below.refl W.heap.size W) (.cells #[.int .i64 (-1), .int .i64 ((d.text.size : Int) + 1)] 3)
              obtain ⟨hk, hgr, hr⟩ := hC
              exact does_value (v := .slice (some ⟨W.heap.size, 0, none⟩) 2 2) (w' := W.alloc (.cells #[.int .i64 (-1), .int .i64 ((d.text.size : Int) + 1)] 3)) (by simp [execOp, go_sem, h55]) ⟨⟨_, rfl, by have := hb1.lt; omega, heap_alloc_new W _⟩, ⟨hk.below ba, grown_below hgr ba, hr.on ba hr.lt⟩, ba.size, fun b ty cs h _ _ => h.on ba h.lt⟩
            · intro A W hC hI hg hb
              have h47 : A.eval (.tmp 47) = .pointer (some ⟨C, 0, none⟩) := hg 3 47 (by decide) rfl (by simp [Op.operands, Call.operands]) (by kernel_rfl) rfl
              have g12 := hg 12 56 (by decide) rfl (by simp [Op.operands, Call.operands]) (by kernel_rfl) rfl
              obtain ⟨b, h56, hbl, hb⟩ := g12
              simp [go_sem] at h47 h56
              refine does_enter (f := 64) (args := #[.pointer (some ⟨C, 0, none⟩), .slice (some ⟨b, 0, none⟩) 2 2]) (w' := W) (by simp [go_sem, h47, h56]) ?_
              obtain ⟨hk, hgr, hr⟩ := hC
              refine (l01PickInt_any C b [-1, (d.text.size : Int) + 1] 2 (by simp) (by simp) (by have := HCl.out; omega) W hk (fun j hj => by match j, hj with | 0, _ => exact hb.cell (j := 0) rfl | 1, _ => exact hb.cell (j := 1) rfl)).mono ?_
              rintro e W' ⟨j, hj, rfl, k', q'⟩
              exact ⟨_, rfl, ⟨_, rfl⟩, ⟨k', hgr.trans q', hr.cur q' HCl.out⟩, q'.size, fun b ty cs h hg _ => h.cur q' (by have := HCl.out; omega)⟩
            · intro A W hC hI hg hb
              have h45 : A.eval (.tmp 45) = .slice (some ⟨g, 0, none⟩) l.length vc := hg 1 45 (by decide) rfl (by simp [Op.operands]) (by kernel_rfl) rfl
              have h46 : A.eval (.tmp 46) = .int .i64 (k : Int) := hg 2 46 (by decide) rfl (by simp [Op.operands]) (by kernel_rfl) rfl
              simp [go_sem] at h45 h46
              exact does_value (v := .pointer (some ⟨g, k * 3, none⟩)) (w' := W) (by simp [execOp, go_sem, h45, h46, hkl', hk0]) ⟨rfl, hC, Nat.le_refl _, fun _ _ _ h _ _ => h⟩
            · intro A W hC hI hg hb
              have h58 : A.eval (.tmp 58) = .pointer (some ⟨g, k * 3, none⟩) := hg 14 58 (by decide) rfl (by simp [Op.operands]) (by kernel_rfl) rfl
              exact does_value (v := .pointer (some ⟨g, k * 3 + 2, none⟩)) (w' := W) (by simp only [execOp, h58]; simp [go_sem]) ⟨rfl, hC, Nat.le_refl _, fun _ _ _ h _ _ => h⟩
            · intro A W hC hI hg hb
              have h59 : A.eval (.tmp 59) = .pointer (some ⟨g, k * 3 + 2, none⟩) := hg 15 59 (by decide) rfl (by simp [Op.operands]) (by kernel_rfl) rfl
              have g13 := hg 13 57 (by decide) rfl (by simp [Op.operands]) (by kernel_rfl) rfl
              obtain ⟨x, h57⟩ := g13
              have hrow : W.ownsRow (w.heap.size + 2) 77 3 (.slice (some ⟨g, 0, none⟩) l.length vc) l.length (fileCells l) := hI 1 (by kernel_rfl)
              have hb1 : BlockIs W (w.heap.size + 1) 26 [.slice (some ⟨g, 0, none⟩) l.length vc] := hI 0 (by kernel_rfl)
              obtain ⟨g', hg', _, r, hbg⟩ := row_in hrow (by omega)
              cases hg'
              obtain ⟨hk, hgr, hr⟩ := hC
              have hc := hbg.cell (j := k * 3 + 2) (row_at fileEnc 3 (fun _ => rfl) l r k 2 hkl (by omega))
              have hf9 := hbg.thaw (k * 3 + 2)
              have hw9 := row_write (i := k * 3 + 2) (u := .int .i64 x) hrow
              have hp9 := cells_put l k 2 hkl (by omega) ⟨d.name, d.text, x⟩ (.int .i64 x) (by rw [HD.out]; rfl)
              rw [hp9] at hw9
              have far : ∀ p ty cs, BlockIs W p ty cs → p ≠ g → BlockIs (W.setCell ⟨g, k * 3 + 2, none⟩ (.int .i64 x)) p ty cs := fun p ty cs hp hne => hp.far (Ne.symm hne) _
              exact does_skip (w' := W.setCell ⟨g, k * 3 + 2, none⟩ (.int .i64 x)) (by simp only [execOp, h59, h57]; simp [go_sem, hc, hf9]) ⟨⟨x, hdm, far _ _ _ hb1 (by omega), hw9⟩, ⟨hk.set (by have := HCl.out; omega), grown_far hgr (by omega), far _ _ _ hr (by omega)⟩, by simp [World.size_setCell], fun p ty cs hp _ hne => far p ty cs hp (hne rfl)⟩
          · intro vs wE hC hI hg
            obtain ⟨x, hf, hD, hO⟩ := hg 16 (by decide) (fun k => by simp)
            obtain ⟨hk, hgr, hr⟩ := hC
            clear hg hI
            change Exit.inBlock 2 (Exit.then _ _) _ (laidBy _ vs _ 17 _) wE
            simp only [laidBy, if_true, dstAt, List.getElem?_toArray, List.getElem?_cons_succ, List.getElem?_cons_zero, Option.bind_some]
            simp only [Act.put, List.setIfInBounds_toArray, List.set_cons_succ, List.set_cons_zero]
            clear KC GC XR XD HO
            have KC := hid hk
            have GC := hid hgr
            have XR := hid hr
            have XD := hid hD
            have HO := hid hO
            clear hk hgr hr hD hO
            have HM2 := hid (mild_set (k := k) HM.out hf)
            have hl9 : (l.set k ⟨d.name, d.text, x⟩).length = l.length := by simp
            rw [← hl9] at XD HO
            clear HM
            have HM := HM2
            clear HM2
            obtain ⟨l2, hl2⟩ : ∃ q, l.set k ⟨d.name, d.text, x⟩ = q := ⟨_, rfl⟩
            rw [hl2] at XD HO HM hl9
            have hl95 : l2.length ≤ 5 := by omega
            clear hl9 hl2 h0 h0' hl5 hkl'
            have zr := XR.out.cell (j := 0) rfl
            have yr := XR.out.thaw 0
            have zd := XD.out.cell (j := 0) rfl
            have KL := hid (KC.out.set (b := w.heap.size) (j := 0) (v := .slice (some ⟨g, 0, none⟩) l2.length vc) HCl.out)
            have GL := hid (grown_far (b := w.heap.size) (j := 0) (v := .slice (some ⟨g, 0, none⟩) l2.length vc) GC.out (Nat.le_refl _))
            have HL := hid (row_down (row_set (b := w.heap.size) (j := 0) (v := .slice (some ⟨g, 0, none⟩) l2.length vc) HO.out (by omega)) (show w.heap.size ≤ _ by omega))
            clear KC GC XR XD HO
            go_wp2
            refine bodyPost_ret (v := .agg #[.slice (some ⟨g, 0, none⟩) l2.length vc]) (by simp [results, Try.results37, go_sem, zr]) rfl ?_
            exact ⟨(some ⟨g, 0, none⟩), vc, l2, rfl, by omega, HM.out, HL.out, KL.out, GL.out⟩
        by_cases hy1 : y = 1
        · subst hy1
          clear hy0
          go_wp2
          refine wp_region_from (N := 115) (by kernel_rfl) (by kernel_rfl) rfl (by kernel_rfl) (fun W => CurAt W C ∧ w.grownBy W (some C) ∧ BlockIs W w.heap.size 26 [.slice none 0 0]) (fun j v u W => match j with | 0 => v = .pointer (some ⟨w.heap.size + 1, 0, none⟩) | 1 => v = .slice (some ⟨g, 0, none⟩) l.length vc | 2 => v = .pointer (some ⟨w.heap.size + 1, 0, none⟩) | 3 => v = .slice (some ⟨g, 0, none⟩) l.length vc | 4 => v = .int .i64 (k : Int) | 5 => v = .pointer (some ⟨g, k * 3, none⟩) | 6 => ∃ f : FileD, v = .agg #[.string f.name, .string f.text, .int .i64 f.kept] ∧ f.Mild | 7 => ∃ (b : Nat) (f : FileD), v = .slice (some ⟨b, 0, none⟩) 1 1 ∧ f.Mild ∧ w.heap.size + 2 ≤ b ∧ BlockIs W b 77 (fileEnc f) | 8 => ∃ (va' : Option Addr) (vc' : Nat) (f : FileD), v = .slice va' (l.length + 1) vc' ∧ f.Mild ∧ W.ownsRow (w.heap.size + 2) 77 3 (.slice va' (l.length + 1) vc') (l.length + 1) (fileCells (l ++ [f])) | 9 => v = .pointer (some ⟨w.heap.size + 1, 0, none⟩) | 10 => ∃ (va' : Option Addr) (vc' : Nat) (f : FileD), u = .slice va' (l.length + 1) vc' ∧ f.Mild ∧ BlockIs W (w.heap.size + 1) 26 [.slice va' (l.length + 1) vc'] ∧ W.ownsRow (w.heap.size + 2) 77 3 (.slice va' (l.length + 1) vc') (l.length + 1) (fileCells (l ++ [f])) | _ => True) (fun i => if i = 10 then 8 else i) (fun j i => decide ((j, i) ∈ ([(7, 8)] : List (Nat × Nat)))) (fun i x y => x.heap.size ≤ y.heap.size ∧ ∀ b ty cs, BlockIs x b ty cs → w.heap.size < b → (i = 8 → ty ≠ 77) → (i = 10 → b ≠ w.heap.size + 1) → BlockIs y b ty cs) (fun m W => match m with | 0 => BlockIs W (w.heap.size + 1) 26 [.slice (some ⟨g, 0, none⟩) l.length vc] | 1 => W.ownsRow (w.heap.size + 2) 77 3 (.slice (some ⟨g, 0, none⟩) l.length vc) l.length (fileCells l) | _ => True) (fun m k => decide ((m, k) ∈ ([(0, 10), (1, 8)] : List (Nat × Nat)))) ?_ (fun i => if i = 10 then 70 else 0) (by kernel_rfl) (fun i hi => by have : 11 ≤ i := hi; simp; omega) ?_ ⟨KC.out.below (below_drewN (Below.refl _ _) 1), grown_below GC.out (below_drewN (Below.refl _ _) 1), XR.out.on (below_drewN (Below.refl _ _) 1) XR.out.lt⟩ (fun m => match m with | 0 => XD.out.on (below_drewN (Below.refl _ _) 1) XD.out.lt | 1 => row_below HO.out (below_drewN (Below.refl _ _) 1) | _ + 2 => trivial) ?_ ?_
          · intro i m x y hen hxy hm
            match m, hen, hm with
            | 0, hen, hm =>
              simp at hen
              exact hxy.2 _ _ _ hm (by omega) (fun _ => by decide) (fun e => absurd e hen)
            | 1, hen, hm =>
              simp at hen
              exact row_from hm fun g' cs hg' h => hxy.2 _ _ _ h (by omega) (fun e => absurd e hen) (fun _ => by omega)
            | n + 2, _, _ => exact trivial
          · intro i j v u x y hij hdd hwt hxy hg
            match j, hg with
            | 0, hg => exact hg
            | 1, hg => exact hg
            | 2, hg => exact hg
            | 3, hg => exact hg
            | 4, hg => exact hg
            | 5, hg => exact hg
            | 6, hg => exact hg
            | 7, hg =>
              obtain ⟨b, f, e1, e2, e3, e4⟩ := hg
              simp at hdd
              exact ⟨b, f, e1, e2, e3, hxy.2 _ _ _ e4 (by omega) (fun e => absurd e hdd) (fun _ => by omega)⟩
            | 8, hg =>
              obtain ⟨va', vc', f, e1, e2, e3⟩ := hg
              exact ⟨va', vc', f, e1, e2, row_from e3 fun g' cs hg' h => hxy.2 _ _ _ h (by omega) (fun e => absurd e hij) (fun _ => by omega)⟩
            | 9, hg => exact hg
            | 10, hg =>
              obtain ⟨va', vc', f, e1, e2, e3, e4⟩ := hg
              have h8 : i ≠ 8 := by rintro rfl; exact Bool.noConfusion (hwt.symm.trans (by kernel_rfl : waitsB _ 10 8 = true))
              exact ⟨va', vc', f, e1, e2, hxy.2 _ _ _ e3 (by omega) (fun _ => by decide) (fun e => absurd e hij), row_from e4 fun g' cs hg' h => hxy.2 _ _ _ h (by omega) (fun e => absurd e h8) (fun _ => by omega)⟩
            | n + 11, _ => exact trivial
          · refine ⟨?_, ?_, ?_, ?_, ?_, ?_, ?_, ?_, ?_, ?_, ?_, trivial⟩
            · intro A W hC hI hg hb
              have h3 : A.eval (.tmp 3) = .pointer (some ⟨w.heap.size + 1, 0, none⟩) := hb 3 (base_of (by kernel_rfl))
              exact does_value (v := .pointer (some ⟨w.heap.size + 1, 0, none⟩)) (w' := W) (by simp only [execOp, h3]; simp [go_sem]) ⟨rfl, hC, Nat.le_refl _, fun _ _ _ h _ _ _ => h⟩
            · intro A W hC hI hg hb
              have h62 : A.eval (.tmp 62) = .pointer (some ⟨w.heap.size + 1, 0, none⟩) := hg 0 62 (by decide) rfl (by simp [Op.operands]) (by kernel_rfl) rfl
              have hb1 : BlockIs W (w.heap.size + 1) 26 [.slice (some ⟨g, 0, none⟩) l.length vc] := hI 0 (by kernel_rfl)
              have c0 := hb1.cell (j := 0) rfl
              exact does_value (v := .slice (some ⟨g, 0, none⟩) l.length vc) (w' := W) (by simp only [execOp, h62]; simp [go_sem, c0]) ⟨rfl, hC, Nat.le_refl _, fun _ _ _ h _ _ _ => h⟩
            · intro A W hC hI hg hb
              have h3 : A.eval (.tmp 3) = .pointer (some ⟨w.heap.size + 1, 0, none⟩) := hb 3 (base_of (by kernel_rfl))
              exact does_value (v := .pointer (some ⟨w.heap.size + 1, 0, none⟩)) (w' := W) (by simp only [execOp, h3]; simp [go_sem]) ⟨rfl, hC, Nat.le_refl _, fun _ _ _ h _ _ _ => h⟩
            · intro A W hC hI hg hb
              have h64 : A.eval (.tmp 64) = .pointer (some ⟨w.heap.size + 1, 0, none⟩) := hg 2 64 (by decide) rfl (by simp [Op.operands]) (by kernel_rfl) rfl
              have hb1 : BlockIs W (w.heap.size + 1) 26 [.slice (some ⟨g, 0, none⟩) l.length vc] := hI 0 (by kernel_rfl)
              have c0 := hb1.cell (j := 0) rfl
              exact does_value (v := .slice (some ⟨g, 0, none⟩) l.length vc) (w' := W) (by simp only [execOp, h64]; simp [go_sem, c0]) ⟨rfl, hC, Nat.le_refl _, fun _ _ _ h _ _ _ => h⟩
            · intro A W hC hI hg hb
              have h6 : A.eval (.tmp 6) = .int .i64 (k : Int) := hb 6 (base_of (by kernel_rfl))
              exact does_value (v := .int .i64 (k : Int)) (w' := W) (by simp only [execOp, h6]; simp [go_sem]) ⟨rfl, hC, Nat.le_refl _, fun _ _ _ h _ _ _ => h⟩
            · intro A W hC hI hg hb
              have h65 : A.eval (.tmp 65) = .slice (some ⟨g, 0, none⟩) l.length vc := hg 3 65 (by decide) rfl (by simp [Op.operands]) (by kernel_rfl) rfl
              have h66 : A.eval (.tmp 66) = .int .i64 (k : Int) := hg 4 66 (by decide) rfl (by simp [Op.operands]) (by kernel_rfl) rfl
              simp [go_sem] at h65 h66
              exact does_value (v := .pointer (some ⟨g, k * 3, none⟩)) (w' := W) (by simp [execOp, go_sem, h65, h66, hkl', hk0]) ⟨rfl, hC, Nat.le_refl _, fun _ _ _ h _ _ _ => h⟩
            · intro A W hC hI hg hb
              have h67 : A.eval (.tmp 67) = .pointer (some ⟨g, k * 3, none⟩) := hg 5 67 (by decide) rfl (by simp [Op.operands]) (by kernel_rfl) rfl
              have hrow : W.ownsRow (w.heap.size + 2) 77 3 (.slice (some ⟨g, 0, none⟩) l.length vc) l.length (fileCells l) := hI 1 (by kernel_rfl)
              obtain ⟨g', hg', _, r, hbg⟩ := row_in hrow (by omega)
              cases hg'
              have c0 := hbg.cell (j := k * 3) (row_at fileEnc 3 (fun _ => rfl) l r k 0 hkl (by omega))
              have c1 := hbg.cell (j := k * 3 + 1) (row_at fileEnc 3 (fun _ => rfl) l r k 1 hkl (by omega))
              have c2 := hbg.cell (j := k * 3 + 2) (row_at fileEnc 3 (fun _ => rfl) l r k 2 hkl (by omega))
              rw [HD.out] at c0 c1 c2
              exact does_value (v := .agg #[.string d.name, .string d.text, .int .i64 d.kept]) (w' := W) (by simp only [execOp, h67]; simp [go_sem, c0, c1, c2]) ⟨⟨d, rfl, hdm⟩, hC, Nat.le_refl _, fun _ _ _ h _ _ _ => h⟩
            · intro A W hC hI hg hb
              have g6 := hg 6 68 (by decide) rfl (by simp [Op.operands]) (by kernel_rfl) rfl
              obtain ⟨f, h68, hf⟩ := g6
              simp [go_sem] at h68
              have hb1 : BlockIs W (w.heap.size + 1) 26 [.slice (some ⟨g, 0, none⟩) l.length vc] := hI 0 (by kernel_rfl)
              have ba := below_more (Below.refl W.heap.size W) (.cells #[.string f.name, .string f.text, .int .i64 f.kept] 77)
              obtain ⟨hk, hgr, hr⟩ := hC
              exact does_value (v := .slice (some ⟨W.heap.size, 0, none⟩) 1 1) (w' := W.alloc (.cells #[.string f.name, .string f.text, .int .i64 f.kept] 77)) (by simp [execOp, go_sem, h68]) ⟨⟨_, f, rfl, hf, by have := hb1.lt; omega, heap_alloc_new W _⟩, ⟨hk.below ba, grown_below hgr ba, hr.on ba hr.lt⟩, ba.size, fun b ty cs h _ _ _ => h.on ba h.lt⟩
            · intro A W hC hI hg hb
              have h63 : A.eval (.tmp 63) = .slice (some ⟨g, 0, none⟩) l.length vc := hg 1 63 (by decide) rfl (by simp [Op.operands, Call.operands]) (by kernel_rfl) rfl
              have g7 := hg 7 69 (by decide) rfl (by simp [Op.operands, Call.operands]) (by kernel_rfl) rfl
              obtain ⟨b, f, h69, hf, hbl, hb⟩ := g7
              have hb1 : BlockIs W (w.heap.size + 1) 26 [.slice (some ⟨g, 0, none⟩) l.length vc] := hI 0 (by kernel_rfl)
              have hrow : W.ownsRow (w.heap.size + 2) 77 3 (.slice (some ⟨g, 0, none⟩) l.length vc) l.length (fileCells l) := hI 1 (by kernel_rfl)
              obtain ⟨hk, hgr, hr⟩ := hC
              obtain ⟨v', W', hrn, h2, h3⟩ := append_file (by omega) (by have := hb1.lt; omega) hrow hb
              obtain ⟨va', vc', rfl⟩ := row_shape h2
              rw [← fileCells_snoc] at h2
              have hown : ∀ j, (Value.slice (some ⟨g, 0, none⟩) l.length vc).ownBlock = some j → w.heap.size + 2 ≤ j := fun j hj => (row_block hrow hj).elim fun _ h => h.2
              refine does_value (v := .slice va' (l.length + 1) vc') (w' := W') (by simp only [execOp, resolve, invoke, builtin, Sem.run_bind, Sem.run_pure, Result.andThen_ok, List.map_toArray, List.map_cons, List.map_nil, h63, h69, hrn]) ⟨⟨va', vc', f, rfl, hf, h2⟩, ⟨hk.kept h3 (fun j hj => by have := hown j hj; have := HCl.out; omega), grown_row hgr h3 (fun j hj => by have := hown j hj; omega), ?_⟩, h3.size, fun p ty cs hp _ hne _ => ?_⟩
              · unfold BlockIs
                rw [h3.block _ hr.lt (fun e => by have := hown _ e.symm; omega)]
                exact hr
              · have hpg : some p ≠ (Value.slice (some ⟨g, 0, none⟩) l.length vc).ownBlock := by
                  intro e
                  obtain ⟨cs', hb', _⟩ := row_block hrow e.symm
                  exact hne rfl (block_one hp hb').1
                unfold BlockIs
                rw [h3.block p hp.lt hpg]
                exact hp
            · intro A W hC hI hg hb
              have h3 : A.eval (.tmp 3) = .pointer (some ⟨w.heap.size + 1, 0, none⟩) := hb 3 (base_of (by kernel_rfl))
              exact does_value (v := .pointer (some ⟨w.heap.size + 1, 0, none⟩)) (w' := W) (by simp only [execOp, h3]; simp [go_sem]) ⟨rfl, hC, Nat.le_refl _, fun _ _ _ h _ _ _ => h⟩
            · intro A W hC hI hg hb
              have h71 : A.eval (.tmp 71) = .pointer (some ⟨w.heap.size + 1, 0, none⟩) := hg 9 71 (by decide) rfl (by simp [Op.operands]) (by kernel_rfl) rfl
              have g8 := hg 8 70 (by decide) rfl (by simp [Op.operands]) (by kernel_rfl) rfl
              obtain ⟨va', vc', f, h70, hf, hrow⟩ := g8
              have hb1 : BlockIs W (w.heap.size + 1) 26 [.slice (some ⟨g, 0, none⟩) l.length vc] := hI 0 (by kernel_rfl)
              have c0 := hb1.cell (j := 0) rfl
              have f0 := hb1.thaw 0
              obtain ⟨hk, hgr, hr⟩ := hC
              have far : ∀ p ty cs, BlockIs W p ty cs → p ≠ w.heap.size + 1 → BlockIs (W.setCell ⟨w.heap.size + 1, 0, none⟩ (.slice va' (l.length + 1) vc')) p ty cs := fun p ty cs hp hne => hp.far (Ne.symm hne) _
              exact does_skip (w' := W.setCell ⟨w.heap.size + 1, 0, none⟩ (.slice va' (l.length + 1) vc')) (by simp only [execOp, h71, h70]; simp [go_sem, c0, f0]) ⟨⟨va', vc', f, h70, hf, hb1.set 0 _, row_from hrow fun g' cs hg' h => far g' _ _ h (by omega)⟩, ⟨hk.set (by have := HCl.out; omega), grown_far hgr (Nat.le_add_right _ 1), far _ _ _ hr (by omega)⟩, by simp [World.size_setCell], fun p ty cs hp _ _ hne => far p ty cs hp (hne rfl)⟩
          · intro vs wE hC hI hg
            obtain ⟨va', vc', f, hu, hf, hD, hO⟩ := hg 10 (by decide) (fun k => by simp)
            obtain ⟨hk, hgr, hr⟩ := hC
            clear hg hI hu
            change Exit.inBlock 2 (Exit.then _ _) _ (laidBy _ vs _ 11 _) wE
            simp only [laidBy, if_true, dstAt, List.getElem?_toArray, List.getElem?_cons_succ, List.getElem?_cons_zero, Option.bind_some]
            simp only [Act.put, List.setIfInBounds_toArray, List.set_cons_succ, List.set_cons_zero]
            clear KC GC XR XD HO
            have KC := hid hk
            have GC := hid hgr
            have XR := hid hr
            have XD := hid hD
            have HO := hid hO
            clear hk hgr hr hD hO
            have HM2 : Hid (∀ x ∈ l ++ [f], x.Mild) := fun x hx => (List.mem_append.1 hx).elim (HM.out x) fun q => by rw [List.mem_singleton.1 q]; exact hf
            have HL9 : (l ++ [f]).length = l.length + 1 := by simp
            rw [← HL9] at XD HO
            obtain ⟨l2, hl2⟩ : ∃ q, l ++ [f] = q := ⟨_, rfl⟩
            rw [hl2] at XD HO HM2 HL9
            clear HM
            have HM := HM2
            clear HM2 hl2
            have hl95 : l2.length ≤ 6 := by omega
            clear HL9 h0 h0' hl5 hkl'
            have zr := XR.out.cell (j := 0) rfl
            have yr := XR.out.thaw 0
            have zd := XD.out.cell (j := 0) rfl
            have KL := hid (KC.out.set (b := w.heap.size) (j := 0) (v := .slice va' l2.length vc') HCl.out)
            have GL := hid (grown_far (b := w.heap.size) (j := 0) (v := .slice va' l2.length vc') GC.out (Nat.le_refl _))
            have HL := hid (row_down (row_set (b := w.heap.size) (j := 0) (v := .slice va' l2.length vc') HO.out (by omega)) (show w.heap.size ≤ _ by omega))
            clear KC GC XR XD HO
            go_wp2
            refine bodyPost_ret (v := .agg #[.slice va' l2.length vc']) (by simp [results, Try.results37, go_sem, zr]) rfl ?_
            exact ⟨va', vc', l2, rfl, by omega, HM.out, HL.out, KL.out, GL.out⟩
        by_cases hy2 : y = 2
        · subst hy2
          clear hy0
          clear hy1
          go_wp2
          refine wp_region_from (N := 115) (by kernel_rfl) (by kernel_rfl) rfl (by kernel_rfl) (fun W => CurAt W C ∧ w.grownBy W (some C) ∧ BlockIs W w.heap.size 26 [.slice none 0 0]) (fun j v _ W => match j with | 0 => v = .pointer (some ⟨w.heap.size + 1, 0, none⟩) | 1 => v = .slice (some ⟨g, 0, none⟩) l.length vc | 2 => v = .int .i64 (k : Int) | 3 => v = .pointer (some ⟨C, 0, none⟩) | 4 => ∃ b : Nat, v = .slice (some ⟨b, 0, none⟩) 3 3 ∧ w.heap.size + 2 ≤ b ∧ BlockIs W b 9 [.string ⟨#[]⟩, .string ⟨#[49, 50, 51, 52, 53, 54, 55, 56]⟩, .string ⟨#[49, 50, 51, 52, 53, 54, 55, 56, 57]⟩] | 5 => ∃ x : ByteArray, v = .string x ∧ x.size ≤ 9 | 6 => v = .pointer (some ⟨g, k * 3, none⟩) | 7 => v = .pointer (some ⟨g, k * 3, none⟩) | 8 => ∃ x : ByteArray, (⟨x, d.text, d.kept⟩ : FileD).Mild ∧ BlockIs W (w.heap.size + 1) 26 [.slice (some ⟨g, 0, none⟩) l.length vc] ∧ W.ownsRow (w.heap.size + 2) 77 3 (.slice (some ⟨g, 0, none⟩) l.length vc) l.length (fileCells (l.set k ⟨x, d.text, d.kept⟩)) | _ => True) (fun i => i) (fun j i => decide ((j, i) ∈ ([(4, 8)] : List (Nat × Nat)))) (fun i x y => x.heap.size ≤ y.heap.size ∧ ∀ b ty cs, BlockIs x b ty cs → w.heap.size < b → (i = 8 → b ≠ g) → BlockIs y b ty cs) (fun m W => match m with | 0 => BlockIs W (w.heap.size + 1) 26 [.slice (some ⟨g, 0, none⟩) l.length vc] | 1 => W.ownsRow (w.heap.size + 2) 77 3 (.slice (some ⟨g, 0, none⟩) l.length vc) l.length (fileCells l) | _ => True) (fun m k => decide ((m, k) ∈ ([(1, 8)] : List (Nat × Nat)))) ?_ (fun _ => 0) (by kernel_rfl) (fun _ _ => rfl) ?_ ⟨KC.out.below (below_drewN (Below.refl _ _) 1), grown_below GC.out (below_drewN (Below.refl _ _) 1), XR.out.on (below_drewN (Below.refl _ _) 1) XR.out.lt⟩ (fun m => match m with | 0 => XD.out.on (below_drewN (Below.refl _ _) 1) XD.out.lt | 1 => row_below HO.out (below_drewN (Below.refl _ _) 1) | _ + 2 => trivial) ?_ ?_
          · intro i m x y hen hxy hm
            match m, hen, hm with
            | 0, hen, hm =>
              exact hxy.2 _ _ _ hm (by omega) (fun e => by omega)
            | 1, hen, hm =>
              simp at hen
              exact row_from hm fun g' cs hg' h => hxy.2 _ _ _ h (by omega) (fun e => absurd e hen)
            | n + 2, _, _ => exact trivial
          · intro i j v u x y hij hdd hwt hxy hg
            match j, hg with
            | 0, hg => exact hg
            | 1, hg => exact hg
            | 2, hg => exact hg
            | 3, hg => exact hg
            | 4, hg =>
              obtain ⟨b, e1, e2, e3⟩ := hg
              simp at hdd
              exact ⟨b, e1, e2, hxy.2 _ _ _ e3 (by omega) (fun e => absurd e hdd)⟩
            | 5, hg => exact hg
            | 6, hg => exact hg
            | 7, hg => exact hg
            | 8, hg =>
              obtain ⟨x, e1, e2, e3⟩ := hg
              exact ⟨x, e1, hxy.2 _ _ _ e2 (by omega) (fun e => by omega), row_from e3 fun g' cs hg' h => hxy.2 _ _ _ h (by omega) (fun e => absurd e hij)⟩
            | n + 9, _ => exact trivial
          · refine ⟨?_, ?_, ?_, ?_, ?_, ?_, ?_, ?_, ?_, trivial⟩
            · intro A W hC hI hg hb
              have h3 : A.eval (.tmp 3) = .pointer (some ⟨w.heap.size + 1, 0, none⟩) := hb 3 (base_of (by kernel_rfl))
              exact does_value (v := .pointer (some ⟨w.heap.size + 1, 0, none⟩)) (w' := W) (by simp only [execOp, h3]; simp [go_sem]) ⟨rfl, hC, Nat.le_refl _, fun _ _ _ h _ _ => h⟩
            · intro A W hC hI hg hb
              have h74 : A.eval (.tmp 74) = .pointer (some ⟨w.heap.size + 1, 0, none⟩) := hg 0 74 (by decide) rfl (by simp [Op.operands]) (by kernel_rfl) rfl
              have hb1 : BlockIs W (w.heap.size + 1) 26 [.slice (some ⟨g, 0, none⟩) l.length vc] := hI 0 (by kernel_rfl)
              have c0 := hb1.cell (j := 0) rfl
              exact does_value (v := .slice (some ⟨g, 0, none⟩) l.length vc) (w' := W) (by simp only [execOp, h74]; simp [go_sem, c0]) ⟨rfl, hC, Nat.le_refl _, fun _ _ _ h _ _ => h⟩
            · intro A W hC hI hg hb
              have h6 : A.eval (.tmp 6) = .int .i64 (k : Int) := hb 6 (base_of (by kernel_rfl))
              exact does_value (v := .int .i64 (k : Int)) (w' := W) (by simp only [execOp, h6]; simp [go_sem]) ⟨rfl, hC, Nat.le_refl _, fun _ _ _ h _ _ => h⟩
            · intro A W hC hI hg hb
              have h0 : A.eval (.tmp 0) = .pointer (some ⟨C, 0, none⟩) := hb 0 (base_of (by kernel_rfl))
              exact does_value (v := .pointer (some ⟨C, 0, none⟩)) (w' := W) (by simp only [execOp, h0]; simp [go_sem]) ⟨rfl, hC, Nat.le_refl _, fun _ _ _ h _ _ => h⟩
            · intro A W hC hI hg hb
              have hb1 : BlockIs W (w.heap.size + 1) 26 [.slice (some ⟨g, 0, none⟩) l.length vc] := hI 0 (by kernel_rfl)
              have ba := below_more (Below.refl W.heap.size W) (.cells #[.string ⟨#[]⟩, .string ⟨#[49, 50, 51, 52, 53, 54, 55, 56]⟩, .string ⟨#[49, 50, 51, 52, 53, 54, 55, 56, 57]⟩] 9)
              obtain ⟨hk, hgr, hr⟩ := hC
              exact does_value (v := .slice (some ⟨W.heap.size, 0, none⟩) 3 3) (w' := W.alloc (.cells #[.string ⟨#[]⟩, .string ⟨#[49, 50, 51, 52, 53, 54, 55, 56]⟩, .string ⟨#[49, 50, 51, 52, 53, 54, 55, 56, 57]⟩] 9)) (by simp [execOp, go_sem]) ⟨⟨_, rfl, by have := hb1.lt; omega, heap_alloc_new W _⟩, ⟨hk.below ba, grown_below hgr ba, hr.on ba hr.lt⟩, ba.size, fun b ty cs h _ _ => h.on ba h.lt⟩
            · intro A W hC hI hg hb
              have h77 : A.eval (.tmp 77) = .pointer (some ⟨C, 0, none⟩) := hg 3 77 (by decide) rfl (by simp [Op.operands, Call.operands]) (by kernel_rfl) rfl
              have g4 := hg 4 78 (by decide) rfl (by simp [Op.operands, Call.operands]) (by kernel_rfl) rfl
              obtain ⟨b, h78, hbl, hb⟩ := g4
              simp [go_sem] at h77 h78
              refine does_enter (f := 65) (args := #[.pointer (some ⟨C, 0, none⟩), .slice (some ⟨b, 0, none⟩) 3 3]) (w' := W) (by simp [go_sem, h77, h78]) ?_
              obtain ⟨hk, hgr, hr⟩ := hC
              refine (l01Pick_any C b [⟨#[]⟩, ⟨#[49, 50, 51, 52, 53, 54, 55, 56]⟩, ⟨#[49, 50, 51, 52, 53, 54, 55, 56, 57]⟩] 3 (by simp) (by simp) (by have := HCl.out; omega) W hk (fun j hj => by match j, hj with | 0, _ => exact hb.cell (j := 0) rfl | 1, _ => exact hb.cell (j := 1) rfl | 2, _ => exact hb.cell (j := 2) rfl)).mono ?_
              rintro e W' ⟨j, hj, rfl, k', q'⟩
              exact ⟨_, rfl, ⟨_, rfl, (show ∀ s ∈ ([⟨#[]⟩, ⟨#[49, 50, 51, 52, 53, 54, 55, 56]⟩, ⟨#[49, 50, 51, 52, 53, 54, 55, 56, 57]⟩] : List ByteArray), s.size ≤ 9 by decide) _ (List.getElem_mem hj)⟩, ⟨k', hgr.trans q', hr.cur q' HCl.out⟩, q'.size, fun b ty cs h hg _ => h.cur q' (by have := HCl.out; omega)⟩
            · intro A W hC hI hg hb
              have h75 : A.eval (.tmp 75) = .slice (some ⟨g, 0, none⟩) l.length vc := hg 1 75 (by decide) rfl (by simp [Op.operands]) (by kernel_rfl) rfl
              have h76 : A.eval (.tmp 76) = .int .i64 (k : Int) := hg 2 76 (by decide) rfl (by simp [Op.operands]) (by kernel_rfl) rfl
              simp [go_sem] at h75 h76
              exact does_value (v := .pointer (some ⟨g, k * 3, none⟩)) (w' := W) (by simp [execOp, go_sem, h75, h76, hkl', hk0]) ⟨rfl, hC, Nat.le_refl _, fun _ _ _ h _ _ => h⟩
            · intro A W hC hI hg hb
              have h80 : A.eval (.tmp 80) = .pointer (some ⟨g, k * 3, none⟩) := hg 6 80 (by decide) rfl (by simp [Op.operands]) (by kernel_rfl) rfl
              exact does_value (v := .pointer (some ⟨g, k * 3, none⟩)) (w' := W) (by simp only [execOp, h80]; simp [go_sem]) ⟨rfl, hC, Nat.le_refl _, fun _ _ _ h _ _ => h⟩
            · intro A W hC hI hg hb
              have h81 : A.eval (.tmp 81) = .pointer (some ⟨g, k * 3, none⟩) := hg 7 81 (by decide) rfl (by simp [Op.operands]) (by kernel_rfl) rfl
              have g5 := hg 5 79 (by decide) rfl (by simp [Op.operands]) (by kernel_rfl) rfl
              obtain ⟨x, h79, hx⟩ := g5
              have hrow : W.ownsRow (w.heap.size + 2) 77 3 (.slice (some ⟨g, 0, none⟩) l.length vc) l.length (fileCells l) := hI 1 (by kernel_rfl)
              have hb1 : BlockIs W (w.heap.size + 1) 26 [.slice (some ⟨g, 0, none⟩) l.length vc] := hI 0 (by kernel_rfl)
              obtain ⟨g', hg', _, r, hbg⟩ := row_in hrow (by omega)
              cases hg'
              obtain ⟨hk, hgr, hr⟩ := hC
              have hc := hbg.cell (j := k * 3) (row_at fileEnc 3 (fun _ => rfl) l r k 0 hkl (by omega))
              have hf9 := hbg.thaw (k * 3)
              have hw9 := row_write (i := k * 3) (u := .string x) hrow
              have hp9 := cells_put l k 0 hkl (by omega) ⟨x, d.text, d.kept⟩ (.string x) (by rw [HD.out]; rfl)
              rw [Nat.add_zero] at hp9
              rw [hp9] at hw9
              have far : ∀ p ty cs, BlockIs W p ty cs → p ≠ g → BlockIs (W.setCell ⟨g, k * 3, none⟩ (.string x)) p ty cs := fun p ty cs hp hne => hp.far (Ne.symm hne) _
              exact does_skip (w' := W.setCell ⟨g, k * 3, none⟩ (.string x)) (by simp only [execOp, h81, h79]; simp [go_sem, hc, hf9]) ⟨⟨x, mild_mk (by omega) hdm.2, far _ _ _ hb1 (by omega), hw9⟩, ⟨hk.set (by have := HCl.out; omega), grown_far hgr (by omega), far _ _ _ hr (by omega)⟩, by simp [World.size_setCell], fun p ty cs hp _ hne => far p ty cs hp (hne rfl)⟩
          · intro vs wE hC hI hg
            obtain ⟨x, hf, hD, hO⟩ := hg 8 (by decide) (fun k => by simp)
            obtain ⟨hk, hgr, hr⟩ := hC
            clear hg hI
            change Exit.inBlock 2 (Exit.then _ _) _ (laidBy _ vs _ 9 _) wE
            simp only [laidBy, if_true, dstAt, List.getElem?_toArray, List.getElem?_cons_succ, List.getElem?_cons_zero, Option.bind_some]
            simp only [Act.put, List.setIfInBounds_toArray, List.set_cons_succ, List.set_cons_zero]
            clear KC GC XR XD HO
            have KC := hid hk
            have GC := hid hgr
            have XR := hid hr
            have XD := hid hD
            have HO := hid hO
            clear hk hgr hr hD hO
            have HM2 := hid (mild_set (k := k) HM.out hf)
            have hl9 : (l.set k ⟨x, d.text, d.kept⟩).length = l.length := by simp
            rw [← hl9] at XD HO
            clear HM
            have HM := HM2
            clear HM2
            obtain ⟨l2, hl2⟩ : ∃ q, l.set k ⟨x, d.text, d.kept⟩ = q := ⟨_, rfl⟩
            rw [hl2] at XD HO HM hl9
            have hl95 : l2.length ≤ 5 := by omega
            clear hl9 hl2 h0 h0' hl5 hkl'
            have zr := XR.out.cell (j := 0) rfl
            have yr := XR.out.thaw 0
            have zd := XD.out.cell (j := 0) rfl
            have KL := hid (KC.out.set (b := w.heap.size) (j := 0) (v := .slice (some ⟨g, 0, none⟩) l2.length vc) HCl.out)
            have GL := hid (grown_far (b := w.heap.size) (j := 0) (v := .slice (some ⟨g, 0, none⟩) l2.length vc) GC.out (Nat.le_refl _))
            have HL := hid (row_down (row_set (b := w.heap.size) (j := 0) (v := .slice (some ⟨g, 0, none⟩) l2.length vc) HO.out (by omega)) (show w.heap.size ≤ _ by omega))
            clear KC GC XR XD HO
            go_wp2
            refine bodyPost_ret (v := .agg #[.slice (some ⟨g, 0, none⟩) l2.length vc]) (by simp [results, Try.results37, go_sem, zr]) rfl ?_
            exact ⟨(some ⟨g, 0, none⟩), vc, l2, rfl, by omega, HM.out, HL.out, KL.out, GL.out⟩
        by_cases hy3 : y = 3
        · subst hy3
          clear hy0 hy1 hy2 h0 h0' hkl' hk0 hl5 HM
          have ba := below_more (Below.refl w8.heap.size w8) (.cells #[] 77)
          have HW8 : Hid (w.heap.size + 2 ≤ w8.heap.size) := (show _ ≤ _ by have := XD.out.lt; omega)
          have hO0 : World.ownsRow (w8.alloc (.cells #[] 77)) (w.heap.size + 2) 77 3 (.slice (some ⟨w8.heap.size, 0, none⟩) 0 0) 0 (fileCells []) := row_down (World.ownsRow_made w8 #[] 0 (Nat.le_refl _) (Nat.zero_le _) rfl) HW8.out
          have zd := (XD.out.on ba XD.out.lt).cell (j := 0) rfl
          have yd := (XD.out.on ba XD.out.lt).thaw 0
          have K2 := hid ((KC.out.below ba).set (b := w.heap.size + 1) (j := 0) (v := .slice (some ⟨w8.heap.size, 0, none⟩) 0 0) (by have := HCl.out; omega))
          have G2 := hid (grown_far (b := w.heap.size + 1) (j := 0) (v := .slice (some ⟨w8.heap.size, 0, none⟩) 0 0) (grown_below GC.out ba) (Nat.le_add_right _ 1))
          have R2 := hid ((XR.out.on ba XR.out.lt).far (b := w.heap.size + 1) (j := 0) (by omega) (.slice (some ⟨w8.heap.size, 0, none⟩) 0 0))
          have D2 := hid ((XD.out.on ba XD.out.lt).set 0 (.slice (some ⟨w8.heap.size, 0, none⟩) 0 0))
          have H2 := hid (row_set (b := w.heap.size + 1) (j := 0) (v := .slice (some ⟨w8.heap.size, 0, none⟩) 0 0) hO0 (by omega))
          clear ba KC GC XR XD HO hO0
          go_wp2
          clear zd yd
          go_loopw [7] (fun i wr => ∃ (k : Nat) (l : List FileD) (va : Option Addr) (vc : Nat), k ≤ 31 ∧ i = .int .i64 k ∧ Hid (l.length = k) ∧ Hid (∀ f ∈ l, f.Mild) ∧ Hid (CurAt wr C) ∧ Hid (w.grownBy wr (some C)) ∧ Hid (BlockIs wr w.heap.size 26 [.slice none 0 0]) ∧ Hid (BlockIs wr (w.heap.size + 1) 26 [.slice va l.length vc]) ∧ Hid (wr.ownsRow (w.heap.size + 2) 77 3 (.slice va l.length vc) l.length (fileCells l))) (fun i _ => 32 - (intOf i).toNat)
          case atStart => exact ⟨0, [], _, _, by omega, rfl, rfl, (fun f h => by simp at h), K2, G2, R2, D2, H2⟩
          case round =>
            clear K2 G2 R2 D2 H2
            obtain ⟨k, l, va, vc, hk, rfl, HLk, HM, KC, GC, XR, XD, HO⟩ := hrel
            go_wp2_with fail
            refine Calls.mono (l01Below_any C 2 (by omega) (by omega) _ KC.out) ?_
            rintro e w9 ⟨z, rfl, z0, z1, k9, q9⟩
            have K2 := hid (k9)
            have G2 := hid (GC.out.trans q9)
            have R2 := hid (XR.out.cur q9 HCl.out)
            have D2 := hid (XD.out.cur q9 (by have := HCl.out; omega))
            have H2 := hid (row_past HO.out q9 (by have := HCl.out; omega))
            clear k9 q9 KC GC XR XD HO
            have KC := K2
            have GC := G2
            have XR := R2
            have XD := D2
            have HO := H2
            clear K2 G2 R2 D2 H2
            by_cases hlt : (k : Int) < 30 + z
            · go_wp2
              refine wp_region_from (N := 115) (by kernel_rfl) (by kernel_rfl) rfl (by kernel_rfl) (fun W => CurAt W C ∧ w.grownBy W (some C) ∧ BlockIs W w.heap.size 26 [.slice none 0 0]) (fun j v u W => match j with | 0 => v = .pointer (some ⟨w.heap.size + 1, 0, none⟩) | 1 => v = .slice va l.length vc | 2 => v = .int .i64 (k : Int) | 3 => v = .int .i64 (100 + (k : Int)) | 4 => ∃ s : ByteArray, v = .string s ∧ s.size ≤ 3 | 5 => ∃ s : ByteArray, v = .string s ∧ s.size ≤ 4 | 6 => ∃ f : FileD, v = .agg #[.string f.name, .string f.text, .int .i64 f.kept] ∧ f.Mild | 7 => ∃ (b : Nat) (f : FileD), v = .slice (some ⟨b, 0, none⟩) 1 1 ∧ f.Mild ∧ w.heap.size + 2 ≤ b ∧ BlockIs W b 77 (fileEnc f) | 8 => ∃ (va' : Option Addr) (vc' : Nat) (f : FileD), v = .slice va' (l.length + 1) vc' ∧ f.Mild ∧ W.ownsRow (w.heap.size + 2) 77 3 (.slice va' (l.length + 1) vc') (l.length + 1) (fileCells (l ++ [f])) | 9 => v = .pointer (some ⟨w.heap.size + 1, 0, none⟩) | 10 => ∃ (va' : Option Addr) (vc' : Nat) (f : FileD), u = .slice va' (l.length + 1) vc' ∧ f.Mild ∧ BlockIs W (w.heap.size + 1) 26 [.slice va' (l.length + 1) vc'] ∧ W.ownsRow (w.heap.size + 2) 77 3 (.slice va' (l.length + 1) vc') (l.length + 1) (fileCells (l ++ [f])) | _ => True) (fun i => if i = 10 then 8 else i) (fun j i => decide ((j, i) ∈ ([(7, 8)] : List (Nat × Nat)))) (fun i x y => x.heap.size ≤ y.heap.size ∧ ∀ b ty cs, BlockIs x b ty cs → w.heap.size < b → (i = 8 → ty ≠ 77) → (i = 10 → b ≠ w.heap.size + 1) → BlockIs y b ty cs) (fun m W => match m with | 0 => BlockIs W (w.heap.size + 1) 26 [.slice va l.length vc] | 1 => W.ownsRow (w.heap.size + 2) 77 3 (.slice va l.length vc) l.length (fileCells l) | _ => True) (fun m k => decide ((m, k) ∈ ([(0, 10), (1, 8)] : List (Nat × Nat)))) ?_ (fun i => if i = 10 then 101 else 0) (by kernel_rfl) (fun i hi => by have : 11 ≤ i := hi; simp; omega) ?_ ⟨KC.out.below (below_drewN (Below.refl _ _) 1), grown_below GC.out (below_drewN (Below.refl _ _) 1), XR.out.on (below_drewN (Below.refl _ _) 1) XR.out.lt⟩ (fun m => match m with | 0 => XD.out.on (below_drewN (Below.refl _ _) 1) XD.out.lt | 1 => row_below HO.out (below_drewN (Below.refl _ _) 1) | _ + 2 => trivial) ?_ ?_
              · intro i m x y hen hxy hm
                match m, hen, hm with
                | 0, hen, hm =>
                  simp at hen
                  exact hxy.2 _ _ _ hm (by omega) (fun _ => by decide) (fun e => absurd e hen)
                | 1, hen, hm =>
                  simp at hen
                  exact row_from hm fun g' cs hg' h => hxy.2 _ _ _ h (by omega) (fun e => absurd e hen) (fun _ => by omega)
                | n + 2, _, _ => exact trivial
              · intro i j v u x y hij hdd hwt hxy hg
                match j, hg with
                | 0, hg => exact hg
                | 1, hg => exact hg
                | 2, hg => exact hg
                | 3, hg => exact hg
                | 4, hg => exact hg
                | 5, hg => exact hg
                | 6, hg => exact hg
                | 7, hg =>
                  obtain ⟨b, f, e1, e2, e3, e4⟩ := hg
                  simp at hdd
                  exact ⟨b, f, e1, e2, e3, hxy.2 _ _ _ e4 (by omega) (fun e => absurd e hdd) (fun _ => by omega)⟩
                | 8, hg =>
                  obtain ⟨va', vc', f, e1, e2, e3⟩ := hg
                  exact ⟨va', vc', f, e1, e2, row_from e3 fun g' cs hg' h => hxy.2 _ _ _ h (by omega) (fun e => absurd e hij) (fun _ => by omega)⟩
                | 9, hg => exact hg
                | 10, hg =>
                  obtain ⟨va', vc', f, e1, e2, e3, e4⟩ := hg
                  have h8 : i ≠ 8 := by rintro rfl; exact Bool.noConfusion (hwt.symm.trans (by kernel_rfl : waitsB _ 10 8 = true))
                  exact ⟨va', vc', f, e1, e2, hxy.2 _ _ _ e3 (by omega) (fun _ => by decide) (fun e => absurd e hij), row_from e4 fun g' cs hg' h => hxy.2 _ _ _ h (by omega) (fun e => absurd e h8) (fun _ => by omega)⟩
                | n + 11, _ => exact trivial
              · refine ⟨?_, ?_, ?_, ?_, ?_, ?_, ?_, ?_, ?_, ?_, ?_, trivial⟩
                · intro A W hC hI hg hb
                  have h3 : A.eval (.tmp 3) = .pointer (some ⟨w.heap.size + 1, 0, none⟩) := hb 3 (base_of (by kernel_rfl))
                  exact does_value (v := .pointer (some ⟨w.heap.size + 1, 0, none⟩)) (w' := W) (by simp only [execOp, h3]; simp [go_sem]) ⟨rfl, hC, Nat.le_refl _, fun _ _ _ h _ _ _ => h⟩
                · intro A W hC hI hg hb
                  have h93 : A.eval (.tmp 93) = .pointer (some ⟨w.heap.size + 1, 0, none⟩) := hg 0 93 (by decide) rfl (by simp [Op.operands]) (by kernel_rfl) rfl
                  have hb1 : BlockIs W (w.heap.size + 1) 26 [.slice va l.length vc] := hI 0 (by kernel_rfl)
                  have c0 := hb1.cell (j := 0) rfl
                  exact does_value (v := .slice va l.length vc) (w' := W) (by simp only [execOp, h93]; simp [go_sem, c0]) ⟨rfl, hC, Nat.le_refl _, fun _ _ _ h _ _ _ => h⟩
                · intro A W hC hI hg hb
                  have h7 : A.eval (.tmp 7) = .int .i64 (k : Int) := hb 7 (base_of (by kernel_rfl))
                  exact does_value (v := .int .i64 (k : Int)) (w' := W) (by simp only [execOp, h7]; simp [go_sem]) ⟨rfl, hC, Nat.le_refl _, fun _ _ _ h _ _ _ => h⟩
                · intro A W hC hI hg hb
                  have h95 : A.eval (.tmp 95) = .int .i64 (k : Int) := hg 2 95 (by decide) rfl (by simp [Op.operands]) (by kernel_rfl) rfl
                  have hw : IntKind.i64.wrap (100 + (k : Int)) = 100 + (k : Int) := by rw [IntKind.wrap_i64]; omega
                  exact does_value (v := .int .i64 (100 + (k : Int))) (w' := W) (by simp [go_sem] at h95; simp [go_sem, h95, hw]) ⟨rfl, hC, Nat.le_refl _, fun _ _ _ h _ _ _ => h⟩
                · intro A W hC hI hg hb
                  have h96 : A.eval (.tmp 96) = .int .i64 (100 + (k : Int)) := hg 3 96 (by decide) rfl (by simp [Op.operands, Call.operands]) (by kernel_rfl) rfl
                  simp [go_sem] at h96
                  refine does_enter (f := 66) (args := #[.int .i64 ((100 + k : Nat) : Int)]) (w' := W) (by simp [go_sem, h96]) ?_
                  obtain ⟨hk, hgr, hr⟩ := hC
                  refine (specDecimal_nat (100 + k) (by omega) W).mono ?_
                  rintro e W' ⟨rfl, b'⟩
                  exact ⟨_, rfl, ⟨_, rfl, dec_three (by omega)⟩, ⟨hk.below b', grown_below hgr b', hr.on b' hr.lt⟩, b'.size, fun b ty cs h _ _ _ => h.on b' h.lt⟩
                · intro A W hC hI hg hb
                  have g4 := hg 4 97 (by decide) rfl (by simp [Op.operands]) (by kernel_rfl) rfl
                  obtain ⟨s9, h97, hs9⟩ := g4
                  simp [go_sem] at h97
                  have hadd := run_string_add_sum (P := Try.prog) W ⟨#[102]⟩ s9 (by rw [show (⟨#[102]⟩ : ByteArray).size = 1 from rfl]; omega)
                  exact does_value (v := .string (⟨#[102]⟩ ++ s9)) (w' := W) (by simp [execOp, go_sem, h97, hadd]) ⟨⟨_, rfl, by rw [ByteArray.size_append, show (⟨#[102]⟩ : ByteArray).size = 1 from rfl]; omega⟩, hC, Nat.le_refl _, fun _ _ _ h _ _ _ => h⟩
                · intro A W hC hI hg hb
                  have g5 := hg 5 98 (by decide) rfl (by simp [Op.operands]) (by kernel_rfl) rfl
                  obtain ⟨s9, h98, hs9⟩ := g5
                  simp [go_sem] at h98
                  exact does_value (v := .agg #[.string s9, .string ⟨#[]⟩, .int .i64 0]) (w' := W) (by simp [execOp, go_sem, h98]) ⟨⟨⟨s9, ⟨#[]⟩, 0⟩, rfl, mild_mk (by omega) (by decide)⟩, hC, Nat.le_refl _, fun _ _ _ h _ _ _ => h⟩
                · intro A W hC hI hg hb
                  have g6 := hg 6 99 (by decide) rfl (by simp [Op.operands]) (by kernel_rfl) rfl
                  obtain ⟨f, h99, hf⟩ := g6
                  simp [go_sem] at h99
                  have hb1 : BlockIs W (w.heap.size + 1) 26 [.slice va l.length vc] := hI 0 (by kernel_rfl)
                  have ba := below_more (Below.refl W.heap.size W) (.cells #[.string f.name, .string f.text, .int .i64 f.kept] 77)
                  obtain ⟨hk, hgr, hr⟩ := hC
                  exact does_value (v := .slice (some ⟨W.heap.size, 0, none⟩) 1 1) (w' := W.alloc (.cells #[.string f.name, .string f.text, .int .i64 f.kept] 77)) (by simp [execOp, go_sem, h99]) ⟨⟨_, f, rfl, hf, by have := hb1.lt; omega, heap_alloc_new W _⟩, ⟨hk.below ba, grown_below hgr ba, hr.on ba hr.lt⟩, ba.size, fun b ty cs h _ _ _ => h.on ba h.lt⟩
                · intro A W hC hI hg hb
                  have h94 : A.eval (.tmp 94) = .slice va l.length vc := hg 1 94 (by decide) rfl (by simp [Op.operands, Call.operands]) (by kernel_rfl) rfl
                  have g7 := hg 7 100 (by decide) rfl (by simp [Op.operands, Call.operands]) (by kernel_rfl) rfl
                  obtain ⟨b, f, h100, hf, hbl, hb⟩ := g7
                  have hb1 : BlockIs W (w.heap.size + 1) 26 [.slice va l.length vc] := hI 0 (by kernel_rfl)
                  have hrow : W.ownsRow (w.heap.size + 2) 77 3 (.slice va l.length vc) l.length (fileCells l) := hI 1 (by kernel_rfl)
                  obtain ⟨hk, hgr, hr⟩ := hC
                  obtain ⟨v', W', hrn, h2, h3⟩ := append_file (by have := HLk.out; omega) (by have := hb1.lt; omega) hrow hb
                  obtain ⟨va', vc', rfl⟩ := row_shape h2
                  rw [← fileCells_snoc] at h2
                  have hown : ∀ j, (Value.slice va l.length vc).ownBlock = some j → w.heap.size + 2 ≤ j := fun j hj => (row_block hrow hj).elim fun _ h => h.2
                  refine does_value (v := .slice va' (l.length + 1) vc') (w' := W') (by simp only [execOp, resolve, invoke, builtin, Sem.run_bind, Sem.run_pure, Result.andThen_ok, List.map_toArray, List.map_cons, List.map_nil, h94, h100, hrn]) ⟨⟨va', vc', f, rfl, hf, h2⟩, ⟨hk.kept h3 (fun j hj => by have := hown j hj; have := HCl.out; omega), grown_row hgr h3 (fun j hj => by have := hown j hj; omega), ?_⟩, h3.size, fun p ty cs hp _ hne _ => ?_⟩
                  · unfold BlockIs
                    rw [h3.block _ hr.lt (fun e => by have := hown _ e.symm; omega)]
                    exact hr
                  · have hpg : some p ≠ (Value.slice va l.length vc).ownBlock := by
                      intro e
                      obtain ⟨cs', hb', _⟩ := row_block hrow e.symm
                      exact hne rfl (block_one hp hb').1
                    unfold BlockIs
                    rw [h3.block p hp.lt hpg]
                    exact hp
                · intro A W hC hI hg hb
                  have h3 : A.eval (.tmp 3) = .pointer (some ⟨w.heap.size + 1, 0, none⟩) := hb 3 (base_of (by kernel_rfl))
                  exact does_value (v := .pointer (some ⟨w.heap.size + 1, 0, none⟩)) (w' := W) (by simp only [execOp, h3]; simp [go_sem]) ⟨rfl, hC, Nat.le_refl _, fun _ _ _ h _ _ _ => h⟩
                · intro A W hC hI hg hb
                  have h102 : A.eval (.tmp 102) = .pointer (some ⟨w.heap.size + 1, 0, none⟩) := hg 9 102 (by decide) rfl (by simp [Op.operands]) (by kernel_rfl) rfl
                  have g8 := hg 8 101 (by decide) rfl (by simp [Op.operands]) (by kernel_rfl) rfl
                  obtain ⟨va', vc', f, h101, hf, hrow⟩ := g8
                  have hb1 : BlockIs W (w.heap.size + 1) 26 [.slice va l.length vc] := hI 0 (by kernel_rfl)
                  have c0 := hb1.cell (j := 0) rfl
                  have f0 := hb1.thaw 0
                  obtain ⟨hk, hgr, hr⟩ := hC
                  have far : ∀ p ty cs, BlockIs W p ty cs → p ≠ w.heap.size + 1 → BlockIs (W.setCell ⟨w.heap.size + 1, 0, none⟩ (.slice va' (l.length + 1) vc')) p ty cs := fun p ty cs hp hne => hp.far (Ne.symm hne) _
                  exact does_skip (w' := W.setCell ⟨w.heap.size + 1, 0, none⟩ (.slice va' (l.length + 1) vc')) (by simp only [execOp, h102, h101]; simp [go_sem, c0, f0]) ⟨⟨va', vc', f, h101, hf, hb1.set 0 _, row_from hrow fun g' cs hg' h => far g' _ _ h (by omega)⟩, ⟨hk.set (by have := HCl.out; omega), grown_far hgr (Nat.le_add_right _ 1), far _ _ _ hr (by omega)⟩, by simp [World.size_setCell], fun p ty cs hp _ _ hne => far p ty cs hp (hne rfl)⟩
              · intro vs wE hC hI hg
                obtain ⟨va', vc', f, hu, hf, hD, hO⟩ := hg 10 (by decide) (fun k => by simp)
                obtain ⟨hk, hgr, hr⟩ := hC
                clear hg hI hu
                change Exit.inBlock 4 (Exit.then _ _) _ (laidBy _ vs _ 11 _) wE
                simp only [laidBy, if_true, dstAt, List.getElem?_toArray, List.getElem?_cons_succ, List.getElem?_cons_zero, Option.bind_some]
                simp only [Act.put, List.setIfInBounds_toArray, List.set_cons_succ, List.set_cons_zero]
                clear KC GC XR XD HO
                have KC := hid hk
                have GC := hid hgr
                have XR := hid hr
                have XD := hid hD
                have HO := hid hO
                clear hk hgr hr hD hO
                have HM2 : Hid (∀ x ∈ l ++ [f], x.Mild) := fun x hx => (List.mem_append.1 hx).elim (HM.out x) fun q => by rw [List.mem_singleton.1 q]; exact hf
                have HL9 : (l ++ [f]).length = l.length + 1 := by simp
                rw [← HL9] at XD HO
                obtain ⟨l2, hl2⟩ : ∃ q, l ++ [f] = q := ⟨_, rfl⟩
                rw [hl2] at XD HO HM2 HL9
                clear HM
                have HM := HM2
                clear HM2 hl2
                have HLM : Hid (l2.length = k + 1) := (show _ = _ by have := HLk.out; omega)
                clear HL9 HLk
                go_wp2
                go_roundw
                case rel => exact ⟨k + 1, l2, va', vc', by omega, by go_num, HLM, HM, KC, GC, XR, XD, HO⟩
                case measure => simp [intOf]; omega
            · have hl31 : l.length ≤ 31 := by have := HLk.out; omega
              have zr := XR.out.cell (j := 0) rfl
              have yr := XR.out.thaw 0
              have zd := XD.out.cell (j := 0) rfl
              have KL := hid (KC.out.set (b := w.heap.size) (j := 0) (v := .slice va l.length vc) HCl.out)
              have GL := hid (grown_far (b := w.heap.size) (j := 0) (v := .slice va l.length vc) GC.out (Nat.le_refl _))
              have HL := hid (row_down (row_set (b := w.heap.size) (j := 0) (v := .slice va l.length vc) HO.out (by omega)) (show w.heap.size ≤ _ by omega))
              clear KC GC XR XD HO
              go_wp2
              refine bodyPost_ret (v := .agg #[.slice va l.length vc]) (by simp [results, Try.results37, go_sem, zr]) rfl ?_
              exact ⟨va, vc, l, rfl, by omega, HM.out, HL.out, KL.out, GL.out⟩
        by_cases hy4 : y = 4
        · subst hy4
          clear hy0
          clear hy1
          clear hy2
          clear hy3
          go_wp2
          refine wp_region_from (N := 115) (by kernel_rfl) (by kernel_rfl) rfl (by kernel_rfl) (fun W => CurAt W C ∧ w.grownBy W (some C) ∧ BlockIs W w.heap.size 26 [.slice none 0 0]) (fun j v _ W => match j with | 0 => v = .pointer (some ⟨w.heap.size + 1, 0, none⟩) | 1 => v = .slice (some ⟨g, 0, none⟩) l.length vc | 2 => v = .int .i64 (k : Int) | 3 => v = .pointer (some ⟨C, 0, none⟩) | 4 => ∃ z : Int, v = .int .i64 z ∧ 0 ≤ z ∧ z < 3 | 5 => ∃ m : Nat, v = .int .i64 (m : Int) ∧ m ≤ 20010 | 6 => ∃ x : ByteArray, v = .string x ∧ x.size ≤ 20010 | 7 => v = .pointer (some ⟨g, k * 3, none⟩) | 8 => v = .pointer (some ⟨g, k * 3 + 1, none⟩) | 9 => ∃ x : ByteArray, (⟨d.name, x, d.kept⟩ : FileD).Mild ∧ BlockIs W (w.heap.size + 1) 26 [.slice (some ⟨g, 0, none⟩) l.length vc] ∧ W.ownsRow (w.heap.size + 2) 77 3 (.slice (some ⟨g, 0, none⟩) l.length vc) l.length (fileCells (l.set k ⟨d.name, x, d.kept⟩)) | _ => True) (fun i => i) (fun _ _ => false) (fun i x y => x.heap.size ≤ y.heap.size ∧ ∀ b ty cs, BlockIs x b ty cs → w.heap.size < b → (i = 9 → b ≠ g) → BlockIs y b ty cs) (fun m W => match m with | 0 => BlockIs W (w.heap.size + 1) 26 [.slice (some ⟨g, 0, none⟩) l.length vc] | 1 => W.ownsRow (w.heap.size + 2) 77 3 (.slice (some ⟨g, 0, none⟩) l.length vc) l.length (fileCells l) | _ => True) (fun m k => decide ((m, k) ∈ ([(1, 9)] : List (Nat × Nat)))) ?_ (fun _ => 0) (by kernel_rfl) (fun _ _ => rfl) ?_ ⟨KC.out.below (below_drewN (Below.refl _ _) 1), grown_below GC.out (below_drewN (Below.refl _ _) 1), XR.out.on (below_drewN (Below.refl _ _) 1) XR.out.lt⟩ (fun m => match m with | 0 => XD.out.on (below_drewN (Below.refl _ _) 1) XD.out.lt | 1 => row_below HO.out (below_drewN (Below.refl _ _) 1) | _ + 2 => trivial) ?_ ?_
          · intro i m x y hen hxy hm
            match m, hen, hm with
            | 0, hen, hm =>
              exact hxy.2 _ _ _ hm (by omega) (fun e => by omega)
            | 1, hen, hm =>
              simp at hen
              exact row_from hm fun g' cs hg' h => hxy.2 _ _ _ h (by omega) (fun e => absurd e hen)
            | n + 2, _, _ => exact trivial
          · intro i j v u x y hij hdd hwt hxy hg
            match j, hg with
            | 0, hg => exact hg
            | 1, hg => exact hg
            | 2, hg => exact hg
            | 3, hg => exact hg
            | 4, hg => exact hg
            | 5, hg => exact hg
            | 6, hg => exact hg
            | 7, hg => exact hg
            | 8, hg => exact hg
            | 9, hg =>
              obtain ⟨x, e1, e2, e3⟩ := hg
              exact ⟨x, e1, hxy.2 _ _ _ e2 (by omega) (fun e => by omega), row_from e3 fun g' cs hg' h => hxy.2 _ _ _ h (by omega) (fun e => absurd e hij)⟩
            | n + 10, _ => exact trivial
          · refine ⟨?_, ?_, ?_, ?_, ?_, ?_, ?_, ?_, ?_, ?_, trivial⟩
            · intro A W hC hI hg hb
              have h3 : A.eval (.tmp 3) = .pointer (some ⟨w.heap.size + 1, 0, none⟩) := hb 3 (base_of (by kernel_rfl))
              exact does_value (v := .pointer (some ⟨w.heap.size + 1, 0, none⟩)) (w' := W) (by simp only [execOp, h3]; simp [go_sem]) ⟨rfl, hC, Nat.le_refl _, fun _ _ _ h _ _ => h⟩
            · intro A W hC hI hg hb
              have h105 : A.eval (.tmp 105) = .pointer (some ⟨w.heap.size + 1, 0, none⟩) := hg 0 105 (by decide) rfl (by simp [Op.operands]) (by kernel_rfl) rfl
              have hb1 : BlockIs W (w.heap.size + 1) 26 [.slice (some ⟨g, 0, none⟩) l.length vc] := hI 0 (by kernel_rfl)
              have c0 := hb1.cell (j := 0) rfl
              exact does_value (v := .slice (some ⟨g, 0, none⟩) l.length vc) (w' := W) (by simp only [execOp, h105]; simp [go_sem, c0]) ⟨rfl, hC, Nat.le_refl _, fun _ _ _ h _ _ => h⟩
            · intro A W hC hI hg hb
              have h6 : A.eval (.tmp 6) = .int .i64 (k : Int) := hb 6 (base_of (by kernel_rfl))
              exact does_value (v := .int .i64 (k : Int)) (w' := W) (by simp only [execOp, h6]; simp [go_sem]) ⟨rfl, hC, Nat.le_refl _, fun _ _ _ h _ _ => h⟩
            · intro A W hC hI hg hb
              have h0 : A.eval (.tmp 0) = .pointer (some ⟨C, 0, none⟩) := hb 0 (base_of (by kernel_rfl))
              exact does_value (v := .pointer (some ⟨C, 0, none⟩)) (w' := W) (by simp only [execOp, h0]; simp [go_sem]) ⟨rfl, hC, Nat.le_refl _, fun _ _ _ h _ _ => h⟩
            · intro A W hC hI hg hb
              have h108 : A.eval (.tmp 108) = .pointer (some ⟨C, 0, none⟩) := hg 3 108 (by decide) rfl (by simp [Op.operands, Call.operands]) (by kernel_rfl) rfl
              simp [go_sem] at h108
              refine does_enter (f := 61) (args := #[.pointer (some ⟨C, 0, none⟩), .int .i64 3]) (w' := W) (by simp [go_sem, h108]) ?_
              obtain ⟨hk, hgr, hr⟩ := hC
              refine (l01Below_any C 3 (by omega) (by omega) W hk).mono ?_
              rintro e W' ⟨z, rfl, z0, z1, k', q'⟩
              exact ⟨_, rfl, ⟨z, rfl, z0, z1⟩, ⟨k', hgr.trans q', hr.cur q' HCl.out⟩, q'.size, fun b ty cs h hg _ => h.cur q' (by have := HCl.out; omega)⟩
            · intro A W hC hI hg hb
              have g4 := hg 4 109 (by decide) rfl (by simp [Op.operands]) (by kernel_rfl) rfl
              obtain ⟨z, h109, z0, z1⟩ := g4
              obtain ⟨m, hm⟩ : ∃ m : Nat, 19999 + z = (m : Int) := ⟨(19999 + z).toNat, by omega⟩
              simp [go_sem] at h109
              have hw : IntKind.i64.wrap (19999 + z) = (m : Int) := by rw [IntKind.wrap_i64]; omega
              exact does_value (v := .int .i64 (m : Int)) (w' := W) (by simp [execOp, go_sem, h109, hw]) ⟨⟨m, rfl, by omega⟩, hC, Nat.le_refl _, fun _ _ _ h _ _ => h⟩
            · intro A W hC hI hg hb
              have g5 := hg 5 110 (by decide) rfl (by simp [Op.operands, Call.operands]) (by kernel_rfl) rfl
              obtain ⟨m, h110, hm⟩ := g5
              simp [go_sem] at h110
              refine does_enter (f := 67) (args := #[.int .i64 (m : Int), .int .u8 65]) (w' := W) (by simp [go_sem, h110]) ?_
              obtain ⟨hk, hgr, hr⟩ := hC
              refine (l01Long_any m (by omega) 65 (by omega) (by omega) W).mono ?_
              rintro e W' ⟨x, rfl, hx, b'⟩
              exact ⟨_, rfl, ⟨x, rfl, by omega⟩, ⟨hk.below b', grown_below hgr b', hr.on b' hr.lt⟩, b'.size, fun b ty cs h _ _ => h.on b' h.lt⟩
            · intro A W hC hI hg hb
              have h106 : A.eval (.tmp 106) = .slice (some ⟨g, 0, none⟩) l.length vc := hg 1 106 (by decide) rfl (by simp [Op.operands]) (by kernel_rfl) rfl
              have h107 : A.eval (.tmp 107) = .int .i64 (k : Int) := hg 2 107 (by decide) rfl (by simp [Op.operands]) (by kernel_rfl) rfl
              simp [go_sem] at h106 h107
              exact does_value (v := .pointer (some ⟨g, k * 3, none⟩)) (w' := W) (by simp [execOp, go_sem, h106, h107, hkl', hk0]) ⟨rfl, hC, Nat.le_refl _, fun _ _ _ h _ _ => h⟩
            · intro A W hC hI hg hb
              have h112 : A.eval (.tmp 112) = .pointer (some ⟨g, k * 3, none⟩) := hg 7 112 (by decide) rfl (by simp [Op.operands]) (by kernel_rfl) rfl
              exact does_value (v := .pointer (some ⟨g, k * 3 + 1, none⟩)) (w' := W) (by simp only [execOp, h112]; simp [go_sem]) ⟨rfl, hC, Nat.le_refl _, fun _ _ _ h _ _ => h⟩
            · intro A W hC hI hg hb
              have h113 : A.eval (.tmp 113) = .pointer (some ⟨g, k * 3 + 1, none⟩) := hg 8 113 (by decide) rfl (by simp [Op.operands]) (by kernel_rfl) rfl
              have g6 := hg 6 111 (by decide) rfl (by simp [Op.operands]) (by kernel_rfl) rfl
              obtain ⟨x, h111, hx⟩ := g6
              have hrow : W.ownsRow (w.heap.size + 2) 77 3 (.slice (some ⟨g, 0, none⟩) l.length vc) l.length (fileCells l) := hI 1 (by kernel_rfl)
              have hb1 : BlockIs W (w.heap.size + 1) 26 [.slice (some ⟨g, 0, none⟩) l.length vc] := hI 0 (by kernel_rfl)
              obtain ⟨g', hg', _, r, hbg⟩ := row_in hrow (by omega)
              cases hg'
              obtain ⟨hk, hgr, hr⟩ := hC
              have hc := hbg.cell (j := k * 3 + 1) (row_at fileEnc 3 (fun _ => rfl) l r k 1 hkl (by omega))
              have hf9 := hbg.thaw (k * 3 + 1)
              have hw9 := row_write (i := k * 3 + 1) (u := .string x) hrow
              have hp9 := cells_put l k 1 hkl (by omega) ⟨d.name, x, d.kept⟩ (.string x) (by rw [HD.out]; rfl)
              rw [hp9] at hw9
              have far : ∀ p ty cs, BlockIs W p ty cs → p ≠ g → BlockIs (W.setCell ⟨g, k * 3 + 1, none⟩ (.string x)) p ty cs := fun p ty cs hp hne => hp.far (Ne.symm hne) _
              exact does_skip (w' := W.setCell ⟨g, k * 3 + 1, none⟩ (.string x)) (by simp only [execOp, h113, h111]; simp [go_sem, hc, hf9]) ⟨⟨x, mild_mk hdm.1 (by omega), far _ _ _ hb1 (by omega), hw9⟩, ⟨hk.set (by have := HCl.out; omega), grown_far hgr (by omega), far _ _ _ hr (by omega)⟩, by simp [World.size_setCell], fun p ty cs hp _ hne => far p ty cs hp (hne rfl)⟩
          · intro vs wE hC hI hg
            obtain ⟨x, hf, hD, hO⟩ := hg 9 (by decide) (fun k => by simp)
            obtain ⟨hk, hgr, hr⟩ := hC
            clear hg hI
            change Exit.inBlock 2 (Exit.then _ _) _ (laidBy _ vs _ 10 _) wE
            simp only [laidBy, if_true, dstAt, List.getElem?_toArray, List.getElem?_cons_succ, List.getElem?_cons_zero, Option.bind_some]
            simp only [Act.put, List.setIfInBounds_toArray, List.set_cons_succ, List.set_cons_zero]
            clear KC GC XR XD HO
            have KC := hid hk
            have GC := hid hgr
            have XR := hid hr
            have XD := hid hD
            have HO := hid hO
            clear hk hgr hr hD hO
            have HM2 := hid (mild_set (k := k) HM.out hf)
            have hl9 : (l.set k ⟨d.name, x, d.kept⟩).length = l.length := by simp
            rw [← hl9] at XD HO
            clear HM
            have HM := HM2
            clear HM2
            obtain ⟨l2, hl2⟩ : ∃ q, l.set k ⟨d.name, x, d.kept⟩ = q := ⟨_, rfl⟩
            rw [hl2] at XD HO HM hl9
            have hl95 : l2.length ≤ 5 := by omega
            clear hl9 hl2 h0 h0' hl5 hkl'
            have zr := XR.out.cell (j := 0) rfl
            have yr := XR.out.thaw 0
            have zd := XD.out.cell (j := 0) rfl
            have KL := hid (KC.out.set (b := w.heap.size) (j := 0) (v := .slice (some ⟨g, 0, none⟩) l2.length vc) HCl.out)
            have GL := hid (grown_far (b := w.heap.size) (j := 0) (v := .slice (some ⟨g, 0, none⟩) l2.length vc) GC.out (Nat.le_refl _))
            have HL := hid (row_down (row_set (b := w.heap.size) (j := 0) (v := .slice (some ⟨g, 0, none⟩) l2.length vc) HO.out (by omega)) (show w.heap.size ≤ _ by omega))
            clear KC GC XR XD HO
            go_wp2
            refine bodyPost_ret (v := .agg #[.slice (some ⟨g, 0, none⟩) l2.length vc]) (by simp [results, Try.results37, go_sem, zr]) rfl ?_
            exact ⟨(some ⟨g, 0, none⟩), vc, l2, rfl, by omega, HM.out, HL.out, KL.out, GL.out⟩
        have zr := XR.out.cell (j := 0) rfl
        have yr := XR.out.thaw 0
        have zd := XD.out.cell (j := 0) rfl
        have KL := hid (KC.out.set (b := w.heap.size) (j := 0) (v := .slice (some ⟨g, 0, none⟩) l.length vc) HCl.out)
        have GL := hid (grown_far (b := w.heap.size) (j := 0) (v := .slice (some ⟨g, 0, none⟩) l.length vc) GC.out (Nat.le_refl _))
        have HL := hid (row_down (row_set (b := w.heap.size) (j := 0) (v := .slice (some ⟨g, 0, none⟩) l.length vc) HO.out (by omega)) (show w.heap.size ≤ _ by omega))
        clear KC GC XR XD HO
        go_wp2
        refine bodyPost_ret (v := .agg #[.slice (some ⟨g, 0, none⟩) l.length vc]) (by simp [results, Try.results37, go_sem, zr]) rfl ?_
        exact ⟨(some ⟨g, 0, none⟩), vc, l, rfl, by omega, HM.out, HL.out, KL.out, GL.out⟩
end Go.Proofs.Ytbbohfagnnobgaa
