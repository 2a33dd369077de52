/-
  The walk of spec.DrawCutActs: some disk, some acts, a place, some numbers.
-/
import Derived.Test.YtbbohfagnnobgaaJoint35
import Derived.Test.YtbbohfagnnobgaaJoint36
import Derived.Test.YtbbohfagnnobgaaJoint37
import Derived.Test.YtbbohfagnnobgaaJoint38
import Derived.Test.YtbbohfagnnobgaaJoint39
namespace Go.Proofs.Ytbbohfagnnobgaa
open Go.RowKit

theorem below_beyond {B C : Nat} {w w1 w2 : World} (b : Below B w w1) (q : w1.grownBy w2 (some C)) (hC : B ≤ C) (hB : B ≤ w1.heap.size := by exact Below.size (by assumption)) : Below B w w2 := b.grown q hB (fun j hj => by cases hj; exact hC)
theorem own_ext {x y : World} {t : TypeId} {cs : List Value} {n : Nat} {va : Option Addr} {lo : Nat} (h : OwnAt x t cs n va lo x.heap.size) (hs : x.heap.size ≤ y.heap.size) (hb : ∀ g r, lo ≤ g → BlockIs x g t (cs ++ r) → BlockIs y g t (cs ++ r)) : OwnAt y t cs n va lo y.heap.size :=
  h.imp id fun ⟨g, r, a, c, d, k⟩ => ⟨g, r, a, c, Nat.lt_of_lt_of_le d hs, hb g r c k⟩
theorem own_of_files {w : World} {base c : Nat} {va : Option Addr} {l : List FileD} (h : w.ownsRow base 77 3 (.slice va l.length c) l.length (fileCells l)) : OwnAt w 77 (fileCells l) l.length va base w.heap.size := by
  rcases Nat.eq_zero_or_pos l.length with h0 | h0
  · exact Or.inl h0
  · obtain ⟨g, hv, hb, r, hk⟩ := row_in h h0
    exact Or.inr ⟨g, r, hv, hb, hk.lt, hk⟩
theorem row_ints {w : World} {base c : Nat} {va : Option Addr} {zs : List Int} (h : w.ownsRow base 3 1 (.slice va zs.length c) zs.length (is zs)) : IntsAt w va zs := by
  intro hne
  obtain ⟨g, hv, _, r, hk⟩ := row_in h (List.length_pos_iff.2 hne)
  refine ⟨g, 0, hv, fun j hj => ?_⟩
  rw [Nat.zero_add]
  exact hk.cell (by rw [List.getElem?_append_left (by simpa [is] using hj)]; simp [is, hj])
/-- a disk, acts, a place, numbers -/
def CutDrew (w : World) (e : Ending) (w' : World) : Prop := ∃ (va : Option Addr) (vc : Nat) (l : List FileD) (oa : Option Addr) (oc : Nat) (acts : List ActD) (x : Int) (zo : Option Addr) (zc : Nat) (zs : List Int), e = .returned (.tuple #[.agg #[.slice va l.length vc], .slice oa acts.length oc, .int .i64 x, .slice zo zs.length zc]) ∧ l.length ≤ 40 ∧ (∀ f ∈ l, f.Mild) ∧ acts.length ≤ 9 ∧ (∀ a ∈ acts, a.Tiny) ∧ zs.length ≤ 6 ∧ FilesAt w' va l ∧ ActsAt w' oa acts ∧ IntsAt w' zo zs ∧ acts.length ≤ oc ∧ Below w.heap.size w w'

set_option maxRecDepth 1000000 in
set_option maxHeartbeats 4000000 in
theorem drawCutActs_any (ao : Option Addr) (len cap : Nat) (hlen : len ≤ 1048576) (hcap : len ≤ cap) (w : World) (hr : Bytes w ao len) :
    Calls Try.prog 10 #[.slice ao len cap] w (CutDrew w) := by
  have hx0 : BlockIs (w.alloc (.cells #[.slice none 0 0] 26)) w.heap.size 26 [.slice none 0 0] := heap_alloc_new w _
  have be := below_more (Below.refl w.heap.size w) (.cells #[.slice none 0 0] 26)
  obtain ⟨W0, hW0⟩ : ∃ W, w.alloc (.cells #[.slice none 0 0] 26) = W := ⟨_, rfl⟩
  rw [hW0] at hx0 be
  obtain ⟨C, hC⟩ : ∃ C, W0.heap.size = C := ⟨_, rfl⟩
  have HC : Hid (w.heap.size < C) := (show _ < _ by have := hx0.lt; omega)
  have X0 := hid hx0
  have BW := hid be
  have HR := hid (bytes_on hr be)
  clear hx0 be hr
  go_enter Try.func10, Try.ntmps10
  go_wp2_with fail
  refine Calls.mono (l01New_any ao len cap hlen hcap _ HR.out) ?_
  rintro e w1 ⟨rfl, k1, b1⟩
  rw [hC] at k1 ⊢
  have KC := hid k1
  have B1 := hid (below_via BW.out b1)
  have Y0 := hid (X0.out.on b1 X0.out.lt)
  have HC1 : Hid (C < w1.heap.size) := k1.lt
  clear k1 b1 BW X0 HR
  go_wp2_with fail
  refine Calls.mono (l03Disk_any C _ KC.out) ?_
  rintro e w2 ⟨va, vc, l, rfl, hl, hm, ho, k2, q2⟩
  have bd := below_more (Below.refl w2.heap.size w2) (.cells #[.slice va l.length vc] 26)
  have XD : Hid (BlockIs (w2.alloc (.cells #[.slice va l.length vc] 26)) w2.heap.size 26 [.slice va l.length vc]) := heap_alloc_new w2 _
  have K2 := hid (k2.below bd)
  have B2 := hid (below_via (below_beyond B1.out q2 (by have := HC.out; omega)) bd)
  have Z0 := hid ((Y0.out.aside q2 (by have := HC.out; omega)).on bd (Y0.out.aside q2 (by have := HC.out; omega)).lt)
  have OD := hid ((own_of_files ho).more bd)
  have HC2 : Hid (C < w2.heap.size) := (show _ < _ by have := HC1.out; have := q2.size; omega)
  have HM := hid hm
  have HAW := hid bd.size
  clear k2 q2 ho bd hm KC B1 Y0
  have zd := XD.out.cell (j := 0) rfl
  go_wp2_with fail
  refine Calls.mono (l03Acts_any C w1.heap.size va l vc (by omega) HC1.out _ K2.out OD.out) ?_
  rintro e w3 ⟨oa, oc, acts, rfl, hal, hat, hao, k3, q3⟩
  have KC := hid k3
  have BW := hid (below_beyond B2.out q3 (by have := HC.out; omega))
  have X0 := hid (Z0.out.aside q3 (by have := HC.out; omega))
  have YD := hid (XD.out.aside q3 (by have := HC2.out; omega))
  have OF := hid (OD.out.aside q3 HC1.out)
  have HA := hid (row_down hao HAW.out)
  have HAT := hid hat
  have HW3 : Hid (w2.heap.size < w3.heap.size) := YD.out.lt
  clear k3 q3 hao hat zd K2 B2 Z0 XD OD
  go_wp2
  refine wp_region_from (N := 25) (by kernel_rfl) (by kernel_rfl) rfl (by kernel_rfl) (fun W => Below w.heap.size w W ∧ BlockIs W w2.heap.size 26 [.slice va l.length vc] ∧ OwnAt W 77 (fileCells l) l.length va w1.heap.size W.heap.size ∧ W.ownsRow w2.heap.size 37 4 (.slice oa acts.length oc) acts.length (actCells acts)) (fun j v _ W => match j with | 0 => v = .agg #[.slice va l.length vc] | 1 => v = .slice oa acts.length oc | 2 => v = .pointer (some ⟨C, 0, none⟩) | 3 => v = .slice oa acts.length oc | 4 => v = .int .i64 (acts.length : Int) | 5 => v = .int .i64 ((acts.length : Int) + 1) | 6 => ∃ x : Int, v = .int .i64 x | 7 => v = .pointer (some ⟨C, 0, none⟩) | 8 => ∃ (zs : List Int) (zo : Option Addr) (zc : Nat), v = .slice zo zs.length zc ∧ zs.length ≤ 6 ∧ W.ownsRow w2.heap.size 3 1 (.slice zo zs.length zc) zs.length (is zs) | 9 => BlockIs W w.heap.size 26 [.slice va l.length vc] | 10 => v = .slice oa acts.length oc | 11 => ∃ x : Int, v = .int .i64 x | 12 => ∃ (zs : List Int) (zo : Option Addr) (zc : Nat), v = .slice zo zs.length zc ∧ zs.length ≤ 6 ∧ W.ownsRow w2.heap.size 3 1 (.slice zo zs.length zc) zs.length (is zs) | _ => True) (fun i => i) (fun _ _ => false) (fun i x y => x.heap.size ≤ y.heap.size ∧ (∀ g ty cs, BlockIs x g ty cs → g ≠ C → (i = 9 → g ≠ w.heap.size) → BlockIs y g ty cs) ∧ (i ≠ 9 → CurAt x C → CurAt y C)) (fun m W => match m with | 0 => BlockIs W w.heap.size 26 [.slice none 0 0] | 1 => CurAt W C | _ => True) (fun m k => decide ((m, k) ∈ ([(0, 9), (1, 9)] : List (Nat × Nat)))) ?_ (fun _ => 0) (by kernel_rfl) (fun _ _ => rfl) ?_ ⟨below_via BW.out (below_drewN (Below.refl _ _) 1), YD.out.on (below_drewN (Below.refl _ _) 1) YD.out.lt, OF.out.more (below_drewN (Below.refl _ _) 1), row_below HA.out (below_drewN (Below.refl _ _) 1)⟩ (fun m => match m with | 0 => X0.out.on (below_drewN (Below.refl _ _) 1) X0.out.lt | 1 => KC.out.below (below_drewN (Below.refl _ _) 1) | _ + 2 => trivial) ?_ ?_
  · intro i m x y hen hxy hm
    match m, hen, hm with
    | 0, hen, hm =>
      simp at hen
      exact hxy.2.1 _ _ _ hm (by have o1 := HC.out; have o2 := HC1.out; have o3 := HC2.out; omega) (fun e => absurd e hen)
    | 1, hen, hm =>
      simp at hen
      exact hxy.2.2 hen hm
    | n + 2, _, _ => exact trivial
  · intro i j v u x y hij hdd hwt hxy hg
    match j, hg with
    | 0, hg => exact hg
    | 1, hg => exact hg
    | 2, hg => exact hg
    | 3, hg => exact hg
    | 4, hg => exact hg
    | 5, hg => exact hg
    | 6, hg => exact hg
    | 7, hg => exact hg
    | 8, hg =>
      obtain ⟨zs, zo, zc, e1, e2, e3⟩ := hg
      exact ⟨zs, zo, zc, e1, e2, row_from e3 fun g cs hg h => hxy.2.1 _ _ _ h (by have o1 := HC.out; have o2 := HC1.out; have o3 := HC2.out; omega) (fun _ => by have o1 := HC.out; have o2 := HC1.out; have o3 := HC2.out; omega)⟩
    | 9, hg =>
      exact hxy.2.1 _ _ _ hg (by have o1 := HC.out; have o2 := HC1.out; have o3 := HC2.out; omega) (fun e => absurd e hij)
    | 10, hg => exact hg
    | 11, hg => exact hg
    | 12, hg =>
      obtain ⟨zs, zo, zc, e1, e2, e3⟩ := hg
      exact ⟨zs, zo, zc, e1, e2, row_from e3 fun g cs hg h => hxy.2.1 _ _ _ h (by have o1 := HC.out; have o2 := HC1.out; have o3 := HC2.out; omega) (fun _ => by have o1 := HC.out; have o2 := HC1.out; have o3 := HC2.out; omega)⟩
    | n + 13, _ => exact trivial
  · refine ⟨?_, ?_, ?_, ?_, ?_, ?_, ?_, ?_, ?_, ?_, ?_, ?_, ?_, trivial⟩
    · intro A W hC hI hg hb
      have h7 : A.eval (.tmp 7) = .pointer (some ⟨w2.heap.size, 0, none⟩) := hb 7 (base_of (by kernel_rfl))
      have hx := hC.2.1
      have c0 := hx.cell (j := 0) rfl
      exact does_value (v := .agg #[.slice va l.length vc]) (w' := W) (by simp only [execOp, h7]; simp [go_sem, c0]) ⟨rfl, hC, Nat.le_refl _, fun _ _ _ h _ _ => h, fun _ h => h⟩
    · intro A W hC hI hg hb
      have h8 : A.eval (.tmp 8) = .slice oa acts.length oc := hb 8 (base_of (by kernel_rfl))
      exact does_value (v := .slice oa acts.length oc) (w' := W) (by simp only [execOp, h8]; simp [go_sem]) ⟨rfl, hC, Nat.le_refl _, fun _ _ _ h _ _ => h, fun _ h => h⟩
    · intro A W hC hI hg hb
      have h6 : A.eval (.tmp 6) = .pointer (some ⟨C, 0, none⟩) := hb 6 (base_of (by kernel_rfl))
      exact does_value (v := .pointer (some ⟨C, 0, none⟩)) (w' := W) (by simp only [execOp, h6]; simp [go_sem]) ⟨rfl, hC, Nat.le_refl _, fun _ _ _ h _ _ => h, fun _ h => h⟩
    · intro A W hC hI hg hb
      have h8 : A.eval (.tmp 8) = .slice oa acts.length oc := hb 8 (base_of (by kernel_rfl))
      exact does_value (v := .slice oa acts.length oc) (w' := W) (by simp only [execOp, h8]; simp [go_sem]) ⟨rfl, hC, Nat.le_refl _, fun _ _ _ h _ _ => h, fun _ h => h⟩
    · intro A W hC hI hg hb
      have h19 : A.eval (.tmp 19) = .slice oa acts.length oc := hg 3 19 (by decide) rfl (by simp [Op.operands, Call.operands]) (by kernel_rfl) rfl
      exact does_value (v := .int .i64 (acts.length : Int)) (w' := W) (by simp [go_sem] at h19; simp [go_sem, h19]) ⟨rfl, hC, Nat.le_refl _, fun _ _ _ h _ _ => h, fun _ h => h⟩
    · intro A W hC hI hg hb
      have h20 : A.eval (.tmp 20) = .int .i64 (acts.length : Int) := hg 4 20 (by decide) rfl (by simp [Op.operands]) (by kernel_rfl) rfl
      have hw : IntKind.i64.wrap ((acts.length : Int) + 1) = (acts.length : Int) + 1 := by rw [IntKind.wrap_i64]; omega
      exact does_value (v := .int .i64 ((acts.length : Int) + 1)) (w' := W) (by simp [go_sem] at h20; simp [go_sem, h20, hw]) ⟨rfl, hC, Nat.le_refl _, fun _ _ _ h _ _ => h, fun _ h => h⟩
    · intro A W hC hI hg hb
      have h18 : A.eval (.tmp 18) = .pointer (some ⟨C, 0, none⟩) := hg 2 18 (by decide) rfl (by simp [Op.operands, Call.operands]) (by kernel_rfl) rfl
      have h21 : A.eval (.tmp 21) = .int .i64 ((acts.length : Int) + 1) := hg 5 21 (by decide) rfl (by simp [Op.operands, Call.operands]) (by kernel_rfl) rfl
      simp [go_sem] at h18 h21
      refine does_enter (f := 39) (args := #[.pointer (some ⟨C, 0, none⟩), .int .i64 ((acts.length : Int) + 1)]) (w' := W) (by simp [go_sem, h18, h21]) ?_
      obtain ⟨hbw, hd2, hof, hra⟩ := hC
      have hk : CurAt W C := hI 1 (by kernel_rfl)
      refine (l01Place_any C ((acts.length : Int) + 1) (by omega) (by omega) W hk).mono ?_
      rintro e W' ⟨x, rfl, k', q'⟩
      exact ⟨_, rfl, ⟨x, rfl⟩, ⟨below_beyond hbw q' (by have o1 := HC.out; have o2 := HC1.out; have o3 := HC2.out; omega), hd2.aside q' (by have o1 := HC.out; have o2 := HC1.out; have o3 := HC2.out; omega), hof.aside q' HC1.out, row_past hra q' HC2.out⟩, q'.size, fun p ty cs h hne _ => h.aside q' hne, fun _ _ => k'⟩
    · intro A W hC hI hg hb
      have h6 : A.eval (.tmp 6) = .pointer (some ⟨C, 0, none⟩) := hb 6 (base_of (by kernel_rfl))
      exact does_value (v := .pointer (some ⟨C, 0, none⟩)) (w' := W) (by simp only [execOp, h6]; simp [go_sem]) ⟨rfl, hC, Nat.le_refl _, fun _ _ _ h _ _ => h, fun _ h => h⟩
    · intro A W hC hI hg hb
      have h23 : A.eval (.tmp 23) = .pointer (some ⟨C, 0, none⟩) := hg 7 23 (by decide) rfl (by simp [Op.operands, Call.operands]) (by kernel_rfl) rfl
      simp [go_sem] at h23
      refine does_enter (f := 40) (args := #[.pointer (some ⟨C, 0, none⟩)]) (w' := W) (by simp [go_sem, h23]) ?_
      obtain ⟨hbw, hd2, hof, hra⟩ := hC
      have hk : CurAt W C := hI 1 (by kernel_rfl)
      refine (l03Left_own C W hk).mono ?_
      rintro e W' ⟨zs, zo, zc, rfl, hz, hrz, _, k', q'⟩
      exact ⟨_, rfl, ⟨zs, zo, zc, rfl, hz, row_down hrz (by have := hd2.lt; omega)⟩, ⟨below_beyond hbw q' (by have o1 := HC.out; have o2 := HC1.out; have o3 := HC2.out; omega), hd2.aside q' (by have o1 := HC.out; have o2 := HC1.out; have o3 := HC2.out; omega), hof.aside q' HC1.out, row_past hra q' HC2.out⟩, q'.size, fun p ty cs h hne _ => h.aside q' hne, fun _ _ => k'⟩
    · intro A W hC hI hg hb
      have h2 : A.eval (.tmp 2) = .pointer (some ⟨w.heap.size, 0, none⟩) := hb 2 (base_of (by kernel_rfl))
      have h16 : A.eval (.tmp 16) = .agg #[.slice va l.length vc] := hg 0 16 (by decide) rfl (by simp [Op.operands]) (by kernel_rfl) rfl
      have hb : BlockIs W w.heap.size 26 [.slice none 0 0] := hI 0 (by kernel_rfl)
      have c0 := hb.cell (j := 0) rfl
      have f0 := hb.thaw 0
      obtain ⟨hbw, hd2, hof, hra⟩ := hC
      have far : ∀ p ty cs, BlockIs W p ty cs → p ≠ w.heap.size → BlockIs (W.setCell ⟨w.heap.size, 0, none⟩ (.slice va l.length vc)) p ty cs := fun p ty cs hp hne => hp.far (Ne.symm hne) _
      exact does_skip (w' := W.setCell ⟨w.heap.size, 0, none⟩ (.slice va l.length vc)) (by simp only [execOp, h2, h16]; simp [go_sem, c0, f0]) ⟨hb.set 0 _, ⟨hbw.setCell (p := ⟨w.heap.size, 0, none⟩) (Nat.le_refl _) _, far _ _ _ hd2 (by have o1 := HC.out; have o2 := HC1.out; have o3 := HC2.out; omega), own_ext hof (by simp [World.size_setCell]) fun g r hg h => far g _ _ h (by have o1 := HC.out; have o2 := HC1.out; have o3 := HC2.out; omega), row_from hra fun g cs hg h => far g _ _ h (by have o1 := HC.out; have o2 := HC1.out; have o3 := HC2.out; omega)⟩, by simp [World.size_setCell], fun p ty cs hp _ hne => far p ty cs hp (hne rfl), fun h _ => absurd rfl h⟩
    · intro A W hC hI hg hb
      have h17 : A.eval (.tmp 17) = .slice oa acts.length oc := hg 1 17 (by decide) rfl (by simp [Op.operands]) (by kernel_rfl) rfl
      exact does_value (v := .slice oa acts.length oc) (w' := W) (by simp [go_sem] at h17; simp [execOp, go_sem, h17]) ⟨rfl, hC, Nat.le_refl _, fun _ _ _ h _ _ => h, fun _ h => h⟩
    · intro A W hC hI hg hb
      have g6 := hg 6 22 (by decide) rfl (by simp [Op.operands]) (by kernel_rfl) rfl
      obtain ⟨x, h22⟩ := g6
      simp [go_sem] at h22
      exact does_value (v := .int .i64 x) (w' := W) (by simp [execOp, go_sem, h22]) ⟨⟨x, rfl⟩, hC, Nat.le_refl _, fun _ _ _ h _ _ => h, fun _ h => h⟩
    · intro A W hC hI hg hb
      have g8 := hg 8 24 (by decide) rfl (by simp [Op.operands]) (by kernel_rfl) rfl
      obtain ⟨zs, zo, zc, h24, hz, hrz⟩ := g8
      simp [go_sem] at h24
      exact does_value (v := .slice zo zs.length zc) (w' := W) (by simp [execOp, go_sem, h24]) ⟨⟨zs, zo, zc, rfl, hz, hrz⟩, hC, Nat.le_refl _, fun _ _ _ h _ _ => h, fun _ h => h⟩
  · intro vs w9 hC hI hg
    have h0 : BlockIs w9 w.heap.size 26 [.slice va l.length vc] := hg 9 (by decide) (fun k => by simp)
    have h10 : vs 10 = .slice oa acts.length oc := hg 10 (by decide) (fun k => by simp)
    obtain ⟨x9, h11⟩ : ∃ x : Int, vs 11 = .int .i64 x := hg 11 (by decide) (fun k => by simp)
    obtain ⟨zs, zo, zc, h12, hz, hrz⟩ := hg 12 (by decide) (fun k => by simp)
    change vs 12 = _ at h12
    obtain ⟨hbw, hd2, hof, hra⟩ := hC
    clear hg hI hd2
    change Exit.then _ _ _ (laidBy _ vs _ 13 _) w9
    simp only [laidBy, if_true, dstAt, List.getElem?_toArray, List.getElem?_cons_succ, List.getElem?_cons_zero, Option.bind_some]
    simp only [Act.put, List.setIfInBounds_toArray, List.set_cons_succ, List.set_cons_zero]
    rw [h10, h11, h12]
    have FIN := hid (And.intro (hof.files) (And.intro (row_acts hra) (And.intro (row_ints hrz) (And.intro (row_room hra) hbw))))
    have a0 := h0.cell (j := 0) rfl
    clear h0 h10 h11 h12 hbw hof hra hrz
    go_wp2
    refine bodyPost_ret (v := .tuple #[.agg #[.slice va l.length vc], .slice oa acts.length oc, .int .i64 x9, .slice zo zs.length zc]) (by simp [results, Try.results10, go_sem, a0]) rfl ?_
    exact ⟨va, vc, l, oa, oc, acts, x9, zo, zc, zs, rfl, hl, HM.out, hal, HAT.out, hz, FIN.out.1, FIN.out.2.1, FIN.out.2.2.1, FIN.out.2.2.2.1, FIN.out.2.2.2.2⟩
end Go.Proofs.Ytbbohfagnnobgaa
