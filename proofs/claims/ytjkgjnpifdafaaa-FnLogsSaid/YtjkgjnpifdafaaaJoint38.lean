/-
  The walk of spec.DrawRightLogs: two right logs of few entries.
-/
import Derived.Test.YtjkgjnpifdafaaaJoint36
import Derived.Test.YtjkgjnpifdafaaaJoint37
namespace Go.Proofs.Ytjkgjnpifdafaaa
open Go.RowKit

theorem below_beyond {B C : Nat} {w w1 w2 : World} (b : Below B w w1) (q : w1.grownBy w2 (some C)) (hC : B ≤ C) (hB : B ≤ w1.heap.size := by exact Below.size (by assumption)) : Below B w w2 := b.grown q hB (fun j hj => by cases hj; exact hC)
theorem BlockIs.aside {x y : World} {b C : Nat} {t : TypeId} {cs : List Value} (h : BlockIs x b t cs) (hg : x.grownBy y (some C)) (hne : b ≠ C) : BlockIs y b t cs := by
  unfold BlockIs
  rw [hg.block b h.lt (by simpa using hne)]
  exact h
theorem own_ext {x y : World} {t : TypeId} {cs : List Value} {n : Nat} {va : Option Addr} {lo : Nat} (h : OwnAt x t cs n va lo x.heap.size) (hs : x.heap.size ≤ y.heap.size) (hb : ∀ g r, lo ≤ g → BlockIs x g t (cs ++ r) → BlockIs y g t (cs ++ r)) : OwnAt y t cs n va lo y.heap.size :=
  h.imp id fun ⟨g, r, a, c, d, k⟩ => ⟨g, r, a, c, Nat.lt_of_lt_of_le d hs, hb g r c k⟩
/-- two right logs -/
def LogsDrew (w : World) (e : Ending) (w' : World) : Prop := ∃ (s t : Int) (va : Option Addr) (vc : Nat) (L : List EntD) (s' t' : Int) (va' : Option Addr) (vc' : Nat) (M : List EntD), e = .returned (.tuple #[.agg #[.int .i64 s, .int .i64 t, .slice va L.length vc], .agg #[.int .i64 s', .int .i64 t', .slice va' M.length vc']]) ∧ L.length ≤ 7 ∧ L.length ≤ vc ∧ logOk s t L = true ∧ s ≤ 6 ∧ (∀ d ∈ L, d.Tame) ∧ (M.length ≤ 10 ∧ M.length ≤ vc' ∧ logOk s' t' M = true ∧ (∀ d ∈ M, d.Tame)) ∧ EntsAt w' va L ∧ EntsAt w' va' M ∧ Below w.heap.size w w'

set_option maxRecDepth 1000000 in
set_option maxHeartbeats 4000000 in
theorem drawRightLogs_any (ao : Option Addr) (len cap : Nat) (hlen : len ≤ 1048576) (hcap : len ≤ cap) (w : World) (hr : Bytes w ao len) :
    Calls Try.prog 26 #[.slice ao len cap] w (LogsDrew w) := by
  have hx0 : BlockIs (w.alloc (.cells #[.int .i64 0, .int .i64 0, .slice none 0 0] 31)) w.heap.size 31 [.int .i64 0, .int .i64 0, .slice none 0 0] := heap_alloc_new w _
  have hx2 : BlockIs ((w.alloc (.cells #[.int .i64 0, .int .i64 0, .slice none 0 0] 31)).alloc (.cells #[.int .i64 0, .int .i64 0, .slice none 0 0] 31)) (w.heap.size + 1) 31 [.int .i64 0, .int .i64 0, .slice none 0 0] := by
    have := heap_alloc_new (w.alloc (.cells #[.int .i64 0, .int .i64 0, .slice none 0 0] 31)) (.cells #[.int .i64 0, .int .i64 0, .slice none 0 0] 31)
    rw [show (w.alloc (.cells #[.int .i64 0, .int .i64 0, .slice none 0 0] 31)).heap.size = w.heap.size + 1 by simp [World.alloc, -World.alloc_eq]] at this
    exact this
  have hx1 := hx0.on (below_more (Below.refl _ _) (.cells #[.int .i64 0, .int .i64 0, .slice none 0 0] 31)) hx0.lt
  have be := below_more (below_more (Below.refl w.heap.size w) (.cells #[.int .i64 0, .int .i64 0, .slice none 0 0] 31)) (.cells #[.int .i64 0, .int .i64 0, .slice none 0 0] 31)
  obtain ⟨W0, hW0⟩ : ∃ W, (w.alloc (.cells #[.int .i64 0, .int .i64 0, .slice none 0 0] 31)).alloc (.cells #[.int .i64 0, .int .i64 0, .slice none 0 0] 31) = W := ⟨_, rfl⟩
  rw [hW0] at be hx1 hx2
  have X0 := hid hx1
  have X1 := hid hx2
  have BW := hid be
  have HR := hid (bytes_on hr be)
  obtain ⟨C, hC⟩ : ∃ C, W0.heap.size = C := ⟨_, rfl⟩
  have HC : Hid (w.heap.size + 1 < C) := (show _ < _ by have := hx2.lt; omega)
  clear hx0 hx1 hx2 be hr
  go_enter Try.func26, Try.ntmps26
  go_wp2_with fail
  refine Calls.mono (l01New_any ao len cap hlen hcap _ HR.out) ?_
  rintro e w1 ⟨rfl, k1, b1⟩
  rw [hC] at k1 ⊢
  have K2 := hid k1
  have B2 := hid (below_via BW.out b1)
  have Y0 := hid (X0.out.on b1 X0.out.lt)
  have Y1 := hid (X1.out.on b1 X1.out.lt)
  have HS1 := hid b1.size
  clear k1 b1 BW X0 X1 HR
  have KC := K2
  have BW := B2
  have X0 := Y0
  have X1 := Y1
  clear K2 B2 Y0 Y1
  go_wp2_with fail
  refine Calls.mono (l06Right_right C _ KC.out) ?_
  rintro e w2 ⟨s, t, va, vc, L, rfl, hL, hok, hsm, ht9, ho, k2, q2⟩
  have HT := hid ht9
  have HCR : Hid (C < w1.heap.size) := KC.out.lt
  have HS2 := hid q2.size
  clear ht9
  have K2 := hid k2
  have B2 := hid (below_beyond BW.out q2 (by have := HC.out; omega))
  have Y0 := hid (X0.out.aside q2 (by have := HC.out; omega))
  have Y1 := hid (X1.out.aside q2 (by have := HC.out; omega))
  clear KC BW X0 X1 k2 q2
  have ba := below_more (Below.refl w2.heap.size w2) (.cells #[.int .i64 s, .int .i64 t, .slice va L.length vc] 31)
  have XL : Hid (BlockIs (w2.alloc (.cells #[.int .i64 s, .int .i64 t, .slice va L.length vc] 31)) w2.heap.size 31 [.int .i64 s, .int .i64 t, .slice va L.length vc]) := heap_alloc_new w2 _
  have NL : Hid (C < w2.heap.size) := (show _ < _ by have := HCR.out; have := HS2.out; omega)
  have KC := hid (K2.out.below ba)
  have BW := hid (below_via B2.out ba)
  have X0 := hid (Y0.out.on ba Y0.out.lt)
  have X1 := hid (Y1.out.on ba Y1.out.lt)
  have HO := hid (row_below ho ba)
  clear K2 B2 Y0 Y1 ba ho
  go_wp2
  refine wp_region_from (N := 14) (by kernel_rfl) (by kernel_rfl) rfl (by kernel_rfl) (fun W => Below w.heap.size w W ∧ BlockIs W w2.heap.size 31 [.int .i64 s, .int .i64 t, .slice va L.length vc] ∧ W.ownsRow w1.heap.size 35 3 (.slice va L.length vc) L.length (entCells L)) (fun j v u W => match j with | 0 => v = .agg #[.int .i64 s, .int .i64 t, .slice va L.length vc] | 1 => v = .pointer (some ⟨C, 0, none⟩) | 2 => v = .agg #[.int .i64 s, .int .i64 t, .slice va L.length vc] | 3 => ∃ (s' t' : Int) (va' : Option Addr) (vc' : Nat) (M : List EntD), v = .agg #[.int .i64 s', .int .i64 t', .slice va' M.length vc'] ∧ (M.length ≤ 10 ∧ M.length ≤ vc' ∧ logOk s' t' M = true ∧ (∀ d ∈ M, d.Tame)) ∧ OwnAt W 35 (entCells M) M.length va' w1.heap.size W.heap.size | 4 => BlockIs W w.heap.size 31 [.int .i64 s, .int .i64 t, .slice va L.length vc] | 5 => ∃ (s' t' : Int) (va' : Option Addr) (vc' : Nat) (M : List EntD), u = .agg #[.int .i64 s', .int .i64 t', .slice va' M.length vc'] ∧ (M.length ≤ 10 ∧ M.length ≤ vc' ∧ logOk s' t' M = true ∧ (∀ d ∈ M, d.Tame)) ∧ BlockIs W (w.heap.size + 1) 31 [.int .i64 s', .int .i64 t', .slice va' M.length vc'] ∧ OwnAt W 35 (entCells M) M.length va' w1.heap.size W.heap.size | _ => True) (fun i => if i = 5 then 3 else i) (fun _ _ => false) (fun i x y => x.heap.size ≤ y.heap.size ∧ (∀ g ty cs, BlockIs x g ty cs → g ≠ C → (i = 4 → g ≠ w.heap.size) → (i = 5 → g ≠ w.heap.size + 1) → BlockIs y g ty cs) ∧ (i ≠ 4 → i ≠ 5 → CurAt x C → CurAt y C)) (fun m W => match m with | 0 => BlockIs W w.heap.size 31 [.int .i64 0, .int .i64 0, .slice none 0 0] | 1 => BlockIs W (w.heap.size + 1) 31 [.int .i64 0, .int .i64 0, .slice none 0 0] | 2 => CurAt W C | _ => True) (fun m k => decide ((m, k) ∈ ([(0, 4), (1, 5), (2, 4), (2, 5)] : List (Nat × Nat)))) ?_ (fun i => if i = 5 then 13 else 0) (by kernel_rfl) (fun i hi => by have : 6 ≤ i := hi; simp; omega) ?_ ⟨below_via BW.out (below_drewN (Below.refl _ _) 1), XL.out.on (below_drewN (Below.refl _ _) 1) XL.out.lt, row_below HO.out (below_drewN (Below.refl _ _) 1)⟩ (fun m => match m with | 0 => X0.out.on (below_drewN (Below.refl _ _) 1) X0.out.lt | 1 => X1.out.on (below_drewN (Below.refl _ _) 1) X1.out.lt | 2 => KC.out.below (below_drewN (Below.refl _ _) 1) | _ + 3 => trivial) ?_ ?_
  · intro i m x y hen hxy hm
    match m, hen, hm with
    | 0, hen, hm =>
      simp at hen
      exact hxy.2.1 _ _ _ hm (by have := HC.out; omega) (fun e => absurd e hen) (fun _ => by omega)
    | 1, hen, hm =>
      simp at hen
      exact hxy.2.1 _ _ _ hm (by have := HC.out; omega) (fun _ => by omega) (fun e => absurd e hen)
    | 2, hen, hm =>
      simp at hen
      exact hxy.2.2 hen.1 hen.2 hm
    | n + 3, _, _ => exact trivial
  · intro i j v u x y hij hdd hwt hxy hg
    match j, hg with
    | 0, hg => exact hg
    | 1, hg => exact hg
    | 2, hg => exact hg
    | 3, hg =>
      obtain ⟨s', t', va', vc', M, e1, e2, e3⟩ := hg
      exact ⟨s', t', va', vc', M, e1, e2, own_ext e3 hxy.1 fun g r hlo h => hxy.2.1 _ _ _ h (by have o1 := HC.out; have o2 := HCR.out; omega) (fun _ => by have o1 := HC.out; have o2 := HCR.out; omega) (fun _ => by have o1 := HC.out; have o2 := HCR.out; omega)⟩
    | 4, hg =>
      exact hxy.2.1 _ _ _ hg (by have := HC.out; omega) (fun e => absurd e hij) (fun _ => by omega)
    | 5, hg =>
      obtain ⟨s', t', va', vc', M, e1, e2, e3, e4⟩ := hg
      exact ⟨s', t', va', vc', M, e1, e2, hxy.2.1 _ _ _ e3 (by have := HC.out; omega) (fun _ => by omega) (fun e => absurd e hij), own_ext e4 hxy.1 fun g r hlo h => hxy.2.1 _ _ _ h (by have o1 := HC.out; have o2 := HCR.out; omega) (fun _ => by have o1 := HC.out; have o2 := HCR.out; omega) (fun _ => by have o1 := HC.out; have o2 := HCR.out; omega)⟩
    | n + 6, _ => exact trivial
  · refine ⟨?_, ?_, ?_, ?_, ?_, ?_, trivial⟩
    · intro A W hC hI hg hb
      have h5 : A.eval (.tmp 5) = .pointer (some ⟨w2.heap.size, 0, none⟩) := hb 5 (base_of (by kernel_rfl))
      have hx := hC.2.1
      have c0 := hx.cell (j := 0) rfl
      have c1 := hx.cell (j := 1) rfl
      have c2 := hx.cell (j := 2) rfl
      exact does_value (v := .agg #[.int .i64 s, .int .i64 t, .slice va L.length vc]) (w' := W) (by simp only [execOp, h5]; simp [go_sem, c0, c1, c2]) ⟨rfl, hC, Nat.le_refl _, fun _ _ _ h _ _ _ => h, fun _ _ h => h⟩
    · intro A W hC hI hg hb
      have h4 : A.eval (.tmp 4) = .pointer (some ⟨C, 0, none⟩) := hb 4 (base_of (by kernel_rfl))
      exact does_value (v := .pointer (some ⟨C, 0, none⟩)) (w' := W) (by simp only [execOp, h4]; simp [go_sem]) ⟨rfl, hC, Nat.le_refl _, fun _ _ _ h _ _ _ => h, fun _ _ h => h⟩
    · intro A W hC hI hg hb
      have h5 : A.eval (.tmp 5) = .pointer (some ⟨w2.heap.size, 0, none⟩) := hb 5 (base_of (by kernel_rfl))
      have hx := hC.2.1
      have c0 := hx.cell (j := 0) rfl
      have c1 := hx.cell (j := 1) rfl
      have c2 := hx.cell (j := 2) rfl
      exact does_value (v := .agg #[.int .i64 s, .int .i64 t, .slice va L.length vc]) (w' := W) (by simp only [execOp, h5]; simp [go_sem, c0, c1, c2]) ⟨rfl, hC, Nat.le_refl _, fun _ _ _ h _ _ _ => h, fun _ _ h => h⟩
    · intro A W hC hI hg hb
      have h11 : A.eval (.tmp 11) = .pointer (some ⟨C, 0, none⟩) := hg 1 11 (by decide) rfl (by simp [Op.operands, Call.operands]) (by kernel_rfl) rfl
      have h12 : A.eval (.tmp 12) = .agg #[.int .i64 s, .int .i64 t, .slice va L.length vc] := hg 2 12 (by decide) rfl (by simp [Op.operands, Call.operands]) (by kernel_rfl) rfl
      simp [go_sem] at h11 h12
      refine does_enter (f := 59) (args := #[.pointer (some ⟨C, 0, none⟩), .agg #[.int .i64 s, .int .i64 t, .slice va L.length vc]]) (w' := W) (by simp [go_sem, h11, h12]) ?_
      obtain ⟨hbw, hl2, hrow⟩ := hC
      have hk : CurAt W C := hI 2 (by kernel_rfl)
      refine (l06Next_any C w1.heap.size s t va vc L hL hok hsm HT.out W hk hrow HCR.out).mono ?_
      rintro e W' ⟨s', t', va', vc', M, rfl, m1, m2, m3, m4, m5, k', q'⟩
      exact ⟨_, rfl, ⟨s', t', va', vc', M, rfl, ⟨m1, m2, m3, m4⟩, m5.down (show _ ≤ _ by have := hl2.lt; have := HS2.out; omega) (Nat.le_refl _)⟩, ⟨below_beyond hbw q' (by have := HC.out; omega), hl2.cur q' NL.out, row_past hrow q' HCR.out⟩, q'.size, fun p ty cs h hne _ _ => h.aside q' hne, fun _ _ _ => k'⟩
    · intro A W hC hI hg hb
      have h2 : A.eval (.tmp 2) = .pointer (some ⟨w.heap.size, 0, none⟩) := hb 2 (base_of (by kernel_rfl))
      have h10 : A.eval (.tmp 10) = .agg #[.int .i64 s, .int .i64 t, .slice va L.length vc] := hg 0 10 (by decide) rfl (by simp [Op.operands]) (by kernel_rfl) rfl
      have hb : BlockIs W (w.heap.size) 31 [.int .i64 0, .int .i64 0, .slice none 0 0] := hI 0 (by kernel_rfl)
      have c0 := hb.cell (j := 0) rfl
      have c1 := hb.cell (j := 1) rfl
      have c2 := hb.cell (j := 2) rfl
      have f0 := hb.thaw 0
      have f1 := hb.thaw 1
      have f2 := hb.thaw 2
      obtain ⟨hbw, hl2, hrow⟩ := hC
      have far : ∀ p ty cs, BlockIs W p ty cs → p ≠ w.heap.size → BlockIs (((W.setCell ⟨w.heap.size, 0, none⟩ (.int .i64 s)).setCell ⟨w.heap.size, 1, none⟩ (.int .i64 t)).setCell ⟨w.heap.size, 2, none⟩ (.slice va L.length vc)) p ty cs := fun p ty cs hp hne => ((hp.far (Ne.symm hne) _).far (Ne.symm hne) _).far (Ne.symm hne) _
      exact does_skip (w' := ((W.setCell ⟨w.heap.size, 0, none⟩ (.int .i64 s)).setCell ⟨w.heap.size, 1, none⟩ (.int .i64 t)).setCell ⟨w.heap.size, 2, none⟩ (.slice va L.length vc)) (by simp only [execOp, h2, h10]; simp [go_sem, c0, c1, c2, f0, f1, f2]) ⟨((hb.set 0 _).set 1 _).set 2 _, ⟨(((hbw.setCell (p := ⟨w.heap.size, 0, none⟩) (show w.heap.size ≤ w.heap.size by omega) (.int .i64 s)).setCell (p := ⟨w.heap.size, 1, none⟩) (show w.heap.size ≤ w.heap.size by omega) (.int .i64 t)).setCell (p := ⟨w.heap.size, 2, none⟩) (show w.heap.size ≤ w.heap.size by omega) (.slice va L.length vc)), far _ _ _ hl2 (by have o1 := HC.out; have o2 := HCR.out; have o3 := NL.out; omega), row_from hrow fun g cs hg h => far g _ _ h (by have o1 := HC.out; have o2 := HCR.out; have o3 := NL.out; omega)⟩, by simp [World.size_setCell], fun p ty cs hp _ hne _ => far p ty cs hp (hne rfl), fun h _ _ => absurd rfl h⟩
    · intro A W hC hI hg hb
      have h3 : A.eval (.tmp 3) = .pointer (some ⟨w.heap.size + 1, 0, none⟩) := hb 3 (base_of (by kernel_rfl))
      have g3 := hg 3 13 (by decide) rfl (by simp [Op.operands]) (by kernel_rfl) rfl
      obtain ⟨s', t', va', vc', M, h13, hm, hown⟩ := g3
      have hb : BlockIs W (w.heap.size + 1) 31 [.int .i64 0, .int .i64 0, .slice none 0 0] := hI 1 (by kernel_rfl)
      have c0 := hb.cell (j := 0) rfl
      have c1 := hb.cell (j := 1) rfl
      have c2 := hb.cell (j := 2) rfl
      have f0 := hb.thaw 0
      have f1 := hb.thaw 1
      have f2 := hb.thaw 2
      obtain ⟨hbw, hl2, hrow⟩ := hC
      have far : ∀ p ty cs, BlockIs W p ty cs → p ≠ w.heap.size + 1 → BlockIs (((W.setCell ⟨w.heap.size + 1, 0, none⟩ (.int .i64 s')).setCell ⟨w.heap.size + 1, 1, none⟩ (.int .i64 t')).setCell ⟨w.heap.size + 1, 2, none⟩ (.slice va' M.length vc')) p ty cs := fun p ty cs hp hne => ((hp.far (Ne.symm hne) _).far (Ne.symm hne) _).far (Ne.symm hne) _
      exact does_skip (w' := ((W.setCell ⟨w.heap.size + 1, 0, none⟩ (.int .i64 s')).setCell ⟨w.heap.size + 1, 1, none⟩ (.int .i64 t')).setCell ⟨w.heap.size + 1, 2, none⟩ (.slice va' M.length vc')) (by simp only [execOp, h3, h13]; simp [go_sem, c0, c1, c2, f0, f1, f2]) ⟨⟨s', t', va', vc', M, h13, hm, ((hb.set 0 _).set 1 _).set 2 _, own_ext hown (by simp [World.size_setCell]) fun g r hg h => far g _ _ h (by have o1 := HC.out; have o2 := HCR.out; omega)⟩, ⟨(((hbw.setCell (p := ⟨w.heap.size + 1, 0, none⟩) (show w.heap.size ≤ w.heap.size + 1 by omega) (.int .i64 s')).setCell (p := ⟨w.heap.size + 1, 1, none⟩) (show w.heap.size ≤ w.heap.size + 1 by omega) (.int .i64 t')).setCell (p := ⟨w.heap.size + 1, 2, none⟩) (show w.heap.size ≤ w.heap.size + 1 by omega) (.slice va' M.length vc')), far _ _ _ hl2 (by have o1 := HC.out; have o2 := HCR.out; have o3 := NL.out; omega), row_from hrow fun g cs hg h => far g _ _ h (by have o1 := HC.out; have o2 := HCR.out; have o3 := NL.out; omega)⟩, by simp [World.size_setCell], fun p ty cs hp _ _ hne => far p ty cs hp (hne rfl), fun _ h _ => absurd rfl h⟩
  · intro vs w9 hC hI hg
    have h0 : BlockIs w9 w.heap.size 31 [.int .i64 s, .int .i64 t, .slice va L.length vc] := hg 4 (by decide) (fun k => by simp)
    obtain ⟨s', t', va', vc', M, hu, hm, h1, hown⟩ := hg 5 (by decide) (fun k => by simp)
    change vs 3 = _ at hu
    obtain ⟨hbw, hl2, hrow⟩ := hC
    clear hg hI hl2
    change Exit.then _ _ _ (laidBy _ vs _ 6 _) w9
    simp only [laidBy, if_true, dstAt, List.getElem?_toArray, List.getElem?_cons_succ, List.getElem?_cons_zero, Option.bind_some]
    simp only [Act.put, List.setIfInBounds_toArray, List.set_cons_succ, List.set_cons_zero]
    have HE := hid (row_entries hrow)
    have HCP := hid (row_capacity hrow)
    have HEM := hid hown.ents
    have HM := hid hm
    have BW := hid hbw
    have a0 := h0.cell (j := 0) rfl
    have a1 := h0.cell (j := 1) rfl
    have a2 := h0.cell (j := 2) rfl
    have c0 := h1.cell (j := 0) rfl
    have c1 := h1.cell (j := 1) rfl
    have c2 := h1.cell (j := 2) rfl
    clear hrow hbw h0 h1 hu hown hm
    go_wp2
    refine bodyPost_ret (v := .tuple #[.agg #[.int .i64 s, .int .i64 t, .slice va L.length vc], .agg #[.int .i64 s', .int .i64 t', .slice va' M.length vc']]) (by simp [results, Try.results26, go_sem, a0, a1, a2, c0, c1, c2]) rfl ?_
    exact ⟨s, t, va, vc, L, s', t', va', vc', M, rfl, hL, HCP.out, hok, hsm.1, HT.out, HM.out, HE.out, HEM.out, BW.out⟩
end Go.Proofs.Ytjkgjnpifdafaaa
