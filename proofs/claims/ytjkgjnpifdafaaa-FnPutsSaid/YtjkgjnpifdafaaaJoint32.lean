/-
  The walk of spec.l06Any: some log of at most 61 entries, in memory of its own.
-/
import Derived.Test.YtjkgjnpifdafaaaJoint23
import Derived.Test.YtjkgjnpifdafaaaJoint31
namespace Go.Proofs.Ytjkgjnpifdafaaa
open Go.RowKit

theorem row_apart {x : World} {base size n b j : Nat} {t tb : TypeId} {v u : Value} {xs cs : List Value} (h : x.ownsRow base t size u n xs) (hb : BlockIs x b tb cs) (ht : tb ≠ t) : (x.setCell ⟨b, j, none⟩ v).ownsRow base t size u n xs :=
  row_from h fun g cs' _ q => q.far (by intro e; subst e; exact ht (block_one hb q).1) v
theorem BlockIs.past {x y : World} {b : Nat} {t : TypeId} {cs : List Value} {r : Option Nat} (h : BlockIs x b t cs) (hg : x.grownBy y r) (hr : ∀ j, r = some j → b < j) : BlockIs y b t cs := by
  unfold BlockIs
  rw [hg.block b h.lt (fun e => by have := hr b e.symm; omega)]
  exact h

set_option maxRecDepth 1000000 in
set_option maxHeartbeats 4000000 in
theorem l06Any_any (C : Nat) (w : World) (hc : CurAt w C) : Calls Try.prog 50 #[.pointer (some ⟨C, 0, none⟩)] w (LogDrew w C 61) := by
  obtain ⟨i0, hi, hz0, hz1, hz2⟩ := info_parts toEnt_info
  have hCl := hc.lt
  have K0 := hid hc
  have G0 := hid (World.grownBy.refl w (some C))
  clear hc
  have be := below_more (Below.refl w.heap.size w) (.cells #[.int .i64 0, .int .i64 0, .slice none 0 0] 31)
  have hx1 : BlockIs (w.alloc (.cells #[.int .i64 0, .int .i64 0, .slice none 0 0] 31)) w.heap.size 31 [.int .i64 0, .int .i64 0, .slice none 0 0] := heap_alloc_new w _
  have K1 := hid (K0.out.below be)
  have G1 := hid (grown_below G0.out be)
  have Xr1 := hid hx1
  have Nr : Hid (C < w.heap.size) := (show _ < _ by omega)
  have Mr : Hid (w.heap.size ≤ w.heap.size) := (show _ ≤ _ by omega)
  clear be hx1  K0 G0
  obtain ⟨W0, hW0⟩ : ∃ W, w.alloc (.cells #[.int .i64 0, .int .i64 0, .slice none 0 0] 31) = W := ⟨_, rfl⟩
  rw [hW0] at K1 G1 Xr1
  have zr0_2 := Xr1.out.cell (j := 0) rfl
  have zr1_2 := Xr1.out.cell (j := 1) rfl
  have zr2_2 := Xr1.out.cell (j := 2) rfl
  have yr0_2 := Xr1.out.thaw 0
  have yr1_2 := Xr1.out.thaw 1
  have yr2_2 := Xr1.out.thaw 2
  go_enter Try.func50, Try.ntmps50
  have HW0 := hid Xr1.out.lt
  go_wp2_with fail
  refine Calls.mono (l06Right_any C _ K1.out) ?_
  rintro e w1 ⟨s, t, va, vc, L, rfl, hL, hs, ht, ht9, ho, k1, q1⟩
  have HT := hid ht9
  have HW1 := hid q1.size
  have ba := below_more (Below.refl w1.heap.size w1) (.cells #[.int .i64 s, .int .i64 t, .slice va L.length vc] 31)
  have XB : Hid (BlockIs (w1.alloc (.cells #[.int .i64 s, .int .i64 t, .slice va L.length vc] 31)) w1.heap.size 31 [.int .i64 s, .int .i64 t, .slice va L.length vc]) := heap_alloc_new w1 _
  have XR := hid ((Xr1.out.cur q1 Nr.out).on ba (Xr1.out.cur q1 Nr.out).lt)
  have KC := hid (k1.below ba)
  have GC := hid (grown_below (G1.out.trans q1) ba)
  have HO := hid (row_below ho ba)
  have Arl : Hid (w.heap.size < w1.heap.size) := (show _ < _ by have := HW0.out; have := HW1.out; omega)
  have Ml : Hid (w.heap.size ≤ w1.heap.size) := (show _ ≤ _ by have := Arl.out; omega)
  have Nl : Hid (C < w1.heap.size) := (show _ < _ by have := Arl.out; omega)
  clear ht9 ho k1 q1 ba Xr1 K1 G1 zr0_2 zr1_2 zr2_2 yr0_2 yr1_2 yr2_2
  have zr0_1 := XR.out.cell (j := 0) rfl
  have yr0_1 := XR.out.thaw 0
  have zr1_1 := XR.out.cell (j := 1) rfl
  have yr1_1 := XR.out.thaw 1
  have zr2_1 := XR.out.cell (j := 2) rfl
  have yr2_1 := XR.out.thaw 2
  have zl0_1 := XB.out.cell (j := 0) rfl
  have yl0_1 := XB.out.thaw 0
  have zl1_1 := XB.out.cell (j := 1) rfl
  have yl1_1 := XB.out.thaw 1
  have zl2_1 := XB.out.cell (j := 2) rfl
  have yl2_1 := XB.out.thaw 2
  go_wp2_with fail
  refine Calls.mono (l01Below_any C 40 (by omega) (by omega) _ KC.out) ?_
  rintro e w2 ⟨y, rfl, y0, y1, k2, q2⟩
  have K2 := hid k2
  have G2 := hid (GC.out.trans q2)
  have R2 := hid (XR.out.cur q2 Nr.out)
  have B2 := hid (XB.out.cur q2 Nl.out)
  have H2 := hid (row_past HO.out q2 (by have o1 := HW0.out; have o2 := HW1.out; have o3 := Nr.out; omega))
  clear k2 q2 KC GC XR XB HO zr0_1 yr0_1 zr1_1 yr1_1 zr2_1 yr2_1 zl0_1 yl0_1 zl1_1 yl1_1 zl2_1 yl2_1
  have KC := K2
  have GC := G2
  have XR := R2
  have XB := B2
  have HO := H2
  clear K2 G2 R2 B2 H2
  have zr0_2 := XR.out.cell (j := 0) rfl
  have yr0_2 := XR.out.thaw 0
  have zr1_2 := XR.out.cell (j := 1) rfl
  have yr1_2 := XR.out.thaw 1
  have zr2_2 := XR.out.cell (j := 2) rfl
  have yr2_2 := XR.out.thaw 2
  have zl0_2 := XB.out.cell (j := 0) rfl
  have yl0_2 := XB.out.thaw 0
  have zl1_2 := XB.out.cell (j := 1) rfl
  have yl1_2 := XB.out.thaw 1
  have zl2_2 := XB.out.cell (j := 2) rfl
  have yl2_2 := XB.out.thaw 2
  by_cases h0 : y = 0
  · subst h0
    go_wp2_with fail
    refine Calls.mono (pickI_any C [-1, 1000000, 1000001, 999998] (by decide) (by decide) 3 _ _ rfl KC.out) ?_
    rintro e w3 ⟨x, rfl, hx, k3, q3⟩
    have hxb : -1 ≤ x ∧ x ≤ 1000001 := by simp at hx; omega
    clear hx
    have K2 := hid k3
    have G2 := hid (GC.out.trans q3)
    have R2 := hid (XR.out.cur q3 Nr.out)
    have B2 := hid (XB.out.cur q3 Nl.out)
    have H2 := hid (row_past HO.out q3 (by have o1 := HW0.out; have o2 := HW1.out; have o3 := Nr.out; omega))
    clear k3 q3 KC GC XR XB HO zr0_2 yr0_2 zr1_2 yr1_2 zr2_2 yr2_2 zl0_2 yl0_2 zl1_2 yl1_2 zl2_2 yl2_2
    have KC := K2
    have GC := G2
    have XR := R2
    have XB := B2
    have HO := H2
    clear K2 G2 R2 B2 H2
    have zr0_3 := XR.out.cell (j := 0) rfl
    have yr0_3 := XR.out.thaw 0
    have zr1_3 := XR.out.cell (j := 1) rfl
    have yr1_3 := XR.out.thaw 1
    have zr2_3 := XR.out.cell (j := 2) rfl
    have yr2_3 := XR.out.thaw 2
    have zl0_3 := XB.out.cell (j := 0) rfl
    have yl0_3 := XB.out.thaw 0
    have zl1_3 := XB.out.cell (j := 1) rfl
    have yl1_3 := XB.out.thaw 1
    have zl2_3 := XB.out.cell (j := 2) rfl
    have yl2_3 := XB.out.thaw 2
    have K2 := hid (KC.out.set (b := w1.heap.size) (j := 0) (v := (.int .i64 x)) Nl.out)
    have G2 := hid (grown_far (b := w1.heap.size) (j := 0) (v := (.int .i64 x)) GC.out Ml.out)
    have R2 := hid (XR.out.far (b := w1.heap.size) (j := 0) (by have := Arl.out; omega) (.int .i64 x))
    have B2 := hid (XB.out.set 0 (.int .i64 x))
    have H2 := hid (row_apart (b := w1.heap.size) (j := 0) (v := (.int .i64 x)) HO.out XB.out (by decide))
    clear KC GC XR XB HO
    have KC := K2
    have GC := G2
    have XR := R2
    have XB := B2
    have HO := H2
    clear K2 G2 R2 B2 H2
    have zr0_4 := XR.out.cell (j := 0) rfl
    have yr0_4 := XR.out.thaw 0
    have zr1_4 := XR.out.cell (j := 1) rfl
    have yr1_4 := XR.out.thaw 1
    have zr2_4 := XR.out.cell (j := 2) rfl
    have yr2_4 := XR.out.thaw 2
    have zl0_4 := XB.out.cell (j := 0) rfl
    have yl0_4 := XB.out.thaw 0
    have zl1_4 := XB.out.cell (j := 1) rfl
    have yl1_4 := XB.out.thaw 1
    have zl2_4 := XB.out.cell (j := 2) rfl
    have yl2_4 := XB.out.thaw 2
    have KL := hid (((KC.out.set (b := w.heap.size) (j := 0) (v := .int .i64 x) Nr.out).set (b := w.heap.size) (j := 1) (v := .int .i64 t) Nr.out).set (b := w.heap.size) (j := 2) (v := .slice va L.length vc) Nr.out)
    have GL := hid (grown_far (b := w.heap.size) (j := 2) (v := .slice va L.length vc) (grown_far (b := w.heap.size) (j := 1) (v := .int .i64 t) (grown_far (b := w.heap.size) (j := 0) (v := .int .i64 x) GC.out Mr.out) Mr.out) Mr.out)
    have HL := hid (row_down (row_set (b := w.heap.size) (j := 2) (v := .slice va L.length vc) (row_set (b := w.heap.size) (j := 1) (v := .int .i64 t) (row_set (b := w.heap.size) (j := 0) (v := .int .i64 x) HO.out (by have o1 := HW0.out; have o2 := HW1.out; have o3 := Nr.out; omega)) (by have o1 := HW0.out; have o2 := HW1.out; have o3 := Nr.out; omega)) (by have o1 := HW0.out; have o2 := HW1.out; have o3 := Nr.out; omega)) (show w.heap.size ≤ _ by have o1 := HW0.out; have o2 := HW1.out; have o3 := Nr.out; omega))
    clear KC GC XR XB HO
    go_wp2
    refine bodyPost_ret (v := .agg #[.int .i64 x, .int .i64 t, .slice va L.length vc]) (by simp [results, Try.results50, go_sem, zr0_4, zr1_4, zr2_4]) rfl ?_
    exact ⟨x, t, _, _, L, rfl, by omega, hxb, ht, HT.out, HL.out, KL.out, GL.out⟩
  by_cases h1 : y = 1
  · subst h1
    clear h0
    go_wp2_with fail
    refine Calls.mono (pickI_any C [-1, 9, 100001] (by decide) (by decide) 3 _ _ rfl KC.out) ?_
    rintro e w3 ⟨x, rfl, hx, k3, q3⟩
    have hxb : -1 ≤ x ∧ x ≤ 100001 := by simp at hx; omega
    clear hx
    have K2 := hid k3
    have G2 := hid (GC.out.trans q3)
    have R2 := hid (XR.out.cur q3 Nr.out)
    have B2 := hid (XB.out.cur q3 Nl.out)
    have H2 := hid (row_past HO.out q3 (by have o1 := HW0.out; have o2 := HW1.out; have o3 := Nr.out; omega))
    clear k3 q3 KC GC XR XB HO zr0_2 yr0_2 zr1_2 yr1_2 zr2_2 yr2_2 zl0_2 yl0_2 zl1_2 yl1_2 zl2_2 yl2_2
    have KC := K2
    have GC := G2
    have XR := R2
    have XB := B2
    have HO := H2
    clear K2 G2 R2 B2 H2
    have zr0_3 := XR.out.cell (j := 0) rfl
    have yr0_3 := XR.out.thaw 0
    have zr1_3 := XR.out.cell (j := 1) rfl
    have yr1_3 := XR.out.thaw 1
    have zr2_3 := XR.out.cell (j := 2) rfl
    have yr2_3 := XR.out.thaw 2
    have zl0_3 := XB.out.cell (j := 0) rfl
    have yl0_3 := XB.out.thaw 0
    have zl1_3 := XB.out.cell (j := 1) rfl
    have yl1_3 := XB.out.thaw 1
    have zl2_3 := XB.out.cell (j := 2) rfl
    have yl2_3 := XB.out.thaw 2
    have K2 := hid (KC.out.set (b := w1.heap.size) (j := 1) (v := (.int .i64 x)) Nl.out)
    have G2 := hid (grown_far (b := w1.heap.size) (j := 1) (v := (.int .i64 x)) GC.out Ml.out)
    have R2 := hid (XR.out.far (b := w1.heap.size) (j := 1) (by have := Arl.out; omega) (.int .i64 x))
    have B2 := hid (XB.out.set 1 (.int .i64 x))
    have H2 := hid (row_apart (b := w1.heap.size) (j := 1) (v := (.int .i64 x)) HO.out XB.out (by decide))
    clear KC GC XR XB HO
    have KC := K2
    have GC := G2
    have XR := R2
    have XB := B2
    have HO := H2
    clear K2 G2 R2 B2 H2
    have zr0_4 := XR.out.cell (j := 0) rfl
    have yr0_4 := XR.out.thaw 0
    have zr1_4 := XR.out.cell (j := 1) rfl
    have yr1_4 := XR.out.thaw 1
    have zr2_4 := XR.out.cell (j := 2) rfl
    have yr2_4 := XR.out.thaw 2
    have zl0_4 := XB.out.cell (j := 0) rfl
    have yl0_4 := XB.out.thaw 0
    have zl1_4 := XB.out.cell (j := 1) rfl
    have yl1_4 := XB.out.thaw 1
    have zl2_4 := XB.out.cell (j := 2) rfl
    have yl2_4 := XB.out.thaw 2
    have KL := hid (((KC.out.set (b := w.heap.size) (j := 0) (v := .int .i64 s) Nr.out).set (b := w.heap.size) (j := 1) (v := .int .i64 x) Nr.out).set (b := w.heap.size) (j := 2) (v := .slice va L.length vc) Nr.out)
    have GL := hid (grown_far (b := w.heap.size) (j := 2) (v := .slice va L.length vc) (grown_far (b := w.heap.size) (j := 1) (v := .int .i64 x) (grown_far (b := w.heap.size) (j := 0) (v := .int .i64 s) GC.out Mr.out) Mr.out) Mr.out)
    have HL := hid (row_down (row_set (b := w.heap.size) (j := 2) (v := .slice va L.length vc) (row_set (b := w.heap.size) (j := 1) (v := .int .i64 x) (row_set (b := w.heap.size) (j := 0) (v := .int .i64 s) HO.out (by have o1 := HW0.out; have o2 := HW1.out; have o3 := Nr.out; omega)) (by have o1 := HW0.out; have o2 := HW1.out; have o3 := Nr.out; omega)) (by have o1 := HW0.out; have o2 := HW1.out; have o3 := Nr.out; omega)) (show w.heap.size ≤ _ by have o1 := HW0.out; have o2 := HW1.out; have o3 := Nr.out; omega))
    clear KC GC XR XB HO
    go_wp2
    refine bodyPost_ret (v := .agg #[.int .i64 s, .int .i64 x, .slice va L.length vc]) (by simp [results, Try.results50, go_sem, zr0_4, zr1_4, zr2_4]) rfl ?_
    exact ⟨s, x, _, _, L, rfl, by omega, hs, hxb, HT.out, HL.out, KL.out, GL.out⟩
  by_cases h2 : y = 2
  · subst h2
    clear h0
    clear h1
    go_wp2
    clear zr0_2 yr0_2 zr1_2 yr1_2 zr2_2 yr2_2 zl0_2 yl0_2 zl1_2 yl1_2 zl2_2 yl2_2
    refine wp_region_from (N := 60) (by kernel_rfl) (by kernel_rfl) rfl (by kernel_rfl) (fun W => CurAt W C ∧ w.grownBy W (some C) ∧ BlockIs W (w.heap.size) 31 [.int .i64 0, .int .i64 0, .slice none 0 0]) (fun j v u W => match j with | 0 => v = .pointer (some ⟨w1.heap.size, 2, none⟩) | 1 => v = .slice va L.length vc | 2 => v = .pointer (some ⟨C, 0, none⟩) | 3 => ∃ d : EntD, v = .agg #[.int .i64 d.term, .int .i64 d.kind, .string d.data] ∧ d.Tame | 4 => ∃ (g : Nat) (d : EntD), v = .slice (some ⟨g, 0, none⟩) 1 1 ∧ d.Tame ∧ W0.heap.size ≤ g ∧ BlockIs W g 35 (entEnc d) | 5 => ∃ (va' : Option Addr) (vc' : Nat) (d : EntD), v = .slice va' (L.length + 1) vc' ∧ d.Tame ∧ W.ownsRow (W0.heap.size) 35 3 (.slice va' (L.length + 1) vc') (L.length + 1) (entCells (L ++ [d])) | 6 => v = .pointer (some ⟨w1.heap.size, 2, none⟩) | 7 => ∃ (va' : Option Addr) (vc' : Nat) (d : EntD), u = .slice va' (L.length + 1) vc' ∧ d.Tame ∧ W.ownsRow (W0.heap.size) 35 3 (.slice va' (L.length + 1) vc') (L.length + 1) (entCells (L ++ [d])) ∧ BlockIs W (w1.heap.size) 31 [.int .i64 s, .int .i64 t, .slice va' (L.length + 1) vc'] | _ => True) (fun i => if i = 7 then 5 else i) (fun j i => decide ((j, i) ∈ ([(4, 5)] : List (Nat × Nat)))) (fun i x y => x.heap.size ≤ y.heap.size ∧ ∀ g ty cs, BlockIs x g ty cs → W0.heap.size ≤ g → (i = 5 → ty ≠ 35) → (i = 7 → ty ≠ 31) → BlockIs y g ty cs) (fun m W => match m with | 0 => W.ownsRow (W0.heap.size) 35 3 (.slice va L.length vc) L.length (entCells L) | 1 => BlockIs W (w1.heap.size) 31 [.int .i64 s, .int .i64 t, .slice va L.length vc] | _ => True) (fun m k => decide ((m, k) ∈ ([(0, 5), (1, 7)] : List (Nat × Nat)))) ?_ (fun i => if i = 7 then 30 else 0) (by kernel_rfl) (fun i hi => by have : 8 ≤ i := hi; simp; omega) ?_ ⟨KC.out.below (below_drewN (Below.refl _ _) 1), grown_below GC.out (below_drewN (Below.refl _ _) 1), XR.out.on (below_drewN (Below.refl _ _) 1) XR.out.lt⟩ (fun m => match m with | 0 => row_below HO.out (below_drewN (Below.refl _ _) 1) | 1 => XB.out.on (below_drewN (Below.refl _ _) 1) XB.out.lt | _ + 2 => trivial) ?_ ?_
    · intro i m x y hen hxy hm
      match m, hen, hm with
      | 0, hen, hm =>
        simp at hen
        exact row_from hm fun g cs hg h => hxy.2 _ _ _ h (by have o1 := HW0.out; have o2 := HW1.out; have o3 := Nr.out; omega) (fun e => absurd e hen) (fun _ => by decide)
      | 1, hen, hm =>
        simp at hen
        exact hxy.2 _ _ _ hm (by have o1 := HW0.out; have o2 := HW1.out; have o3 := Nr.out; omega) (fun _ => by decide) (fun e => absurd e hen)
      | n + 2, _, _ => exact trivial
    · intro i j v u x y hij hdd hwt hxy hg
      match j, hg with
      | 0, hg => exact hg
      | 1, hg => exact hg
      | 2, hg => exact hg
      | 3, hg => exact hg
      | 4, hg =>
        obtain ⟨g, d, e1, hd, hlt, e2⟩ := hg
        simp at hdd
        exact ⟨g, d, e1, hd, hlt, hxy.2 _ _ _ e2 hlt (fun e => absurd e hdd) (fun _ => by decide)⟩
      | 5, hg =>
        obtain ⟨va', vc', d, e1, hd, e2⟩ := hg
        exact ⟨va', vc', d, e1, hd, row_from e2 fun g cs hg h => hxy.2 _ _ _ h (by have o1 := HW0.out; have o2 := HW1.out; have o3 := Nr.out; omega) (fun e => absurd e hij) (fun _ => by decide)⟩
      | 6, hg => exact hg
      | 7, hg =>
        obtain ⟨va', vc', d, e1, hd, e2, e3⟩ := hg
        have h6 : i ≠ 5 := by rintro rfl; exact Bool.noConfusion (hwt.symm.trans (by kernel_rfl : waitsB _ 7 5 = true))
        exact ⟨va', vc', d, e1, hd, row_from e2 fun g cs hg h => hxy.2 _ _ _ h (by have o1 := HW0.out; have o2 := HW1.out; have o3 := Nr.out; omega) (fun e => absurd e h6) (fun _ => by decide), hxy.2 _ _ _ e3 (by have o1 := HW0.out; have o2 := HW1.out; have o3 := Nr.out; omega) (fun _ => by decide) (fun e => absurd e hij)⟩
      | n + 8, _ => exact trivial
    · refine ⟨?_, ?_, ?_, ?_, ?_, ?_, ?_, ?_, trivial⟩
      · intro A W hC hI hg hb
        have h3 : A.eval (.tmp 3) = .pointer (some ⟨w1.heap.size, 0, none⟩) := hb 3 (base_of (by kernel_rfl))
        exact does_value (v := .pointer (some ⟨w1.heap.size, 2, none⟩)) (w' := W) (by simp only [execOp, h3]; simp [go_sem]) ⟨rfl, hC, Nat.le_refl _, fun _ _ _ h _ _ _ => h⟩
      · intro A W hC hI hg hb
        have h25 : A.eval (.tmp 25) = .pointer (some ⟨w1.heap.size, 2, none⟩) := hg 0 25 (by decide) rfl (by simp [Op.operands]) (by kernel_rfl) rfl
        have hb1 : BlockIs W (w1.heap.size) 31 [.int .i64 s, .int .i64 t, .slice va L.length vc] := hI 1 (by kernel_rfl)
        have hc := hb1.cell (j := 2) rfl
        exact does_value (v := .slice va L.length vc) (w' := W) (by simp only [execOp, h25]; simp [go_sem, hc]) ⟨rfl, hC, Nat.le_refl _, fun _ _ _ h _ _ _ => h⟩
      · intro A W hC hI hg hb
        have h0 : A.eval (.tmp 0) = .pointer (some ⟨C, 0, none⟩) := hb 0 (base_of (by kernel_rfl))
        exact does_value (v := .pointer (some ⟨C, 0, none⟩)) (w' := W) (by simp only [execOp, h0]; simp [go_sem]) ⟨rfl, hC, Nat.le_refl _, fun _ _ _ h _ _ _ => h⟩
      · intro A W hC hI hg hb
        have h27 : A.eval (.tmp 27) = .pointer (some ⟨C, 0, none⟩) := hg 2 27 (by decide) rfl (by simp [Op.operands, Call.operands]) (by kernel_rfl) rfl
        simp [go_sem] at h27
        refine does_enter (f := 55) (args := #[.pointer (some ⟨C, 0, none⟩)]) (w' := W) (by simp [go_sem, h27]) ?_
        obtain ⟨hk, hgr, hr⟩ := hC
        refine (l05Any_any C W hk).mono ?_
        rintro e W' ⟨d, rfl, hd, k', q'⟩
        exact ⟨_, rfl, ⟨d, rfl, hd⟩, ⟨k', hgr.trans q', hr.cur q' Nr.out⟩, q'.size, fun g ty cs h hg _ _ => h.cur q' (by have o1 := HW0.out; have o2 := HW1.out; have o3 := Nr.out; omega)⟩
      · intro A W hC hI hg hb
        have g3 := hg 3 28 (by decide) rfl (by simp [Op.operands]) (by kernel_rfl) rfl
        obtain ⟨d, h28, hd⟩ := g3
        simp [go_sem] at h28
        have hb1 : BlockIs W (w1.heap.size) 31 [.int .i64 s, .int .i64 t, .slice va L.length vc] := hI 1 (by kernel_rfl)
        have ba := below_more (Below.refl W.heap.size W) (.cells #[.int .i64 d.term, .int .i64 d.kind, .string d.data] 35)
        exact does_value (v := .slice (some ⟨W.heap.size, 0, none⟩) 1 1) (w' := W.alloc (.cells #[.int .i64 d.term, .int .i64 d.kind, .string d.data] 35)) (by simp [execOp, go_sem, h28]) ⟨⟨_, d, rfl, hd, by have := hb1.lt; have o1 := HW0.out; have o2 := HW1.out; have o3 := Nr.out; omega, heap_alloc_new W _⟩, ⟨hC.1.below ba, grown_below hC.2.1 ba, hC.2.2.on ba hC.2.2.lt⟩, ba.size, fun g ty cs h _ _ _ => h.on ba h.lt⟩
      · intro A W hC hI hg hb
        have h26 : A.eval (.tmp 26) = .slice va L.length vc := hg 1 26 (by decide) rfl (by simp [Op.operands, Call.operands]) (by kernel_rfl) rfl
        have g4 := hg 4 29 (by decide) rfl (by simp [Op.operands, Call.operands]) (by kernel_rfl) rfl
        obtain ⟨g, d, h29, hd, hlt, hbl⟩ := g4
        have hb1 : BlockIs W (w1.heap.size) 31 [.int .i64 s, .int .i64 t, .slice va L.length vc] := hI 1 (by kernel_rfl)
        have hrow : W.ownsRow (W0.heap.size) 35 3 (.slice va L.length vc) L.length (entCells L) := hI 0 (by kernel_rfl)
        obtain ⟨v', W', hr, h2, h3⟩ := append_one (by omega) (by have := hb1.lt; have o1 := HW0.out; have o2 := HW1.out; have o3 := Nr.out; omega) hrow hbl
        obtain ⟨va', vc', rfl⟩ := row_shape h2
        rw [← entCells_snoc] at h2
        have hown : ∀ j, (Value.slice va L.length vc).ownBlock = some j → W0.heap.size ≤ j := fun j hj => (row_block hrow hj).elim fun _ h => h.2
        refine does_value (v := .slice va' (L.length + 1) vc') (w' := W') (by simp only [execOp, resolve, invoke, builtin, Sem.run_bind, Sem.run_pure, Result.andThen_ok, List.map_toArray, List.map_cons, List.map_nil, h26, h29, hr]) ⟨⟨va', vc', d, rfl, hd, h2⟩, ⟨hC.1.kept h3 (fun j hj => by have := hown j hj; have o1 := HW0.out; have o2 := HW1.out; have o3 := Nr.out; omega), grown_row hC.2.1 h3 (fun j hj => by have := hown j hj; have o1 := HW0.out; have o2 := HW1.out; have o3 := Nr.out; omega), ?_⟩, h3.size, fun p ty cs hp _ hne _ => ?_⟩
        · unfold BlockIs
          rw [h3.block _ hC.2.2.lt (fun e => by have := hown _ e.symm; have o1 := HW0.out; have o2 := HW1.out; have o3 := Nr.out; omega)]
          exact hC.2.2
        · have hpg : some p ≠ (Value.slice va L.length vc).ownBlock := by
            intro e
            obtain ⟨cs', hb', _⟩ := row_block hrow e.symm
            exact hne rfl (block_one hp hb').1
          unfold BlockIs
          rw [h3.block p hp.lt hpg]
          exact hp
      · intro A W hC hI hg hb
        have h3 : A.eval (.tmp 3) = .pointer (some ⟨w1.heap.size, 0, none⟩) := hb 3 (base_of (by kernel_rfl))
        exact does_value (v := .pointer (some ⟨w1.heap.size, 2, none⟩)) (w' := W) (by simp only [execOp, h3]; simp [go_sem]) ⟨rfl, hC, Nat.le_refl _, fun _ _ _ h _ _ _ => h⟩
      · intro A W hC hI hg hb
        have h31 : A.eval (.tmp 31) = .pointer (some ⟨w1.heap.size, 2, none⟩) := hg 6 31 (by decide) rfl (by simp [Op.operands]) (by kernel_rfl) rfl
        have g5 := hg 5 30 (by decide) rfl (by simp [Op.operands]) (by kernel_rfl) rfl
        obtain ⟨va', vc', d, h30, hd, hrow⟩ := g5
        have hb1 : BlockIs W (w1.heap.size) 31 [.int .i64 s, .int .i64 t, .slice va L.length vc] := hI 1 (by kernel_rfl)
        have c2 := hb1.cell (j := 2) rfl
        have f2 := hb1.thaw 2
        have far : ∀ p ty cs, BlockIs W p ty cs → ty ≠ 31 → BlockIs (W.setCell ⟨w1.heap.size, 2, none⟩ (.slice va' (L.length + 1) vc')) p ty cs := fun p ty cs hp hne => hp.far (by intro e; subst e; exact hne (block_one hp hb1).1) _
        exact does_skip (w' := W.setCell ⟨w1.heap.size, 2, none⟩ (.slice va' (L.length + 1) vc')) (by simp only [execOp, h31, h30]; simp [go_sem, c2, f2]) ⟨⟨va', vc', d, h30, hd, row_from hrow fun g cs _ h => far g _ _ h (by decide), hb1.set 2 _⟩, ⟨hC.1.set Nl.out, grown_far hC.2.1 Ml.out, hC.2.2.far (by have o1 := HW0.out; have o2 := HW1.out; have o3 := Nr.out; omega) _⟩, by simp [World.size_setCell], fun p ty cs hp _ _ hne => far p ty cs hp (hne rfl)⟩
    · intro vs wE hC hI hg
      obtain ⟨va', vc', d, hu, hd, ho, hb⟩ := hg 7 (by decide) (fun k => by simp)
      change vs 5 = _ at hu
      clear hg hI
      obtain ⟨hk, hgr, hr⟩ := hC
      change Exit.inBlock 0 (Exit.then _ _) _ (laidBy _ vs _ 8 _) wE
      simp only [laidBy, if_true, dstAt, List.getElem?_toArray, List.getElem?_cons_succ, List.getElem?_cons_zero, Option.bind_some]
      simp only [Act.put, List.setIfInBounds_toArray, List.set_cons_succ, List.set_cons_zero]
      clear hu KC GC XR XB HO
      have KC := hid hk
      have GC := hid hgr
      have XR := hid hr
      have XB := hid hb
      have HO := hid ho
      clear hk hgr hr hb ho
      have HT2 : Hid (∀ f ∈ L ++ [d], f.Tame) := fun f hf => (List.mem_append.1 hf).elim (HT.out f) fun q => by rw [List.mem_singleton.1 q]; exact hd
      have HL9 : (L ++ [d]).length = L.length + 1 := by simp
      rw [← HL9] at XB HO
      obtain ⟨M, hM⟩ : ∃ M, L ++ [d] = M := ⟨_, rfl⟩
      rw [hM] at XB HO HT2 HL9
      have HM8 : Hid (M.length ≤ 8) := (show _ ≤ _ by omega)
      clear hM HL9 HT
      have HT := HT2
      clear HT2
      have zr0_3 := XR.out.cell (j := 0) rfl
      have yr0_3 := XR.out.thaw 0
      have zr1_3 := XR.out.cell (j := 1) rfl
      have yr1_3 := XR.out.thaw 1
      have zr2_3 := XR.out.cell (j := 2) rfl
      have yr2_3 := XR.out.thaw 2
      have zl0_3 := XB.out.cell (j := 0) rfl
      have yl0_3 := XB.out.thaw 0
      have zl1_3 := XB.out.cell (j := 1) rfl
      have yl1_3 := XB.out.thaw 1
      have zl2_3 := XB.out.cell (j := 2) rfl
      have yl2_3 := XB.out.thaw 2
      have KL := hid (((KC.out.set (b := w.heap.size) (j := 0) (v := .int .i64 s) Nr.out).set (b := w.heap.size) (j := 1) (v := .int .i64 t) Nr.out).set (b := w.heap.size) (j := 2) (v := .slice va' M.length vc') Nr.out)
      have GL := hid (grown_far (b := w.heap.size) (j := 2) (v := .slice va' M.length vc') (grown_far (b := w.heap.size) (j := 1) (v := .int .i64 t) (grown_far (b := w.heap.size) (j := 0) (v := .int .i64 s) GC.out Mr.out) Mr.out) Mr.out)
      have HL := hid (row_down (row_set (b := w.heap.size) (j := 2) (v := .slice va' M.length vc') (row_set (b := w.heap.size) (j := 1) (v := .int .i64 t) (row_set (b := w.heap.size) (j := 0) (v := .int .i64 s) HO.out (by have o1 := HW0.out; have o2 := HW1.out; have o3 := Nr.out; omega)) (by have o1 := HW0.out; have o2 := HW1.out; have o3 := Nr.out; omega)) (by have o1 := HW0.out; have o2 := HW1.out; have o3 := Nr.out; omega)) (show w.heap.size ≤ _ by have o1 := HW0.out; have o2 := HW1.out; have o3 := Nr.out; omega))
      clear KC GC XR XB HO
      go_wp2
      refine bodyPost_ret (v := .agg #[.int .i64 s, .int .i64 t, .slice va' M.length vc']) (by simp [results, Try.results50, go_sem, zr0_3, zr1_3, zr2_3]) rfl ?_
      exact ⟨s, t, _, _, M, rfl, by have := HM8.out; omega, hs, ht, HT.out, HL.out, KL.out, GL.out⟩
  by_cases h3 : y = 3
  · subst h3
    clear h0
    clear h1
    clear h2
    have ba := below_more (Below.refl w2.heap.size w2) (.cells #[] 35)
    have HW2 := hid XB.out.lt
    have K2 := hid (KC.out.below ba)
    have G2 := hid (grown_below GC.out ba)
    have R2 := hid (XR.out.on ba XR.out.lt)
    have B2 := hid (XB.out.on ba XB.out.lt)
    have H2 := hid (row_below HO.out ba)
    clear ba KC GC XR XB HO zr0_2 yr0_2 zr1_2 yr1_2 zr2_2 yr2_2 zl0_2 yl0_2 zl1_2 yl1_2 zl2_2 yl2_2
    have KC := K2
    have GC := G2
    have XR := R2
    have XB := B2
    have HO := H2
    clear K2 G2 R2 B2 H2
    have zr0_3 := XR.out.cell (j := 0) rfl
    have yr0_3 := XR.out.thaw 0
    have zr1_3 := XR.out.cell (j := 1) rfl
    have yr1_3 := XR.out.thaw 1
    have zr2_3 := XR.out.cell (j := 2) rfl
    have yr2_3 := XR.out.thaw 2
    have zl0_3 := XB.out.cell (j := 0) rfl
    have yl0_3 := XB.out.thaw 0
    have zl1_3 := XB.out.cell (j := 1) rfl
    have yl1_3 := XB.out.thaw 1
    have zl2_3 := XB.out.cell (j := 2) rfl
    have yl2_3 := XB.out.thaw 2
    clear HO
    have HO : Hid (World.ownsRow (w2.alloc (.cells #[] 35)) (w1.heap.size + 1) 35 3 (.slice (some ⟨w2.heap.size, 0, none⟩) 0 0) 0 (entCells [])) := row_down (World.ownsRow_made w2 #[] 0 (Nat.le_refl _) (Nat.zero_le _) rfl) (show _ + 1 ≤ _ by have := HW2.out; omega)
    have K2 := hid (KC.out.set (b := w1.heap.size) (j := 2) (v := (.slice (some ⟨w2.heap.size, 0, none⟩) 0 0)) Nl.out)
    have G2 := hid (grown_far (b := w1.heap.size) (j := 2) (v := (.slice (some ⟨w2.heap.size, 0, none⟩) 0 0)) GC.out Ml.out)
    have R2 := hid (XR.out.far (b := w1.heap.size) (j := 2) (by have := Arl.out; omega) (.slice (some ⟨w2.heap.size, 0, none⟩) 0 0))
    have B2 := hid (XB.out.set 2 (.slice (some ⟨w2.heap.size, 0, none⟩) 0 0))
    have H2 := hid (row_apart (b := w1.heap.size) (j := 2) (v := (.slice (some ⟨w2.heap.size, 0, none⟩) 0 0)) HO.out XB.out (by decide))
    clear KC GC XR XB HO
    have KC := K2
    have GC := G2
    have XR := R2
    have XB := B2
    have HO := H2
    clear K2 G2 R2 B2 H2
    have zr0_4 := XR.out.cell (j := 0) rfl
    have yr0_4 := XR.out.thaw 0
    have zr1_4 := XR.out.cell (j := 1) rfl
    have yr1_4 := XR.out.thaw 1
    have zr2_4 := XR.out.cell (j := 2) rfl
    have yr2_4 := XR.out.thaw 2
    have zl0_4 := XB.out.cell (j := 0) rfl
    have yl0_4 := XB.out.thaw 0
    have zl1_4 := XB.out.cell (j := 1) rfl
    have yl1_4 := XB.out.thaw 1
    have zl2_4 := XB.out.cell (j := 2) rfl
    have yl2_4 := XB.out.thaw 2
    go_wp2_with fail
    refine Calls.mono (l01Once_any C 2 (by omega) (by omega) _ KC.out) ?_
    rintro e w3 ⟨b, rfl, k3, q3⟩
    have K2 := hid k3
    have G2 := hid (GC.out.trans q3)
    have R2 := hid (XR.out.cur q3 Nr.out)
    have B2 := hid (XB.out.cur q3 Nl.out)
    have H2 := hid (row_past HO.out q3 (by have o1 := Nl.out; have o2 := Arl.out; omega))
    clear k3 q3 KC GC XR XB HO zr0_3 yr0_3 zr1_3 yr1_3 zr2_3 yr2_3 zl0_3 yl0_3 zl1_3 yl1_3 zl2_3 yl2_3 zr0_4 yr0_4 zr1_4 yr1_4 zr2_4 yr2_4 zl0_4 yl0_4 zl1_4 yl1_4 zl2_4 yl2_4
    have KC := K2
    have GC := G2
    have XR := R2
    have XB := B2
    have HO := H2
    clear K2 G2 R2 B2 H2
    go_wp2
    clear HT hL
    go_loopw [5, 6] (fun i _ wr => ∃ (k : Nat) (M : List EntD) (va : Option Addr) (vc : Nat), k ≤ 61 ∧ i = .int .i64 k ∧ Hid (M.length = k) ∧ Hid (∀ d ∈ M, d.Tame) ∧ Hid (CurAt wr C) ∧ Hid (w.grownBy wr (some C)) ∧ Hid (BlockIs wr w.heap.size 31 [.int .i64 0, .int .i64 0, .slice none 0 0]) ∧ Hid (BlockIs wr w1.heap.size 31 [.int .i64 s, .int .i64 t, .slice va M.length vc]) ∧ Hid (wr.ownsRow (w1.heap.size + 1) 35 3 (.slice va M.length vc) M.length (entCells M))) (fun i _ _ => 62 - (intOf i).toNat)
    case atStart => exact ⟨0, [], some ⟨w2.heap.size, 0, none⟩, 0, by omega, rfl, rfl, (fun d h => by simp at h), KC, GC, XR, XB, HO⟩
    case round =>
      clear KC GC XR XB HO
      obtain ⟨k, M, va, vc, hk, rfl, HMk, HT, KC, GC, XR, XB, HO⟩ := hrel
      go_wp2_with fail
      refine Calls.mono (l01Below_any C 2 (by omega) (by omega) _ KC.out) ?_
      rintro e w5 ⟨z, rfl, z0, z1, k5, q5⟩
      have K2 := hid k5
      have G2 := hid (GC.out.trans q5)
      have R2 := hid (XR.out.cur q5 Nr.out)
      have B2 := hid (XB.out.cur q5 Nl.out)
      have H2 := hid (row_past HO.out q5 (by have o1 := Nl.out; have o2 := Arl.out; omega))
      clear k5 q5 KC GC XR XB HO
      have KC := K2
      have GC := G2
      have XR := R2
      have XB := B2
      have HO := H2
      clear K2 G2 R2 B2 H2
      by_cases hlt : (k : Int) < 60 + z
      · skip
        have zr0_5 := XR.out.cell (j := 0) rfl
        have yr0_5 := XR.out.thaw 0
        have zr1_5 := XR.out.cell (j := 1) rfl
        have yr1_5 := XR.out.thaw 1
        have zr2_5 := XR.out.cell (j := 2) rfl
        have yr2_5 := XR.out.thaw 2
        have zl0_5 := XB.out.cell (j := 0) rfl
        have yl0_5 := XB.out.thaw 0
        have zl1_5 := XB.out.cell (j := 1) rfl
        have yl1_5 := XB.out.thaw 1
        have zl2_5 := XB.out.cell (j := 2) rfl
        have yl2_5 := XB.out.thaw 2
        have ba := below_more (Below.refl w5.heap.size w5) (.cells #[.int .i64 t, .int .i64 1, .string ⟨#[]⟩] 35)
        have XE : Hid (BlockIs (w5.alloc (.cells #[.int .i64 t, .int .i64 1, .string ⟨#[]⟩] 35)) w5.heap.size 35 [.int .i64 t, .int .i64 1, .string ⟨#[]⟩]) := heap_alloc_new w5 _
        cases b with
        | false =>
          have K2 := hid (KC.out.below ba)
          have G2 := hid (grown_below GC.out ba)
          have R2 := hid (XR.out.on ba XR.out.lt)
          have B2 := hid (XB.out.on ba XB.out.lt)
          have H2 := hid (row_below HO.out ba)
          clear ba KC GC XR XB HO
          have KC := K2
          have GC := G2
          have XR := R2
          have XB := B2
          have HO := H2
          clear K2 G2 R2 B2 H2
          have zr0_6 := XR.out.cell (j := 0) rfl
          have yr0_6 := XR.out.thaw 0
          have zr1_6 := XR.out.cell (j := 1) rfl
          have yr1_6 := XR.out.thaw 1
          have zr2_6 := XR.out.cell (j := 2) rfl
          have yr2_6 := XR.out.thaw 2
          have zl0_6 := XB.out.cell (j := 0) rfl
          have yl0_6 := XB.out.thaw 0
          have zl1_6 := XB.out.cell (j := 1) rfl
          have yl1_6 := XB.out.thaw 1
          have zl2_6 := XB.out.cell (j := 2) rfl
          have yl2_6 := XB.out.thaw 2
          have hsz : (w5.alloc (.cells #[.int .i64 t, .int .i64 1, .string ⟨#[]⟩] 35)).heap.size = w5.heap.size + 1 := by simp [World.alloc, -World.alloc_eq]
          have ze0 := XE.out.cell (j := 0) rfl
          have ze1 := XE.out.cell (j := 1) rfl
          have ze2 := XE.out.cell (j := 2) rfl
          have hbase : w1.heap.size + 1 ≤ ((w5.alloc (.cells #[.int .i64 t, .int .i64 1, .string ⟨#[]⟩] 35)).alloc (.cells #[.int .i64 t, .int .i64 1, .string ⟨#[]⟩] 35)).heap.size := Nat.le_trans XB.out.lt (below_more (Below.refl (w5.alloc (.cells #[.int .i64 t, .int .i64 1, .string ⟨#[]⟩] 35)).heap.size (w5.alloc (.cells #[.int .i64 t, .int .i64 1, .string ⟨#[]⟩] 35))) _).size
          have hone : ∀ u ∈ entEnc ⟨t, 1, ⟨#[]⟩⟩, u.oneCell' = true := by intro u hu; simp only [entEnc, List.mem_cons, List.not_mem_nil, or_false] at hu; rcases hu with rfl | rfl | rfl <;> rfl
          have hnew : ∀ j u, (entEnc ⟨t, 1, ⟨#[]⟩⟩)[j]? = some u → ((w5.alloc (.cells #[.int .i64 t, .int .i64 1, .string ⟨#[]⟩] 35)).alloc (.cells #[.int .i64 t, .int .i64 1, .string ⟨#[]⟩] 35)).cell? ((⟨w5.heap.size + 1, 0, none⟩ : Addr).add j) = some u := by
            intro j u hu
            rw [Addr.add_lit, Nat.zero_add, ← hsz]
            exact (show BlockIs _ _ 35 (entEnc ⟨t, 1, ⟨#[]⟩⟩) from heap_alloc_new (w5.alloc (.cells #[.int .i64 t, .int .i64 1, .string ⟨#[]⟩] 35)) _).cell hu
          have hrow := row_below HO.out (below_more (Below.refl (w5.alloc (.cells #[.int .i64 t, .int .i64 1, .string ⟨#[]⟩] 35)).heap.size (w5.alloc (.cells #[.int .i64 t, .int .i64 1, .string ⟨#[]⟩] 35))) (.cells #[.int .i64 t, .int .i64 1, .string ⟨#[]⟩] 35))
          go_wp2_with (at_builtin; refine wpList_append_own _ rfl (.tmp 54) (.tmp 56) 29 rfl (w1.heap.size + 1) 35 i0 _ 3 32 Try.underlying29 hi hz0 hz1 hz2 rfl (by decide) _ _ _ rfl hrow ⟨w5.heap.size + 1, 0, none⟩ 1 1 (entEnc ⟨t, 1, ⟨#[]⟩⟩) rfl rfl hnew hone (by have := HMk.out; unfold maxLen; omega) (by have := HMk.out; omega) hbase ?_)
          intro v' w6 hown' hgrow _
          obtain ⟨va', vc', rfl⟩ := row_shape hown'
          rw [← entCells_snoc] at hown'
          have hlow : ∀ j, (Value.slice va M.length vc).ownBlock = some j → w1.heap.size + 1 ≤ j := fun j hj => (row_block hrow hj).elim fun _ h => h.2
          have bb := below_more (Below.refl (w5.alloc (.cells #[.int .i64 t, .int .i64 1, .string ⟨#[]⟩] 35)).heap.size (w5.alloc (.cells #[.int .i64 t, .int .i64 1, .string ⟨#[]⟩] 35))) (.cells #[.int .i64 t, .int .i64 1, .string ⟨#[]⟩] 35)
          have K2 := hid ((KC.out.below bb).kept hgrow (fun j hj => by have := hlow j hj; have := Nl.out; omega))
          have G2 := hid (grown_row (grown_below GC.out bb) hgrow (fun j hj => by have := hlow j hj; have := Ml.out; omega))
          have R2 := hid ((XR.out.on bb XR.out.lt).past hgrow (fun j hj => by have := hlow j hj; have := Arl.out; omega))
          have B2 := hid ((XB.out.on bb XB.out.lt).past hgrow (fun j hj => by have := hlow j hj; omega))
          have H2 := hid hown'
          clear hown' hgrow hlow bb hrow hnew hone hbase hsz ze0 ze1 ze2 XE KC GC XR XB HO zr0_5 yr0_5 zr1_5 yr1_5 zr2_5 yr2_5 zl0_5 yl0_5 zl1_5 yl1_5 zl2_5 yl2_5 zr0_6 yr0_6 zr1_6 yr1_6 zr2_6 yr2_6 zl0_6 yl0_6 zl1_6 yl1_6 zl2_6 yl2_6
          have KC := K2
          have GC := G2
          have XR := R2
          have XB := B2
          have HO := H2
          clear K2 G2 R2 B2 H2
          have zr0_7 := XR.out.cell (j := 0) rfl
          have yr0_7 := XR.out.thaw 0
          have zr1_7 := XR.out.cell (j := 1) rfl
          have yr1_7 := XR.out.thaw 1
          have zr2_7 := XR.out.cell (j := 2) rfl
          have yr2_7 := XR.out.thaw 2
          have zl0_7 := XB.out.cell (j := 0) rfl
          have yl0_7 := XB.out.thaw 0
          have zl1_7 := XB.out.cell (j := 1) rfl
          have yl1_7 := XB.out.thaw 1
          have zl2_7 := XB.out.cell (j := 2) rfl
          have yl2_7 := XB.out.thaw 2
          have K2 := hid (KC.out.set (b := w1.heap.size) (j := 2) (v := (.slice va' (M.length + 1) vc')) Nl.out)
          have G2 := hid (grown_far (b := w1.heap.size) (j := 2) (v := (.slice va' (M.length + 1) vc')) GC.out Ml.out)
          have R2 := hid (XR.out.far (b := w1.heap.size) (j := 2) (by have := Arl.out; omega) (.slice va' (M.length + 1) vc'))
          have B2 := hid (XB.out.set 2 (.slice va' (M.length + 1) vc'))
          have H2 := hid (row_apart (b := w1.heap.size) (j := 2) (v := (.slice va' (M.length + 1) vc')) HO.out XB.out (by decide))
          clear KC GC XR XB HO
          have KC := K2
          have GC := G2
          have XR := R2
          have XB := B2
          have HO := H2
          clear K2 G2 R2 B2 H2
          have HT2 : Hid (∀ f ∈ M ++ [(⟨t, 1, ⟨#[]⟩⟩ : EntD)], f.Tame) := fun f hf => (List.mem_append.1 hf).elim (HT.out f) fun q => by rw [List.mem_singleton.1 q]; exact tame_mk (by omega) (by omega) (by first | decide | omega)
          have HL9 : (M ++ [(⟨t, 1, ⟨#[]⟩⟩ : EntD)]).length = M.length + 1 := by simp
          rw [← HL9] at KC GC XR XB HO ⊢
          obtain ⟨M', hM⟩ : ∃ M', M ++ [(⟨t, 1, ⟨#[]⟩⟩ : EntD)] = M' := ⟨_, rfl⟩
          rw [hM] at KC GC XR XB HO HT2 HL9 ⊢
          have HLM : Hid (M'.length = k + 1) := (show _ = _ by have := HMk.out; omega)
          clear hM HL9 HMk HT
          go_wp2
          go_roundw
          case rel => exact ⟨k + 1, M', va', vc', by omega, by go_num, HLM, HT2, KC, GC, XR, XB, HO⟩
          case measure => simp [intOf]; omega
        | true =>
          go_wp2
          clear zr0_5 yr0_5 zr1_5 yr1_5 zr2_5 yr2_5 zl0_5 yl0_5 zl1_5 yl1_5 zl2_5 yl2_5
          refine wp_region_from (N := 60) (by kernel_rfl) (by kernel_rfl) rfl (by kernel_rfl) (fun W => Below w5.heap.size w5 W) (fun j v u W => match j with | 0 => v = .pointer (some ⟨w1.heap.size, 1, none⟩) | 1 => v = .int .i64 t | 2 => ∃ T : ByteArray, v = .string T ∧ T.size = 120 | 3 => ∃ T : ByteArray, v = .agg #[.int .i64 t, .int .i64 3, .string T] ∧ T.size = 120 | 4 => ∃ T : ByteArray, u = .agg #[.int .i64 t, .int .i64 3, .string T] ∧ T.size = 120 ∧ BlockIs W w5.heap.size 35 [.int .i64 t, .int .i64 3, .string T] | _ => True) (fun i => if i = 4 then 3 else i) (fun _ _ => false) (fun i x y => ∀ cs, BlockIs x w5.heap.size 35 cs → i ≠ 4 → BlockIs y w5.heap.size 35 cs) (fun m W => match m with | 0 => BlockIs W w5.heap.size 35 [.int .i64 t, .int .i64 1, .string ⟨#[]⟩] | _ => True) (fun m k => decide ((m, k) ∈ ([(0, 4)] : List (Nat × Nat)))) ?_ (fun i => if i = 4 then 52 else 0) (by kernel_rfl) (fun i hi => by have : 5 ≤ i := hi; simp; omega) ?_ (below_drewN ba 1) (fun m => match m with | 0 => XE.out.on (below_drewN (Below.refl _ _) 1) XE.out.lt | _ + 1 => trivial) ?_ ?_
          · intro i m x y hen hxy hm
            match m, hen, hm with
            | 0, hen, hm =>
              simp at hen
              exact hxy _ hm hen
            | n + 1, _, _ => exact trivial
          · intro i j v u x y hij hdd hwt hxy hg
            match j, hg with
            | 0, hg => exact hg
            | 1, hg => exact hg
            | 2, hg => exact hg
            | 3, hg => exact hg
            | 4, hg =>
              obtain ⟨T, e1, e2, e3⟩ := hg
              exact ⟨T, e1, e2, hxy _ e3 hij⟩
            | n + 5, _ => exact trivial
          · refine ⟨?_, ?_, ?_, ?_, ?_, trivial⟩
            · intro A W hC hI hg hb
              have h3 : A.eval (.tmp 3) = .pointer (some ⟨w1.heap.size, 0, none⟩) := hb 3 (base_of (by kernel_rfl))
              exact does_value (v := .pointer (some ⟨w1.heap.size, 1, none⟩)) (w' := W) (by simp only [execOp, h3]; simp [go_sem]) ⟨rfl, hC, fun _ h _ => h⟩
            · intro A W hC hI hg hb
              have h49 : A.eval (.tmp 49) = .pointer (some ⟨w1.heap.size, 1, none⟩) := hg 0 49 (by decide) rfl (by simp [Op.operands]) (by kernel_rfl) rfl
              have hc := (XB.out.on hC XB.out.lt).cell (j := 1) rfl
              exact does_value (v := .int .i64 t) (w' := W) (by simp only [execOp, h49]; simp [go_sem, hc]) ⟨rfl, hC, fun _ h _ => h⟩
            · intro A W hC hI hg hb
              refine does_enter (f := 69) (args := #[.int .i64 120, .int .u8 66]) (w' := W) (by simp [go_sem]) ?_
              refine (l01Long_any 120 (by omega) 66 (by omega) (by omega) W).mono ?_
              rintro e W' ⟨T, rfl, hT, b'⟩
              exact ⟨_, rfl, ⟨T, rfl, hT⟩, below_via hC b', fun cs h _ => h.on b' h.lt⟩
            · intro A W hC hI hg hb
              have h50 : A.eval (.tmp 50) = .int .i64 t := hg 1 50 (by decide) rfl (by simp [Op.operands]) (by kernel_rfl) rfl
              have g2 := hg 2 51 (by decide) rfl (by simp [Op.operands]) (by kernel_rfl) rfl
              obtain ⟨T, h51, hT⟩ := g2
              simp [go_sem] at h50 h51
              exact does_value (v := .agg #[.int .i64 t, .int .i64 3, .string T]) (w' := W) (by simp [execOp, go_sem, h50, h51]) ⟨⟨T, rfl, hT⟩, hC, fun _ h _ => h⟩
            · intro A W hC hI hg hb
              have h6 : A.eval (.tmp 6) = .pointer (some ⟨w5.heap.size, 0, none⟩) := hb 6 (base_of (by kernel_rfl))
              have g3 := hg 3 52 (by decide) rfl (by simp [Op.operands]) (by kernel_rfl) rfl
              obtain ⟨T, h52, hT⟩ := g3
              have he : BlockIs W w5.heap.size 35 [.int .i64 t, .int .i64 1, .string ⟨#[]⟩] := hI 0 (by kernel_rfl)
              have c0 := he.cell (j := 0) rfl
              have c1 := he.cell (j := 1) rfl
              have c2 := he.cell (j := 2) rfl
              have f0 := he.thaw 0
              have f1 := he.thaw 1
              have f2 := he.thaw 2
              exact does_skip (w' := ((W.setCell ⟨w5.heap.size, 0, none⟩ (.int .i64 t)).setCell ⟨w5.heap.size, 1, none⟩ (.int .i64 3)).setCell ⟨w5.heap.size, 2, none⟩ (.string T)) (by simp only [execOp, h6, h52]; simp [go_sem, c0, c1, c2, f0, f1, f2]) ⟨⟨T, h52, hT, ((he.set 0 (.int .i64 t)).set 1 (.int .i64 3)).set 2 (.string T)⟩, ((hC.setCell (Nat.le_refl _) _).setCell (Nat.le_refl _) _).setCell (Nat.le_refl _) _, fun _ _ h => absurd rfl h⟩
          · intro vs w7 hC hI hg
            obtain ⟨T, hu, hT, hE⟩ := hg 4 (by decide) (fun k => by simp)
            clear hg hI hu XE ba
            have XE := hid hE
            clear hE
            change Exit.then _ _ _ (laidBy _ vs _ 5 _) w7
            simp only [laidBy, if_true, dstAt, List.getElem?_toArray, List.getElem?_cons_succ, List.getElem?_cons_zero, Option.bind_some]
            simp only [Act.put, List.setIfInBounds_toArray, List.set_cons_succ, List.set_cons_zero]
            have K2 := hid (KC.out.below hC)
            have G2 := hid (grown_below GC.out hC)
            have R2 := hid (XR.out.on hC XR.out.lt)
            have B2 := hid (XB.out.on hC XB.out.lt)
            have H2 := hid (row_below HO.out hC)
            clear hC KC GC XR XB HO
            have KC := K2
            have GC := G2
            have XR := R2
            have XB := B2
            have HO := H2
            clear K2 G2 R2 B2 H2
            have zr0_6 := XR.out.cell (j := 0) rfl
            have yr0_6 := XR.out.thaw 0
            have zr1_6 := XR.out.cell (j := 1) rfl
            have yr1_6 := XR.out.thaw 1
            have zr2_6 := XR.out.cell (j := 2) rfl
            have yr2_6 := XR.out.thaw 2
            have zl0_6 := XB.out.cell (j := 0) rfl
            have yl0_6 := XB.out.thaw 0
            have zl1_6 := XB.out.cell (j := 1) rfl
            have yl1_6 := XB.out.thaw 1
            have zl2_6 := XB.out.cell (j := 2) rfl
            have yl2_6 := XB.out.thaw 2
            have hsz : w7.heap.size = w7.heap.size := by rfl
            have ze0 := XE.out.cell (j := 0) rfl
            have ze1 := XE.out.cell (j := 1) rfl
            have ze2 := XE.out.cell (j := 2) rfl
            have hbase : w1.heap.size + 1 ≤ (w7.alloc (.cells #[.int .i64 t, .int .i64 3, .string T] 35)).heap.size := Nat.le_trans XB.out.lt (below_more (Below.refl w7.heap.size w7) _).size
            have hone : ∀ u ∈ entEnc ⟨t, 3, T⟩, u.oneCell' = true := by intro u hu; simp only [entEnc, List.mem_cons, List.not_mem_nil, or_false] at hu; rcases hu with rfl | rfl | rfl <;> rfl
            have hnew : ∀ j u, (entEnc ⟨t, 3, T⟩)[j]? = some u → (w7.alloc (.cells #[.int .i64 t, .int .i64 3, .string T] 35)).cell? ((⟨w7.heap.size, 0, none⟩ : Addr).add j) = some u := by
              intro j u hu
              rw [Addr.add_lit, Nat.zero_add, ← hsz]
              exact (show BlockIs _ _ 35 (entEnc ⟨t, 3, T⟩) from heap_alloc_new w7 _).cell hu
            have hrow := row_below HO.out (below_more (Below.refl w7.heap.size w7) (.cells #[.int .i64 t, .int .i64 3, .string T] 35))
            go_wp2_with (at_builtin; refine wpList_append_own _ rfl (.tmp 54) (.tmp 56) 29 rfl (w1.heap.size + 1) 35 i0 _ 3 32 Try.underlying29 hi hz0 hz1 hz2 rfl (by decide) _ _ _ rfl hrow ⟨w7.heap.size, 0, none⟩ 1 1 (entEnc ⟨t, 3, T⟩) rfl rfl hnew hone (by have := HMk.out; unfold maxLen; omega) (by have := HMk.out; omega) hbase ?_)
            intro v' w6 hown' hgrow _
            obtain ⟨va', vc', rfl⟩ := row_shape hown'
            rw [← entCells_snoc] at hown'
            have hlow : ∀ j, (Value.slice va M.length vc).ownBlock = some j → w1.heap.size + 1 ≤ j := fun j hj => (row_block hrow hj).elim fun _ h => h.2
            have bb := below_more (Below.refl w7.heap.size w7) (.cells #[.int .i64 t, .int .i64 3, .string T] 35)
            have K2 := hid ((KC.out.below bb).kept hgrow (fun j hj => by have := hlow j hj; have := Nl.out; omega))
            have G2 := hid (grown_row (grown_below GC.out bb) hgrow (fun j hj => by have := hlow j hj; have := Ml.out; omega))
            have R2 := hid ((XR.out.on bb XR.out.lt).past hgrow (fun j hj => by have := hlow j hj; have := Arl.out; omega))
            have B2 := hid ((XB.out.on bb XB.out.lt).past hgrow (fun j hj => by have := hlow j hj; omega))
            have H2 := hid hown'
            clear hown' hgrow hlow bb hrow hnew hone hbase hsz ze0 ze1 ze2 XE KC GC XR XB HO zr0_6 yr0_6 zr1_6 yr1_6 zr2_6 yr2_6 zl0_6 yl0_6 zl1_6 yl1_6 zl2_6 yl2_6
            have KC := K2
            have GC := G2
            have XR := R2
            have XB := B2
            have HO := H2
            clear K2 G2 R2 B2 H2
            have zr0_7 := XR.out.cell (j := 0) rfl
            have yr0_7 := XR.out.thaw 0
            have zr1_7 := XR.out.cell (j := 1) rfl
            have yr1_7 := XR.out.thaw 1
            have zr2_7 := XR.out.cell (j := 2) rfl
            have yr2_7 := XR.out.thaw 2
            have zl0_7 := XB.out.cell (j := 0) rfl
            have yl0_7 := XB.out.thaw 0
            have zl1_7 := XB.out.cell (j := 1) rfl
            have yl1_7 := XB.out.thaw 1
            have zl2_7 := XB.out.cell (j := 2) rfl
            have yl2_7 := XB.out.thaw 2
            have K2 := hid (KC.out.set (b := w1.heap.size) (j := 2) (v := (.slice va' (M.length + 1) vc')) Nl.out)
            have G2 := hid (grown_far (b := w1.heap.size) (j := 2) (v := (.slice va' (M.length + 1) vc')) GC.out Ml.out)
            have R2 := hid (XR.out.far (b := w1.heap.size) (j := 2) (by have := Arl.out; omega) (.slice va' (M.length + 1) vc'))
            have B2 := hid (XB.out.set 2 (.slice va' (M.length + 1) vc'))
            have H2 := hid (row_apart (b := w1.heap.size) (j := 2) (v := (.slice va' (M.length + 1) vc')) HO.out XB.out (by decide))
            clear KC GC XR XB HO
            have KC := K2
            have GC := G2
            have XR := R2
            have XB := B2
            have HO := H2
            clear K2 G2 R2 B2 H2
            have HT2 : Hid (∀ f ∈ M ++ [(⟨t, 3, T⟩ : EntD)], f.Tame) := fun f hf => (List.mem_append.1 hf).elim (HT.out f) fun q => by rw [List.mem_singleton.1 q]; exact tame_mk (by omega) (by omega) (by first | decide | omega)
            have HL9 : (M ++ [(⟨t, 3, T⟩ : EntD)]).length = M.length + 1 := by simp
            rw [← HL9] at KC GC XR XB HO ⊢
            obtain ⟨M', hM⟩ : ∃ M', M ++ [(⟨t, 3, T⟩ : EntD)] = M' := ⟨_, rfl⟩
            rw [hM] at KC GC XR XB HO HT2 HL9 ⊢
            have HLM : Hid (M'.length = k + 1) := (show _ = _ by have := HMk.out; omega)
            clear hM HL9 HMk HT
            go_wp2
            go_roundw
            case rel => exact ⟨k + 1, M', va', vc', by omega, by go_num, HLM, HT2, KC, GC, XR, XB, HO⟩
            case measure => simp [intOf]; omega
      · skip
        have zr0_6 := XR.out.cell (j := 0) rfl
        have yr0_6 := XR.out.thaw 0
        have zr1_6 := XR.out.cell (j := 1) rfl
        have yr1_6 := XR.out.thaw 1
        have zr2_6 := XR.out.cell (j := 2) rfl
        have yr2_6 := XR.out.thaw 2
        have zl0_6 := XB.out.cell (j := 0) rfl
        have yl0_6 := XB.out.thaw 0
        have zl1_6 := XB.out.cell (j := 1) rfl
        have yl1_6 := XB.out.thaw 1
        have zl2_6 := XB.out.cell (j := 2) rfl
        have yl2_6 := XB.out.thaw 2
        have KL := hid (((KC.out.set (b := w.heap.size) (j := 0) (v := .int .i64 s) Nr.out).set (b := w.heap.size) (j := 1) (v := .int .i64 t) Nr.out).set (b := w.heap.size) (j := 2) (v := .slice va M.length vc) Nr.out)
        have GL := hid (grown_far (b := w.heap.size) (j := 2) (v := .slice va M.length vc) (grown_far (b := w.heap.size) (j := 1) (v := .int .i64 t) (grown_far (b := w.heap.size) (j := 0) (v := .int .i64 s) GC.out Mr.out) Mr.out) Mr.out)
        have HL := hid (row_down (row_set (b := w.heap.size) (j := 2) (v := .slice va M.length vc) (row_set (b := w.heap.size) (j := 1) (v := .int .i64 t) (row_set (b := w.heap.size) (j := 0) (v := .int .i64 s) HO.out (by have o1 := Nr.out; have o2 := Arl.out; omega)) (by have o1 := Nr.out; have o2 := Arl.out; omega)) (by have o1 := Nr.out; have o2 := Arl.out; omega)) (show w.heap.size ≤ _ by have o1 := Nr.out; have o2 := Arl.out; omega))
        clear KC GC XR XB HO
        go_wp2
        refine bodyPost_ret (v := .agg #[.int .i64 s, .int .i64 t, .slice va M.length vc]) (by simp [results, Try.results50, go_sem, zr0_6, zr1_6, zr2_6]) rfl ?_
        exact ⟨s, t, _, _, M, rfl, by have := HMk.out; omega, hs, ht, HT.out, HL.out, KL.out, GL.out⟩
  have h0' : (y == 0) = false := by simpa using h0
  have h1' : (y == 1) = false := by simpa using h1
  have h2' : (y == 2) = false := by simpa using h2
  have h3' : (y == 3) = false := by simpa using h3
  have KL := hid (((KC.out.set (b := w.heap.size) (j := 0) (v := .int .i64 s) Nr.out).set (b := w.heap.size) (j := 1) (v := .int .i64 t) Nr.out).set (b := w.heap.size) (j := 2) (v := .slice va L.length vc) Nr.out)
  have GL := hid (grown_far (b := w.heap.size) (j := 2) (v := .slice va L.length vc) (grown_far (b := w.heap.size) (j := 1) (v := .int .i64 t) (grown_far (b := w.heap.size) (j := 0) (v := .int .i64 s) GC.out Mr.out) Mr.out) Mr.out)
  have HL := hid (row_down (row_set (b := w.heap.size) (j := 2) (v := .slice va L.length vc) (row_set (b := w.heap.size) (j := 1) (v := .int .i64 t) (row_set (b := w.heap.size) (j := 0) (v := .int .i64 s) HO.out (by have o1 := HW0.out; have o2 := HW1.out; have o3 := Nr.out; omega)) (by have o1 := HW0.out; have o2 := HW1.out; have o3 := Nr.out; omega)) (by have o1 := HW0.out; have o2 := HW1.out; have o3 := Nr.out; omega)) (show w.heap.size ≤ _ by have o1 := HW0.out; have o2 := HW1.out; have o3 := Nr.out; omega))
  clear KC GC XR XB HO
  go_wp2
  refine bodyPost_ret (v := .agg #[.int .i64 s, .int .i64 t, .slice va L.length vc]) (by simp [results, Try.results50, go_sem, zr0_2, zr1_2, zr2_2]) rfl ?_
  exact ⟨s, t, _, _, L, rfl, by omega, hs, ht, HT.out, HL.out, KL.out, GL.out⟩
end Go.Proofs.Ytjkgjnpifdafaaa
