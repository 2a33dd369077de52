/-
  The walk of spec.l09Any: some ring, right or not, in memory of its own.
-/
import Derived.Test.YtbajffpkfjkolaaRingDraw
import Derived.Test.YtbajffpkfjkolaaRingCopyS
namespace Go.Proofs.Ytbajffpkfjkolaa
open Go.RowKit

theorem two_size {j : Nat} (hj : j < ([⟨#[]⟩, ⟨#[120]⟩] : List ByteArray).length) : (([⟨#[]⟩, ⟨#[120]⟩] : List ByteArray)[j]).size ≤ 1 := by
  match j, hj with
  | 0, _ => exact (show ByteArray.size ⟨#[]⟩ ≤ 1 by decide)
  | 1, _ => exact (show ByteArray.size ⟨#[120]⟩ ≤ 1 by decide)
theorem block_cells {x y : World} {g : Nat} {t : TypeId} {cs : List Value} (hy : BlockIs y g t cs) (hx : BlockIs x g t cs) (j : Nat) : y.cell? ⟨g, j, none⟩ = x.cell? ⟨g, j, none⟩ := by
  unfold BlockIs at hx hy
  simp [World.cell?, hx, hy]
theorem slotCells_own {z : Int} (L : List SlotD) (p : Nat) (hp : p < L.length) : (slotCells L).set (p * 2) (.int .i64 z) = slotCells (L.set p ⟨z, L[p].text⟩) := by
  have h := slotCells_set L p hp ⟨z, L[p].text⟩
  rw [← h]
  have hc : ((slotCells L).set (p * 2) (.int .i64 z))[p * 2 + 1]? = some (.string L[p].text) := by
    rw [List.getElem?_set_ne (by omega)]
    have := row_at slotEnc 2 (fun _ => rfl) L [] p 1 hp (by omega)
    rw [List.append_nil] at this
    exact this
  exact (List.ext_getElem? fun i => by
    rw [List.getElem?_set (i := p * 2 + 1)]
    split
    · rename_i e
      subst e
      rw [hc]
      split
      · rfl
      · rename_i hlt
        rw [List.getElem?_eq_none (Nat.le_of_not_lt hlt)] at hc
        cases hc
    · rfl).symm.symm
theorem slotCells_text {s : ByteArray} (L : List SlotD) (p : Nat) (hp : p < L.length) : (slotCells L).set (p * 2 + 1) (.string s) = slotCells (L.set p ⟨L[p].own, s⟩) := by
  have h := slotCells_set L p hp ⟨L[p].own, s⟩
  rw [← h]
  have hc : (slotCells L)[p * 2]? = some (.int .i64 L[p].own) := by
    have := row_at slotEnc 2 (fun _ => rfl) L [] p 0 hp (by omega)
    rw [List.append_nil] at this
    exact this
  congr 1
  exact (List.ext_getElem? fun i => by
    rw [List.getElem?_set (i := p * 2)]
    split
    · rename_i e
      subst e
      rw [hc]
      split
      · rfl
      · rename_i hlt
        rw [List.getElem?_eq_none (by omega)] at hc
        cases hc
    · rfl)

/-- some ring in memory of its own; the cursor -/
def AnyRingDrew (w : World) (C : Nat) (e : Ending) (w' : World) : Prop := ∃ (s t : Int) (l : List SlotD) (va : Option Addr) (vc : Nat), e = .returned (.agg #[.slice va l.length vc, .int .i64 s, .int .i64 t]) ∧ (-1 ≤ s ∧ s ≤ 8) ∧ (-1 ≤ t ∧ t ≤ 8) ∧ l.length ≤ 8 ∧ (∀ f ∈ l, slotOne f ≤ 1048576) ∧ OwnAt w' 42 (slotCells l) l.length va (w.heap.size + 1) w'.heap.size ∧ CurAt w' C ∧ w.grownBy w' (some C)

set_option maxRecDepth 1000000 in
set_option maxHeartbeats 8000000 in
theorem l09Any_any (C : Nat) (w : World) (hc : CurAt w C) : Calls Try.prog 29 #[.pointer (some ⟨C, 0, none⟩)] w (AnyRingDrew w C) := by
  have hCl := hc.lt
  have be := below_more (Below.refl w.heap.size w) (.cells #[.slice none 0 0, .int .i64 0, .int .i64 0] 26)
  have hx1 : BlockIs (w.alloc (.cells #[.slice none 0 0, .int .i64 0, .int .i64 0] 26)) w.heap.size 26 [.slice none 0 0, .int .i64 0, .int .i64 0] := heap_alloc_new w _
  have k0 := hc.below be
  have g0 := grown_below (World.grownBy.refl w (some C)) be
  obtain ⟨W0, hW0⟩ : ∃ W, w.alloc (.cells #[.slice none 0 0, .int .i64 0, .int .i64 0] 26) = W := ⟨_, rfl⟩
  rw [hW0] at hx1 k0 g0
  have G0 := hid g0
  have X0 := hid hx1
  have hX0l := hx1.lt
  have CR := hid (l09Ring_any C W0 k0)
  clear hc be hx1 k0 g0
  go_enter Try.func29, Try.ntmps29
  go_wp2_with fail
  refine CR.out.mono ?_
  rintro e w1 ⟨h, t, q, l, va, vc1, rfl, hrr, ho, k1, q1⟩
  have hw1 := q1.size
  have CC := hid (l09Copy_any h t va l vc1 (by have := hrr.1.2; omega) w1 ho.slots)
  have K1 := hid k1
  have G1 := hid (G0.out.trans q1)
  have X1 := hid (X0.out.cur q1 hCl)
  have HSM := hid hrr.small
  have hl8 := hrr.1.2
  have hl1 := hrr.1.1
  have hhl := hrr.head_lt
  have htl := hrr.2.1
  clear k1 q1 ho hrr CR X0 G0
  go_wp2_with fail
  refine CC.out.mono ?_
  rintro e w2 ⟨va2, vc, rfl, _, ho, b2⟩
  rcases ho with h0 | ⟨gg, r, rfl, hlo, hhi, hbl⟩
  · exact absurd h0 (by omega)
  have ba := below_more (Below.refl w2.heap.size w2) (.cells #[.slice (some ⟨gg, 0, none⟩) l.length vc, .int .i64 h, .int .i64 t] 26)
  have hxb : BlockIs (w2.alloc (.cells #[.slice (some ⟨gg, 0, none⟩) l.length vc, .int .i64 h, .int .i64 t] 26)) w2.heap.size 26 [.slice (some ⟨gg, 0, none⟩) l.length vc, .int .i64 h, .int .i64 t] := heap_alloc_new w2 _
  have bc := below_via b2 ba
  have K2 := hid (K1.out.below bc)
  have G2 := hid (grown_below G1.out bc)
  have XR2 := hid (X1.out.on bc X1.out.lt)
  have HO2 := hid (hbl.on ba hbl.lt)
  have XB2 := hid hxb
  have hX1l := X1.out.lt
  obtain ⟨B, hB⟩ : ∃ B, w2.heap.size = B := ⟨_, rfl⟩
  obtain ⟨w3, hw3⟩ : ∃ W, w2.alloc (.cells #[.slice (some ⟨gg, 0, none⟩) l.length vc, .int .i64 h, .int .i64 t] 26) = W := ⟨_, rfl⟩
  rw [hw3] at K2 G2 XR2 HO2 XB2
  rw [hB] at XB2 hhi
  have x0 := XB2.out.cell (j := 0) rfl
  have x1 := XB2.out.cell (j := 1) rfl
  have x2 := XB2.out.cell (j := 2) rfl
  clear ba hxb bc b2 hbl K1 G1 X1 CC
  go_wp2_with fail
  refine (l01Below_any C l.length (by omega) (by omega) _ K2.out).mono ?_
  rintro e w4 ⟨xz, rfl, xz0, xz1, k4, q4⟩
  obtain ⟨x, rfl⟩ := Int.eq_ofNat_of_zero_le xz0
  have hxl : x < l.length := by omega
  have hw4 := q4.size
  have K4 := hid k4
  have G4 := hid (G2.out.trans q4)
  have XR4 := hid (XR2.out.cur q4 (by omega))
  have XB4 := hid (XB2.out.cur q4 (by omega))
  have HO4 := hid (HO2.out.cur q4 (by omega))
  clear k4 q4 K2 G2 XR2 XB2 HO2 x0 x1 x2
  go_wp2_with fail
  refine (l01Below_any C 12 (by omega) (by omega) _ K4.out).mono ?_
  rintro e w5 ⟨y, rfl, y0, y1, k5, q5⟩
  have KC := hid k5
  have GC := hid (G4.out.trans q5)
  have XR := hid (XR4.out.cur q5 (by omega))
  have XB := hid (XB4.out.cur q5 (by omega))
  have HO := hid (HO4.out.cur q5 (by omega))
  have hgB : gg ≠ B := by omega
  clear k5 q5 K4 G4 XR4 XB4 HO4 hw3 hB
  by_cases hy0 : y = 0
  · subst hy0
    go_wp2
    refine wp_region_from (N := 52) (by kernel_rfl) (by kernel_rfl) rfl (by kernel_rfl) (fun W => CurAt W C ∧ w.grownBy W (some C) ∧ BlockIs W w.heap.size 26 [.slice none 0 0, .int .i64 0, .int .i64 0] ∧ BlockIs W B 26 [.slice (some ⟨gg, 0, none⟩) l.length vc, .int .i64 h, .int .i64 t]) (fun j v _ W => match j with | 0 => v = .pointer (some ⟨B, 0, none⟩) | 1 => v = .slice (some ⟨gg, 0, none⟩) l.length vc | 2 => v = .int .i64 x | 3 => v = .pointer (some ⟨C, 0, none⟩) | 4 => ∃ z : Int, v = .int .i64 z ∧ 0 ≤ z ∧ z < 3 | 5 => v = .pointer (some ⟨gg, x * 2, none⟩) | 6 => v = .pointer (some ⟨gg, x * 2, none⟩) | 7 => ∃ z : Int, (0 ≤ z ∧ z < 3) ∧ BlockIs W gg 42 (slotCells (l.set x ⟨z, l[x].text⟩) ++ r) | _ => True) (fun i => i) (fun _ _ => false) (fun i x y => x.heap.size ≤ y.heap.size ∧ ∀ g ty cs, BlockIs x g ty cs → C < g → (i = 7 → g ≠ gg) → BlockIs y g ty cs) (fun m W => match m with | 0 => BlockIs W gg 42 (slotCells l ++ r) | _ => True) (fun m k => decide ((m, k) ∈ ([(0, 7)] : List (Nat × Nat)))) ?_ (fun _ => 0) (by kernel_rfl) (fun _ _ => rfl) ?_ ⟨KC.out.below (below_drewN (Below.refl _ _) 1), grown_below GC.out (below_drewN (Below.refl _ _) 1), XR.out.on (below_drewN (Below.refl _ _) 1) XR.out.lt, XB.out.on (below_drewN (Below.refl _ _) 1) XB.out.lt⟩ (fun m => match m with | 0 => HO.out.on (below_drewN (Below.refl _ _) 1) HO.out.lt | _ + 1 => trivial) ?_ ?_
    · intro i m x y hen hxy hm
      match m, hen, hm with
      | 0, hen, hm =>
        simp at hen
        exact hxy.2 _ _ _ hm (by omega) (fun e => absurd e hen)
      | n + 1, _, _ => exact trivial
    · intro i j v u x y hij hdd hwt hxy hg
      match j, hg with
      | 0, hg => exact hg
      | 1, hg => exact hg
      | 2, hg => exact hg
      | 3, hg => exact hg
      | 4, hg => exact hg
      | 5, hg => exact hg
      | 6, hg => exact hg
      | 7, hg =>
        obtain ⟨z, hz, e1⟩ := hg
        exact ⟨z, hz, hxy.2 _ _ _ e1 (by omega) (fun e => absurd e hij)⟩
      | n + 8, _ => exact trivial
    · refine ⟨?_, ?_, ?_, ?_, ?_, ?_, ?_, ?_, trivial⟩
      · intro A W hC hI hg hb
        have h3 : A.eval (.tmp 3) = .pointer (some ⟨B, 0, none⟩) := hb 3 (base_of (by kernel_rfl))
        exact does_value (v := .pointer (some ⟨B, 0, none⟩)) (w' := W) (by simp only [execOp, h3]; simp [go_sem]) ⟨rfl, hC, Nat.le_refl _, fun _ _ _ h _ _ => h⟩
      · intro A W hC hI hg hb
        have h17 : A.eval (.tmp 17) = .pointer (some ⟨B, 0, none⟩) := hg 0 17 (by decide) rfl (by simp [Op.operands]) (by kernel_rfl) rfl
        have hc0 := hC.2.2.2.cell (j := 0) rfl
        exact does_value (v := .slice (some ⟨gg, 0, none⟩) l.length vc) (w' := W) (by simp only [execOp, h17]; simp [go_sem, hc0]) ⟨rfl, hC, Nat.le_refl _, fun _ _ _ h _ _ => h⟩
      · intro A W hC hI hg hb
        have h4 : A.eval (.tmp 4) = .int .i64 x := hb 4 (base_of (by kernel_rfl))
        exact does_value (v := .int .i64 x) (w' := W) (by simp only [execOp, h4]; simp [go_sem]) ⟨rfl, hC, Nat.le_refl _, fun _ _ _ h _ _ => h⟩
      · intro A W hC hI hg hb
        have h0 : A.eval (.tmp 0) = .pointer (some ⟨C, 0, none⟩) := hb 0 (base_of (by kernel_rfl))
        exact does_value (v := .pointer (some ⟨C, 0, none⟩)) (w' := W) (by simp only [execOp, h0]; simp [go_sem]) ⟨rfl, hC, Nat.le_refl _, fun _ _ _ h _ _ => h⟩
      · intro A W hC hI hg hb
        have h20 : A.eval (.tmp 20) = .pointer (some ⟨C, 0, none⟩) := hg 3 20 (by decide) rfl (by simp [Op.operands, Call.operands]) (by kernel_rfl) rfl
        simp [go_sem] at h20
        obtain ⟨k1, k2, k3, k4⟩ := hC
        refine does_enter (f := 26) (args := #[.pointer (some ⟨C, 0, none⟩), .int .i64 3]) (w' := W) (by simp [go_sem, h20]) ?_
        refine (l01Below_any C 3 (by omega) (by omega) W k1).mono ?_
        rintro e W' ⟨z, rfl, z0, z1, k', q'⟩
        exact ⟨_, rfl, ⟨z, rfl, z0, z1⟩, ⟨k', k2.trans q', k3.cur q' (by omega), k4.cur q' (by omega)⟩, q'.size, fun g ty cs hq hg _ => hq.cur q' (by omega)⟩
      · intro A W hC hI hg hb
        have h18 : A.eval (.tmp 18) = .slice (some ⟨gg, 0, none⟩) l.length vc := hg 1 18 (by decide) rfl (by simp [Op.operands]) (by kernel_rfl) rfl
        have h19 : A.eval (.tmp 19) = .int .i64 x := hg 2 19 (by decide) rfl (by simp [Op.operands]) (by kernel_rfl) rfl
        simp [go_sem] at h18 h19
        exact does_value (v := .pointer (some ⟨gg, x * 2, none⟩)) (w' := W) (by simp [execOp, go_sem, h18, h19, hxl]) ⟨rfl, hC, Nat.le_refl _, fun _ _ _ h _ _ => h⟩
      · intro A W hC hI hg hb
        have h22 : A.eval (.tmp 22) = .pointer (some ⟨gg, x * 2, none⟩) := hg 5 22 (by decide) rfl (by simp [Op.operands]) (by kernel_rfl) rfl
        exact does_value (v := .pointer (some ⟨gg, x * 2, none⟩)) (w' := W) (by simp only [execOp, h22]; simp [go_sem]) ⟨rfl, hC, Nat.le_refl _, fun _ _ _ h _ _ => h⟩
      · intro A W hC hI hg hb
        have h23 : A.eval (.tmp 23) = .pointer (some ⟨gg, x * 2, none⟩) := hg 6 23 (by decide) rfl (by simp [Op.operands]) (by kernel_rfl) rfl
        have g4 := hg 4 21 (by decide) rfl (by simp [Op.operands]) (by kernel_rfl) rfl
        obtain ⟨z, h21, z0, z1⟩ := g4
        have hrow : BlockIs W gg 42 (slotCells l ++ r) := hI 0 (by kernel_rfl)
        have hq := row_at slotEnc 2 (fun _ => rfl) l r x 0 hxl (by omega)
        have hc : W.cell? ⟨gg, x * 2, none⟩ = some (.int .i64 l[x].own) := hrow.cell hq
        have hf := hrow.thaw (x * 2)
        have hset := hrow.set (x * 2) (.int .i64 z)
        rw [List.set_append_left _ _ (by rw [slotCells_length]; omega), slotCells_own l x hxl] at hset
        obtain ⟨k1, k2, k3, k4⟩ := hC
        refine does_skip (w' := W.setCell ⟨gg, x * 2, none⟩ (.int .i64 z)) (by simp only [execOp, h23, h21]; simp [go_sem, hc, hf]) ⟨⟨z, ⟨z0, z1⟩, ?_⟩, ⟨k1.set (by omega), grown_far k2 (by omega), k3.far (by omega) _, k4.far (by omega) _⟩, by simp [World.size_setCell], fun g ty cs hq _ hne => hq.far (Ne.symm (hne rfl)) _⟩
        exact hset
    · intro vs wE hC hI hg
      obtain ⟨z, hz, hb⟩ := hg 7 (by decide) (fun k => by simp)
      clear hg hI
      obtain ⟨ck, cg, cr, cb⟩ := hC
      have KD := hid ck
      have GD := hid cg
      have XRD := hid cr
      have XBD := hid cb
      have HOD := hid hb
      change Exit.inBlock _ _ _ (laidBy _ vs _ 8 _) wE
      simp only [laidBy, if_true, dstAt, List.getElem?_toArray, List.getElem?_cons_succ, List.getElem?_cons_zero, Option.bind_some]
      simp only [Act.put, List.setIfInBounds_toArray, List.set_cons_succ, List.set_cons_zero]
      clear ck cg cr cb hb KC GC XR XB HO
      have b0 := XBD.out.cell (j := 0) rfl
      have c0 := XRD.out.cell (j := 0) rfl
      have f0 := XRD.out.thaw 0
      have b1 := XBD.out.cell (j := 1) rfl
      have c1 := XRD.out.cell (j := 1) rfl
      have f1 := XRD.out.thaw 1
      have b2 := XBD.out.cell (j := 2) rfl
      have c2 := XRD.out.cell (j := 2) rfl
      have f2 := XRD.out.thaw 2
      have KE := hid (((KD.out.set (b := w.heap.size) (j := 0) (v := .slice (some ⟨gg, 0, none⟩) l.length vc) (by omega)).set (b := w.heap.size) (j := 1) (v := .int .i64 h) (by omega)).set (b := w.heap.size) (j := 2) (v := .int .i64 t) (by omega))
      have GE := hid (grown_far (grown_far (grown_far GD.out (b := w.heap.size) (j := 0) (v := .slice (some ⟨gg, 0, none⟩) l.length vc) (by omega)) (b := w.heap.size) (j := 1) (v := .int .i64 h) (by omega)) (b := w.heap.size) (j := 2) (v := .int .i64 t) (by omega))
      have OE := hid (((HOD.out.far (show w.heap.size ≠ gg by omega) (j := 0) (.slice (some ⟨gg, 0, none⟩) l.length vc)).far (show w.heap.size ≠ gg by omega) (j := 1) (.int .i64 h)).far (show w.heap.size ≠ gg by omega) (j := 2) (.int .i64 t))
      go_wp2
      refine bodyPost_ret (v := .agg #[.slice (some ⟨gg, 0, none⟩) l.length vc, .int .i64 h, .int .i64 t]) (by simp [results, Try.results29, go_sem, c0, c1, c2]) rfl ⟨h, t, l.set x ⟨z, l[x].text⟩, some ⟨gg, 0, none⟩, vc, by rw [List.length_set], ⟨by omega, by omega⟩, ⟨by omega, by omega⟩, by rw [List.length_set]; exact hl8, mem_set_all (HSM.out l[x] (List.getElem_mem hxl)) HSM.out, Or.inr ⟨gg, r, rfl, by omega, OE.out.lt, OE.out⟩, KE.out, GE.out⟩
  · by_cases hy1 : y = 1
    · subst hy1
      have zb0 := XB.out.cell (j := 0) rfl
      have hsub : ((l.length : Int) - 1) = ((l.length : Int) - 1) := rfl
      have CPI := hid (pickI_any C [-1, 0, (l.length : Int) - 1, (l.length : Int)] (by simp) (by simp) 3 w5 w5.heap.size rfl KC.out)
      go_wp2_with fail
      refine (CPI.out).mono ?_
      rintro e w6 ⟨z, rfl, hz, k6, q6⟩
      have hzb : -1 ≤ z ∧ z ≤ 8 := by simp at hz; omega
      have hw6 := q6.size
      have KD := hid k6
      have GD := hid (GC.out.trans q6)
      have XRD := hid (XR.out.cur q6 (by omega))
      have XBD := hid (XB.out.cur q6 (by omega))
      have HOD := hid (HO.out.cur q6 (by omega))
      clear k6 q6 KC GC XR XB HO zb0 CPI hz
      have zb1 := XBD.out.cell (j := 1) rfl
      have zf1 := XBD.out.thaw 1
      have KD2 := hid (KD.out.set (b := B) (j := 1) (v := .int .i64 z) (by omega))
      have GD2 := hid (grown_far GD.out (b := B) (j := 1) (v := .int .i64 z) (by omega))
      have XRD2 := hid (XRD.out.far (show B ≠ w.heap.size by omega) (j := 1) (.int .i64 z))
      have XBD2 := hid (XBD.out.set 1 (.int .i64 z))
      have HOD2 := hid (HOD.out.far (show B ≠ gg by omega) (j := 1) (.int .i64 z))
      obtain ⟨w7, hw7⟩ : ∃ W, w6.setCell ⟨B, 1, none⟩ (.int .i64 z) = W := ⟨_, rfl⟩
      rw [hw7] at KD2 GD2 XRD2 XBD2 HOD2
      have b0 := XBD2.out.cell (j := 0) rfl
      have c0 := XRD2.out.cell (j := 0) rfl
      have f0 := XRD2.out.thaw 0
      have b1 := XBD2.out.cell (j := 1) rfl
      have c1 := XRD2.out.cell (j := 1) rfl
      have f1 := XRD2.out.thaw 1
      have b2 := XBD2.out.cell (j := 2) rfl
      have c2 := XRD2.out.cell (j := 2) rfl
      have f2 := XRD2.out.thaw 2
      have KE := hid (((KD2.out.set (b := w.heap.size) (j := 0) (v := .slice (some ⟨gg, 0, none⟩) l.length vc) (by omega)).set (b := w.heap.size) (j := 1) (v := .int .i64 z) (by omega)).set (b := w.heap.size) (j := 2) (v := .int .i64 t) (by omega))
      have GE := hid (grown_far (grown_far (grown_far GD2.out (b := w.heap.size) (j := 0) (v := .slice (some ⟨gg, 0, none⟩) l.length vc) (by omega)) (b := w.heap.size) (j := 1) (v := .int .i64 z) (by omega)) (b := w.heap.size) (j := 2) (v := .int .i64 t) (by omega))
      have OE := hid (((HOD2.out.far (show w.heap.size ≠ gg by omega) (j := 0) (.slice (some ⟨gg, 0, none⟩) l.length vc)).far (show w.heap.size ≠ gg by omega) (j := 1) (.int .i64 z)).far (show w.heap.size ≠ gg by omega) (j := 2) (.int .i64 t))
      go_wp2
      refine bodyPost_ret (v := .agg #[.slice (some ⟨gg, 0, none⟩) l.length vc, .int .i64 z, .int .i64 t]) (by simp [results, Try.results29, go_sem, c0, c1, c2]) rfl ⟨z, t, l, some ⟨gg, 0, none⟩, vc, rfl, hzb, ⟨by omega, by omega⟩, hl8, HSM.out, Or.inr ⟨gg, r, rfl, by omega, OE.out.lt, OE.out⟩, KE.out, GE.out⟩
    · by_cases hy2 : y = 2
      · subst hy2
        go_wp2
        refine wp_region_from (N := 52) (by kernel_rfl) (by kernel_rfl) rfl (by kernel_rfl) (fun W => CurAt W C ∧ w.grownBy W (some C) ∧ BlockIs W w.heap.size 26 [.slice none 0 0, .int .i64 0, .int .i64 0] ∧ BlockIs W B 26 [.slice (some ⟨gg, 0, none⟩) l.length vc, .int .i64 h, .int .i64 t]) (fun j v _ W => match j with | 0 => v = .pointer (some ⟨B, 0, none⟩) | 1 => v = .slice (some ⟨gg, 0, none⟩) l.length vc | 2 => v = .int .i64 x | 3 => v = .pointer (some ⟨C, 0, none⟩) | 4 => ∃ gs : Nat, v = .slice (some ⟨gs, 0, none⟩) 2 2 ∧ B ≤ gs ∧ C < gs ∧ Strs W gs [⟨#[]⟩, ⟨#[120]⟩] ∧ ∃ ts cs, BlockIs W gs ts cs ∧ gs ≠ gg | 5 => ∃ s : ByteArray, v = .string s ∧ s.size ≤ 1 | 6 => v = .pointer (some ⟨gg, x * 2, none⟩) | 7 => v = .pointer (some ⟨gg, x * 2 + 1, none⟩) | 8 => ∃ s : ByteArray, s.size ≤ 1 ∧ BlockIs W gg 42 (slotCells (l.set x ⟨l[x].own, s⟩) ++ r) | _ => True) (fun i => i) (fun _ _ => false) (fun i x y => x.heap.size ≤ y.heap.size ∧ ∀ g ty cs, BlockIs x g ty cs → C < g → (i = 8 → g ≠ gg) → BlockIs y g ty cs) (fun m W => match m with | 0 => BlockIs W gg 42 (slotCells l ++ r) | _ => True) (fun m k => decide ((m, k) ∈ ([(0, 8)] : List (Nat × Nat)))) ?_ (fun _ => 0) (by kernel_rfl) (fun _ _ => rfl) ?_ ⟨KC.out.below (below_drewN (Below.refl _ _) 1), grown_below GC.out (below_drewN (Below.refl _ _) 1), XR.out.on (below_drewN (Below.refl _ _) 1) XR.out.lt, XB.out.on (below_drewN (Below.refl _ _) 1) XB.out.lt⟩ (fun m => match m with | 0 => HO.out.on (below_drewN (Below.refl _ _) 1) HO.out.lt | _ + 1 => trivial) ?_ ?_
        · intro i m x y hen hxy hm
          match m, hen, hm with
          | 0, hen, hm =>
            simp at hen
            exact hxy.2 _ _ _ hm (by omega) (fun e => absurd e hen)
          | n + 1, _, _ => exact trivial
        · intro i j v u x y hij hdd hwt hxy hg
          match j, hg with
          | 0, hg => exact hg
          | 1, hg => exact hg
          | 2, hg => exact hg
          | 3, hg => exact hg
          | 4, hg =>
            obtain ⟨gs, e1, e2, e3, e4, ts, cs, e5, e6⟩ := hg
            have e7 := hxy.2 _ _ _ e5 e3 (fun _ => e6)
            exact ⟨gs, e1, e2, e3, fun j hj => by rw [block_cells e7 e5 j]; exact e4 j hj, ts, cs, e7, e6⟩
          | 5, hg => exact hg
          | 6, hg => exact hg
          | 7, hg => exact hg
          | 8, hg =>
            obtain ⟨s, hz, e1⟩ := hg
            exact ⟨s, hz, hxy.2 _ _ _ e1 (by omega) (fun e => absurd e hij)⟩
          | n + 9, _ => exact trivial
        · refine ⟨?_, ?_, ?_, ?_, ?_, ?_, ?_, ?_, ?_, trivial⟩
          · intro A W hC hI hg hb
            have h3 : A.eval (.tmp 3) = .pointer (some ⟨B, 0, none⟩) := hb 3 (base_of (by kernel_rfl))
            exact does_value (v := .pointer (some ⟨B, 0, none⟩)) (w' := W) (by simp only [execOp, h3]; simp [go_sem]) ⟨rfl, hC, Nat.le_refl _, fun _ _ _ h _ _ => h⟩
          · intro A W hC hI hg hb
            have h39 : A.eval (.tmp 39) = .pointer (some ⟨B, 0, none⟩) := hg 0 39 (by decide) rfl (by simp [Op.operands]) (by kernel_rfl) rfl
            have hc0 := hC.2.2.2.cell (j := 0) rfl
            exact does_value (v := .slice (some ⟨gg, 0, none⟩) l.length vc) (w' := W) (by simp only [execOp, h39]; simp [go_sem, hc0]) ⟨rfl, hC, Nat.le_refl _, fun _ _ _ h _ _ => h⟩
          · intro A W hC hI hg hb
            have h4 : A.eval (.tmp 4) = .int .i64 x := hb 4 (base_of (by kernel_rfl))
            exact does_value (v := .int .i64 x) (w' := W) (by simp only [execOp, h4]; simp [go_sem]) ⟨rfl, hC, Nat.le_refl _, fun _ _ _ h _ _ => h⟩
          · intro A W hC hI hg hb
            have h0 : A.eval (.tmp 0) = .pointer (some ⟨C, 0, none⟩) := hb 0 (base_of (by kernel_rfl))
            exact does_value (v := .pointer (some ⟨C, 0, none⟩)) (w' := W) (by simp only [execOp, h0]; simp [go_sem]) ⟨rfl, hC, Nat.le_refl _, fun _ _ _ h _ _ => h⟩
          · intro A W hC hI hg hb
            have hlt := hC.2.2.2.lt
            have hltg : gg < W.heap.size := by have hrow : BlockIs W gg 42 (slotCells l ++ r) := hI 0 (by kernel_rfl); exact hrow.lt
            have hbm := fun o => below_more (Below.refl W.heap.size W) o
            obtain ⟨k1, k2, k3, k4⟩ := hC
            refine does_value (v := .slice (some ⟨W.heap.size, 0, none⟩) 2 2) (w' := W.alloc (.cells #[.string ⟨#[]⟩, .string ⟨#[120]⟩] 9)) (by simp [execOp, go_sem]) ⟨⟨_, rfl, by omega, by omega, strs_at [⟨#[]⟩, ⟨#[120]⟩] W 9, 9, _, heap_alloc_new W _, by omega⟩, ⟨k1.below (hbm _), grown_below k2 (hbm _), k3.on (hbm _) k3.lt, k4.on (hbm _) k4.lt⟩, (hbm _).size, fun _ _ _ h _ _ => h.on (hbm _) h.lt⟩
          · intro A W hC hI hg hb
            have h42 : A.eval (.tmp 42) = .pointer (some ⟨C, 0, none⟩) := hg 3 42 (by decide) rfl (by simp [Op.operands, Call.operands]) (by kernel_rfl) rfl
            have g4 := hg 4 43 (by decide) rfl (by simp [Op.operands, Call.operands]) (by kernel_rfl) rfl
            obtain ⟨gs, h43, hgB, hgC, hst, _⟩ := g4
            simp [go_sem] at h42 h43
            obtain ⟨k1, k2, k3, k4⟩ := hC
            refine does_enter (f := 42) (args := #[.pointer (some ⟨C, 0, none⟩), .slice (some ⟨gs, 0, none⟩) 2 2]) (w' := W) (by simp [go_sem, h42, h43]) ?_
            refine (l01Pick_any C gs [⟨#[]⟩, ⟨#[120]⟩] 2 (by decide) (by decide) hgC W k1 hst).mono ?_
            rintro e W' ⟨j, hj, rfl, k', q'⟩
            exact ⟨_, rfl, ⟨_, rfl, two_size hj⟩, ⟨k', k2.trans q', k3.cur q' (by omega), k4.cur q' (by omega)⟩, q'.size, fun g ty cs hq hg _ => hq.cur q' (by omega)⟩
          · intro A W hC hI hg hb
            have h40 : A.eval (.tmp 40) = .slice (some ⟨gg, 0, none⟩) l.length vc := hg 1 40 (by decide) rfl (by simp [Op.operands]) (by kernel_rfl) rfl
            have h41 : A.eval (.tmp 41) = .int .i64 x := hg 2 41 (by decide) rfl (by simp [Op.operands]) (by kernel_rfl) rfl
            simp [go_sem] at h40 h41
            exact does_value (v := .pointer (some ⟨gg, x * 2, none⟩)) (w' := W) (by simp [execOp, go_sem, h40, h41, hxl]) ⟨rfl, hC, Nat.le_refl _, fun _ _ _ h _ _ => h⟩
          · intro A W hC hI hg hb
            have h45 : A.eval (.tmp 45) = .pointer (some ⟨gg, x * 2, none⟩) := hg 6 45 (by decide) rfl (by simp [Op.operands]) (by kernel_rfl) rfl
            exact does_value (v := .pointer (some ⟨gg, x * 2 + 1, none⟩)) (w' := W) (by simp only [execOp, h45]; simp [go_sem]) ⟨rfl, hC, Nat.le_refl _, fun _ _ _ h _ _ => h⟩
          · intro A W hC hI hg hb
            have h46 : A.eval (.tmp 46) = .pointer (some ⟨gg, x * 2 + 1, none⟩) := hg 7 46 (by decide) rfl (by simp [Op.operands]) (by kernel_rfl) rfl
            have g5 := hg 5 44 (by decide) rfl (by simp [Op.operands]) (by kernel_rfl) rfl
            obtain ⟨s, h44, hs1⟩ := g5
            have hrow : BlockIs W gg 42 (slotCells l ++ r) := hI 0 (by kernel_rfl)
            have hq := row_at slotEnc 2 (fun _ => rfl) l r x 1 hxl (by omega)
            have hc : W.cell? ⟨gg, x * 2 + 1, none⟩ = some (.string l[x].text) := hrow.cell hq
            have hf := hrow.thaw (x * 2 + 1)
            have hset := hrow.set (x * 2 + 1) (.string s)
            rw [List.set_append_left _ _ (by rw [slotCells_length]; omega), slotCells_text l x hxl] at hset
            obtain ⟨k1, k2, k3, k4⟩ := hC
            refine does_skip (w' := W.setCell ⟨gg, x * 2 + 1, none⟩ (.string s)) (by simp only [execOp, h46, h44]; simp [go_sem, hc, hf]) ⟨⟨s, hs1, ?_⟩, ⟨k1.set (by omega), grown_far k2 (by omega), k3.far (by omega) _, k4.far (by omega) _⟩, by simp [World.size_setCell], fun g ty cs hq _ hne => hq.far (Ne.symm (hne rfl)) _⟩
            exact hset
        · intro vs wE hC hI hg
          obtain ⟨s, hs1, hb⟩ := hg 8 (by decide) (fun k => by simp)
          clear hg hI
          obtain ⟨ck, cg, cr, cb⟩ := hC
          have KD := hid ck
          have GD := hid cg
          have XRD := hid cr
          have XBD := hid cb
          have HOD := hid hb
          change Exit.inBlock _ _ _ (laidBy _ vs _ 9 _) wE
          simp only [laidBy, if_true, dstAt, List.getElem?_toArray, List.getElem?_cons_succ, List.getElem?_cons_zero, Option.bind_some]
          simp only [Act.put, List.setIfInBounds_toArray, List.set_cons_succ, List.set_cons_zero]
          clear ck cg cr cb hb KC GC XR XB HO
          have b0 := XBD.out.cell (j := 0) rfl
          have c0 := XRD.out.cell (j := 0) rfl
          have f0 := XRD.out.thaw 0
          have b1 := XBD.out.cell (j := 1) rfl
          have c1 := XRD.out.cell (j := 1) rfl
          have f1 := XRD.out.thaw 1
          have b2 := XBD.out.cell (j := 2) rfl
          have c2 := XRD.out.cell (j := 2) rfl
          have f2 := XRD.out.thaw 2
          have KE := hid (((KD.out.set (b := w.heap.size) (j := 0) (v := .slice (some ⟨gg, 0, none⟩) l.length vc) (by omega)).set (b := w.heap.size) (j := 1) (v := .int .i64 h) (by omega)).set (b := w.heap.size) (j := 2) (v := .int .i64 t) (by omega))
          have GE := hid (grown_far (grown_far (grown_far GD.out (b := w.heap.size) (j := 0) (v := .slice (some ⟨gg, 0, none⟩) l.length vc) (by omega)) (b := w.heap.size) (j := 1) (v := .int .i64 h) (by omega)) (b := w.heap.size) (j := 2) (v := .int .i64 t) (by omega))
          have OE := hid (((HOD.out.far (show w.heap.size ≠ gg by omega) (j := 0) (.slice (some ⟨gg, 0, none⟩) l.length vc)).far (show w.heap.size ≠ gg by omega) (j := 1) (.int .i64 h)).far (show w.heap.size ≠ gg by omega) (j := 2) (.int .i64 t))
          go_wp2
          refine bodyPost_ret (v := .agg #[.slice (some ⟨gg, 0, none⟩) l.length vc, .int .i64 h, .int .i64 t]) (by simp [results, Try.results29, go_sem, c0, c1, c2]) rfl ⟨h, t, l.set x ⟨l[x].own, s⟩, some ⟨gg, 0, none⟩, vc, by rw [List.length_set], ⟨by omega, by omega⟩, ⟨by omega, by omega⟩, by rw [List.length_set]; exact hl8, mem_set_all (by show (s.size : Int) ≤ _; omega) HSM.out, Or.inr ⟨gg, r, rfl, by omega, OE.out.lt, OE.out⟩, KE.out, GE.out⟩
      · by_cases hy3 : y = 3
        · subst hy3
          have ba := below_more (Below.refl w5.heap.size w5) (.cells #[] 42)
          have hxe : BlockIs (w5.alloc (.cells #[] 42)) w5.heap.size 42 [] := heap_alloc_new w5 _
          have hXBl := XB.out.lt
          have kd := KC.out.below ba
          have gd := grown_below GC.out ba
          have xr := XR.out.on ba XR.out.lt
          have xb := XB.out.on ba XB.out.lt
          have zb0 := xb.cell (j := 0) rfl
          have zf0 := xb.thaw 0
          have KD := hid (kd.set (b := B) (j := 0) (v := .slice (some ⟨w5.heap.size, 0, none⟩) 0 0) (by omega))
          have GD := hid (grown_far gd (b := B) (j := 0) (v := .slice (some ⟨w5.heap.size, 0, none⟩) 0 0) (by omega))
          have XRD := hid (xr.far (show B ≠ w.heap.size by omega) (j := 0) (.slice (some ⟨w5.heap.size, 0, none⟩) 0 0))
          have XBD := hid (xb.set 0 (.slice (some ⟨w5.heap.size, 0, none⟩) 0 0))
          obtain ⟨w7, hw7⟩ : ∃ W, (w5.alloc (.cells #[] 42)).setCell ⟨B, 0, none⟩ (.slice (some ⟨w5.heap.size, 0, none⟩) 0 0) = W := ⟨_, rfl⟩
          rw [hw7] at KD GD XRD XBD
          clear ba hxe kd gd xr xb KC GC XR XB HO
          have b0 := XBD.out.cell (j := 0) rfl
          have c0 := XRD.out.cell (j := 0) rfl
          have f0 := XRD.out.thaw 0
          have b1 := XBD.out.cell (j := 1) rfl
          have c1 := XRD.out.cell (j := 1) rfl
          have f1 := XRD.out.thaw 1
          have b2 := XBD.out.cell (j := 2) rfl
          have c2 := XRD.out.cell (j := 2) rfl
          have f2 := XRD.out.thaw 2
          have KE := hid (((KD.out.set (b := w.heap.size) (j := 0) (v := .slice (some ⟨w5.heap.size, 0, none⟩) 0 0) (by omega)).set (b := w.heap.size) (j := 1) (v := .int .i64 h) (by omega)).set (b := w.heap.size) (j := 2) (v := .int .i64 t) (by omega))
          have GE := hid (grown_far (grown_far (grown_far GD.out (b := w.heap.size) (j := 0) (v := .slice (some ⟨w5.heap.size, 0, none⟩) 0 0) (by omega)) (b := w.heap.size) (j := 1) (v := .int .i64 h) (by omega)) (b := w.heap.size) (j := 2) (v := .int .i64 t) (by omega))
          skip
          go_wp2
          refine bodyPost_ret (v := .agg #[.slice (some ⟨w5.heap.size, 0, none⟩) 0 0, .int .i64 h, .int .i64 t]) (by simp [results, Try.results29, go_sem, c0, c1, c2]) rfl ⟨h, t, [], some ⟨w5.heap.size, 0, none⟩, 0, rfl, ⟨by omega, by omega⟩, ⟨by omega, by omega⟩, by simp, fun f hf => by simp at hf, Or.inl rfl, KE.out, GE.out⟩
        · have KD := KC
          have GD := GC
          have XRD := XR
          have XBD := XB
          have HOD := HO
          clear KC GC XR XB HO
          have b0 := XBD.out.cell (j := 0) rfl
          have c0 := XRD.out.cell (j := 0) rfl
          have f0 := XRD.out.thaw 0
          have b1 := XBD.out.cell (j := 1) rfl
          have c1 := XRD.out.cell (j := 1) rfl
          have f1 := XRD.out.thaw 1
          have b2 := XBD.out.cell (j := 2) rfl
          have c2 := XRD.out.cell (j := 2) rfl
          have f2 := XRD.out.thaw 2
          have KE := hid (((KD.out.set (b := w.heap.size) (j := 0) (v := .slice (some ⟨gg, 0, none⟩) l.length vc) (by omega)).set (b := w.heap.size) (j := 1) (v := .int .i64 h) (by omega)).set (b := w.heap.size) (j := 2) (v := .int .i64 t) (by omega))
          have GE := hid (grown_far (grown_far (grown_far GD.out (b := w.heap.size) (j := 0) (v := .slice (some ⟨gg, 0, none⟩) l.length vc) (by omega)) (b := w.heap.size) (j := 1) (v := .int .i64 h) (by omega)) (b := w.heap.size) (j := 2) (v := .int .i64 t) (by omega))
          have OE := hid (((HOD.out.far (show w.heap.size ≠ gg by omega) (j := 0) (.slice (some ⟨gg, 0, none⟩) l.length vc)).far (show w.heap.size ≠ gg by omega) (j := 1) (.int .i64 h)).far (show w.heap.size ≠ gg by omega) (j := 2) (.int .i64 t))
          go_wp2
          refine bodyPost_ret (v := .agg #[.slice (some ⟨gg, 0, none⟩) l.length vc, .int .i64 h, .int .i64 t]) (by simp [results, Try.results29, go_sem, c0, c1, c2]) rfl ⟨h, t, l, some ⟨gg, 0, none⟩, vc, rfl, ⟨by omega, by omega⟩, ⟨by omega, by omega⟩, hl8, HSM.out, Or.inr ⟨gg, r, rfl, by omega, OE.out.lt, OE.out⟩, KE.out, GE.out⟩
end Go.Proofs.Ytbajffpkfjkolaa
