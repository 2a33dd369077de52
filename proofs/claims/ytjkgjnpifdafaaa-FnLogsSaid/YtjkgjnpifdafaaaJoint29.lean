/-
  The walk of spec.l06Right: some log of few entries, in memory of its own.
-/
import Derived.Test.YtjkgjnpifdafaaaJoint21
import Derived.Test.YtjkgjnpifdafaaaJoint28
namespace Go.Proofs.Ytjkgjnpifdafaaa
open Go.RowKit

/-- some log of at most n entries, in memory of its own; the cursor -/
def LogDrew (w : World) (C n : Nat) (e : Ending) (w' : World) : Prop := ∃ (s t : Int) (va : Option Addr) (vc : Nat) (L : List EntD), e = .returned (.agg #[.int .i64 s, .int .i64 t, .slice va L.length vc]) ∧ L.length ≤ n ∧ (-1 ≤ s ∧ s ≤ 1000001) ∧ (-1 ≤ t ∧ t ≤ 100001) ∧ (∀ d ∈ L, d.Tame) ∧ w'.ownsRow w.heap.size 35 3 (.slice va L.length vc) L.length (entCells L) ∧ CurAt w' C ∧ w.grownBy w' (some C)
/-- the same, of a right log -/
def RightDrew (w : World) (C n : Nat) (e : Ending) (w' : World) : Prop := ∃ (s t : Int) (va : Option Addr) (vc : Nat) (L : List EntD), e = .returned (.agg #[.int .i64 s, .int .i64 t, .slice va L.length vc]) ∧ L.length ≤ n ∧ logOk s t L = true ∧ (s ≤ 6 ∧ lastT t L ≤ 16) ∧ (∀ d ∈ L, d.Tame) ∧ w'.ownsRow w.heap.size 35 3 (.slice va L.length vc) L.length (entCells L) ∧ CurAt w' C ∧ w.grownBy w' (some C)
theorem terms_more {t tm : Int} {L : List EntD} {d : EntD} (h : termsOk t L = true) (hl : lastT t L ≤ tm) (hd : d.Short tm) (hw : within tm 0 100000 = true) : termsOk t (L ++ [d]) = true ∧ lastT t (L ++ [d]) ≤ tm := by
  have h1 := hd.1
  have h2 := hd.2.2.2.2 hw
  rw [termsOk_append, lastT_append, h]
  refine ⟨?_, by simp [lastT, h1]⟩
  simp [termsOk, h2, h1, hl]
theorem row_from {x y : World} {base size n : Nat} {t : TypeId} {v : Value} {xs : List Value} (h : x.ownsRow base t size v n xs) (hb : ∀ g cs, base ≤ g → BlockIs x g t cs → BlockIs y g t cs) : y.ownsRow base t size v n xs := by
  refine ⟨h.1, h.2.imp id ?_⟩
  rintro ⟨g, cap, cur, a, b, c, r⟩
  have := hb g cur.toList b (by unfold BlockIs; rw [c])
  unfold BlockIs at this
  exact ⟨g, cap, cur, a, b, by rw [this], r⟩
theorem row_below {x y : World} {base size n : Nat} {t : TypeId} {v : Value} {xs : List Value} (h : x.ownsRow base t size v n xs) (hb : Below x.heap.size x y) : y.ownsRow base t size v n xs := row_from h fun _ _ _ q => q.on hb q.lt
theorem row_past {x y : World} {base size n C : Nat} {t : TypeId} {v : Value} {xs : List Value} (h : x.ownsRow base t size v n xs) (hb : x.grownBy y (some C)) (hC : C < base) : y.ownsRow base t size v n xs := row_from h fun _ _ hg q => q.cur hb (by omega)
theorem row_set {x : World} {base size n b j : Nat} {t : TypeId} {v u : Value} {xs : List Value} (h : x.ownsRow base t size u n xs) (hb : b < base) : (x.setCell ⟨b, j, none⟩ v).ownsRow base t size u n xs := row_from h fun _ _ hg q => q.far (by omega) v
theorem grown_row {w W W' : World} {C : Nat} {r : Option Nat} (h : w.grownBy W (some C)) (hg : W.grownBy W' r) (hr : ∀ j, r = some j → w.heap.size ≤ j) : w.grownBy W' (some C) :=
  ⟨hg.os.trans h.os, hg.tape.trans h.tape, hg.output.trans h.output, Nat.le_trans h.size hg.size, fun j hj hne => by
    rw [hg.block j (by have := h.size; omega) (fun e => by have := hr j e.symm; omega)]
    exact h.block j hj hne⟩

set_option maxRecDepth 1000000 in
set_option maxHeartbeats 4000000 in
theorem l06Right_right (C : Nat) (w : World) (hc : CurAt w C) : Calls Try.prog 58 #[.pointer (some ⟨C, 0, none⟩)] w (RightDrew w C 7) := by
  have hCl := hc.lt
  have K0 := hid hc
  have G0 := hid (World.grownBy.refl w (some C))
  clear hc
  have be := below_more (Below.refl w.heap.size w) (.cells #[.int .i64 0, .int .i64 0, .slice none 0 0] 31)
  have hx1 : BlockIs (w.alloc (.cells #[.int .i64 0, .int .i64 0, .slice none 0 0] 31)) w.heap.size 31 [.int .i64 0, .int .i64 0, .slice none 0 0] := heap_alloc_new w _
  have K1 := hid (K0.out.below be)
  have G1 := hid (grown_below G0.out be)
  have Xr1 := hid hx1
  have Nr : Hid (C < w.heap.size) := (show _ < _ by omega)
  have Mr : Hid (w.heap.size ≤ w.heap.size) := (show _ ≤ _ by omega)
  clear be hx1  K0 G0
  obtain ⟨W0, hW0⟩ : ∃ W, w.alloc (.cells #[.int .i64 0, .int .i64 0, .slice none 0 0] 31) = W := ⟨_, rfl⟩
  rw [hW0] at K1 G1 Xr1
  have zr0_2 := Xr1.out.cell (j := 0) rfl
  have zr1_2 := Xr1.out.cell (j := 1) rfl
  have zr2_2 := Xr1.out.cell (j := 2) rfl
  have yr0_2 := Xr1.out.thaw 0
  have yr1_2 := Xr1.out.thaw 1
  have yr2_2 := Xr1.out.thaw 2
  go_enter Try.func58, Try.ntmps58
  go_wp2_with fail
  refine Calls.mono (l01Below_any C 3 (by omega) (by omega) _ K1.out) ?_
  rintro e w1 ⟨x1, rfl, x10, x11, k1, q1⟩
  have K3 := hid (k1)
  have G3 := hid (G1.out.trans q1)
  have Xr3 := hid (Xr1.out.cur q1 Nr.out)
  clear k1 q1 K1 G1 zr0_2 zr1_2 zr2_2 yr0_2 yr1_2 yr2_2 Xr1
  have zr0_4 := Xr3.out.cell (j := 0) rfl
  have zr1_4 := Xr3.out.cell (j := 1) rfl
  have zr2_4 := Xr3.out.cell (j := 2) rfl
  have yr0_4 := Xr3.out.thaw 0
  have yr1_4 := Xr3.out.thaw 1
  have yr2_4 := Xr3.out.thaw 2
  go_wp2_with fail
  refine Calls.mono (l01Below_any C 4 (by omega) (by omega) _ K3.out) ?_
  rintro e w2 ⟨x2, rfl, x20, x21, k2, q2⟩
  have K5 := hid (k2)
  have G5 := hid (G3.out.trans q2)
  have Xr5 := hid (Xr3.out.cur q2 Nr.out)
  clear k2 q2 K3 G3 zr0_4 zr1_4 zr2_4 yr0_4 yr1_4 yr2_4 Xr3
  have zr0_6 := Xr5.out.cell (j := 0) rfl
  have zr1_6 := Xr5.out.cell (j := 1) rfl
  have zr2_6 := Xr5.out.cell (j := 2) rfl
  have yr0_6 := Xr5.out.thaw 0
  have yr1_6 := Xr5.out.thaw 1
  have yr2_6 := Xr5.out.thaw 2
  go_wp2_with fail
  refine Calls.mono (l01Below_any C 3 (by omega) (by omega) _ K5.out) ?_
  rintro e w3 ⟨x3, rfl, x30, x31, k3, q3⟩
  have K7 := hid (k3)
  have G7 := hid (G5.out.trans q3)
  have Xr7 := hid (Xr5.out.cur q3 Nr.out)
  clear k3 q3 K5 G5 zr0_6 zr1_6 zr2_6 yr0_6 yr1_6 yr2_6 Xr5
  obtain ⟨s, hs⟩ : ∃ s, x1 * x2 = s := ⟨_, rfl⟩
  have hs0 : 0 ≤ s ∧ s ≤ 6 := by subst hs; exact ⟨Int.mul_nonneg x10 x20, by have := Int.mul_le_mul (show x1 ≤ 2 by omega) (show x2 ≤ 3 by omega) x20 (by omega); omega⟩
  obtain ⟨hs1, hs2⟩ := hs0
  have hw64 : wrap64 s = s := IntWalk.wrap64_in _ (by omega)
  have zr0_8 := Xr7.out.cell (j := 0) rfl
  have zr1_8 := Xr7.out.cell (j := 1) rfl
  have zr2_8 := Xr7.out.cell (j := 2) rfl
  have yr0_8 := Xr7.out.thaw 0
  have yr1_8 := Xr7.out.thaw 1
  have yr2_8 := Xr7.out.thaw 2
  have ba := below_more (Below.refl w3.heap.size w3) (.cells #[.int .i64 s, .int .i64 x3, .slice none 0 0] 31)
  have Ml := hid G7.out.size
  have Nl := hid (Nat.lt_of_lt_of_le hCl G7.out.size)
  have hx : BlockIs (w3.alloc (.cells #[.int .i64 s, .int .i64 x3, .slice none 0 0] 31)) w3.heap.size 31 [.int .i64 s, .int .i64 x3, .slice none 0 0] := heap_alloc_new w3 _
  have Arl := hid Xr7.out.lt
  have K9 := hid (K7.out.below ba)
  have G9 := hid (grown_below G7.out ba)
  have Xr9 := hid (Xr7.out.on ba Xr7.out.lt)
  have Xl9 := hid hx
  clear hx
  clear ba K7 G7 zr0_8 zr1_8 zr2_8 yr0_8 yr1_8 yr2_8 Xr7
  have zr0_10 := Xr9.out.cell (j := 0) rfl
  have zr1_10 := Xr9.out.cell (j := 1) rfl
  have zr2_10 := Xr9.out.cell (j := 2) rfl
  have yr0_10 := Xr9.out.thaw 0
  have yr1_10 := Xr9.out.thaw 1
  have yr2_10 := Xr9.out.thaw 2
  have zl0_10 := Xl9.out.cell (j := 0) rfl
  have zl1_10 := Xl9.out.cell (j := 1) rfl
  have zl2_10 := Xl9.out.cell (j := 2) rfl
  have yl0_10 := Xl9.out.thaw 0
  have yl1_10 := Xl9.out.thaw 1
  have yl2_10 := Xl9.out.thaw 2
  go_wp2
  have HO0 : Hid (World.ownsRow (w3.alloc (.cells #[.int .i64 s, .int .i64 x3, .slice none 0 0] 31)) (w3.heap.size + 1) 35 3 (.slice none 0 0) 0 (entCells [])) := ⟨rfl, Or.inl ⟨rfl, rfl⟩⟩
  go_loopw [4, 5] (fun t i wr => ∃ (k : Nat) (tm : Int) (L : List EntD) (va : Option Addr) (vc : Nat), k ≤ 7 ∧ i = .int .i64 k ∧ t = .int .i64 tm ∧ 0 ≤ tm ∧ tm ≤ 2 + 2 * k ∧ Hid (L.length = k) ∧ Hid (termsOk x3 L = true ∧ lastT x3 L ≤ tm) ∧ Hid (∀ d ∈ L, d.Tame) ∧ Hid (CurAt wr C) ∧ Hid (w.grownBy wr (some C)) ∧ Hid (BlockIs wr w.heap.size 31 [.int .i64 0, .int .i64 0, .slice none 0 0]) ∧ Hid (BlockIs wr (w3.heap.size) 31 [.int .i64 s, .int .i64 x3, .slice va L.length vc]) ∧ Hid (wr.ownsRow (w3.heap.size + 1) 35 3 (.slice va L.length vc) L.length (entCells L))) (fun _ i _ => 8 - (intOf i).toNat)
  case atStart => exact ⟨0, x3, [], none, 0, by omega, rfl, rfl, by omega, by omega, rfl, ⟨rfl, Int.le_refl _⟩, (fun d h => by simp at h), K9, G9, Xr9, Xl9, HO0⟩
  case round =>
    clear HO0 K9 G9 Xr9 Xl9 zr0_10 zr1_10 zr2_10 yr0_10 yr1_10 yr2_10 zl0_10 zl1_10 zl2_10 yl0_10 yl1_10 yl2_10
    obtain ⟨k, tm, L, va, vc, hk, rfl, rfl, ht0, ht1, HLk, HTO, HT, KC, GC, XR, XB, HO⟩ := hrel
    go_wp2_with fail
    refine (l01Below_any C 8 (by omega) (by omega) _ KC.out).mono ?_
    rintro e w4 ⟨y, rfl, y0, y1, k4, q4⟩
    have K2 := hid k4
    have G2 := hid (GC.out.trans q4)
    have R2 := hid (XR.out.cur q4 Nr.out)
    have B2 := hid (XB.out.cur q4 Nl.out)
    have H2 := hid (row_past HO.out q4 (by have := Nl.out; omega))
    clear k4 q4 KC GC XR XB HO
    have KC := K2
    have GC := G2
    have XR := R2
    have XB := B2
    have HO := H2
    clear K2 G2 R2 B2 H2
    by_cases hlt : (k : Int) < y
    · go_wp2_with fail
      refine (l01Once_any C 3 (by omega) (by omega) _ KC.out).mono ?_
      rintro e w5 ⟨b, rfl, k5, q5⟩
      have K2 := hid k5
      have G2 := hid (GC.out.trans q5)
      have R2 := hid (XR.out.cur q5 Nr.out)
      have B2 := hid (XB.out.cur q5 Nl.out)
      have H2 := hid (row_past HO.out q5 (by have := Nl.out; omega))
      clear k5 q5 KC GC XR XB HO
      have KC := K2
      have GC := G2
      have XR := R2
      have XB := B2
      have HO := H2
      clear K2 G2 R2 B2 H2
      cases b with
      | false =>
        go_wp2
        refine wp_region_from (N := 38) (by kernel_rfl) (by kernel_rfl) rfl (by kernel_rfl) (fun W => CurAt W C ∧ w.grownBy W (some C) ∧ BlockIs W (w.heap.size) 31 [.int .i64 0, .int .i64 0, .slice none 0 0]) (fun j v u W => match j with | 0 => v = .pointer (some ⟨w3.heap.size, 2, none⟩) | 1 => v = .slice va L.length vc | 2 => v = .pointer (some ⟨C, 0, none⟩) | 3 => v = .int .i64 tm | 4 => ∃ d : EntD, v = .agg #[.int .i64 d.term, .int .i64 d.kind, .string d.data] ∧ d.Short (tm) | 5 => ∃ (g : Nat) (d : EntD), v = .slice (some ⟨g, 0, none⟩) 1 1 ∧ d.Short (tm) ∧ w3.heap.size ≤ g ∧ BlockIs W g 35 (entEnc d) | 6 => ∃ (va' : Option Addr) (vc' : Nat) (d : EntD), v = .slice va' (L.length + 1) vc' ∧ d.Short (tm) ∧ W.ownsRow (w3.heap.size + 1) 35 3 (.slice va' (L.length + 1) vc') (L.length + 1) (entCells (L ++ [d])) | 7 => v = .pointer (some ⟨w3.heap.size, 2, none⟩) | 8 => ∃ (va' : Option Addr) (vc' : Nat) (d : EntD), u = .slice va' (L.length + 1) vc' ∧ d.Short (tm) ∧ W.ownsRow (w3.heap.size + 1) 35 3 (.slice va' (L.length + 1) vc') (L.length + 1) (entCells (L ++ [d])) ∧ BlockIs W (w3.heap.size) 31 [.int .i64 s, .int .i64 x3, .slice va' (L.length + 1) vc'] | _ => True) (fun i => if i = 8 then 6 else i) (fun j i => decide ((j, i) ∈ ([(5, 6)] : List (Nat × Nat)))) (fun i x y => x.heap.size ≤ y.heap.size ∧ ∀ g ty cs, BlockIs x g ty cs → w3.heap.size ≤ g → (i = 6 → ty ≠ 35) → (i = 8 → ty ≠ 31) → BlockIs y g ty cs) (fun m W => match m with | 0 => W.ownsRow (w3.heap.size + 1) 35 3 (.slice va L.length vc) L.length (entCells L) | 1 => BlockIs W (w3.heap.size) 31 [.int .i64 s, .int .i64 x3, .slice va L.length vc] | _ => True) (fun m k => decide ((m, k) ∈ ([(0, 6), (1, 8)] : List (Nat × Nat)))) ?_ (fun i => if i = 8 then 35 else 0) (by kernel_rfl) (fun i hi => by have : 9 ≤ i := hi; simp; omega) ?_ ⟨KC.out.below (below_drewN (Below.refl _ _) 1), grown_below GC.out (below_drewN (Below.refl _ _) 1), XR.out.on (below_drewN (Below.refl _ _) 1) XR.out.lt⟩ (fun m => match m with | 0 => row_below HO.out (below_drewN (Below.refl _ _) 1) | 1 => XB.out.on (below_drewN (Below.refl _ _) 1) XB.out.lt | _ + 2 => trivial) ?_ ?_
        · intro i m x y hen hxy hm
          match m, hen, hm with
          | 0, hen, hm =>
            simp at hen
            exact row_from hm fun g cs hg h => hxy.2 _ _ _ h (by have o1 := Nl.out; have o2 := Ml.out; have o3 := Arl.out; omega) (fun e => absurd e hen) (fun _ => by decide)
          | 1, hen, hm =>
            simp at hen
            exact hxy.2 _ _ _ hm (by have o1 := Nl.out; have o2 := Ml.out; have o3 := Arl.out; omega) (fun _ => by decide) (fun e => absurd e hen)
          | n + 2, _, _ => exact trivial
        · intro i j v u x y hij hdd hwt hxy hg
          match j, hg with
          | 0, hg => exact hg
          | 1, hg => exact hg
          | 2, hg => exact hg
          | 3, hg => exact hg
          | 4, hg => exact hg
          | 5, hg =>
            obtain ⟨g, d, e1, hd, hlt, e2⟩ := hg
            simp at hdd
            exact ⟨g, d, e1, hd, hlt, hxy.2 _ _ _ e2 hlt (fun e => absurd e hdd) (fun _ => by decide)⟩
          | 6, hg =>
            obtain ⟨va', vc', d, e1, hd, e2⟩ := hg
            exact ⟨va', vc', d, e1, hd, row_from e2 fun g cs hg h => hxy.2 _ _ _ h (by have o1 := Nl.out; have o2 := Ml.out; have o3 := Arl.out; omega) (fun e => absurd e hij) (fun _ => by decide)⟩
          | 7, hg => exact hg
          | 8, hg =>
            obtain ⟨va', vc', d, e1, hd, e2, e3⟩ := hg
            have h6 : i ≠ 6 := by rintro rfl; exact Bool.noConfusion (hwt.symm.trans (by kernel_rfl : waitsB _ 8 6 = true))
            exact ⟨va', vc', d, e1, hd, row_from e2 fun g cs hg h => hxy.2 _ _ _ h (by have o1 := Nl.out; have o2 := Ml.out; have o3 := Arl.out; omega) (fun e => absurd e h6) (fun _ => by decide), hxy.2 _ _ _ e3 (by have o1 := Nl.out; have o2 := Ml.out; have o3 := Arl.out; omega) (fun _ => by decide) (fun e => absurd e hij)⟩
          | n + 9, _ => exact trivial
        · refine ⟨?_, ?_, ?_, ?_, ?_, ?_, ?_, ?_, ?_, trivial⟩
          · intro A W hC hI hg hb
            have h3 : A.eval (.tmp 3) = .pointer (some ⟨w3.heap.size, 0, none⟩) := hb 3 (base_of (by kernel_rfl))
            exact does_value (v := .pointer (some ⟨w3.heap.size, 2, none⟩)) (w' := W) (by simp only [execOp, h3]; simp [go_sem]) ⟨rfl, hC, Nat.le_refl _, fun _ _ _ h _ _ _ => h⟩
          · intro A W hC hI hg hb
            have h29 : A.eval (.tmp 29) = .pointer (some ⟨w3.heap.size, 2, none⟩) := hg 0 29 (by decide) rfl (by simp [Op.operands]) (by kernel_rfl) rfl
            have hb1 : BlockIs W (w3.heap.size) 31 [.int .i64 s, .int .i64 x3, .slice va L.length vc] := hI 1 (by kernel_rfl)
            have hc := hb1.cell (j := 2) rfl
            exact does_value (v := .slice va L.length vc) (w' := W) (by simp only [execOp, h29]; simp [go_sem, hc]) ⟨rfl, hC, Nat.le_refl _, fun _ _ _ h _ _ _ => h⟩
          · intro A W hC hI hg hb
            have h0 : A.eval (.tmp 0) = .pointer (some ⟨C, 0, none⟩) := hb 0 (base_of (by kernel_rfl))
            exact does_value (v := .pointer (some ⟨C, 0, none⟩)) (w' := W) (by simp only [execOp, h0]; simp [go_sem]) ⟨rfl, hC, Nat.le_refl _, fun _ _ _ h _ _ _ => h⟩
          · intro A W hC hI hg hb
            have h4 : A.eval (.tmp 4) = .int .i64 tm := hb 4 (base_of (by kernel_rfl))
            exact does_value (v := .int .i64 tm) (w' := W) (by simp only [execOp, h4]; simp [go_sem]) ⟨rfl, hC, Nat.le_refl _, fun _ _ _ h _ _ _ => h⟩
          · intro A W hC hI hg hb
            have h31 : A.eval (.tmp 31) = .pointer (some ⟨C, 0, none⟩) := hg 2 31 (by decide) rfl (by simp [Op.operands, Call.operands]) (by kernel_rfl) rfl
            have h32 : A.eval (.tmp 32) = .int .i64 tm := hg 3 32 (by decide) rfl (by simp [Op.operands, Call.operands]) (by kernel_rfl) rfl
            simp [go_sem] at h31 h32
            refine does_enter (f := 52) (args := #[.pointer (some ⟨C, 0, none⟩), .int .i64 tm]) (w' := W) (by simp [go_sem, h31, h32]) ?_
            obtain ⟨hk, hgr, hr⟩ := hC
            refine (l05Right_any C (tm) W hk).mono ?_
            rintro e W' ⟨d, rfl, hd, k', q'⟩
            exact ⟨_, rfl, ⟨d, rfl, hd⟩, ⟨k', hgr.trans q', hr.cur q' Nr.out⟩, q'.size, fun g ty cs h hg _ _ => h.cur q' (by have o1 := Nl.out; have o2 := Ml.out; have o3 := Arl.out; omega)⟩
          · intro A W hC hI hg hb
            have g4 := hg 4 33 (by decide) rfl (by simp [Op.operands]) (by kernel_rfl) rfl
            obtain ⟨d, h33, hd⟩ := g4
            simp [go_sem] at h33
            have hb1 : BlockIs W (w3.heap.size) 31 [.int .i64 s, .int .i64 x3, .slice va L.length vc] := hI 1 (by kernel_rfl)
            have ba := below_more (Below.refl W.heap.size W) (.cells #[.int .i64 d.term, .int .i64 d.kind, .string d.data] 35)
            exact does_value (v := .slice (some ⟨W.heap.size, 0, none⟩) 1 1) (w' := W.alloc (.cells #[.int .i64 d.term, .int .i64 d.kind, .string d.data] 35)) (by simp [execOp, go_sem, h33]) ⟨⟨_, d, rfl, hd, by have := hb1.lt; have o1 := Nl.out; have o2 := Ml.out; have o3 := Arl.out; omega, heap_alloc_new W _⟩, ⟨hC.1.below ba, grown_below hC.2.1 ba, hC.2.2.on ba hC.2.2.lt⟩, ba.size, fun g ty cs h _ _ _ => h.on ba h.lt⟩
          · intro A W hC hI hg hb
            have h30 : A.eval (.tmp 30) = .slice va L.length vc := hg 1 30 (by decide) rfl (by simp [Op.operands, Call.operands]) (by kernel_rfl) rfl
            have g5 := hg 5 34 (by decide) rfl (by simp [Op.operands, Call.operands]) (by kernel_rfl) rfl
            obtain ⟨g, d, h34, hd, hlt, hbl⟩ := g5
            have hb1 : BlockIs W (w3.heap.size) 31 [.int .i64 s, .int .i64 x3, .slice va L.length vc] := hI 1 (by kernel_rfl)
            have hrow : W.ownsRow (w3.heap.size + 1) 35 3 (.slice va L.length vc) L.length (entCells L) := hI 0 (by kernel_rfl)
            obtain ⟨v', W', hr, h2, h3⟩ := append_one (by have := HLk.out; omega) (by have := hb1.lt; have o1 := Nl.out; have o2 := Ml.out; have o3 := Arl.out; omega) hrow hbl
            obtain ⟨va', vc', rfl⟩ := row_shape h2
            rw [← entCells_snoc] at h2
            have hown : ∀ j, (Value.slice va L.length vc).ownBlock = some j → w3.heap.size + 1 ≤ j := fun j hj => (row_block hrow hj).elim fun _ h => h.2
            refine does_value (v := .slice va' (L.length + 1) vc') (w' := W') (by simp only [execOp, resolve, invoke, builtin, Sem.run_bind, Sem.run_pure, Result.andThen_ok, List.map_toArray, List.map_cons, List.map_nil, h30, h34, hr]) ⟨⟨va', vc', d, rfl, hd, h2⟩, ⟨hC.1.kept h3 (fun j hj => by have := hown j hj; have o1 := Nl.out; have o2 := Ml.out; have o3 := Arl.out; omega), grown_row hC.2.1 h3 (fun j hj => by have := hown j hj; have o1 := Nl.out; have o2 := Ml.out; have o3 := Arl.out; omega), ?_⟩, h3.size, fun p ty cs hp _ hne _ => ?_⟩
            · unfold BlockIs
              rw [h3.block _ hC.2.2.lt (fun e => by have := hown _ e.symm; have o1 := Nl.out; have o2 := Ml.out; have o3 := Arl.out; omega)]
              exact hC.2.2
            · have hpg : some p ≠ (Value.slice va L.length vc).ownBlock := by
                intro e
                obtain ⟨cs', hb', _⟩ := row_block hrow e.symm
                exact hne rfl (block_one hp hb').1
              unfold BlockIs
              rw [h3.block p hp.lt hpg]
              exact hp
          · intro A W hC hI hg hb
            have h3 : A.eval (.tmp 3) = .pointer (some ⟨w3.heap.size, 0, none⟩) := hb 3 (base_of (by kernel_rfl))
            exact does_value (v := .pointer (some ⟨w3.heap.size, 2, none⟩)) (w' := W) (by simp only [execOp, h3]; simp [go_sem]) ⟨rfl, hC, Nat.le_refl _, fun _ _ _ h _ _ _ => h⟩
          · intro A W hC hI hg hb
            have h36 : A.eval (.tmp 36) = .pointer (some ⟨w3.heap.size, 2, none⟩) := hg 7 36 (by decide) rfl (by simp [Op.operands]) (by kernel_rfl) rfl
            have g6 := hg 6 35 (by decide) rfl (by simp [Op.operands]) (by kernel_rfl) rfl
            obtain ⟨va', vc', d, h35, hd, hrow⟩ := g6
            have hb1 : BlockIs W (w3.heap.size) 31 [.int .i64 s, .int .i64 x3, .slice va L.length vc] := hI 1 (by kernel_rfl)
            have c2 := hb1.cell (j := 2) rfl
            have f2 := hb1.thaw 2
            have far : ∀ p ty cs, BlockIs W p ty cs → ty ≠ 31 → BlockIs (W.setCell ⟨w3.heap.size, 2, none⟩ (.slice va' (L.length + 1) vc')) p ty cs := fun p ty cs hp hne => hp.far (by intro e; subst e; exact hne (block_one hp hb1).1) _
            exact does_skip (w' := W.setCell ⟨w3.heap.size, 2, none⟩ (.slice va' (L.length + 1) vc')) (by simp only [execOp, h36, h35]; simp [go_sem, c2, f2]) ⟨⟨va', vc', d, h35, hd, row_from hrow fun g cs _ h => far g _ _ h (by decide), hb1.set 2 _⟩, ⟨hC.1.set Nl.out, grown_far hC.2.1 Ml.out, hC.2.2.far (by have o1 := Nl.out; have o2 := Ml.out; have o3 := Arl.out; omega) _⟩, by simp [World.size_setCell], fun p ty cs hp _ _ hne => far p ty cs hp (hne rfl)⟩
        · intro vs wE hC hI hg
          obtain ⟨va', vc', d, hu, hd, ho, hb⟩ := hg 8 (by decide) (fun k => by simp)
          change vs 6 = _ at hu
          clear hg hI
          obtain ⟨hk, hgr, hr⟩ := hC
          change Exit.inBlock 1 (Exit.then _ _) _ (laidBy _ vs _ 9 _) wE
          simp only [laidBy, if_true, dstAt, List.getElem?_toArray, List.getElem?_cons_succ, List.getElem?_cons_zero, Option.bind_some]
          simp only [Act.put, List.setIfInBounds_toArray, List.set_cons_succ, List.set_cons_zero]
          clear hu KC GC XR XB HO
          have KC := hid hk
          have GC := hid hgr
          have XR := hid hr
          have XB := hid hb
          have HO := hid ho
          clear hk hgr hr hb ho
          have HT2 : Hid (∀ f ∈ L ++ [d], f.Tame) := fun f hf => (List.mem_append.1 hf).elim (HT.out f) fun q => by
            rw [List.mem_singleton.1 q]
            obtain ⟨p1, p2, p3, p4, _⟩ := hd
            exact ⟨by omega, by omega, by omega⟩
          have HTN : Hid (termsOk x3 (L ++ [d]) = true ∧ lastT x3 (L ++ [d]) ≤ tm) := terms_more HTO.out.1 (Int.le_trans HTO.out.2 (by omega)) hd (within_iff.2 (by omega))
          have HL : (L ++ [d]).length = L.length + 1 := by simp
          rw [← HL] at XB HO
          obtain ⟨M, hM⟩ : ∃ M, L ++ [d] = M := ⟨_, rfl⟩
          rw [hM] at XB HO HT2 HL HTN
          have HLM : Hid (M.length = k + 1) := (show _ = _ by have := HLk.out; omega)
          clear hM HL HLk HTO
          go_wp2
          go_roundw
          case rel => exact ⟨k + 1, tm, M, va', vc', by omega, by go_num, rfl, by omega, by omega, HLM, HTN, HT2, KC, GC, XR, XB, HO⟩
          case measure => simp [intOf]; omega
      | true =>
        go_wp2_with fail
        refine (l01Below_any C 2 (by omega) (by omega) _ KC.out).mono ?_
        rintro e w6 ⟨z, rfl, z0, z1, k6, q6⟩
        have K2 := hid k6
        have G2 := hid (GC.out.trans q6)
        have R2 := hid (XR.out.cur q6 Nr.out)
        have B2 := hid (XB.out.cur q6 Nl.out)
        have H2 := hid (row_past HO.out q6 (by have := Nl.out; omega))
        clear k6 q6 KC GC XR XB HO
        have KC := K2
        have GC := G2
        have XR := R2
        have XB := B2
        have HO := H2
        clear K2 G2 R2 B2 H2
        go_wp2
        refine wp_region_from (N := 38) (by kernel_rfl) (by kernel_rfl) rfl (by kernel_rfl) (fun W => CurAt W C ∧ w.grownBy W (some C) ∧ BlockIs W (w.heap.size) 31 [.int .i64 0, .int .i64 0, .slice none 0 0]) (fun j v u W => match j with | 0 => v = .pointer (some ⟨w3.heap.size, 2, none⟩) | 1 => v = .slice va L.length vc | 2 => v = .pointer (some ⟨C, 0, none⟩) | 3 => v = .int .i64 (tm + 1 + z) | 4 => ∃ d : EntD, v = .agg #[.int .i64 d.term, .int .i64 d.kind, .string d.data] ∧ d.Short ((tm + 1 + z)) | 5 => ∃ (g : Nat) (d : EntD), v = .slice (some ⟨g, 0, none⟩) 1 1 ∧ d.Short ((tm + 1 + z)) ∧ w3.heap.size ≤ g ∧ BlockIs W g 35 (entEnc d) | 6 => ∃ (va' : Option Addr) (vc' : Nat) (d : EntD), v = .slice va' (L.length + 1) vc' ∧ d.Short ((tm + 1 + z)) ∧ W.ownsRow (w3.heap.size + 1) 35 3 (.slice va' (L.length + 1) vc') (L.length + 1) (entCells (L ++ [d])) | 7 => v = .pointer (some ⟨w3.heap.size, 2, none⟩) | 8 => ∃ (va' : Option Addr) (vc' : Nat) (d : EntD), u = .slice va' (L.length + 1) vc' ∧ d.Short ((tm + 1 + z)) ∧ W.ownsRow (w3.heap.size + 1) 35 3 (.slice va' (L.length + 1) vc') (L.length + 1) (entCells (L ++ [d])) ∧ BlockIs W (w3.heap.size) 31 [.int .i64 s, .int .i64 x3, .slice va' (L.length + 1) vc'] | _ => True) (fun i => if i = 8 then 6 else i) (fun j i => decide ((j, i) ∈ ([(5, 6)] : List (Nat × Nat)))) (fun i x y => x.heap.size ≤ y.heap.size ∧ ∀ g ty cs, BlockIs x g ty cs → w3.heap.size ≤ g → (i = 6 → ty ≠ 35) → (i = 8 → ty ≠ 31) → BlockIs y g ty cs) (fun m W => match m with | 0 => W.ownsRow (w3.heap.size + 1) 35 3 (.slice va L.length vc) L.length (entCells L) | 1 => BlockIs W (w3.heap.size) 31 [.int .i64 s, .int .i64 x3, .slice va L.length vc] | _ => True) (fun m k => decide ((m, k) ∈ ([(0, 6), (1, 8)] : List (Nat × Nat)))) ?_ (fun i => if i = 8 then 35 else 0) (by kernel_rfl) (fun i hi => by have : 9 ≤ i := hi; simp; omega) ?_ ⟨KC.out.below (below_drewN (Below.refl _ _) 1), grown_below GC.out (below_drewN (Below.refl _ _) 1), XR.out.on (below_drewN (Below.refl _ _) 1) XR.out.lt⟩ (fun m => match m with | 0 => row_below HO.out (below_drewN (Below.refl _ _) 1) | 1 => XB.out.on (below_drewN (Below.refl _ _) 1) XB.out.lt | _ + 2 => trivial) ?_ ?_
        · intro i m x y hen hxy hm
          match m, hen, hm with
          | 0, hen, hm =>
            simp at hen
            exact row_from hm fun g cs hg h => hxy.2 _ _ _ h (by have o1 := Nl.out; have o2 := Ml.out; have o3 := Arl.out; omega) (fun e => absurd e hen) (fun _ => by decide)
          | 1, hen, hm =>
            simp at hen
            exact hxy.2 _ _ _ hm (by have o1 := Nl.out; have o2 := Ml.out; have o3 := Arl.out; omega) (fun _ => by decide) (fun e => absurd e hen)
          | n + 2, _, _ => exact trivial
        · intro i j v u x y hij hdd hwt hxy hg
          match j, hg with
          | 0, hg => exact hg
          | 1, hg => exact hg
          | 2, hg => exact hg
          | 3, hg => exact hg
          | 4, hg => exact hg
          | 5, hg =>
            obtain ⟨g, d, e1, hd, hlt, e2⟩ := hg
            simp at hdd
            exact ⟨g, d, e1, hd, hlt, hxy.2 _ _ _ e2 hlt (fun e => absurd e hdd) (fun _ => by decide)⟩
          | 6, hg =>
            obtain ⟨va', vc', d, e1, hd, e2⟩ := hg
            exact ⟨va', vc', d, e1, hd, row_from e2 fun g cs hg h => hxy.2 _ _ _ h (by have o1 := Nl.out; have o2 := Ml.out; have o3 := Arl.out; omega) (fun e => absurd e hij) (fun _ => by decide)⟩
          | 7, hg => exact hg
          | 8, hg =>
            obtain ⟨va', vc', d, e1, hd, e2, e3⟩ := hg
            have h6 : i ≠ 6 := by rintro rfl; exact Bool.noConfusion (hwt.symm.trans (by kernel_rfl : waitsB _ 8 6 = true))
            exact ⟨va', vc', d, e1, hd, row_from e2 fun g cs hg h => hxy.2 _ _ _ h (by have o1 := Nl.out; have o2 := Ml.out; have o3 := Arl.out; omega) (fun e => absurd e h6) (fun _ => by decide), hxy.2 _ _ _ e3 (by have o1 := Nl.out; have o2 := Ml.out; have o3 := Arl.out; omega) (fun _ => by decide) (fun e => absurd e hij)⟩
          | n + 9, _ => exact trivial
        · refine ⟨?_, ?_, ?_, ?_, ?_, ?_, ?_, ?_, ?_, trivial⟩
          · intro A W hC hI hg hb
            have h3 : A.eval (.tmp 3) = .pointer (some ⟨w3.heap.size, 0, none⟩) := hb 3 (base_of (by kernel_rfl))
            exact does_value (v := .pointer (some ⟨w3.heap.size, 2, none⟩)) (w' := W) (by simp only [execOp, h3]; simp [go_sem]) ⟨rfl, hC, Nat.le_refl _, fun _ _ _ h _ _ _ => h⟩
          · intro A W hC hI hg hb
            have h29 : A.eval (.tmp 29) = .pointer (some ⟨w3.heap.size, 2, none⟩) := hg 0 29 (by decide) rfl (by simp [Op.operands]) (by kernel_rfl) rfl
            have hb1 : BlockIs W (w3.heap.size) 31 [.int .i64 s, .int .i64 x3, .slice va L.length vc] := hI 1 (by kernel_rfl)
            have hc := hb1.cell (j := 2) rfl
            exact does_value (v := .slice va L.length vc) (w' := W) (by simp only [execOp, h29]; simp [go_sem, hc]) ⟨rfl, hC, Nat.le_refl _, fun _ _ _ h _ _ _ => h⟩
          · intro A W hC hI hg hb
            have h0 : A.eval (.tmp 0) = .pointer (some ⟨C, 0, none⟩) := hb 0 (base_of (by kernel_rfl))
            exact does_value (v := .pointer (some ⟨C, 0, none⟩)) (w' := W) (by simp only [execOp, h0]; simp [go_sem]) ⟨rfl, hC, Nat.le_refl _, fun _ _ _ h _ _ _ => h⟩
          · intro A W hC hI hg hb
            have h4 : A.eval (.tmp 4) = .int .i64 (tm + 1 + z) := hb 4 (base_of (by kernel_rfl))
            exact does_value (v := .int .i64 (tm + 1 + z)) (w' := W) (by simp only [execOp, h4]; simp [go_sem]) ⟨rfl, hC, Nat.le_refl _, fun _ _ _ h _ _ _ => h⟩
          · intro A W hC hI hg hb
            have h31 : A.eval (.tmp 31) = .pointer (some ⟨C, 0, none⟩) := hg 2 31 (by decide) rfl (by simp [Op.operands, Call.operands]) (by kernel_rfl) rfl
            have h32 : A.eval (.tmp 32) = .int .i64 (tm + 1 + z) := hg 3 32 (by decide) rfl (by simp [Op.operands, Call.operands]) (by kernel_rfl) rfl
            simp [go_sem] at h31 h32
            refine does_enter (f := 52) (args := #[.pointer (some ⟨C, 0, none⟩), .int .i64 (tm + 1 + z)]) (w' := W) (by simp [go_sem, h31, h32]) ?_
            obtain ⟨hk, hgr, hr⟩ := hC
            refine (l05Right_any C ((tm + 1 + z)) W hk).mono ?_
            rintro e W' ⟨d, rfl, hd, k', q'⟩
            exact ⟨_, rfl, ⟨d, rfl, hd⟩, ⟨k', hgr.trans q', hr.cur q' Nr.out⟩, q'.size, fun g ty cs h hg _ _ => h.cur q' (by have o1 := Nl.out; have o2 := Ml.out; have o3 := Arl.out; omega)⟩
          · intro A W hC hI hg hb
            have g4 := hg 4 33 (by decide) rfl (by simp [Op.operands]) (by kernel_rfl) rfl
            obtain ⟨d, h33, hd⟩ := g4
            simp [go_sem] at h33
            have hb1 : BlockIs W (w3.heap.size) 31 [.int .i64 s, .int .i64 x3, .slice va L.length vc] := hI 1 (by kernel_rfl)
            have ba := below_more (Below.refl W.heap.size W) (.cells #[.int .i64 d.term, .int .i64 d.kind, .string d.data] 35)
            exact does_value (v := .slice (some ⟨W.heap.size, 0, none⟩) 1 1) (w' := W.alloc (.cells #[.int .i64 d.term, .int .i64 d.kind, .string d.data] 35)) (by simp [execOp, go_sem, h33]) ⟨⟨_, d, rfl, hd, by have := hb1.lt; have o1 := Nl.out; have o2 := Ml.out; have o3 := Arl.out; omega, heap_alloc_new W _⟩, ⟨hC.1.below ba, grown_below hC.2.1 ba, hC.2.2.on ba hC.2.2.lt⟩, ba.size, fun g ty cs h _ _ _ => h.on ba h.lt⟩
          · intro A W hC hI hg hb
            have h30 : A.eval (.tmp 30) = .slice va L.length vc := hg 1 30 (by decide) rfl (by simp [Op.operands, Call.operands]) (by kernel_rfl) rfl
            have g5 := hg 5 34 (by decide) rfl (by simp [Op.operands, Call.operands]) (by kernel_rfl) rfl
            obtain ⟨g, d, h34, hd, hlt, hbl⟩ := g5
            have hb1 : BlockIs W (w3.heap.size) 31 [.int .i64 s, .int .i64 x3, .slice va L.length vc] := hI 1 (by kernel_rfl)
            have hrow : W.ownsRow (w3.heap.size + 1) 35 3 (.slice va L.length vc) L.length (entCells L) := hI 0 (by kernel_rfl)
            obtain ⟨v', W', hr, h2, h3⟩ := append_one (by have := HLk.out; omega) (by have := hb1.lt; have o1 := Nl.out; have o2 := Ml.out; have o3 := Arl.out; omega) hrow hbl
            obtain ⟨va', vc', rfl⟩ := row_shape h2
            rw [← entCells_snoc] at h2
            have hown : ∀ j, (Value.slice va L.length vc).ownBlock = some j → w3.heap.size + 1 ≤ j := fun j hj => (row_block hrow hj).elim fun _ h => h.2
            refine does_value (v := .slice va' (L.length + 1) vc') (w' := W') (by simp only [execOp, resolve, invoke, builtin, Sem.run_bind, Sem.run_pure, Result.andThen_ok, List.map_toArray, List.map_cons, List.map_nil, h30, h34, hr]) ⟨⟨va', vc', d, rfl, hd, h2⟩, ⟨hC.1.kept h3 (fun j hj => by have := hown j hj; have o1 := Nl.out; have o2 := Ml.out; have o3 := Arl.out; omega), grown_row hC.2.1 h3 (fun j hj => by have := hown j hj; have o1 := Nl.out; have o2 := Ml.out; have o3 := Arl.out; omega), ?_⟩, h3.size, fun p ty cs hp _ hne _ => ?_⟩
            · unfold BlockIs
              rw [h3.block _ hC.2.2.lt (fun e => by have := hown _ e.symm; have o1 := Nl.out; have o2 := Ml.out; have o3 := Arl.out; omega)]
              exact hC.2.2
            · have hpg : some p ≠ (Value.slice va L.length vc).ownBlock := by
                intro e
                obtain ⟨cs', hb', _⟩ := row_block hrow e.symm
                exact hne rfl (block_one hp hb').1
              unfold BlockIs
              rw [h3.block p hp.lt hpg]
              exact hp
          · intro A W hC hI hg hb
            have h3 : A.eval (.tmp 3) = .pointer (some ⟨w3.heap.size, 0, none⟩) := hb 3 (base_of (by kernel_rfl))
            exact does_value (v := .pointer (some ⟨w3.heap.size, 2, none⟩)) (w' := W) (by simp only [execOp, h3]; simp [go_sem]) ⟨rfl, hC, Nat.le_refl _, fun _ _ _ h _ _ _ => h⟩
          · intro A W hC hI hg hb
            have h36 : A.eval (.tmp 36) = .pointer (some ⟨w3.heap.size, 2, none⟩) := hg 7 36 (by decide) rfl (by simp [Op.operands]) (by kernel_rfl) rfl
            have g6 := hg 6 35 (by decide) rfl (by simp [Op.operands]) (by kernel_rfl) rfl
            obtain ⟨va', vc', d, h35, hd, hrow⟩ := g6
            have hb1 : BlockIs W (w3.heap.size) 31 [.int .i64 s, .int .i64 x3, .slice va L.length vc] := hI 1 (by kernel_rfl)
            have c2 := hb1.cell (j := 2) rfl
            have f2 := hb1.thaw 2
            have far : ∀ p ty cs, BlockIs W p ty cs → ty ≠ 31 → BlockIs (W.setCell ⟨w3.heap.size, 2, none⟩ (.slice va' (L.length + 1) vc')) p ty cs := fun p ty cs hp hne => hp.far (by intro e; subst e; exact hne (block_one hp hb1).1) _
            exact does_skip (w' := W.setCell ⟨w3.heap.size, 2, none⟩ (.slice va' (L.length + 1) vc')) (by simp only [execOp, h36, h35]; simp [go_sem, c2, f2]) ⟨⟨va', vc', d, h35, hd, row_from hrow fun g cs _ h => far g _ _ h (by decide), hb1.set 2 _⟩, ⟨hC.1.set Nl.out, grown_far hC.2.1 Ml.out, hC.2.2.far (by have o1 := Nl.out; have o2 := Ml.out; have o3 := Arl.out; omega) _⟩, by simp [World.size_setCell], fun p ty cs hp _ _ hne => far p ty cs hp (hne rfl)⟩
        · intro vs wE hC hI hg
          obtain ⟨va', vc', d, hu, hd, ho, hb⟩ := hg 8 (by decide) (fun k => by simp)
          change vs 6 = _ at hu
          clear hg hI
          obtain ⟨hk, hgr, hr⟩ := hC
          change Exit.inBlock 1 (Exit.then _ _) _ (laidBy _ vs _ 9 _) wE
          simp only [laidBy, if_true, dstAt, List.getElem?_toArray, List.getElem?_cons_succ, List.getElem?_cons_zero, Option.bind_some]
          simp only [Act.put, List.setIfInBounds_toArray, List.set_cons_succ, List.set_cons_zero]
          clear hu KC GC XR XB HO
          have KC := hid hk
          have GC := hid hgr
          have XR := hid hr
          have XB := hid hb
          have HO := hid ho
          clear hk hgr hr hb ho
          have HT2 : Hid (∀ f ∈ L ++ [d], f.Tame) := fun f hf => (List.mem_append.1 hf).elim (HT.out f) fun q => by
            rw [List.mem_singleton.1 q]
            obtain ⟨p1, p2, p3, p4, _⟩ := hd
            exact ⟨by omega, by omega, by omega⟩
          have HTN : Hid (termsOk x3 (L ++ [d]) = true ∧ lastT x3 (L ++ [d]) ≤ (tm + 1 + z)) := terms_more HTO.out.1 (Int.le_trans HTO.out.2 (by omega)) hd (within_iff.2 (by omega))
          have HL : (L ++ [d]).length = L.length + 1 := by simp
          rw [← HL] at XB HO
          obtain ⟨M, hM⟩ : ∃ M, L ++ [d] = M := ⟨_, rfl⟩
          rw [hM] at XB HO HT2 HL HTN
          have HLM : Hid (M.length = k + 1) := (show _ = _ by have := HLk.out; omega)
          clear hM HL HLk HTO
          go_wp2
          go_roundw
          case rel => exact ⟨k + 1, (tm + 1 + z), M, va', vc', by omega, by go_num, rfl, by omega, by omega, HLM, HTN, HT2, KC, GC, XR, XB, HO⟩
          case measure => simp [intOf]; omega
    · have zr0 := XR.out.cell (j := 0) rfl
      have zr1 := XR.out.cell (j := 1) rfl
      have zr2 := XR.out.cell (j := 2) rfl
      have yr0 := XR.out.thaw 0
      have yr1 := XR.out.thaw 1
      have yr2 := XR.out.thaw 2
      have zl0 := XB.out.cell (j := 0) rfl
      have zl1 := XB.out.cell (j := 1) rfl
      have zl2 := XB.out.cell (j := 2) rfl
      have KL := hid (((KC.out.set (b := w.heap.size) (j := 0) (v := .int .i64 s) Nr.out).set (b := w.heap.size) (j := 1) (v := .int .i64 x3) Nr.out).set (b := w.heap.size) (j := 2) (v := .slice va L.length vc) Nr.out)
      have GL := hid (grown_far (b := w.heap.size) (j := 2) (v := .slice va L.length vc) (grown_far (b := w.heap.size) (j := 1) (v := .int .i64 x3) (grown_far (b := w.heap.size) (j := 0) (v := .int .i64 s) GC.out Mr.out) Mr.out) Mr.out)
      have HL := hid (row_down (row_set (b := w.heap.size) (j := 2) (v := .slice va L.length vc) (row_set (b := w.heap.size) (j := 1) (v := .int .i64 x3) (row_set (b := w.heap.size) (j := 0) (v := .int .i64 s) HO.out (by have := Arl.out; omega)) (by have := Arl.out; omega)) (by have := Arl.out; omega)) (show w.heap.size ≤ _ + 1 by have := Ml.out; omega))
      clear KC GC XR XB HO
      go_wp2
      refine bodyPost_ret (v := .agg #[.int .i64 s, .int .i64 x3, .slice va L.length vc]) (by simp [results, Try.results58, go_sem, zr0, zr1, zr2]) rfl ?_
      exact ⟨s, x3, va, vc, L, rfl, by have := HLk.out; omega, logOk_iff.2 (by have := HLk.out; exact ⟨by omega, by omega, by omega, by omega, HTO.out.1⟩), ⟨by omega, Int.le_trans HTO.out.2 (by omega)⟩, HT.out, HL.out, KL.out, GL.out⟩
theorem l06Right_any (C : Nat) (w : World) (hc : CurAt w C) : Calls Try.prog 58 #[.pointer (some ⟨C, 0, none⟩)] w (LogDrew w C 7) := by
  refine (l06Right_right C w hc).mono ?_
  rintro e w' ⟨s, t, va, vc, L, he, hl, ho, _, r⟩
  have hb := logOk_iff.1 ho
  exact ⟨s, t, va, vc, L, he, hl, by omega, by omega, r⟩
end Go.Proofs.Ytjkgjnpifdafaaa
