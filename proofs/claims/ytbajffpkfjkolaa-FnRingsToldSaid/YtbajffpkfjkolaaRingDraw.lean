/-
  The walk of spec.l09Ring: some right ring, in memory of its own.
-/
import Derived.Test.YtbajffpkfjkolaaPlainQueue
import Derived.Test.YtbajffpkfjkolaaPostS
import Derived.Test.YtbajffpkfjkolaaTakeRingS
import Derived.Test.YtbajffpkfjkolaaRingNewS
import Derived.Test.YtbajffpkfjkolaaCurOnce
import Derived.Test.YtbajffpkfjkolaaCurText
import Derived.Test.YtbajffpkfjkolaaDrawKit
import Derived.Test.YtbajffpkfjkolaaAnyOrder
import Derived.Deep.LoopGhost
namespace Go.Proofs.Ytbajffpkfjkolaa
open Go.RowKit

theorem OwnAt.cur {w w' : World} {t : TypeId} {cs : List Value} {n C : Nat} {va : Option Addr} {lo : Nat} (h : OwnAt w t cs n va lo w.heap.size) (hg : w.grownBy w' (some C)) (hC : C < lo) : OwnAt w' t cs n va lo w'.heap.size :=
  h.imp id fun ⟨g, r, a, b, c, d⟩ => ⟨g, r, a, b, Nat.lt_of_lt_of_le c hg.size, d.cur hg (by omega)⟩

/-- some right ring in memory of its own; the cursor -/
def RingDrew (w : World) (C : Nat) (e : Ending) (w' : World) : Prop := ∃ (h t : Nat) (q : List ByteArray) (l : List SlotD) (va : Option Addr) (vc : Nat), e = .returned (.agg #[.slice va l.length vc, .int .i64 h, .int .i64 t]) ∧ RingIs l h t q ∧ OwnAt w' 42 (slotCells l) l.length va (w.heap.size + 1) w'.heap.size ∧ CurAt w' C ∧ w.grownBy w' (some C)

set_option maxRecDepth 1000000 in
set_option maxHeartbeats 4000000 in
theorem l09Ring_any (C : Nat) (w : World) (hc : CurAt w C) : Calls Try.prog 18 #[.pointer (some ⟨C, 0, none⟩)] w (RingDrew w C) := by
  have hCl := hc.lt
  have be := below_more (Below.refl w.heap.size w) (.cells #[.slice none 0 0, .int .i64 0, .int .i64 0] 26)
  have hx1 : BlockIs (w.alloc (.cells #[.slice none 0 0, .int .i64 0, .int .i64 0] 26)) w.heap.size 26 [.slice none 0 0, .int .i64 0, .int .i64 0] := heap_alloc_new w _
  have k0 := hc.below be
  have g0 := grown_below (World.grownBy.refl w (some C)) be
  obtain ⟨W0, hW0⟩ : ∃ W, w.alloc (.cells #[.slice none 0 0, .int .i64 0, .int .i64 0] 26) = W := ⟨_, rfl⟩
  rw [hW0] at hx1 k0 g0
  have K0 := hid k0
  have G0 := hid g0
  have X0 := hid hx1
  clear hc be hx1 k0 g0
  go_enter Try.func18, Try.ntmps18
  go_wp2_with fail
  refine (l01Below_any C 8 (by omega) (by omega) _ K0.out).mono ?_
  rintro e w1 ⟨x, rfl, x0, x1, k1, q1⟩
  obtain ⟨y, rfl⟩ := Int.eq_ofNat_of_zero_le x0
  have K1 := hid k1
  have G1 := hid (G0.out.trans q1)
  have X1 := hid (X0.out.cur q1 hCl)
  clear k1 q1 K0 G0 X0
  have CN := hid (specNew_any ((y : Int) + 1) w1)
  have hy1 : (1 : Int) + (y : Int) = (y : Int) + 1 := by omega
  go_wp2_with fail
  first | skip | rw [hy1]
  refine CN.out.mono ?_
  rintro e w2 ⟨va0, vc0, rfl, _, ho, b2⟩
  have hok : newOk ((y : Int) + 1) = true := by unfold newOk; simp; omega
  have hnl : newL ((y : Int) + 1) = List.replicate (y + 1) slot0 := by unfold newL; rw [hok, if_pos rfl, show ((y : Int) + 1).toNat = y + 1 by omega]
  have hr0 := ring_new (n := y + 1) (by omega) (by omega)
  obtain ⟨L0, hL0⟩ : ∃ L0, List.replicate (y + 1) slot0 = L0 := ⟨_, rfl⟩
  rw [hL0] at hnl hr0
  rw [hnl] at ho ⊢
  have R0 := hid hr0
  clear hr0 hL0
  have hX1 := X1.out.lt
  have ba := below_more (Below.refl w2.heap.size w2) (.cells #[.slice va0 L0.length vc0, .int .i64 0, .int .i64 0] 26)
  have hxb : BlockIs (w2.alloc (.cells #[.slice va0 L0.length vc0, .int .i64 0, .int .i64 0] 26)) w2.heap.size 26 [.slice va0 L0.length vc0, .int .i64 ((0 : Nat) : Int), .int .i64 ((0 : Nat) : Int)] := heap_alloc_new w2 _
  have bc := below_via b2 ba
  have hb2s := b2.size
  have K2 := hid (K1.out.below bc)
  have G2 := hid (grown_below G1.out bc)
  have X2 := hid (X1.out.on bc X1.out.lt)
  have O2 := hid (((ho.on ba).down (show w.heap.size + 1 ≤ w1.heap.size by omega) ba.size))
  have XB2 := hid hxb
  have hgs := G1.out.size
  obtain ⟨B, hB⟩ : ∃ B, w2.heap.size = B := ⟨_, rfl⟩
  rw [hB] at XB2
  have hBw : w.heap.size < B := by omega
  clear ba hxb bc b2 ho K1 G1 X1 CN hok hnl
  go_wp2
  clear hB hb2s hgs hX1
  go_loopw [5] (fun i wr => ∃ (k h t : Nat) (q : List ByteArray) (l : List SlotD) (va : Option Addr) (vc : Nat), k ≤ 20 ∧ i = .int .i64 k ∧ Hid (RingIs l h t q) ∧ Hid (CurAt wr C) ∧ Hid (w.grownBy wr (some C)) ∧ Hid (BlockIs wr w.heap.size 26 [.slice none 0 0, .int .i64 0, .int .i64 0]) ∧ Hid (BlockIs wr B 26 [.slice va l.length vc, .int .i64 h, .int .i64 t]) ∧ Hid (OwnAt wr 42 (slotCells l) l.length va (w.heap.size + 1) wr.heap.size)) (fun i _ => 21 - (intOf i).toNat)
  case atStart => exact ⟨0, 0, 0, [], L0, va0, vc0, by omega, rfl, R0, K2, G2, X2, XB2, O2⟩
  case round =>
    clear R0 K2 G2 X2 XB2 O2
    obtain ⟨k, h, t, q, l, va, vc, hk, rfl, HR, KC, GC, XR, XB, HO⟩ := hrel
    go_wp2_with fail
    refine (l01Below_any C 20 (by omega) (by omega) _ KC.out).mono ?_
    rintro e w4 ⟨y4, rfl, y40, y41, k4, q4⟩
    have K2 := hid k4
    have G2 := hid (GC.out.trans q4)
    have R2 := hid (XR.out.cur q4 (by omega))
    have B2 := hid (XB.out.cur q4 (by omega))
    have H2 := hid (HO.out.cur q4 (by omega))
    clear k4 q4 KC GC XR XB HO
    have hl1 := HR.out.1.1
    have hl2 := HR.out.1.2
    have hhl := HR.out.head_lt
    have htl := HR.out.2.1
    by_cases hky : (k : Int) < y4
    · go_wp2_with fail
      refine (l01Once_any C 3 (by omega) (by omega) _ K2.out).mono ?_
      rintro e w5 ⟨bb, rfl, k5, q5⟩
      have KC := hid k5
      have GC := hid (G2.out.trans q5)
      have XR := hid (R2.out.cur q5 (by omega))
      have XB := hid (B2.out.cur q5 (by omega))
      have HO := hid (H2.out.cur q5 (by omega))
      have b0 := XB.out.cell (j := 0) rfl
      have b1 := XB.out.cell (j := 1) rfl
      have b2 := XB.out.cell (j := 2) rfl
      clear k5 q5 K2 G2 R2 B2 H2
      cases bb with
      | true =>
        have CT := hid (specTake_any h t (by omega) (by omega) va l vc (by omega) HR.out.small w5 HO.out.slots)
        obtain ⟨t', q', ht', hr'⟩ := HR.out.taken
        unfold TakeRDid at CT
        rw [ht'] at CT
        go_wp2_with fail
        refine CT.out.mono ?_
        rintro e w6 ⟨va', vc', rfl, _, ho, b6⟩
        have hXl := XB.out.lt
        have xb := XB.out.on b6 XB.out.lt
        have c0 := xb.cell (j := 0) rfl
        have c1 := xb.cell (j := 1) rfl
        have c2 := xb.cell (j := 2) rfl
        have f0 := xb.thaw 0
        have f1 := xb.thaw 1
        have f2 := xb.thaw 2
        have K7 := hid ((((KC.out.below b6).set (b := B) (j := 0) (v := .slice va' (takeL l h t).length vc') (by omega)).set (b := B) (j := 1) (v := .int .i64 h) (by omega)).set (b := B) (j := 2) (v := .int .i64 t') (by omega))
        have G7 := hid (grown_far (grown_far (grown_far (grown_below GC.out b6) (b := B) (j := 0) (v := .slice va' (takeL l h t).length vc') (by omega)) (b := B) (j := 1) (v := .int .i64 h) (by omega)) (b := B) (j := 2) (v := .int .i64 t') (by omega))
        have xr := XR.out.on b6 XR.out.lt
        have R7 := hid (((xr.far (show B ≠ w.heap.size by omega) (j := 0) (.slice va' (takeL l h t).length vc')).far (show B ≠ w.heap.size by omega) (j := 1) (.int .i64 h)).far (show B ≠ w.heap.size by omega) (j := 2) (.int .i64 t'))
        have B7 := hid (((xb.set 0 (.slice va' (takeL l h t).length vc')).set 1 (.int .i64 h)).set 2 (.int .i64 t'))
        have O7 := hid (((ho.far (b := B) (j := 0) (by omega) (.slice va' (takeL l h t).length vc')).far (b := B) (j := 1) (by omega) (.int .i64 h)).far (b := B) (j := 2) (by omega) (.int .i64 t') |>.down (show w.heap.size + 1 ≤ w5.heap.size by omega) (Nat.le_refl _))
        have HR' := hid hr'
        clear ho b6 xb xr CT ht' hr' KC GC XR XB HO b0 b1 b2
        go_wp2
        go_roundw
        case measure => simp [intOf]; omega
        case rel => exact ⟨k + 1, h, t', q', takeL l h t, va', vc', by omega, by go_num, HR', K7, G7, R7, B7, O7⟩
      | false =>
        go_wp2
        refine wp_region_from (N := 38) (by kernel_rfl) (by kernel_rfl) rfl (by kernel_rfl) (fun W => CurAt W C ∧ w.grownBy W (some C) ∧ BlockIs W w.heap.size 26 [.slice none 0 0, .int .i64 0, .int .i64 0] ∧ OwnAt W 42 (slotCells l) l.length va (w.heap.size + 1) W.heap.size) (fun j v _ W => match j with | 0 => v = .agg #[.slice va l.length vc, .int .i64 h, .int .i64 t] | 1 => v = .pointer (some ⟨C, 0, none⟩) | 2 => v = .pointer (some ⟨C, 0, none⟩) | 3 => ∃ y : Nat, v = .int .i64 y ∧ y < 3 | 4 => ∃ y : Nat, v = .int .i64 ((y + 1 : Nat) : Int) ∧ y < 3 | 5 => ∃ s : ByteArray, v = .string s ∧ (1 ≤ s.size ∧ s.size ≤ 100) | 6 => ∃ (s : ByteArray) (va' : Option Addr) (vc' : Nat), v = .tuple #[.agg #[.slice va' (postL l h t s).length vc', .int .i64 (postH l h t s), .int .i64 t], .bool (postOk l h t s)] ∧ (1 ≤ s.size ∧ s.size ≤ 100) ∧ OwnAt W 42 (slotCells (postL l h t s)) (postL l h t s).length va' (B + 1) W.heap.size | 7 => ∃ (s : ByteArray) (va' : Option Addr) (vc' : Nat), v = .tuple #[.agg #[.slice va' (postL l h t s).length vc', .int .i64 (postH l h t s), .int .i64 t], .bool (postOk l h t s)] ∧ (1 ≤ s.size ∧ s.size ≤ 100) ∧ OwnAt W 42 (slotCells (postL l h t s)) (postL l h t s).length va' (B + 1) W.heap.size | 8 => ∃ (s : ByteArray) (va' : Option Addr) (vc' : Nat), v = .agg #[.slice va' (postL l h t s).length vc', .int .i64 (postH l h t s), .int .i64 t] ∧ (1 ≤ s.size ∧ s.size ≤ 100) ∧ OwnAt W 42 (slotCells (postL l h t s)) (postL l h t s).length va' (B + 1) W.heap.size | 9 => True | 10 => ∃ (s : ByteArray) (va' : Option Addr) (vc' : Nat), BlockIs W B 26 [.slice va' (postL l h t s).length vc', .int .i64 (postH l h t s), .int .i64 t] ∧ (1 ≤ s.size ∧ s.size ≤ 100) ∧ OwnAt W 42 (slotCells (postL l h t s)) (postL l h t s).length va' (B + 1) W.heap.size | _ => True) (fun i => i) (fun _ _ => false) (fun i x y => x.heap.size ≤ y.heap.size ∧ ∀ g ty cs, BlockIs x g ty cs → C < g → (i = 10 → g ≠ B) → BlockIs y g ty cs) (fun m W => match m with | 0 => BlockIs W B 26 [.slice va l.length vc, .int .i64 h, .int .i64 t] | _ => True) (fun m k => decide ((m, k) ∈ ([(0, 10)] : List (Nat × Nat)))) ?_ (fun _ => 0) (by kernel_rfl) (fun _ _ => rfl) ?_ ⟨KC.out.below (below_drewN (Below.refl _ _) 1), grown_below GC.out (below_drewN (Below.refl _ _) 1), XR.out.on (below_drewN (Below.refl _ _) 1) XR.out.lt, (HO.out.on (below_drewN (Below.refl _ _) 1)).down (Nat.le_refl _) (below_drewN (Below.refl w5.heap.size w5) 1).size⟩ (fun m => match m with | 0 => XB.out.on (below_drewN (Below.refl _ _) 1) XB.out.lt | _ + 1 => trivial) ?_ ?_
        · intro i m x y hen hxy hm
          match m, hen, hm with
          | 0, hen, hm =>
            simp at hen
            exact hxy.2 _ _ _ hm (by omega) (fun e => absurd e hen)
          | n + 1, _, _ => exact trivial
        · intro i j v u x y hij hdd hwt hxy hg
          match j, hg with
          | 0, hg => exact hg
          | 1, hg => exact hg
          | 2, hg => exact hg
          | 3, hg => exact hg
          | 4, hg => exact hg
          | 5, hg => exact hg
          | 6, hg =>
            obtain ⟨s, va', vc', e1, hs, ho⟩ := hg
            refine ⟨s, va', vc', e1, hs, ?_⟩
            rcases ho with h0 | ⟨g, r, a, b, c, d⟩
            · exact Or.inl h0
            · exact Or.inr ⟨g, r, a, b, Nat.lt_of_lt_of_le c hxy.1, hxy.2 _ _ _ d (by omega) (fun _ => by omega)⟩
          | 7, hg =>
            obtain ⟨s, va', vc', e1, hs, ho⟩ := hg
            refine ⟨s, va', vc', e1, hs, ?_⟩
            rcases ho with h0 | ⟨g, r, a, b, c, d⟩
            · exact Or.inl h0
            · exact Or.inr ⟨g, r, a, b, Nat.lt_of_lt_of_le c hxy.1, hxy.2 _ _ _ d (by omega) (fun _ => by omega)⟩
          | 8, hg =>
            obtain ⟨s, va', vc', e1, hs, ho⟩ := hg
            refine ⟨s, va', vc', e1, hs, ?_⟩
            rcases ho with h0 | ⟨g, r, a, b, c, d⟩
            · exact Or.inl h0
            · exact Or.inr ⟨g, r, a, b, Nat.lt_of_lt_of_le c hxy.1, hxy.2 _ _ _ d (by omega) (fun _ => by omega)⟩
          | 9, hg => exact hg
          | 10, hg =>
            obtain ⟨s, va', vc', e1, hs, ho⟩ := hg
            refine ⟨s, va', vc', hxy.2 _ _ _ e1 (by omega) (fun e => absurd e hij), hs, ?_⟩
            rcases ho with h0 | ⟨g, r, a, b, c, d⟩
            · exact Or.inl h0
            · exact Or.inr ⟨g, r, a, b, Nat.lt_of_lt_of_le c hxy.1, hxy.2 _ _ _ d (by omega) (fun _ => by omega)⟩
          | n + 11, _ => exact trivial
        · refine ⟨?_, ?_, ?_, ?_, ?_, ?_, ?_, ?_, ?_, ?_, ?_, trivial⟩
          · intro A W hC hI hg hb
            have h3 : A.eval (.tmp 3) = .pointer (some ⟨B, 0, none⟩) := hb 3 (base_of (by kernel_rfl))
            have hb1 : BlockIs W B 26 [.slice va l.length vc, .int .i64 h, .int .i64 t] := hI 0 (by kernel_rfl)
            have hc0 := hb1.cell (j := 0) rfl
            have hc1 := hb1.cell (j := 1) rfl
            have hc2 := hb1.cell (j := 2) rfl
            exact does_value (v := .agg #[.slice va l.length vc, .int .i64 h, .int .i64 t]) (w' := W) (by simp only [execOp, h3]; simp [go_sem, hc0, hc1, hc2]) ⟨rfl, hC, Nat.le_refl _, fun _ _ _ h _ _ => h⟩
          · intro A W hC hI hg hb
            have h0 : A.eval (.tmp 0) = .pointer (some ⟨C, 0, none⟩) := hb 0 (base_of (by kernel_rfl))
            exact does_value (v := .pointer (some ⟨C, 0, none⟩)) (w' := W) (by simp only [execOp, h0]; simp [go_sem]) ⟨rfl, hC, Nat.le_refl _, fun _ _ _ h _ _ => h⟩
          · intro A W hC hI hg hb
            have h0 : A.eval (.tmp 0) = .pointer (some ⟨C, 0, none⟩) := hb 0 (base_of (by kernel_rfl))
            exact does_value (v := .pointer (some ⟨C, 0, none⟩)) (w' := W) (by simp only [execOp, h0]; simp [go_sem]) ⟨rfl, hC, Nat.le_refl _, fun _ _ _ h _ _ => h⟩
          · intro A W hC hI hg hb
            have h30 : A.eval (.tmp 30) = .pointer (some ⟨C, 0, none⟩) := hg 2 30 (by decide) rfl (by simp [Op.operands, Call.operands]) (by kernel_rfl) rfl
            simp [go_sem] at h30
            obtain ⟨k1, k2, k3, k4⟩ := hC
            refine does_enter (f := 26) (args := #[.pointer (some ⟨C, 0, none⟩), .int .i64 3]) (w' := W) (by simp [go_sem, h30]) ?_
            refine (l01Below_any C 3 (by omega) (by omega) W k1).mono ?_
            rintro e W' ⟨x, rfl, x0, x1, k', q'⟩
            obtain ⟨y, rfl⟩ := Int.eq_ofNat_of_zero_le x0
            exact ⟨_, rfl, ⟨y, rfl, by omega⟩, ⟨k', k2.trans q', k3.cur q' (by omega), OwnAt.cur k4 q' (by omega)⟩, q'.size, fun g ty cs hq hg _ => hq.cur q' (by omega)⟩
          · intro A W hC hI hg hb
            have g3 := hg 3 31 (by decide) rfl (by simp [Op.operands]) (by kernel_rfl) rfl
            obtain ⟨y, h31, hy⟩ := g3
            have hw2 : IntKind.i64.wrap (1 + (y : Int)) = (y : Int) + 1 := by rw [IntKind.wrap_i64]; omega
            refine does_value (v := .int .i64 ((y + 1 : Nat) : Int)) (w' := W) (by simp only [execOp, h31]; simp [go_sem, hw2]) ⟨⟨y, rfl, hy⟩, hC, Nat.le_refl _, fun _ _ _ h _ _ => h⟩
          · intro A W hC hI hg hb
            have h29 : A.eval (.tmp 29) = .pointer (some ⟨C, 0, none⟩) := hg 1 29 (by decide) rfl (by simp [Op.operands, Call.operands]) (by kernel_rfl) rfl
            have g4 := hg 4 32 (by decide) rfl (by simp [Op.operands, Call.operands]) (by kernel_rfl) rfl
            obtain ⟨y, h32, hy⟩ := g4
            simp [go_sem] at h29 h32
            obtain ⟨k1, k2, k3, k4⟩ := hC
            refine does_enter (f := 34) (args := #[.pointer (some ⟨C, 0, none⟩), .int .i64 ((y + 1 : Nat) : Int)]) (w' := W) (by simp [go_sem, h29, h32]) ?_
            refine (l01Text_any C (y + 1) (by omega) W k1).mono ?_
            rintro e W' ⟨s, rfl, hs, k', q'⟩
            exact ⟨_, rfl, ⟨s, rfl, by omega⟩, ⟨k', k2.trans q', k3.cur q' (by omega), OwnAt.cur k4 q' (by omega)⟩, q'.size, fun g ty cs hq hg _ => hq.cur q' (by omega)⟩
          · intro A W hC hI hg hb
            have h28 : A.eval (.tmp 28) = .agg #[.slice va l.length vc, .int .i64 h, .int .i64 t] := hg 0 28 (by decide) rfl (by simp [Op.operands, Call.operands]) (by kernel_rfl) rfl
            have g5 := hg 5 33 (by decide) rfl (by simp [Op.operands, Call.operands]) (by kernel_rfl) rfl
            have hb1 : BlockIs W B 26 [.slice va l.length vc, .int .i64 h, .int .i64 t] := hI 0 (by kernel_rfl)
            obtain ⟨s, h33, hs⟩ := g5
            simp [go_sem] at h28 h33
            obtain ⟨k1, k2, k3, k4⟩ := hC
            refine does_enter (f := 13) (args := #[.agg #[.slice va l.length vc, .int .i64 h, .int .i64 t], .string s]) (w' := W) (by simp [go_sem, h28, h33]) ?_
            refine (specPost_any h t (by omega) (by omega) va l vc (by omega) HR.out.small s (by omega) W k4.slots).mono ?_
            rintro e W' ⟨va', vc', rfl, _, ho, hb'⟩
            exact ⟨_, rfl, ⟨s, va', vc', rfl, hs, ho.down (by have := hb1.lt; omega) (Nat.le_refl _)⟩, ⟨k1.below hb', grown_below k2 hb', k3.on hb' k3.lt, (k4.on hb').down (Nat.le_refl _) hb'.size⟩, hb'.size, fun g ty cs hq _ _ => hq.on hb' hq.lt⟩
          · intro A W hC hI hg hb
            have g6 := hg 6 34 (by decide) rfl (by simp [Op.operands]) (by kernel_rfl) rfl
            obtain ⟨s, va', vc', h34, hs, ho⟩ := g6
            simp [go_sem] at h34
            refine does_value (v := .tuple #[.agg #[.slice va' (postL l h t s).length vc', .int .i64 (postH l h t s), .int .i64 t], .bool (postOk l h t s)]) (w' := W) (by simp [execOp, go_sem, h34]) ⟨⟨s, va', vc', rfl, hs, ho⟩, hC, Nat.le_refl _, fun _ _ _ h _ _ => h⟩
          · intro A W hC hI hg hb
            have g7 := hg 7 27 (by decide) rfl (by simp [Op.operands]) (by kernel_rfl) rfl
            obtain ⟨s, va', vc', h27, hs, ho⟩ := g7
            simp [go_sem] at h27
            refine does_value (v := .agg #[.slice va' (postL l h t s).length vc', .int .i64 (postH l h t s), .int .i64 t]) (w' := W) (by simp [execOp, go_sem, h27]) ⟨⟨s, va', vc', rfl, hs, ho⟩, hC, Nat.le_refl _, fun _ _ _ h _ _ => h⟩
          · intro A W hC hI hg hb
            have g7 := hg 7 27 (by decide) rfl (by simp [Op.operands]) (by kernel_rfl) rfl
            obtain ⟨s, va', vc', h27, hs, ho⟩ := g7
            simp [go_sem] at h27
            refine does_value (v := .bool (postOk l h t s)) (w' := W) (by simp [execOp, go_sem, h27]) ⟨trivial, hC, Nat.le_refl _, fun _ _ _ h _ _ => h⟩
          · intro A W hC hI hg hb
            have h3 : A.eval (.tmp 3) = .pointer (some ⟨B, 0, none⟩) := hb 3 (base_of (by kernel_rfl))
            have g8 := hg 8 35 (by decide) rfl (by simp [Op.operands]) (by kernel_rfl) rfl
            obtain ⟨s, va', vc', h35, hs, ho⟩ := g8
            have hb1 : BlockIs W B 26 [.slice va l.length vc, .int .i64 h, .int .i64 t] := hI 0 (by kernel_rfl)
            obtain ⟨k1, k2, k3, k4⟩ := hC
            have c0 := hb1.cell (j := 0) rfl
            have c1 := hb1.cell (j := 1) rfl
            have c2 := hb1.cell (j := 2) rfl
            have f0 := hb1.thaw 0
            have f1 := hb1.thaw 1
            have f2 := hb1.thaw 2
            have hX3 := ((hb1.set 0 (.slice va' (postL l h t s).length vc')).set 1 (.int .i64 (postH l h t s))).set 2 (.int .i64 t)
            have far : ∀ p ty cs, BlockIs W p ty cs → B ≠ p → BlockIs (((W.setCell ⟨B, 0, none⟩ (.slice va' (postL l h t s).length vc')).setCell ⟨B, 1, none⟩ (.int .i64 (postH l h t s))).setCell ⟨B, 2, none⟩ (.int .i64 t)) p ty cs := fun p ty cs hp hne => ((hp.far hne _).far hne _).far hne _
            have hty : ∀ p cs, BlockIs W p 42 cs → B ≠ p := fun p cs hp e => by subst e; have := (block_one hp hb1).1; revert this; decide
            refine does_skip (w' := ((W.setCell ⟨B, 0, none⟩ (.slice va' (postL l h t s).length vc')).setCell ⟨B, 1, none⟩ (.int .i64 (postH l h t s))).setCell ⟨B, 2, none⟩ (.int .i64 t)) (by simp only [execOp, h3, h35]; simp [go_sem, c0, c1, c2, f0, f1, f2]) ⟨⟨s, va', vc', hX3, hs, ?_⟩, ⟨((k1.set (by omega)).set (by omega)).set (by omega), grown_far (grown_far (grown_far k2 (by omega)) (by omega)) (by omega), far _ _ _ k3 (by omega), ?_⟩, by simp [World.size_setCell], fun g ty cs hq _ hne => far g ty cs hq (Ne.symm (hne rfl))⟩
            · exact ho.ext (by simp [World.size_setCell]) (fun g r h => far g _ _ h (hty g _ h))
            · exact k4.ext (by simp [World.size_setCell]) (fun g r h => far g _ _ h (hty g _ h))
        · intro vs wE hC hI hg
          obtain ⟨s, va', vc', hb, hs, ho⟩ := hg 10 (by decide) (fun k => by simp)
          clear hg hI
          obtain ⟨hk1, hgr, hr, _⟩ := hC
          change Exit.inBlock _ _ _ (laidBy _ vs _ 11 _) wE
          simp only [laidBy, if_true, dstAt, List.getElem?_toArray, List.getElem?_cons_succ, List.getElem?_cons_zero, Option.bind_some]
          simp only [Act.put, List.setIfInBounds_toArray, List.set_cons_succ, List.set_cons_zero]
          obtain ⟨h', q', hh', hr'⟩ := HR.out.posted hs.1 hs.2
          rw [hh'] at hb
          have K7 := hid hk1
          have G7 := hid hgr
          have R7 := hid hr
          have B7 := hid hb
          have O7 := hid (ho.down (show w.heap.size + 1 ≤ B + 1 by omega) (Nat.le_refl _))
          have HR' := hid hr'
          clear hk1 hgr hr hb ho hh' hr' KC GC XR XB HO b0 b1 b2
          go_wp2
          go_roundw
          case measure => simp [intOf]; omega
          case rel => exact ⟨k + 1, h', t, q', postL l h t s, va', vc', by omega, by go_num, HR', K7, G7, R7, B7, O7⟩
    · have b0 := B2.out.cell (j := 0) rfl
      have b1 := B2.out.cell (j := 1) rfl
      have b2 := B2.out.cell (j := 2) rfl
      have c0 := R2.out.cell (j := 0) rfl
      have c1 := R2.out.cell (j := 1) rfl
      have c2 := R2.out.cell (j := 2) rfl
      have f0 := R2.out.thaw 0
      have f1 := R2.out.thaw 1
      have f2 := R2.out.thaw 2
      have K7 := hid (((K2.out.set (b := w.heap.size) (j := 0) (v := .slice va l.length vc) (by omega)).set (b := w.heap.size) (j := 1) (v := .int .i64 h) (by omega)).set (b := w.heap.size) (j := 2) (v := .int .i64 t) (by omega))
      have G7 := hid (grown_far (grown_far (grown_far G2.out (b := w.heap.size) (j := 0) (v := .slice va l.length vc) (by omega)) (b := w.heap.size) (j := 1) (v := .int .i64 h) (by omega)) (b := w.heap.size) (j := 2) (v := .int .i64 t) (by omega))
      have O7 := hid (((H2.out.far (b := w.heap.size) (j := 0) (by omega) (.slice va l.length vc)).far (b := w.heap.size) (j := 1) (by omega) (.int .i64 h)).far (b := w.heap.size) (j := 2) (by omega) (.int .i64 t))
      go_wp2
      refine bodyPost_ret (v := .agg #[.slice va l.length vc, .int .i64 h, .int .i64 t]) (by simp [results, Try.results18, go_sem, c0, c1, c2]) rfl ⟨h, t, q, l, va, vc, rfl, HR.out, O7.out, K7.out, G7.out⟩
end Go.Proofs.Ytbajffpkfjkolaa
